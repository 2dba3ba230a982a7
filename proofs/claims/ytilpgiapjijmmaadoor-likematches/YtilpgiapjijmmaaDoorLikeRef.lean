/- What the document's own star, starts, Escaped return: by walks of their own texts. -/
import Derived.Test.YtilpgiapjijmmaaDoorNRow
import Derived.Test.YtilpgiapjijmmaaDoorLikeText
namespace Go.Proofs.YtilpgiapjijmmaaDoor
open Go.RowKit
set_option linter.unusedVariables false

theorem stat_two (s : ByteArray) (k : Nat) (h : k + 1 < s.size) : stat (s.data.toList.drop k) = (s[k].toNat == 92 && s[k + 1].toNat == 42) := by
  rw [drop_get s k (by omega), drop_get s (k + 1) h]; rfl
theorem stat_one (s : ByteArray) (k : Nat) (h : k < s.size) (h1 : ¬ k + 1 < s.size) : stat (s.data.toList.drop k) = false := by
  rw [drop_get s k h, drop_out s (k + 1) (by omega)]; rfl
theorem stat_not (s : ByteArray) (k : Nat) (h : k < s.size) (h1 : s[k].toNat ≠ 92) : stat (s.data.toList.drop k) = false := by
  by_cases h2 : k + 1 < s.size
  · rw [stat_two s k h2]; simp [h1]
  · exact stat_one s k h h2
set_option maxHeartbeats 1000000 in
theorem star_any (s : ByteArray) (k : Nat) (w : World) (hs : s.size ≤ 1000) (hk : k < s.size) :
    Calls Tryd.prog 19 #[.string s, .int .i64 (k : Int)] w fun e w' => e = .returned (.bool (stat (s.data.toList.drop k))) ∧ w' = w := by
  have i1 : (k : Int) < (s.size : Int) := by omega
  by_cases c92 : s[k].toNat = 92
  · have b92 : ((s[k].toNat : Int) == 92) = true := by simpa using (by omega : (s[k].toNat : Int) = 92)
    by_cases hl2 : k + 1 < s.size
    · have i2 : (k : Int) + 1 < (s.size : Int) := by omega
      have HS : Hid (stat (s.data.toList.drop k) = ((s[k + 1].toNat : Int) == 42)) := by
        show _ = _
        rw [stat_two s k hl2, c92]
        rw [Bool.eq_iff_iff]; simp; omega
      clear c92
      go_enter Tryd.func19, Tryd.ntmps19
      go_wp2
      go_ret
      exact ⟨ret_bool HS.out.symm, rfl⟩
    · have i2 : ¬ (k : Int) + 1 < (s.size : Int) := by omega
      have HS : Hid (_ = _) := stat_one s k hk hl2
      clear c92
      go_enter Tryd.func19, Tryd.ntmps19
      go_wp2
      go_ret
      exact ⟨ret_bool HS.out.symm, rfl⟩
  · have b92 : ((s[k].toNat : Int) == 92) = false := by simpa using (by omega : ¬ (s[k].toNat : Int) = 92)
    have HS : Hid (_ = _) := stat_not s k hk c92
    clear c92
    go_enter Tryd.func19, Tryd.ntmps19
    go_wp2
    go_ret
    exact ⟨ret_bool HS.out.symm, rfl⟩

theorem sts_step (s : ByteArray) (k : Nat) (h : k < s.size) : sts (s.data.toList.drop k) k = k :: sts (s.data.toList.drop (k + psz (s.data.toList.drop k))) (k + psz (s.data.toList.drop k)) := by
  have hne : s.data.toList.drop k ≠ [] := by rw [drop_get s k h]; simp
  rw [sts_cons hne, List.drop_drop]
theorem psz_star {l : List UInt8} (h : stat l = true) : psz l = 2 := if_pos h
theorem psz_plain {l : List UInt8} (h : stat l = false) : psz l = 1 := by unfold psz; rw [h]; rfl
theorem acc_sts {l : List UInt8} {acc r : List Nat} (h : acc ++ r = sts l 0) : acc.length + r.length ≤ l.length := by
  have := pcs_len l
  rw [← sts_length l 0, ← h, List.length_append] at this
  exact this
theorem stat_room (s : ByteArray) (k : Nat) (h : k < s.size) (hs : stat (s.data.toList.drop k) = true) : k + 1 < s.size := by
  by_cases h2 : k + 1 < s.size
  · exact h2
  · rw [stat_one s k h h2] at hs; cases hs

set_option maxHeartbeats 1000000 in
theorem starts_any (s : ByteArray) (w : World) (hs : s.size ≤ 60) :
    Calls Tryd.prog 18 #[.string s] w fun e w' => ∃ v, e = .returned v ∧ OI w' w.heap.size v (sts s.data.toList 0) ∧ Below w.heap.size w w' := by
  go_enter Tryd.func18, Tryd.ntmps18
  go_wp2
  go_loopw [3, 4] (fun v i wr => ∃ (k : Nat) (acc : List Nat), k ≤ s.size ∧ i = .int .i64 k ∧ OI wr w.heap.size v acc ∧ Hid (acc ++ sts (s.data.toList.drop k) k = sts s.data.toList 0) ∧ Below w.heap.size w wr) (fun _ i _ => s.size - (intOf i).toNat)
  case atStart => exact ⟨0, [], Nat.zero_le _, rfl, OI.nil _ _, rfl, Below.refl _ _⟩
  case round =>
    obtain ⟨k, acc, hk, rfl, hown, HA, hnx⟩ := hrel
    have hsz := hnx.size
    have hac : acc.length ≤ 60 := by
      have h1 := acc_sts HA.out
      have h2 : s.data.toList.length = s.size := by simp
      omega
    by_cases hlt : k < s.size
    · have i1 : (k : Int) < (s.size : Int) := by omega
      have HS := sts_step s k hlt
      cases hst : stat (s.data.toList.drop k)
      · rw [psz_plain hst] at HS
        have HA2 : Hid ((acc ++ [k]) ++ sts (s.data.toList.drop (k + 1)) (k + 1) = sts s.data.toList 0) := by
          have h := HA.out; rw [HS] at h; rw [← h]; show _ = _; simp
        have HT : Hid (stat (s.data.toList.drop k) = false) := hst
        clear HA HS hst
        go_wp2_with (first
          | (at_builtin; refine append_int _ rfl (.tmp 11) (.tmp 13) rfl w.heap.size _ _ rfl hown _ k rfl rfl (by omega) hsz ?_; intro v1 w1 hown1 hb1)
          | (go_at_call 19; refine (star_any s k _ (by omega) hlt).mono ?_; rintro e w2 ⟨rfl, rfl⟩; rw [HT.out]))
        go_roundw
        case rel => exact ⟨k + 1, _, by omega, by go_num, hown1, HA2, hnx.trans hb1⟩
        case measure => simp [intOf]; omega
      · rw [psz_star hst] at HS
        have hrm := stat_room s k hlt hst
        have HA2 : Hid ((acc ++ [k]) ++ sts (s.data.toList.drop (k + 2)) (k + 2) = sts s.data.toList 0) := by
          have h := HA.out; rw [HS] at h; rw [← h]; show _ = _; simp
        have HT : Hid (stat (s.data.toList.drop k) = true) := hst
        clear HA HS hst
        go_wp2_with (first
          | (at_builtin; refine append_int _ rfl (.tmp 11) (.tmp 13) rfl w.heap.size _ _ rfl hown _ k rfl rfl (by omega) hsz ?_; intro v1 w1 hown1 hb1)
          | (go_at_call 19; refine (star_any s k _ (by omega) hlt).mono ?_; rintro e w2 ⟨rfl, rfl⟩; rw [HT.out]))
        go_roundw
        case rel => exact ⟨k + 2, _, by omega, by go_num, hown1, HA2, hnx.trans hb1⟩
        case measure => simp [intOf]; omega
    · have i1 : ¬ (k : Int) < (s.size : Int) := by omega
      have HE : Hid (acc = sts s.data.toList 0) := by
        have h := HA.out; rw [drop_out s k (by omega), sts, List.append_nil] at h; exact h
      clear HA
      go_wp2
      go_ret
      exact ⟨_, rfl, by rw [← HE.out]; exact hown, hnx⟩

theorem bit (s : ByteArray) (k : Nat) (h : k < s.size) : (s.extract k (k + 1)).data.toList = [s[k]] := by
  rw [Lib.extract_data]
  have : k + 1 - k = 1 := by omega
  rw [this, List.drop_eq_getElem_cons (by simpa using h)]
  rfl
theorem ret_text {a b : ByteArray} (h : a.data.toList = b.data.toList) : Ending.returned (.string a) = .returned (.string b) := by
  have : a = b := by
    cases a with | mk a =>
    cases b with | mk b =>
    simp only [ByteArray.mk.injEq]
    exact Array.toList_inj.1 h
  rw [this]
theorem size_of (a : ByteArray) : a.size = a.data.toList.length := by simp
theorem esc_snoc (l : List UInt8) (c : UInt8) : pwr (plit (l ++ [c])) = pwr (plit l) ++ wone (false, c) := by rw [plit_snoc, pwr_snoc]

set_option maxHeartbeats 1000000 in
theorem escaped_any (s : ByteArray) (w : World) (hs : s.size ≤ 60) :
    Calls Tryd.prog 11 #[.string s] w fun e w' => e = .returned (.string ⟨(pwr (plit s.data.toList)).toArray⟩) ∧ w' = w := by
  go_enter Tryd.func11, Tryd.ntmps11
  go_wp2
  go_loop [3, 4] (fun o i => ∃ (k : Nat) (q : ByteArray), k ≤ s.size ∧ i = .int .i64 k ∧ o = .string q ∧ Hid (q.data.toList = pwr (plit (s.data.toList.take k)))) (fun _ i => s.size - (intOf i).toNat)
  case atStart => exact ⟨0, ⟨#[]⟩, Nat.zero_le _, rfl, rfl, rfl⟩
  case round =>
    obtain ⟨k, q, hk, rfl, rfl, HQ⟩ := hrel
    have hq : q.size ≤ 2 * k := by
      have h1 := (wr_len (plit (s.data.toList.take k))).2
      have h2 : (s.data.toList.take k).length ≤ k := List.length_take_le _ _
      rw [plit_len] at h1
      rw [size_of, HQ.out]; omega
    by_cases hlt : k < s.size
    · have HT : Hid (_ = _) := take_snoc s k hlt
      have HP : Hid (_ = _) := bit s k hlt
      have i1 : (k : Int) < (s.size : Int) := by omega
      have i2 : (k : Int) + 1 ≤ (s.size : Int) := by omega
      have hx : (s.extract k (k + 1)).size = 1 := by simp; omega
      by_cases c42 : s[k].toNat = 42
      · have b42 : ((s[k].toNat : Int) == 42) = true := by simpa using (by omega : (s[k].toNat : Int) = 42)
        have HB : Hid (wone (false, s[k]) = [92, s[k]]) := by show _ = _; rw [wone_star rfl c42, show s[k] = 42 from byte_same c42]
        clear c42
        go_wp2
        go_round
        case rel => exact ⟨k + 1, _, by omega, by go_num, rfl, by show _ = _; rw [glue, glue, HQ.out, HP.out, HT.out, esc_snoc, HB.out]; simp⟩
        case measure => simp [intOf]; omega
      · have b42 : ((s[k].toNat : Int) == 42) = false := by simpa using (by omega : ¬ (s[k].toNat : Int) = 42)
        have HB : Hid (wone (false, s[k]) = [s[k]]) := wone_byte rfl c42
        clear c42
        go_wp2
        go_round
        case rel => exact ⟨k + 1, _, by omega, by go_num, rfl, by show _ = _; rw [glue, HQ.out, HP.out, HT.out, esc_snoc, HB.out]⟩
        case measure => simp [intOf]; omega
    · obtain rfl : k = s.size := by omega
      have i1 : ¬ (s.size : Int) < (s.size : Int) := by omega
      go_wp2
      go_ret
      refine ⟨ret_text ?_, rfl⟩
      rw [HQ.out, take_all s]
end Go.Proofs.YtilpgiapjijmmaaDoor
