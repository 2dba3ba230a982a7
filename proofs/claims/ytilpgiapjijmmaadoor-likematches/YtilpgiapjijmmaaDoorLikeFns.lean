/- What package like's check, pieces, write, growWild, growChar, fits return: each by a walk of its own text. -/
import Derived.Test.YtilpgiapjijmmaaDoorQuoteN
import Derived.Test.YtilpgiapjijmmaaDoorPRow
import Derived.Test.YtilpgiapjijmmaaDoorBRow
import Derived.Deep.QuietTactic
import Derived.BigQuiet
namespace Go.Proofs.YtilpgiapjijmmaaDoor
open Go.RowKit
set_option linter.unusedVariables false

theorem likeCheck_any (s : ByteArray) (w : World) (hs : s.size ≤ maxLen) :
    Calls Tryd.prog 15 #[.string s] w fun e w' => e = .returned (eV (tfault s.data.toList)) ∧ Below w.heap.size w w' := by
  go_enter Tryd.func15, Tryd.ntmps15
  go_wp2_with fail
  refine (quoteN_any s _ hs).mono ?_
  rintro e w1 ⟨q, hq, rfl, hb⟩
  generalize hv : eV (tfault s.data.toList) = v
  have HV : Hid (_ = _) := hv
  clear hv
  go_wp2_with fail
  go_ret
  exact ⟨by rw [HV.out]; rfl, hb⟩

theorem drop_get (s : ByteArray) (k : Nat) (h : k < s.size) : s.data.toList.drop k = s[k] :: s.data.toList.drop (k + 1) := by
  rw [List.drop_eq_getElem_cons (by simpa using h)]; rfl
theorem drop_out (s : ByteArray) (k : Nat) (h : s.size ≤ k) : s.data.toList.drop k = [] := List.drop_of_length_le (by simpa using h)
theorem byte_num {c : UInt8} {n : Nat} : ((c.toNat : Int) == (n : Int)) = (c.toNat == n) := by rw [Bool.eq_iff_iff]; simp; omega

/-- One step of reading a pattern. -/
theorem read_guard (s : ByteArray) (k : Nat) (h : k + 1 < s.size) (h1 : s[k].toNat = 92) (h2 : s[k + 1].toNat = 42) : pcs (s.data.toList.drop k) = (false, 42) :: pcs (s.data.toList.drop (k + 2)) := by
  rw [drop_get s k (by omega), drop_get s (k + 1) h, show s[k] = 92 from byte_same h1, show s[k + 1] = 42 from byte_same h2, pcs_guard]
theorem read_star (s : ByteArray) (k : Nat) (h : k < s.size) (h1 : s[k].toNat = 42) : pcs (s.data.toList.drop k) = (true, 0) :: pcs (s.data.toList.drop (k + 1)) := by
  rw [drop_get s k h, show s[k] = 42 from byte_same h1, pcs_star]
theorem read_plain (s : ByteArray) (k : Nat) (h : k < s.size) (h1 : s[k].toNat ≠ 42) (h2 : s[k].toNat = 92 → (hk : k + 1 < s.size) → s[k + 1].toNat ≠ 42) : pcs (s.data.toList.drop k) = (false, s[k]) :: pcs (s.data.toList.drop (k + 1)) := by
  rw [drop_get s k h, pcs_plain _ _ h1]
  intro h92 hh
  by_cases hk : k + 1 < s.size
  · rw [drop_get s (k + 1) hk] at hh
    have : s[k + 1] = 42 := by simpa using hh
    exact h2 h92 hk (by rw [this]; rfl)
  · rw [drop_out s (k + 1) (by omega)] at hh
    cases hh
theorem acc_pcs {l : List UInt8} {acc r : List Pc} (h : acc ++ r = pcs l) : acc.length + r.length ≤ l.length := by
  have := pcs_len l
  rw [← h, List.length_append] at this
  exact this

set_option maxHeartbeats 2000000 in
theorem pieces_any (s : ByteArray) (w : World) (hs : s.size ≤ 60) :
    Calls Tryd.prog 17 #[.string s] w fun e w' => ∃ v, e = .returned v ∧ OP w' w.heap.size v (pcs s.data.toList) ∧ Below w.heap.size w w' := by
  go_enter Tryd.func17, Tryd.ntmps17
  go_wp2
  go_loopw [3, 4] (fun v i wr => ∃ (k : Nat) (acc : List Pc), k ≤ s.size ∧ i = .int .i64 k ∧ OP wr w.heap.size v acc ∧ Hid (acc ++ pcs (s.data.toList.drop k) = pcs s.data.toList) ∧ Below w.heap.size w wr) (fun _ i _ => s.size - (intOf i).toNat)
  case atStart => exact ⟨0, [], Nat.zero_le _, rfl, OP.nil _ _, rfl, Below.refl _ _⟩
  case round =>
    obtain ⟨k, acc, hk, rfl, hown, HA, hnx⟩ := hrel
    have hsz := hnx.size
    have hac : acc.length ≤ 60 := by
      have h1 := acc_pcs HA.out
      have h2 : s.data.toList.length = s.size := by simp
      omega
    by_cases hlt : k < s.size
    · have i1 : (k : Int) < (s.size : Int) := by omega
      by_cases c92 : s[k].toNat = 92
      · have b92 : ((s[k].toNat : Int) == 92) = true := by simpa using (by omega : (s[k].toNat : Int) = 92)
        have b42 : ((s[k].toNat : Int) == 42) = false := by simpa using (by omega : ¬ (s[k].toNat : Int) = 42)
        by_cases hl2 : k + 1 < s.size
        · have i2 : (k : Int) + 1 < (s.size : Int) := by omega
          by_cases d42 : s[k + 1].toNat = 42
          · have bd : ((s[k + 1].toNat : Int) == 42) = true := by simpa using (by omega : (s[k + 1].toNat : Int) = 42)
            have HA2 : Hid ((acc ++ [(false, 42)]) ++ pcs (s.data.toList.drop (k + 2)) = pcs s.data.toList) := by
              have h := HA.out; rw [read_guard s k hl2 c92 d42] at h; rw [← h]; show _ = _; simp
            clear HA c92 d42
            go_wp2_with (at_builtin; refine append_piece _ rfl (.tmp 31) (.tmp 33) rfl w.heap.size _ _ rfl hown _ _ 42 rfl rfl (by omega) hsz ?_; intro v1 w1 hown1 hb1)
            go_roundw
            case rel => exact ⟨k + 2, _, by omega, by go_num, hown1, HA2, hnx.trans hb1⟩
            case measure => simp [intOf]; omega
          · have bd : ((s[k + 1].toNat : Int) == 42) = false := by simpa using (by omega : ¬ (s[k + 1].toNat : Int) = 42)
            have HA2 : Hid ((acc ++ [(false, s[k])]) ++ pcs (s.data.toList.drop (k + 1)) = pcs s.data.toList) := by
              have h := HA.out; rw [read_plain s k hlt (by omega) (fun _ _ => d42)] at h; rw [← h]; show _ = _; simp
            clear HA c92 d42
            go_wp2_with (at_builtin; refine append_piece _ rfl (.tmp 43) (.tmp 48) rfl w.heap.size _ _ rfl hown _ _ s[k] rfl rfl (by omega) hsz ?_; intro v1 w1 hown1 hb1)
            go_roundw
            case rel => exact ⟨k + 1, _, by omega, by go_num, hown1, HA2, hnx.trans hb1⟩
            case measure => simp [intOf]; omega
        · have i2 : ¬ (k : Int) + 1 < (s.size : Int) := by omega
          have HA2 : Hid ((acc ++ [(false, s[k])]) ++ pcs (s.data.toList.drop (k + 1)) = pcs s.data.toList) := by
            have h := HA.out; rw [read_plain s k hlt (by omega) (fun _ hk => absurd hk hl2)] at h; rw [← h]; show _ = _; simp
          clear HA c92
          go_wp2_with (at_builtin; refine append_piece _ rfl (.tmp 43) (.tmp 48) rfl w.heap.size _ _ rfl hown _ _ s[k] rfl rfl (by omega) hsz ?_; intro v1 w1 hown1 hb1)
          go_roundw
          case rel => exact ⟨k + 1, _, by omega, by go_num, hown1, HA2, hnx.trans hb1⟩
          case measure => simp [intOf]; omega
      · have b92 : ((s[k].toNat : Int) == 92) = false := by simpa using (by omega : ¬ (s[k].toNat : Int) = 92)
        by_cases c42 : s[k].toNat = 42
        · have b42 : ((s[k].toNat : Int) == 42) = true := by simpa using (by omega : (s[k].toNat : Int) = 42)
          have HA2 : Hid ((acc ++ [(true, 0)]) ++ pcs (s.data.toList.drop (k + 1)) = pcs s.data.toList) := by
            have h := HA.out; rw [read_star s k hlt c42] at h; rw [← h]; show _ = _; simp
          clear HA c92 c42
          go_wp2_with (at_builtin; refine append_piece _ rfl (.tmp 39) (.tmp 41) rfl w.heap.size _ _ rfl hown _ _ 0 rfl rfl (by omega) hsz ?_; intro v1 w1 hown1 hb1)
          go_roundw
          case rel => exact ⟨k + 1, _, by omega, by go_num, hown1, HA2, hnx.trans hb1⟩
          case measure => simp [intOf]; omega
        · have b42 : ((s[k].toNat : Int) == 42) = false := by simpa using (by omega : ¬ (s[k].toNat : Int) = 42)
          have HA2 : Hid ((acc ++ [(false, s[k])]) ++ pcs (s.data.toList.drop (k + 1)) = pcs s.data.toList) := by
            have h := HA.out; rw [read_plain s k hlt c42 (fun h _ => absurd h c92)] at h; rw [← h]; show _ = _; simp
          clear HA c92 c42
          go_wp2_with (at_builtin; refine append_piece _ rfl (.tmp 43) (.tmp 48) rfl w.heap.size _ _ rfl hown _ _ s[k] rfl rfl (by omega) hsz ?_; intro v1 w1 hown1 hb1)
          go_roundw
          case rel => exact ⟨k + 1, _, by omega, by go_num, hown1, HA2, hnx.trans hb1⟩
          case measure => simp [intOf]; omega
    · have i1 : ¬ (k : Int) < (s.size : Int) := by omega
      have HE : Hid (acc = pcs s.data.toList) := by
        have h := HA.out; rw [drop_out s k (by omega), pcs, List.append_nil] at h; exact h
      clear HA
      go_wp2
      go_ret
      exact ⟨_, rfl, by rw [← HE.out]; exact hown, hnx⟩
theorem take_get {α : Type} (l : List α) (k : Nat) (h : k < l.length) : l.take (k + 1) = l.take k ++ [l[k]] := List.take_succ_eq_append_getElem h
theorem pwr_snoc (ps : List Pc) (x : Pc) : pwr (ps ++ [x]) = pwr ps ++ wone x := by rw [wr_append]; show _ ++ (wone x ++ []) = _; rw [List.append_nil]
theorem wone_wild {x : Pc} (h : x.1 = true) : wone x = [42] := by unfold wone; rw [if_pos h]
theorem wone_star {x : Pc} (h : x.1 = false) (k : x.2.toNat = 42) : wone x = [92, 42] := by unfold wone; rw [if_neg (by rw [h]; decide), if_pos (by simpa using k)]
theorem wone_byte {x : Pc} (h : x.1 = false) (k : x.2.toNat ≠ 42) : wone x = [x.2] := by unfold wone; rw [if_neg (by rw [h]; decide), if_neg (by simpa using k)]

set_option maxHeartbeats 2000000 in
theorem write_pieces (ps : List Pc) (p : Option Addr) (c : Nat) (w : World) (hp : PL w p ps) (h60 : ps.length ≤ 1000) :
    Calls Tryd.prog 21 #[.slice p ps.length c] w fun e w' => e = .returned (.string ⟨(pwr ps).toArray⟩) ∧ Below w.heap.size w w' := by
  have HP : Hid (PL w p ps) := hp
  clear hp
  go_enter Tryd.func21, Tryd.ntmps21
  go_wp2
  go_loopw [3, 8] (fun v i wr => ∃ k : Nat, k ≤ ps.length ∧ i = .int .i64 k ∧ OwnB wr w.heap.size v (pwr (ps.take k)) ∧ Hid (Below w.heap.size w wr)) (fun _ i _ => ps.length - (intOf i).toNat)
  case atStart => exact ⟨0, Nat.zero_le _, rfl, ownB_nil _ _, Below.refl _ _⟩
  case round =>
    obtain ⟨k, hk, rfl, hown, HB⟩ := hrel
    have hsz := HB.out.size
    have hl : (pwr (ps.take k)).length ≤ 2000 := by
      have h1 := (wr_len (ps.take k)).2
      rw [List.length_take] at h1
      omega
    by_cases hlt : k < ps.length
    · have i1 : (k : Int) < (ps.length : Int) := by omega
      obtain ⟨b, off, rfl, hbl, g0, g1⟩ := (HP.out.up HB.out).at hlt
      have HT : Hid (pwr (ps.take (k + 1)) = pwr (ps.take k) ++ wone ps[k]) := by show _ = _; rw [take_get ps k hlt, pwr_snoc]
      generalize ps[k] = x at g0 g1 HT
      generalize pwr (ps.take k) = acc at hown hl HT
      obtain ⟨x1, x2⟩ := x
      have hown2 : OwnB (wr.alloc (.cells #[.bool x1, .int .u8 (x2.toNat : Int)] 48)) w.heap.size _ acc := hown.alloc _
      have HZ : Hid ((wr.alloc (.cells #[.bool x1, .int .u8 (x2.toNat : Int)] 48)).heap.size = wr.heap.size + 1) := by show _ = _; simp
      have HB2 : Hid (Below w.heap.size w (wr.alloc (.cells #[.bool x1, .int .u8 (x2.toNat : Int)] 48))) := HB.out.alloc hsz _
      cases x1
      · by_cases c42 : x2.toNat = 42
        · have b42 : ((x2.toNat : Int) == 42) = true := by simpa using (by omega : (x2.toNat : Int) = 42)
          have HT2 : Hid (pwr (ps.take (k + 1)) = acc ++ [92, 42]) := by show _ = _; rw [HT.out, wone_star rfl c42]
          clear HT c42
          go_wp2_with (at_builtin; refine append_two _ rfl (.tmp 20) (.tmp 21) rfl w.heap.size _ _ rfl hown2 _ _ 92 42 rfl rfl (by rw [HZ.out]; rfl) (by omega) (by rw [HZ.out]; omega) ?_; intro v1 w1 hown1 hb1)
          go_roundw
          case rel => exact ⟨k + 1, by omega, by go_num, by rw [HT2.out]; exact hown1, HB2.out.trans hb1⟩
          case measure => simp [intOf]; omega
        · have b42 : ((x2.toNat : Int) == 42) = false := by simpa using (by omega : ¬ (x2.toNat : Int) = 42)
          have HT2 : Hid (pwr (ps.take (k + 1)) = acc ++ [x2]) := by show _ = _; rw [HT.out, wone_byte rfl c42]
          clear HT c42
          go_wp2_with (at_builtin; refine append_byte _ rfl (.tmp 23) (.tmp 26) rfl w.heap.size _ _ rfl hown2 _ x2 rfl (by rw [HZ.out]; rfl) (by omega) (by rw [HZ.out]; omega) ?_; intro v1 w1 hown1 hb1)
          go_roundw
          case rel => exact ⟨k + 1, by omega, by go_num, by rw [HT2.out]; exact hown1, HB2.out.trans hb1⟩
          case measure => simp [intOf]; omega
      · have HT2 : Hid (pwr (ps.take (k + 1)) = acc ++ [42]) := by show _ = _; rw [HT.out, wone_wild rfl]
        clear HT
        go_wp2_with (at_builtin; refine append_byte _ rfl (.tmp 14) (.tmp 15) rfl w.heap.size _ _ rfl hown2 _ 42 rfl (by rw [HZ.out]; rfl) (by omega) (by rw [HZ.out]; omega) ?_; intro v1 w1 hown1 hb1)
        go_roundw
        case rel => exact ⟨k + 1, by omega, by go_num, by rw [HT2.out]; exact hown1, HB2.out.trans hb1⟩
        case measure => simp [intOf]; omega
    · obtain rfl : k = ps.length := by omega
      have i1 : ¬ (ps.length : Int) < (ps.length : Int) := by omega
      rw [List.take_length] at hown hl
      have hconv := text_of wr _ _ _ hown
      go_wp2
      go_ret
      exact ⟨rfl, HB.out⟩
end Go.Proofs.YtilpgiapjijmmaaDoor
