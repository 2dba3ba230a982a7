/- What name.strip and name.Unquote return, for every text: each by a walk of its own text. -/
import Derived.Test.YthjeeppnijehoaaDoorQuote
namespace Go.Proofs.YthjeeppnijehoaaDoor
open Go.RowKit
set_option linter.unusedVariables false

/-- What strip returns. -/
def sv (l : List UInt8) : Value := .string ⟨(st (l.drop 1)).toArray⟩

theorem acc_len {s : ByteArray} {acc r : List UInt8} (h : acc ++ r = st (s.data.toList.drop 1)) : acc.length + r.length ≤ s.size := by
  have e := st_length _ (s.data.toList.drop 1) (Nat.le_refl _)
  rw [← h, List.length_append, List.length_drop] at e
  have : s.data.toList.length = s.size := by simp
  omega

set_option maxHeartbeats 1000000 in
theorem strip_any (s : ByteArray) (w : World) (hs : s.size ≤ 140737488355328) :
    Calls Tryd.prog 24 #[.string s] w fun e w' => e = .returned (sv s.data.toList) ∧ Below w.heap.size w w' := by
  go_enter Tryd.func24, Tryd.ntmps24
  go_wp2
  go_loopw [3, 4] (fun v i wr => ∃ (k : Nat) (acc : List UInt8), 1 ≤ k ∧ k ≤ s.size + 1 ∧ i = .int .i64 k ∧ OwnB wr w.heap.size v acc ∧ Hid (acc ++ st (s.data.toList.drop k) = st (s.data.toList.drop 1)) ∧ Below w.heap.size w wr) (fun _ i _ => s.size - (intOf i).toNat)
  case atStart => exact ⟨1, [], Nat.le_refl _, by omega, rfl, ownB_nil _ _, rfl, Below.refl _ _⟩
  case round =>
    obtain ⟨k, acc, hk1, hk, rfl, hown, HA, hnx⟩ := hrel
    have hsz := hnx.size
    by_cases hlt : k + 1 < s.size
    · have HS := st_step s k hlt
      have i1 : (k : Int) < (s.size : Int) - 1 := by omega
      have i2 : (k : Int) < (s.size : Int) := by omega
      have i3 : (k : Int) + 1 < (s.size : Int) := by omega
      cases hc : (s[k].toNat == 92)
      · rw [hc] at HS
        simp only [Bool.false_eq_true, if_false] at HS
        have HA2 : Hid ((acc ++ [s[k]]) ++ st (s.data.toList.drop (k + 1)) = st (s.data.toList.drop 1)) := by
          have h := HA.out; rw [HS] at h; rw [← h]; show _ = _; simp
        have hl := acc_len HA2.out
        rw [List.length_append] at hl
        have hn : ((s[k].toNat : Int) == 92) = false := by simpa using (by have := hc; simp at this; omega : ¬ (s[k].toNat : Int) = 92)
        clear HS HA hc
        go_wp2_with (at_builtin; refine append_byte _ rfl (.tmp 18) (.tmp 22) rfl w.heap.size _ _ rfl hown _ s[k] rfl rfl (by simp only [List.length_cons, List.length_nil] at hl; omega) hsz ?_; intro v1 w1 hown1 hb1)
        go_roundw
        case rel => exact ⟨k + 1, _, by omega, by omega, by go_num, hown1, HA2, hnx.trans hb1⟩
        case measure => simp [intOf]; omega
      · rw [hc] at HS
        simp only [if_true] at HS
        have HA2 : Hid ((acc ++ [s[k + 1]]) ++ st (s.data.toList.drop (k + 2)) = st (s.data.toList.drop 1)) := by
          have h := HA.out; rw [HS] at h; rw [← h]; show _ = _; simp
        have hl := acc_len HA2.out
        rw [List.length_append] at hl
        have hn : ((s[k].toNat : Int) == 92) = true := by simpa using (by have := hc; simp at this; omega : (s[k].toNat : Int) = 92)
        clear HS HA hc
        go_wp2_with (at_builtin; refine append_byte _ rfl (.tmp 18) (.tmp 22) rfl w.heap.size _ _ rfl hown _ s[k + 1] rfl rfl (by simp only [List.length_cons, List.length_nil] at hl; omega) hsz ?_; intro v1 w1 hown1 hb1)
        go_roundw
        case rel => exact ⟨k + 2, _, by omega, by omega, by go_num, hown1, HA2, hnx.trans hb1⟩
        case measure => simp [intOf]; omega
    · have i1 : ¬ (k : Int) < (s.size : Int) - 1 := by omega
      have HE : Hid (_ = _) := st_end s k (by omega)
      have hconv := text_of wr _ _ _ hown
      go_wp2
      go_ret
      refine ⟨?_, hnx⟩
      have h := HA.out
      rw [HE.out, List.append_nil] at h
      unfold sv; rw [← h]; rfl

theorem sv_quoted (t : List UInt8) : sv (quoted t) = .string ⟨t.toArray⟩ := by unfold sv; rw [st_quoted]
theorem quoted_size (t : List UInt8) (h : t.length ≤ 60) : (quoted t).length ≤ 122 := by
  have := body_length t
  unfold quoted
  rw [List.length_cons, List.length_append, List.length_cons, List.length_nil]; omega
theorem textOk_parts {t : List UInt8} (h : textOk t = true) : t.length ≤ 60 ∧ t.all okb = true := by
  unfold textOk at h
  rw [Bool.and_eq_true, decide_eq_true_eq] at h
  exact h
theorem neq_lists {l : List UInt8} {b : ByteArray} (h : l ≠ b.data.toList) : (l == b.toList) = false := by
  rw [ByteArray.toList_eq]; simpa using h

theorem quote_good (s : ByteArray) (w : World) (h : textOk s.data.toList = true) :
    Calls Tryd.prog 9 #[.string s] w fun e w' => e = .returned (.tuple #[.string ⟨(quoted s.data.toList).toArray⟩, .nilIface]) ∧ Below w.heap.size w w' := by
  obtain ⟨h1, h2⟩ := textOk_parts h
  have h1 : s.size ≤ 60 := by simpa using h1
  refine (quote_short s w h1).mono ?_
  rintro e w' ⟨rfl, hb⟩
  exact ⟨by rw [qres_ok h2], hb⟩
/-- The number of Quote's error. -/
def qerr (l : List UInt8) : Int := if l.length ≤ 60 then 1 else 4
theorem quote_err (s : ByteArray) (w : World) (hs : s.size ≤ maxLen) (h : textOk s.data.toList = false) :
    Calls Tryd.prog 9 #[.string s] w fun e w' => e = .returned (.tuple #[.string ⟨#[]⟩, .iface 26 (.int .i64 (qerr s.data.toList))]) ∧ Below w.heap.size w w' := by
  have hl : s.data.toList.length = s.size := by simp
  by_cases h1 : s.size ≤ 60
  · refine (quote_short s w h1).mono ?_
    rintro e w' ⟨rfl, hb⟩
    have h2 : s.data.toList.all okb = false := by
      unfold textOk at h
      rw [decide_eq_true (by rw [hl]; exact h1), Bool.true_and] at h
      exact h
    exact ⟨by rw [qres_bad h2, qerr, if_pos (by rw [hl]; exact h1)], hb⟩
  · refine (quote_full s w hs (by omega)).mono ?_
    rintro e w' ⟨rfl, rfl⟩
    exact ⟨by rw [qerr, if_neg (by rw [hl]; exact h1)]; rfl, Below.refl _ _⟩

set_option maxHeartbeats 1000000 in
theorem unquote_yes (t : List UInt8) (w : World) (ht : textOk t = true) :
    Calls Tryd.prog 13 #[.string ⟨(quoted t).toArray⟩] w fun e w' => e = .returned (.tuple #[.string ⟨t.toArray⟩, .nilIface]) ∧ Below w.heap.size w w' := by
  obtain ⟨h1, h2⟩ := textOk_parts ht
  have hq := quoted_size t h1
  clear ht
  go_enter Tryd.func13, Tryd.ntmps13
  go_wp2_with fail
  refine (strip_any ⟨(quoted t).toArray⟩ _ (by show (quoted t).length ≤ _; omega)).mono ?_
  rintro e w1 ⟨rfl, hb1⟩
  rw [show sv (⟨(quoted t).toArray⟩ : ByteArray).data.toList = .string ⟨t.toArray⟩ from sv_quoted t]
  go_wp2_with fail
  refine (quote_short ⟨t.toArray⟩ _ (by show t.length ≤ 60; exact h1)).mono ?_
  rintro e w2 ⟨rfl, hb2⟩
  rw [show qres (⟨t.toArray⟩ : ByteArray).data.toList = .tuple #[.string ⟨(quoted t).toArray⟩, .nilIface] from qres_ok h2]
  go_wp2_with fail
  go_ret2
  exact ⟨rfl, hb1.trans (hb2.mono hb1.size)⟩

set_option maxHeartbeats 1000000 in
theorem unquote_no (s : ByteArray) (w : World) (hs : s.size ≤ 140737488355328) (h : ∀ t, textOk t = true → quoted t ≠ s.data.toList) :
    Calls Tryd.prog 13 #[.string s] w fun e w' => e = .returned (.tuple #[.string ⟨#[]⟩, .iface 26 (.int .i64 1)]) ∧ Below w.heap.size w w' := by
  have hl := st_length _ (s.data.toList.drop 1) (Nat.le_refl _)
  have hd : (s.data.toList.drop 1).length ≤ s.size := by simp
  generalize gt : st (s.data.toList.drop 1) = t at hl
  have hsv : sv s.data.toList = .string ⟨t.toArray⟩ := by unfold sv; rw [gt]
  have HV : Hid (_ = _) := hsv
  clear hsv gt
  by_cases h1 : t.length ≤ 60
  · cases h2 : t.all okb
    · clear h
      go_enter Tryd.func13, Tryd.ntmps13
      go_wp2_with fail
      refine (strip_any s _ hs).mono ?_
      rintro e w1 ⟨rfl, hb1⟩
      rw [HV.out]
      go_wp2_with fail
      refine (quote_short ⟨t.toArray⟩ _ (by show t.length ≤ 60; exact h1)).mono ?_
      rintro e w2 ⟨rfl, hb2⟩
      rw [show qres (⟨t.toArray⟩ : ByteArray).data.toList = .tuple #[.string ⟨#[]⟩, .iface 26 (.int .i64 1)] from qres_bad h2]
      go_wp2_with fail
      go_ret2
      exact ⟨rfl, hb1.trans (hb2.mono hb1.size)⟩
    · have hne := neq_lists (b := s) (h t (by unfold textOk; rw [h2]; simpa using h1))
      clear h
      go_enter Tryd.func13, Tryd.ntmps13
      go_wp2_with fail
      refine (strip_any s _ hs).mono ?_
      rintro e w1 ⟨rfl, hb1⟩
      rw [HV.out]
      go_wp2_with fail
      refine (quote_short ⟨t.toArray⟩ _ (by show t.length ≤ 60; exact h1)).mono ?_
      rintro e w2 ⟨rfl, hb2⟩
      rw [show qres (⟨t.toArray⟩ : ByteArray).data.toList = .tuple #[.string ⟨(quoted t).toArray⟩, .nilIface] from qres_ok h2]
      go_wp2_with fail
      go_ret2
      exact ⟨rfl, hb1.trans (hb2.mono hb1.size)⟩
  · clear h
    go_enter Tryd.func13, Tryd.ntmps13
    go_wp2_with fail
    refine (strip_any s _ hs).mono ?_
    rintro e w1 ⟨rfl, hb1⟩
    rw [HV.out]
    go_wp2_with fail
    refine (quote_full ⟨t.toArray⟩ _ (by show t.length ≤ _; unfold maxLen; omega) (by show 60 < t.length; omega)).mono ?_
    rintro e w2 ⟨rfl, rfl⟩
    go_wp2_with fail
    go_ret2
    exact ⟨rfl, hb1⟩

/-- A text is what the list of its bytes makes. -/
theorem ba_eta (s : ByteArray) : (⟨s.data.toList.toArray⟩ : ByteArray) = s := rfl
theorem ba_of {s : ByteArray} {l : List UInt8} (h : l = s.data.toList) : (⟨l.toArray⟩ : ByteArray) = s := by rw [h]
theorem btw {W w1 w2 : World} (h : Below W.heap.size W w1) (k : Below w1.heap.size w1 w2) : Below W.heap.size W w2 := h.trans (k.mono h.size)
/-- It is a quoted text, or none. -/
theorem is_quoted (l : List UInt8) : (∃ t, textOk t = true ∧ quoted t = l) ∨ ∀ t, textOk t = true → quoted t ≠ l := by
  by_cases h : ∃ t, textOk t = true ∧ quoted t = l
  · exact .inl h
  · exact .inr fun t h1 h2 => h ⟨t, h1, h2⟩
end Go.Proofs.YthjeeppnijehoaaDoor
