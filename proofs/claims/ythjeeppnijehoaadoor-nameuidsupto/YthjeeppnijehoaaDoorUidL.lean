/- Uids written as texts, as lists of bytes: what is written, where it is cut, and that it is cut just there. No program is named here. -/
import Derived.Test.YthjeeppnijehoaaDoorNameL
import Derived.Test.YthjeeppnijehoaaDoorQuoteL
import Derived.Lib.Index
import Derived.Lib.IndexMore
namespace Go.Proofs.YthjeeppnijehoaaDoor

/-- A uid, written. -/
def wrt (t i : List UInt8) : List UInt8 := t ++ (58 :: 58 :: quoted i)
def uidOk (t i : List UInt8) : Bool := (nfault t == 0) && textOk i

theorem nfault_zero {t : List UInt8} (h : nfault t = 0) : nm t = true ∧ t.length ≤ 20 := by
  unfold nfault at h
  by_cases h1 : nm t = true
  · rw [if_pos h1] at h
    by_cases h2 : 20 < t.length
    · rw [if_pos h2] at h; exact absurd h (by decide)
    · exact ⟨h1, by omega⟩
  · rw [if_neg h1] at h; exact absurd h (by decide)
theorem letb_58 : letb 58 = false := by decide
theorem digb_58 : digb 58 = false := by decide
theorem pre_no {t : List UInt8} (h : pre t = true) : ∀ c ∈ t, c ≠ 58 := by
  cases t with
  | nil => intro c hc; cases hc
  | cons d r =>
    unfold pre at h
    rw [Bool.and_eq_true] at h
    intro c hc e
    subst e
    rcases List.mem_cons.1 hc with h1 | h1
    · rw [← h1, letb_58] at h; exact absurd h.1 (by decide)
    · have := List.all_eq_true.1 h.2 _ h1
      rw [letb_58, digb_58] at this; exact absurd this (by decide)
theorem name_no {t : List UInt8} (h : nfault t = 0) : ∀ c ∈ t, c ≠ 58 := by
  have h1 := (nfault_zero h).1
  unfold nm at h1
  rw [Bool.and_eq_true] at h1
  exact pre_no h1.1

theorem index_wrt (t r : List UInt8) (h : ∀ c ∈ t, c ≠ 58) : Lib.index (t ++ (58 :: 58 :: r)) [58, 58] = t.length := by
  refine Lib.index_first (by simp) ?_ ?_
  · unfold Lib.occAt; simp
  · intro j hj
    cases ho : Lib.occAt (t ++ (58 :: 58 :: r)) [58, 58] j with
    | false => rfl
    | true =>
      have h1 := Lib.occAt_head (c := 58) (t := [58]) rfl ho
      rw [List.getElem?_append_left hj, List.getElem?_eq_getElem hj] at h1
      exact absurd (Option.some.inj h1) (h _ (List.getElem_mem hj))
theorem cut_wrt (t r : List UInt8) (h : ∀ c ∈ t, c ≠ 58) : Lib.cut (t ++ (58 :: 58 :: r)) [58, 58] = (t, r, true) := by
  unfold Lib.cut
  rw [index_wrt t r h, if_pos (by omega)]
  simp
/-- Where it is found it stands. -/
theorem cut_found {s : List UInt8} (h : (Lib.cut s [58, 58]).2.2 = true) : s = (Lib.cut s [58, 58]).1 ++ (58 :: 58 :: (Lib.cut s [58, 58]).2.1) := by
  unfold Lib.cut at h ⊢
  by_cases h0 : 0 ≤ Lib.index s [58, 58]
  · rw [if_pos h0]
    obtain ⟨i, hi, ho⟩ : ∃ i : Nat, Lib.index s [58, 58] = i ∧ Lib.occAt s [58, 58] i = true := by
      rcases Lib.index_spec s [58, 58] with ⟨h1, _⟩ | ⟨i, h1, _, h2, _⟩
      · rw [h1] at h0; exact absurd h0 (by decide)
      · exact ⟨i, h1, h2⟩
    rcases Lib.occAt_room ho with hr | hr
    · have e := Lib.occAt_iff_take s [58, 58] i hr
      rw [ho] at e
      have e2 : (s.drop i).take 2 = [58, 58] := by simpa using e.symm
      rw [hi]
      show s = s.take i ++ (58 :: 58 :: s.drop (i + 2))
      have e3 : s.drop i = [58, 58] ++ s.drop (i + 2) := by
        rw [← e2, ← List.drop_drop, List.take_append_drop]
      rw [show (58 :: 58 :: s.drop (i + 2) : List UInt8) = s.drop i from e3.symm, List.take_append_drop]
    · cases hr
  · rw [if_neg h0] at h; cases h
end Go.Proofs.YthjeeppnijehoaaDoor
