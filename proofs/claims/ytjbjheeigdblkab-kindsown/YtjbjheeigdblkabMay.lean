/- Whether a node may stand in a value: package val's need, isText, mayBe, each by a walk of its own text. -/
import Derived.Test.YtjbjheeigdblkabNdOrd
import Derived.Test.YtjbjheeigdblkabName
import Derived.Test.YtjbjheeigdblkabQuote
import Derived.Laws.StructEq
namespace Go.Proofs.Ytjbjheeigdblkab
open Go.RowKit
set_option linter.unusedVariables false

/-- What is thrown where there is no value. -/
def thrown : List PanicEntry := [{ v := .iface 48 (.int .i64 1), recovered := false }]

theorem need_true (w : World) : Calls Try.prog 34 #[.bool true] w fun e w' => e = .returned (.tuple #[]) ∧ w' = w := by
  go_enter Try.func34, Try.ntmps34
  go_wp2
  go_end0
  exact ⟨rfl, rfl⟩
theorem need_false (w : World) : Calls Try.prog 34 #[.bool false] w fun e w' => e = .panicked thrown ∧ w' = w := by
  go_enter Try.func34, Try.ntmps34
  go_wp2
  exact ⟨rfl, rfl, rfl⟩

theorem isText_any (s : ByteArray) (w : World) (hs : s.size ≤ maxLen) :
    Calls Try.prog 49 #[.string s] w fun e w' => e = .returned (.bool (textOk s.data.toList)) ∧ Below w.heap.size w w' := by
  by_cases h : 60 < s.size
  · have HT : Hid (textOk s.data.toList = false) := by show _ = _; unfold textOk; simp; intro hh; omega
    go_enter Try.func49, Try.ntmps49
    go_wp2_with fail
    refine (quote_full s _ hs h).mono ?_
    rintro e w1 ⟨rfl, rfl⟩
    go_wp2
    go_ret
    exact ⟨ret_bool HT.out.symm, Below.refl _ _⟩
  · cases ho : s.data.toList.all okb
    · have HT : Hid (textOk s.data.toList = false) := by show _ = _; unfold textOk; rw [ho]; simp
      go_enter Try.func49, Try.ntmps49
      go_wp2_with fail
      refine (quote_short s _ (by omega)).mono ?_
      rintro e w1 ⟨rfl, hb⟩
      rw [qres_bad ho]
      go_wp2
      go_ret
      exact ⟨ret_bool HT.out.symm, hb⟩
    · have HT : Hid (textOk s.data.toList = true) := by show _ = _; unfold textOk; rw [ho]; simp; omega
      go_enter Try.func49, Try.ntmps49
      go_wp2_with fail
      refine (quote_short s _ (by omega)).mono ?_
      rintro e w1 ⟨rfl, hb⟩
      rw [qres_ok ho]
      go_wp2
      go_ret
      exact ⟨ret_bool HT.out.symm, hb⟩

set_option maxHeartbeats 2000000 in
theorem mayBe_any (x : Nd) (w : World) (hx : x.wf) :
    Calls Try.prog 41 #[x.val] w fun e w' => e = .returned (.bool (ndOk x)) ∧ Below w.heap.size w w' := by
  obtain ⟨op, n, s, t⟩ := x
  obtain ⟨hs, ht, _⟩ := hx
  unfold Nd.val
  have hal : ∀ o w', Below (w.alloc o).heap.size (w.alloc o) w' → Below w.heap.size w w' := fun o w' h => ((Below.refl _ _).alloc (Nat.le_refl _) _).trans (h.mono (by simp))
  have HL : Hid (∀ o w', Below (w.alloc o).heap.size (w.alloc o) w' → Below w.heap.size w w') := hal
  clear hal
  by_cases h1 : op = 1
  · subst h1
    go_enter Try.func41, Try.ntmps41
    go_wp2
    all_goals
      go_ret
      refine ⟨ret_bool ?_, HL.out _ _ (Below.refl _ _)⟩
      simp_all [ndOk, ← ByteArray.toList_eq]
  by_cases h2 : op = 2
  · subst h2
    go_enter Try.func41, Try.ntmps41
    go_wp2
    all_goals
      go_ret
      refine ⟨ret_bool ?_, HL.out _ _ (Below.refl _ _)⟩
      simp_all [ndOk, ← ByteArray.toList_eq]
  by_cases h3 : op = 3
  · subst h3
    have HT := fun w => isText_any s w hs
    cases hT : textOk s.data.toList <;> rw [hT] at HT
    all_goals
      go_enter Try.func41, Try.ntmps41
      go_wp2_with (go_at_call 49; refine (HT _).mono ?_; rintro e w1 ⟨rfl, hb⟩)
      all_goals
        go_ret
        refine ⟨ret_bool ?_, HL.out _ _ (by first | assumption | exact Below.refl _ _)⟩
        simp_all [ndOk, ByteArray.toList_eq]
  by_cases h4 : op = 4
  · subst h4
    have HT := fun w => isText_any t w ht
    have HC := fun w => check_any s w hs
    by_cases hn : nfault s.data.toList = 0
    · rw [eV_nil hn] at HC
      cases hT : textOk t.data.toList <;> rw [hT] at HT
      all_goals
        go_enter Try.func41, Try.ntmps41
        go_wp2_with (first | (go_at_call 49; refine (HT _).mono ?_; rintro e w1 ⟨rfl, hb⟩) | (go_at_call 36; refine (HC _).mono ?_; rintro e w1 ⟨rfl, rfl⟩))
        all_goals
          go_ret
          refine ⟨ret_bool ?_, HL.out _ _ (by first | assumption | exact Below.refl _ _)⟩
          simp_all [ndOk]
    · rw [eV_not hn] at HC
      go_enter Try.func41, Try.ntmps41
      go_wp2_with (first | (go_at_call 49; refine (HT _).mono ?_; rintro e w1 ⟨rfl, hb⟩) | (go_at_call 36; refine (HC _).mono ?_; rintro e w1 ⟨rfl, rfl⟩))
      all_goals
        go_ret
        refine ⟨ret_bool ?_, HL.out _ _ (by first | assumption | exact Below.refl _ _)⟩
        simp_all [ndOk]
  by_cases h56 : op = 5 ∨ op = 6
  · rcases h56 with rfl | rfl
    all_goals
      go_enter Try.func41, Try.ntmps41
      go_wp2
      all_goals
        go_ret
        refine ⟨ret_bool ?_, HL.out _ _ (Below.refl _ _)⟩
        simp_all [ndOk, ← ByteArray.toList_eq]
  by_cases h7 : op = 7
  · subst h7
    have HC := fun w => check_any s w hs
    by_cases hn : nfault s.data.toList = 0
    · rw [eV_nil hn] at HC
      go_enter Try.func41, Try.ntmps41
      go_wp2_with (go_at_call 36; refine (HC _).mono ?_; rintro e w1 ⟨rfl, rfl⟩)
      all_goals
        go_ret
        refine ⟨ret_bool ?_, HL.out _ _ (Below.refl _ _)⟩
        simp_all [ndOk, ByteArray.toList_eq]
    · rw [eV_not hn] at HC
      go_enter Try.func41, Try.ntmps41
      go_wp2_with (go_at_call 36; refine (HC _).mono ?_; rintro e w1 ⟨rfl, rfl⟩)
      all_goals
        go_ret
        refine ⟨ret_bool ?_, HL.out _ _ (Below.refl _ _)⟩
        simp_all [ndOk, ByteArray.toList_eq]
  · have j5 : ¬ op = 5 := fun h => h56 (.inl h)
    have j6 : ¬ op = 6 := fun h => h56 (.inr h)
    have e1 : (op == 1) = false := by simpa using h1
    have e2 : (op == 2) = false := by simpa using h2
    have e3 : (op == 3) = false := by simpa using h3
    have e4 : (op == 4) = false := by simpa using h4
    have e5 : (op == 5) = false := by simpa using j5
    have e6 : (op == 6) = false := by simpa using j6
    have e7 : (op == 7) = false := by simpa using h7
    have HN : Hid (ndOk ⟨op, n, s, t⟩ = false) := by show _ = _; simp [ndOk, h1, h2, h3, h4, j5, j6, h7]
    clear h1 h2 h3 h4 h56 j5 j6 h7
    go_enter Try.func41, Try.ntmps41
    go_wp2
    go_ret
    exact ⟨ret_bool HN.out.symm, HL.out _ _ (Below.refl _ _)⟩
end Go.Proofs.Ytjbjheeigdblkab
