/- NameChecks: the walk of the statement's own function. -/
import Derived.Test.YthjeeppnijehoaaDoorNameRef
import Derived.Test.YthjeeppnijehoaaDoorToldWalk
namespace Go.Proofs.YthjeeppnijehoaaDoor
open Go.RowKit
set_option linter.unusedVariables false

theorem eV_errV (n : Int) : eV n = errV n := rfl
theorem nine_bad : nfault [57] = 1 := by decide

set_option maxHeartbeats 1000000 in
theorem checks_walk (s : ByteArray) (w : World) (hs : s.size ≤ maxLen) (hg : ErrVar w) :
    Calls Tryd.prog 3 #[.string s] w fun e w' => e = .returned (.bool true) ∧ Below w.heap.size w w' := by
  have Hg : Hid (ErrVar w) := hg
  clear hg
  go_enter Tryd.func3, Tryd.ntmps3
  go_wp2_with fail
  refine (check_any s _ hs).mono ?_
  rintro e w1 ⟨rfl, rfl⟩
  go_wp2_with fail
  refine (nameFault_any s _ hs).mono ?_
  rintro e w1 ⟨rfl, rfl⟩
  go_wp2_with fail
  rw [eV_errV]
  refine (same_any _ _ _ Hg.out).mono ?_
  rintro e w1 ⟨rfl, hb1⟩
  have Hg1 : Hid (ErrVar w1) := errVar_below Hg.out hb1 (Nat.le_refl _)
  go_wp2_with fail
  refine (check_any _ _ (by decide)).mono ?_
  rintro e w2 ⟨rfl, rfl⟩
  go_wp2_with fail
  rw [show eV (nfault (⟨#[57]⟩ : ByteArray).data.toList) = errV 1 from by rw [eV_errV]; exact congrArg errV nine_bad]
  refine (same_any _ _ _ Hg1.out).mono ?_
  rintro e w3 ⟨rfl, hb3⟩
  go_wp2_with fail
  go_ret
  exact ⟨rfl, hb1.trans (hb3.mono hb1.size)⟩
end Go.Proofs.YthjeeppnijehoaaDoor
