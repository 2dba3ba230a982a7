/- Package val's SetOf of values: where the set has room, and where not. -/
import Derived.Test.YtncmjcjnldhhhaaGreatDoorSetOf
import Derived.Test.YtncmjcjnldhhhaaGreatDoorShape
namespace Go.Proofs.YtncmjcjnldhhhaaGreatDoor
open Go.RowKit
set_option linter.unusedVariables false

theorem vals_ne {vs : List (List Nd)} (hval : ∀ v ∈ vs, vfault v = 0) : ∀ v ∈ vs, v ≠ [] := fun v hm => by
  obtain ⟨x, r, e, _⟩ := value_head (hval v hm)
  rw [e]; simp
theorem vals_short {vs : List (List Nd)} (hval : ∀ v ∈ vs, vfault v = 0) : ∀ v ∈ vs, v.length ≤ 200 := fun v hm => (isVal_past (hval v hm)).1

theorem setOf_fit (vs : List (List Nd)) (S : List Nd) (hS : setN (setL vs) = S) (p : Option Addr) (c : Nat) (w : World) (hv : LL w p vs) (hl : vs.length ≤ 4294967296) (hval : ∀ v ∈ vs, vfault v = 0) (hfit : S.length ≤ 200) :
    Calls Tryz.prog 18 #[.slice p vs.length c] w fun e w' => (∃ q c', e = .returned (.tuple #[.slice q S.length c', .nilIface]) ∧ NL w' q S ∧ S.length ≤ c' ∧ c' ≤ maxLen) ∧ Below w.heap.size w w' := by
  subst hS
  have H := setOf_ok vs p c w hv hl ((ffault_zero vs).2 hval) (vals_ne hval) (vals_short hval)
  simp only [SetRetV, if_pos hfit] at H
  exact H
theorem setOf_over (vs : List (List Nd)) (p : Option Addr) (c : Nat) (w : World) (hv : LL w p vs) (hl : vs.length ≤ 4294967296) (hval : ∀ v ∈ vs, vfault v = 0) (hfit : ¬ (setN (setL vs)).length ≤ 200) :
    Calls Tryz.prog 18 #[.slice p vs.length c] w fun e w' => e = .returned (.tuple #[.slice none 0 0, eV 4]) ∧ Below w.heap.size w w' := by
  have H := setOf_ok vs p c w hv hl ((ffault_zero vs).2 hval) (vals_ne hval) (vals_short hval)
  simp only [SetRetV, if_neg hfit] at H
  exact H
end Go.Proofs.YtncmjcjnldhhhaaGreatDoor
