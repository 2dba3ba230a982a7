/- The document's Truth, EntOf: by walks of their own texts. -/
import Derived.Test.YtglhjhbhijekjaaGreatDoorG19
namespace Go.Proofs.YtglhjhbhijekjaaGreatDoor
open Go.RowKit
set_option linter.unusedVariables false
set_option maxRecDepth 100000

section
variable (w : World)
theorem refTruth_any (b : Bool) : Calls Tryz.prog 85 #[.bool b] w fun e w' => VRet (tN b) 1 e w' ∧ Below w.heap.size w w' := by
  have hw : ∀ x ∈ tN b, x.wf := by intro x hx; simp only [tN, List.mem_singleton] at hx; subst hx; exact ⟨by unfold maxLen; show 0 ≤ _; decide, by unfold maxLen; show 0 ≤ _; decide, by cases b <;> simp⟩
  cases b
  · go_enter Tryz.func85, Tryz.ntmps85
    go_wp2
    go_ret
    exact ⟨⟨_, _, rfl, rfl, NL.lit w (tN false) _ hw rfl (by decide), Nat.le_refl _, by unfold maxLen; decide, tN_is _⟩, (Below.refl _ _).alloc (Nat.le_refl _) _⟩
  · go_enter Tryz.func85, Tryz.ntmps85
    go_wp2
    go_ret
    exact ⟨⟨_, _, rfl, rfl, NL.lit w (tN true) _ hw rfl (by decide), Nat.le_refl _, by unfold maxLen; decide, tN_is _⟩, (Below.refl _ _).alloc (Nat.le_refl _) _⟩
theorem refEntOf_any (u : Ui) (hu : uf u = 0) : Calls Tryz.prog 19 #[.agg #[.string u.t, .string u.i]] w fun e w' => VRet (uN u) 1 e w' ∧ Below w.heap.size w w' := by
  have ho := uf_ok hu
  have hw : ∀ x ∈ uN u, x.wf := by intro x hx; simp only [uN, List.mem_singleton] at hx; subst hx; exact ⟨ho.1, ho.2, by show (0 : Int) ≤ _; decide⟩
  obtain ⟨t, i⟩ := u
  go_enter Tryz.func19, Tryz.ntmps19
  go_wp2
  go_ret
  have hN := NL.lit (w.alloc (.cells #[.string t, .string i] 23)) (uN ⟨t, i⟩) #[.int .i64 4, .int .i64 0, .string t, .string i] hw rfl (by simp [uN])
  rw [alloc_size] at hN
  exact ⟨⟨_, _, rfl, rfl, hN, Nat.le_refl _, by unfold maxLen; decide, uN_is hu⟩, ((Below.refl _ _).alloc (Nat.le_refl _) _).alloc (by simp) _⟩
end
end Go.Proofs.YtglhjhbhijekjaaGreatDoor
