/- What wicketgatesame.Told tells of two errors; the variable of package errors along a chain of worlds. -/
import Derived.Test.YtglgfbflolbjdaaDoorToldWalk
namespace Go.Proofs.YtglgfbflolbjdaaDoor
open Go.RowKit
set_option linter.unusedVariables false

theorem evUp {w w' : World} (h : ErrVar w) (hb : Below w.heap.size w w') : ErrVar w' := errVar_below h hb (Nat.le_refl _)
theorem told2_nil (w : World) : Calls Tryd.prog 9 #[.nilIface, .nilIface] w fun e w' => e = .returned (.bool true) ∧ w' = w := by
  go_enter Tryd.func9, Tryd.ntmps9
  go_wp2_with (go_at_call 13; refine (told_nil _).mono ?_; rintro e w' ⟨rfl, rfl⟩)
  go_ret
  exact ⟨rfl, rfl⟩
theorem told2_errno (n m : Int) (w : World) (hg : ErrVar w) : Calls Tryd.prog 9 #[.iface 26 (.int .i64 n), .iface 26 (.int .i64 m)] w fun e w' => e = .returned (.bool (n == m)) ∧ Below w.heap.size w w' := by
  have Hg : Hid (ErrVar _) := hg
  clear hg
  go_enter Tryd.func9, Tryd.ntmps9
  go_wp2_with fail
  refine (told_errno n _ Hg.out).mono ?_
  rintro e w1 ⟨rfl, hb⟩
  have Hg1 : Hid (ErrVar _) := evUp Hg.out hb
  go_wp2_with fail
  refine (told_errno m _ Hg1.out).mono ?_
  rintro e w2 ⟨rfl, hb2⟩
  go_wp2_with fail
  go_ret
  exact ⟨rfl, hb.trans (hb2.mono hb.size)⟩
end Go.Proofs.YtglgfbflolbjdaaDoor
