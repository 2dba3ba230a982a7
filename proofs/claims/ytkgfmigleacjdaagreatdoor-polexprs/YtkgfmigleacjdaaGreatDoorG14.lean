/- Chains of worlds, and what wicketgatesame.Error tells of an error by its number. -/
import Derived.Test.YtkgfmigleacjdaaGreatDoorG1
import Derived.Test.YtkgfmigleacjdaaGreatDoorG9
namespace Go.Proofs.YtkgfmigleacjdaaGreatDoor
open Go.RowKit
set_option linter.unusedVariables false

theorem bt2 {a b c : World} (h : Below a.heap.size a b) (k : Below b.heap.size b c) : Below a.heap.size a c := h.trans (k.mono h.size)
theorem ev_up {w w' : World} (h : ErrVar w) (hb : Below w.heap.size w w') : ErrVar w' := errVar_below h hb (Nat.le_refl _)
theorem toldE_any (n m : Int) (w : World) (hg : ErrVar w) : Calls Tryz.prog 6 #[eV n, .int .i64 m] w fun e w' => e = .returned (.bool (n == m)) ∧ Below w.heap.size w w' := same_any n m w hg
end Go.Proofs.YtkgfmigleacjdaaGreatDoor
