/- Chains of worlds, and what wicketgatesame.Error tells of an error by its number. -/
import Derived.Test.YtnilaghbbhmkgaaGreatDoorF1
import Derived.Test.YtnilaghbbhmkgaaGreatDoorF9
namespace Go.Proofs.YtnilaghbbhmkgaaGreatDoor
open Go.RowKit
set_option linter.unusedVariables false

theorem toldE_any (n m : Int) (w : World) (hg : ErrVar w) : Calls Tryz.prog 8 #[eV n, .int .i64 m] w fun e w' => e = .returned (.bool (n == m)) ∧ Below w.heap.size w w' := same_any n m w hg
end Go.Proofs.YtnilaghbbhmkgaaGreatDoor
