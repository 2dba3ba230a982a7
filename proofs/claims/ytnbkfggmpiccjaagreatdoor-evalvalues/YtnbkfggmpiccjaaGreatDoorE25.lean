import Derived.Test.YtnbkfggmpiccjaaGreatDoorE1
import Derived.Test.YtnbkfggmpiccjaaGreatDoorE10
set_option linter.unusedVariables false
set_option maxHeartbeats 12000000
namespace Go.Proofs.YtnbkfggmpiccjaaGreatDoor
open Go.RowKit
theorem toldE_any (n m:Int)(w:World)(hg:ErrVar w):Calls Tryz.prog 6 #[eV n,.int .i64 m] w fun e w'=>e= .returned (.bool (n == m))∧Below w.heap.size w w':=same_any n m w hg
end Go.Proofs.YtnbkfggmpiccjaaGreatDoor
