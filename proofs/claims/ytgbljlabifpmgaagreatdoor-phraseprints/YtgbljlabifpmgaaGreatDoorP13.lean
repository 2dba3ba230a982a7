import Derived.Test.YtgbljlabifpmgaaGreatDoorP2
import Derived.Test.YtgbljlabifpmgaaGreatDoorP10
set_option linter.unusedVariables false
set_option maxHeartbeats 12000000
namespace Go.Proofs.YtgbljlabifpmgaaGreatDoor
open Go.RowKit
theorem bt2 {a b c:World}(h:Below a.heap.size a b)(k:Below b.heap.size b c):Below a.heap.size a c:=h.trans (k.mono h.size)
theorem ev_up {w w':World}(h:ErrVar w)(hb:Below w.heap.size w w'):ErrVar w':=errVar_below h hb (Nat.le_refl _)
theorem toldE_any (n m:Int)(w:World)(hg:ErrVar w):Calls Tryz.prog 9 #[eV n,.int .i64 m] w fun e w'=>e= .returned (.bool (n == m))∧Below w.heap.size w w':=same_any n m w hg
end Go.Proofs.YtgbljlabifpmgaaGreatDoor
