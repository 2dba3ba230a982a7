import Derived.Test.YtgbljlabifpmgaaGreatDoorRows
import Derived.ProofKit
import Derived.LaidLaws
set_option linter.unusedVariables false
set_option maxHeartbeats 12000000
namespace Go.Proofs.YtgbljlabifpmgaaGreatDoor
open Go.ChangeShapes Go.WideShapes Go.ChangeAt Go.RowKit
def leafV:DataW Unit→Value
 | .lit (.int k z)=>.int k z
 | _=>.bool false
def rowV:DataW Unit→List Value
 | .agg l=>l.map leafV
 | d=>[leafV d]
def flatV:DataW Unit→List Value
 | .agg l=>l.flatMap rowV
 | d=>[leafV d]
def layCells (w:World)(g:Nat)(cs:List Value):World:=
 { w with heap:=w.heap.modify g fun
     | .cells _ t frozen=>.cells cs.toArray t frozen
     | o=>o }
end Go.Proofs.YtgbljlabifpmgaaGreatDoor
