import Derived.Test.YtnbkfggmpiccjaaGreatDoorCards
import Derived.Test.YtnbkfggmpiccjaaGreatDoorTie
import Derived.Test.YtnbkfggmpiccjaaGreatDoorE1
import Derived.ProofKit
import Derived.OpenShut
import Derived.ShutString
import Derived.ChangeOld
import Derived.Deep.DeepHandedRow
import Derived.SizedLaws
import Derived.LaidLaws
import Derived.LaidHandle
set_option linter.unusedVariables false
set_option maxHeartbeats 12000000
namespace Go.Proofs.YtnbkfggmpiccjaaGreatDoor
open Go.ChangeShapes Go.WideShapes Go.ChangeAt Go.RowKit
theorem Tryz.gErr:Tryz.prog.globalNamed "errors.errorType" =some 0:=by kernel_rfl
theorem Tryz.oneRow:((List.range 312).filter fun t=>Tryz.prog.rowNamed t [101,114,114,111,114])=[33]:=by kernel_rfl
theorem Tryz.typesSize:Tryz.prog.types.size=312:=by kernel_rfl
def listed:List (String×DataW Unit):=[("errors.errorType", Rows.laid_errors_errorType)]
theorem errVar_of_laid {W:World}(h:laidMetH Tryz.prog listed W):ErrVar W:=by
 have h':laidMet Tryz.prog [] W∧handlesMet Tryz.prog listed W:=h
 obtain⟨name,u,ty,e1,e2,e3,e4,e5⟩:=h'.2 _ (List.mem_singleton.2 rfl)
 have en:name=[101,114,114,111,114]:=(Option.some.inj e1).symm
 subst en
 obtain rfl:u=170:=Option.some.inj (e2.symm.trans (by kernel_rfl))
 have hm:ty∈(List.range 312).filter fun t=>Tryz.prog.rowNamed t [101,114,114,111,114]:=List.mem_filter.2 ⟨List.mem_range.2 (by rw[←Tryz.typesSize];exact e3),e4⟩
 rw[Tryz.oneRow]at hm
 obtain rfl:=List.mem_singleton.1 hm
 have hh:typeHandle Tryz.prog 33= .pointer (some ⟨2,33,none⟩):=by kernel_rfl
 rw[hh]at e5
 unfold ErrVar
 simpa using World.var?_cell Tryz.gErr e5 0
def layErr (w:World):World:=
 { w with heap:=w.heap.modify 0 fun
     | .cells _ t frozen=>.cells #[.iface 170 (.agg #[.pointer (some ⟨2,33,none⟩)])] t frozen
     | o=>o }
theorem laid_met (os:Os)(args:Array Value):laidMetH Tryz.prog listed ((layErr (World.holding Tryz.prog os ⟨#[], #[],[]⟩)).forCall (fun _ _=>0) ⟨#[],args,[]⟩).memory:=
 laidMetH_of_parts (laidMet_nil _ _) (by kernel_rfl)
end Go.Proofs.YtnbkfggmpiccjaaGreatDoor
