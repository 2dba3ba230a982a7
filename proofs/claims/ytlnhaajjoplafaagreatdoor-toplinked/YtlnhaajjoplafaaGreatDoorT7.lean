import Derived.Test.YtlnhaajjoplafaaGreatDoorRows
import Derived.WalkKit
import Derived.ProofKit
import Derived.OpenShut
import Derived.ShutString
import Derived.ChangeOld
import Derived.Below
import Derived.Lib.SmallJoins
set_option linter.unusedVariables false
set_option maxHeartbeats 12000000
namespace Go.Proofs.YtlnhaajjoplafaaGreatDoor
open Go.ChangeShapes Go.WideShapes Go.ChangeAt Go.RowKit Go.Joins
theorem Tryz.cellsUid:Tryz.prog.cellsOf 24=2:=by kernel_rfl
set_option maxRecDepth 100000 in
theorem open_uid {H:Type}{enc:TypeId×Value→H}{W:World}{base b0:Nat}{spare:Nat→Bool}{held:Bool}{v:Value}{d:DataW H}{p:List MemPlace}
 (hv:Value.okWide Tryz.prog W .any b0 24 v) (h:DataW.Trod enc Tryz.prog W base spare held 24 v d p):
 ∃s t:ByteArray,v= .agg #[.string s,.string t]∧d= .agg [.lit (.string s.data.toList),.lit (.string t.data.toList)]∧p=[]∧s.size≤maxLen∧t.size≤maxLen:=by
 obtain⟨c0,c1,y0,y1,m,rfl,rfl,rfl,hy0,hy1⟩:=open_agg2 Tryz.underlying24 (by kernel_rfl) Tryz.cellsUid hv h
 obtain⟨s,e0,rfl,ws⟩:=DataW.trod_string Tryz.underlying9 hy0
 obtain⟨t,e1,rfl,wt⟩:=DataW.trod_string Tryz.underlying9 hy1
 simp at e0 e1
 subst e0 e1
 exact⟨s,t,rfl,rfl,rfl,ws,wt⟩
set_option maxRecDepth 100000 in
theorem shut_uid {H:Type}{enc:TypeId×Value→H}{W:World}{base:Nat}{spare:Nat→Bool}{held:Bool}{s t:ByteArray}(ws:s.size≤maxLen)(wt:t.size≤maxLen):
 DataW.Trod enc Tryz.prog W base spare held 24 (.agg #[.string s,.string t]) (.agg [.lit (.string s.data.toList),.lit (.string t.data.toList)]) []:=
 shut_agg2 (y0:=(.lit (.string s.data.toList),[])) (y1:=(.lit (.string t.data.toList),[])) Tryz.underlying24 (by kernel_rfl) Tryz.cellsUid ⟨1,by simp[DataW.trod,Tryz.underlying9,ws]⟩ ⟨1,by simp[DataW.trod,Tryz.underlying9,wt]⟩
end Go.Proofs.YtlnhaajjoplafaaGreatDoor
