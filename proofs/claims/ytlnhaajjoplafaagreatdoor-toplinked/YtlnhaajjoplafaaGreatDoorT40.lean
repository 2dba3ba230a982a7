import Derived.Test.YtlnhaajjoplafaaGreatDoorT13
import Derived.Test.YtlnhaajjoplafaaGreatDoorT19
import Derived.Test.YtlnhaajjoplafaaGreatDoorT38
import Derived.Test.YtlnhaajjoplafaaGreatDoorCards
import Derived.Test.YtlnhaajjoplafaaGreatDoorTie
import Derived.Test.YtlnhaajjoplafaaGreatDoorT5
import Derived.ProofKit
import Derived.OpenShut
import Derived.ShutString
import Derived.ChangeOld
import Derived.Deep.DeepHandedRow
import Derived.SizedLaws
import Derived.LaidLaws
import Derived.LaidHandle
set_option linter.unusedVariables false
set_option maxHeartbeats 12000000
namespace Go.Proofs.YtlnhaajjoplafaaGreatDoor
open Go.ChangeShapes Go.WideShapes Go.ChangeAt Go.RowKit Go.Deep
theorem Tryz.cellsRq:Tryz.prog.cellsOf 32=7:=by kernel_rfl
theorem low_n64 {L:List Nd}(h:∀x∈L,-9223372036854775808≤x.n∧x.n≤9223372036854775807):N64 L:=fun x hx _=>by unfold Fit;exact h x hx
set_option maxRecDepth 100000 in
theorem open_req {H:Type}{enc:TypeId×Value→H}{W:World}{base b0:Nat}{spare:Nat→Bool}{held:Bool}{v:Value}{d:DataW H}{p:List MemPlace}
 (hv:Value.okWide Tryz.prog W .any b0 32 v) (h:DataW.Trod enc Tryz.prog W base spare held 32 v d p):
 ∃(q:Rq) (pq:Option Addr) (cq:Nat),v=reqV q pq cq∧RqArg W q pq cq∧N64 q.cx:=by
 obtain⟨cs,rfl,hsz⟩:=okWide_struct Tryz.underlying32 hv
 obtain⟨fuel,hf⟩:=h
 obtain⟨xs,n,_,hn,hl,hlen,hf⟩:=DataW.trod_struct Tryz.underlying32 hf
 rw[Tryz.cellsRq]at hl
 match xs,hlen with
 | [y0,y1,y2,y3],_=>
   have f0:=hf 0 _ rfl
   have f1:=hf 1 _ rfl
   have f2:=hf 2 _ rfl
   have f3:=hf 3 _ rfl
   obtain⟨cl⟩:=cs
   simp only[Value.cells]at hl f0 f1 f2 f3
   match cl,hl with
   | [c0,c1,c2,c3,c4,c5,c6],_=>
     simp[Tryz.cellsU,Tryz.cellsNs]at f0 f1 f2 f3
     obtain⟨u0,e0,o0⟩:=open_uid_cells f0
     obtain⟨u1,e1,o1⟩:=open_uid_cells f1
     obtain⟨u2,e2,o2⟩:=open_uid_cells f2
     have f4:=f3
     obtain⟨v,pa,ca,e3,hn,hn1,hn2⟩:=open_nodes_cells f3
     simp at e0 e1 e2 e3
     obtain⟨rfl,rfl⟩:=e0
     obtain⟨rfl,rfl⟩:=e1
     obtain⟨rfl,rfl⟩:=e2
     subst e3
     exact⟨⟨u0,u1,u2,v⟩,pa,ca,rfl,⟨o0,o1,o2,hn,hn1,hn2⟩,low_n64 (nodes_low ⟨_,f4⟩ hn)⟩
set_option maxRecDepth 100000 in
theorem ents_low {H:Type}{enc:TypeId×Value→H}{W:World}{base:Nat}{spare:Nat→Bool}{held:Bool}{L:List En}{q:Option Addr}{c:Nat}{d:DataW H}{p:List MemPlace}
 (h:DataW.Trod enc Tryz.prog W base spare held 22 (.slice q L.length c) d p) (hn:EL W q L):∀e∈L,N64 e.nd:=by
 obtain⟨fuel,hf⟩:=h
 intro x hx
 rcases hn with rfl | ⟨b,off,rfl,hlt,hc⟩
 · simp at hx
 obtain⟨i,hi,rfl⟩:=List.getElem_of_mem hx
 obtain⟨pu,cu,pa,ca,hev,_,_,_,c3⟩:=hc i _ (List.getElem?_eq_getElem hi)
 simp only[Value.cells]at hf
 rcases open_slice Tryz.underlying22 hf with⟨e,_⟩ | ⟨a,len,cap,m,n,D,Pl,e,hb,hl,hm,hmm,_,hx⟩
 · simp at e
 · simp at e
   obtain⟨rfl,rfl,rfl⟩:=e
   have hlm:L.length≤m:=by rw[hmm];split<;>omega
   rw[Tryz.cellsEnt]at hx
   obtain⟨cs',h1,h2⟩:=hx i (by omega)
   have h4:=(World.cells?_some h1).2.2 3 (by omega)
   rw[add_add]at h4
   simp[Addr.add]at h4
   rw[Nat.add_assoc]at c3
   rw[c3]at h4
   obtain⟨xs,n,_,hn,hl4,hlen,hf⟩:=DataW.trod_struct Tryz.underlying102 h2
   rw[Tryz.cellsEnt]at hl4
   match xs,hlen with
   | [y0,y1,y2],_=>
     have f2:=hf 2 _ rfl
     match cs',hl4 with
     | [d0,d1,d2,d3],_=>
       simp[Tryz.cellsNs]at f2
       simp at h4
       subst h4
       obtain⟨pu',cu',pa',ca',e1,_,hnl,_⟩:=hev
       simp at e1
       obtain⟨_,⟨rfl,rfl⟩⟩:=e1
       exact low_n64 (nodes_low ⟨_,f2⟩ hnl)
end Go.Proofs.YtlnhaajjoplafaaGreatDoor
namespace Go.Proofs.YtlnhaajjoplafaaGreatDoor
open Go.ChangeShapes Go.WideShapes Go.ChangeAt Go.RowKit
theorem Tryz.own:ownKnob Tryz.prog.godebug=none:=by kernel_rfl
theorem Tryz.gErr:Tryz.prog.globalNamed "errors.errorType" =some 0:=by kernel_rfl
theorem Tryz.oneRow:((List.range 307).filter fun t=>Tryz.prog.rowNamed t [101,114,114,111,114])=[35]:=by kernel_rfl
theorem Tryz.typesSize:Tryz.prog.types.size=307:=by kernel_rfl
def listed:List (String×DataW Unit):=[("errors.errorType", Rows.laid_errors_errorType)]
theorem errVar_of_laid {W:World}(h:laidMetH Tryz.prog listed W):ErrVar W:=by
 have h':laidMet Tryz.prog [] W∧handlesMet Tryz.prog listed W:=h
 obtain⟨name,u,ty,e1,e2,e3,e4,e5⟩:=h'.2 _ (List.mem_singleton.2 rfl)
 have en:name=[101,114,114,111,114]:=(Option.some.inj e1).symm
 subst en
 obtain rfl:u=254:=Option.some.inj (e2.symm.trans (by kernel_rfl))
 have hm:ty∈(List.range 307).filter fun t=>Tryz.prog.rowNamed t [101,114,114,111,114]:=List.mem_filter.2 ⟨List.mem_range.2 (by rw[←Tryz.typesSize];exact e3),e4⟩
 rw[Tryz.oneRow]at hm
 obtain rfl:=List.mem_singleton.1 hm
 have hh:typeHandle Tryz.prog 35= .pointer (some ⟨2,35,none⟩):=by kernel_rfl
 rw[hh]at e5
 unfold ErrVar
 simpa using World.var?_cell Tryz.gErr e5 0
def layErr (w:World):World:=
 { w with heap:=w.heap.modify 0 fun
     | .cells _ t frozen=>.cells #[.iface 254 (.agg #[.pointer (some ⟨2,35,none⟩)])] t frozen
     | o=>o }
theorem laid_met (os:Os)(args:Array Value):laidMetH Tryz.prog listed ((layErr (World.holding Tryz.prog os ⟨#[], #[],[]⟩)).forCall (fun _ _=>0) ⟨#[],args,[]⟩).memory:=
 laidMetH_of_parts (laidMet_nil _ _) (by kernel_rfl)
end Go.Proofs.YtlnhaajjoplafaaGreatDoor
