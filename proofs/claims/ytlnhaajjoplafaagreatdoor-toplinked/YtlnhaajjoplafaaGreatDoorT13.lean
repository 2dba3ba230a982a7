import Derived.Test.YtlnhaajjoplafaaGreatDoorT9
import Derived.Test.YtlnhaajjoplafaaGreatDoorRows
import Derived.ProofKit
import Derived.OpenShut
import Derived.ShutString
import Derived.ChangeOld
import Derived.Deep.Slices
set_option linter.unusedVariables false
set_option maxHeartbeats 12000000
namespace Go.Proofs.YtlnhaajjoplafaaGreatDoor
open Go.ChangeShapes Go.WideShapes Go.ChangeAt Go.RowKit Go.Deep
theorem Tryz.cellsNode:Tryz.prog.cellsOf 47=4:=by kernel_rfl
theorem laidOut:laidOutB Tryz.prog=true:=by kernel_rfl
set_option maxRecDepth 100000 in
theorem open_node {H:Type}{enc:TypeId×Value→H}{W:World}{base:Nat}{spare:Nat→Bool}{held:Bool}{fuel:Nat}{cs:List Value}{x:DataW H×List MemPlace}
 (h:DataW.trod enc Tryz.prog W base spare held fuel 47 cs=some x):
 ∃y:Nd,cs=[.int .i64 y.op,.int .i64 y.n,.string y.s,.string y.t]∧y.wf:=by
 obtain⟨xs,n,_,rfl,hl,hlen,hf⟩:=DataW.trod_struct Tryz.underlying47 h
 rw[Tryz.cellsNode]at hl
 match xs,hlen with
 | [y0,y1,y2,y3],_=>
   have f0:=hf 0 _ rfl
   have f1:=hf 1 _ rfl
   have f2:=hf 2 _ rfl
   have f3:=hf 3 _ rfl
   match cs,hl with
   | [c0,c1,c2,c3],_=>
     have k3:Tryz.prog.cellsOf 3=1:=by kernel_rfl
     have k9:Tryz.prog.cellsOf 9=1:=by kernel_rfl
     simp[k3,k9]at f0 f1 f2 f3
     obtain⟨a,e0,_,w0⟩:=DataW.trod_int Tryz.underlying3 f0
     obtain⟨b,e1,_,w1⟩:=DataW.trod_int Tryz.underlying3 f1
     obtain⟨s,e2,_,w2⟩:=DataW.trod_string Tryz.underlying9 f2
     obtain⟨t,e3,_,w3⟩:=DataW.trod_string Tryz.underlying9 f3
     simp at e0 e1 e2 e3
     subst e0 e1 e2 e3
     exact⟨⟨a,b,s,t⟩,rfl,w2,w3,by simp[Lit.wf]at w1;exact w1.2⟩
instance:Inhabited Nd:=⟨⟨0,0,⟨#[]⟩,⟨#[]⟩⟩⟩
theorem lt_of_cell {w:World}{a:Addr}{v:Value}(h:w.cell? a=some v):a.block<w.heap.size:=by
 unfold World.cell? at h
 by_cases hb:a.block<w.heap.size
 · exact hb
 · rw[Array.getElem?_eq_none (by omega)]at h
   cases h
set_option maxRecDepth 100000 in
theorem open_nodes_cells {H:Type}{enc:TypeId×Value→H}{W:World}{base:Nat}{spare:Nat→Bool}{held:Bool}{fuel:Nat}{cs:List Value}{x:DataW H×List MemPlace}
 (h:DataW.trod enc Tryz.prog W base spare held fuel 30 cs=some x):
 ∃(v:List Nd) (p:Option Addr) (c:Nat),cs=[.slice p v.length c]∧NL W p v∧v.length≤c∧c≤maxLen:=by
 rcases open_slice Tryz.underlying30 h with⟨rfl,_⟩ | ⟨a,len,cap,m,n,D,Pl,rfl,hb,hl,hm,hmm,rfl,hx⟩
 · exact⟨[],none,0,rfl,.inl rfl,Nat.le_refl _,Nat.zero_le _⟩
 · have hlm:len≤m:=by rw[hmm];split<;>omega
   rw[Tryz.cellsNode]at hx
   obtain⟨Y,hY⟩:=choose_lt (α :=Nd) (n:=len) (p:=fun i y=>W.cells? base (a.add (i*4)) 4=some [.int .i64 y.op,.int .i64 y.n,.string y.s,.string y.t]∧y.wf) (fun i hi=>by
    obtain⟨cs',h1,h2⟩:=hx i (by omega)
    obtain⟨y,rfl,hw⟩:=open_node h2
    exact⟨y,h1,hw⟩)
   refine⟨(List.range len).map Y,some a,cap,by simp,?_,by simpa using hl,hm⟩
   by_cases h0:len=0
   · exact .inl (by simp[h0])
   · obtain⟨b,off,spot⟩:=a
     have hcell:∀i,i<len→∀j,j<4→W.cell? ((⟨b,off,spot⟩:Addr).add (i*4+j))=([.int .i64 (Y i).op,.int .i64 (Y i).n,.string (Y i).s,.string (Y i).t]:List Value)[j]? :=by
      intro i hi j hj
      have:=(World.cells?_some (hY i hi).1).2.2 j hj
      rw[add_add]at this
      exact this
     have hspot:spot=none:=by
      have:=hcell 0 (by omega) 0 (by omega)
      simpa[Addr.add]using World.cell?_spot this
     subst hspot
     have hlt:b<W.heap.size:=by
      have:=hcell 0 (by omega) 0 (by omega)
      simp[Addr.add]at this
      exact lt_of_cell this
     refine .inr ⟨b,off,rfl,hlt,fun i y hy=>?_⟩
     have hi:i<len:=by
      have:=(List.getElem?_eq_some_iff.1 hy).1
      simpa using this
     obtain rfl:Y i=y:=by simpa[hi]using hy
     refine⟨?_,?_,?_,?_,(hY i hi).2⟩
     · have:=hcell i hi 0 (by omega);simp[Addr.add]at this;split at this;(rename_i h;rw[h];exact this);exact this
     · have:=hcell i hi 1 (by omega);simpa[Addr.add,Nat.add_assoc]using this
     · have:=hcell i hi 2 (by omega);simpa[Addr.add,Nat.add_assoc]using this
     · have:=hcell i hi 3 (by omega);simpa[Addr.add,Nat.add_assoc]using this
set_option maxRecDepth 100000 in
theorem open_nodes {H:Type}{enc:TypeId×Value→H}{W:World}{base b0:Nat}{spare:Nat→Bool}{held:Bool}{v:Value}{d:DataW H}{p:List MemPlace}
 (hv:Value.okWide Tryz.prog W .any b0 30 v) (h:DataW.Trod enc Tryz.prog W base spare held 30 v d p):
 ∃(L:List Nd) (q:Option Addr) (c:Nat),v= .slice q L.length c∧NL W q L∧L.length≤c∧c≤maxLen:=by
 obtain⟨a0,len0,cap0,rfl⟩:=okWide_slice Tryz.underlying30 hv
 obtain⟨fuel,hf⟩:=h
 obtain⟨L,q,c,h1,h2⟩:=open_nodes_cells hf
 simp[Value.cells]at h1
 obtain⟨rfl,rfl,rfl⟩:=h1
 exact⟨L,_,_,rfl,h2⟩
set_option maxRecDepth 100000 in
theorem open_low {H:Type}{enc:TypeId×Value→H}{W:World}{base:Nat}{spare:Nat→Bool}{held:Bool}{fuel:Nat}{cs:List Value}{x:DataW H×List MemPlace}
 (h:DataW.trod enc Tryz.prog W base spare held fuel 47 cs=some x):
 ∃y:Nd,cs=[.int .i64 y.op,.int .i64 y.n,.string y.s,.string y.t]∧ -9223372036854775808≤y.n∧y.n≤9223372036854775807:=by
 obtain⟨xs,n,_,rfl,hl,hlen,hf⟩:=DataW.trod_struct Tryz.underlying47 h
 rw[Tryz.cellsNode]at hl
 match xs,hlen with
 | [y0,y1,y2,y3],_=>
   have f0:=hf 0 _ rfl
   have f1:=hf 1 _ rfl
   have f2:=hf 2 _ rfl
   have f3:=hf 3 _ rfl
   match cs,hl with
   | [c0,c1,c2,c3],_=>
     have k3:Tryz.prog.cellsOf 3=1:=by kernel_rfl
     have k9:Tryz.prog.cellsOf 9=1:=by kernel_rfl
     simp[k3,k9]at f0 f1 f2 f3
     obtain⟨a,e0,_,w0⟩:=DataW.trod_int Tryz.underlying3 f0
     obtain⟨b,e1,_,w1⟩:=DataW.trod_int Tryz.underlying3 f1
     obtain⟨s,e2,_,w2⟩:=DataW.trod_string Tryz.underlying9 f2
     obtain⟨t,e3,_,w3⟩:=DataW.trod_string Tryz.underlying9 f3
     simp at e0 e1 e2 e3
     subst e0 e1 e2 e3
     exact⟨⟨a,b,s,t⟩,rfl,by simp[Lit.wf]at w1;exact w1⟩
set_option maxRecDepth 100000 in
theorem nodes_low {H:Type}{enc:TypeId×Value→H}{W:World}{base:Nat}{spare:Nat→Bool}{held:Bool}{L:List Nd}{q:Option Addr}{c:Nat}{d:DataW H}{p:List MemPlace}
 (h:DataW.Trod enc Tryz.prog W base spare held 30 (.slice q L.length c) d p) (hn:NL W q L):∀x∈L,-9223372036854775808≤x.n∧x.n≤9223372036854775807:=by
 obtain⟨fuel,hf⟩:=h
 intro x hx
 rcases hn with rfl | ⟨b,off,rfl,hlt,hc⟩
 · simp at hx
 obtain⟨i,hi,rfl⟩:=List.getElem_of_mem hx
 obtain⟨_,c1,_⟩:=hc i _ (List.getElem?_eq_getElem hi)
 simp only[Value.cells]at hf
 rcases open_slice Tryz.underlying30 hf with⟨e,_⟩ | ⟨a,len,cap,m,n,D,Pl,e,hb,hl,hm,hmm,_,hx⟩
 · simp at e
 · simp at e
   obtain⟨rfl,rfl,rfl⟩:=e
   have hlm:L.length≤m:=by rw[hmm];split<;>omega
   rw[Tryz.cellsNode]at hx
   obtain⟨cs',h1,h2⟩:=hx i (by omega)
   obtain⟨y,rfl,hw⟩:=open_low h2
   have:=(World.cells?_some h1).2.2 1 (by omega)
   rw[add_add]at this
   simp[Addr.add]at this
   rw[Nat.add_assoc]at c1
   rw[c1]at this
   simp at this
   rw[this];exact hw
end Go.Proofs.YtlnhaajjoplafaaGreatDoor
