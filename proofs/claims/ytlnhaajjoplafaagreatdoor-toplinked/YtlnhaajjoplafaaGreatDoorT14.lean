import Derived.Test.YtlnhaajjoplafaaGreatDoorT12
import Derived.Test.YtlnhaajjoplafaaGreatDoorT13
import Derived.Test.YtlnhaajjoplafaaGreatDoorT2
set_option linter.unusedVariables false
set_option maxHeartbeats 12000000
namespace Go.Proofs.YtlnhaajjoplafaaGreatDoor
open Go.ChangeShapes Go.WideShapes Go.ChangeAt Go.RowKit Go.Deep
theorem Tryz.cellsSp:Tryz.prog.cellsOf 9=1:=by kernel_rfl
theorem Tryz.cellsIp:Tryz.prog.cellsOf 3=1:=by kernel_rfl
theorem Tryz.cellsBp:Tryz.prog.cellsOf 4=1:=by kernel_rfl
theorem Tryz.cellsNp:Tryz.prog.cellsOf 30=1:=by kernel_rfl
theorem Tryz.cellsUp:Tryz.prog.cellsOf 24=2:=by kernel_rfl
theorem Tryz.cellsSco:Tryz.prog.cellsOf 26=4:=by kernel_rfl
theorem Tryz.cellsCnd:Tryz.prog.cellsOf 67=2:=by kernel_rfl
theorem Tryz.cellsCnds:Tryz.prog.cellsOf 27=1:=by kernel_rfl
theorem Tryz.cellsPol:Tryz.prog.cellsOf 29=15:=by kernel_rfl
instance:Inhabited Cnd:=⟨⟨false,[]⟩⟩
section
variable {H:Type} {enc:TypeId×Value→H} {W:World} {base:Nat} {spare:Nat→Bool} {held:Bool} {fuel:Nat} {cs:List Value} {x:DataW H×List MemPlace}
set_option maxRecDepth 100000 in
theorem open_uidP_cells (h:DataW.trod enc Tryz.prog W base spare held fuel 24 cs=some x):
 ∃y:Ui,cs=[.string y.t,.string y.i]∧UOk y:=by
 obtain⟨xs,n,_,rfl,hl,hlen,hf⟩:=DataW.trod_struct Tryz.underlying24 h
 rw[Tryz.cellsUp]at hl
 match xs,hlen with
 | [y0,y1],_=>
   have f0:=hf 0 _ rfl
   have f1:=hf 1 _ rfl
   match cs,hl with
   | [c0,c1],_=>
     simp[Tryz.cellsSp]at f0 f1
     obtain⟨s,e2,_,w2⟩:=DataW.trod_string Tryz.underlying9 f0
     obtain⟨t,e3,_,w3⟩:=DataW.trod_string Tryz.underlying9 f1
     simp at e2 e3
     subst e2 e3
     exact⟨⟨s,t⟩,rfl,w2,w3⟩
set_option maxRecDepth 100000 in
theorem open_sco_cells (h:DataW.trod enc Tryz.prog W base spare held fuel 26 cs=some x):
 ∃y:Sco,cs=[.int .i64 y.op,.string y.ty,.string y.u.t,.string y.u.i]∧ScoOk y:=by
 obtain⟨xs,n,_,rfl,hl,hlen,hf⟩:=DataW.trod_struct Tryz.underlying26 h
 rw[Tryz.cellsSco]at hl
 match xs,hlen with
 | [y0,y1,y2],_=>
   have f0:=hf 0 _ rfl
   have f1:=hf 1 _ rfl
   have f2:=hf 2 _ rfl
   match cs,hl with
   | [c0,c1,c2,c3],_=>
     simp[Tryz.cellsSp,Tryz.cellsIp,Tryz.cellsUp]at f0 f1 f2
     obtain⟨o,e0,_,w0⟩:=DataW.trod_int Tryz.underlying3 f0
     obtain⟨s,e1,_,w1⟩:=DataW.trod_string Tryz.underlying9 f1
     obtain⟨u,e2,w2⟩:=open_uidP_cells f2
     simp at e0 e1 e2
     obtain⟨rfl,rfl⟩:=e2
     subst e0 e1
     exact⟨⟨o,s,u⟩,rfl,w1,w2⟩
set_option maxRecDepth 100000 in
theorem open_cnd_cells (h:DataW.trod enc Tryz.prog W base spare held fuel 67 cs=some x):
 ∃(y:Cnd) (pe:Option Addr) (ce:Nat),cs=[.bool y.un,.slice pe y.ex.length ce]∧AK W y.ex pe ce:=by
 obtain⟨xs,n,_,rfl,hl,hlen,hf⟩:=DataW.trod_struct Tryz.underlying67 h
 rw[Tryz.cellsCnd]at hl
 match xs,hlen with
 | [y0,y1],_=>
   have f0:=hf 0 _ rfl
   have f1:=hf 1 _ rfl
   match cs,hl with
   | [c0,c1],_=>
     simp[Tryz.cellsBp,Tryz.cellsNp]at f0 f1
     obtain⟨b,e0,_⟩:=DataW.trod_bool Tryz.underlying4 f0
     obtain⟨l,p,c,e1,o1,o2,o3⟩:=open_nodes_cells f1
     simp at e0 e1
     subst e0 e1
     exact⟨⟨b,l⟩,p,c,rfl,⟨o1,o2,o3⟩⟩
set_option maxRecDepth 100000 in
theorem open_cnds_cells (h:DataW.trod enc Tryz.prog W base spare held fuel 27 cs=some x):
 ∃(v:List Cnd) (p:Option Addr) (c:Nat),cs=[.slice p v.length c]∧CdL W p v∧v.length≤c∧c≤maxLen:=by
 rcases open_slice Tryz.underlying27 h with⟨rfl,_⟩ | ⟨a,len,cap,m,n,D,Pl,rfl,hb,hl,hm,hmm,rfl,hx⟩
 · exact⟨[],none,0,rfl,.inl rfl,Nat.le_refl _,Nat.zero_le _⟩
 · have hlm:len≤m:=by rw[hmm];split<;>omega
   rw[Tryz.cellsCnd]at hx
   obtain⟨Y,hY⟩:=choose_lt (α :=Cnd) (n:=len) (p:=fun i y=>∃p1 c1,W.cells? base (a.add (i*2)) 2=some [.bool y.un,.slice p1 y.ex.length c1]∧AK W y.ex p1 c1) (fun i hi=>by
    obtain⟨cs',h1,h2⟩:=hx i (by omega)
    obtain⟨y,p1,c1,rfl,hw⟩:=open_cnd_cells h2
    exact⟨y,p1,c1,h1,hw⟩)
   refine⟨(List.range len).map Y,some a,cap,by simp,?_,by simpa using hl,hm⟩
   by_cases h0:len=0
   · exact .inl (by simp[h0])
   · obtain⟨b,off,spot⟩:=a
     have hcell:∀i,i<len→∃p1 c1,AK W (Y i).ex p1 c1∧∀j,j<2→W.cell? ((⟨b,off,spot⟩:Addr).add (i*2+j))=([.bool (Y i).un,.slice p1 (Y i).ex.length c1]:List Value)[j]? :=by
      intro i hi
      obtain⟨p1,c1,h1,h2⟩:=hY i hi
      refine⟨p1,c1,h2,fun j hj=>?_⟩
      have:=(World.cells?_some h1).2.2 j hj
      rw[add_add]at this
      exact this
     have hspot:spot=none:=by
      obtain⟨_,_,_,h1⟩:=hcell 0 (by omega)
      have:=h1 0 (by omega)
      simpa[Addr.add]using World.cell?_spot this
     subst hspot
     have hlt:b<W.heap.size:=by
      obtain⟨_,_,_,h1⟩:=hcell 0 (by omega)
      have:=h1 0 (by omega)
      simp[Addr.add]at this
      exact lt_of_cell this
     refine .inr ⟨b,off,rfl,hlt,fun i y hy=>?_⟩
     have hi:i<len:=by
      have:=(List.getElem?_eq_some_iff.1 hy).1
      simpa using this
     obtain rfl:Y i=y:=by simpa[hi]using hy
     obtain⟨p1,c1,h2,h1⟩:=hcell i hi
     refine⟨p1,c1,h2,?_,?_⟩
     · have:=h1 0 (by omega);simp[Addr.add]at this;split at this;(rename_i h;rw[h];exact this);exact this
     · have:=h1 1 (by omega);simpa[Addr.add,Nat.add_assoc]using this
end
set_option maxRecDepth 100000 in
theorem open_pol {H:Type}{enc:TypeId×Value→H}{W:World}{base b0:Nat}{spare:Nat→Bool}{held:Bool}{v:Value}{d:DataW H}{p:List MemPlace}
 (hv:Value.okWide Tryz.prog W .any b0 29 v) (h:DataW.Trod enc Tryz.prog W base spare held 29 v d p):
 ∃(q:Po) (pc:Option Addr) (cc:Nat),v=poV q pc cc∧PoA W q pc cc:=by
 obtain⟨cs,rfl,hsz⟩:=okWide_struct Tryz.underlying29 hv
 obtain⟨fuel,hf⟩:=h
 obtain⟨xs,n,_,hn,hl,hlen,hf⟩:=DataW.trod_struct Tryz.underlying29 hf
 rw[Tryz.cellsPol]at hl
 match xs,hlen with
 | [y0,y1,y2,y3,y4,y5],_=>
   have f0:=hf 0 _ rfl
   have f1:=hf 1 _ rfl
   have f2:=hf 2 _ rfl
   have f3:=hf 3 _ rfl
   have f4:=hf 4 _ rfl
   have f5:=hf 5 _ rfl
   obtain⟨cl⟩:=cs
   simp only[Value.cells]at hl f0 f1 f2 f3 f4 f5
   match cl,hl with
   | [c0,c1,c2,c3,c4,c5,c6,c7,c8,c9,c10,c11,c12,c13,c14],_=>
     simp[Tryz.cellsSp,Tryz.cellsBp,Tryz.cellsSco,Tryz.cellsCnds]at f0 f1 f2 f3 f4 f5
     obtain⟨nm,e0,_,w0⟩:=DataW.trod_string Tryz.underlying9 f0
     obtain⟨fb,e1,_⟩:=DataW.trod_bool Tryz.underlying4 f1
     obtain⟨s0,e2,o2⟩:=open_sco_cells f2
     obtain⟨s1,e3,o3⟩:=open_sco_cells f3
     obtain⟨s2,e4,o4⟩:=open_sco_cells f4
     obtain⟨l,pc,cc,e5,g1,g2,g3⟩:=open_cnds_cells f5
     simp at e0 e1 e2 e3 e4 e5
     obtain⟨rfl,rfl,rfl,rfl⟩:=e2
     obtain⟨rfl,rfl,rfl,rfl⟩:=e3
     obtain⟨rfl,rfl,rfl,rfl⟩:=e4
     subst e0 e1 e5
     exact⟨⟨nm,fb,s0,s1,s2,l⟩,pc,cc,rfl,⟨w0,o2,o3,o4,g1,g2,g3⟩⟩
set_option linter.unusedSimpArgs false
set_option maxRecDepth 100000 in
theorem cnds_low {H:Type}{enc:TypeId×Value→H}{W:World}{base:Nat}{spare:Nat→Bool}{held:Bool}{fuel:Nat}{L:List Cnd}{q:Option Addr}{c:Nat}{x0:DataW H×List MemPlace}
 (hf:DataW.trod enc Tryz.prog W base spare held fuel 27 [.slice q L.length c]=some x0) (hn:CdL W q L):∀e∈L,∀y∈e.ex,n64 y:=by
 intro x hx
 rcases hn with rfl | ⟨b,off,rfl,hlt,hc⟩
 · simp at hx
 obtain⟨i,hi,rfl⟩:=List.getElem_of_mem hx
 obtain⟨pe,ce,hak,_,c1⟩:=hc i _ (List.getElem?_eq_getElem hi)
 rcases open_slice Tryz.underlying27 hf with⟨e,_⟩ | ⟨a,len,cap,m,n,D,Pl,e,hb,hl,hm,hmm,_,hx⟩
 · simp at e
 · simp at e
   obtain⟨rfl,rfl,rfl⟩:=e
   have hlm:L.length≤m:=by rw[hmm];split<;>omega
   rw[Tryz.cellsCnd]at hx
   obtain⟨cs',h1,h2⟩:=hx i (by omega)
   have h4:=(World.cells?_some h1).2.2 1 (by omega)
   rw[add_add]at h4
   simp[Addr.add]at h4
   rw[Nat.add_assoc]at c1
   rw[c1]at h4
   obtain⟨xs,n,_,hn,hl4,hlen,hf⟩:=DataW.trod_struct Tryz.underlying67 h2
   rw[Tryz.cellsCnd]at hl4
   match xs,hlen with
   | [y0,y1],_=>
     have f1:=hf 1 _ rfl
     match cs',hl4 with
     | [d0,d1],_=>
       simp[Tryz.cellsBp,Tryz.cellsNp]at f1
       simp at h4
       subst h4
       intro y hy _
       exact nodes_low ⟨_,f1⟩ hak.1 y hy
set_option maxRecDepth 100000 in
theorem pol_low {H:Type}{enc:TypeId×Value→H}{W:World}{base:Nat}{spare:Nat→Bool}{held:Bool}{Q:Po}{pc:Option Addr}{cc:Nat}{d:DataW H}{p:List MemPlace}
 (h:DataW.Trod enc Tryz.prog W base spare held 29 (poV Q pc cc) d p) (hn:CdL W pc Q.cs):∀c∈Q.cs,∀y∈c.ex,n64 y:=by
 obtain⟨fuel,hf⟩:=h
 obtain⟨xs,n,_,hn2,hl,hlen,hf⟩:=DataW.trod_struct Tryz.underlying29 hf
 match xs,hlen with
 | [y0,y1,y2,y3,y4,y5],_=>
   have f5:=hf 5 _ rfl
   unfold poV at f5
   simp[Value.cells,Tryz.cellsSp,Tryz.cellsBp,Tryz.cellsSco,Tryz.cellsCnds]at f5
   exact cnds_low f5 hn
end Go.Proofs.YtlnhaajjoplafaaGreatDoor
