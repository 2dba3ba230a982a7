import Derived.Test.YtipcngglmebiiaaGreatDoorA16
import Derived.Test.YtipcngglmebiiaaGreatDoorA26
set_option linter.unusedVariables false
set_option maxHeartbeats 12000000
namespace Go.Proofs.YtipcngglmebiiaaGreatDoor
open Go.ChangeShapes Go.WideShapes Go.ChangeAt Go.RowKit Go.Deep
def P64 (p:Po):Prop:=∀c∈p.cs,∀y∈c.ex,n64 y
set_option maxRecDepth 100000 in
theorem open_pol_cells {H:Type}{enc:TypeId×Value→H}{W:World}{base:Nat}{spare:Nat→Bool}{held:Bool}{fuel:Nat}{cs:List Value}{x:DataW H×List MemPlace}
 (hf:DataW.trod enc Tryz.prog W base spare held fuel 42 cs=some x):
 ∃(q:Po) (pc:Option Addr) (cc:Nat),cs=(poC q pc cc).toList∧PoA W q pc cc∧P64 q:=by
 obtain⟨xs,n,_,rfl,hl,hlen,hf⟩:=DataW.trod_struct Tryz.underlying42 hf
 rw[Tryz.cellsPol]at hl
 match xs,hlen with
 | [y0,y1,y2,y3,y4,y5],_=>
   have f0:=hf 0 _ rfl
   have f1:=hf 1 _ rfl
   have f2:=hf 2 _ rfl
   have f3:=hf 3 _ rfl
   have f4:=hf 4 _ rfl
   have f5:=hf 5 _ rfl
   match cs,hl with
   | [c0,c1,c2,c3,c4,c5,c6,c7,c8,c9,c10,c11,c12,c13,c14],_=>
     simp[Tryz.cellsSp,Tryz.cellsBp,Tryz.cellsSco,Tryz.cellsCnds]at f0 f1 f2 f3 f4 f5
     obtain⟨nm,e0,_,w0⟩:=DataW.trod_string Tryz.underlying9 f0
     obtain⟨fb,e1,_⟩:=DataW.trod_bool Tryz.underlying4 f1
     obtain⟨s0,e2,o2⟩:=open_sco_cells f2
     obtain⟨s1,e3,o3⟩:=open_sco_cells f3
     obtain⟨s2,e4,o4⟩:=open_sco_cells f4
     obtain⟨l,pc,cc,e5,g1,g2,g3⟩:=open_cnds_cells f5
     simp at e0 e1 e2 e3 e4 e5
     obtain⟨rfl,rfl,rfl,rfl⟩:=e2
     obtain⟨rfl,rfl,rfl,rfl⟩:=e3
     obtain⟨rfl,rfl,rfl,rfl⟩:=e4
     subst e0 e1 e5
     exact⟨⟨nm,fb,s0,s1,s2,l⟩,pc,cc,rfl,⟨w0,o2,o3,o4,g1,g2,g3⟩,cnds_low f5 g1⟩
set_option maxRecDepth 100000 in
theorem open_pols_cells {H:Type}{enc:TypeId×Value→H}{W:World}{base:Nat}{spare:Nat→Bool}{held:Bool}{fuel:Nat}{cs:List Value}{x:DataW H×List MemPlace}
 (h:DataW.trod enc Tryz.prog W base spare held fuel 23 cs=some x):
 ∃(v:List Po) (p:Option Addr) (c:Nat),cs=[.slice p v.length c]∧PsL W p v∧v.length≤c∧c≤maxLen∧(∀x∈v,P64 x)∧(p=none→c=0):=by
 rcases open_slice Tryz.underlying23 h with⟨rfl,_⟩ | ⟨a,len,cap,m,n,D,Pl,rfl,hb,hl,hm,hmm,rfl,hx⟩
 · exact⟨[],none,0,rfl,.inl rfl,Nat.le_refl _,Nat.zero_le _,by simp,fun _=>rfl⟩
 · have hlm:len≤m:=by rw[hmm];split<;>omega
   rw[Tryz.cellsPol]at hx
   obtain⟨Y,hY⟩:=choose_lt (α :=Po) (n:=len) (p:=fun i y=>∃p1 c1,W.cells? base (a.add (i*15)) 15=some (poC y p1 c1).toList∧PoA W y p1 c1∧P64 y) (fun i hi=>by
    obtain⟨cs',h1,h2⟩:=hx i (by omega)
    obtain⟨y,p1,c1,rfl,hw⟩:=open_pol_cells h2
    exact⟨y,p1,c1,h1,hw⟩)
   refine⟨(List.range len).map Y,some a,cap,by simp,?_,by simpa using hl,hm,fun x hx=>by
    obtain⟨i,hi,rfl⟩:=List.mem_map.1 hx
    obtain⟨_,_,_,_,h3⟩:=hY i (List.mem_range.1 hi)
    exact h3,fun h=>by cases h⟩
   by_cases h0:len=0
   · exact .inl (by simp[h0])
   · obtain⟨b,off,spot⟩:=a
     have hcell:∀i,i<len→∃p1 c1,PoA W (Y i) p1 c1∧∀j,j<15→W.cell? ((⟨b,off,spot⟩:Addr).add (i*15+j))=(poC (Y i) p1 c1).toList[j]? :=by
      intro i hi
      obtain⟨p1,c1,h1,h2,_⟩:=hY i hi
      refine⟨p1,c1,h2,fun j hj=>?_⟩
      have:=(World.cells?_some h1).2.2 j hj
      rw[add_add]at this
      exact this
     have hspot:spot=none:=by
      obtain⟨_,_,_,h1⟩:=hcell 0 (by omega)
      have:=h1 0 (by omega)
      simpa[Addr.add,poC]using World.cell?_spot this
     subst hspot
     have hlt:b<W.heap.size:=by
      obtain⟨_,_,_,h1⟩:=hcell 0 (by omega)
      have:=h1 0 (by omega)
      simp[Addr.add,poC]at this
      exact lt_of_cell this
     refine .inr ⟨b,off,rfl,hlt,fun i y hy=>?_⟩
     have hi:i<len:=by
      have:=(List.getElem?_eq_some_iff.1 hy).1
      simpa using this
     obtain rfl:Y i=y:=by simpa[hi]using hy
     obtain⟨p1,c1,h2,h1⟩:=hcell i hi
     refine⟨p1,c1,h2,fun j v hv=>?_⟩
     have hj:j<15:=by
      have:=(Array.getElem?_eq_some_iff.1 hv).1
      simpa[poC]using this
     have hadd:(⟨b,off,none⟩:Addr).add (i*15+j)=⟨b,off+i*15+j,none⟩:=by unfold Addr.add;split<;>simp_all [Nat.add_assoc]
     have:=h1 j hj
     rw[hadd]at this
     rw[this,Array.getElem?_toList]
     exact hv
set_option maxRecDepth 100000 in
theorem open_pols {H:Type}{enc:TypeId×Value→H}{W:World}{base b0:Nat}{spare:Nat→Bool}{held:Bool}{v:Value}{d:DataW H}{p:List MemPlace}
 (hv:Value.okWide Tryz.prog W .any b0 23 v) (h:DataW.Trod enc Tryz.prog W base spare held 23 v d p):
 ∃(L:List Po) (q:Option Addr) (c:Nat),v= .slice q L.length c∧PsL W q L∧L.length≤c∧c≤maxLen∧(∀x∈L,P64 x)∧(q=none→c=0):=by
 obtain⟨a0,len0,cap0,rfl⟩:=okWide_slice Tryz.underlying23 hv
 obtain⟨fuel,hf⟩:=h
 obtain⟨L,q,c,h1,h2⟩:=open_pols_cells hf
 simp[Value.cells]at h1
 obtain⟨rfl,rfl,rfl⟩:=h1
 exact⟨L,_,_,rfl,h2⟩
theorem Tryz.bytesPol:Tryz.prog.bytesOf 42=216:=by kernel_rfl
theorem pols_room {H:Type}{enc:TypeId×Value→H}{W:World}{base:Nat}{spare:Nat→Bool}{held:Bool}{d:DataW H}{p:List MemPlace}{L:List Po}{q:Option Addr}{c N:Nat}
 (h:DataW.Trod enc Tryz.prog W base spare held 23 (.slice q L.length c) d p) (hs:∀el sp,d= .slice el sp→(el.length+sp.length)*216≤N):L.length*216≤N:=by
 obtain⟨fuel,hf⟩:=h
 rcases open_slice Tryz.underlying23 hf with⟨h1,_⟩ | ⟨a,len,cap,m,n,D,Pl,h1,hb,hl,hm,hmm,hx,_⟩
 · simp[Value.cells]at h1
   rw[h1.2.1];simp
 · simp[Value.cells]at h1
   have hd:d=_:=congrArg Prod.fst hx
   have:=hs _ _ hd
   simp at this
   rw[h1.2.1]
   omega
end Go.Proofs.YtipcngglmebiiaaGreatDoor
