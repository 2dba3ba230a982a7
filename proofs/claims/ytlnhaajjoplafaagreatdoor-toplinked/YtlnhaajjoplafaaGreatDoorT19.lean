import Derived.Test.YtlnhaajjoplafaaGreatDoorT13
import Derived.Test.YtlnhaajjoplafaaGreatDoorT15
set_option linter.unusedVariables false
set_option maxHeartbeats 12000000
namespace Go.Proofs.YtlnhaajjoplafaaGreatDoor
open Go.ChangeShapes Go.WideShapes Go.ChangeAt Go.RowKit Go.Deep
theorem Tryz.cellsEnt:Tryz.prog.cellsOf 102=4:=by kernel_rfl
theorem Tryz.cellsUs:Tryz.prog.cellsOf 87=1:=by kernel_rfl
theorem Tryz.cellsNs:Tryz.prog.cellsOf 30=1:=by kernel_rfl
set_option maxRecDepth 100000 in
theorem open_uid_cells {H:Type}{enc:TypeId×Value→H}{W:World}{base:Nat}{spare:Nat→Bool}{held:Bool}{fuel:Nat}{cs:List Value}{x:DataW H×List MemPlace}
 (h:DataW.trod enc Tryz.prog W base spare held fuel 24 cs=some x):
 ∃y:Ui,cs=[.string y.t,.string y.i]∧UOk y:=by
 obtain⟨xs,n,_,rfl,hl,hlen,hf⟩:=DataW.trod_struct Tryz.underlying24 h
 rw[Tryz.cellsU]at hl
 match xs,hlen with
 | [y0,y1],_=>
   have f0:=hf 0 _ rfl
   have f1:=hf 1 _ rfl
   match cs,hl with
   | [c0,c1],_=>
     simp[Tryz.cellsS]at f0 f1
     obtain⟨s,e2,_,w2⟩:=DataW.trod_string Tryz.underlying9 f0
     obtain⟨t,e3,_,w3⟩:=DataW.trod_string Tryz.underlying9 f1
     simp at e2 e3
     subst e2 e3
     exact⟨⟨s,t⟩,rfl,w2,w3⟩
set_option maxRecDepth 100000 in
theorem open_uids_cells {H:Type}{enc:TypeId×Value→H}{W:World}{base:Nat}{spare:Nat→Bool}{held:Bool}{fuel:Nat}{cs:List Value}{x:DataW H×List MemPlace}
 (h:DataW.trod enc Tryz.prog W base spare held fuel 87 cs=some x):
 ∃(v:List Ui) (p:Option Addr) (c:Nat),cs=[.slice p v.length c]∧UL W p v∧(∀x∈v,UOk x)∧v.length≤c∧c≤maxLen:=by
 rcases open_slice Tryz.underlying87 h with⟨rfl,_⟩ | ⟨a,len,cap,m,n,D,Pl,rfl,hb,hl,hm,hmm,rfl,hx⟩
 · exact⟨[],none,0,rfl,.inl rfl,by simp,Nat.le_refl _,Nat.zero_le _⟩
 · have hlm:len≤m:=by rw[hmm];split<;>omega
   rw[Tryz.cellsU]at hx
   obtain⟨Y,hY⟩:=choose_lt (α :=Ui) (n:=len) (p:=fun i y=>W.cells? base (a.add (i*2)) 2=some [.string y.t,.string y.i]∧UOk y) (fun i hi=>by
    obtain⟨cs',h1,h2⟩:=hx i (by omega)
    obtain⟨y,rfl,hw⟩:=open_uid_cells h2
    exact⟨y,h1,hw⟩)
   refine⟨(List.range len).map Y,some a,cap,by simp,?_,fun x hx=>?_,by simpa using hl,hm⟩
   · by_cases h0:len=0
     · exact .inl (by simp[h0])
     · obtain⟨b,off,spot⟩:=a
       have hcell:∀i,i<len→∀j,j<2→W.cell? ((⟨b,off,spot⟩:Addr).add (i*2+j))=([.string (Y i).t,.string (Y i).i]:List Value)[j]? :=by
        intro i hi j hj
        have:=(World.cells?_some (hY i hi).1).2.2 j hj
        rw[add_add]at this
        exact this
       have hspot:spot=none:=by
        have:=hcell 0 (by omega) 0 (by omega)
        simpa[Addr.add]using World.cell?_spot this
       subst hspot
       have hlt:b<W.heap.size:=by
        have:=hcell 0 (by omega) 0 (by omega)
        simp[Addr.add]at this
        exact lt_of_cell this
       refine .inr ⟨b,off,rfl,hlt,fun i y hy=>?_⟩
       have hi:i<len:=by
        have:=(List.getElem?_eq_some_iff.1 hy).1
        simpa using this
       obtain rfl:Y i=y:=by simpa[hi]using hy
       refine⟨?_,?_⟩
       · have:=hcell i hi 0 (by omega);simp[Addr.add]at this;split at this;(rename_i h;rw[h];exact this);exact this
       · have:=hcell i hi 1 (by omega);simpa[Addr.add,Nat.add_assoc]using this
   · obtain⟨i,hi,rfl⟩:=List.mem_map.1 hx
     exact(hY i (List.mem_range.1 hi)).2
set_option maxRecDepth 100000 in
theorem open_ent_cells {H:Type}{enc:TypeId×Value→H}{W:World}{base:Nat}{spare:Nat→Bool}{held:Bool}{fuel:Nat}{cs:List Value}{x:DataW H×List MemPlace}
 (h:DataW.trod enc Tryz.prog W base spare held fuel 102 cs=some x):
 ∃(e:En) (pu:Option Addr) (cu:Nat) (pa:Option Addr) (ca:Nat),cs=[.string e.u.t,.string e.u.i,.slice pu e.up.length cu,.slice pa e.nd.length ca]∧EV W (.agg #[.string e.u.t,.string e.u.i,.slice pu e.up.length cu,.slice pa e.nd.length ca]) e:=by
 obtain⟨xs,n,_,rfl,hl,hlen,hf⟩:=DataW.trod_struct Tryz.underlying102 h
 rw[Tryz.cellsEnt]at hl
 match xs,hlen with
 | [y0,y1,y2],_=>
   have f0:=hf 0 _ rfl
   have f1:=hf 1 _ rfl
   have f2:=hf 2 _ rfl
   match cs,hl with
   | [c0,c1,c2,c3],_=>
     simp[Tryz.cellsU,Tryz.cellsUs,Tryz.cellsNs]at f0 f1 f2
     obtain⟨u,e0,ho⟩:=open_uid_cells f0
     obtain⟨l,pu,cu,e1,hu,hou,hu1,hu2⟩:=open_uids_cells f1
     obtain⟨v,pa,ca,e2,hn,hn1,hn2⟩:=open_nodes_cells f2
     simp at e0 e1 e2
     obtain⟨rfl,rfl⟩:=e0
     subst e1 e2
     exact⟨⟨u,l,v⟩,pu,cu,pa,ca,rfl,pu,cu,pa,ca,rfl,hu,hn,ho,hou,hu1,hu2,hn1,hn2⟩
set_option maxRecDepth 100000 in
theorem open_ents_cells {H:Type}{enc:TypeId×Value→H}{W:World}{base:Nat}{spare:Nat→Bool}{held:Bool}{fuel:Nat}{cs:List Value}{x:DataW H×List MemPlace}
 (h:DataW.trod enc Tryz.prog W base spare held fuel 22 cs=some x):
 ∃(v:List En) (p:Option Addr) (c:Nat),cs=[.slice p v.length c]∧EL W p v∧v.length≤c∧c≤maxLen:=by
 rcases open_slice Tryz.underlying22 h with⟨rfl,_⟩ | ⟨a,len,cap,m,n,D,Pl,rfl,hb,hl,hm,hmm,rfl,hx⟩
 · exact⟨[],none,0,rfl,.inl rfl,Nat.le_refl _,Nat.zero_le _⟩
 · have hlm:len≤m:=by rw[hmm];split<;>omega
   rw[Tryz.cellsEnt]at hx
   obtain⟨Y,hY⟩:=choose_lt (α :=En) (n:=len) (p:=fun i y=>∃pu cu pa ca,W.cells? base (a.add (i*4)) 4=some [.string y.u.t,.string y.u.i,.slice pu y.up.length cu,.slice pa y.nd.length ca]∧EV W (.agg #[.string y.u.t,.string y.u.i,.slice pu y.up.length cu,.slice pa y.nd.length ca]) y) (fun i hi=>by
    obtain⟨cs',h1,h2⟩:=hx i (by omega)
    obtain⟨y,pu,cu,pa,ca,rfl,hw⟩:=open_ent_cells h2
    exact⟨y,pu,cu,pa,ca,h1,hw⟩)
   refine⟨(List.range len).map Y,some a,cap,by simp,?_,by simpa using hl,hm⟩
   by_cases h0:len=0
   · exact .inl (by simp[h0])
   · obtain⟨b,off,spot⟩:=a
     have hcell:∀i,i<len→∃pu cu pa ca,EV W (.agg #[.string (Y i).u.t,.string (Y i).u.i,.slice pu (Y i).up.length cu,.slice pa (Y i).nd.length ca]) (Y i)∧∀j,j<4→W.cell? ((⟨b,off,spot⟩:Addr).add (i*4+j))=([.string (Y i).u.t,.string (Y i).u.i,.slice pu (Y i).up.length cu,.slice pa (Y i).nd.length ca]:List Value)[j]? :=by
      intro i hi
      obtain⟨pu,cu,pa,ca,h1,h2⟩:=hY i hi
      refine⟨pu,cu,pa,ca,h2,fun j hj=>?_⟩
      have:=(World.cells?_some h1).2.2 j hj
      rw[add_add]at this
      exact this
     have hspot:spot=none:=by
      obtain⟨_,_,_,_,_,h1⟩:=hcell 0 (by omega)
      have:=h1 0 (by omega)
      simpa[Addr.add]using World.cell?_spot this
     subst hspot
     have hlt:b<W.heap.size:=by
      obtain⟨_,_,_,_,_,h1⟩:=hcell 0 (by omega)
      have:=h1 0 (by omega)
      simp[Addr.add]at this
      exact lt_of_cell this
     refine .inr ⟨b,off,rfl,hlt,fun i y hy=>?_⟩
     have hi:i<len:=by
      have:=(List.getElem?_eq_some_iff.1 hy).1
      simpa using this
     obtain rfl:Y i=y:=by simpa[hi]using hy
     obtain⟨pu,cu,pa,ca,h2,h1⟩:=hcell i hi
     refine⟨pu,cu,pa,ca,h2,?_,?_,?_,?_⟩
     · have:=h1 0 (by omega);simp[Addr.add]at this;split at this;(rename_i h;rw[h];exact this);exact this
     · have:=h1 1 (by omega);simpa[Addr.add,Nat.add_assoc]using this
     · have:=h1 2 (by omega);simpa[Addr.add,Nat.add_assoc]using this
     · have:=h1 3 (by omega);simpa[Addr.add,Nat.add_assoc]using this
set_option maxRecDepth 100000 in
theorem open_ents {H:Type}{enc:TypeId×Value→H}{W:World}{base b0:Nat}{spare:Nat→Bool}{held:Bool}{v:Value}{d:DataW H}{p:List MemPlace}
 (hv:Value.okWide Tryz.prog W .any b0 22 v) (h:DataW.Trod enc Tryz.prog W base spare held 22 v d p):
 ∃(L:List En) (q:Option Addr) (c:Nat),v= .slice q L.length c∧EL W q L∧L.length≤c∧c≤maxLen:=by
 obtain⟨a0,len0,cap0,rfl⟩:=okWide_slice Tryz.underlying22 hv
 obtain⟨fuel,hf⟩:=h
 obtain⟨L,q,c,h1,h2⟩:=open_ents_cells hf
 simp[Value.cells]at h1
 obtain⟨rfl,rfl,rfl⟩:=h1
 exact⟨L,_,_,rfl,h2⟩
theorem ents_room {H:Type}{enc:TypeId×Value→H}{W:World}{base:Nat}{spare:Nat→Bool}{held:Bool}{d:DataW H}{p:List MemPlace}{L:List En}{q:Option Addr}{c N:Nat}
 (h:DataW.Trod enc Tryz.prog W base spare held 22 (.slice q L.length c) d p) (hs:∀el sp,d= .slice el sp→(el.length+sp.length)*80≤N):L.length*80≤N:=by
 obtain⟨fuel,hf⟩:=h
 rcases open_slice Tryz.underlying22 hf with⟨h1,_⟩ | ⟨a,len,cap,m,n,D,Pl,h1,hb,hl,hm,hmm,hx,_⟩
 · simp[Value.cells]at h1
   rw[h1.2.1];simp
 · simp[Value.cells]at h1
   have hd:d=_:=congrArg Prod.fst hx
   have:=hs _ _ hd
   simp at this
   rw[h1.2.1]
   omega
theorem ents_none {H:Type}{enc:TypeId×Value→H}{W:World}{base:Nat}{spare:Nat→Bool}{held:Bool}{d:DataW H}{p:List MemPlace}{n:Nat}{q:Option Addr}{c:Nat}
 (h:DataW.Trod enc Tryz.prog W base spare held 22 (.slice q n c) d p) (hq:q=none):c=0:=by
 obtain⟨fuel,hf⟩:=h
 rcases open_slice Tryz.underlying22 hf with⟨h1,_⟩ | ⟨a,len,cap,m,n,D,Pl,h1,_⟩
 · simp[Value.cells]at h1
   exact h1.2.2
 · simp[Value.cells]at h1
   rw[hq]at h1
   cases h1.1
theorem Tryz.bytesEnt:Tryz.prog.bytesOf 102=80:=by kernel_rfl
set_option maxRecDepth 100000 in
theorem open_ent {H:Type}{enc:TypeId×Value→H}{W:World}{base b0:Nat}{spare:Nat→Bool}{held:Bool}{v:Value}{d:DataW H}{p:List MemPlace}
 (hv:Value.okWide Tryz.prog W .any b0 102 v) (h:DataW.Trod enc Tryz.prog W base spare held 102 v d p):
 ∃(e:En) (pu:Option Addr) (cu:Nat) (pa:Option Addr) (ca:Nat),v= .agg #[.string e.u.t,.string e.u.i,.slice pu e.up.length cu,.slice pa e.nd.length ca]∧EV W (.agg #[.string e.u.t,.string e.u.i,.slice pu e.up.length cu,.slice pa e.nd.length ca]) e:=by
 obtain⟨cs,rfl,hsz⟩:=okWide_struct Tryz.underlying102 hv
 obtain⟨fuel,hf⟩:=h
 obtain⟨e,pu,cu,pa,ca,h1,h2⟩:=open_ent_cells hf
 refine⟨e,pu,cu,pa,ca,?_,h2⟩
 simp only[Value.cells]at h1
 cases cs
 simp only at h1
 rw[h1]
end Go.Proofs.YtlnhaajjoplafaaGreatDoor
