import Derived.Test.YtipcngglmebiiaaGreatDoorA9
import Derived.Test.YtipcngglmebiiaaGreatDoorRows
import Derived.ProofKit
import Derived.OpenShut
import Derived.ShutString
import Derived.ChangeOld
import Derived.Deep.Slices
set_option linter.unusedVariables false
set_option maxHeartbeats 12000000
namespace Go.Proofs.YtipcngglmebiiaaGreatDoor
open Go.ChangeShapes Go.WideShapes Go.ChangeAt Go.RowKit Go.Deep
theorem Tryz.cellsNode:Tryz.prog.cellsOf 51=4:=by kernel_rfl
theorem laidOut:laidOutB Tryz.prog=true:=by kernel_rfl
set_option maxRecDepth 100000 in
theorem open_node {H:Type}{enc:TypeId×Value→H}{W:World}{base:Nat}{spare:Nat→Bool}{held:Bool}{fuel:Nat}{cs:List Value}{x:DataW H×List MemPlace}
 (h:DataW.trod enc Tryz.prog W base spare held fuel 51 cs=some x):
 ∃y:Nd,cs=[.int .i64 y.op,.int .i64 y.n,.string y.s,.string y.t]∧y.wf:=by
 obtain⟨xs,n,_,rfl,hl,hlen,hf⟩:=DataW.trod_struct Tryz.underlying51 h
 rw[Tryz.cellsNode]at hl
 match xs,hlen with
 | [y0,y1,y2,y3],_=>
   have f0:=hf 0 _ rfl
   have f1:=hf 1 _ rfl
   have f2:=hf 2 _ rfl
   have f3:=hf 3 _ rfl
   match cs,hl with
   | [c0,c1,c2,c3],_=>
     have k3:Tryz.prog.cellsOf 3=1:=by kernel_rfl
     have k9:Tryz.prog.cellsOf 9=1:=by kernel_rfl
     simp[k3,k9]at f0 f1 f2 f3
     obtain⟨a,e0,_,w0⟩:=DataW.trod_int Tryz.underlying3 f0
     obtain⟨b,e1,_,w1⟩:=DataW.trod_int Tryz.underlying3 f1
     obtain⟨s,e2,_,w2⟩:=DataW.trod_string Tryz.underlying9 f2
     obtain⟨t,e3,_,w3⟩:=DataW.trod_string Tryz.underlying9 f3
     simp at e0 e1 e2 e3
     subst e0 e1 e2 e3
     exact⟨⟨a,b,s,t⟩,rfl,w2,w3,by simp[Lit.wf]at w1;exact w1.2⟩
instance:Inhabited Nd:=⟨⟨0,0,⟨#[]⟩,⟨#[]⟩⟩⟩
theorem lt_of_cell {w:World}{a:Addr}{v:Value}(h:w.cell? a=some v):a.block<w.heap.size:=by
 unfold World.cell? at h
 by_cases hb:a.block<w.heap.size
 · exact hb
 · rw[Array.getElem?_eq_none (by omega)]at h
   cases h
set_option maxRecDepth 100000 in
theorem open_nodes_cells {H:Type}{enc:TypeId×Value→H}{W:World}{base:Nat}{spare:Nat→Bool}{held:Bool}{fuel:Nat}{cs:List Value}{x:DataW H×List MemPlace}
 (h:DataW.trod enc Tryz.prog W base spare held fuel 26 cs=some x):
 ∃(v:List Nd) (p:Option Addr) (c:Nat),cs=[.slice p v.length c]∧NL W p v∧v.length≤c∧c≤maxLen:=by
 rcases open_slice Tryz.underlying26 h with⟨rfl,_⟩ | ⟨a,len,cap,m,n,D,Pl,rfl,hb,hl,hm,hmm,rfl,hx⟩
 · exact⟨[],none,0,rfl,.inl rfl,Nat.le_refl _,Nat.zero_le _⟩
 · have hlm:len≤m:=by rw[hmm];split<;>omega
   rw[Tryz.cellsNode]at hx
   obtain⟨Y,hY⟩:=choose_lt (α :=Nd) (n:=len) (p:=fun i y=>W.cells? base (a.add (i*4)) 4=some [.int .i64 y.op,.int .i64 y.n,.string y.s,.string y.t]∧y.wf) (fun i hi=>by
    obtain⟨cs',h1,h2⟩:=hx i (by omega)
    obtain⟨y,rfl,hw⟩:=open_node h2
    exact⟨y,h1,hw⟩)
   refine⟨(List.range len).map Y,some a,cap,by simp,?_,by simpa using hl,hm⟩
   by_cases h0:len=0
   · exact .inl (by simp[h0])
   · obtain⟨b,off,spot⟩:=a
     have hcell:∀i,i<len→∀j,j<4→W.cell? ((⟨b,off,spot⟩:Addr).add (i*4+j))=([.int .i64 (Y i).op,.int .i64 (Y i).n,.string (Y i).s,.string (Y i).t]:List Value)[j]? :=by
      intro i hi j hj
      have:=(World.cells?_some (hY i hi).1).2.2 j hj
      rw[add_add]at this
      exact this
     have hspot:spot=none:=by
      have:=hcell 0 (by omega) 0 (by omega)
      simpa[Addr.add]using World.cell?_spot this
     subst hspot
     have hlt:b<W.heap.size:=by
      have:=hcell 0 (by omega) 0 (by omega)
      simp[Addr.add]at this
      exact lt_of_cell this
     refine .inr ⟨b,off,rfl,hlt,fun i y hy=>?_⟩
     have hi:i<len:=by
      have:=(List.getElem?_eq_some_iff.1 hy).1
      simpa using this
     obtain rfl:Y i=y:=by simpa[hi]using hy
     refine⟨?_,?_,?_,?_,(hY i hi).2⟩
     · have:=hcell i hi 0 (by omega);simp[Addr.add]at this;split at this;(rename_i h;rw[h];exact this);exact this
     · have:=hcell i hi 1 (by omega);simpa[Addr.add,Nat.add_assoc]using this
     · have:=hcell i hi 2 (by omega);simpa[Addr.add,Nat.add_assoc]using this
     · have:=hcell i hi 3 (by omega);simpa[Addr.add,Nat.add_assoc]using this
set_option maxRecDepth 100000 in
theorem open_nodes {H:Type}{enc:TypeId×Value→H}{W:World}{base b0:Nat}{spare:Nat→Bool}{held:Bool}{v:Value}{d:DataW H}{p:List MemPlace}
 (hv:Value.okWide Tryz.prog W .any b0 26 v) (h:DataW.Trod enc Tryz.prog W base spare held 26 v d p):
 ∃(L:List Nd) (q:Option Addr) (c:Nat),v= .slice q L.length c∧NL W q L∧L.length≤c∧c≤maxLen:=by
 obtain⟨a0,len0,cap0,rfl⟩:=okWide_slice Tryz.underlying26 hv
 obtain⟨fuel,hf⟩:=h
 obtain⟨L,q,c,h1,h2⟩:=open_nodes_cells hf
 simp[Value.cells]at h1
 obtain⟨rfl,rfl,rfl⟩:=h1
 exact⟨L,_,_,rfl,h2⟩
set_option maxRecDepth 100000 in
theorem open_low {H:Type}{enc:TypeId×Value→H}{W:World}{base:Nat}{spare:Nat→Bool}{held:Bool}{fuel:Nat}{cs:List Value}{x:DataW H×List MemPlace}
 (h:DataW.trod enc Tryz.prog W base spare held fuel 51 cs=some x):
 ∃y:Nd,cs=[.int .i64 y.op,.int .i64 y.n,.string y.s,.string y.t]∧ -9223372036854775808≤y.n∧y.n≤9223372036854775807:=by
 obtain⟨xs,n,_,rfl,hl,hlen,hf⟩:=DataW.trod_struct Tryz.underlying51 h
 rw[Tryz.cellsNode]at hl
 match xs,hlen with
 | [y0,y1,y2,y3],_=>
   have f0:=hf 0 _ rfl
   have f1:=hf 1 _ rfl
   have f2:=hf 2 _ rfl
   have f3:=hf 3 _ rfl
   match cs,hl with
   | [c0,c1,c2,c3],_=>
     have k3:Tryz.prog.cellsOf 3=1:=by kernel_rfl
     have k9:Tryz.prog.cellsOf 9=1:=by kernel_rfl
     simp[k3,k9]at f0 f1 f2 f3
     obtain⟨a,e0,_,w0⟩:=DataW.trod_int Tryz.underlying3 f0
     obtain⟨b,e1,_,w1⟩:=DataW.trod_int Tryz.underlying3 f1
     obtain⟨s,e2,_,w2⟩:=DataW.trod_string Tryz.underlying9 f2
     obtain⟨t,e3,_,w3⟩:=DataW.trod_string Tryz.underlying9 f3
     simp at e0 e1 e2 e3
     subst e0 e1 e2 e3
     exact⟨⟨a,b,s,t⟩,rfl,by simp[Lit.wf]at w1;exact w1⟩
set_option maxRecDepth 100000 in
theorem nodes_low {H:Type}{enc:TypeId×Value→H}{W:World}{base:Nat}{spare:Nat→Bool}{held:Bool}{L:List Nd}{q:Option Addr}{c:Nat}{d:DataW H}{p:List MemPlace}
 (h:DataW.Trod enc Tryz.prog W base spare held 26 (.slice q L.length c) d p) (hn:NL W q L):∀x∈L,-9223372036854775808≤x.n∧x.n≤9223372036854775807:=by
 obtain⟨fuel,hf⟩:=h
 intro x hx
 rcases hn with rfl | ⟨b,off,rfl,hlt,hc⟩
 · simp at hx
 obtain⟨i,hi,rfl⟩:=List.getElem_of_mem hx
 obtain⟨_,c1,_⟩:=hc i _ (List.getElem?_eq_getElem hi)
 simp only[Value.cells]at hf
 rcases open_slice Tryz.underlying26 hf with⟨e,_⟩ | ⟨a,len,cap,m,n,D,Pl,e,hb,hl,hm,hmm,_,hx⟩
 · simp at e
 · simp at e
   obtain⟨rfl,rfl,rfl⟩:=e
   have hlm:L.length≤m:=by rw[hmm];split<;>omega
   rw[Tryz.cellsNode]at hx
   obtain⟨cs',h1,h2⟩:=hx i (by omega)
   obtain⟨y,rfl,hw⟩:=open_low h2
   have:=(World.cells?_some h1).2.2 1 (by omega)
   rw[add_add]at this
   simp[Addr.add]at this
   rw[Nat.add_assoc]at c1
   rw[c1]at this
   simp at this
   rw[this];exact hw
theorem bulk_pos {H:Type}(d:DataW H):1≤Rows.uptoBulk d:=by
 cases d with
 | lit l=>cases l<;>simp[Rows.uptoBulk]
 | _=>simp[Rows.uptoBulk]
theorem bulk_all {H:Type}:∀(ds:List (DataW H)),ds.length≤Rows.uptoBulkAll ds
 | []=>Nat.zero_le _
 | d::r=>by
   have h1:=bulk_pos d
   have h2:=bulk_all r
   simp only[Rows.uptoBulkAll,List.length_cons];omega
theorem Tryz.cellsList:Tryz.prog.cellsOf 26=1:=by kernel_rfl
set_option maxRecDepth 100000 in
theorem open_lists_cells {H:Type}{enc:TypeId×Value→H}{W:World}{base:Nat}{spare:Nat→Bool}{held:Bool}{fuel:Nat}{cs:List Value}{x:DataW H×List MemPlace}
 (h:DataW.trod enc Tryz.prog W base spare held fuel 57 cs=some x):
 ∃(v:List (List Nd)) (p:Option Addr) (c:Nat),cs=[.slice p v.length c]∧LL W p v∧v.length≤c∧c≤maxLen∧v.length≤Rows.uptoBulk x.1:=by
 rcases open_slice1 Tryz.underlying57 Tryz.cellsList h with⟨rfl,rfl⟩ | ⟨a,len,cap,m,n,V,D,Pl,rfl,hb,hl,hm,hmm,rfl,hx⟩
 · exact⟨[],none,0,rfl,.inl rfl,Nat.le_refl _,Nat.zero_le _,Nat.zero_le _⟩
 · have hlm:len≤m:=by rw[hmm];split<;>omega
   obtain⟨Y,hY⟩:=choose_lt (α :=List Nd) (n:=len) (p:=fun i y=>∃q c,W.cell? (a.add i)=some (.slice q y.length c)∧NL W q y∧y.length≤c∧c≤maxLen) (fun i hi=>by
    obtain⟨h1,h2⟩:=hx i (by omega)
    obtain⟨y,q,c,e,h3,h4,h5⟩:=open_nodes_cells h2
    simp at e
    rw[e]at h1
    exact⟨y,q,c,h1,h3,h4,h5⟩)
   refine⟨(List.range len).map Y,some a,cap,by simp,?_,by simpa using hl,hm,?_⟩
   · by_cases h0:len=0
     · exact .inl (by simp[h0])
     · obtain⟨b,off,spot⟩:=a
       have hspot:spot=none:=by
        obtain⟨q,c,this,_⟩:=hY 0 (by omega)
        simpa[Addr.add]using World.cell?_spot this
       subst hspot
       have hadd:∀j,(⟨b,off,none⟩:Addr).add j=⟨b,off+j,none⟩:=fun j=>by unfold Addr.add;split<;>simp_all
       have hlt:b<W.heap.size:=by
        obtain⟨q,c,this,_⟩:=hY 0 (by omega)
        rw[hadd]at this
        exact lt_of_cell this
       refine .inr ⟨b,off,rfl,hlt,fun i y hy=>?_⟩
       have hi:i<len:=by
        have:=(List.getElem?_eq_some_iff.1 hy).1
        simpa using this
       obtain rfl:Y i=y:=by simpa[hi]using hy
       obtain⟨q,c,h1,h2⟩:=hY i hi
       rw[hadd]at h1
       exact⟨q,c,h1,h2⟩
   · have:=bulk_all ((List.range len).map D)
     simp only[List.length_map,List.length_range,Rows.uptoBulk]at this ⊢
     omega
set_option maxRecDepth 100000 in
theorem open_lists {H:Type}{enc:TypeId×Value→H}{W:World}{base b0:Nat}{spare:Nat→Bool}{held:Bool}{v:Value}{d:DataW H}{p:List MemPlace}
 (hv:Value.okWide Tryz.prog W .any b0 57 v) (h:DataW.Trod enc Tryz.prog W base spare held 57 v d p):
 ∃(L:List (List Nd)) (q:Option Addr) (c:Nat),v= .slice q L.length c∧LL W q L∧L.length≤c∧c≤maxLen∧L.length≤Rows.uptoBulk d:=by
 obtain⟨a0,len0,cap0,rfl⟩:=okWide_slice Tryz.underlying57 hv
 obtain⟨fuel,hf⟩:=h
 obtain⟨L,q,c,h1,h2⟩:=open_lists_cells hf
 simp[Value.cells]at h1
 obtain⟨rfl,rfl,rfl⟩:=h1
 exact⟨L,_,_,rfl,h2⟩
def IL (w:World)(p:Option Addr)(l:List Int):Prop:=
 l=[]∨∃b off,p=some ⟨b,off,none⟩∧b<w.heap.size∧∀i n,l[i]? =some n→w.cell? ⟨b,off+i,none⟩=some (.int .i64 n)∧ -9223372036854775808≤n∧n≤9223372036854775807
theorem IL.up {w w':World}{p:Option Addr}{l:List Int}(h:IL w p l)(k:Below w.heap.size w w'):IL w' p l:=by
 rcases h with h | ⟨b,off,h1,h2,h3⟩
 · exact .inl h
 · refine .inr ⟨b,off,h1,Nat.lt_of_lt_of_le h2 k.size,fun i v hv=>?_⟩
   obtain⟨h4,h5⟩:=h3 i v hv
   exact⟨(k.cell (p:=⟨b,off+i,none⟩) h2).trans h4,h5⟩
theorem IL.at {w:World}{p:Option Addr}{l:List Int}(h:IL w p l){i:Nat}(hi:i<l.length):∃b off,p=some ⟨b,off,none⟩∧b<w.heap.size∧
 w.cell? ⟨b,off+i,none⟩=some (.int .i64 l[i])∧ -9223372036854775808≤l[i]∧l[i]≤9223372036854775807:=by
 rcases h with rfl | ⟨b,off,h1,h2,h3⟩
 · simp at hi
 · exact⟨b,off,h1,h2,h3 i _ (List.getElem?_eq_getElem hi)⟩
theorem Tryz.cellsInt:Tryz.prog.cellsOf 3=1:=by kernel_rfl
set_option maxRecDepth 100000 in
theorem open_ints_cells {H:Type}{enc:TypeId×Value→H}{W:World}{base:Nat}{spare:Nat→Bool}{held:Bool}{fuel:Nat}{cs:List Value}{x:DataW H×List MemPlace}
 (h:DataW.trod enc Tryz.prog W base spare held fuel 29 cs=some x):
 ∃(v:List Int) (p:Option Addr) (c:Nat),cs=[.slice p v.length c]∧IL W p v∧v.length≤c∧c≤maxLen∧v.length≤Rows.uptoBulk x.1:=by
 rcases open_slice1 Tryz.underlying29 Tryz.cellsInt h with⟨rfl,rfl⟩ | ⟨a,len,cap,m,n,V,D,Pl,rfl,hb,hl,hm,hmm,rfl,hx⟩
 · exact⟨[],none,0,rfl,.inl rfl,Nat.le_refl _,Nat.zero_le _,Nat.zero_le _⟩
 · have hlm:len≤m:=by rw[hmm];split<;>omega
   obtain⟨Y,hY⟩:=choose_lt (α :=Int) (n:=len) (p:=fun i y=>W.cell? (a.add i)=some (.int .i64 y)∧ -9223372036854775808≤y∧y≤9223372036854775807) (fun i hi=>by
    obtain⟨h1,h2⟩:=hx i (by omega)
    obtain⟨y,e,_,w0⟩:=DataW.trod_int Tryz.underlying3 h2
    simp at e
    rw[e]at h1
    simp[Lit.wf]at w0
    exact⟨y,h1,w0⟩)
   refine⟨(List.range len).map Y,some a,cap,by simp,?_,by simpa using hl,hm,?_⟩
   · by_cases h0:len=0
     · exact .inl (by simp[h0])
     · obtain⟨b,off,spot⟩:=a
       have hspot:spot=none:=by
        obtain⟨this,_⟩:=hY 0 (by omega)
        simpa[Addr.add]using World.cell?_spot this
       subst hspot
       have hadd:∀j,(⟨b,off,none⟩:Addr).add j=⟨b,off+j,none⟩:=fun j=>by unfold Addr.add;split<;>simp_all
       have hlt:b<W.heap.size:=by
        obtain⟨this,_⟩:=hY 0 (by omega)
        rw[hadd]at this
        exact lt_of_cell this
       refine .inr ⟨b,off,rfl,hlt,fun i y hy=>?_⟩
       have hi:i<len:=by
        have:=(List.getElem?_eq_some_iff.1 hy).1
        simpa using this
       obtain rfl:Y i=y:=by simpa[hi]using hy
       obtain⟨h1,h2⟩:=hY i hi
       rw[hadd]at h1
       exact⟨h1,h2⟩
   · have:=bulk_all ((List.range len).map D)
     simp only[List.length_map,List.length_range,Rows.uptoBulk]at this ⊢
     omega
set_option maxRecDepth 100000 in
theorem open_intList {H:Type}{enc:TypeId×Value→H}{W:World}{base b0:Nat}{spare:Nat→Bool}{held:Bool}{v:Value}{d:DataW H}{p:List MemPlace}
 (hv:Value.okWide Tryz.prog W .any b0 29 v) (h:DataW.Trod enc Tryz.prog W base spare held 29 v d p):
 ∃(L:List Int) (q:Option Addr) (c:Nat),v= .slice q L.length c∧IL W q L∧L.length≤c∧c≤maxLen∧L.length≤Rows.uptoBulk d:=by
 obtain⟨a0,len0,cap0,rfl⟩:=okWide_slice Tryz.underlying29 hv
 obtain⟨fuel,hf⟩:=h
 obtain⟨L,q,c,h1,h2⟩:=open_ints_cells hf
 simp[Value.cells]at h1
 obtain⟨rfl,rfl,rfl⟩:=h1
 exact⟨L,_,_,rfl,h2⟩
end Go.Proofs.YtipcngglmebiiaaGreatDoor
