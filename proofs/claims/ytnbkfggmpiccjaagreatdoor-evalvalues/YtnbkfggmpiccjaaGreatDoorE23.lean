import Derived.Test.YtnbkfggmpiccjaaGreatDoorE11
import Derived.WalkSpells
import Derived.Laws.IdiomStrings
import Derived.Laws.BytesArg
import Derived.Test.YtnbkfggmpiccjaaGreatDoorE10
import Derived.Test.YtnbkfggmpiccjaaGreatDoorE17
import Derived.Laws.StructEq
import Derived.Test.YtnbkfggmpiccjaaGreatDoorE3
import Derived.Test.YtnbkfggmpiccjaaGreatDoorE22
set_option linter.unusedVariables false
set_option maxHeartbeats 12000000
namespace Go.Proofs.YtnbkfggmpiccjaaGreatDoor
open Go.RowKit
theorem Tryz.infoNode:(Tryz.prog.info? 53).map (fun i=>(i.zero,i.size,i.bytes))=some (some (.agg #[.int .i64 0,.int .i64 0,.string ⟨#[]⟩,.string ⟨#[]⟩]),4,48):=by kernel_rfl
def Typed (w:World)(b:Nat)(e:TypeId):Prop:=∃cur fr,w.heap[b]? =some (.cells cur e fr)
theorem Typed.ne {w:World}{a b:Nat}{e f:TypeId}(h:Typed w a e)(k:Typed w b f)(hne:e≠f):a≠b:=by
 rintro rfl
 obtain⟨_,_,h⟩:=h
 obtain⟨_,_,k⟩:=k
 rw[h]at k
 cases k
 exact hne rfl
theorem Typed.lt {w:World}{b:Nat}{e:TypeId}(h:Typed w b e):b<w.heap.size:=by
 obtain⟨_,_,h⟩:=h
 exact(Array.getElem?_eq_some_iff.1 h).1
structure Kept (base:Nat)(e:TypeId)(w w':World):Prop where
 bel:Below base w w'
 typed:∀b f,f≠e→Typed w b f→w'.heap[b]? =w.heap[b]?
theorem Kept.refl (base:Nat)(e:TypeId)(w:World):Kept base e w w:=⟨Below.refl _ _,fun _ _ _ _=>rfl⟩
theorem Kept.trans {base:Nat}{e:TypeId}{a b c:World}(h:Kept base e a b)(k:Kept base e b c):Kept base e a c:=by
 refine⟨h.bel.trans k.bel,fun x f hf ht=>?_⟩
 have h1:=h.typed x f hf ht
 obtain⟨cur,fr,hx⟩:=ht
 rw[k.typed x f hf ⟨cur,fr,h1.trans hx⟩,h1]
theorem Kept.of_below {base:Nat}{e:TypeId}{w w':World}(h:Below w.heap.size w w')(hb:base≤w.heap.size):Kept base e w w':=
 ⟨h.mono hb,fun b f _ ht=>h.block b ht.lt⟩
theorem Kept.is {base:Nat}{e f:TypeId}{w w':World}(h:Kept base e w w')(hf:f≠e){b:Nat}(ht:Typed w b f):Typed w' b f:=by
 have:=h.typed b f hf ht
 obtain⟨cur,fr,hx⟩:=ht
 exact⟨cur,fr,this.trans hx⟩
def NT (w:World)(base:Nat)(q:Option Addr)(L:List Nd):Prop:=NL w q L∧(L=[]∨∃b o,q=some ⟨b,o,none⟩∧(b<base∨Typed w b 53))
theorem NT.kept {w w':World}{base:Nat}{e:TypeId}{q:Option Addr}{L:List Nd}(h:NT w base q L)(k:Kept base e w w')(he:53≠e):NT w' base q L:=by
 obtain⟨h1,h2⟩:=h
 rcases h2 with rfl | ⟨b,o,rfl,hb⟩
 · exact⟨.inl rfl,.inl rfl⟩
 · have hblk:w'.heap[b]? =w.heap[b]? :=by
    rcases hb with hb | hb
    · exact k.bel.block b hb
    · exact k.typed b _ he hb
   refine⟨?_,.inr ⟨b,o,rfl,hb.imp id (fun ht=>k.is he ht)⟩⟩
   rcases h1 with h1 | ⟨b',o',h3,h4,h5⟩
   · exact .inl h1
   · cases h3
     refine .inr ⟨b,o,rfl,Nat.lt_of_lt_of_le h4 k.bel.size,fun i x hx=>?_⟩
     have hq:∀a,w'.cell? ⟨b,a,none⟩=w.cell? ⟨b,a,none⟩:=fun a=>World.cell?_of_block hblk
     simp only[hq]
     exact h5 i x hx
theorem NT.old {w:World}{base:Nat}{q:Option Addr}{L:List Nd}(h:NL w q L)(hb:base=w.heap.size):NT w base q L:=by
 refine⟨h,?_⟩
 rcases h with h | ⟨b,o,h1,h2,_⟩
 · exact .inl h
 · exact .inr ⟨b,o,h1,.inl (by omega)⟩
def Row1 (w:World)(base:Nat)(e:TypeId)(v:Value)(xs:List Value):Prop:=w.ownsRow base e 1 v xs.length xs
theorem Row1.nil (w:World)(base:Nat)(e:TypeId):Row1 w base e (.slice none 0 0) []:=World.ownsRow_nil _ _ _ _
theorem Row1.typed {w:World}{base:Nat}{e:TypeId}{v:Value}{xs:List Value}(h:Row1 w base e v xs):∀g,v.ownBlock=some g→base≤g∧Typed w g e:=by
 intro g hg
 rcases h.2 with⟨rfl,_⟩ | ⟨g',cap,cur,rfl,hb,hgg,_⟩
 · simp[Value.ownBlock]at hg
 · simp[Value.ownBlock]at hg
   subst hg
   exact⟨hb,cur,_,hgg⟩
theorem Row1.kept {w w':World}{base:Nat}{e f:TypeId}{v:Value}{xs:List Value}(h:Row1 w base f v xs)(k:Kept base e w w')(hf:f≠e):Row1 w' base f v xs:=by
 refine⟨h.1,?_⟩
 rcases h.2 with hn | ⟨g,cap,cur,rfl,hb,hgg,rest⟩
 · exact .inl hn
 · exact .inr ⟨g,cap,cur,rfl,hb,(k.typed g f hf ⟨cur,_,hgg⟩).trans hgg,rest⟩
theorem Row1.slice {w:World}{base:Nat}{e:TypeId}{v:Value}{xs:List Value}(h:Row1 w base e v xs):∃q c,v= .slice q xs.length c∧xs.length≤c∧c≤maxLen∧(xs=[]∨∃g,q=some ⟨g,0,none⟩∧Typed w g e∧base≤g∧∀i u,xs[i]? =some u→w.cell? ⟨g,i,none⟩=some u):=by
 have hc:=fun g hg=>World.ownsRow.cells h (g:=g) hg
 have ht:=h.typed
 rcases h.2 with⟨rfl,hn⟩ | ⟨g,cap,cur,rfl,hb,hgg,hle,hm,_⟩
 · obtain rfl:=List.eq_nil_of_length_eq_zero hn
   exact⟨none,0,rfl,Nat.le_refl _,Nat.zero_le _,.inl rfl⟩
 · refine⟨some ⟨g,0,none⟩,cap,rfl,hle,hm,.inr ⟨g,rfl,(ht g rfl).2,hb,fun i u hu=>?_⟩⟩
   have:=hc g rfl i u hu
   have hadd:(⟨g,0,none⟩:Addr).add i=⟨g,i,none⟩:=by unfold Addr.add;split<;>simp_all
   rw[hadd]at this
   exact this
theorem append_cell (w:World){ops:Array Oper}{rest:List Oper}{o:Oper}{a:Act}{Q:Exit→Act→World→Prop}(hgd:o.guard=none)(s x:Operand)(t e:TypeId)
 (ho:o.op= .call { callee:=.builtin .append,args:= #[s,x],argTypes:= #[t,t] }) (ht:Tryz.prog.underlying t=some (.slice e)) (z:Value) (bytes:Nat)
 (hinfo:(Tryz.prog.info? e).map (fun i=>(i.zero,i.size,i.bytes))=some (some z,1,bytes)) (hz:z.cells.size=1)
 (base:Nat) (v:Value) (xs:List Value) (hs:a.eval s=v) (hown:Row1 w base e v xs) (u:Value) (hu:u.oneCell'=true) (hx:a.eval x= .slice (some ⟨w.heap.size,0,none⟩) 1 1)
 (h63:xs.length+1≤maxLen) (hlen:(xs.length+1)*bytes≤140737488355328) (hbase:base≤w.heap.size)
 (h:∀v' w',Row1 w' base e v' (xs++[u])→Kept base e w w'→wpList Tryz.prog ops Q rest (a.put o.dst v') w'):wpList Tryz.prog ops Q (o::rest) a (w.alloc (.cells #[u] e)):=by
 obtain⟨i0,hi,hz0,hz1,hz2⟩:=info_parts hinfo
 have hown2:(w.alloc (.cells #[u] e)).ownsRow base e 1 v xs.length xs:=World.ownsRow.alloc hown _
 refine wpList_append_own _ hgd s x t ho base e i0 z 1 bytes ht hi hz0 hz1 hz2 hz (by decide) v xs.length xs hs hown2 ⟨w.heap.size,0,none⟩ 1 1 [u] hx rfl ?_ ?_ h63 hlen ?_ ?_
 · intro j y hj
   match j,hj with
   | 0,hj=>simp at hj;subst hj;simp[Addr.add]
 · intro y hy;simp at hy;subst hy;exact hu
 · simp;omega
 · intro v' w' h1 h2 _
   refine h v' w' (by unfold Row1;rw[List.length_append];exact h1) ?_
   refine⟨((Below.refl base w).alloc hbase (.cells #[u] e)).grown h2 (by simp;omega) (fun k hk=>(hown.typed k hk).1),fun b f hf hty=>?_⟩
   have hlt:=hty.lt
   rw[h2.block b (by simp;omega) (fun hb=>?_)]
   · exact Below.heap_alloc _ _ _ hlt
   · exact(hown.typed b hb.symm).2.ne hty (fun hh=>hf hh.symm) rfl
def ncells (L:List Nd):List Value:=L.flatMap fun x=>[.int .i64 x.op,.int .i64 x.n,.string x.s,.string x.t]
theorem ncells_length (L:List Nd):(ncells L).length=L.length*4:=by
 induction L with
 | nil=>rfl
 | cons x L ih=>simp[ncells]at *; omega
theorem ncells_at (L:List Nd)(i j:Nat)(hj:j<4):(ncells L)[i*4+j]? =(L[i]?).bind fun x=>[Value.int .i64 x.op,.int .i64 x.n,.string x.s,.string x.t][j]? :=by
 induction L generalizing i with
 | nil=>simp[ncells]
 | cons x L ih=>
   have e:ncells (x::L)=[.int .i64 x.op,.int .i64 x.n,.string x.s,.string x.t]++ncells L:=by simp[ncells]
   rw[e]
   cases i with
   | zero=>
     rw[List.getElem?_append_left (by simp;omega)]
     simp
   | succ i=>
     rw[List.getElem?_append_right (by simp;omega)]
     have:=ih i
     simp only[List.length_cons,List.length_nil,List.getElem?_cons_succ]
     rw[←this]
     congr 1;omega
theorem ncells_one (L:List Nd):∀u∈ncells L,u.oneCell'=true:=by
 intro u hu
 simp only[ncells,List.mem_flatMap]at hu
 obtain⟨x,_,hu⟩:=hu
 simp at hu
 rcases hu with rfl | rfl | rfl | rfl<;>rfl
theorem NL.cells {w:World}{b off:Nat}{L:List Nd}(h:NL w (some ⟨b,off,none⟩) L):∀j u,(ncells L)[j]? =some u→w.cell? ⟨b,off+j,none⟩=some u:=by
 intro j u hu
 rcases h with rfl | ⟨b',o',h1,h2,h3⟩
 · simp[ncells]at hu
 · cases h1
   have hj:j=(j / 4)*4+j % 4:=by omega
   rw[hj,ncells_at L (j / 4) (j % 4) (by omega)]at hu
   cases hx:L[j / 4]? with
   | none=>rw[hx]at hu;simp at hu
   | some x=>
     rw[hx]at hu
     obtain⟨c0,c1,c2,c3,_⟩:=h3 _ x hx
     have hm:j % 4=0∨j % 4=1∨j % 4=2∨j % 4=3:=by omega
     rw[hj]
     rcases hm with e | e | e | e<;>rw[e]at hu ⊢ <;>simp at hu<;>subst hu
     · exact c0
     · rw[←Nat.add_assoc];exact c1
     · rw[←Nat.add_assoc];exact c2
     · rw[←Nat.add_assoc];exact c3
theorem NL.of_row {w:World}{base:Nat}{v:Value}{L:List Nd}(hw:∀x∈L,x.wf)(h:w.ownsRow base 53 4 v L.length (ncells L)):∃q c,v= .slice q L.length c∧NT w 0 q L∧L.length≤c∧c≤maxLen:=by
 have hc:=fun g hg=>World.ownsRow.cells h (g:=g) hg
 rcases h.2 with⟨rfl,hn⟩ | ⟨g,cap,cur,rfl,hb,hgg,hle,hm,_⟩
 · obtain rfl:=List.eq_nil_of_length_eq_zero hn
   exact⟨none,0,rfl,⟨.inl rfl,.inl rfl⟩,Nat.le_refl _,Nat.zero_le _⟩
 · refine⟨_,cap,rfl,⟨.inr ⟨g,0,rfl,(Array.getElem?_eq_some_iff.1 hgg).1,fun i x hx=>?_⟩,.inr ⟨g,0,rfl,.inr ⟨cur,_,hgg⟩⟩⟩,hle,hm⟩
   have q:∀j,j<4→w.cell? ⟨g,i*4+j,none⟩=[Value.int .i64 x.op,.int .i64 x.n,.string x.s,.string x.t][j]? :=fun j hj=>by
    have e:=ncells_at L i j hj
    rw[hx]at e
    have hadd:(⟨g,0,none⟩:Addr).add (i*4+j)=⟨g,i*4+j,none⟩:=by unfold Addr.add;split<;>simp_all
    obtain⟨u,hu⟩:∃u,[Value.int .i64 x.op,.int .i64 x.n,.string x.s,.string x.t][j]? =some u:=⟨_,List.getElem?_eq_getElem (by simpa using hj)⟩
    have:=hc g rfl (i*4+j) u (by rw[e];exact hu)
    rw[hadd]at this
    rw[this,hu]
   refine⟨?_,?_,?_,?_,hw x (List.mem_of_getElem? hx)⟩
   · have:=q 0 (by omega);simpa using this
   · have:=q 1 (by omega);simpa using this
   · have:=q 2 (by omega);simpa using this
   · have:=q 3 (by omega);simpa using this
theorem NT.any {w:World}{base:Nat}{q:Option Addr}{L:List Nd}(h:NT w 0 q L):NT w base q L:=
 ⟨h.1,h.2.imp id fun⟨b,o,h1,h2⟩=>⟨b,o,h1,h2.elim (fun h=>absurd h (Nat.not_lt_zero _)) .inr⟩⟩
theorem NL.wfs {w:World}{q:Option Addr}{L:List Nd}(h:NL w q L):∀x∈L,x.wf:=by
 intro x hx
 obtain⟨i,hi⟩:=List.getElem?_of_mem hx
 rcases h with rfl | ⟨b,o,_,_,h3⟩
 · cases hx
 · exact(h3 i x hi).2.2.2.2
def ON (w:World)(base:Nat)(v:Value)(L:List Nd):Prop:=w.ownsRow base 53 4 v L.length (ncells L)∧∀x∈L,x.wf
theorem ON.slice {w:World}{base:Nat}{v:Value}{L:List Nd}(h:ON w base v L)(hne:L≠[]):∃g cap,v= .slice (some ⟨g,0,none⟩) L.length cap∧base≤g∧g<w.heap.size∧L.length≤cap∧cap≤maxLen∧NL w (some ⟨g,0,none⟩) L∧∀j,w.frozen? ⟨g,j,none⟩=false:=by
 rcases h.1.2 with⟨_,hn⟩ | ⟨g,cap,cur,hv,hb,hgg,hle,hm,_⟩
 · exact absurd (List.eq_nil_of_length_eq_zero hn) hne
 · obtain⟨q,c,e,hnt,_⟩:=NL.of_row h.2 h.1
   rw[hv]at e
   cases e
   refine⟨g,cap,hv,hb,(Array.getElem?_eq_some_iff.1 hgg).1,hle,hm,hnt.1,fun j=>?_⟩
   simp[World.frozen?, hgg]
theorem ncells_append (a b:List Nd):ncells (a++b)=ncells a++ncells b:=by simp[ncells]
theorem ON.typed {w:World}{base:Nat}{v:Value}{L:List Nd}(h:ON w base v L):∀g,v.ownBlock=some g→base≤g∧Typed w g 53:=by
 intro g hg
 rcases h.1.2 with⟨rfl,_⟩ | ⟨g',cap,cur,rfl,hb,hgg,_⟩
 · simp[Value.ownBlock]at hg
 · simp[Value.ownBlock]at hg
   subst hg
   exact⟨hb,cur,_,hgg⟩
theorem ON.below {w w':World}{base:Nat}{v:Value}{L:List Nd}(h:ON w base v L)(k:Below w.heap.size w w'):ON w' base v L:=by
 refine⟨⟨h.1.1,?_⟩,h.2⟩
 rcases h.1.2 with hn | ⟨g,cap,cur,rfl,hb,hgg,rest⟩
 · exact .inl hn
 · exact .inr ⟨g,cap,cur,rfl,hb,(k.block g (Array.getElem?_eq_some_iff.1 hgg).1).trans hgg,rest⟩
theorem append_nodes (w:World){ops:Array Oper}{rest:List Oper}{o:Oper}{a:Act}{Q:Exit→Act→World→Prop}(hgd:o.guard=none)(s x:Operand)
 (ho:o.op= .call { callee:=.builtin .append,args:= #[s,x],argTypes:= #[25,25] })
 (base:Nat) (v:Value) (L:List Nd) (hs:a.eval s=v) (hown:ON w base v L) (M:List Nd) (n:Nat) (hn:M.length=n) (b off c:Nat) (hN:NL w (some ⟨b,off,none⟩) M)
 (hx:a.eval x= .slice (some ⟨b,off,none⟩) n c) (hlen:L.length+M.length≤1099511627776) (hbase:base≤w.heap.size)
 (h:∀v' w',ON w' base v' (L++M)→Kept base 53 w w'→wpList Tryz.prog ops Q rest (a.put o.dst v') w'):wpList Tryz.prog ops Q (o::rest) a w:=by
 subst hn
 obtain⟨i0,hi,hz0,hz1,hz2⟩:=info_parts Tryz.infoNode
 refine wpList_append_own _ hgd s x 25 ho base 53 i0 _ 4 48 Tryz.underlying25 hi hz0 hz1 hz2 rfl (by decide) v L.length (ncells L) hs hown.1 ⟨b,off,none⟩ M.length c (ncells M) hx (ncells_length M) ?_ (ncells_one _) (by unfold maxLen;omega) (by omega) hbase ?_
 · intro j u hu
   have hadd:(⟨b,off,none⟩:Addr).add j=⟨b,off+j,none⟩:=by unfold Addr.add;split<;>simp_all
   rw[hadd];exact hN.cells j u hu
 · intro v' w' h1 h2 _
   refine h v' w' ⟨?_,fun x hx=>?_⟩ ⟨(Below.refl base w).grown h2 hbase (fun k hk=>(hown.typed k hk).1),fun bb f hf hty=>h2.block bb hty.lt (fun e=>(hown.typed bb e.symm).2.ne hty (fun hh=>hf hh.symm) rfl)⟩
   · rw[ncells_append,List.length_append];exact h1
   · rcases List.mem_append.1 hx with hx | hx
     · exact hown.2 x hx
     · exact hN.wfs x hx
set_option maxRecDepth 100000
theorem NL.lit (w:World)(L:List Nd)(cs:Array Value)(hw:∀x∈L,x.wf)(hc:cs.toList=ncells L)(hl:L.length≤1000):NL (w.alloc (.cells cs 53)) (some ⟨w.heap.size,0,none⟩) L:=by
 have hs:cs.size=L.length*4:=by rw[←ncells_length,←hc];simp
 obtain⟨q,c,e,h,_⟩:=NL.of_row (base:=0) (v:=.slice (some ⟨w.heap.size,0,none⟩) L.length L.length) hw (w:=w.alloc (.cells cs 53)) ⟨ncells_length L,.inr ⟨w.heap.size,L.length,cs,rfl,Nat.zero_le _,heap_alloc_new _ _,Nat.le_refl _,by unfold maxLen;omega,hs,by rw[hc,←ncells_length,List.take_length]⟩⟩
 cases e
 exact h.1
theorem Tryz.infoList:(Tryz.prog.info? 25).map (fun i=>(i.zero,i.size,i.bytes))=some (some (.slice none 0 0),1,24):=by kernel_rfl
def OL (w:World)(base:Nat)(v:Value)(vs:List (List Nd)):Prop:=
 ∃xs,Row1 w base 25 v xs∧xs.length=vs.length∧∀(i:Nat) u L,xs[i]? =some u→vs[i]? =some L→∃q c,u= .slice q L.length c∧NT w base q L∧L.length≤c∧c≤maxLen
theorem OL.nil (w:World)(base:Nat):OL w base (.slice none 0 0) []:=⟨[],Row1.nil _ _ _,rfl,fun i u L h=>by simp at h⟩
theorem OL.kept {w w':World}{base:Nat}{e:TypeId}{v:Value}{vs:List (List Nd)}(h:OL w base v vs)(k:Kept base e w w')(h1:25≠e)(h2:53≠e):OL w' base v vs:=by
 obtain⟨xs,hr,hl,he⟩:=h
 exact⟨xs,hr.kept k h1,hl,fun i u L hu hL=>by
  obtain⟨q,c,e1,e2,e3⟩:=he i u L hu hL
  exact⟨q,c,e1,e2.kept k h2,e3⟩⟩
theorem OL.below {w w':World}{base:Nat}{v:Value}{vs:List (List Nd)}(h:OL w base v vs)(k:Below w.heap.size w w')(hb:base≤w.heap.size):OL w' base v vs:=
 h.kept (e:=312) (Kept.of_below k hb) (by decide) (by decide)
theorem OL.lists {w:World}{base:Nat}{v:Value}{vs:List (List Nd)}(h:OL w base v vs):∃q c,v= .slice q vs.length c∧LL w q vs∧vs.length≤c∧c≤maxLen:=by
 obtain⟨xs,hr,hl,he⟩:=h
 obtain⟨q,c,rfl,h1,h2,h3⟩:=hr.slice
 refine⟨q,c,by rw[hl],?_,by omega,h2⟩
 rcases h3 with rfl | ⟨g,rfl,ht,_,hc⟩
 · exact .inl (List.eq_nil_of_length_eq_zero (by rw[←hl];rfl))
 · refine .inr ⟨g,0,rfl,ht.lt,fun i L hL=>?_⟩
   have hi:i<xs.length:=by rw[hl];exact(List.getElem?_eq_some_iff.1 hL).1
   obtain⟨q',c',e1,e2,e3⟩:=he i xs[i] L (List.getElem?_eq_getElem hi) hL
   refine⟨q',c',?_,e2.1,e3⟩
   rw[Nat.zero_add,←e1]
   exact hc i _ (List.getElem?_eq_getElem hi)
theorem append_list (w:World){ops:Array Oper}{rest:List Oper}{o:Oper}{a:Act}{Q:Exit→Act→World→Prop}(hgd:o.guard=none)(s x:Operand)
 (ho:o.op= .call { callee:=.builtin .append,args:= #[s,x],argTypes:= #[67,67] })
 (base:Nat) (v:Value) (vs:List (List Nd)) (hs:a.eval s=v) (hown:OL w base v vs) (L:List Nd) (q:Option Addr) (c:Nat) (hN:NT w base q L) (hlc:L.length≤c) (hcm:c≤maxLen)
 (hx:a.eval x= .slice (some ⟨w.heap.size,0,none⟩) 1 1) (hlen:vs.length+1≤1099511627776) (hbase:base≤w.heap.size)
 (h:∀v' w',OL w' base v' (vs++[L])→Kept base 25 w w'→wpList Tryz.prog ops Q rest (a.put o.dst v') w'):wpList Tryz.prog ops Q (o::rest) a (w.alloc (.cells #[.slice q L.length c] 25)):=by
 obtain⟨xs,hr,hl,he⟩:=hown
 refine append_cell w hgd s x 67 25 ho Tryz.underlying67 (.slice none 0 0) 24 Tryz.infoList rfl base v xs hs hr (.slice q L.length c) rfl hx (by unfold maxLen;omega) (by omega) hbase ?_
 intro v' w' h1 k
 refine h v' w' ⟨xs++[.slice q L.length c],h1,by simp[hl],fun i u L' hu hL'=>?_⟩ k
 by_cases hi:i<xs.length
 · rw[List.getElem?_append_left hi]at hu
   rw[List.getElem?_append_left (by omega)]at hL'
   obtain⟨q',c',e1,e2,e3⟩:=he i u L' hu hL'
   exact⟨q',c',e1,e2.kept k (by decide),e3⟩
 · have hi2:i=xs.length:=by
    have:=(List.getElem?_eq_some_iff.1 hu).1
    simp at this;omega
   subst hi2
   rw[List.getElem?_append_right (Nat.le_refl _)]at hu
   rw[List.getElem?_append_right (by omega),hl]at hL'
   simp at hu hL'
   subst hu hL'
   exact⟨q,c,rfl,hN.kept k (by decide),hlc,hcm⟩
def thrown:List PanicEntry:=[{ v:=.iface 28 (.int .i64 1),recovered:=false }]
theorem need_true (w:World):Calls Tryz.prog 96 #[.bool true] w fun e w'=>e= .returned (.tuple #[])∧w'=w:=by
 go_enter Tryz.func96,Tryz.ntmps96
 go_wp2
 go_end0
 exact⟨rfl,rfl⟩
theorem need_false (w:World):Calls Tryz.prog 96 #[.bool false] w fun e w'=>e= .panicked thrown∧w'=w:=by
 go_enter Tryz.func96,Tryz.ntmps96
 go_wp2
 exact⟨rfl,rfl,rfl⟩
theorem isText_any (s:ByteArray)(w:World)(hs:s.size≤maxLen):
 Calls Tryz.prog 172 #[.string s] w fun e w'=>e= .returned (.bool (textOk s.data.toList))∧Below w.heap.size w w':=by
 by_cases h:60<s.size
 · have HT:Hid (textOk s.data.toList=false):=by show _=_;unfold textOk;simp;intro hh;omega
   go_enter Tryz.func172,Tryz.ntmps172
   go_wp2_with fail
   refine(quote_full s _ hs h).mono ?_
   rintro e w1 ⟨rfl,rfl⟩
   go_wp2
   go_ret
   exact⟨ret_bool HT.out.symm,Below.refl _ _⟩
 · cases ho:s.data.toList.all okb
   · have HT:Hid (textOk s.data.toList=false):=by show _=_;unfold textOk;rw[ho];simp
     go_enter Tryz.func172,Tryz.ntmps172
     go_wp2_with fail
     refine(quote_short s _ (by omega)).mono ?_
     rintro e w1 ⟨rfl,hb⟩
     rw[qres_bad ho]
     go_wp2
     go_ret
     exact⟨ret_bool HT.out.symm,hb⟩
   · have HT:Hid (textOk s.data.toList=true):=by show _=_;unfold textOk;rw[ho];simp;omega
     go_enter Tryz.func172,Tryz.ntmps172
     go_wp2_with fail
     refine(quote_short s _ (by omega)).mono ?_
     rintro e w1 ⟨rfl,hb⟩
     rw[qres_ok ho]
     go_wp2
     go_ret
     exact⟨ret_bool HT.out.symm,hb⟩
theorem mayBe_any (x:Nd)(w:World)(hx:x.wf):
 Calls Tryz.prog 136 #[x.val] w fun e w'=>e= .returned (.bool (ndOk x))∧Below w.heap.size w w':=by
 obtain⟨op,n,s,t⟩:=x
 obtain⟨hs,ht,_⟩:=hx
 unfold Nd.val
 have hal:∀o w',Below (w.alloc o).heap.size (w.alloc o) w'→Below w.heap.size w w':=fun o w' h=>((Below.refl _ _).alloc (Nat.le_refl _) _).trans (h.mono (by simp))
 have HL:Hid (∀o w',Below (w.alloc o).heap.size (w.alloc o) w'→Below w.heap.size w w'):=hal
 clear hal
 by_cases h1:op=1
 · subst h1
   go_enter Tryz.func136,Tryz.ntmps136
   go_wp2
   all_goals
    go_ret
    refine⟨ret_bool ?_,HL.out _ _ (Below.refl _ _)⟩
    simp_all [ndOk,←ByteArray.toList_eq]
 by_cases h2:op=2
 · subst h2
   go_enter Tryz.func136,Tryz.ntmps136
   go_wp2
   all_goals
    go_ret
    refine⟨ret_bool ?_,HL.out _ _ (Below.refl _ _)⟩
    simp_all [ndOk,←ByteArray.toList_eq]
 by_cases h3:op=3
 · subst h3
   have HT:=fun w=>isText_any s w hs
   cases hT:textOk s.data.toList<;>rw[hT]at HT
   all_goals
    go_enter Tryz.func136,Tryz.ntmps136
    go_wp2_with (go_at_call 172;refine(HT _).mono ?_;rintro e w1 ⟨rfl,hb⟩)
    all_goals
     go_ret
     refine⟨ret_bool ?_,HL.out _ _ (by first | assumption | exact Below.refl _ _)⟩
     simp_all [ndOk,ByteArray.toList_eq]
 by_cases h4:op=4
 · subst h4
   have HT:=fun w=>isText_any t w ht
   have HC:=fun w=>check_any s w hs
   by_cases hn:nfault s.data.toList=0
   · rw[eV_nil hn]at HC
     cases hT:textOk t.data.toList<;>rw[hT]at HT
     all_goals
      go_enter Tryz.func136,Tryz.ntmps136
      go_wp2_with (first | (go_at_call 172;refine(HT _).mono ?_;rintro e w1 ⟨rfl,hb⟩) | (go_at_call 61;refine(HC _).mono ?_;rintro e w1 ⟨rfl,rfl⟩))
      all_goals
       go_ret
       refine⟨ret_bool ?_,HL.out _ _ (by first | assumption | exact Below.refl _ _)⟩
       simp_all [ndOk]
   · rw[eV_not hn]at HC
     go_enter Tryz.func136,Tryz.ntmps136
     go_wp2_with (first | (go_at_call 172;refine(HT _).mono ?_;rintro e w1 ⟨rfl,hb⟩) | (go_at_call 61;refine(HC _).mono ?_;rintro e w1 ⟨rfl,rfl⟩))
     all_goals
      go_ret
      refine⟨ret_bool ?_,HL.out _ _ (by first | assumption | exact Below.refl _ _)⟩
      simp_all [ndOk]
 by_cases h56:op=5∨op=6
 · rcases h56 with rfl | rfl
   all_goals
    go_enter Tryz.func136,Tryz.ntmps136
    go_wp2
    all_goals
     go_ret
     refine⟨ret_bool ?_,HL.out _ _ (Below.refl _ _)⟩
     simp_all [ndOk,←ByteArray.toList_eq]
 by_cases h7:op=7
 · subst h7
   have HC:=fun w=>check_any s w hs
   by_cases hn:nfault s.data.toList=0
   · rw[eV_nil hn]at HC
     go_enter Tryz.func136,Tryz.ntmps136
     go_wp2_with (go_at_call 61;refine(HC _).mono ?_;rintro e w1 ⟨rfl,rfl⟩)
     all_goals
      go_ret
      refine⟨ret_bool ?_,HL.out _ _ (Below.refl _ _)⟩
      simp_all [ndOk,ByteArray.toList_eq]
   · rw[eV_not hn]at HC
     go_enter Tryz.func136,Tryz.ntmps136
     go_wp2_with (go_at_call 61;refine(HC _).mono ?_;rintro e w1 ⟨rfl,rfl⟩)
     all_goals
      go_ret
      refine⟨ret_bool ?_,HL.out _ _ (Below.refl _ _)⟩
      simp_all [ndOk,ByteArray.toList_eq]
 · have j5:¬op=5:=fun h=>h56 (.inl h)
   have j6:¬op=6:=fun h=>h56 (.inr h)
   have e1:(op == 1)=false:=by simpa using h1
   have e2:(op == 2)=false:=by simpa using h2
   have e3:(op == 3)=false:=by simpa using h3
   have e4:(op == 4)=false:=by simpa using h4
   have e5:(op == 5)=false:=by simpa using j5
   have e6:(op == 6)=false:=by simpa using j6
   have e7:(op == 7)=false:=by simpa using h7
   have HN:Hid (ndOk ⟨op,n,s,t⟩=false):=by show _=_;simp[ndOk,h1,h2,h3,h4,j5,j6,h7]
   clear h1 h2 h3 h4 h56 j5 j6 h7
   go_enter Tryz.func136,Tryz.ntmps136
   go_wp2
   go_ret
   exact⟨ret_bool HN.out.symm,HL.out _ _ (Below.refl _ _)⟩
def bare (x:Nd):Bool:=x.n == 0 && (x.s.data.toList.isEmpty && x.t.data.toList.isEmpty)
def justS (x:Nd):Bool:=x.n == 0 && x.t.data.toList.isEmpty
theorem tName_any (s:ByteArray)(w:World)(hs:s.size≤maxLen):
 Calls Tryz.prog 101 #[.string s] w fun e w'=>e= .returned (.bool (nfault s.data.toList == 0))∧w'=w:=by
 have HC:=fun w=>check_any s w hs
 cases h:(nfault s.data.toList == 0)
 · rw[eV_not (by simpa using h)]at HC
   go_enter Tryz.func101,Tryz.ntmps101
   go_wp2_with fail
   refine(HC _).mono ?_
   rintro e w1 ⟨rfl,rfl⟩
   go_wp2
   go_ret
   exact⟨rfl,rfl⟩
 · rw[eV_nil (by simpa using h)]at HC
   go_enter Tryz.func101,Tryz.ntmps101
   go_wp2_with fail
   refine(HC _).mono ?_
   rintro e w1 ⟨rfl,rfl⟩
   go_wp2
   go_ret
   exact⟨rfl,rfl⟩
theorem tText_any (s:ByteArray)(w:World)(hs:s.size≤maxLen):
 Calls Tryz.prog 102 #[.string s] w fun e w'=>e= .returned (.bool (textOk s.data.toList))∧Below w.heap.size w w':=by
 have HC:=fun w=>quoteN_any s w hs
 cases h:textOk s.data.toList
 · have hn:=tfault_not h
   rw[eV_not hn]at HC
   go_enter Tryz.func102,Tryz.ntmps102
   go_wp2_with fail
   refine(HC _).mono ?_
   rintro e w1 ⟨q,_,rfl,hb⟩
   go_wp2
   go_ret
   exact⟨rfl,hb⟩
 · have hn:=tfault_ok h
   rw[eV_nil hn]at HC
   go_enter Tryz.func102,Tryz.ntmps102
   go_wp2_with fail
   refine(HC _).mono ?_
   rintro e w1 ⟨q,_,rfl,hb⟩
   go_wp2
   go_ret
   exact⟨rfl,hb⟩
theorem hasNothing_any (x:Nd)(w:World):
 Calls Tryz.prog 100 #[x.val] w fun e w'=>e= .returned (.bool (bare x))∧Below w.heap.size w w':=by
 obtain⟨op,n,s,t⟩:=x
 unfold Nd.val
 have HL:Hid (∀o w',Below (w.alloc o).heap.size (w.alloc o) w'→Below w.heap.size w w'):=fun o w' h=>((Below.refl _ _).alloc (Nat.le_refl _) _).trans (h.mono (by simp))
 go_enter Tryz.func100,Tryz.ntmps100
 go_wp2
 all_goals
  go_ret
  refine⟨ret_bool ?_,HL.out _ _ (Below.refl _ _)⟩
  simp_all [bare,←ByteArray.toList_eq]
theorem hasJustS_any (x:Nd)(w:World):
 Calls Tryz.prog 98 #[x.val] w fun e w'=>e= .returned (.bool (justS x))∧Below w.heap.size w w':=by
 obtain⟨op,n,s,t⟩:=x
 unfold Nd.val
 have HL:Hid (∀o w',Below (w.alloc o).heap.size (w.alloc o) w'→Below w.heap.size w w'):=fun o w' h=>((Below.refl _ _).alloc (Nat.le_refl _) _).trans (h.mono (by simp))
 go_enter Tryz.func98,Tryz.ntmps98
 go_wp2
 all_goals
  go_ret
  refine⟨ret_bool ?_,HL.out _ _ (Below.refl _ _)⟩
  simp_all [justS,←ByteArray.toList_eq]
theorem isWord_any (s:ByteArray)(w:World):
 Calls Tryz.prog 140 #[.string s] w fun e w'=>e= .returned (.bool (rsv s.data.toList))∧w'=w:=by
 go_enter Tryz.func140,Tryz.ntmps140
 go_wp2
 all_goals
  go_ret
  refine⟨ret_bool ?_,rfl⟩
  simp_all [rsv,ByteArray.toList_eq]
theorem head_byte (s:ByteArray)(h:1≤s.size):(s.extract 0 1).data.toList=s.data.toList.take 1:=by simp
theorem tail_bytes (s:ByteArray):(s.extract 1 s.size).data.toList=s.data.toList.tail:=by
 simp[List.take_of_length_le]
theorem take_head {l:List UInt8}(c:UInt8):l.take 1=[c]↔l.head? =some c:=by cases l<;>simp
theorem hasPrefix_any (s:ByteArray)(w:World)(hs:s.size≤maxLen):
 Calls Tryz.prog 193 #[.string s,.string ⟨#[63]⟩] w fun e w'=>e= .returned (.bool (decide (s.data.toList.head? =some 63)))∧w'=w:=by
 unfold maxLen at hs
 have hl:s.data.toList.length=s.size:=by simp
 by_cases h1:1≤s.size
 · have h1':(1:Int)≤(s.size:Int):=by omega
   have HE:Hid (((s.extract 0 1).toList=[63])↔s.data.toList.head? =some 63):=by
    show(_↔_)
    rw[ByteArray.toList_eq,head_byte s h1,take_head]
   go_enter Tryz.func193,Tryz.ntmps193
   go_wp2
   go_ret
   refine⟨ret_bool ?_,rfl⟩
   rw[Bool.eq_iff_iff,beq_iff_eq,decide_eq_true_iff]
   exact HE.out
 · have h1':¬(1:Int)≤(s.size:Int):=by omega
   have HE:Hid (decide (s.data.toList.head? =some 63)=false):=by
    show _=_
    have:s.data.toList=[]:=List.eq_nil_of_length_eq_zero (by omega)
    rw[this];rfl
   go_enter Tryz.func193,Tryz.ntmps193
   go_wp2
   go_ret
   exact⟨ret_bool HE.out.symm,rfl⟩
def slotOf (s:ByteArray):ByteArray:=if s.data.toList.head? =some 63 then s.extract 1 s.size else s
theorem cutPrefix_yes (s:ByteArray)(w:World)(hs:s.size≤maxLen)(h:s.data.toList.head? =some 63):
 Calls Tryz.prog 139 #[.string s,.string ⟨#[63]⟩] w fun e w'=>e= .returned (.tuple #[.string (s.extract 1 s.size),.bool true])∧w'=w:=by
 have hl:s.data.toList.length=s.size:=by simp
 have h1:1≤s.size:=by
  cases e:s.data.toList with
  | nil=>rw[e]at h;cases h
  | cons a l=>rw[e]at hl;simp at hl;omega
 have h1':(1:Int)≤(s.size:Int):=by omega
 have HP:=fun w=>hasPrefix_any s w hs
 rw[decide_eq_true h]at HP
 unfold maxLen at hs
 have hin:Calls Tryz.prog 173 #[.string s,.string ⟨#[63]⟩] w fun e w'=>e= .returned (.tuple #[.string (s.extract 1 s.size),.bool true])∧w'=w:=by
  go_enter Tryz.func173,Tryz.ntmps173
  go_wp2_with fail
  refine(HP _).mono ?_
  rintro e w1 ⟨rfl,rfl⟩
  go_wp2
  go_ret2
  exact⟨rfl,rfl⟩
 go_enter Tryz.func139,Tryz.ntmps139
 go_wp2_with fail
 refine hin.mono ?_
 rintro e w1 ⟨rfl,rfl⟩
 go_wp2
 go_ret2
 exact⟨rfl,rfl⟩
theorem cutPrefix_no (s:ByteArray)(w:World)(hs:s.size≤maxLen)(h:s.data.toList.head? ≠some 63):
 Calls Tryz.prog 139 #[.string s,.string ⟨#[63]⟩] w fun e w'=>e= .returned (.tuple #[.string s,.bool false])∧w'=w:=by
 have HP:=fun w=>hasPrefix_any s w hs
 rw[decide_eq_false h]at HP
 have hin:Calls Tryz.prog 173 #[.string s,.string ⟨#[63]⟩] w fun e w'=>e= .returned (.tuple #[.string s,.bool false])∧w'=w:=by
  go_enter Tryz.func173,Tryz.ntmps173
  go_wp2_with fail
  refine(HP _).mono ?_
  rintro e w1 ⟨rfl,rfl⟩
  go_wp2
  go_ret2
  exact⟨rfl,rfl⟩
 go_enter Tryz.func139,Tryz.ntmps139
 go_wp2_with fail
 refine hin.mono ?_
 rintro e w1 ⟨rfl,rfl⟩
 go_wp2
 go_ret2
 exact⟨rfl,rfl⟩
theorem isVar_any (s:ByteArray)(w:World)(hs:s.size≤maxLen):
 Calls Tryz.prog 99 #[.string s] w fun e w'=>e= .returned (.bool (varOk s.data.toList))∧w'=w:=by
 by_cases h:s.data.toList.head? =some 63
 · have HV:Hid (varOk s.data.toList=(nfault (s.extract 1 s.size).data.toList == 0)):=by
    show _=_
    unfold varOk;rw[if_pos h,tail_bytes]
   have HN:=fun w=>tName_any (s.extract 1 s.size) w (Nat.le_trans (by simp) hs)
   have HP:=fun w=>cutPrefix_yes s w hs h
   clear h
   generalize s.extract 1 s.size=u at *
   go_enter Tryz.func99,Tryz.ntmps99
   go_wp2_with fail
   refine(HP _).mono ?_
   rintro e w1 ⟨rfl,rfl⟩
   go_wp2_with fail
   refine(HN _).mono ?_
   rintro e w1 ⟨rfl,rfl⟩
   go_wp2
   go_ret
   exact⟨ret_bool HV.out.symm,rfl⟩
 · have HV:Hid (varOk s.data.toList=(nfault s.data.toList == 0 && !rsv s.data.toList)):=by
    show _=_
    unfold varOk;rw[if_neg h]
   have HN:=fun w=>tName_any s w hs
   have HP:=fun w=>cutPrefix_no s w hs h
   have HW:=fun w=>isWord_any s w
   clear h
   generalize rsv s.data.toList=r at *
   cases hn:(nfault s.data.toList == 0)<;>rw[hn]at HN HV
   · go_enter Tryz.func99,Tryz.ntmps99
     go_wp2_with fail
     refine(HP _).mono ?_
     rintro e w1 ⟨rfl,rfl⟩
     go_wp2_with fail
     refine(HN _).mono ?_
     rintro e w1 ⟨rfl,rfl⟩
     go_wp2
     go_ret
     exact⟨ret_bool HV.out.symm,rfl⟩
   · go_enter Tryz.func99,Tryz.ntmps99
     go_wp2_with fail
     refine(HP _).mono ?_
     rintro e w1 ⟨rfl,rfl⟩
     go_wp2_with fail
     refine(HN _).mono ?_
     rintro e w1 ⟨rfl,rfl⟩
     go_wp2_with fail
     refine(HW _).mono ?_
     rintro e w1 ⟨rfl,rfl⟩
     go_wp2
     go_ret
     exact⟨ret_bool HV.out.symm,rfl⟩
theorem tField_any (x:Nd)(w:World)(hx:x.wf):
 Calls Tryz.prog 103 #[x.val] w fun e w'=>e= .returned (.bool (x.op == 7 && ndOk x))∧Below w.heap.size w w':=by
 have HJ:=fun w=>hasJustS_any x w
 have HN:=fun w=>tName_any x.s w hx.1
 have HB:Hid ((x.op == 7 && ndOk x)=(x.op == 7 && (justS x && (nfault x.s.data.toList == 0)))):=by
  show _=_
  by_cases h7:x.op=7
  · unfold ndOk justS;simp[h7]
  · have:(x.op == 7)=false:=by simpa using h7
    rw[this];rfl
 rw[HB.out]
 clear HB
 generalize hj:justS x=j at *
 generalize hn:(nfault x.s.data.toList == 0)=n at *
 clear hj hn
 obtain⟨op,m,s,t⟩:=x
 unfold Nd.val at *
 have HL:Hid (∀o w',Below (w.alloc o).heap.size (w.alloc o) w'→Below w.heap.size w w'):=fun o w' h=>((Below.refl _ _).alloc (Nat.le_refl _) _).trans (h.mono (by simp))
 simp only at *
 cases h7:(op == 7)
 · go_enter Tryz.func103,Tryz.ntmps103
   go_wp2
   go_ret
   exact⟨rfl,HL.out _ _ (Below.refl _ _)⟩
 · have hal:∀w',Below (w.alloc (.cells #[.int .i64 op,.int .i64 m,.string s,.string t] 53)).heap.size (w.alloc (.cells #[.int .i64 op,.int .i64 m,.string s,.string t] 53)) w'→w'.cell? ⟨w.heap.size,2,none⟩=some (.string s):=fun w' hb=>(hb.cell (p:=⟨w.heap.size,2,none⟩) (by simp)).trans (by simp[go_sem])
   have HAL:Hid (∀_,_):=hal
   clear hal
   cases j
   · go_enter Tryz.func103,Tryz.ntmps103
     go_wp2_with fail
     refine(HJ _).mono ?_
     rintro e w1 ⟨rfl,hb⟩
     go_wp2
     go_ret
     exact⟨rfl,HL.out _ _ hb⟩
   · go_enter Tryz.func103,Tryz.ntmps103
     go_wp2_with fail
     refine(HJ _).mono ?_
     rintro e w1 ⟨rfl,hb⟩
     have hc:=HAL.out _ hb
     go_wp2_with fail
     refine(HN _).mono ?_
     rintro e w2 ⟨rfl,rfl⟩
     go_wp2
     go_ret
     exact⟨rfl,HL.out _ _ hb⟩
theorem ret_bl {a b:Bool}(h:a=b):Ending.returned (.bool a)= .returned (.bool b):=by rw[h]
theorem tfault_zero (l:List UInt8):(tfault l == 0)=textOk l:=by
 cases h:textOk l
 · simpa using tfault_not h
 · simpa using tfault_ok h
theorem ufault_zero (t i:List UInt8):(ufault t i == 0)=(nfault t == 0 && textOk i):=by
 unfold ufault
 by_cases h:nfault t=0
 · rw[if_pos h,tfault_zero,h];rfl
 · rw[if_neg h]
   have:(nfault t == 0)=false:=by simpa using h
   rw[this];rfl
set_option maxRecDepth 100000 in
theorem valueNode_any (x:Nd)(w:World)(hx:x.wf):
 Calls Tryz.prog 81 #[x.val] w fun e w'=>e= .returned (.bool (ndOk x))∧Below w.heap.size w w':=by
 obtain⟨op,n,s,t⟩:=x
 obtain⟨hs,ht,_⟩:=hx
 unfold Nd.val
 have HL:Hid (∀o w',Below (w.alloc o).heap.size (w.alloc o) w'→Below w.heap.size w w'):=fun o w' h=>((Below.refl _ _).alloc (Nat.le_refl _) _).trans (h.mono (by simp))
 have es:((s.toList == [])=s.data.toList.isEmpty):=by rw[ByteArray.toList_eq];cases s.data.toList<;>rfl
 have et:((t.toList == [])=t.data.toList.isEmpty):=by rw[ByteArray.toList_eq];cases t.data.toList<;>rfl
 cases hse:s.data.toList.isEmpty<;>cases hte:t.data.toList.isEmpty<;>rw[hse]at es<;>rw[hte]at et
 all_goals
  by_cases h1:op=1
  · subst h1
    have hn:n=0∨n=1∨n<0∨1<n:=by omega
    rcases hn with rfl | rfl | hn | hn
    all_goals
     first | (have q0:decide (n≤1)=false:=by simp;omega) | skip
     go_enter Tryz.func81,Tryz.ntmps81
     go_wp2
     all_goals
      go_ret
      refine⟨ret_bl ?_,HL.out _ _ (Below.refl _ _)⟩
      simp[ndOk,hse,hte]
      try omega
  by_cases h2:op=2
  · subst h2
    go_enter Tryz.func81,Tryz.ntmps81
    go_wp2
    go_ret
    refine⟨ret_bl ?_,HL.out _ _ (Below.refl _ _)⟩
    simp[ndOk,hse,hte]
  by_cases h56:op=5∨op=6
  · rcases h56 with rfl | rfl
    all_goals
     by_cases hn:n<0
     · have hn2:decide (0≤n)=false:=by simp;omega
       go_enter Tryz.func81,Tryz.ntmps81
       go_wp2
       go_ret
       refine⟨ret_bl ?_,HL.out _ _ (Below.refl _ _)⟩
       simp[ndOk,hse,hte]
       try omega
     · have hn2:decide (0≤n)=true:=by simp;omega
       go_enter Tryz.func81,Tryz.ntmps81
       go_wp2
       go_ret
       refine⟨ret_bl ?_,HL.out _ _ (Below.refl _ _)⟩
       simp[ndOk,hse,hte]
       try omega
  have e1:(op == 1)=false:=by simpa using h1
  have e2:(op == 2)=false:=by simpa using h2
  have j5:¬op=5:=fun h=>h56 (.inl h)
  have j6:¬op=6:=fun h=>h56 (.inr h)
  have e5:(op == 5)=false:=by simpa using j5
  have e6:(op == 6)=false:=by simpa using j6
  by_cases hn0:n=0
  · subst hn0
    by_cases h3:op=3
    · subst h3
      have HT:=fun w=>textFault_any s w hs
      have hz:=tfault_zero s.data.toList
      generalize htf:tfault s.data.toList=tf at HT hz
      clear htf
      cases hto:textOk s.data.toList<;>rw[hto]at hz
      all_goals
       go_enter Tryz.func81,Tryz.ntmps81
       go_wp2_with (go_at_call 40;refine(HT _).mono ?_;rintro e w1 ⟨rfl,rfl⟩)
       go_ret
       refine⟨ret_bl ?_,HL.out _ _ (Below.refl _ _)⟩
       simp[ndOk,hto,hte]
    have e3:(op == 3)=false:=by simpa using h3
    by_cases h4:op=4
    · subst h4
      have HT:=fun w=>uidFault_any s t w hs ht
      have hz:=ufault_zero s.data.toList t.data.toList
      generalize htf:ufault s.data.toList t.data.toList=tf at HT hz
      clear htf
      cases hto:(nfault s.data.toList == 0 && textOk t.data.toList)<;>rw[hto]at hz
      all_goals
       have HO:Hid (_=_):=hto
       clear hto
       go_enter Tryz.func81,Tryz.ntmps81
       go_wp2_with fail
       refine(HT _).mono ?_
       rintro e w1 ⟨rfl,hb1⟩
       go_wp2
       go_ret
       refine⟨ret_bl ?_,HL.out _ _ hb1⟩
       have:=HO.out
       simp[ndOk]at this ⊢
       try exact this
    have e4:(op == 4)=false:=by simpa using h4
    by_cases h7:op=7
    · subst h7
      have HT:=fun w=>nameFault_any s w hs
      cases hto:(nfault s.data.toList == 0)
      all_goals
       go_enter Tryz.func81,Tryz.ntmps81
       go_wp2_with (go_at_call 39;refine(HT _).mono ?_;rintro e w1 ⟨rfl,rfl⟩)
       go_ret
       refine⟨ret_bl ?_,HL.out _ _ (Below.refl _ _)⟩
       simp[ndOk,hto,hte]
    have e7:(op == 7)=false:=by simpa using h7
    have HN:Hid (ndOk ⟨op,0,s,t⟩=false):=by show _=_;simp[ndOk,h1,h2,h3,h4,j5,j6,h7]
    clear h1 h2 h3 h4 h56 j5 j6 h7
    go_enter Tryz.func81,Tryz.ntmps81
    go_wp2
    go_ret
    exact⟨ret_bl HN.out.symm,HL.out _ _ (Below.refl _ _)⟩
  · have hn1:(n != 0)=true:=by simpa using hn0
    have HN:Hid (ndOk ⟨op,n,s,t⟩=false):=by show _=_;simp[ndOk,h1,h2,j5,j6,hn0]
    clear h1 h2 h56 j5 j6 hn0
    go_enter Tryz.func81,Tryz.ntmps81
    go_wp2
    go_ret
    exact⟨ret_bl HN.out.symm,HL.out _ _ (Below.refl _ _)⟩
theorem quiet_more {P:Program}{f:FuncId}{args:Array Value}{w:World}{a n:Nat}{v:Value}
 (h:∀w,Calls P f args w fun e w'=>e= .returned v∧∃m,w'=w.drewN m):Calls P f args (w.drewN (a+n)) fun e w''=>e= .returned v∧∃m,w''=w.drewN (a+m):=
 (h _).mono fun _ _ ⟨he,m,hm⟩=>⟨he,n+m,by rw[hm,World.drewN_drewN,Nat.add_assoc]⟩
theorem quiet_ones {P:Program}{f:FuncId}{args:Array Value}{w:World}{n:Nat}{v:Value}
 (h:∀w,Calls P f args w fun e w'=>e= .returned v∧∃m,w'=w.drewN m):Calls P f args (w.drewN n) fun e w''=>e= .returned v∧∃m,w''=w.drewN m:=
 (h _).mono fun _ _ ⟨he,m,hm⟩=>⟨he,n+m,by rw[hm,World.drewN_drewN]⟩
theorem quiet_none {P:Program}{f:FuncId}{args:Array Value}{v:Value}
 (h:∀w,Calls P f args w fun e w'=>e= .returned v∧w'=w) (w:World):Calls P f args w fun e w'=>e= .returned v∧∃m,w'=w.drewN m:=
 (h w).mono fun _ _ ⟨he,hm⟩=>⟨he,0,hm⟩
set_option maxRecDepth 100000 in
theorem refNodes_any (a b:List Nd)(p q:Option Addr)(c1 c2:Nat)(w:World)(ha:NL w p a)(hb:NL w q b)(la:a.length≤maxLen)(lb:b.length≤maxLen):
 Calls Tryz.prog 49 #[.slice p a.length c1,.slice q b.length c2] w fun e w'=>e= .returned (.int .i64 (lsC a b))∧∃n,w'=w.drewN n:=by
 unfold maxLen at la lb
 go_enter Tryz.func49,Tryz.ntmps49
 go_wp2
 go_loopw [5] (fun i wr=>∃k n:Nat,k≤a.length∧k≤b.length∧i= .int .i64 k∧wr=w.drewN n∧Hid (lsC (a.drop k) (b.drop k)=lsC a b)) (fun i _=>a.length-(intOf i).toNat)
 case atStart=>exact⟨0,0,Nat.zero_le _,Nat.zero_le _,rfl,rfl,rfl⟩
 case round=>
  obtain⟨k,n,hk,hk2,rfl,hwr,HD⟩:=hrel
  have ha':NL wr p a:=by rw[hwr];exact ha
  have hb':NL wr q b:=by rw[hwr];exact hb
  have HW:Hid (_=_):=hwr
  clear hwr
  by_cases hlt:k<a.length
  · have i1:(k:Int)<(a.length:Int):=by omega
    by_cases hlt2:k<b.length
    · have i2:(k:Int)<(b.length:Int):=by omega
      obtain⟨b1,o1,rfl,hb1,x0,x1,x2,x3,xw⟩:=ha'.at hlt
      obtain⟨b2,o2,rfl,hb2,y0,y1,y2,y3,yw⟩:=hb'.at hlt2
      have HS:Hid (_=_):=lsC_step a b k a[k] b[k] (List.getElem?_eq_getElem hlt) (List.getElem?_eq_getElem hlt2)
      generalize a[k]=x at *
      generalize b[k]=y at *
      have N1:=fun w=>numC_any x.op y.op w
      have N2:=fun w=>numC_any x.n y.n w
      have T1:=fun w=>textC_any x.s y.s w xw.1 yw.1
      have T2:=fun w=>textC_any x.t y.t w xw.2.1 yw.2.1
      have HO:Hid (ndC x y=orI [cmpI x.op y.op,cmpI x.n y.n,cmpB x.s y.s,cmpB x.t y.t]):=rfl
      generalize cmpI x.op y.op=d1 at *
      generalize cmpI x.n y.n=d2 at *
      generalize cmpB x.s y.s=d3 at *
      generalize cmpB x.t y.t=d4 at *
      generalize ndC x y=z at *
      cases q1:(d1 == 0)
      · have m:(d1 != 0)=true:=by simpa using q1
        have HZ:Hid (z=d1):=by show _=_;rw[HO.out];simp[orI,(by simpa using q1:¬d1=0)]
        clear HO
        go_wp2
        go_quiet ((go_at_call 83;first | exact quiet_ones (quiet_none N1) | exact quiet_more (quiet_none N1)))
        go_wp2
        go_ret
        exact⟨ret_num (by rw[←HD.out,HS.out,HZ.out,if_neg (by simpa using q1)]),_,by rw[HW.out];simp only[World.drewN_drewN];rfl⟩
      · have r1:d1=0:=by simpa using q1
        cases q2:(d2 == 0)
        · have m:(d2 != 0)=true:=by simpa using q2
          have HZ:Hid (z=d2):=by show _=_;rw[HO.out];simp[orI,r1,(by simpa using q2:¬d2=0)]
          clear HO
          go_wp2
          go_quiet ((go_at_call 83;first | exact quiet_ones (quiet_none N1) | exact quiet_more (quiet_none N1)))
          go_wp2
          go_quiet ((go_at_call 83;first | exact quiet_ones (quiet_none N2) | exact quiet_more (quiet_none N2)))
          go_wp2
          go_ret
          exact⟨ret_num (by rw[←HD.out,HS.out,HZ.out,if_neg (by simpa using q2)]),_,by rw[HW.out];simp only[World.drewN_drewN];rfl⟩
        · have r2:d2=0:=by simpa using q2
          cases q3:(d3 == 0)
          · have m:(d3 != 0)=true:=by simpa using q3
            have HZ:Hid (z=d3):=by show _=_;rw[HO.out];simp[orI,r1,r2,(by simpa using q3:¬d3=0)]
            clear HO
            go_wp2
            go_quiet ((go_at_call 83;first | exact quiet_ones (quiet_none N1) | exact quiet_more (quiet_none N1)))
            go_wp2
            go_quiet ((go_at_call 83;first | exact quiet_ones (quiet_none N2) | exact quiet_more (quiet_none N2)))
            go_wp2
            go_quiet ((go_at_call 45;first | exact quiet_ones T1 | exact quiet_more T1))
            go_wp2
            go_ret
            exact⟨ret_num (by rw[←HD.out,HS.out,HZ.out,if_neg (by simpa using q3)]),_,by rw[HW.out];simp only[World.drewN_drewN];rfl⟩
          · have r3:d3=0:=by simpa using q3
            cases q4:(d4 == 0)
            · have m:(d4 != 0)=true:=by simpa using q4
              have HZ:Hid (z=d4):=by show _=_;rw[HO.out];simp[orI,r1,r2,r3,(by simpa using q4:¬d4=0)]
              clear HO
              go_wp2
              go_quiet ((go_at_call 83;first | exact quiet_ones (quiet_none N1) | exact quiet_more (quiet_none N1)))
              go_wp2
              go_quiet ((go_at_call 83;first | exact quiet_ones (quiet_none N2) | exact quiet_more (quiet_none N2)))
              go_wp2
              go_quiet ((go_at_call 45;first | exact quiet_ones T1 | exact quiet_more T1))
              go_wp2
              go_quiet ((go_at_call 45;first | exact quiet_ones T2 | exact quiet_more T2))
              go_wp2
              go_ret
              exact⟨ret_num (by rw[←HD.out,HS.out,HZ.out,if_neg (by simpa using q4)]),_,by rw[HW.out];simp only[World.drewN_drewN];rfl⟩
            · have r4:d4=0:=by simpa using q4
              have m:(d4 != 0)=false:=by simpa using q4
              have HZ:Hid (z=0):=by show _=_;rw[HO.out];simp[orI,r1,r2,r3,r4]
              clear HO r1 r2 r3 r4
              go_wp2
              go_quiet ((go_at_call 83;first | exact quiet_ones (quiet_none N1) | exact quiet_more (quiet_none N1)))
              go_wp2
              go_quiet ((go_at_call 83;first | exact quiet_ones (quiet_none N2) | exact quiet_more (quiet_none N2)))
              go_wp2
              go_quiet ((go_at_call 45;first | exact quiet_ones T1 | exact quiet_more T1))
              go_wp2
              go_quiet ((go_at_call 45;first | exact quiet_ones T2 | exact quiet_more T2))
              go_wp2
              go_roundw
              case rel=>exact⟨k+1,_,by omega,by omega,by go_num,by rw[HW.out];simp only[World.drewN_drewN];rfl,by show _=_;rw[←HD.out,HS.out,HZ.out,if_pos rfl]⟩
              case measure=>simp[intOf];omega
    · have i2:¬(k:Int)<(b.length:Int):=by omega
      have HS:Hid (_=_):=lsC_more a b k hlt (by omega)
      go_wp2_with fail
      refine(numC_any _ _ _).mono ?_
      rintro e w1 ⟨rfl,rfl⟩
      go_wp2
      go_ret
      exact⟨ret_num (by rw[←HD.out,HS.out];unfold cmpI;repeat' split<;>omega),_,HW.out⟩
  · have i1:¬(k:Int)<(a.length:Int):=by omega
    have HS:Hid (cmpI a.length b.length=lsC a b):=by
     show _=_
     rw[←HD.out]
     by_cases hlt2:k<b.length
     · rw[lsC_less a b k (by omega) hlt2];unfold cmpI;repeat' split<;>omega
     · rw[lsC_done a b k (by omega) (by omega)];unfold cmpI;repeat' split<;>omega
    go_wp2_with fail
    refine(numC_any _ _ _).mono ?_
    rintro e w1 ⟨rfl,rfl⟩
    go_wp2
    go_ret
    exact⟨ret_num HS.out,_,HW.out⟩
def EndOk (f:Nat):Prop:=∀(v:List Nd) (b off c at_:Nat) (field:Bool) (w:World),at_≤v.length→v.length-at_<f→NL w (some ⟨b,off,none⟩) v→b<w.heap.size→v.length≤c→c≤maxLen→
 Calls Tryz.prog 42 #[.slice (some ⟨b,off,none⟩) v.length c,.int .i64 at_,.bool field] w fun e w'=>e= .returned (.int .i64 (endI v.length (pastF f field (v.drop at_))))∧Below w.heap.size w w'
theorem valueEnd_past (p:Option Addr)(n c:Nat)(field:Bool)(w:World)(hn:n≤maxLen):
 Calls Tryz.prog 42 #[.slice p n c,.int .i64 n,.bool field] w fun e w'=>e= .returned (.int .i64 (-1))∧w'=w:=by
 unfold maxLen at hn
 go_enter Tryz.func42,Tryz.ntmps42
 go_wp2
 go_ret
 exact⟨rfl,rfl⟩
theorem NL.from {w:World}{b off:Nat}{v:List Nd}(h:NL w (some ⟨b,off,none⟩) v)(k n:Nat):NL w (some ⟨b,off+k*4,none⟩) ((v.drop k).take n):=by
 rcases h with rfl | ⟨b',off',h1,h2,h3⟩
 · exact .inl (by simp)
 · cases h1
   refine .inr ⟨_,_,rfl,h2,fun i x hx=>?_⟩
   have hx':v[k+i]? =some x:=by
    rw[List.getElem?_take]at hx
    split at hx
    · simpa using hx
    · cases hx
   have:=h3 (k+i) x hx'
   rw[show off+(k+i)*4=off+k*4+i*4 by omega]at this
   exact this
theorem endI_cons {v r:List Nd}{at_:Nat}{x:Nd}(h:v.drop at_=x::r):endI v.length (some r)=(at_:Int)+1:=by
 have:(v.drop at_).length=r.length+1:=by rw[h];rfl
 simp at this
 unfold endI
 simp only[]
 omega
theorem pastF_value {f:Nat}{u:List Nd}:pastF f false u=pastV f u:=rfl
theorem pastF_field {f:Nat}{x:Nd}{r:List Nd}(h7:x.op=7)(h:ndOk x=true):pastF f true (x::r)=pastV f r:=by
 unfold pastF;simp[h7,h]
theorem pastF_bad {f:Nat}{x:Nd}{r:List Nd}{field:Bool}(h:ndOk x=false):pastF (f+1) field (x::r)=none:=by
 unfold pastF;cases field<;>simp[h,pastV]
theorem pastF_other {f:Nat}{x:Nd}{r:List Nd}{field:Bool}(h:(x.op == 7)≠field):pastF (f+1) field (x::r)=none:=by
 cases field
 · have:x.op=7:=by simpa using h
   simp[pastF,pastV,this]
 · have:¬x.op=7:=by simpa using h
   simp[pastF,this]
theorem setLoop_none' {pv:List Nd→Option (List Nd)}{n k:Nat}(h:k<n){last:Option (List Nd)}{v:List Nd}(e:pv v=none):setLoop pv (n-k) last v=none:=by
 rw[show n-k=(n-(k+1))+1 by omega];simp only[setLoop,e]
theorem setLoop_some' {pv:List Nd→Option (List Nd)}{n k:Nat}(h:k<n){last:Option (List Nd)}{v rest:List Nd}(e:pv v=some rest):
 setLoop pv (n-k) last v=if aheadOf last (v.take (v.length-rest.length))then setLoop pv (n-(k+1)) (some (v.take (v.length-rest.length))) rest else none:=by
 rw[show n-k=(n-(k+1))+1 by omega];simp only[setLoop,e]
theorem ret_n {k:IntKind}{a b:Int}(h:a=b):Ending.returned (.int k a)= .returned (.int k b):=by rw[h]
theorem below_nn {B:Nat}{a w:World}(h:Below B a w)(n:Nat):Below B a (w.drewN n):=⟨h.os,h.tape,h.output,h.size,h.block⟩
def lastI:Option Nat→Int
 | none=> -1
 | some a=>a
def lastL (v:List Nd)(fr:Nat):Option Nat→Option (List Nd)
 | none=>none
 | some a=>some ((v.drop a).take (fr-a))
theorem node_cells {w w1:World}{x:Nd}{T:TypeId}(hb:Below (w.alloc (.cells #[.int .i64 x.op,.int .i64 x.n,.string x.s,.string x.t] T)).heap.size (w.alloc (.cells #[.int .i64 x.op,.int .i64 x.n,.string x.s,.string x.t] T)) w1):
 w1.cell? ⟨w.heap.size,0,none⟩=some (.int .i64 x.op)∧w1.cell? ⟨w.heap.size,1,none⟩=some (.int .i64 x.n)∧Below w.heap.size w w1∧w.heap.size<w1.heap.size:=by
 have hs:w.heap.size<(w.alloc (.cells #[.int .i64 x.op,.int .i64 x.n,.string x.s,.string x.t] T)).heap.size:=by simp
 refine⟨(hb.cell (p:=⟨w.heap.size,0,none⟩) hs).trans (by simp[go_sem]),(hb.cell (p:=⟨w.heap.size,1,none⟩) hs).trans (by simp[go_sem]),((Below.refl _ _).alloc (Nat.le_refl _) _).trans (hb.mono (by simp)),Nat.lt_of_lt_of_le hs hb.size⟩
theorem drop_rest {v rest:List Nd}{fr:Nat}(ht:IsTail rest (v.drop fr)):rest=v.drop (v.length-rest.length)∧v.length-rest.length=fr+((v.drop fr).length-rest.length)∨v.length<fr:=by
 by_cases h:v.length<fr
 · exact .inr h
 · left
   obtain⟨a,ha⟩:=ht
   have hl:(v.drop fr).length=a.length+rest.length:=by rw[ha];simp
   have hl2:v.length-fr=a.length+rest.length:=by rw[←hl];simp
   refine⟨?_,by omega⟩
   rw[show v.length-rest.length=fr+a.length by omega,←List.drop_drop,ha,List.drop_left]
set_option maxRecDepth 100000 in
theorem valueEnd_set (f:Nat)(ih:EndOk f)(v:List Nd)(b off c at_:Nat)(x:Nd)(r:List Nd)(w:World)(hat:v.drop at_=x::r)(hf:v.length-at_<f+1)(hv:NL w (some ⟨b,off,none⟩) v)(hbw:b<w.heap.size)(hc:v.length≤c)(hcm:c≤maxLen)
 (h5:x.op=5) (hx:ndOk x=true) (h0:0≤x.n) (hxn:x.n≤9223372036854775807):
 Calls Tryz.prog 42 #[.slice (some ⟨b,off,none⟩) v.length c,.int .i64 at_,.bool false] w fun e w'=>e= .returned (.int .i64 (endI v.length (setLoop (pastV f) x.n.toNat none r)))∧Below w.heap.size w w':=by
 have HM:Hid (c≤maxLen):=hcm
 unfold maxLen at hcm
 have hlen:(v.drop at_).length=r.length+1:=by rw[hat];rfl
 simp at hlen
 have halt:at_<v.length:=by omega
 have hrd:r=v.drop (at_+1):=by rw[←List.drop_drop,hat];rfl
 have hxe:v[at_]? =some x:=by have:=congrArg (fun l=>l[0]?) hat;simpa using this
 have HXE:Hid (_=_):=hxe
 obtain⟨b',o',hpe,_,x0,x1,x2,x3,xw⟩:=hv.at halt
 obtain⟨rfl,rfl⟩:b=b'∧off=o':=by simpa using hpe
 obtain rfl:v[at_]=x:=by rw[List.getElem?_eq_getElem halt]at hxe;exact Option.some.inj hxe
 generalize hX:v[at_]=x at *
 have HAT:Hid (_=_):=hat
 have HRD:Hid (_=_):=hrd
 clear hX hpe hxe hat hrd
 have HN:=fun w=>valueNode_any x w xw
 rw[hx]at HN
 have i1:(at_:Int)<(v.length:Int):=by omega
 have e5:(x.op == 5)=true:=by simpa using h5
 have e5':(x.op != 5)=false:=by simpa using h5
 have e6:(x.op == 6)=false:=by simp[h5]
 have e7:(x.op == 7)=false:=by simp[h5]
 have HO:Hid (x.op=5):=h5
 clear h5 hx
 generalize hR:setLoop (pastV f) x.n.toNat none r=R
 have HR:Hid (_=_):=hR
 clear hR
 go_enter Tryz.func42,Tryz.ntmps42
 go_wp2_with fail
 refine(HN _).mono ?_
 rintro e w1 ⟨rfl,hb1⟩
 clear HN x0 x1 x2 x3
 obtain⟨z0,z1,hbw1,hnb⟩:=node_cells hb1
 clear hb1
 have hv1:=hv.up hbw1
 have hb2:b<w1.heap.size:=Nat.lt_of_lt_of_le hbw hbw1.size
 go_wp2
 go_loopw [8,9,10] (fun se sl i wr=>∃(k fr:Nat) (last:Option Nat),(k:Int)≤x.n∧i= .int .i64 k∧se= .int .i64 fr∧fr≤v.length∧at_<fr∧sl= .int .i64 (lastI last)∧Hid (∀a,last=some a→a<fr)∧
  Hid (setLoop (pastV f) (x.n.toNat-k) (lastL v fr last) (v.drop fr)=R)∧Below w1.heap.size w1 wr) (fun _ _ i _=>x.n.toNat-(intOf i).toNat)
 case atStart=>exact⟨0,at_+1,none,by simpa using h0,rfl,by go_num,by omega,by omega,rfl,(fun a h=>by cases h),by rw[←HRD.out];exact HR,Below.refl _ _⟩
 case round=>
  obtain⟨k,fr,last,hk,rfl,rfl,hfr,hatfr,rfl,HLA,HS,hbr⟩:=hrel
  have y0:=(hbr.cell (p:=⟨w.heap.size,0,none⟩) hnb).trans z0
  have y1:=(hbr.cell (p:=⟨w.heap.size,1,none⟩) hnb).trans z1
  have hvr:=hv1.up hbr
  by_cases hlt:(k:Int)<x.n
  · have hkn:k<x.n.toNat:=by omega
    have hend:=ih v b off c fr false wr hfr (by omega) hvr (Nat.lt_of_lt_of_le hb2 hbr.size) hc HM.out
    rw[pastF_value]at hend
    cases hp:pastV f (v.drop fr)with
    | none=>
      have HN:Hid (none=R):=by rw[←HS.out,setLoop_none' hkn hp];rfl
      rw[hp]at hend
      clear HS HR hp
      unfold endI at hend
      simp only[]at hend
      go_wp2_with fail
      refine hend.mono ?_
      rintro e w2 ⟨rfl,hb2'⟩
      clear hend
      go_wp2
      go_ret
      exact⟨by rw[←HN.out];rfl,hbw1.trans ((hbr.trans (hb2'.mono hbr.size)).mono hbw1.size)⟩
    | some rest=>
      obtain⟨hsh,htl⟩:=pastV_shorter hp
      have hdl:(v.drop fr).length=v.length-fr:=by simp
      obtain⟨hrest,hre⟩:=(drop_rest htl).resolve_right (by omega)
      have HN:Hid (_=_):=(setLoop_some' (last:=lastL v fr last) hkn hp).symm.trans HS.out
      rw[hp]at hend
      clear HS HR hp
      obtain⟨en,hen,hen1,hen2⟩:∃en:Nat,endI v.length (some rest)=(en:Int)∧en=v.length-rest.length∧fr<en:=⟨v.length-rest.length,by unfold endI;simp only[];omega,rfl,by omega⟩
      rw[hen]at hend
      rw[show(v.drop fr).length-rest.length=en-fr by omega]at HN
      have henl:en≤v.length:=by omega
      rw[←hen1]at hrest
      have HRS:Hid (_=_):=hrest
      clear hen hen1 hrest hre hsh htl
      cases last with
      | none=>
        unfold lastI
        simp only[]
        go_wp2_with fail
        refine hend.mono ?_
        rintro e w2 ⟨rfl,hb2'⟩
        have hb3:=hbr.trans (hb2'.mono hbr.size)
        have u0:=(hb3.cell (p:=⟨w.heap.size,0,none⟩) hnb).trans z0
        clear hend y0 y1
        go_wp2_with fail
        go_quiet (fail)
        go_wp2_with fail
        go_quiet (fail)
        go_wp2
        go_roundw
        case rel=>
         refine⟨k+1,en,some fr,by omega,by go_num,rfl,henl,by omega,rfl,(fun a h=>by cases h;omega),?_,below_nn hb3 _⟩
         have:=HN.out
         rw[show aheadOf (lastL v fr none) ((v.drop fr).take (en-fr))=true from rfl,if_pos rfl,HRS.out]at this
         exact this
        case measure=>simp[intOf];omega
      | some la=>
        have hla:=HLA.out la rfl
        unfold lastI
        simp only[]
        have j1:(0:Int)≤(la:Int):=by omega
        have j2:(la:Int)≤(fr:Int):=by omega
        have j3:(fr:Int)≤(c:Int):=by omega
        have j4:(fr:Int)≤(en:Int):=by omega
        have j5:(en:Int)≤(c:Int):=by omega
        have j6:¬c=la:=by omega
        have j7:¬c=fr:=by omega
        have lA:((v.drop la).take (fr-la)).length=fr-la:=by simp;omega
        have lB:((v.drop fr).take (en-fr)).length=en-fr:=by simp;omega
        go_wp2_with fail
        refine hend.mono ?_
        rintro e w2 ⟨rfl,hb2'⟩
        have hb3:=hbr.trans (hb2'.mono hbr.size)
        have u0:=(hb3.cell (p:=⟨w.heap.size,0,none⟩) hnb).trans z0
        have hv2:=hv1.up hb3
        have hcl:∀n,Calls Tryz.prog 49 #[.slice (some ⟨b,off+la*4,none⟩) (fr-la) (c-la),.slice (some ⟨b,off+fr*4,none⟩) (en-fr) (c-fr)] (w2.drewN n) fun e w''=>e= .returned (.int .i64 (lsC ((v.drop la).take (fr-la)) ((v.drop fr).take (en-fr))))∧∃m,w''=w2.drewN m:=fun n=>by
         have h:=refNodes_any ((v.drop la).take (fr-la)) ((v.drop fr).take (en-fr)) (some ⟨b,off+la*4,none⟩) (some ⟨b,off+fr*4,none⟩) (c-la) (c-fr) (w2.drewN n) (hv2.from la (fr-la)) (hv2.from fr (en-fr)) (by rw[lA];unfold maxLen;omega) (by rw[lB];unfold maxLen;omega)
         rw[lA,lB]at h
         exact h.mono fun e w'' ⟨h1,m,h2⟩=>⟨h1,n+m,by rw[h2,World.drewN_drewN]⟩
        have HAH:Hid (aheadOf (lastL v fr (some la)) ((v.drop fr).take (en-fr))= !decide (0≤lsC ((v.drop la).take (fr-la)) ((v.drop fr).take (en-fr)))):=by
         show _=_
         by_cases h:lsC ((v.drop la).take (fr-la)) ((v.drop fr).take (en-fr))<0
         · rw[decide_eq_false (by omega)];exact decide_eq_true h
         · rw[decide_eq_true (by omega)];exact decide_eq_false h
        generalize lsC ((v.drop la).take (fr-la)) ((v.drop fr).take (en-fr))=z at hcl HAH
        clear hend y0 y1 lA lB
        cases hz:decide (0≤z)
        · rw[hz]at HAH
          go_wp2_with fail
          go_quiet (exact hcl _)
          go_wp2_with fail
          go_quiet (fail)
          go_wp2
          go_roundw
          case rel=>
           refine⟨k+1,en,some fr,by omega,by go_num,rfl,henl,by omega,rfl,(fun a h=>by cases h;omega),?_,below_nn hb3 _⟩
           have:=HN.out
           rw[HAH.out,if_pos (by decide),HRS.out]at this
           exact this
          case measure=>simp[intOf];omega
        · rw[hz]at HAH
          have HN2:Hid (none=R):=by
           have:=HN.out
           rw[HAH.out,if_neg (by decide)]at this
           exact this
          go_wp2_with fail
          go_quiet (exact hcl _)
          go_wp2
          go_ret
          exact⟨by rw[←HN2.out];rfl,hbw1.trans ((below_nn hb3 _).mono hbw1.size)⟩
  · have HN:Hid (some (v.drop fr)=R):=by
     have:=HS.out
     rw[show x.n.toNat-k=0 by omega]at this
     exact this
    clear HS HR
    go_wp2
    go_ret
    exact⟨by rw[←HN.out];exact ret_n (by unfold endI;simp;omega),hbw1.trans (hbr.mono hbw1.size)⟩
def lastS (v:List Nd):Option Nat→ByteArray
 | none=>⟨#[]⟩
 | some a=>(v[a]?.map Nd.s).getD ⟨#[]⟩
theorem rec_bad {pv:List Nd→Option (List Nd)}{n k:Nat}(h:k<n){last:ByteArray}{x:Nd}{r:List Nd}(e:¬(x.op=7∧ndOk x=true∧cmpB last x.s<0)):recLoop pv (n-k) last (x::r)=none:=by
 rw[show n-k=(n-(k+1))+1 by omega];simp only[recLoop,if_neg e]
theorem rec_go {pv:List Nd→Option (List Nd)}{n k:Nat}(h:k<n){last:ByteArray}{x:Nd}{r rest:List Nd}(e:x.op=7∧ndOk x=true∧cmpB last x.s<0)(hp:pv r=some rest):
 recLoop pv (n-k) last (x::r)=recLoop pv (n-(k+1)) x.s rest:=by
 rw[show n-k=(n-(k+1))+1 by omega];simp only[recLoop,if_pos e,hp]
theorem rec_none {f n k:Nat}(h:k<n){last:ByteArray}{u:List Nd}(e:pastF f true u=none):recLoop (pastV f) (n-k) last u=none:=by
 rw[show n-k=(n-(k+1))+1 by omega]
 cases u with
 | nil=>rfl
 | cons x r=>
   simp only[recLoop]
   split
   · rename_i hh
     rw[pastF_field hh.1 hh.2.1]at e
     rw[e]
   · rfl
theorem rec_some {f:Nat}{u:List Nd}(e:¬pastF f true u=none):∃y s rest,u=y::s∧y.op=7∧ndOk y=true∧pastV f s=some rest:=by
 cases u with
 | nil=>exact absurd rfl e
 | cons x r=>
   by_cases h:x.op=7∧ndOk x=true
   · rw[pastF_field h.1 h.2]at e
     cases h2:pastV f r with
     | none=>exact absurd h2 e
     | some rest=>exact⟨x,r,rest,rfl,h.1,h.2,h2⟩
   · exact absurd (by unfold pastF;rw[if_pos rfl];simp only[if_neg h]) e
set_option maxRecDepth 100000 in
theorem valueEnd_rec (f:Nat)(ih:EndOk f)(v:List Nd)(b off c at_:Nat)(x:Nd)(r:List Nd)(w:World)(hat:v.drop at_=x::r)(hf:v.length-at_<f+1)(hv:NL w (some ⟨b,off,none⟩) v)(hbw:b<w.heap.size)(hc:v.length≤c)(hcm:c≤maxLen)
 (h5:x.op=6) (hx:ndOk x=true) (h0:0≤x.n) (hxn:x.n≤9223372036854775807):
 Calls Tryz.prog 42 #[.slice (some ⟨b,off,none⟩) v.length c,.int .i64 at_,.bool false] w fun e w'=>e= .returned (.int .i64 (endI v.length (recLoop (pastV f) x.n.toNat ⟨#[]⟩ r)))∧Below w.heap.size w w':=by
 have HM:Hid (c≤maxLen):=hcm
 unfold maxLen at hcm
 have hlen:(v.drop at_).length=r.length+1:=by rw[hat];rfl
 simp at hlen
 have halt:at_<v.length:=by omega
 have hrd:r=v.drop (at_+1):=by rw[←List.drop_drop,hat];rfl
 have hxe:v[at_]? =some x:=by have:=congrArg (fun l=>l[0]?) hat;simpa using this
 have HXE:Hid (_=_):=hxe
 obtain⟨b',o',hpe,_,x0,x1,x2,x3,xw⟩:=hv.at halt
 obtain⟨rfl,rfl⟩:b=b'∧off=o':=by simpa using hpe
 obtain rfl:v[at_]=x:=by rw[List.getElem?_eq_getElem halt]at hxe;exact Option.some.inj hxe
 generalize hX:v[at_]=x at *
 have HAT:Hid (_=_):=hat
 have HRD:Hid (_=_):=hrd
 clear hX hpe hxe hat hrd
 have HN:=fun w=>valueNode_any x w xw
 rw[hx]at HN
 have i1:(at_:Int)<(v.length:Int):=by omega
 have e5:(x.op == 5)=false:=by simp[h5]
 have e5':(x.op != 5)=true:=by simp[h5]
 have e6:(x.op == 6)=true:=by simpa using h5
 have e6':(x.op != 6)=false:=by simpa using h5
 have e7:(x.op == 7)=false:=by simp[h5]
 have HO:Hid (x.op=6):=h5
 clear h5 hx
 generalize hR:recLoop (pastV f) x.n.toNat ⟨#[]⟩ r=R
 have HR:Hid (_=_):=hR
 clear hR
 go_enter Tryz.func42,Tryz.ntmps42
 go_wp2_with fail
 refine(HN _).mono ?_
 rintro e w1 ⟨rfl,hb1⟩
 clear HN x0 x1 x2 x3
 obtain⟨z0,z1,hbw1,hnb⟩:=node_cells hb1
 clear hb1
 have hv1:=hv.up hbw1
 have hb2:b<w1.heap.size:=Nat.lt_of_lt_of_le hbw hbw1.size
 go_wp2
 go_loopw [8,9,10] (fun se sl i wr=>∃(k fr:Nat) (last:Option Nat),(k:Int)≤x.n∧i= .int .i64 k∧se= .int .i64 fr∧fr≤v.length∧at_<fr∧sl= .int .i64 (lastI last)∧Hid (∀a,last=some a→a<fr)∧
  Hid (recLoop (pastV f) (x.n.toNat-k) (lastS v last) (v.drop fr)=R)∧Below w1.heap.size w1 wr) (fun _ _ i _=>x.n.toNat-(intOf i).toNat)
 case atStart=>exact⟨0,at_+1,none,by simpa using h0,rfl,by go_num,by omega,by omega,rfl,(fun a h=>by cases h),by rw[←HRD.out];exact HR,Below.refl _ _⟩
 case round=>
  obtain⟨k,fr,last,hk,rfl,rfl,hfr,hatfr,rfl,HLA,HS,hbr⟩:=hrel
  have y0:=(hbr.cell (p:=⟨w.heap.size,0,none⟩) hnb).trans z0
  have y1:=(hbr.cell (p:=⟨w.heap.size,1,none⟩) hnb).trans z1
  have hvr:=hv1.up hbr
  by_cases hlt:(k:Int)<x.n
  · have hkn:k<x.n.toNat:=by omega
    have hend:=ih v b off c fr true wr hfr (by omega) hvr (Nat.lt_of_lt_of_le hb2 hbr.size) hc HM.out
    by_cases hpf:pastF f true (v.drop fr)=none
    · have HN:Hid (none=R):=by
       rw[←HS.out,rec_none hkn hpf];rfl
      rw[hpf]at hend
      clear HS HR hpf
      unfold endI at hend
      simp only[]at hend
      go_wp2_with fail
      refine hend.mono ?_
      rintro e w2 ⟨rfl,hb2'⟩
      clear hend
      go_wp2
      go_ret
      exact⟨by rw[←HN.out];rfl,hbw1.trans ((hbr.trans (hb2'.mono hbr.size)).mono hbw1.size)⟩
    · obtain⟨y,s,rest,hys,h7,hok,hp⟩:=rec_some hpf
      have hp2:pastF f true (v.drop fr)=some rest:=by rw[hys,pastF_field h7 hok,hp]
      obtain⟨hsh,htl⟩:=pastV_shorter hp
      have hfl:fr<v.length:=by
       have:(v.drop fr).length=s.length+1:=by rw[hys];rfl
       simp at this;omega
      have hyv:v[fr]? =some y:=by have:=congrArg (fun l=>l[0]?) hys;simpa using this
      obtain⟨b',o',hpe,_,t0,t1,t2,t3,tw⟩:=hvr.at hfl
      obtain⟨rfl,rfl⟩:b=b'∧off=o':=by simpa using hpe
      obtain rfl:v[fr]=y:=by rw[List.getElem?_eq_getElem hfl]at hyv;exact Option.some.inj hyv
      have hdl:(v.drop fr).length=v.length-fr:=by simp
      obtain⟨hrest,hre⟩:=(drop_rest (v:=v) (fr:=fr) (by rw[hys];exact htl.cons _)).resolve_right (by omega)
      have hsl:s.length+1=v.length-fr:=by rw[←hdl,hys];rfl
      rw[hp2]at hend
      obtain⟨en,hen,hen1,hen2⟩:∃en:Nat,endI v.length (some rest)=(en:Int)∧en=v.length-rest.length∧fr<en:=⟨v.length-rest.length,by unfold endI;simp only[];omega,rfl,by omega⟩
      rw[hen]at hend
      have henl:en≤v.length:=by omega
      rw[←hen1]at hrest
      have HRS:Hid (_=_):=hrest
      have HY:Hid (_=_):=hys
      have HYV:Hid (_=_):=hyv
      have HP:Hid (_=_):=hp
      have HK:Hid (v[fr].op=7∧ndOk v[fr]=true):=⟨h7,hok⟩
      generalize v[fr]=y at *
      clear hen hen1 hrest hre hsh htl hpe hyv hys hp hp2 hpf h7 hok hdl
      cases last with
      | none=>
        unfold lastI
        simp only[]
        have HN:Hid (recLoop (pastV f) (x.n.toNat-(k+1)) y.s rest=R):=by
         have:=HS.out
         rw[HY.out,show lastS v none=⟨#[]⟩ from rfl,rec_go hkn ⟨HK.out.1,HK.out.2,name_ahead HK.out.1 HK.out.2⟩ HP.out]at this
         exact this
        clear HS HR
        go_wp2_with fail
        refine hend.mono ?_
        rintro e w2 ⟨rfl,hb2'⟩
        have hb3:=hbr.trans (hb2'.mono hbr.size)
        have u0:=(hb3.cell (p:=⟨w.heap.size,0,none⟩) hnb).trans z0
        clear hend y0 y1
        go_wp2_with fail
        go_quiet (fail)
        go_wp2_with fail
        go_quiet (fail)
        go_wp2
        go_roundw
        case rel=>
         refine⟨k+1,en,some fr,by omega,by go_num,rfl,henl,by omega,rfl,(fun a h=>by cases h;omega),?_,below_nn hb3 _⟩
         show recLoop _ _ ((v[fr]?.map Nd.s).getD ⟨#[]⟩) _=_
         rw[HYV.out,←HRS.out]
         exact HN.out
        case measure=>simp[intOf];omega
      | some la=>
        have hla:=HLA.out la rfl
        unfold lastI
        simp only[]
        have j1:(0:Int)≤(la:Int):=by omega
        have j2:(la:Int)<(v.length:Int):=by omega
        have j3:(fr:Int)<(v.length:Int):=by omega
        obtain⟨b',o',hpe,hbb,s0,s1,s2,s3,sw⟩:=hvr.at (show la<v.length by omega)
        obtain⟨rfl,rfl⟩:b=b'∧off=o':=by simpa using hpe
        have HLS:Hid (lastS v (some la)=v[la].s):=by
         show _=_
         show(v[la]?.map Nd.s).getD ⟨#[]⟩=_
         rw[List.getElem?_eq_getElem (show la<v.length by omega)];rfl
        generalize v[la]=g at *
        clear hpe
        have hcl:=fun w=>textC_any g.s y.s w sw.1 tw.1
        go_wp2_with fail
        refine hend.mono ?_
        rintro e w2 ⟨rfl,hb2'⟩
        have hb3:=hbr.trans (hb2'.mono hbr.size)
        have u0:=(hb3.cell (p:=⟨w.heap.size,0,none⟩) hnb).trans z0
        have u1:=(hb2'.cell (p:=⟨b,off+la*4+2,none⟩) hbb).trans s2
        have u2:=(hb2'.cell (p:=⟨b,off+fr*4+2,none⟩) hbb).trans t2
        clear hend y0 y1 s0 s1 s2 s3 t0 t1 t2 t3
        have HZ:Hid (cmpB (lastS v (some la)) y.s=cmpB g.s y.s):=by show _=_;rw[HLS.out]
        generalize cmpB g.s y.s=z at *
        cases hz:decide (0≤z)
        · have HN:Hid (recLoop (pastV f) (x.n.toNat-(k+1)) y.s rest=R):=by
           have:=HS.out
           rw[HY.out,rec_go hkn ⟨HK.out.1,HK.out.2,by rw[HZ.out];simpa using hz⟩ HP.out]at this
           exact this
          clear HS HR
          go_wp2_with fail
          go_quiet (fail)
          go_wp2_with fail
          go_quiet ((first | exact quiet_ones hcl | exact quiet_more hcl))
          go_wp2
          go_roundw
          case rel=>
           refine⟨k+1,en,some fr,by omega,by go_num,rfl,henl,by omega,rfl,(fun a h=>by cases h;omega),?_,below_nn hb3 _⟩
           show recLoop _ _ ((v[fr]?.map Nd.s).getD ⟨#[]⟩) _=_
           rw[HYV.out,←HRS.out]
           exact HN.out
          case measure=>simp[intOf];omega
        · have HN2:Hid (none=R):=by
           have:=HS.out
           rw[HY.out,rec_bad hkn (fun h=>by have:=h.2.2;rw[HZ.out]at this;simp at hz;omega)]at this
           exact this
          clear HS HR
          go_wp2_with fail
          go_quiet (fail)
          go_wp2_with fail
          go_quiet ((first | exact quiet_ones hcl | exact quiet_more hcl))
          go_wp2
          go_ret
          exact⟨by rw[←HN2.out];rfl,hbw1.trans ((below_nn (below_nn hb3 _) _).mono hbw1.size)⟩
  · have HN:Hid (some (v.drop fr)=R):=by
     have:=HS.out
     rw[show x.n.toNat-k=0 by omega]at this
     cases h:v.drop fr<;>rw[h]at this<;>exact this
    clear HS HR
    go_wp2
    go_ret
    exact⟨by rw[←HN.out];exact ret_n (by unfold endI;simp;omega),hbw1.trans (hbr.mono hbw1.size)⟩
theorem ok_count {x:Nd}(h:ndOk x=true)(h5:x.op=5∨x.op=6):0≤x.n:=by
 unfold ndOk at h
 rcases h5 with e | e<;>simp[e]at h<;>exact h.2
set_option maxRecDepth 100000 in
theorem valueEnd_step (f:Nat)(ih:EndOk f):EndOk (f+1):=by
 intro v b off c at_ field w hat hf hv hbw hc hcm
 by_cases halt:at_<v.length
 · have hdr:v.drop at_=v[at_]::v.drop (at_+1):=List.drop_eq_getElem_cons halt
   obtain⟨b',o',hpe,_,x0,x1,x2,x3,xw⟩:=hv.at halt
   obtain⟨rfl,rfl⟩:b=b'∧off=o':=by simpa using hpe
   have hlr:(v.drop (at_+1)).length=v.length-(at_+1):=by simp
   generalize v[at_]=x at *
   generalize hr:v.drop (at_+1)=r at *
   have HRD:Hid (_=_):=hr
   have i1:(at_:Int)<(v.length:Int):=by omega
   have HN:=fun w=>valueNode_any x w xw
   clear hpe
   by_cases h7:(x.op == 7)=field
   · cases hx:ndOk x
     · rw[hdr,pastF_bad hx]
       rw[hx]at HN
       have HM:Hid (c≤maxLen):=hcm
       unfold maxLen at hcm
       clear hdr hr
       go_enter Tryz.func42,Tryz.ntmps42
       go_wp2_with fail
       refine(HN _).mono ?_
       rintro e w1 ⟨rfl,hb1⟩
       go_wp2
       go_ret
       exact⟨rfl,(node_cells hb1).2.2.1⟩
     · cases field with
       | true=>
         have h7':x.op=7:=by simpa using h7
         rw[hdr,pastF_field h7' hx,pastV_fuel (f+1) f r (by omega) (by omega)]
         rw[hx]at HN
         have HE:Hid (EndOk f):=ih
         have HM:Hid (c≤maxLen):=hcm
         have h70:(x.op == 7)=true:=by simpa using h7'
         unfold maxLen at hcm
         clear hdr hr h7' h7 ih
         go_enter Tryz.func42,Tryz.ntmps42
         go_wp2_with fail
         refine(HN _).mono ?_
         rintro e w1 ⟨rfl,hb1⟩
         obtain⟨z0,z1,hbw1,hnb⟩:=node_cells hb1
         clear hb1
         have hcall:=HE.out v b off c (at_+1) false w1 (by omega) (by omega) (hv.up hbw1) (Nat.lt_of_lt_of_le hbw hbw1.size) hc HM.out
         rw[HRD.out,pastF_value,show((at_+1:Nat):Int)=(at_:Int)+1 by omega]at hcall
         go_wp2_with fail
         refine hcall.mono ?_
         rintro e w2 ⟨rfl,hb2⟩
         go_wp2
         go_ret
         exact⟨rfl,hbw1.trans (hb2.mono hbw1.size)⟩
       | false=>
         have h7':¬x.op=7:=by simpa using h7
         have hpv:pastF (f+1) false (v.drop at_)=if x.op=5 then setLoop (pastV f) x.n.toNat none r else if x.op=6 then recLoop (pastV f) x.n.toNat ⟨#[]⟩ r else some r:=by
          rw[pastF_value,hdr];simp only[pastV];rw[if_pos ⟨h7',hx⟩]
         rw[hpv]
         by_cases h5:x.op=5
         · rw[if_pos h5]
           exact valueEnd_set f ih v b off c at_ x r w hdr hf hv hbw hc hcm h5 hx (ok_count hx (.inl h5)) xw.2.2
         · rw[if_neg h5]
           by_cases h6:x.op=6
           · rw[if_pos h6]
             exact valueEnd_rec f ih v b off c at_ x r w hdr hf hv hbw hc hcm h6 hx (ok_count hx (.inr h6)) xw.2.2
           · rw[if_neg h6,endI_cons hdr]
             rw[hx]at HN
             have e5:(x.op != 5)=true:=by simpa using h5
             have e6:(x.op != 6)=true:=by simpa using h6
             have HM:Hid (c≤maxLen):=hcm
             unfold maxLen at hcm
             clear hdr hr h5 h6 h7' hpv
             go_enter Tryz.func42,Tryz.ntmps42
             go_wp2_with fail
             refine(HN _).mono ?_
             rintro e w1 ⟨rfl,hb1⟩
             obtain⟨z0,z1,hbw1,hnb⟩:=node_cells hb1
             clear hb1
             go_wp2
             go_ret
             exact⟨rfl,hbw1⟩
   · rw[hdr,pastF_other h7]
     have HM:Hid (c≤maxLen):=hcm
     unfold maxLen at hcm
     clear hdr hr
     cases hx:ndOk x<;>rw[hx]at HN
     · go_enter Tryz.func42,Tryz.ntmps42
       go_wp2_with fail
       refine(HN _).mono ?_
       rintro e w1 ⟨rfl,hb1⟩
       go_wp2
       go_ret
       exact⟨rfl,(node_cells hb1).2.2.1⟩
     · cases h70:(x.op == 7)<;>cases field
       · exact absurd h70 h7
       · clear h7
         go_enter Tryz.func42,Tryz.ntmps42
         go_wp2_with fail
         refine(HN _).mono ?_
         rintro e w1 ⟨rfl,hb1⟩
         obtain⟨z0,z1,hbw1,hnb⟩:=node_cells hb1
         clear hb1
         go_wp2
         go_ret
         exact⟨rfl,hbw1⟩
       · clear h7
         go_enter Tryz.func42,Tryz.ntmps42
         go_wp2_with fail
         refine(HN _).mono ?_
         rintro e w1 ⟨rfl,hb1⟩
         obtain⟨z0,z1,hbw1,hnb⟩:=node_cells hb1
         clear hb1
         go_wp2
         go_ret
         exact⟨rfl,hbw1⟩
       · exact absurd h70 h7
 · obtain rfl:at_=v.length:=by omega
   refine(valueEnd_past (some ⟨b,off,none⟩) v.length c field w (Nat.le_trans hc hcm)).mono ?_
   rintro e w' ⟨rfl,rfl⟩
   refine⟨?_,Below.refl _ _⟩
   rw[List.drop_length]
   cases field<;>rfl
theorem valueEnd_any:∀f,EndOk f
 | 0=>fun v b off c at_ field w h1 h2=>absurd h2 (by omega)
 | f+1=>valueEnd_step f (valueEnd_any f)
theorem endI_all {v:List Nd}:(endI v.length (pastV (v.length+1) v) != (v.length:Int))= !isVal v:=by
 unfold isVal
 cases h:pastV (v.length+1) v with
 | none=>simp[endI]<;>omega
 | some r=>
   have:=(pastV_shorter h).1
   cases r with
   | nil=>simp[endI]
   | cons y r=>simp[endI]<;>omega
theorem valueFault_any (v:List Nd)(p:Option Addr)(c:Nat)(w:World)(hv:NL w p v)(hc:v.length≤c)(hcm:c≤maxLen):
 Calls Tryz.prog 21 #[.slice p v.length c] w fun e w'=>e= .returned (.int .i64 (vfault v))∧Below w.heap.size w w':=by
 by_cases h:200<v.length
 · have HF:Hid (vfault v=4):=by show _=_;unfold vfault;rw[if_pos h]
   have h':(200:Int)<(v.length:Int):=by omega
   go_enter Tryz.func21,Tryz.ntmps21
   go_wp2
   go_ret
   exact⟨ret_n HF.out.symm,Below.refl _ _⟩
 · have HF:Hid (vfault v=if isVal v then 0 else 1):=by show _=_;unfold vfault;rw[if_neg h]
   have h':¬(200:Int)<(v.length:Int):=by omega
   have hend:Calls Tryz.prog 42 #[.slice p v.length c,.int .i64 0,.bool false] w fun e w'=>e= .returned (.int .i64 (endI v.length (pastV (v.length+1) v)))∧Below w.heap.size w w':=by
    cases v with
    | nil=>
      refine(valueEnd_past p 0 c false w (Nat.zero_le _)).mono ?_
      rintro e w' ⟨rfl,rfl⟩
      exact⟨rfl,Below.refl _ _⟩
    | cons x r=>
      rcases hv with hv | ⟨b,off,rfl,hbw,hh⟩
      · cases hv
      · exact valueEnd_any ((x::r).length+1) (x::r) b off c 0 false w (Nat.zero_le _) (by simp) (.inr ⟨b,off,rfl,hbw,hh⟩) hbw hc hcm
   have he:=endI_all (v:=v)
   generalize endI v.length (pastV (v.length+1) v)=z at hend he
   cases hi:isVal v<;>rw[hi]at he HF<;>simp only[Bool.not_false,Bool.not_true]at he
   all_goals
    go_enter Tryz.func21,Tryz.ntmps21
    go_wp2_with fail
    refine hend.mono ?_
    rintro e w1 ⟨rfl,hb⟩
    go_wp2
    go_ret
    exact⟨ret_n (by rw[HF.out];rfl),hb⟩
theorem Tryz.infoText:(Tryz.prog.info? 9).map (fun i=>(i.zero,i.size,i.bytes))=some (some (.string ⟨#[]⟩),1,16):=by kernel_rfl
def TL (w:World)(p:Option Addr)(ts:List ByteArray):Prop:=
 ts=[]∨∃b off,p=some ⟨b,off,none⟩∧b<w.heap.size∧∀i s,ts[i]? =some s→w.cell? ⟨b,off+i,none⟩=some (.string s)
theorem TL.up {w w':World}{p:Option Addr}{ts:List ByteArray}(h:TL w p ts)(k:Below w.heap.size w w'):TL w' p ts:=by
 rcases h with h | ⟨b,off,h1,h2,h3⟩
 · exact .inl h
 · exact .inr ⟨b,off,h1,Nat.lt_of_lt_of_le h2 k.size,fun i s hs=>(k.cell (p:=⟨b,off+i,none⟩) h2).trans (h3 i s hs)⟩
theorem TL.at {w:World}{p:Option Addr}{ts:List ByteArray}(h:TL w p ts){i:Nat}(hi:i<ts.length):∃b off,p=some ⟨b,off,none⟩∧b<w.heap.size∧w.cell? ⟨b,off+i,none⟩=some (.string ts[i]):=by
 rcases h with rfl | ⟨b,off,h1,h2,h3⟩
 · simp at hi
 · exact⟨b,off,h1,h2,h3 i _ (List.getElem?_eq_getElem hi)⟩
def OT (w:World)(base:Nat)(v:Value)(ts:List ByteArray):Prop:=Row1 w base 9 v (ts.map Value.string)
theorem OT.texts {w:World}{base:Nat}{v:Value}{ts:List ByteArray}(h:OT w base v ts):∃q c,v= .slice q ts.length c∧TL w q ts∧ts.length≤c∧c≤maxLen:=by
 obtain⟨q,c,e,h1,h2,h3⟩:=Row1.slice h
 rw[List.length_map]at e h1
 refine⟨q,c,e,?_,h1,h2⟩
 rcases h3 with h3 | ⟨g,e2,ht,_,hc⟩
 · exact .inl (by simpa using h3)
 · exact .inr ⟨g,0,e2,ht.lt,fun i s hs=>by rw[Nat.zero_add];exact hc i _ (by simp[hs])⟩
theorem append_text (w:World){ops:Array Oper}{rest:List Oper}{o:Oper}{a:Act}{Q:Exit→Act→World→Prop}(hgd:o.guard=none)(s x:Operand)
 (ho:o.op= .call { callee:=.builtin .append,args:= #[s,x],argTypes:= #[68,68] })
 (base:Nat) (v:Value) (ts:List ByteArray) (hs:a.eval s=v) (hown:OT w base v ts) (t:ByteArray)
 (hx:a.eval x= .slice (some ⟨w.heap.size,0,none⟩) 1 1) (hlen:ts.length+1≤1099511627776) (hbase:base≤w.heap.size)
 (h:∀v' w',OT w' base v' (ts++[t])→Kept base 9 w w'→wpList Tryz.prog ops Q rest (a.put o.dst v') w'):wpList Tryz.prog ops Q (o::rest) a (w.alloc (.cells #[.string t] 9)):=by
 refine append_cell w hgd s x 68 9 ho Tryz.underlying68 (.string ⟨#[]⟩) 16 Tryz.infoText rfl base v (ts.map Value.string) hs hown (.string t) rfl hx (by rw[List.length_map];unfold maxLen;omega) (by rw[List.length_map];omega) hbase ?_
 intro v' w' h1 k
 refine h v' w' ?_ k
 unfold OT;rw[List.map_append];exact h1
theorem faults_any (vs:List (List Nd))(p:Option Addr)(c:Nat)(w:World)(hv:LL w p vs)(hl:vs.length≤maxLen):
 Calls Tryz.prog 48 #[.slice p vs.length c] w fun e w'=>e= .returned (.int .i64 (ffault vs))∧Below w.heap.size w w':=by
 unfold maxLen at hl
 go_enter Tryz.func48,Tryz.ntmps48
 go_wp2
 go_loopw [3] (fun i wr=>∃k:Nat,k≤vs.length∧i= .int .i64 k∧Hid (ffault (vs.drop k)=ffault vs)∧Below w.heap.size w wr) (fun i _=>vs.length-(intOf i).toNat)
 case atStart=>exact⟨0,Nat.zero_le _,rfl,rfl,Below.refl _ _⟩
 case round=>
  obtain⟨k,hk,rfl,HD,hb⟩:=hrel
  by_cases hlt:k<vs.length
  · have i1:(k:Int)<(vs.length:Int):=by omega
    obtain⟨b,off,q,c',rfl,hbw,hcell,hnl,h1,h2⟩:=(hv.up hb).at hlt
    have HS:Hid (_=_):=ffault_step vs k hlt
    generalize vs[k]=v at *
    go_wp2_with fail
    refine(valueFault_any v q c' _ hnl h1 h2).mono ?_
    rintro e w1 ⟨rfl,hb1⟩
    have hb2:=hb.trans (hb1.mono hb.size)
    generalize vfault v=z at *
    cases hz:(z != 0)
    · have hz0:z=0:=by simpa using hz
      subst hz0
      go_wp2
      go_roundw
      case rel=>exact⟨k+1,by omega,by go_num,by show _=_;rw[←HD.out,HS.out];simp,hb2⟩
      case measure=>simp[intOf];omega
    · go_wp2
      go_ret
      exact⟨ret_n (by rw[←HD.out,HS.out,if_neg (by simpa using hz)]),hb2⟩
  · have i1:¬(k:Int)<(vs.length:Int):=by omega
    have HZ:Hid (0=ffault vs):=by
     have:=HD.out
     rw[List.drop_of_length_le (by omega)]at this
     exact this
    clear HD
    go_wp2
    go_ret
    exact⟨ret_n HZ.out,hb⟩
theorem reserved_any (s:ByteArray)(w:World):
 Calls Tryz.prog 82 #[.string s] w fun e w'=>e= .returned (.bool (rsv s.data.toList))∧w'=w:=by
 go_enter Tryz.func82,Tryz.ntmps82
 go_wp2
 all_goals
  go_ret
  refine⟨ret_bl ?_,rfl⟩
  simp_all [rsv,ByteArray.toList_eq]
theorem tail_byte (s:ByteArray):(s.extract 1 s.size).data.toList=s.data.toList.tail:=by
 simp[List.take_of_length_le]
theorem exOk_off {x:Nd}(h:¬(1≤x.op∧x.op≤7))(hp:prt x<0):exOk x=false:=by unfold exOk;rw[if_neg h,if_pos hp]
theorem exOk_bn {x:Nd}(h:¬(1≤x.op∧x.op≤7))(hn:x.n≠0):exOk x=false:=by
 unfold exOk
 rw[if_neg h]
 split
 · rfl
 · have:(x.n == 0)=false:=by simpa using hn
   rw[this];rfl
theorem exOk_t {x:Nd}(h:¬(1≤x.op∧x.op≤7))(ht:x.t.data.toList.isEmpty=false):exOk x=false:=by
 unfold exOk
 rw[if_neg h]
 split
 · rfl
 · rw[ht];simp
theorem exOk_on {x:Nd}(h:¬(1≤x.op∧x.op≤7))(hp:¬prt x<0)(hn:x.n=0)(ht:x.t.data.toList.isEmpty=true):exOk x=
 (if x.op=8 then varOk x.s.data.toList else if x.op=21∨x.op=22∨x.op=24 then nfault x.s.data.toList == 0 else if x.op=23 then textOk x.s.data.toList else x.s.data.toList.isEmpty):=by
 unfold exOk
 rw[if_neg h,if_neg hp,hn,ht]
 rfl
theorem boxf {w w':World}{x:Nd}{T:TypeId}(hb:Below (w.alloc (.cells #[.int .i64 x.op,.int .i64 x.n,.string x.s,.string x.t] T)).heap.size (w.alloc (.cells #[.int .i64 x.op,.int .i64 x.n,.string x.s,.string x.t] T)) w'):
 w'.cell? ⟨w.heap.size,0,none⟩=some (.int .i64 x.op)∧w'.cell? ⟨w.heap.size,1,none⟩=some (.int .i64 x.n)∧w'.cell? ⟨w.heap.size,2,none⟩=some (.string x.s)∧w'.cell? ⟨w.heap.size,3,none⟩=some (.string x.t)∧Below w.heap.size w w':=by
 refine⟨?_,?_,?_,?_,((Below.refl _ _).alloc (Nat.le_refl _) _).trans (hb.mono (by simp))⟩
 · exact(hb.cell (p:=⟨w.heap.size,0,none⟩) (by simp)).trans (by simp[go_sem])
 · exact(hb.cell (p:=⟨w.heap.size,1,none⟩) (by simp)).trans (by simp[go_sem])
 · exact(hb.cell (p:=⟨w.heap.size,2,none⟩) (by simp)).trans (by simp[go_sem])
 · exact(hb.cell (p:=⟨w.heap.size,3,none⟩) (by simp)).trans (by simp[go_sem])
set_option maxRecDepth 100000 in
theorem refFields_any (x:Nd)(w:World)(hx:x.wf):
 Calls Tryz.prog 43 #[x.val] w fun e w'=>e= .returned (.bool (exOk x))∧Below w.heap.size w w':=by
 have HB:Hid (∀w',_→_):=fun w'=>boxf (w:=w) (w':=w') (x:=x) (T:=53)
 by_cases h:1≤x.op∧x.op≤7
 · have HX:Hid (exOk x=ndOk x):=by show _=_;unfold exOk;rw[if_pos h]
   have HV:=fun w=>valueNode_any x w hx
   rw[←HX.out]at HV
   generalize exOk x=r at *
   obtain⟨op,n,s,t⟩:=x
   unfold Nd.val at *
   obtain⟨h1,h2⟩:=h
   simp only at h1 h2 HB
   go_enter Tryz.func43,Tryz.ntmps43
   go_wp2_with fail
   refine(HV _).mono ?_
   rintro e w1 ⟨rfl,hb⟩
   obtain⟨_,_,_,_,hb1⟩:=HB.out _ hb
   go_wp2
   go_ret
   exact⟨rfl,hb1⟩
 · have HP:=fun w=>refPrt_any x w
   have hor:x.op<1∨7<x.op:=by omega
   have e0:(1≤x.op∧¬x.op≤7)∨¬ 1≤x.op:=by omega
   by_cases hp:prt x<0
   · have HX:Hid (_=_):=exOk_off h hp
     generalize exOk x=r at *
     generalize prt x=pr at *
     obtain⟨op,n,s,t⟩:=x
     unfold Nd.val at *
     simp only at e0 HB
     clear h hor
     rcases e0 with⟨h1,h2⟩ | h1
     all_goals
      go_enter Tryz.func43,Tryz.ntmps43
      go_wp2_with fail
      refine(HP _).mono ?_
      rintro e w1 ⟨rfl,hb⟩
      obtain⟨_,_,_,_,hb1⟩:=HB.out _ hb
      go_wp2
      go_ret
      exact⟨by rw[HX.out];rfl,hb1⟩
   · have h1:1≤x.op:=by
      refine Decidable.byContradiction fun hc=>hp ?_
      unfold prt
      rw[if_neg (by omega),if_neg (by omega),if_neg (by omega),if_neg (by omega),if_neg (by omega)];omega
     have h2:¬x.op≤7:=by omega
     clear hor e0
     by_cases hn:x.n=0
     · have et:((x.t.toList == [])=x.t.data.toList.isEmpty):=by rw[ByteArray.toList_eq];cases x.t.data.toList<;>rfl
       have es:((x.s.toList == [])=x.s.data.toList.isEmpty):=by rw[ByteArray.toList_eq];cases x.s.data.toList<;>rfl
       cases ht:x.t.data.toList.isEmpty
       · have HX:Hid (_=_):=exOk_t h ht
         rw[ht]at et
         generalize exOk x=r at *
         generalize prt x=pr at *
         obtain⟨op,n,s,t⟩:=x
         unfold Nd.val at *
         simp only at h1 h2 HB hn et
         subst hn
         clear h ht es
         go_enter Tryz.func43,Tryz.ntmps43
         go_wp2_with fail
         refine(HP _).mono ?_
         rintro e w1 ⟨rfl,hb⟩
         obtain⟨c0,c1,c2,c3,hb1⟩:=HB.out _ hb
         go_wp2
         go_ret
         exact⟨by rw[HX.out];rfl,hb1⟩
       · have HX:Hid (_=_):=exOk_on h hp hn ht
         rw[ht]at et
         have HN:=fun w=>nameFault_any x.s w hx.1
         have HT:=fun w=>textFault_any x.s w hx.1
         generalize exOk x=r at *
         generalize prt x=pr at *
         obtain⟨op,n,s,t⟩:=x
         unfold Nd.val at *
         simp only at h1 h2 HB hn et es HX HN HT
         subst hn
         clear h ht
         by_cases h8:op=8
         · rw[if_pos h8]at HX
           subst h8
           have hl:s.data.toList.length=s.size:=by simp
           by_cases h63:s.data.toList.head? =some 63
           · have hpos:0<s.size:=by
              cases e:s.data.toList with
              | nil=>rw[e]at h63;cases h63
              | cons a l=>rw[e]at hl;simp at hl;omega
             have hp0:(0:Int)<(s.size:Int):=by omega
             have hp1:(1:Int)≤(s.size:Int):=by omega
             have hb63:((s[0].toNat:Int) == 63)=true:=by
              have:s.data.toList.head? =some s[0]:=by
               rw[List.head?_eq_getElem?, List.getElem?_eq_getElem (by omega)];rfl
              rw[this]at h63
              have:=Option.some.inj h63
              rw[this];rfl
             have HX2:Hid (r=(nfault (s.extract 1 s.size).data.toList == 0)):=by
              rw[HX.out];show _=_
              unfold varOk;rw[if_pos h63,tail_byte]
             have HN2:=fun w=>nameFault_any (s.extract 1 s.size) w (Nat.le_trans (by simp) hx.1)
             clear HX h63 HN HT hl
             generalize nfault (s.extract 1 s.size).data.toList=nf at HN2 HX2
             go_enter Tryz.func43,Tryz.ntmps43
             go_wp2_with fail
             refine(HP _).mono ?_
             rintro e w1 ⟨rfl,hb⟩
             obtain⟨c0,c1,c2,c3,hb1⟩:=HB.out _ hb
             go_wp2_with fail
             refine(HN2 _).mono ?_
             rintro e w2 ⟨rfl,rfl⟩
             go_wp2
             go_ret
             exact⟨by rw[HX2.out];rfl,hb1⟩
           · have HX2:Hid (r=(nfault s.data.toList == 0 && !rsv s.data.toList)):=by
              rw[HX.out];show _=_
              unfold varOk;rw[if_neg h63]
             have HR:=fun w=>reserved_any s w
             generalize rsv s.data.toList=rv at *
             generalize hz:(nfault s.data.toList == 0)=z at *
             have hcase:¬(0:Int)<(s.size:Int)∨((0:Int)<(s.size:Int)∧∃h:0<s.size,((s[0].toNat:Int) == 63)=false):=by
              by_cases h0:0<s.size
              · refine .inr ⟨by omega,h0,?_⟩
                have:s.data.toList.head? =some s[0]:=by
                 rw[List.head?_eq_getElem?, List.getElem?_eq_getElem (by omega)];rfl
                rw[this]at h63
                rw[beq_eq_false_iff_ne]
                intro e
                apply h63
                congr 1
                apply UInt8.toNat_inj.1
                have e':s[0].toNat=63:=by omega
                rw[e'];rfl
              · exact .inl (by omega)
             clear HX h63 HT hl
             generalize nfault s.data.toList=nf at *
             rcases hcase with hc | ⟨hc,hc0,hc1⟩
             all_goals
              cases z
              · go_enter Tryz.func43,Tryz.ntmps43
                go_wp2_with fail
                refine(HP _).mono ?_
                rintro e w1 ⟨rfl,hb⟩
                obtain⟨c0,c1,c2,c3,hb1⟩:=HB.out _ hb
                go_wp2_with fail
                refine(HN _).mono ?_
                rintro e w2 ⟨rfl,rfl⟩
                go_wp2
                go_ret
                exact⟨by rw[HX2.out];rfl,hb1⟩
              · go_enter Tryz.func43,Tryz.ntmps43
                go_wp2_with fail
                refine(HP _).mono ?_
                rintro e w1 ⟨rfl,hb⟩
                obtain⟨c0,c1,c2,c3,hb1⟩:=HB.out _ hb
                go_wp2_with fail
                refine(HN _).mono ?_
                rintro e w2 ⟨rfl,rfl⟩
                go_wp2_with fail
                refine(HR _).mono ?_
                rintro e w2 ⟨rfl,rfl⟩
                go_wp2
                go_ret
                exact⟨by rw[HX2.out];rfl,hb1⟩
         · rw[if_neg h8]at HX
           have e8:(op == 8)=false:=by simpa using h8
           by_cases hnm:op=21∨op=22∨op=24
           · rw[if_pos hnm]at HX
             rcases hnm with rfl | rfl | rfl
             all_goals
              go_enter Tryz.func43,Tryz.ntmps43
              go_wp2_with fail
              refine(HP _).mono ?_
              rintro e w1 ⟨rfl,hb⟩
              obtain⟨c0,c1,c2,c3,hb1⟩:=HB.out _ hb
              go_wp2_with fail
              refine(HN _).mono ?_
              rintro e w2 ⟨rfl,rfl⟩
              go_wp2
              go_ret
              exact⟨by rw[HX.out];rfl,hb1⟩
           · rw[if_neg hnm]at HX
             have e21:(op == 21)=false:=by simp;omega
             have e22:(op == 22)=false:=by simp;omega
             have e24:(op == 24)=false:=by simp;omega
             by_cases h23:op=23
             · rw[if_pos h23]at HX
               subst h23
               have hz:=tfault_zero s.data.toList
               clear e21 e22 e24 e8
               go_enter Tryz.func43,Tryz.ntmps43
               go_wp2_with fail
               refine(HP _).mono ?_
               rintro e w1 ⟨rfl,hb⟩
               obtain⟨c0,c1,c2,c3,hb1⟩:=HB.out _ hb
               go_wp2_with fail
               refine(HT _).mono ?_
               rintro e w2 ⟨rfl,rfl⟩
               go_wp2
               go_ret
               exact⟨by rw[HX.out];rfl,hb1⟩
             · rw[if_neg h23,←ByteArray.toList_eq]at HX
               have e23:(op == 23)=false:=by simpa using h23
               clear h8 hnm h23 es
               go_enter Tryz.func43,Tryz.ntmps43
               go_wp2_with fail
               refine(HP _).mono ?_
               rintro e w1 ⟨rfl,hb⟩
               obtain⟨c0,c1,c2,c3,hb1⟩:=HB.out _ hb
               go_wp2
               go_ret
               exact⟨by rw[HX.out];rfl,hb1⟩
     · have HX:Hid (_=_):=exOk_bn h hn
       generalize exOk x=r at *
       generalize prt x=pr at *
       obtain⟨op,n,s,t⟩:=x
       unfold Nd.val at *
       simp only at h1 h2 HB hn
       have hn1:(n != 0)=true:=by simpa using hn
       clear h hn
       go_enter Tryz.func43,Tryz.ntmps43
       go_wp2_with fail
       refine(HP _).mono ?_
       rintro e w1 ⟨rfl,hb⟩
       obtain⟨c0,c1,c2,c3,hb1⟩:=HB.out _ hb
       go_wp2
       go_ret
       exact⟨by rw[HX.out];rfl,hb1⟩
def BOk (f:Nat):Prop:=∀(v:List Nd) (p:Option Addr) (c at_:Nat) (w:World),at_≤v.length→v.length-at_<f→NL w p v→v.length≤maxLen→
 Calls Tryz.prog 22 #[.slice p v.length c,.int .i64 at_] w fun e w'=>e= .returned (.int .i64 (endI v.length (pastE f (v.drop at_))))∧Below w.heap.size w w'
theorem partsB_none {pv:List Nd→Option (List Nd)}{n k:Nat}(h:k<n){v:List Nd}(e:pv v=none):partsE pv (n-k) v=none:=by
 rw[show n-k=(n-(k+1))+1 by omega];simp only[partsE,e]
theorem partsB_some {pv:List Nd→Option (List Nd)}{n k:Nat}(h:k<n){v rest:List Nd}(e:pv v=some rest):partsE pv (n-k) v=partsE pv (n-(k+1)) rest:=by
 rw[show n-k=(n-(k+1))+1 by omega];simp only[partsE,e]
theorem recB_nil {pv:List Nd→Option (List Nd)}{n k:Nat}(h:k<n){last:ByteArray}:recLoop pv (n-k) last []=none:=by
 rw[show n-k=(n-(k+1))+1 by omega];rfl
theorem recB_bad {pv:List Nd→Option (List Nd)}{n k:Nat}(h:k<n){last:ByteArray}{x:Nd}{r:List Nd}(e:¬(x.op=7∧ndOk x=true∧cmpB last x.s<0)):recLoop pv (n-k) last (x::r)=none:=by
 rw[show n-k=(n-(k+1))+1 by omega];simp only[recLoop,if_neg e]
theorem recB_go {pv:List Nd→Option (List Nd)}{n k:Nat}(h:k<n){last:ByteArray}{x:Nd}{r:List Nd}(e:x.op=7∧ndOk x=true∧cmpB last x.s<0):
 recLoop pv (n-k) last (x::r)=match pv r with | none=>none | some rest=>recLoop pv (n-(k+1)) x.s rest:=by
 rw[show n-k=(n-(k+1))+1 by omega];simp only[recLoop,if_pos e];cases pv r<;>rfl
theorem dropB {v rest:List Nd}{k:Nat}(ht:IsTail rest (v.drop k)):v.drop (v.length-rest.length)=rest:=by
 obtain⟨a,ha⟩:=ht
 have hl:v.length-k=a.length+rest.length:=by have:=congrArg List.length ha;simpa using this
 by_cases h:k≤v.length
 · rw[show v.length-rest.length=k+a.length by omega,←List.drop_drop,ha,List.drop_left]
 · have h1:rest.length=0:=by omega
   have h2:=List.eq_nil_of_length_eq_zero h1
   subst h2
   simp
theorem endI_some {n:Nat}{r:List Nd}(h:r.length≤n):endI n (some r)=((n-r.length:Nat):Int):=by
 unfold endI;simp only[];omega
theorem endI_drop {v:List Nd}{k:Nat}(h:k≤v.length):endI v.length (some (v.drop k))=(k:Int):=by
 unfold endI;simp only[List.length_drop];omega
theorem own_cells {w1 w2 wr:World}{x:Nd}{T:TypeId}(h:w2=w1.alloc (.cells #[.int .i64 x.op,.int .i64 x.n,.string x.s,.string x.t] T))(hb:Below w2.heap.size w2 wr):
 wr.cell? ⟨w1.heap.size,0,none⟩=some (.int .i64 x.op)∧wr.cell? ⟨w1.heap.size,1,none⟩=some (.int .i64 x.n)∧wr.cell? ⟨w1.heap.size,2,none⟩=some (.string x.s)∧wr.cell? ⟨w1.heap.size,3,none⟩=some (.string x.t)∧w1.heap.size<wr.heap.size:=by
 subst h
 refine⟨?_,?_,?_,?_,Nat.lt_of_lt_of_le (by simp) hb.size⟩
 · exact(hb.cell (p:=⟨w1.heap.size,0,none⟩) (by simp)).trans (by simp[go_sem])
 · exact(hb.cell (p:=⟨w1.heap.size,1,none⟩) (by simp)).trans (by simp[go_sem])
 · exact(hb.cell (p:=⟨w1.heap.size,2,none⟩) (by simp)).trans (by simp[go_sem])
 · exact(hb.cell (p:=⟨w1.heap.size,3,none⟩) (by simp)).trans (by simp[go_sem])
set_option maxRecDepth 100000 in
theorem behind_parts (f:Nat)(ih:BOk f)(v:List Nd)(p:Option Addr)(c at0:Nat)(w:World)(hk:at0<v.length)(hf:v.length-at0<f+1)(hv:NL w p v)(hl:v.length≤maxLen)
 (h7:v[at0].op≠7) (hx:exOk v[at0]=true) (h6:v[at0].op≠6):
 Calls Tryz.prog 22 #[.slice p v.length c,.int .i64 at0] w fun e w'=>e= .returned (.int .i64 (endI v.length (partsE (pastE f) (prt v[at0]).toNat (v.drop (at0+1)))))∧Below w.heap.size w w':=by
 have HM:Hid (v.length≤maxLen):=hl
 unfold maxLen at hl
 have HI:Hid (BOk f):=ih
 clear ih
 obtain⟨b,off,rfl,hbw,x0,x1,x2,x3,xw⟩:=hv.at hk
 generalize v[at0]=x at *
 have i1:(at0:Int)<(v.length:Int):=by omega
 have i2:¬(at0:Int)<0:=by omega
 have i3:¬v.length≤at0:=by omega
 have HF:=fun w=>refFields_any x w xw
 rw[hx]at HF
 have HP:=fun w=>refPrt_any x w
 have e7:(x.op == 7)=false:=by simpa using h7
 have e6:(x.op == 6)=false:=by simpa using h6
 have hcn:prt x≤9223372036854775807:=by have:=xw.2.2;unfold prt;repeat' split<;>omega
 generalize hR:partsE (pastE f) (prt x).toNat (v.drop (at0+1))=R
 have HR:Hid (_=_):=hR
 clear hR h7 hx h6
 go_enter Tryz.func22,Tryz.ntmps22
 go_wp2_with fail
 refine(HF _).mono ?_
 rintro e w1 ⟨rfl,hb1⟩
 have y0:=(hb1.cell (p:=⟨b,off+at0*4,none⟩) hbw).trans x0
 have y1:=(hb1.cell (p:=⟨b,off+at0*4+1,none⟩) hbw).trans x1
 have y2:=(hb1.cell (p:=⟨b,off+at0*4+2,none⟩) hbw).trans x2
 have y3:=(hb1.cell (p:=⟨b,off+at0*4+3,none⟩) hbw).trans x3
 clear x0 x1 x2 x3 HF
 have hv1:=hv.up hb1
 have hb2:Below w1.heap.size w1 (w1.alloc (.cells #[.int .i64 x.op,.int .i64 x.n,.string x.s,.string x.t] 53)):=(Below.refl _ _).alloc (Nat.le_refl _) _
 have HW:Hid (∀w2,w2=w1.alloc (.cells #[.int .i64 x.op,.int .i64 x.n,.string x.s,.string x.t] 53)→∀wr,Below w2.heap.size w2 wr→_):=fun w2 h wr hb=>own_cells (x:=x) (T:=53) h hb
 go_wp2
 clear y0 y1 y2 y3
 generalize w1.alloc (.cells #[.int .i64 x.op,.int .i64 x.n,.string x.s,.string x.t] 53)=w2 at *
 go_loopw [1,6,7] (fun sa sl i wr=>∃k fr:Nat,k≤(prt x).toNat∧i= .int .i64 k∧sa= .int .i64 fr∧sl= .string ⟨#[]⟩∧at0<fr∧fr≤v.length∧Hid (partsE (pastE f) ((prt x).toNat-k) (v.drop fr)=R)∧Below w2.heap.size w2 wr) (fun _ _ i _=>(prt x).toNat-(intOf i).toNat)
 case atStart=>exact⟨0,at0+1,Nat.zero_le _,rfl,by go_num,rfl,by omega,by omega,HR,Below.refl _ _⟩
 case round=>
  obtain⟨k,fr,hkk,rfl,rfl,rfl,h01,hfr,HS,hb⟩:=hrel
  obtain⟨z0,z1,z2,z3,hzl⟩:=HW.out w2 rfl wr hb
  have hb3:Below w.heap.size w wr:=hb1.trans ((hb2.trans (hb.mono hb2.size)).mono hb1.size)
  have hvr:=hv.up hb3
  by_cases hlt:(k:Int)<prt x
  · have hkn:k<(prt x).toNat:=by omega
    have hc:=fun w4 (hb4:Below wr.heap.size wr w4)=>HI.out v (some ⟨b,off,none⟩) c fr w4 hfr (by omega) (hvr.up hb4) HM.out
    cases hp:pastE f (v.drop fr)with
    | none=>
      rw[hp]at hc
      have HN:Hid (none=R):=by rw[←HS.out,partsB_none hkn hp];rfl
      clear hp HS HR
      unfold endI at hc
      simp only[]at hc
      generalize prt x=pr at *
      go_wp2_with fail
      refine(HP _).mono ?_
      rintro e w4 ⟨rfl,hb4⟩
      have u0:=(hb4.cell (p:=⟨w1.heap.size,0,none⟩) hzl).trans z0
      have hc1:=hc _ hb4
      clear z0 z1 z2 z3 hc
      go_wp2_with fail
      refine hc1.mono ?_
      rintro e w5 ⟨rfl,hb5⟩
      have hb6:=hb4.trans (hb5.mono hb4.size)
      go_wp2
      go_ret
      exact⟨by rw[←HN.out];rfl,hb3.trans (hb6.mono hb3.size)⟩
    | some rest=>
      rw[hp]at hc
      obtain⟨hsh,htl⟩:=pastE_shorter hp
      have hsh2:rest.length<v.length-fr:=by simpa using hsh
      rw[endI_some (by omega)]at hc
      have HN:Hid (partsE (pastE f) ((prt x).toNat-(k+1)) (v.drop (v.length-rest.length))=R):=by rw[dropB htl,←HS.out,partsB_some hkn hp];rfl
      clear hp HS HR hsh htl
      generalize hen:v.length-rest.length=en at *
      have hen1:fr<en:=by omega
      have hen2:en≤v.length:=by omega
      have hen3:¬(en:Int)<0:=by omega
      clear hen hsh2
      generalize prt x=pr at *
      go_wp2_with fail
      refine(HP _).mono ?_
      rintro e w4 ⟨rfl,hb4⟩
      have u0:=(hb4.cell (p:=⟨w1.heap.size,0,none⟩) hzl).trans z0
      have hc1:=hc _ hb4
      clear z0 z1 z2 z3 hc
      go_wp2_with fail
      refine hc1.mono ?_
      rintro e w5 ⟨rfl,hb5⟩
      have hb6:=hb4.trans (hb5.mono hb4.size)
      go_wp2
      go_roundw
      case rel=>exact⟨k+1,en,by omega,by go_num,rfl,rfl,by omega,hen2,HN,hb.trans (hb6.mono hb.size)⟩
      case measure=>simp[intOf];omega
  · have HN:Hid (some (v.drop fr)=R):=by
     have:=HS.out
     rw[show(prt x).toNat-k=0 by omega]at this
     exact this
    have HE:Hid (_=_):=endI_drop (v:=v) hfr
    clear HS HR
    generalize prt x=pr at *
    go_wp2_with fail
    refine(HP _).mono ?_
    rintro e w4 ⟨rfl,hb4⟩
    go_wp2
    go_ret
    exact⟨by rw[←HN.out,HE.out];rfl,hb3.trans (hb4.mono hb3.size)⟩
theorem below_dn {a b:World}{B:Nat}(h:Below B a b)(n:Nat):Below B a (b.drewN n):=⟨h.os,h.tape,h.output,h.size,h.block⟩
theorem exOk_seven {y:Nd}(h:y.op=7):exOk y=ndOk y:=by unfold exOk;rw[if_pos (by omega)]
set_option maxRecDepth 100000 in
theorem behind_rec (f:Nat)(ih:BOk f)(v:List Nd)(p:Option Addr)(c at0:Nat)(w:World)(hk:at0<v.length)(hf:v.length-at0<f+1)(hv:NL w p v)(hl:v.length≤maxLen)
 (hx:exOk v[at0]=true) (h6:v[at0].op=6):
 Calls Tryz.prog 22 #[.slice p v.length c,.int .i64 at0] w fun e w'=>e= .returned (.int .i64 (endI v.length (recLoop (pastE f) (prt v[at0]).toNat ⟨#[]⟩ (v.drop (at0+1)))))∧Below w.heap.size w w':=by
 have HM:Hid (v.length≤maxLen):=hl
 unfold maxLen at hl
 have HI:Hid (BOk f):=ih
 clear ih
 obtain⟨b,off,rfl,hbw,x0,x1,x2,x3,xw⟩:=hv.at hk
 generalize v[at0]=x at *
 have i1:(at0:Int)<(v.length:Int):=by omega
 have i2:¬(at0:Int)<0:=by omega
 have i3:¬v.length≤at0:=by omega
 have HF:=fun w=>refFields_any x w xw
 rw[hx]at HF
 have HP:=fun w=>refPrt_any x w
 have e7:(x.op == 7)=false:=by simp;omega
 have e6:(x.op == 6)=true:=by simpa using h6
 have hcn:prt x≤9223372036854775807:=by have:=xw.2.2;unfold prt;repeat' split<;>omega
 generalize hR:recLoop (pastE f) (prt x).toNat ⟨#[]⟩ (v.drop (at0+1))=R
 have HR:Hid (_=_):=hR
 clear hR hx h6
 go_enter Tryz.func22,Tryz.ntmps22
 go_wp2_with fail
 refine(HF _).mono ?_
 rintro e w1 ⟨rfl,hb1⟩
 have y0:=(hb1.cell (p:=⟨b,off+at0*4,none⟩) hbw).trans x0
 have y1:=(hb1.cell (p:=⟨b,off+at0*4+1,none⟩) hbw).trans x1
 have y2:=(hb1.cell (p:=⟨b,off+at0*4+2,none⟩) hbw).trans x2
 have y3:=(hb1.cell (p:=⟨b,off+at0*4+3,none⟩) hbw).trans x3
 clear x0 x1 x2 x3 HF
 have hb2:Below w1.heap.size w1 (w1.alloc (.cells #[.int .i64 x.op,.int .i64 x.n,.string x.s,.string x.t] 53)):=(Below.refl _ _).alloc (Nat.le_refl _) _
 have HW:Hid (∀w2,w2=w1.alloc (.cells #[.int .i64 x.op,.int .i64 x.n,.string x.s,.string x.t] 53)→∀wr,Below w2.heap.size w2 wr→_):=fun w2 h wr hb=>own_cells (x:=x) (T:=53) h hb
 go_wp2
 clear y0 y1 y2 y3
 generalize w1.alloc (.cells #[.int .i64 x.op,.int .i64 x.n,.string x.s,.string x.t] 53)=w2 at *
 go_loopw [1,6,7] (fun sa sl i wr=>∃(k fr:Nat) (last:ByteArray),k≤(prt x).toNat∧i= .int .i64 k∧sa= .int .i64 fr∧sl= .string last∧last.size≤9223372036854775807∧at0<fr∧fr≤v.length∧Hid (recLoop (pastE f) ((prt x).toNat-k) last (v.drop fr)=R)∧Below w2.heap.size w2 wr) (fun _ _ i _=>(prt x).toNat-(intOf i).toNat)
 case atStart=>exact⟨0,at0+1,⟨#[]⟩,Nat.zero_le _,rfl,by go_num,rfl,Nat.zero_le _,by omega,by omega,HR,Below.refl _ _⟩
 case round=>
  obtain⟨k,fr,last,hkk,rfl,rfl,rfl,hls,h01,hfr,HS,hb⟩:=hrel
  obtain⟨z0,z1,z2,z3,hzl⟩:=HW.out w2 rfl wr hb
  have hb3:Below w.heap.size w wr:=hb1.trans ((hb2.trans (hb.mono hb2.size)).mono hb1.size)
  have hvr:=hv.up hb3
  have hbr:b<wr.heap.size:=Nat.lt_of_lt_of_le hbw hb3.size
  by_cases hlt:(k:Int)<prt x
  · have hkn:k<(prt x).toNat:=by omega
    by_cases halt:fr<v.length
    · have hdr:v.drop fr=v[fr]::v.drop (fr+1):=List.drop_eq_getElem_cons halt
      obtain⟨b',off',hpe,_,q0,q1,q2,q3,yw⟩:=hvr.at halt
      obtain⟨rfl,rfl⟩:b=b'∧off=off':=by simpa using hpe
      rw[hdr]at HS
      clear hdr hpe
      generalize v[fr]=y at *
      have j1:(fr:Int)<(v.length:Int):=by omega
      have j2:¬v.length≤fr:=by omega
      by_cases h7:y.op=7
      · have f7:(y.op != 7)=false:=by simpa using h7
        have HFy:=fun w=>refFields_any y w yw
        rw[exOk_seven h7]at HFy
        cases hok:ndOk y
        · rw[hok]at HFy
          have HN:Hid (none=R):=by rw[←HS.out,recB_bad hkn (fun h=>by rw[h.2.1]at hok;cases hok)];rfl
          clear HS HR hok h7
          generalize prt x=pr at *
          go_wp2_with fail
          refine(HP _).mono ?_
          rintro e w4 ⟨rfl,hb4⟩
          have u0:=(hb4.cell (p:=⟨w1.heap.size,0,none⟩) hzl).trans z0
          have r0:=(hb4.cell (p:=⟨b,off+fr*4,none⟩) hbr).trans q0
          have r1:=(hb4.cell (p:=⟨b,off+fr*4+1,none⟩) hbr).trans q1
          have r2:=(hb4.cell (p:=⟨b,off+fr*4+2,none⟩) hbr).trans q2
          have r3:=(hb4.cell (p:=⟨b,off+fr*4+3,none⟩) hbr).trans q3
          clear z0 z1 z2 z3 q0 q1 q2 q3
          go_wp2_with fail
          refine(HFy _).mono ?_
          rintro e w5 ⟨rfl,hb5⟩
          have hb6:=hb4.trans (hb5.mono hb4.size)
          go_wp2
          go_ret
          exact⟨by rw[←HN.out];rfl,hb3.trans (hb6.mono hb3.size)⟩
        · rw[hok]at HFy
          have HC:=fun w=>textC_any last y.s w (by unfold maxLen;omega) yw.1
          by_cases hcmp:cmpB last y.s<0
          · have HN:=(recB_go (pv:=pastE f) (r:=v.drop (fr+1)) hkn ⟨h7,hok,hcmp⟩).symm.trans HS.out
            have hcl:=fun w4 (hb4:Below wr.heap.size wr w4)=>HI.out v (some ⟨b,off,none⟩) c (fr+1) w4 (by omega) (by omega) (hvr.up hb4) HM.out
            rw[show((fr+1:Nat):Int)=(fr:Int)+1 by omega]at hcl
            have hc0:¬ 0≤cmpB last y.s:=by omega
            have hys:y.s.size≤9223372036854775807:=by have:=yw.1;unfold maxLen at this;omega
            clear HS HR hok h7 hcmp
            generalize cmpB last y.s=cp at *
            cases hp:pastE f (v.drop (fr+1))with
            | none=>
              rw[hp]at hcl HN
              have HN2:Hid (none=R):=HN
              clear hp HN
              unfold endI at hcl
              simp only[]at hcl
              generalize prt x=pr at *
              go_wp2_with fail
              refine(HP _).mono ?_
              rintro e w4 ⟨rfl,hb4⟩
              have u0:=(hb4.cell (p:=⟨w1.heap.size,0,none⟩) hzl).trans z0
              have r0:=(hb4.cell (p:=⟨b,off+fr*4,none⟩) hbr).trans q0
              have r1:=(hb4.cell (p:=⟨b,off+fr*4+1,none⟩) hbr).trans q1
              have r2:=(hb4.cell (p:=⟨b,off+fr*4+2,none⟩) hbr).trans q2
              have r3:=(hb4.cell (p:=⟨b,off+fr*4+3,none⟩) hbr).trans q3
              clear z0 z1 z2 z3 q0 q1 q2 q3
              go_wp2_with fail
              refine(HFy _).mono ?_
              rintro e w5 ⟨rfl,hb5⟩
              have hb6:=hb4.trans (hb5.mono hb4.size)
              have s2:=(hb5.cell (p:=⟨b,off+fr*4+2,none⟩) (Nat.lt_of_lt_of_le hbr hb4.size)).trans r2
              clear r0 r1 r2 r3
              go_wp2_with fail
              refine(HC _).mono ?_
              rintro e w6 ⟨rfl,n6,rfl⟩
              have hb7:=below_dn hb6 n6
              have hc1:=hcl _ hb7
              clear hcl
              go_wp2_with fail
              refine hc1.mono ?_
              rintro e w7 ⟨rfl,hb8⟩
              have hb9:=hb7.trans (hb8.mono hb7.size)
              go_wp2
              go_ret
              exact⟨by rw[←HN2.out];rfl,hb3.trans (hb9.mono hb3.size)⟩
            | some rest=>
              rw[hp]at hcl HN
              obtain⟨hsh,htl⟩:=pastE_shorter hp
              have hsh2:rest.length<v.length-(fr+1):=by simpa using hsh
              rw[endI_some (by omega)]at hcl
              have HN2:Hid (recLoop (pastE f) ((prt x).toNat-(k+1)) y.s (v.drop (v.length-rest.length))=R):=by rw[dropB htl];exact HN
              clear hp HN hsh htl
              generalize hen:v.length-rest.length=en at *
              have hen1:fr<en:=by omega
              have hen2:en≤v.length:=by omega
              have hen3:¬(en:Int)<0:=by omega
              clear hen hsh2
              generalize prt x=pr at *
              go_wp2_with fail
              refine(HP _).mono ?_
              rintro e w4 ⟨rfl,hb4⟩
              have u0:=(hb4.cell (p:=⟨w1.heap.size,0,none⟩) hzl).trans z0
              have r0:=(hb4.cell (p:=⟨b,off+fr*4,none⟩) hbr).trans q0
              have r1:=(hb4.cell (p:=⟨b,off+fr*4+1,none⟩) hbr).trans q1
              have r2:=(hb4.cell (p:=⟨b,off+fr*4+2,none⟩) hbr).trans q2
              have r3:=(hb4.cell (p:=⟨b,off+fr*4+3,none⟩) hbr).trans q3
              clear z0 z1 z2 z3 q0 q1 q2 q3
              go_wp2_with fail
              refine(HFy _).mono ?_
              rintro e w5 ⟨rfl,hb5⟩
              have hb6:=hb4.trans (hb5.mono hb4.size)
              have s2:=(hb5.cell (p:=⟨b,off+fr*4+2,none⟩) (Nat.lt_of_lt_of_le hbr hb4.size)).trans r2
              clear r0 r1 r2 r3
              go_wp2_with fail
              refine(HC _).mono ?_
              rintro e w6 ⟨rfl,n6,rfl⟩
              have hb7:=below_dn hb6 n6
              have hc1:=hcl _ hb7
              clear hcl
              go_wp2_with fail
              refine hc1.mono ?_
              rintro e w7 ⟨rfl,hb8⟩
              have hb9:=hb7.trans (hb8.mono hb7.size)
              go_wp2
              go_roundw
              case rel=>exact⟨k+1,en,y.s,by omega,by go_num,rfl,rfl,hys,by omega,hen2,HN2,hb.trans (hb9.mono hb.size)⟩
              case measure=>simp[intOf];omega
          · have HN:Hid (none=R):=by rw[←HS.out,recB_bad hkn (fun h=>hcmp h.2.2)];rfl
            have hc0:0≤cmpB last y.s:=by omega
            clear HS HR hok h7 hcmp
            generalize cmpB last y.s=cp at *
            generalize prt x=pr at *
            go_wp2_with fail
            refine(HP _).mono ?_
            rintro e w4 ⟨rfl,hb4⟩
            have u0:=(hb4.cell (p:=⟨w1.heap.size,0,none⟩) hzl).trans z0
            have r0:=(hb4.cell (p:=⟨b,off+fr*4,none⟩) hbr).trans q0
            have r1:=(hb4.cell (p:=⟨b,off+fr*4+1,none⟩) hbr).trans q1
            have r2:=(hb4.cell (p:=⟨b,off+fr*4+2,none⟩) hbr).trans q2
            have r3:=(hb4.cell (p:=⟨b,off+fr*4+3,none⟩) hbr).trans q3
            clear z0 z1 z2 z3 q0 q1 q2 q3
            go_wp2_with fail
            refine(HFy _).mono ?_
            rintro e w5 ⟨rfl,hb5⟩
            have hb6:=hb4.trans (hb5.mono hb4.size)
            have s2:=(hb5.cell (p:=⟨b,off+fr*4+2,none⟩) (Nat.lt_of_lt_of_le hbr hb4.size)).trans r2
            clear r0 r1 r2 r3
            go_wp2_with fail
            refine(HC _).mono ?_
            rintro e w6 ⟨rfl,n6,rfl⟩
            have hb7:=below_dn hb6 n6
            go_wp2
            go_ret
            exact⟨by rw[←HN.out];rfl,hb3.trans (hb7.mono hb3.size)⟩
      · have f7:(y.op != 7)=true:=by simpa using h7
        have HN:Hid (none=R):=by rw[←HS.out,recB_bad hkn (fun h=>h7 h.1)];rfl
        clear HS HR h7
        generalize prt x=pr at *
        go_wp2_with fail
        refine(HP _).mono ?_
        rintro e w4 ⟨rfl,hb4⟩
        have u0:=(hb4.cell (p:=⟨w1.heap.size,0,none⟩) hzl).trans z0
        have r0:=(hb4.cell (p:=⟨b,off+fr*4,none⟩) hbr).trans q0
        clear z0 z1 z2 z3 q0 q1 q2 q3
        go_wp2
        go_ret
        exact⟨by rw[←HN.out];rfl,hb3.trans (hb4.mono hb3.size)⟩
    · have j1:(v.length:Int)≤(fr:Int):=by omega
      have HN:Hid (none=R):=by
       have:=HS.out
       rw[List.drop_of_length_le (by omega),recB_nil hkn]at this
       exact this
      clear HS HR
      generalize prt x=pr at *
      go_wp2_with fail
      refine(HP _).mono ?_
      rintro e w4 ⟨rfl,hb4⟩
      have u0:=(hb4.cell (p:=⟨w1.heap.size,0,none⟩) hzl).trans z0
      go_wp2
      go_ret
      exact⟨by rw[←HN.out];rfl,hb3.trans (hb4.mono hb3.size)⟩
  · have HN:Hid (some (v.drop fr)=R):=by
     have:=HS.out
     rw[show(prt x).toNat-k=0 by omega]at this
     exact this
    have HE:Hid (_=_):=endI_drop (v:=v) hfr
    clear HS HR
    generalize prt x=pr at *
    go_wp2_with fail
    refine(HP _).mono ?_
    rintro e w4 ⟨rfl,hb4⟩
    go_wp2
    go_ret
    exact⟨by rw[←HN.out,HE.out];rfl,hb3.trans (hb4.mono hb3.size)⟩
set_option maxRecDepth 100000 in
theorem behind_step (f:Nat)(ih:BOk f):BOk (f+1):=by
 intro v p c at_ w hat hf hv hl
 by_cases halt:at_<v.length
 · have hdr:v.drop at_=v[at_]::v.drop (at_+1):=List.drop_eq_getElem_cons halt
   rw[hdr]
   by_cases hok:v[at_].op≠7∧exOk v[at_]=true
   · by_cases h6:v[at_].op=6
     · rw[pastE_rec hok.1 hok.2 h6]
       have:=behind_rec f ih v p c at_ w halt hf hv hl hok.2 h6
       rw[show prt v[at_]=v[at_].n by unfold prt;rw[if_pos (.inr h6)]]at this
       exact this
     · rw[pastE_parts hok.1 hok.2 h6]
       exact behind_parts f ih v p c at_ w halt hf hv hl hok.1 hok.2 h6
   · rw[pastE_bad hok]
     have HO:Hid (¬(v[at_].op≠7∧exOk v[at_]=true)):=hok
     clear hdr hok
     unfold maxLen at hl
     obtain⟨b,off,rfl,hbw,x0,x1,x2,x3,xw⟩:=hv.at halt
     generalize v[at_]=x at *
     have i1:(at_:Int)<(v.length:Int):=by omega
     have i2:¬(at_:Int)<0:=by omega
     have i3:¬v.length≤at_:=by omega
     have HF:=fun w=>refFields_any x w xw
     cases hx:exOk x
     · rw[hx]at HF
       clear HO hx
       go_enter Tryz.func22,Tryz.ntmps22
       go_wp2_with fail
       refine(HF _).mono ?_
       rintro e w1 ⟨rfl,hb1⟩
       go_wp2
       go_ret
       exact⟨rfl,hb1⟩
     · rw[hx]at HF
       have h7:x.op=7:=Decidable.byContradiction fun h=>HO.out ⟨h,hx⟩
       have e7:(x.op == 7)=true:=by simpa using h7
       clear HO hx h7
       go_enter Tryz.func22,Tryz.ntmps22
       go_wp2_with fail
       refine(HF _).mono ?_
       rintro e w1 ⟨rfl,hb1⟩
       have y0:=(hb1.cell (p:=⟨b,off+at_*4,none⟩) hbw).trans x0
       clear x0 x1 x2 x3
       go_wp2
       go_ret
       exact⟨rfl,hb1⟩
 · rw[List.drop_of_length_le (by omega),pastE_nil]
   have i1:(v.length:Int)≤(at_:Int):=by omega
   have i2:¬(at_:Int)<0:=by omega
   go_enter Tryz.func22,Tryz.ntmps22
   go_wp2
   go_ret
   exact⟨rfl,Below.refl _ _⟩
theorem behind_any:∀f,BOk f
 | 0=>fun v p c at_ w _ h=>absurd h (by omega)
 | f+1=>behind_step f (behind_any f)
theorem refFault_any (v:List Nd)(p:Option Addr)(c:Nat)(w:World)(hv:NL w p v)(hl:v.length≤maxLen):
 Calls Tryz.prog 10 #[.slice p v.length c] w fun e w'=>e= .returned (.int .i64 (xfault v))∧Below w.heap.size w w':=by
 by_cases h:200<v.length
 · have HF:Hid (_=_):=xfault_long h
   have h':(200:Int)<(v.length:Int):=by omega
   go_enter Tryz.func10,Tryz.ntmps10
   go_wp2
   go_ret
   exact⟨by rw[HF.out];rfl,Below.refl _ _⟩
 · have h':¬(200:Int)<(v.length:Int):=by omega
   have hc:=behind_any (v.length+1) v p c 0 w (Nat.zero_le _) (by omega) hv hl
   rw[List.drop_zero]at hc
   cases hx:isEx v
   · have HF:Hid (_=_):=xfault_bad h hx
     generalize hen:endI v.length (pastE (v.length+1) v)=en at *
     have hne:(en != (v.length:Int))=true:=by
      rw[←hen]
      unfold isEx at hx
      cases hp:pastE (v.length+1) v with
      | none=>simp[endI]
      | some r=>
        rw[hp]at hx
        have hsh:=(pastE_shorter hp).1
        cases r with
        | nil=>cases hx
        | cons y r=>simp[endI]at hsh ⊢; omega
     clear hen hx h
     go_enter Tryz.func10,Tryz.ntmps10
     go_wp2_with fail
     refine hc.mono ?_
     rintro e w1 ⟨rfl,hb⟩
     go_wp2
     go_ret
     exact⟨by rw[HF.out];rfl,hb⟩
   · have HF:Hid (_=_):=xfault_ok h hx
     rw[(isEx_iff v).1 hx]at hc
     have hen:endI v.length (some [])=(v.length:Int):=by simp[endI]
     rw[hen]at hc
     clear hx h hen
     go_enter Tryz.func10,Tryz.ntmps10
     go_wp2_with fail
     refine hc.mono ?_
     rintro e w1 ⟨rfl,hb⟩
     go_wp2
     go_ret
     exact⟨by rw[HF.out];rfl,hb⟩
end Go.Proofs.YtnbkfggmpiccjaaGreatDoor
