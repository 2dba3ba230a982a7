import Derived.Test.YthhijecpookfhaaGreatDoorF4
import Derived.WalkSpells
import Derived.Laws.IdiomStrings
import Derived.Laws.BytesArg
import Derived.Maps.AppendAt
import Derived.Test.YthhijecpookfhaaGreatDoorF3
import Derived.Test.YthhijecpookfhaaGreatDoorF12
import Derived.Test.YthhijecpookfhaaGreatDoorF13
import Derived.Laws.StructEq
import Derived.Test.YthhijecpookfhaaGreatDoorF14
set_option linter.unusedVariables false
set_option maxHeartbeats 12000000
namespace Go.Proofs.YthhijecpookfhaaGreatDoor
open Go.RowKit
theorem Tryz.infoNode:(Tryz.prog.info? 71).map (fun i=>(i.zero,i.size,i.bytes))=some (some (.agg #[.int .i64 0,.int .i64 0,.string ⟨#[]⟩,.string ⟨#[]⟩]),4,48):=by kernel_rfl
def Typed (w:World)(b:Nat)(e:TypeId):Prop:=∃cur fr,w.heap[b]? =some (.cells cur e fr)
theorem Typed.ne {w:World}{a b:Nat}{e f:TypeId}(h:Typed w a e)(k:Typed w b f)(hne:e≠f):a≠b:=by
 rintro rfl
 obtain⟨_,_,h⟩:=h
 obtain⟨_,_,k⟩:=k
 rw[h]at k
 cases k
 exact hne rfl
theorem Typed.lt {w:World}{b:Nat}{e:TypeId}(h:Typed w b e):b<w.heap.size:=by
 obtain⟨_,_,h⟩:=h
 exact(Array.getElem?_eq_some_iff.1 h).1
structure Kept (base:Nat)(e:TypeId)(w w':World):Prop where
 bel:Below base w w'
 typed:∀b f,f≠e→Typed w b f→w'.heap[b]? =w.heap[b]?
theorem Kept.refl (base:Nat)(e:TypeId)(w:World):Kept base e w w:=⟨Below.refl _ _,fun _ _ _ _=>rfl⟩
theorem Kept.trans {base:Nat}{e:TypeId}{a b c:World}(h:Kept base e a b)(k:Kept base e b c):Kept base e a c:=by
 refine⟨h.bel.trans k.bel,fun x f hf ht=>?_⟩
 have h1:=h.typed x f hf ht
 obtain⟨cur,fr,hx⟩:=ht
 rw[k.typed x f hf ⟨cur,fr,h1.trans hx⟩,h1]
theorem Kept.of_below {base:Nat}{e:TypeId}{w w':World}(h:Below w.heap.size w w')(hb:base≤w.heap.size):Kept base e w w':=
 ⟨h.mono hb,fun b f _ ht=>h.block b ht.lt⟩
theorem Kept.is {base:Nat}{e f:TypeId}{w w':World}(h:Kept base e w w')(hf:f≠e){b:Nat}(ht:Typed w b f):Typed w' b f:=by
 have:=h.typed b f hf ht
 obtain⟨cur,fr,hx⟩:=ht
 exact⟨cur,fr,this.trans hx⟩
def NT (w:World)(base:Nat)(q:Option Addr)(L:List Nd):Prop:=NL w q L∧(L=[]∨∃b o,q=some ⟨b,o,none⟩∧(b<base∨Typed w b 71))
theorem NT.kept {w w':World}{base:Nat}{e:TypeId}{q:Option Addr}{L:List Nd}(h:NT w base q L)(k:Kept base e w w')(he:71≠e):NT w' base q L:=by
 obtain⟨h1,h2⟩:=h
 rcases h2 with rfl | ⟨b,o,rfl,hb⟩
 · exact⟨.inl rfl,.inl rfl⟩
 · have hblk:w'.heap[b]? =w.heap[b]? :=by
    rcases hb with hb | hb
    · exact k.bel.block b hb
    · exact k.typed b _ he hb
   refine⟨?_,.inr ⟨b,o,rfl,hb.imp id (fun ht=>k.is he ht)⟩⟩
   rcases h1 with h1 | ⟨b',o',h3,h4,h5⟩
   · exact .inl h1
   · cases h3
     refine .inr ⟨b,o,rfl,Nat.lt_of_lt_of_le h4 k.bel.size,fun i x hx=>?_⟩
     have hq:∀a,w'.cell? ⟨b,a,none⟩=w.cell? ⟨b,a,none⟩:=fun a=>World.cell?_of_block hblk
     simp only[hq]
     exact h5 i x hx
theorem NT.old {w:World}{base:Nat}{q:Option Addr}{L:List Nd}(h:NL w q L)(hb:base=w.heap.size):NT w base q L:=by
 refine⟨h,?_⟩
 rcases h with h | ⟨b,o,h1,h2,_⟩
 · exact .inl h
 · exact .inr ⟨b,o,h1,.inl (by omega)⟩
def Row1 (w:World)(base:Nat)(e:TypeId)(v:Value)(xs:List Value):Prop:=w.ownsRow base e 1 v xs.length xs
theorem Row1.nil (w:World)(base:Nat)(e:TypeId):Row1 w base e (.slice none 0 0) []:=World.ownsRow_nil _ _ _ _
theorem Row1.typed {w:World}{base:Nat}{e:TypeId}{v:Value}{xs:List Value}(h:Row1 w base e v xs):∀g,v.ownBlock=some g→base≤g∧Typed w g e:=by
 intro g hg
 rcases h.2 with⟨rfl,_⟩ | ⟨g',cap,cur,rfl,hb,hgg,_⟩
 · simp[Value.ownBlock]at hg
 · simp[Value.ownBlock]at hg
   subst hg
   exact⟨hb,cur,_,hgg⟩
theorem Row1.kept {w w':World}{base:Nat}{e f:TypeId}{v:Value}{xs:List Value}(h:Row1 w base f v xs)(k:Kept base e w w')(hf:f≠e):Row1 w' base f v xs:=by
 refine⟨h.1,?_⟩
 rcases h.2 with hn | ⟨g,cap,cur,rfl,hb,hgg,rest⟩
 · exact .inl hn
 · exact .inr ⟨g,cap,cur,rfl,hb,(k.typed g f hf ⟨cur,_,hgg⟩).trans hgg,rest⟩
theorem Row1.slice {w:World}{base:Nat}{e:TypeId}{v:Value}{xs:List Value}(h:Row1 w base e v xs):∃q c,v= .slice q xs.length c∧xs.length≤c∧c≤maxLen∧(xs=[]∨∃g,q=some ⟨g,0,none⟩∧Typed w g e∧base≤g∧∀i u,xs[i]? =some u→w.cell? ⟨g,i,none⟩=some u):=by
 have hc:=fun g hg=>World.ownsRow.cells h (g:=g) hg
 have ht:=h.typed
 rcases h.2 with⟨rfl,hn⟩ | ⟨g,cap,cur,rfl,hb,hgg,hle,hm,_⟩
 · obtain rfl:=List.eq_nil_of_length_eq_zero hn
   exact⟨none,0,rfl,Nat.le_refl _,Nat.zero_le _,.inl rfl⟩
 · refine⟨some ⟨g,0,none⟩,cap,rfl,hle,hm,.inr ⟨g,rfl,(ht g rfl).2,hb,fun i u hu=>?_⟩⟩
   have:=hc g rfl i u hu
   have hadd:(⟨g,0,none⟩:Addr).add i=⟨g,i,none⟩:=by unfold Addr.add;split<;>simp_all
   rw[hadd]at this
   exact this
theorem append_cell (w:World){ops:Array Oper}{rest:List Oper}{o:Oper}{a:Act}{Q:Exit→Act→World→Prop}(hgd:o.guard=none)(s x:Operand)(t e:TypeId)
 (ho:o.op= .call { callee:=.builtin .append,args:= #[s,x],argTypes:= #[t,t] }) (ht:Tryz.prog.underlying t=some (.slice e)) (z:Value) (bytes:Nat)
 (hinfo:(Tryz.prog.info? e).map (fun i=>(i.zero,i.size,i.bytes))=some (some z,1,bytes)) (hz:z.cells.size=1)
 (base:Nat) (v:Value) (xs:List Value) (hs:a.eval s=v) (hown:Row1 w base e v xs) (u:Value) (hu:u.oneCell'=true) (hx:a.eval x= .slice (some ⟨w.heap.size,0,none⟩) 1 1)
 (h63:xs.length+1≤maxLen) (hlen:(xs.length+1)*bytes≤140737488355328) (hbase:base≤w.heap.size)
 (h:∀v' w',Row1 w' base e v' (xs++[u])→Kept base e w w'→wpList Tryz.prog ops Q rest (a.put o.dst v') w'):wpList Tryz.prog ops Q (o::rest) a (w.alloc (.cells #[u] e)):=by
 obtain⟨i0,hi,hz0,hz1,hz2⟩:=info_parts hinfo
 have hown2:(w.alloc (.cells #[u] e)).ownsRow base e 1 v xs.length xs:=World.ownsRow.alloc hown _
 refine wpList_append_own _ hgd s x t ho base e i0 z 1 bytes ht hi hz0 hz1 hz2 hz (by decide) v xs.length xs hs hown2 ⟨w.heap.size,0,none⟩ 1 1 [u] hx rfl ?_ ?_ h63 hlen ?_ ?_
 · intro j y hj
   match j,hj with
   | 0,hj=>simp at hj;subst hj;simp[Addr.add]
 · intro y hy;simp at hy;subst hy;exact hu
 · simp;omega
 · intro v' w' h1 h2 _
   refine h v' w' (by unfold Row1;rw[List.length_append];exact h1) ?_
   refine⟨((Below.refl base w).alloc hbase (.cells #[u] e)).grown h2 (by simp;omega) (fun k hk=>(hown.typed k hk).1),fun b f hf hty=>?_⟩
   have hlt:=hty.lt
   rw[h2.block b (by simp;omega) (fun hb=>?_)]
   · exact Below.heap_alloc _ _ _ hlt
   · exact(hown.typed b hb.symm).2.ne hty (fun hh=>hf hh.symm) rfl
def ncells (L:List Nd):List Value:=L.flatMap fun x=>[.int .i64 x.op,.int .i64 x.n,.string x.s,.string x.t]
theorem ncells_length (L:List Nd):(ncells L).length=L.length*4:=by
 induction L with
 | nil=>rfl
 | cons x L ih=>simp[ncells]at *; omega
theorem ncells_at (L:List Nd)(i j:Nat)(hj:j<4):(ncells L)[i*4+j]? =(L[i]?).bind fun x=>[Value.int .i64 x.op,.int .i64 x.n,.string x.s,.string x.t][j]? :=by
 induction L generalizing i with
 | nil=>simp[ncells]
 | cons x L ih=>
   have e:ncells (x::L)=[.int .i64 x.op,.int .i64 x.n,.string x.s,.string x.t]++ncells L:=by simp[ncells]
   rw[e]
   cases i with
   | zero=>
     rw[List.getElem?_append_left (by simp;omega)]
     simp
   | succ i=>
     rw[List.getElem?_append_right (by simp;omega)]
     have:=ih i
     simp only[List.length_cons,List.length_nil,List.getElem?_cons_succ]
     rw[←this]
     congr 1;omega
theorem ncells_one (L:List Nd):∀u∈ncells L,u.oneCell'=true:=by
 intro u hu
 simp only[ncells,List.mem_flatMap]at hu
 obtain⟨x,_,hu⟩:=hu
 simp at hu
 rcases hu with rfl | rfl | rfl | rfl<;>rfl
theorem NL.cells {w:World}{b off:Nat}{L:List Nd}(h:NL w (some ⟨b,off,none⟩) L):∀j u,(ncells L)[j]? =some u→w.cell? ⟨b,off+j,none⟩=some u:=by
 intro j u hu
 rcases h with rfl | ⟨b',o',h1,h2,h3⟩
 · simp[ncells]at hu
 · cases h1
   have hj:j=(j / 4)*4+j % 4:=by omega
   rw[hj,ncells_at L (j / 4) (j % 4) (by omega)]at hu
   cases hx:L[j / 4]? with
   | none=>rw[hx]at hu;simp at hu
   | some x=>
     rw[hx]at hu
     obtain⟨c0,c1,c2,c3,_⟩:=h3 _ x hx
     have hm:j % 4=0∨j % 4=1∨j % 4=2∨j % 4=3:=by omega
     rw[hj]
     rcases hm with e | e | e | e<;>rw[e]at hu ⊢ <;>simp at hu<;>subst hu
     · exact c0
     · rw[←Nat.add_assoc];exact c1
     · rw[←Nat.add_assoc];exact c2
     · rw[←Nat.add_assoc];exact c3
theorem NL.of_row {w:World}{base:Nat}{v:Value}{L:List Nd}(hw:∀x∈L,x.wf)(h:w.ownsRow base 71 4 v L.length (ncells L)):∃q c,v= .slice q L.length c∧NT w 0 q L∧L.length≤c∧c≤maxLen:=by
 have hc:=fun g hg=>World.ownsRow.cells h (g:=g) hg
 rcases h.2 with⟨rfl,hn⟩ | ⟨g,cap,cur,rfl,hb,hgg,hle,hm,_⟩
 · obtain rfl:=List.eq_nil_of_length_eq_zero hn
   exact⟨none,0,rfl,⟨.inl rfl,.inl rfl⟩,Nat.le_refl _,Nat.zero_le _⟩
 · refine⟨_,cap,rfl,⟨.inr ⟨g,0,rfl,(Array.getElem?_eq_some_iff.1 hgg).1,fun i x hx=>?_⟩,.inr ⟨g,0,rfl,.inr ⟨cur,_,hgg⟩⟩⟩,hle,hm⟩
   have q:∀j,j<4→w.cell? ⟨g,i*4+j,none⟩=[Value.int .i64 x.op,.int .i64 x.n,.string x.s,.string x.t][j]? :=fun j hj=>by
    have e:=ncells_at L i j hj
    rw[hx]at e
    have hadd:(⟨g,0,none⟩:Addr).add (i*4+j)=⟨g,i*4+j,none⟩:=by unfold Addr.add;split<;>simp_all
    obtain⟨u,hu⟩:∃u,[Value.int .i64 x.op,.int .i64 x.n,.string x.s,.string x.t][j]? =some u:=⟨_,List.getElem?_eq_getElem (by simpa using hj)⟩
    have:=hc g rfl (i*4+j) u (by rw[e];exact hu)
    rw[hadd]at this
    rw[this,hu]
   refine⟨?_,?_,?_,?_,hw x (List.mem_of_getElem? hx)⟩
   · have:=q 0 (by omega);simpa using this
   · have:=q 1 (by omega);simpa using this
   · have:=q 2 (by omega);simpa using this
   · have:=q 3 (by omega);simpa using this
theorem NT.any {w:World}{base:Nat}{q:Option Addr}{L:List Nd}(h:NT w 0 q L):NT w base q L:=
 ⟨h.1,h.2.imp id fun⟨b,o,h1,h2⟩=>⟨b,o,h1,h2.elim (fun h=>absurd h (Nat.not_lt_zero _)) .inr⟩⟩
theorem NL.wfs {w:World}{q:Option Addr}{L:List Nd}(h:NL w q L):∀x∈L,x.wf:=by
 intro x hx
 obtain⟨i,hi⟩:=List.getElem?_of_mem hx
 rcases h with rfl | ⟨b,o,_,_,h3⟩
 · cases hx
 · exact(h3 i x hi).2.2.2.2
def ON (w:World)(base:Nat)(v:Value)(L:List Nd):Prop:=w.ownsRow base 71 4 v L.length (ncells L)∧∀x∈L,x.wf
theorem ON.slice {w:World}{base:Nat}{v:Value}{L:List Nd}(h:ON w base v L)(hne:L≠[]):∃g cap,v= .slice (some ⟨g,0,none⟩) L.length cap∧base≤g∧g<w.heap.size∧L.length≤cap∧cap≤maxLen∧NL w (some ⟨g,0,none⟩) L∧∀j,w.frozen? ⟨g,j,none⟩=false:=by
 rcases h.1.2 with⟨_,hn⟩ | ⟨g,cap,cur,hv,hb,hgg,hle,hm,_⟩
 · exact absurd (List.eq_nil_of_length_eq_zero hn) hne
 · obtain⟨q,c,e,hnt,_⟩:=NL.of_row h.2 h.1
   rw[hv]at e
   cases e
   refine⟨g,cap,hv,hb,(Array.getElem?_eq_some_iff.1 hgg).1,hle,hm,hnt.1,fun j=>?_⟩
   simp[World.frozen?, hgg]
theorem ncells_append (a b:List Nd):ncells (a++b)=ncells a++ncells b:=by simp[ncells]
theorem ON.typed {w:World}{base:Nat}{v:Value}{L:List Nd}(h:ON w base v L):∀g,v.ownBlock=some g→base≤g∧Typed w g 71:=by
 intro g hg
 rcases h.1.2 with⟨rfl,_⟩ | ⟨g',cap,cur,rfl,hb,hgg,_⟩
 · simp[Value.ownBlock]at hg
 · simp[Value.ownBlock]at hg
   subst hg
   exact⟨hb,cur,_,hgg⟩
theorem ON.below {w w':World}{base:Nat}{v:Value}{L:List Nd}(h:ON w base v L)(k:Below w.heap.size w w'):ON w' base v L:=by
 refine⟨⟨h.1.1,?_⟩,h.2⟩
 rcases h.1.2 with hn | ⟨g,cap,cur,rfl,hb,hgg,rest⟩
 · exact .inl hn
 · exact .inr ⟨g,cap,cur,rfl,hb,(k.block g (Array.getElem?_eq_some_iff.1 hgg).1).trans hgg,rest⟩
theorem append_nodes (w:World){ops:Array Oper}{rest:List Oper}{o:Oper}{a:Act}{Q:Exit→Act→World→Prop}(hgd:o.guard=none)(s x:Operand)
 (ho:o.op= .call { callee:=.builtin .append,args:= #[s,x],argTypes:= #[50,50] })
 (base:Nat) (v:Value) (L:List Nd) (hs:a.eval s=v) (hown:ON w base v L) (M:List Nd) (n:Nat) (hn:M.length=n) (b off c:Nat) (hN:NL w (some ⟨b,off,none⟩) M)
 (hx:a.eval x= .slice (some ⟨b,off,none⟩) n c) (hlen:L.length+M.length≤1099511627776) (hbase:base≤w.heap.size)
 (h:∀v' w',ON w' base v' (L++M)→Kept base 71 w w'→wpList Tryz.prog ops Q rest (a.put o.dst v') w'):wpList Tryz.prog ops Q (o::rest) a w:=by
 subst hn
 obtain⟨i0,hi,hz0,hz1,hz2⟩:=info_parts Tryz.infoNode
 refine wpList_append_own _ hgd s x 50 ho base 71 i0 _ 4 48 Tryz.underlying50 hi hz0 hz1 hz2 rfl (by decide) v L.length (ncells L) hs hown.1 ⟨b,off,none⟩ M.length c (ncells M) hx (ncells_length M) ?_ (ncells_one _) (by unfold maxLen;omega) (by omega) hbase ?_
 · intro j u hu
   have hadd:(⟨b,off,none⟩:Addr).add j=⟨b,off+j,none⟩:=by unfold Addr.add;split<;>simp_all
   rw[hadd];exact hN.cells j u hu
 · intro v' w' h1 h2 _
   refine h v' w' ⟨?_,fun x hx=>?_⟩ ⟨(Below.refl base w).grown h2 hbase (fun k hk=>(hown.typed k hk).1),fun bb f hf hty=>h2.block bb hty.lt (fun e=>(hown.typed bb e.symm).2.ne hty (fun hh=>hf hh.symm) rfl)⟩
   · rw[ncells_append,List.length_append];exact h1
   · rcases List.mem_append.1 hx with hx | hx
     · exact hown.2 x hx
     · exact hN.wfs x hx
set_option maxRecDepth 100000
def pcl (x:Nd)(v:Value):List Value:=[.int .i64 x.op,.int .i64 x.n,.string x.s,.string x.t,v]
def partV (x:Nd)(v:Value):Value:=.agg #[.int .i64 x.op,.int .i64 x.n,.string x.s,.string x.t,v]
structure Keep (S:Nat→Prop)(w w':World):Prop where
 os:w'.os=w.os
 tape:w'.tape=w.tape
 output:w'.output=w.output
 size:w.heap.size≤w'.heap.size
 block:∀a,a<w.heap.size→¬S a→w'.heap[a]? =w.heap[a]?
theorem Keep.of_below {S:Nat→Prop}{w w':World}(h:Below w.heap.size w w'):Keep S w w':=⟨h.os,h.tape,h.output,h.size,fun a ha _=>h.block a ha⟩
theorem Keep.below {S:Nat→Prop}{w w':World}(h:Keep S w w'){N:Nat}(hN:N≤w.heap.size)(hS:∀a,S a→N≤a):Below N w w':=⟨h.os,h.tape,h.output,h.size,fun a ha=>h.block a (by omega) (fun e=>by have:=hS a e;omega)⟩
theorem Keep.refl (S:Nat→Prop)(w:World):Keep S w w:=⟨rfl,rfl,rfl,Nat.le_refl _,fun _ _ _=>rfl⟩
theorem Keep.trans {S S2:Nat→Prop}{w w1 w2:World}(h:Keep S w w1)(k:Keep S2 w1 w2)(hs:∀a,S2 a→S a∨w.heap.size≤a):Keep S w w2:=
 ⟨k.os.trans h.os,k.tape.trans h.tape,k.output.trans h.output,Nat.le_trans h.size k.size,fun a ha hn=>(k.block a (Nat.lt_of_lt_of_le ha h.size) (fun e=>(hs a e).elim hn (by omega))).trans (h.block a ha hn)⟩
theorem Keep.mono {S S2:Nat→Prop}{w w1:World}(h:Keep S w w1)(hs:∀a,S a→S2 a):Keep S2 w w1:=⟨h.os,h.tape,h.output,h.size,fun a ha hn=>h.block a ha (fun e=>hn (hs a e))⟩
theorem Keep.cell {S:Nat→Prop}{w w':World}(h:Keep S w w'){p:Addr}(hl:p.block<w.heap.size)(hn:¬S p.block):w'.cell? p=w.cell? p:=World.cell?_of_block (h.block _ hl hn)
theorem ownP_lt {w:World}{base:Nat}{T:TypeId}{m:Nat}{v:Value}{n:Nat}{l:List Value}(h:w.ownsRow base T m v n l){g:Nat}(hg:v.ownBlock=some g):g<w.heap.size∧base≤g:=by
 rcases h.2 with⟨rfl,_⟩ | ⟨g',cap,cur,rfl,hb,hh,_⟩
 · simp[Value.ownBlock]at hg
 · simp only[Value.ownBlock,Option.some.injEq]at hg
   subst hg
   exact⟨(Array.getElem?_eq_some_iff.1 hh).1,hb⟩
theorem ownP_agree {w w':World}{base:Nat}{T:TypeId}{m:Nat}{v:Value}{n:Nat}{l:List Value}(h:w.ownsRow base T m v n l)(hw:∀g,v.ownBlock=some g→g<w.heap.size→w'.heap[g]? =w.heap[g]?):w'.ownsRow base T m v n l:=by
 refine⟨h.1,?_⟩
 rcases h.2 with h2 | ⟨g,cap,cur,rfl,hb,hh,r⟩
 · exact .inl h2
 · exact .inr ⟨g,cap,cur,rfl,hb,(hw g rfl (Array.getElem?_eq_some_iff.1 hh).1).trans hh,r⟩
theorem ownP_cell {w:World}{base:Nat}{T:TypeId}{m:Nat}{v:Value}{n:Nat}{l:List Value}(h:w.ownsRow base T m v n l){j:Nat}{u:Value}(hj:l[j]? =some u):∃g cap,v= .slice (some ⟨g,0,none⟩) n cap∧g<w.heap.size∧w.cell? ⟨g,j,none⟩=some u∧w.frozen? ⟨g,j,none⟩=false:=by
 rcases h.2 with⟨rfl,h0⟩ | ⟨g,cap,cur,rfl,hb,hh,_⟩
 · have:=h.1
   rw[h0,Nat.zero_mul]at this
   rw[List.eq_nil_of_length_eq_zero this]at hj
   simp at hj
 · have:=h.cells (g:=g) rfl j u hj
   rw[show(⟨g,0,none⟩:Addr).add j=⟨g,j,none⟩ by unfold Addr.add;split<;>simp_all]at this
   exact⟨g,cap,rfl,(Array.getElem?_eq_some_iff.1 hh).1,this,by simp[World.frozen?, hh]⟩
structure PC (w:World)(g o:Nat)(x:Nd)(u:Value):Prop where
 lt:g<w.heap.size
 cells:w.cell? ⟨g,o,none⟩=some (.int .i64 x.op)∧w.cell? ⟨g,o+1,none⟩=some (.int .i64 x.n)∧w.cell? ⟨g,o+2,none⟩=some (.string x.s)∧w.cell? ⟨g,o+3,none⟩=some (.string x.t)∧w.cell? ⟨g,o+4,none⟩=some u
theorem PC.bel {N:Nat}{w w':World}{g o:Nat}{x:Nd}{u:Value}(h:PC w g o x u)(k:Below N w w')(hl:g<N):PC w' g o x u:=by
 obtain⟨h0,h1,h2,h3,h4⟩:=h.cells
 exact⟨Nat.lt_of_lt_of_le h.lt k.size,(k.cell (p:=⟨g,o,none⟩) hl).trans h0,(k.cell (p:=⟨g,o+1,none⟩) hl).trans h1,(k.cell (p:=⟨g,o+2,none⟩) hl).trans h2,(k.cell (p:=⟨g,o+3,none⟩) hl).trans h3,(k.cell (p:=⟨g,o+4,none⟩) hl).trans h4⟩
theorem PC.up {w w':World}{g o:Nat}{x:Nd}{u:Value}(h:PC w g o x u)(k:Below w.heap.size w w'):PC w' g o x u:=h.bel k h.lt
theorem PC.keep {S:Nat→Prop}{w w':World}{g o:Nat}{x:Nd}{u:Value}(h:PC w g o x u)(k:Keep S w w')(hn:¬S g):PC w' g o x u:=by
 obtain⟨h0,h1,h2,h3,h4⟩:=h.cells
 exact⟨Nat.lt_of_lt_of_le h.lt k.size,(k.cell (p:=⟨g,o,none⟩) h.lt hn).trans h0,(k.cell (p:=⟨g,o+1,none⟩) h.lt hn).trans h1,(k.cell (p:=⟨g,o+2,none⟩) h.lt hn).trans h2,(k.cell (p:=⟨g,o+3,none⟩) h.lt hn).trans h3,(k.cell (p:=⟨g,o+4,none⟩) h.lt hn).trans h4⟩
theorem set_five {la lb:List Value}{b0 b1 b2 b3 b4:Value}(a0 a1 a2 a3 a4:Value){p:Nat}(hp:la.length=p):(((((la++([b0,b1,b2,b3,b4]++lb)).set p a0).set (p+1) a1).set (p+2) a2).set (p+3) a3).set (p+4) a4=la++([a0,a1,a2,a3,a4]++lb):=by
 subst hp
 induction la with
 | nil=>rfl
 | cons z la ih=>
   simp only[List.cons_append,List.length_cons,show ∀j,la.length+1+j=la.length+j+1 from fun j=>by omega,List.set_cons_succ]
   exact congrArg (z:: ·) ih
theorem keep_set (w:World)(g o:Nat)(z:Value):Keep (fun a=>a=g) w (w.setCell ⟨g,o,none⟩ z):=by
 have h:=(Below.refl 0 w).setCell (p:=⟨g,o,none⟩) (Nat.zero_le _) z
 exact⟨h.os,h.tape,h.output,h.size,fun a _ hne=>heap_setCell_other w ⟨g,o,none⟩ a z hne⟩
theorem own_put {w:World}{base:Nat}{T:TypeId}{v:Value}{n:Nat}{la lb:List Value}{x y:Nd}{u u2:Value}(h:w.ownsRow base T 5 v n (la++(pcl x u++lb))){g p:Nat}(hg:v.ownBlock=some g)(hp:la.length=p){w':World}
 (hw:w'=((((w.setCell ⟨g,p,none⟩ (.int .i64 y.op)).setCell ⟨g,p+1,none⟩ (.int .i64 y.n)).setCell ⟨g,p+2,none⟩ (.string y.s)).setCell ⟨g,p+3,none⟩ (.string y.t)).setCell ⟨g,p+4,none⟩ u2):
 w'.ownsRow base T 5 v n (la++(pcl y u2++lb))∧Keep (fun a=>a=g) w w':=by
 have hn:=h.1
 rcases h.2 with⟨rfl,h0⟩ | ⟨g',cap,cur,rfl,hb,hh,h1,h2,h3,h4⟩
 · simp[Value.ownBlock]at hg
 · simp only[Value.ownBlock,Option.some.injEq]at hg
   subst hg
   have e1:=heap_setCell_same w g' p _ _ (.int .i64 y.op) hh
   have e2:=heap_setCell_same _ g' (p+1) _ _ (.int .i64 y.n) e1
   have e3:=heap_setCell_same _ g' (p+2) _ _ (.string y.s) e2
   have e4:=heap_setCell_same _ g' (p+3) _ _ (.string y.t) e3
   have e5:=heap_setCell_same _ g' (p+4) _ _ u2 e4
   subst hw
   refine⟨⟨by rw[←hn];simp[pcl],.inr ⟨g',cap,_,rfl,hb,e5,h1,h2,by simp[h3],?_⟩⟩,?_⟩
   · simp only[Array.toList_setIfInBounds,List.take_set,h4]
     exact set_five _ _ _ _ _ hp
   · have q:∀(W:World) (o:Nat) (z:Value),Keep (fun a=>a=g') W (W.setCell ⟨g',o,none⟩ z):=fun W o z=>keep_set W g' o z
     have t:∀ {a b c:World},Keep (fun a=>a=g') a b→Keep (fun a=>a=g') b c→Keep (fun a=>a=g') a c:=fun h k=>h.trans k (fun _ e=>.inl e)
     exact t (t (t (t (q _ _ _) (q _ _ _)) (q _ _ _)) (q _ _ _)) (q _ _ _)
theorem ownP_slice {w:World}{base:Nat}{T:TypeId}{m:Nat}{v:Value}{n:Nat}{l:List Value}(h:w.ownsRow base T m v n l):∃q c,v= .slice q n c:=by
 rcases h.2 with⟨rfl,h0⟩ | ⟨g,cap,cur,rfl,_⟩
 · exact⟨none,0,by rw[h0]⟩
 · exact⟨_,_,rfl⟩
theorem fnew_at {w:World}{o:Array Value}{T:TypeId}{N:Nat}(h:N=w.heap.size):(w.alloc (.cells o T)).heap[N]? =some (.cells o T (0,0)):=by subst h;exact heap_alloc_new _ _
theorem ON.any {w:World}{base:Nat}{v:Value}{L:List Nd}(h:ON w base v L):∃q c,v= .slice q L.length c:=by
 rcases h.1.2 with⟨rfl,h0⟩ | ⟨g,cap,cur,rfl,_⟩
 · exact⟨none,0,by rw[h0]⟩
 · exact⟨_,_,rfl⟩
theorem kqt {a b c:World}(h:Below a.heap.size a b)(k:Below b.heap.size b c):Below a.heap.size a c:=h.trans (k.mono h.size)
theorem kqA {a b:World}(h:Below a.heap.size a b){o:Obj}:Below a.heap.size a (b.alloc o):=kqt h ((Below.refl _ _).alloc (Nat.le_refl _) o)
theorem kqD {a b:World}(h:Below a.heap.size a b):Below a.heap.size a b.drew:=⟨h.os,h.tape,h.output,h.size,h.block⟩
theorem kqx {a b:World}(h:Below a.heap.size a b:=by repeat (first | exact Below.refl _ _ | apply kqA | apply kqD)):Below a.heap.size a b:=h
theorem Tryz.infoText:(Tryz.prog.info? 9).map (fun i=>(i.zero,i.size,i.bytes))=some (some (.string ⟨#[]⟩),1,16):=by kernel_rfl
def TL (w:World)(p:Option Addr)(ts:List ByteArray):Prop:=
 ts=[]∨∃b off,p=some ⟨b,off,none⟩∧b<w.heap.size∧∀i s,ts[i]? =some s→w.cell? ⟨b,off+i,none⟩=some (.string s)
theorem TL.up {w w':World}{p:Option Addr}{ts:List ByteArray}(h:TL w p ts)(k:Below w.heap.size w w'):TL w' p ts:=by
 rcases h with h | ⟨b,off,h1,h2,h3⟩
 · exact .inl h
 · exact .inr ⟨b,off,h1,Nat.lt_of_lt_of_le h2 k.size,fun i s hs=>(k.cell (p:=⟨b,off+i,none⟩) h2).trans (h3 i s hs)⟩
theorem TL.at {w:World}{p:Option Addr}{ts:List ByteArray}(h:TL w p ts){i:Nat}(hi:i<ts.length):∃b off,p=some ⟨b,off,none⟩∧b<w.heap.size∧w.cell? ⟨b,off+i,none⟩=some (.string ts[i]):=by
 rcases h with rfl | ⟨b,off,h1,h2,h3⟩
 · simp at hi
 · exact⟨b,off,h1,h2,h3 i _ (List.getElem?_eq_getElem hi)⟩
def OT (w:World)(base:Nat)(v:Value)(ts:List ByteArray):Prop:=Row1 w base 9 v (ts.map Value.string)
theorem OT.texts {w:World}{base:Nat}{v:Value}{ts:List ByteArray}(h:OT w base v ts):∃q c,v= .slice q ts.length c∧TL w q ts∧ts.length≤c∧c≤maxLen:=by
 obtain⟨q,c,e,h1,h2,h3⟩:=Row1.slice h
 rw[List.length_map]at e h1
 refine⟨q,c,e,?_,h1,h2⟩
 rcases h3 with h3 | ⟨g,e2,ht,_,hc⟩
 · exact .inl (by simpa using h3)
 · exact .inr ⟨g,0,e2,ht.lt,fun i s hs=>by rw[Nat.zero_add];exact hc i _ (by simp[hs])⟩
theorem append_text (w:World){ops:Array Oper}{rest:List Oper}{o:Oper}{a:Act}{Q:Exit→Act→World→Prop}(hgd:o.guard=none)(s x:Operand)
 (ho:o.op= .call { callee:=.builtin .append,args:= #[s,x],argTypes:= #[29,29] })
 (base:Nat) (v:Value) (ts:List ByteArray) (hs:a.eval s=v) (hown:OT w base v ts) (t:ByteArray)
 (hx:a.eval x= .slice (some ⟨w.heap.size,0,none⟩) 1 1) (hlen:ts.length+1≤1099511627776) (hbase:base≤w.heap.size)
 (h:∀v' w',OT w' base v' (ts++[t])→Kept base 9 w w'→wpList Tryz.prog ops Q rest (a.put o.dst v') w'):wpList Tryz.prog ops Q (o::rest) a (w.alloc (.cells #[.string t] 9)):=by
 refine append_cell w hgd s x 29 9 ho Tryz.underlying29 (.string ⟨#[]⟩) 16 Tryz.infoText rfl base v (ts.map Value.string) hs hown (.string t) rfl hx (by rw[List.length_map];unfold maxLen;omega) (by rw[List.length_map];omega) hbase ?_
 intro v' w' h1 k
 refine h v' w' ?_ k
 unfold OT;rw[List.map_append];exact h1
def bare (x:Nd):Bool:=x.n == 0 && (x.s.data.toList.isEmpty && x.t.data.toList.isEmpty)
def justS (x:Nd):Bool:=x.n == 0 && x.t.data.toList.isEmpty
theorem tName_any (s:ByteArray)(w:World)(hs:s.size≤maxLen):
 Calls Tryz.prog 88 #[.string s] w fun e w'=>e= .returned (.bool (nfault s.data.toList == 0))∧w'=w:=by
 have HC:=fun w=>check_any s w hs
 cases h:(nfault s.data.toList == 0)
 · rw[eV_not (by simpa using h)]at HC
   go_enter Tryz.func88,Tryz.ntmps88
   go_wp2_with fail
   refine(HC _).mono ?_
   rintro e w1 ⟨rfl,rfl⟩
   go_wp2
   go_ret
   exact⟨rfl,rfl⟩
 · rw[eV_nil (by simpa using h)]at HC
   go_enter Tryz.func88,Tryz.ntmps88
   go_wp2_with fail
   refine(HC _).mono ?_
   rintro e w1 ⟨rfl,rfl⟩
   go_wp2
   go_ret
   exact⟨rfl,rfl⟩
theorem tText_any (s:ByteArray)(w:World)(hs:s.size≤maxLen):
 Calls Tryz.prog 89 #[.string s] w fun e w'=>e= .returned (.bool (textOk s.data.toList))∧Below w.heap.size w w':=by
 have HC:=fun w=>quoteN_any s w hs
 cases h:textOk s.data.toList
 · have hn:=tfault_not h
   rw[eV_not hn]at HC
   go_enter Tryz.func89,Tryz.ntmps89
   go_wp2_with fail
   refine(HC _).mono ?_
   rintro e w1 ⟨q,_,rfl,hb⟩
   go_wp2
   go_ret
   exact⟨rfl,hb⟩
 · have hn:=tfault_ok h
   rw[eV_nil hn]at HC
   go_enter Tryz.func89,Tryz.ntmps89
   go_wp2_with fail
   refine(HC _).mono ?_
   rintro e w1 ⟨q,_,rfl,hb⟩
   go_wp2
   go_ret
   exact⟨rfl,hb⟩
theorem hasNothing_any (x:Nd)(w:World):
 Calls Tryz.prog 87 #[x.val] w fun e w'=>e= .returned (.bool (bare x))∧Below w.heap.size w w':=by
 obtain⟨op,n,s,t⟩:=x
 unfold Nd.val
 have HL:Hid (∀o w',Below (w.alloc o).heap.size (w.alloc o) w'→Below w.heap.size w w'):=fun o w' h=>((Below.refl _ _).alloc (Nat.le_refl _) _).trans (h.mono (by simp))
 go_enter Tryz.func87,Tryz.ntmps87
 go_wp2
 all_goals
  go_ret
  refine⟨ret_bool ?_,HL.out _ _ (Below.refl _ _)⟩
  simp_all [bare,←ByteArray.toList_eq]
theorem hasJustS_any (x:Nd)(w:World):
 Calls Tryz.prog 85 #[x.val] w fun e w'=>e= .returned (.bool (justS x))∧Below w.heap.size w w':=by
 obtain⟨op,n,s,t⟩:=x
 unfold Nd.val
 have HL:Hid (∀o w',Below (w.alloc o).heap.size (w.alloc o) w'→Below w.heap.size w w'):=fun o w' h=>((Below.refl _ _).alloc (Nat.le_refl _) _).trans (h.mono (by simp))
 go_enter Tryz.func85,Tryz.ntmps85
 go_wp2
 all_goals
  go_ret
  refine⟨ret_bool ?_,HL.out _ _ (Below.refl _ _)⟩
  simp_all [justS,←ByteArray.toList_eq]
theorem isWord_any (s:ByteArray)(w:World):
 Calls Tryz.prog 99 #[.string s] w fun e w'=>e= .returned (.bool (rsv s.data.toList))∧w'=w:=by
 go_enter Tryz.func99,Tryz.ntmps99
 go_wp2
 all_goals
  go_ret
  refine⟨ret_bool ?_,rfl⟩
  simp_all [rsv,ByteArray.toList_eq]
theorem head_byte (s:ByteArray)(h:1≤s.size):(s.extract 0 1).data.toList=s.data.toList.take 1:=by simp
theorem tail_bytes (s:ByteArray):(s.extract 1 s.size).data.toList=s.data.toList.tail:=by
 simp[List.take_of_length_le]
theorem take_head {l:List UInt8}(c:UInt8):l.take 1=[c]↔l.head? =some c:=by cases l<;>simp
theorem hasPrefix_any (s:ByteArray)(w:World)(hs:s.size≤maxLen):
 Calls Tryz.prog 69 #[.string s,.string ⟨#[63]⟩] w fun e w'=>e= .returned (.bool (decide (s.data.toList.head? =some 63)))∧w'=w:=by
 unfold maxLen at hs
 have hl:s.data.toList.length=s.size:=by simp
 by_cases h1:1≤s.size
 · have h1':(1:Int)≤(s.size:Int):=by omega
   have HE:Hid (((s.extract 0 1).toList=[63])↔s.data.toList.head? =some 63):=by
    show(_↔_)
    rw[ByteArray.toList_eq,head_byte s h1,take_head]
   go_enter Tryz.func69,Tryz.ntmps69
   go_wp2
   go_ret
   refine⟨ret_bool ?_,rfl⟩
   rw[Bool.eq_iff_iff,beq_iff_eq,decide_eq_true_iff]
   exact HE.out
 · have h1':¬(1:Int)≤(s.size:Int):=by omega
   have HE:Hid (decide (s.data.toList.head? =some 63)=false):=by
    show _=_
    have:s.data.toList=[]:=List.eq_nil_of_length_eq_zero (by omega)
    rw[this];rfl
   go_enter Tryz.func69,Tryz.ntmps69
   go_wp2
   go_ret
   exact⟨ret_bool HE.out.symm,rfl⟩
def slotOf (s:ByteArray):ByteArray:=if s.data.toList.head? =some 63 then s.extract 1 s.size else s
theorem cutPrefix_yes (s:ByteArray)(w:World)(hs:s.size≤maxLen)(h:s.data.toList.head? =some 63):
 Calls Tryz.prog 98 #[.string s,.string ⟨#[63]⟩] w fun e w'=>e= .returned (.tuple #[.string (s.extract 1 s.size),.bool true])∧w'=w:=by
 have hl:s.data.toList.length=s.size:=by simp
 have h1:1≤s.size:=by
  cases e:s.data.toList with
  | nil=>rw[e]at h;cases h
  | cons a l=>rw[e]at hl;simp at hl;omega
 have h1':(1:Int)≤(s.size:Int):=by omega
 have HP:=fun w=>hasPrefix_any s w hs
 rw[decide_eq_true h]at HP
 unfold maxLen at hs
 have hin:Calls Tryz.prog 104 #[.string s,.string ⟨#[63]⟩] w fun e w'=>e= .returned (.tuple #[.string (s.extract 1 s.size),.bool true])∧w'=w:=by
  go_enter Tryz.func104,Tryz.ntmps104
  go_wp2_with fail
  refine(HP _).mono ?_
  rintro e w1 ⟨rfl,rfl⟩
  go_wp2
  go_ret2
  exact⟨rfl,rfl⟩
 go_enter Tryz.func98,Tryz.ntmps98
 go_wp2_with fail
 refine hin.mono ?_
 rintro e w1 ⟨rfl,rfl⟩
 go_wp2
 go_ret2
 exact⟨rfl,rfl⟩
theorem cutPrefix_no (s:ByteArray)(w:World)(hs:s.size≤maxLen)(h:s.data.toList.head? ≠some 63):
 Calls Tryz.prog 98 #[.string s,.string ⟨#[63]⟩] w fun e w'=>e= .returned (.tuple #[.string s,.bool false])∧w'=w:=by
 have HP:=fun w=>hasPrefix_any s w hs
 rw[decide_eq_false h]at HP
 have hin:Calls Tryz.prog 104 #[.string s,.string ⟨#[63]⟩] w fun e w'=>e= .returned (.tuple #[.string s,.bool false])∧w'=w:=by
  go_enter Tryz.func104,Tryz.ntmps104
  go_wp2_with fail
  refine(HP _).mono ?_
  rintro e w1 ⟨rfl,rfl⟩
  go_wp2
  go_ret2
  exact⟨rfl,rfl⟩
 go_enter Tryz.func98,Tryz.ntmps98
 go_wp2_with fail
 refine hin.mono ?_
 rintro e w1 ⟨rfl,rfl⟩
 go_wp2
 go_ret2
 exact⟨rfl,rfl⟩
theorem isVar_any (s:ByteArray)(w:World)(hs:s.size≤maxLen):
 Calls Tryz.prog 86 #[.string s] w fun e w'=>e= .returned (.bool (varOk s.data.toList))∧w'=w:=by
 by_cases h:s.data.toList.head? =some 63
 · have HV:Hid (varOk s.data.toList=(nfault (s.extract 1 s.size).data.toList == 0)):=by
    show _=_
    unfold varOk;rw[if_pos h,tail_bytes]
   have HN:=fun w=>tName_any (s.extract 1 s.size) w (Nat.le_trans (by simp) hs)
   have HP:=fun w=>cutPrefix_yes s w hs h
   clear h
   generalize s.extract 1 s.size=u at *
   go_enter Tryz.func86,Tryz.ntmps86
   go_wp2_with fail
   refine(HP _).mono ?_
   rintro e w1 ⟨rfl,rfl⟩
   go_wp2_with fail
   refine(HN _).mono ?_
   rintro e w1 ⟨rfl,rfl⟩
   go_wp2
   go_ret
   exact⟨ret_bool HV.out.symm,rfl⟩
 · have HV:Hid (varOk s.data.toList=(nfault s.data.toList == 0 && !rsv s.data.toList)):=by
    show _=_
    unfold varOk;rw[if_neg h]
   have HN:=fun w=>tName_any s w hs
   have HP:=fun w=>cutPrefix_no s w hs h
   have HW:=fun w=>isWord_any s w
   clear h
   generalize rsv s.data.toList=r at *
   cases hn:(nfault s.data.toList == 0)<;>rw[hn]at HN HV
   · go_enter Tryz.func86,Tryz.ntmps86
     go_wp2_with fail
     refine(HP _).mono ?_
     rintro e w1 ⟨rfl,rfl⟩
     go_wp2_with fail
     refine(HN _).mono ?_
     rintro e w1 ⟨rfl,rfl⟩
     go_wp2
     go_ret
     exact⟨ret_bool HV.out.symm,rfl⟩
   · go_enter Tryz.func86,Tryz.ntmps86
     go_wp2_with fail
     refine(HP _).mono ?_
     rintro e w1 ⟨rfl,rfl⟩
     go_wp2_with fail
     refine(HN _).mono ?_
     rintro e w1 ⟨rfl,rfl⟩
     go_wp2_with fail
     refine(HW _).mono ?_
     rintro e w1 ⟨rfl,rfl⟩
     go_wp2
     go_ret
     exact⟨ret_bool HV.out.symm,rfl⟩
theorem tField_any (x:Nd)(w:World)(hx:x.wf):
 Calls Tryz.prog 90 #[x.val] w fun e w'=>e= .returned (.bool (x.op == 7 && ndOk x))∧Below w.heap.size w w':=by
 have HJ:=fun w=>hasJustS_any x w
 have HN:=fun w=>tName_any x.s w hx.1
 have HB:Hid ((x.op == 7 && ndOk x)=(x.op == 7 && (justS x && (nfault x.s.data.toList == 0)))):=by
  show _=_
  by_cases h7:x.op=7
  · unfold ndOk justS;simp[h7]
  · have:(x.op == 7)=false:=by simpa using h7
    rw[this];rfl
 rw[HB.out]
 clear HB
 generalize hj:justS x=j at *
 generalize hn:(nfault x.s.data.toList == 0)=n at *
 clear hj hn
 obtain⟨op,m,s,t⟩:=x
 unfold Nd.val at *
 have HL:Hid (∀o w',Below (w.alloc o).heap.size (w.alloc o) w'→Below w.heap.size w w'):=fun o w' h=>((Below.refl _ _).alloc (Nat.le_refl _) _).trans (h.mono (by simp))
 simp only at *
 cases h7:(op == 7)
 · go_enter Tryz.func90,Tryz.ntmps90
   go_wp2
   go_ret
   exact⟨rfl,HL.out _ _ (Below.refl _ _)⟩
 · have hal:∀w',Below (w.alloc (.cells #[.int .i64 op,.int .i64 m,.string s,.string t] 71)).heap.size (w.alloc (.cells #[.int .i64 op,.int .i64 m,.string s,.string t] 71)) w'→w'.cell? ⟨w.heap.size,2,none⟩=some (.string s):=fun w' hb=>(hb.cell (p:=⟨w.heap.size,2,none⟩) (by simp)).trans (by simp[go_sem])
   have HAL:Hid (∀_,_):=hal
   clear hal
   cases j
   · go_enter Tryz.func90,Tryz.ntmps90
     go_wp2_with fail
     refine(HJ _).mono ?_
     rintro e w1 ⟨rfl,hb⟩
     go_wp2
     go_ret
     exact⟨rfl,HL.out _ _ hb⟩
   · go_enter Tryz.func90,Tryz.ntmps90
     go_wp2_with fail
     refine(HJ _).mono ?_
     rintro e w1 ⟨rfl,hb⟩
     have hc:=HAL.out _ hb
     go_wp2_with fail
     refine(HN _).mono ?_
     rintro e w2 ⟨rfl,rfl⟩
     go_wp2
     go_ret
     exact⟨rfl,HL.out _ _ hb⟩
def thrown:List PanicEntry:=[{ v:=.iface 35 (.int .i64 1),recovered:=false }]
theorem need_true (w:World):Calls Tryz.prog 102 #[.bool true] w fun e w'=>e= .returned (.tuple #[])∧w'=w:=by
 go_enter Tryz.func102,Tryz.ntmps102
 go_wp2
 go_end0
 exact⟨rfl,rfl⟩
theorem need_false (w:World):Calls Tryz.prog 102 #[.bool false] w fun e w'=>e= .panicked thrown∧w'=w:=by
 go_enter Tryz.func102,Tryz.ntmps102
 go_wp2
 exact⟨rfl,rfl,rfl⟩
theorem isText_any (s:ByteArray)(w:World)(hs:s.size≤maxLen):
 Calls Tryz.prog 108 #[.string s] w fun e w'=>e= .returned (.bool (textOk s.data.toList))∧Below w.heap.size w w':=by
 by_cases h:60<s.size
 · have HT:Hid (textOk s.data.toList=false):=by show _=_;unfold textOk;simp;intro hh;omega
   go_enter Tryz.func108,Tryz.ntmps108
   go_wp2_with fail
   refine(quote_full s _ hs h).mono ?_
   rintro e w1 ⟨rfl,rfl⟩
   go_wp2
   go_ret
   exact⟨ret_bool HT.out.symm,Below.refl _ _⟩
 · cases ho:s.data.toList.all okb
   · have HT:Hid (textOk s.data.toList=false):=by show _=_;unfold textOk;rw[ho];simp
     go_enter Tryz.func108,Tryz.ntmps108
     go_wp2_with fail
     refine(quote_short s _ (by omega)).mono ?_
     rintro e w1 ⟨rfl,hb⟩
     rw[qres_bad ho]
     go_wp2
     go_ret
     exact⟨ret_bool HT.out.symm,hb⟩
   · have HT:Hid (textOk s.data.toList=true):=by show _=_;unfold textOk;rw[ho];simp;omega
     go_enter Tryz.func108,Tryz.ntmps108
     go_wp2_with fail
     refine(quote_short s _ (by omega)).mono ?_
     rintro e w1 ⟨rfl,hb⟩
     rw[qres_ok ho]
     go_wp2
     go_ret
     exact⟨ret_bool HT.out.symm,hb⟩
theorem mayBe_any (x:Nd)(w:World)(hx:x.wf):
 Calls Tryz.prog 105 #[x.val] w fun e w'=>e= .returned (.bool (ndOk x))∧Below w.heap.size w w':=by
 obtain⟨op,n,s,t⟩:=x
 obtain⟨hs,ht,_⟩:=hx
 unfold Nd.val
 have hal:∀o w',Below (w.alloc o).heap.size (w.alloc o) w'→Below w.heap.size w w':=fun o w' h=>((Below.refl _ _).alloc (Nat.le_refl _) _).trans (h.mono (by simp))
 have HL:Hid (∀o w',Below (w.alloc o).heap.size (w.alloc o) w'→Below w.heap.size w w'):=hal
 clear hal
 by_cases h1:op=1
 · subst h1
   go_enter Tryz.func105,Tryz.ntmps105
   go_wp2
   all_goals
    go_ret
    refine⟨ret_bool ?_,HL.out _ _ (Below.refl _ _)⟩
    simp_all [ndOk,←ByteArray.toList_eq]
 by_cases h2:op=2
 · subst h2
   go_enter Tryz.func105,Tryz.ntmps105
   go_wp2
   all_goals
    go_ret
    refine⟨ret_bool ?_,HL.out _ _ (Below.refl _ _)⟩
    simp_all [ndOk,←ByteArray.toList_eq]
 by_cases h3:op=3
 · subst h3
   have HT:=fun w=>isText_any s w hs
   cases hT:textOk s.data.toList<;>rw[hT]at HT
   all_goals
    go_enter Tryz.func105,Tryz.ntmps105
    go_wp2_with (go_at_call 108;refine(HT _).mono ?_;rintro e w1 ⟨rfl,hb⟩)
    all_goals
     go_ret
     refine⟨ret_bool ?_,HL.out _ _ (by first | assumption | exact Below.refl _ _)⟩
     simp_all [ndOk,ByteArray.toList_eq]
 by_cases h4:op=4
 · subst h4
   have HT:=fun w=>isText_any t w ht
   have HC:=fun w=>check_any s w hs
   by_cases hn:nfault s.data.toList=0
   · rw[eV_nil hn]at HC
     cases hT:textOk t.data.toList<;>rw[hT]at HT
     all_goals
      go_enter Tryz.func105,Tryz.ntmps105
      go_wp2_with (first | (go_at_call 108;refine(HT _).mono ?_;rintro e w1 ⟨rfl,hb⟩) | (go_at_call 25;refine(HC _).mono ?_;rintro e w1 ⟨rfl,rfl⟩))
      all_goals
       go_ret
       refine⟨ret_bool ?_,HL.out _ _ (by first | assumption | exact Below.refl _ _)⟩
       simp_all [ndOk]
   · rw[eV_not hn]at HC
     go_enter Tryz.func105,Tryz.ntmps105
     go_wp2_with (first | (go_at_call 108;refine(HT _).mono ?_;rintro e w1 ⟨rfl,hb⟩) | (go_at_call 25;refine(HC _).mono ?_;rintro e w1 ⟨rfl,rfl⟩))
     all_goals
      go_ret
      refine⟨ret_bool ?_,HL.out _ _ (by first | assumption | exact Below.refl _ _)⟩
      simp_all [ndOk]
 by_cases h56:op=5∨op=6
 · rcases h56 with rfl | rfl
   all_goals
    go_enter Tryz.func105,Tryz.ntmps105
    go_wp2
    all_goals
     go_ret
     refine⟨ret_bool ?_,HL.out _ _ (Below.refl _ _)⟩
     simp_all [ndOk,←ByteArray.toList_eq]
 by_cases h7:op=7
 · subst h7
   have HC:=fun w=>check_any s w hs
   by_cases hn:nfault s.data.toList=0
   · rw[eV_nil hn]at HC
     go_enter Tryz.func105,Tryz.ntmps105
     go_wp2_with (go_at_call 25;refine(HC _).mono ?_;rintro e w1 ⟨rfl,rfl⟩)
     all_goals
      go_ret
      refine⟨ret_bool ?_,HL.out _ _ (Below.refl _ _)⟩
      simp_all [ndOk,ByteArray.toList_eq]
   · rw[eV_not hn]at HC
     go_enter Tryz.func105,Tryz.ntmps105
     go_wp2_with (go_at_call 25;refine(HC _).mono ?_;rintro e w1 ⟨rfl,rfl⟩)
     all_goals
      go_ret
      refine⟨ret_bool ?_,HL.out _ _ (Below.refl _ _)⟩
      simp_all [ndOk,ByteArray.toList_eq]
 · have j5:¬op=5:=fun h=>h56 (.inl h)
   have j6:¬op=6:=fun h=>h56 (.inr h)
   have e1:(op == 1)=false:=by simpa using h1
   have e2:(op == 2)=false:=by simpa using h2
   have e3:(op == 3)=false:=by simpa using h3
   have e4:(op == 4)=false:=by simpa using h4
   have e5:(op == 5)=false:=by simpa using j5
   have e6:(op == 6)=false:=by simpa using j6
   have e7:(op == 7)=false:=by simpa using h7
   have HN:Hid (ndOk ⟨op,n,s,t⟩=false):=by show _=_;simp[ndOk,h1,h2,h3,h4,j5,j6,h7]
   clear h1 h2 h3 h4 h56 j5 j6 h7
   go_enter Tryz.func105,Tryz.ntmps105
   go_wp2
   go_ret
   exact⟨ret_bool HN.out.symm,HL.out _ _ (Below.refl _ _)⟩
theorem ret_bl {a b:Bool}(h:a=b):Ending.returned (.bool a)= .returned (.bool b):=by rw[h]
theorem tfault_zero (l:List UInt8):(tfault l == 0)=textOk l:=by
 cases h:textOk l
 · simpa using tfault_not h
 · simpa using tfault_ok h
theorem ufault_zero (t i:List UInt8):(ufault t i == 0)=(nfault t == 0 && textOk i):=by
 unfold ufault
 by_cases h:nfault t=0
 · rw[if_pos h,tfault_zero,h];rfl
 · rw[if_neg h]
   have:(nfault t == 0)=false:=by simpa using h
   rw[this];rfl
set_option maxRecDepth 100000 in
theorem valueNode_any (x:Nd)(w:World)(hx:x.wf):
 Calls Tryz.prog 59 #[x.val] w fun e w'=>e= .returned (.bool (ndOk x))∧Below w.heap.size w w':=by
 obtain⟨op,n,s,t⟩:=x
 obtain⟨hs,ht,_⟩:=hx
 unfold Nd.val
 have HL:Hid (∀o w',Below (w.alloc o).heap.size (w.alloc o) w'→Below w.heap.size w w'):=fun o w' h=>((Below.refl _ _).alloc (Nat.le_refl _) _).trans (h.mono (by simp))
 have es:((s.toList == [])=s.data.toList.isEmpty):=by rw[ByteArray.toList_eq];cases s.data.toList<;>rfl
 have et:((t.toList == [])=t.data.toList.isEmpty):=by rw[ByteArray.toList_eq];cases t.data.toList<;>rfl
 cases hse:s.data.toList.isEmpty<;>cases hte:t.data.toList.isEmpty<;>rw[hse]at es<;>rw[hte]at et
 all_goals
  by_cases h1:op=1
  · subst h1
    have hn:n=0∨n=1∨n<0∨1<n:=by omega
    rcases hn with rfl | rfl | hn | hn
    all_goals
     first | (have q0:decide (n≤1)=false:=by simp;omega) | skip
     go_enter Tryz.func59,Tryz.ntmps59
     go_wp2
     all_goals
      go_ret
      refine⟨ret_bl ?_,HL.out _ _ (Below.refl _ _)⟩
      simp[ndOk,hse,hte]
      try omega
  by_cases h2:op=2
  · subst h2
    go_enter Tryz.func59,Tryz.ntmps59
    go_wp2
    go_ret
    refine⟨ret_bl ?_,HL.out _ _ (Below.refl _ _)⟩
    simp[ndOk,hse,hte]
  by_cases h56:op=5∨op=6
  · rcases h56 with rfl | rfl
    all_goals
     by_cases hn:n<0
     · have hn2:decide (0≤n)=false:=by simp;omega
       go_enter Tryz.func59,Tryz.ntmps59
       go_wp2
       go_ret
       refine⟨ret_bl ?_,HL.out _ _ (Below.refl _ _)⟩
       simp[ndOk,hse,hte]
       try omega
     · have hn2:decide (0≤n)=true:=by simp;omega
       go_enter Tryz.func59,Tryz.ntmps59
       go_wp2
       go_ret
       refine⟨ret_bl ?_,HL.out _ _ (Below.refl _ _)⟩
       simp[ndOk,hse,hte]
       try omega
  have e1:(op == 1)=false:=by simpa using h1
  have e2:(op == 2)=false:=by simpa using h2
  have j5:¬op=5:=fun h=>h56 (.inl h)
  have j6:¬op=6:=fun h=>h56 (.inr h)
  have e5:(op == 5)=false:=by simpa using j5
  have e6:(op == 6)=false:=by simpa using j6
  by_cases hn0:n=0
  · subst hn0
    by_cases h3:op=3
    · subst h3
      have HT:=fun w=>textFault_any s w hs
      have hz:=tfault_zero s.data.toList
      generalize htf:tfault s.data.toList=tf at HT hz
      clear htf
      cases hto:textOk s.data.toList<;>rw[hto]at hz
      all_goals
       go_enter Tryz.func59,Tryz.ntmps59
       go_wp2_with (go_at_call 34;refine(HT _).mono ?_;rintro e w1 ⟨rfl,rfl⟩)
       go_ret
       refine⟨ret_bl ?_,HL.out _ _ (Below.refl _ _)⟩
       simp[ndOk,hto,hte]
    have e3:(op == 3)=false:=by simpa using h3
    by_cases h4:op=4
    · subst h4
      have HT:=fun w=>uidFault_any s t w hs ht
      have hz:=ufault_zero s.data.toList t.data.toList
      generalize htf:ufault s.data.toList t.data.toList=tf at HT hz
      clear htf
      cases hto:(nfault s.data.toList == 0 && textOk t.data.toList)<;>rw[hto]at hz
      all_goals
       have HO:Hid (_=_):=hto
       clear hto
       go_enter Tryz.func59,Tryz.ntmps59
       go_wp2_with fail
       refine(HT _).mono ?_
       rintro e w1 ⟨rfl,hb1⟩
       go_wp2
       go_ret
       refine⟨ret_bl ?_,HL.out _ _ hb1⟩
       have:=HO.out
       simp[ndOk]at this ⊢
       try exact this
    have e4:(op == 4)=false:=by simpa using h4
    by_cases h7:op=7
    · subst h7
      have HT:=fun w=>nameFault_any s w hs
      cases hto:(nfault s.data.toList == 0)
      all_goals
       go_enter Tryz.func59,Tryz.ntmps59
       go_wp2_with (go_at_call 14;refine(HT _).mono ?_;rintro e w1 ⟨rfl,rfl⟩)
       go_ret
       refine⟨ret_bl ?_,HL.out _ _ (Below.refl _ _)⟩
       simp[ndOk,hto,hte]
    have e7:(op == 7)=false:=by simpa using h7
    have HN:Hid (ndOk ⟨op,0,s,t⟩=false):=by show _=_;simp[ndOk,h1,h2,h3,h4,j5,j6,h7]
    clear h1 h2 h3 h4 h56 j5 j6 h7
    go_enter Tryz.func59,Tryz.ntmps59
    go_wp2
    go_ret
    exact⟨ret_bl HN.out.symm,HL.out _ _ (Below.refl _ _)⟩
  · have hn1:(n != 0)=true:=by simpa using hn0
    have HN:Hid (ndOk ⟨op,n,s,t⟩=false):=by show _=_;simp[ndOk,h1,h2,j5,j6,hn0]
    clear h1 h2 h56 j5 j6 hn0
    go_enter Tryz.func59,Tryz.ntmps59
    go_wp2
    go_ret
    exact⟨ret_bl HN.out.symm,HL.out _ _ (Below.refl _ _)⟩
theorem reserved_any (s:ByteArray)(w:World):
 Calls Tryz.prog 60 #[.string s] w fun e w'=>e= .returned (.bool (rsv s.data.toList))∧w'=w:=by
 go_enter Tryz.func60,Tryz.ntmps60
 go_wp2
 all_goals
  go_ret
  refine⟨ret_bl ?_,rfl⟩
  simp_all [rsv,ByteArray.toList_eq]
theorem tail_byte (s:ByteArray):(s.extract 1 s.size).data.toList=s.data.toList.tail:=by
 simp[List.take_of_length_le]
theorem exOk_off {x:Nd}(h:¬(1≤x.op∧x.op≤7))(hp:prt x<0):exOk x=false:=by unfold exOk;rw[if_neg h,if_pos hp]
theorem exOk_bn {x:Nd}(h:¬(1≤x.op∧x.op≤7))(hn:x.n≠0):exOk x=false:=by
 unfold exOk
 rw[if_neg h]
 split
 · rfl
 · have:(x.n == 0)=false:=by simpa using hn
   rw[this];rfl
theorem exOk_t {x:Nd}(h:¬(1≤x.op∧x.op≤7))(ht:x.t.data.toList.isEmpty=false):exOk x=false:=by
 unfold exOk
 rw[if_neg h]
 split
 · rfl
 · rw[ht];simp
theorem exOk_on {x:Nd}(h:¬(1≤x.op∧x.op≤7))(hp:¬prt x<0)(hn:x.n=0)(ht:x.t.data.toList.isEmpty=true):exOk x=
 (if x.op=8 then varOk x.s.data.toList else if x.op=21∨x.op=22∨x.op=24 then nfault x.s.data.toList == 0 else if x.op=23 then textOk x.s.data.toList else x.s.data.toList.isEmpty):=by
 unfold exOk
 rw[if_neg h,if_neg hp,hn,ht]
 rfl
theorem boxf {w w':World}{x:Nd}{T:TypeId}(hb:Below (w.alloc (.cells #[.int .i64 x.op,.int .i64 x.n,.string x.s,.string x.t] T)).heap.size (w.alloc (.cells #[.int .i64 x.op,.int .i64 x.n,.string x.s,.string x.t] T)) w'):
 w'.cell? ⟨w.heap.size,0,none⟩=some (.int .i64 x.op)∧w'.cell? ⟨w.heap.size,1,none⟩=some (.int .i64 x.n)∧w'.cell? ⟨w.heap.size,2,none⟩=some (.string x.s)∧w'.cell? ⟨w.heap.size,3,none⟩=some (.string x.t)∧Below w.heap.size w w':=by
 refine⟨?_,?_,?_,?_,((Below.refl _ _).alloc (Nat.le_refl _) _).trans (hb.mono (by simp))⟩
 · exact(hb.cell (p:=⟨w.heap.size,0,none⟩) (by simp)).trans (by simp[go_sem])
 · exact(hb.cell (p:=⟨w.heap.size,1,none⟩) (by simp)).trans (by simp[go_sem])
 · exact(hb.cell (p:=⟨w.heap.size,2,none⟩) (by simp)).trans (by simp[go_sem])
 · exact(hb.cell (p:=⟨w.heap.size,3,none⟩) (by simp)).trans (by simp[go_sem])
set_option maxRecDepth 100000 in
theorem refFields_any (x:Nd)(w:World)(hx:x.wf):
 Calls Tryz.prog 44 #[x.val] w fun e w'=>e= .returned (.bool (exOk x))∧Below w.heap.size w w':=by
 have HB:Hid (∀w',_→_):=fun w'=>boxf (w:=w) (w':=w') (x:=x) (T:=71)
 by_cases h:1≤x.op∧x.op≤7
 · have HX:Hid (exOk x=ndOk x):=by show _=_;unfold exOk;rw[if_pos h]
   have HV:=fun w=>valueNode_any x w hx
   rw[←HX.out]at HV
   generalize exOk x=r at *
   obtain⟨op,n,s,t⟩:=x
   unfold Nd.val at *
   obtain⟨h1,h2⟩:=h
   simp only at h1 h2 HB
   go_enter Tryz.func44,Tryz.ntmps44
   go_wp2_with fail
   refine(HV _).mono ?_
   rintro e w1 ⟨rfl,hb⟩
   obtain⟨_,_,_,_,hb1⟩:=HB.out _ hb
   go_wp2
   go_ret
   exact⟨rfl,hb1⟩
 · have HP:=fun w=>refPrt_any x w
   have hor:x.op<1∨7<x.op:=by omega
   have e0:(1≤x.op∧¬x.op≤7)∨¬ 1≤x.op:=by omega
   by_cases hp:prt x<0
   · have HX:Hid (_=_):=exOk_off h hp
     generalize exOk x=r at *
     generalize prt x=pr at *
     obtain⟨op,n,s,t⟩:=x
     unfold Nd.val at *
     simp only at e0 HB
     clear h hor
     rcases e0 with⟨h1,h2⟩ | h1
     all_goals
      go_enter Tryz.func44,Tryz.ntmps44
      go_wp2_with fail
      refine(HP _).mono ?_
      rintro e w1 ⟨rfl,hb⟩
      obtain⟨_,_,_,_,hb1⟩:=HB.out _ hb
      go_wp2
      go_ret
      exact⟨by rw[HX.out];rfl,hb1⟩
   · have h1:1≤x.op:=by
      refine Decidable.byContradiction fun hc=>hp ?_
      unfold prt
      rw[if_neg (by omega),if_neg (by omega),if_neg (by omega),if_neg (by omega),if_neg (by omega)];omega
     have h2:¬x.op≤7:=by omega
     clear hor e0
     by_cases hn:x.n=0
     · have et:((x.t.toList == [])=x.t.data.toList.isEmpty):=by rw[ByteArray.toList_eq];cases x.t.data.toList<;>rfl
       have es:((x.s.toList == [])=x.s.data.toList.isEmpty):=by rw[ByteArray.toList_eq];cases x.s.data.toList<;>rfl
       cases ht:x.t.data.toList.isEmpty
       · have HX:Hid (_=_):=exOk_t h ht
         rw[ht]at et
         generalize exOk x=r at *
         generalize prt x=pr at *
         obtain⟨op,n,s,t⟩:=x
         unfold Nd.val at *
         simp only at h1 h2 HB hn et
         subst hn
         clear h ht es
         go_enter Tryz.func44,Tryz.ntmps44
         go_wp2_with fail
         refine(HP _).mono ?_
         rintro e w1 ⟨rfl,hb⟩
         obtain⟨c0,c1,c2,c3,hb1⟩:=HB.out _ hb
         go_wp2
         go_ret
         exact⟨by rw[HX.out];rfl,hb1⟩
       · have HX:Hid (_=_):=exOk_on h hp hn ht
         rw[ht]at et
         have HN:=fun w=>nameFault_any x.s w hx.1
         have HT:=fun w=>textFault_any x.s w hx.1
         generalize exOk x=r at *
         generalize prt x=pr at *
         obtain⟨op,n,s,t⟩:=x
         unfold Nd.val at *
         simp only at h1 h2 HB hn et es HX HN HT
         subst hn
         clear h ht
         by_cases h8:op=8
         · rw[if_pos h8]at HX
           subst h8
           have hl:s.data.toList.length=s.size:=by simp
           by_cases h63:s.data.toList.head? =some 63
           · have hpos:0<s.size:=by
              cases e:s.data.toList with
              | nil=>rw[e]at h63;cases h63
              | cons a l=>rw[e]at hl;simp at hl;omega
             have hp0:(0:Int)<(s.size:Int):=by omega
             have hp1:(1:Int)≤(s.size:Int):=by omega
             have hb63:((s[0].toNat:Int) == 63)=true:=by
              have:s.data.toList.head? =some s[0]:=by
               rw[List.head?_eq_getElem?, List.getElem?_eq_getElem (by omega)];rfl
              rw[this]at h63
              have:=Option.some.inj h63
              rw[this];rfl
             have HX2:Hid (r=(nfault (s.extract 1 s.size).data.toList == 0)):=by
              rw[HX.out];show _=_
              unfold varOk;rw[if_pos h63,tail_byte]
             have HN2:=fun w=>nameFault_any (s.extract 1 s.size) w (Nat.le_trans (by simp) hx.1)
             clear HX h63 HN HT hl
             generalize nfault (s.extract 1 s.size).data.toList=nf at HN2 HX2
             go_enter Tryz.func44,Tryz.ntmps44
             go_wp2_with fail
             refine(HP _).mono ?_
             rintro e w1 ⟨rfl,hb⟩
             obtain⟨c0,c1,c2,c3,hb1⟩:=HB.out _ hb
             go_wp2_with fail
             refine(HN2 _).mono ?_
             rintro e w2 ⟨rfl,rfl⟩
             go_wp2
             go_ret
             exact⟨by rw[HX2.out];rfl,hb1⟩
           · have HX2:Hid (r=(nfault s.data.toList == 0 && !rsv s.data.toList)):=by
              rw[HX.out];show _=_
              unfold varOk;rw[if_neg h63]
             have HR:=fun w=>reserved_any s w
             generalize rsv s.data.toList=rv at *
             generalize hz:(nfault s.data.toList == 0)=z at *
             have hcase:¬(0:Int)<(s.size:Int)∨((0:Int)<(s.size:Int)∧∃h:0<s.size,((s[0].toNat:Int) == 63)=false):=by
              by_cases h0:0<s.size
              · refine .inr ⟨by omega,h0,?_⟩
                have:s.data.toList.head? =some s[0]:=by
                 rw[List.head?_eq_getElem?, List.getElem?_eq_getElem (by omega)];rfl
                rw[this]at h63
                rw[beq_eq_false_iff_ne]
                intro e
                apply h63
                congr 1
                apply UInt8.toNat_inj.1
                have e':s[0].toNat=63:=by omega
                rw[e'];rfl
              · exact .inl (by omega)
             clear HX h63 HT hl
             generalize nfault s.data.toList=nf at *
             rcases hcase with hc | ⟨hc,hc0,hc1⟩
             all_goals
              cases z
              · go_enter Tryz.func44,Tryz.ntmps44
                go_wp2_with fail
                refine(HP _).mono ?_
                rintro e w1 ⟨rfl,hb⟩
                obtain⟨c0,c1,c2,c3,hb1⟩:=HB.out _ hb
                go_wp2_with fail
                refine(HN _).mono ?_
                rintro e w2 ⟨rfl,rfl⟩
                go_wp2
                go_ret
                exact⟨by rw[HX2.out];rfl,hb1⟩
              · go_enter Tryz.func44,Tryz.ntmps44
                go_wp2_with fail
                refine(HP _).mono ?_
                rintro e w1 ⟨rfl,hb⟩
                obtain⟨c0,c1,c2,c3,hb1⟩:=HB.out _ hb
                go_wp2_with fail
                refine(HN _).mono ?_
                rintro e w2 ⟨rfl,rfl⟩
                go_wp2_with fail
                refine(HR _).mono ?_
                rintro e w2 ⟨rfl,rfl⟩
                go_wp2
                go_ret
                exact⟨by rw[HX2.out];rfl,hb1⟩
         · rw[if_neg h8]at HX
           have e8:(op == 8)=false:=by simpa using h8
           by_cases hnm:op=21∨op=22∨op=24
           · rw[if_pos hnm]at HX
             rcases hnm with rfl | rfl | rfl
             all_goals
              go_enter Tryz.func44,Tryz.ntmps44
              go_wp2_with fail
              refine(HP _).mono ?_
              rintro e w1 ⟨rfl,hb⟩
              obtain⟨c0,c1,c2,c3,hb1⟩:=HB.out _ hb
              go_wp2_with fail
              refine(HN _).mono ?_
              rintro e w2 ⟨rfl,rfl⟩
              go_wp2
              go_ret
              exact⟨by rw[HX.out];rfl,hb1⟩
           · rw[if_neg hnm]at HX
             have e21:(op == 21)=false:=by simp;omega
             have e22:(op == 22)=false:=by simp;omega
             have e24:(op == 24)=false:=by simp;omega
             by_cases h23:op=23
             · rw[if_pos h23]at HX
               subst h23
               have hz:=tfault_zero s.data.toList
               clear e21 e22 e24 e8
               go_enter Tryz.func44,Tryz.ntmps44
               go_wp2_with fail
               refine(HP _).mono ?_
               rintro e w1 ⟨rfl,hb⟩
               obtain⟨c0,c1,c2,c3,hb1⟩:=HB.out _ hb
               go_wp2_with fail
               refine(HT _).mono ?_
               rintro e w2 ⟨rfl,rfl⟩
               go_wp2
               go_ret
               exact⟨by rw[HX.out];rfl,hb1⟩
             · rw[if_neg h23,←ByteArray.toList_eq]at HX
               have e23:(op == 23)=false:=by simpa using h23
               clear h8 hnm h23 es
               go_enter Tryz.func44,Tryz.ntmps44
               go_wp2_with fail
               refine(HP _).mono ?_
               rintro e w1 ⟨rfl,hb⟩
               obtain⟨c0,c1,c2,c3,hb1⟩:=HB.out _ hb
               go_wp2
               go_ret
               exact⟨by rw[HX.out];rfl,hb1⟩
     · have HX:Hid (_=_):=exOk_bn h hn
       generalize exOk x=r at *
       generalize prt x=pr at *
       obtain⟨op,n,s,t⟩:=x
       unfold Nd.val at *
       simp only at h1 h2 HB hn
       have hn1:(n != 0)=true:=by simpa using hn
       clear h hn
       go_enter Tryz.func44,Tryz.ntmps44
       go_wp2_with fail
       refine(HP _).mono ?_
       rintro e w1 ⟨rfl,hb⟩
       obtain⟨c0,c1,c2,c3,hb1⟩:=HB.out _ hb
       go_wp2
       go_ret
       exact⟨by rw[HX.out];rfl,hb1⟩
def BOk (f:Nat):Prop:=∀(v:List Nd) (p:Option Addr) (c at_:Nat) (w:World),at_≤v.length→v.length-at_<f→NL w p v→v.length≤maxLen→
 Calls Tryz.prog 31 #[.slice p v.length c,.int .i64 at_] w fun e w'=>e= .returned (.int .i64 (endI v.length (pastE f (v.drop at_))))∧Below w.heap.size w w'
theorem partsB_none {pv:List Nd→Option (List Nd)}{n k:Nat}(h:k<n){v:List Nd}(e:pv v=none):partsE pv (n-k) v=none:=by
 rw[show n-k=(n-(k+1))+1 by omega];simp only[partsE,e]
theorem partsB_some {pv:List Nd→Option (List Nd)}{n k:Nat}(h:k<n){v rest:List Nd}(e:pv v=some rest):partsE pv (n-k) v=partsE pv (n-(k+1)) rest:=by
 rw[show n-k=(n-(k+1))+1 by omega];simp only[partsE,e]
theorem recB_nil {pv:List Nd→Option (List Nd)}{n k:Nat}(h:k<n){last:ByteArray}:recLoop pv (n-k) last []=none:=by
 rw[show n-k=(n-(k+1))+1 by omega];rfl
theorem recB_bad {pv:List Nd→Option (List Nd)}{n k:Nat}(h:k<n){last:ByteArray}{x:Nd}{r:List Nd}(e:¬(x.op=7∧ndOk x=true∧cmpB last x.s<0)):recLoop pv (n-k) last (x::r)=none:=by
 rw[show n-k=(n-(k+1))+1 by omega];simp only[recLoop,if_neg e]
theorem recB_go {pv:List Nd→Option (List Nd)}{n k:Nat}(h:k<n){last:ByteArray}{x:Nd}{r:List Nd}(e:x.op=7∧ndOk x=true∧cmpB last x.s<0):
 recLoop pv (n-k) last (x::r)=match pv r with | none=>none | some rest=>recLoop pv (n-(k+1)) x.s rest:=by
 rw[show n-k=(n-(k+1))+1 by omega];simp only[recLoop,if_pos e];cases pv r<;>rfl
theorem dropB {v rest:List Nd}{k:Nat}(ht:IsTail rest (v.drop k)):v.drop (v.length-rest.length)=rest:=by
 obtain⟨a,ha⟩:=ht
 have hl:v.length-k=a.length+rest.length:=by have:=congrArg List.length ha;simpa using this
 by_cases h:k≤v.length
 · rw[show v.length-rest.length=k+a.length by omega,←List.drop_drop,ha,List.drop_left]
 · have h1:rest.length=0:=by omega
   have h2:=List.eq_nil_of_length_eq_zero h1
   subst h2
   simp
theorem endI_some {n:Nat}{r:List Nd}(h:r.length≤n):endI n (some r)=((n-r.length:Nat):Int):=by
 unfold endI;simp only[];omega
theorem endI_drop {v:List Nd}{k:Nat}(h:k≤v.length):endI v.length (some (v.drop k))=(k:Int):=by
 unfold endI;simp only[List.length_drop];omega
theorem own_cells {w1 w2 wr:World}{x:Nd}{T:TypeId}(h:w2=w1.alloc (.cells #[.int .i64 x.op,.int .i64 x.n,.string x.s,.string x.t] T))(hb:Below w2.heap.size w2 wr):
 wr.cell? ⟨w1.heap.size,0,none⟩=some (.int .i64 x.op)∧wr.cell? ⟨w1.heap.size,1,none⟩=some (.int .i64 x.n)∧wr.cell? ⟨w1.heap.size,2,none⟩=some (.string x.s)∧wr.cell? ⟨w1.heap.size,3,none⟩=some (.string x.t)∧w1.heap.size<wr.heap.size:=by
 subst h
 refine⟨?_,?_,?_,?_,Nat.lt_of_lt_of_le (by simp) hb.size⟩
 · exact(hb.cell (p:=⟨w1.heap.size,0,none⟩) (by simp)).trans (by simp[go_sem])
 · exact(hb.cell (p:=⟨w1.heap.size,1,none⟩) (by simp)).trans (by simp[go_sem])
 · exact(hb.cell (p:=⟨w1.heap.size,2,none⟩) (by simp)).trans (by simp[go_sem])
 · exact(hb.cell (p:=⟨w1.heap.size,3,none⟩) (by simp)).trans (by simp[go_sem])
set_option maxRecDepth 100000 in
theorem behind_parts (f:Nat)(ih:BOk f)(v:List Nd)(p:Option Addr)(c at0:Nat)(w:World)(hk:at0<v.length)(hf:v.length-at0<f+1)(hv:NL w p v)(hl:v.length≤maxLen)
 (h7:v[at0].op≠7) (hx:exOk v[at0]=true) (h6:v[at0].op≠6):
 Calls Tryz.prog 31 #[.slice p v.length c,.int .i64 at0] w fun e w'=>e= .returned (.int .i64 (endI v.length (partsE (pastE f) (prt v[at0]).toNat (v.drop (at0+1)))))∧Below w.heap.size w w':=by
 have HM:Hid (v.length≤maxLen):=hl
 unfold maxLen at hl
 have HI:Hid (BOk f):=ih
 clear ih
 obtain⟨b,off,rfl,hbw,x0,x1,x2,x3,xw⟩:=hv.at hk
 generalize v[at0]=x at *
 have i1:(at0:Int)<(v.length:Int):=by omega
 have i2:¬(at0:Int)<0:=by omega
 have i3:¬v.length≤at0:=by omega
 have HF:=fun w=>refFields_any x w xw
 rw[hx]at HF
 have HP:=fun w=>refPrt_any x w
 have e7:(x.op == 7)=false:=by simpa using h7
 have e6:(x.op == 6)=false:=by simpa using h6
 have hcn:prt x≤9223372036854775807:=by have:=xw.2.2;unfold prt;repeat' split<;>omega
 generalize hR:partsE (pastE f) (prt x).toNat (v.drop (at0+1))=R
 have HR:Hid (_=_):=hR
 clear hR h7 hx h6
 go_enter Tryz.func31,Tryz.ntmps31
 go_wp2_with fail
 refine(HF _).mono ?_
 rintro e w1 ⟨rfl,hb1⟩
 have y0:=(hb1.cell (p:=⟨b,off+at0*4,none⟩) hbw).trans x0
 have y1:=(hb1.cell (p:=⟨b,off+at0*4+1,none⟩) hbw).trans x1
 have y2:=(hb1.cell (p:=⟨b,off+at0*4+2,none⟩) hbw).trans x2
 have y3:=(hb1.cell (p:=⟨b,off+at0*4+3,none⟩) hbw).trans x3
 clear x0 x1 x2 x3 HF
 have hv1:=hv.up hb1
 have hb2:Below w1.heap.size w1 (w1.alloc (.cells #[.int .i64 x.op,.int .i64 x.n,.string x.s,.string x.t] 71)):=(Below.refl _ _).alloc (Nat.le_refl _) _
 have HW:Hid (∀w2,w2=w1.alloc (.cells #[.int .i64 x.op,.int .i64 x.n,.string x.s,.string x.t] 71)→∀wr,Below w2.heap.size w2 wr→_):=fun w2 h wr hb=>own_cells (x:=x) (T:=71) h hb
 go_wp2
 clear y0 y1 y2 y3
 generalize w1.alloc (.cells #[.int .i64 x.op,.int .i64 x.n,.string x.s,.string x.t] 71)=w2 at *
 go_loopw [1,6,7] (fun sa sl i wr=>∃k fr:Nat,k≤(prt x).toNat∧i= .int .i64 k∧sa= .int .i64 fr∧sl= .string ⟨#[]⟩∧at0<fr∧fr≤v.length∧Hid (partsE (pastE f) ((prt x).toNat-k) (v.drop fr)=R)∧Below w2.heap.size w2 wr) (fun _ _ i _=>(prt x).toNat-(intOf i).toNat)
 case atStart=>exact⟨0,at0+1,Nat.zero_le _,rfl,by go_num,rfl,by omega,by omega,HR,Below.refl _ _⟩
 case round=>
  obtain⟨k,fr,hkk,rfl,rfl,rfl,h01,hfr,HS,hb⟩:=hrel
  obtain⟨z0,z1,z2,z3,hzl⟩:=HW.out w2 rfl wr hb
  have hb3:Below w.heap.size w wr:=hb1.trans ((hb2.trans (hb.mono hb2.size)).mono hb1.size)
  have hvr:=hv.up hb3
  by_cases hlt:(k:Int)<prt x
  · have hkn:k<(prt x).toNat:=by omega
    have hc:=fun w4 (hb4:Below wr.heap.size wr w4)=>HI.out v (some ⟨b,off,none⟩) c fr w4 hfr (by omega) (hvr.up hb4) HM.out
    cases hp:pastE f (v.drop fr)with
    | none=>
      rw[hp]at hc
      have HN:Hid (none=R):=by rw[←HS.out,partsB_none hkn hp];rfl
      clear hp HS HR
      unfold endI at hc
      simp only[]at hc
      generalize prt x=pr at *
      go_wp2_with fail
      refine(HP _).mono ?_
      rintro e w4 ⟨rfl,hb4⟩
      have u0:=(hb4.cell (p:=⟨w1.heap.size,0,none⟩) hzl).trans z0
      have hc1:=hc _ hb4
      clear z0 z1 z2 z3 hc
      go_wp2_with fail
      refine hc1.mono ?_
      rintro e w5 ⟨rfl,hb5⟩
      have hb6:=hb4.trans (hb5.mono hb4.size)
      go_wp2
      go_ret
      exact⟨by rw[←HN.out];rfl,hb3.trans (hb6.mono hb3.size)⟩
    | some rest=>
      rw[hp]at hc
      obtain⟨hsh,htl⟩:=pastE_shorter hp
      have hsh2:rest.length<v.length-fr:=by simpa using hsh
      rw[endI_some (by omega)]at hc
      have HN:Hid (partsE (pastE f) ((prt x).toNat-(k+1)) (v.drop (v.length-rest.length))=R):=by rw[dropB htl,←HS.out,partsB_some hkn hp];rfl
      clear hp HS HR hsh htl
      generalize hen:v.length-rest.length=en at *
      have hen1:fr<en:=by omega
      have hen2:en≤v.length:=by omega
      have hen3:¬(en:Int)<0:=by omega
      clear hen hsh2
      generalize prt x=pr at *
      go_wp2_with fail
      refine(HP _).mono ?_
      rintro e w4 ⟨rfl,hb4⟩
      have u0:=(hb4.cell (p:=⟨w1.heap.size,0,none⟩) hzl).trans z0
      have hc1:=hc _ hb4
      clear z0 z1 z2 z3 hc
      go_wp2_with fail
      refine hc1.mono ?_
      rintro e w5 ⟨rfl,hb5⟩
      have hb6:=hb4.trans (hb5.mono hb4.size)
      go_wp2
      go_roundw
      case rel=>exact⟨k+1,en,by omega,by go_num,rfl,rfl,by omega,hen2,HN,hb.trans (hb6.mono hb.size)⟩
      case measure=>simp[intOf];omega
  · have HN:Hid (some (v.drop fr)=R):=by
     have:=HS.out
     rw[show(prt x).toNat-k=0 by omega]at this
     exact this
    have HE:Hid (_=_):=endI_drop (v:=v) hfr
    clear HS HR
    generalize prt x=pr at *
    go_wp2_with fail
    refine(HP _).mono ?_
    rintro e w4 ⟨rfl,hb4⟩
    go_wp2
    go_ret
    exact⟨by rw[←HN.out,HE.out];rfl,hb3.trans (hb4.mono hb3.size)⟩
theorem below_dn {a b:World}{B:Nat}(h:Below B a b)(n:Nat):Below B a (b.drewN n):=⟨h.os,h.tape,h.output,h.size,h.block⟩
theorem exOk_seven {y:Nd}(h:y.op=7):exOk y=ndOk y:=by unfold exOk;rw[if_pos (by omega)]
set_option maxRecDepth 100000 in
theorem behind_rec (f:Nat)(ih:BOk f)(v:List Nd)(p:Option Addr)(c at0:Nat)(w:World)(hk:at0<v.length)(hf:v.length-at0<f+1)(hv:NL w p v)(hl:v.length≤maxLen)
 (hx:exOk v[at0]=true) (h6:v[at0].op=6):
 Calls Tryz.prog 31 #[.slice p v.length c,.int .i64 at0] w fun e w'=>e= .returned (.int .i64 (endI v.length (recLoop (pastE f) (prt v[at0]).toNat ⟨#[]⟩ (v.drop (at0+1)))))∧Below w.heap.size w w':=by
 have HM:Hid (v.length≤maxLen):=hl
 unfold maxLen at hl
 have HI:Hid (BOk f):=ih
 clear ih
 obtain⟨b,off,rfl,hbw,x0,x1,x2,x3,xw⟩:=hv.at hk
 generalize v[at0]=x at *
 have i1:(at0:Int)<(v.length:Int):=by omega
 have i2:¬(at0:Int)<0:=by omega
 have i3:¬v.length≤at0:=by omega
 have HF:=fun w=>refFields_any x w xw
 rw[hx]at HF
 have HP:=fun w=>refPrt_any x w
 have e7:(x.op == 7)=false:=by simp;omega
 have e6:(x.op == 6)=true:=by simpa using h6
 have hcn:prt x≤9223372036854775807:=by have:=xw.2.2;unfold prt;repeat' split<;>omega
 generalize hR:recLoop (pastE f) (prt x).toNat ⟨#[]⟩ (v.drop (at0+1))=R
 have HR:Hid (_=_):=hR
 clear hR hx h6
 go_enter Tryz.func31,Tryz.ntmps31
 go_wp2_with fail
 refine(HF _).mono ?_
 rintro e w1 ⟨rfl,hb1⟩
 have y0:=(hb1.cell (p:=⟨b,off+at0*4,none⟩) hbw).trans x0
 have y1:=(hb1.cell (p:=⟨b,off+at0*4+1,none⟩) hbw).trans x1
 have y2:=(hb1.cell (p:=⟨b,off+at0*4+2,none⟩) hbw).trans x2
 have y3:=(hb1.cell (p:=⟨b,off+at0*4+3,none⟩) hbw).trans x3
 clear x0 x1 x2 x3 HF
 have hb2:Below w1.heap.size w1 (w1.alloc (.cells #[.int .i64 x.op,.int .i64 x.n,.string x.s,.string x.t] 71)):=(Below.refl _ _).alloc (Nat.le_refl _) _
 have HW:Hid (∀w2,w2=w1.alloc (.cells #[.int .i64 x.op,.int .i64 x.n,.string x.s,.string x.t] 71)→∀wr,Below w2.heap.size w2 wr→_):=fun w2 h wr hb=>own_cells (x:=x) (T:=71) h hb
 go_wp2
 clear y0 y1 y2 y3
 generalize w1.alloc (.cells #[.int .i64 x.op,.int .i64 x.n,.string x.s,.string x.t] 71)=w2 at *
 go_loopw [1,6,7] (fun sa sl i wr=>∃(k fr:Nat) (last:ByteArray),k≤(prt x).toNat∧i= .int .i64 k∧sa= .int .i64 fr∧sl= .string last∧last.size≤9223372036854775807∧at0<fr∧fr≤v.length∧Hid (recLoop (pastE f) ((prt x).toNat-k) last (v.drop fr)=R)∧Below w2.heap.size w2 wr) (fun _ _ i _=>(prt x).toNat-(intOf i).toNat)
 case atStart=>exact⟨0,at0+1,⟨#[]⟩,Nat.zero_le _,rfl,by go_num,rfl,Nat.zero_le _,by omega,by omega,HR,Below.refl _ _⟩
 case round=>
  obtain⟨k,fr,last,hkk,rfl,rfl,rfl,hls,h01,hfr,HS,hb⟩:=hrel
  obtain⟨z0,z1,z2,z3,hzl⟩:=HW.out w2 rfl wr hb
  have hb3:Below w.heap.size w wr:=hb1.trans ((hb2.trans (hb.mono hb2.size)).mono hb1.size)
  have hvr:=hv.up hb3
  have hbr:b<wr.heap.size:=Nat.lt_of_lt_of_le hbw hb3.size
  by_cases hlt:(k:Int)<prt x
  · have hkn:k<(prt x).toNat:=by omega
    by_cases halt:fr<v.length
    · have hdr:v.drop fr=v[fr]::v.drop (fr+1):=List.drop_eq_getElem_cons halt
      obtain⟨b',off',hpe,_,q0,q1,q2,q3,yw⟩:=hvr.at halt
      obtain⟨rfl,rfl⟩:b=b'∧off=off':=by simpa using hpe
      rw[hdr]at HS
      clear hdr hpe
      generalize v[fr]=y at *
      have j1:(fr:Int)<(v.length:Int):=by omega
      have j2:¬v.length≤fr:=by omega
      by_cases h7:y.op=7
      · have f7:(y.op != 7)=false:=by simpa using h7
        have HFy:=fun w=>refFields_any y w yw
        rw[exOk_seven h7]at HFy
        cases hok:ndOk y
        · rw[hok]at HFy
          have HN:Hid (none=R):=by rw[←HS.out,recB_bad hkn (fun h=>by rw[h.2.1]at hok;cases hok)];rfl
          clear HS HR hok h7
          generalize prt x=pr at *
          go_wp2_with fail
          refine(HP _).mono ?_
          rintro e w4 ⟨rfl,hb4⟩
          have u0:=(hb4.cell (p:=⟨w1.heap.size,0,none⟩) hzl).trans z0
          have r0:=(hb4.cell (p:=⟨b,off+fr*4,none⟩) hbr).trans q0
          have r1:=(hb4.cell (p:=⟨b,off+fr*4+1,none⟩) hbr).trans q1
          have r2:=(hb4.cell (p:=⟨b,off+fr*4+2,none⟩) hbr).trans q2
          have r3:=(hb4.cell (p:=⟨b,off+fr*4+3,none⟩) hbr).trans q3
          clear z0 z1 z2 z3 q0 q1 q2 q3
          go_wp2_with fail
          refine(HFy _).mono ?_
          rintro e w5 ⟨rfl,hb5⟩
          have hb6:=hb4.trans (hb5.mono hb4.size)
          go_wp2
          go_ret
          exact⟨by rw[←HN.out];rfl,hb3.trans (hb6.mono hb3.size)⟩
        · rw[hok]at HFy
          have HC:=fun w=>textC_any last y.s w (by unfold maxLen;omega) yw.1
          by_cases hcmp:cmpB last y.s<0
          · have HN:=(recB_go (pv:=pastE f) (r:=v.drop (fr+1)) hkn ⟨h7,hok,hcmp⟩).symm.trans HS.out
            have hcl:=fun w4 (hb4:Below wr.heap.size wr w4)=>HI.out v (some ⟨b,off,none⟩) c (fr+1) w4 (by omega) (by omega) (hvr.up hb4) HM.out
            rw[show((fr+1:Nat):Int)=(fr:Int)+1 by omega]at hcl
            have hc0:¬ 0≤cmpB last y.s:=by omega
            have hys:y.s.size≤9223372036854775807:=by have:=yw.1;unfold maxLen at this;omega
            clear HS HR hok h7 hcmp
            generalize cmpB last y.s=cp at *
            cases hp:pastE f (v.drop (fr+1))with
            | none=>
              rw[hp]at hcl HN
              have HN2:Hid (none=R):=HN
              clear hp HN
              unfold endI at hcl
              simp only[]at hcl
              generalize prt x=pr at *
              go_wp2_with fail
              refine(HP _).mono ?_
              rintro e w4 ⟨rfl,hb4⟩
              have u0:=(hb4.cell (p:=⟨w1.heap.size,0,none⟩) hzl).trans z0
              have r0:=(hb4.cell (p:=⟨b,off+fr*4,none⟩) hbr).trans q0
              have r1:=(hb4.cell (p:=⟨b,off+fr*4+1,none⟩) hbr).trans q1
              have r2:=(hb4.cell (p:=⟨b,off+fr*4+2,none⟩) hbr).trans q2
              have r3:=(hb4.cell (p:=⟨b,off+fr*4+3,none⟩) hbr).trans q3
              clear z0 z1 z2 z3 q0 q1 q2 q3
              go_wp2_with fail
              refine(HFy _).mono ?_
              rintro e w5 ⟨rfl,hb5⟩
              have hb6:=hb4.trans (hb5.mono hb4.size)
              have s2:=(hb5.cell (p:=⟨b,off+fr*4+2,none⟩) (Nat.lt_of_lt_of_le hbr hb4.size)).trans r2
              clear r0 r1 r2 r3
              go_wp2_with fail
              refine(HC _).mono ?_
              rintro e w6 ⟨rfl,n6,rfl⟩
              have hb7:=below_dn hb6 n6
              have hc1:=hcl _ hb7
              clear hcl
              go_wp2_with fail
              refine hc1.mono ?_
              rintro e w7 ⟨rfl,hb8⟩
              have hb9:=hb7.trans (hb8.mono hb7.size)
              go_wp2
              go_ret
              exact⟨by rw[←HN2.out];rfl,hb3.trans (hb9.mono hb3.size)⟩
            | some rest=>
              rw[hp]at hcl HN
              obtain⟨hsh,htl⟩:=pastE_shorter hp
              have hsh2:rest.length<v.length-(fr+1):=by simpa using hsh
              rw[endI_some (by omega)]at hcl
              have HN2:Hid (recLoop (pastE f) ((prt x).toNat-(k+1)) y.s (v.drop (v.length-rest.length))=R):=by rw[dropB htl];exact HN
              clear hp HN hsh htl
              generalize hen:v.length-rest.length=en at *
              have hen1:fr<en:=by omega
              have hen2:en≤v.length:=by omega
              have hen3:¬(en:Int)<0:=by omega
              clear hen hsh2
              generalize prt x=pr at *
              go_wp2_with fail
              refine(HP _).mono ?_
              rintro e w4 ⟨rfl,hb4⟩
              have u0:=(hb4.cell (p:=⟨w1.heap.size,0,none⟩) hzl).trans z0
              have r0:=(hb4.cell (p:=⟨b,off+fr*4,none⟩) hbr).trans q0
              have r1:=(hb4.cell (p:=⟨b,off+fr*4+1,none⟩) hbr).trans q1
              have r2:=(hb4.cell (p:=⟨b,off+fr*4+2,none⟩) hbr).trans q2
              have r3:=(hb4.cell (p:=⟨b,off+fr*4+3,none⟩) hbr).trans q3
              clear z0 z1 z2 z3 q0 q1 q2 q3
              go_wp2_with fail
              refine(HFy _).mono ?_
              rintro e w5 ⟨rfl,hb5⟩
              have hb6:=hb4.trans (hb5.mono hb4.size)
              have s2:=(hb5.cell (p:=⟨b,off+fr*4+2,none⟩) (Nat.lt_of_lt_of_le hbr hb4.size)).trans r2
              clear r0 r1 r2 r3
              go_wp2_with fail
              refine(HC _).mono ?_
              rintro e w6 ⟨rfl,n6,rfl⟩
              have hb7:=below_dn hb6 n6
              have hc1:=hcl _ hb7
              clear hcl
              go_wp2_with fail
              refine hc1.mono ?_
              rintro e w7 ⟨rfl,hb8⟩
              have hb9:=hb7.trans (hb8.mono hb7.size)
              go_wp2
              go_roundw
              case rel=>exact⟨k+1,en,y.s,by omega,by go_num,rfl,rfl,hys,by omega,hen2,HN2,hb.trans (hb9.mono hb.size)⟩
              case measure=>simp[intOf];omega
          · have HN:Hid (none=R):=by rw[←HS.out,recB_bad hkn (fun h=>hcmp h.2.2)];rfl
            have hc0:0≤cmpB last y.s:=by omega
            clear HS HR hok h7 hcmp
            generalize cmpB last y.s=cp at *
            generalize prt x=pr at *
            go_wp2_with fail
            refine(HP _).mono ?_
            rintro e w4 ⟨rfl,hb4⟩
            have u0:=(hb4.cell (p:=⟨w1.heap.size,0,none⟩) hzl).trans z0
            have r0:=(hb4.cell (p:=⟨b,off+fr*4,none⟩) hbr).trans q0
            have r1:=(hb4.cell (p:=⟨b,off+fr*4+1,none⟩) hbr).trans q1
            have r2:=(hb4.cell (p:=⟨b,off+fr*4+2,none⟩) hbr).trans q2
            have r3:=(hb4.cell (p:=⟨b,off+fr*4+3,none⟩) hbr).trans q3
            clear z0 z1 z2 z3 q0 q1 q2 q3
            go_wp2_with fail
            refine(HFy _).mono ?_
            rintro e w5 ⟨rfl,hb5⟩
            have hb6:=hb4.trans (hb5.mono hb4.size)
            have s2:=(hb5.cell (p:=⟨b,off+fr*4+2,none⟩) (Nat.lt_of_lt_of_le hbr hb4.size)).trans r2
            clear r0 r1 r2 r3
            go_wp2_with fail
            refine(HC _).mono ?_
            rintro e w6 ⟨rfl,n6,rfl⟩
            have hb7:=below_dn hb6 n6
            go_wp2
            go_ret
            exact⟨by rw[←HN.out];rfl,hb3.trans (hb7.mono hb3.size)⟩
      · have f7:(y.op != 7)=true:=by simpa using h7
        have HN:Hid (none=R):=by rw[←HS.out,recB_bad hkn (fun h=>h7 h.1)];rfl
        clear HS HR h7
        generalize prt x=pr at *
        go_wp2_with fail
        refine(HP _).mono ?_
        rintro e w4 ⟨rfl,hb4⟩
        have u0:=(hb4.cell (p:=⟨w1.heap.size,0,none⟩) hzl).trans z0
        have r0:=(hb4.cell (p:=⟨b,off+fr*4,none⟩) hbr).trans q0
        clear z0 z1 z2 z3 q0 q1 q2 q3
        go_wp2
        go_ret
        exact⟨by rw[←HN.out];rfl,hb3.trans (hb4.mono hb3.size)⟩
    · have j1:(v.length:Int)≤(fr:Int):=by omega
      have HN:Hid (none=R):=by
       have:=HS.out
       rw[List.drop_of_length_le (by omega),recB_nil hkn]at this
       exact this
      clear HS HR
      generalize prt x=pr at *
      go_wp2_with fail
      refine(HP _).mono ?_
      rintro e w4 ⟨rfl,hb4⟩
      have u0:=(hb4.cell (p:=⟨w1.heap.size,0,none⟩) hzl).trans z0
      go_wp2
      go_ret
      exact⟨by rw[←HN.out];rfl,hb3.trans (hb4.mono hb3.size)⟩
  · have HN:Hid (some (v.drop fr)=R):=by
     have:=HS.out
     rw[show(prt x).toNat-k=0 by omega]at this
     exact this
    have HE:Hid (_=_):=endI_drop (v:=v) hfr
    clear HS HR
    generalize prt x=pr at *
    go_wp2_with fail
    refine(HP _).mono ?_
    rintro e w4 ⟨rfl,hb4⟩
    go_wp2
    go_ret
    exact⟨by rw[←HN.out,HE.out];rfl,hb3.trans (hb4.mono hb3.size)⟩
set_option maxRecDepth 100000 in
theorem behind_step (f:Nat)(ih:BOk f):BOk (f+1):=by
 intro v p c at_ w hat hf hv hl
 by_cases halt:at_<v.length
 · have hdr:v.drop at_=v[at_]::v.drop (at_+1):=List.drop_eq_getElem_cons halt
   rw[hdr]
   by_cases hok:v[at_].op≠7∧exOk v[at_]=true
   · by_cases h6:v[at_].op=6
     · rw[pastE_rec hok.1 hok.2 h6]
       have:=behind_rec f ih v p c at_ w halt hf hv hl hok.2 h6
       rw[show prt v[at_]=v[at_].n by unfold prt;rw[if_pos (.inr h6)]]at this
       exact this
     · rw[pastE_parts hok.1 hok.2 h6]
       exact behind_parts f ih v p c at_ w halt hf hv hl hok.1 hok.2 h6
   · rw[pastE_bad hok]
     have HO:Hid (¬(v[at_].op≠7∧exOk v[at_]=true)):=hok
     clear hdr hok
     unfold maxLen at hl
     obtain⟨b,off,rfl,hbw,x0,x1,x2,x3,xw⟩:=hv.at halt
     generalize v[at_]=x at *
     have i1:(at_:Int)<(v.length:Int):=by omega
     have i2:¬(at_:Int)<0:=by omega
     have i3:¬v.length≤at_:=by omega
     have HF:=fun w=>refFields_any x w xw
     cases hx:exOk x
     · rw[hx]at HF
       clear HO hx
       go_enter Tryz.func31,Tryz.ntmps31
       go_wp2_with fail
       refine(HF _).mono ?_
       rintro e w1 ⟨rfl,hb1⟩
       go_wp2
       go_ret
       exact⟨rfl,hb1⟩
     · rw[hx]at HF
       have h7:x.op=7:=Decidable.byContradiction fun h=>HO.out ⟨h,hx⟩
       have e7:(x.op == 7)=true:=by simpa using h7
       clear HO hx h7
       go_enter Tryz.func31,Tryz.ntmps31
       go_wp2_with fail
       refine(HF _).mono ?_
       rintro e w1 ⟨rfl,hb1⟩
       have y0:=(hb1.cell (p:=⟨b,off+at_*4,none⟩) hbw).trans x0
       clear x0 x1 x2 x3
       go_wp2
       go_ret
       exact⟨rfl,hb1⟩
 · rw[List.drop_of_length_le (by omega),pastE_nil]
   have i1:(v.length:Int)≤(at_:Int):=by omega
   have i2:¬(at_:Int)<0:=by omega
   go_enter Tryz.func31,Tryz.ntmps31
   go_wp2
   go_ret
   exact⟨rfl,Below.refl _ _⟩
theorem behind_any:∀f,BOk f
 | 0=>fun v p c at_ w _ h=>absurd h (by omega)
 | f+1=>behind_step f (behind_any f)
theorem refFault_any (v:List Nd)(p:Option Addr)(c:Nat)(w:World)(hv:NL w p v)(hl:v.length≤maxLen):
 Calls Tryz.prog 16 #[.slice p v.length c] w fun e w'=>e= .returned (.int .i64 (xfault v))∧Below w.heap.size w w':=by
 by_cases h:200<v.length
 · have HF:Hid (_=_):=xfault_long h
   have h':(200:Int)<(v.length:Int):=by omega
   go_enter Tryz.func16,Tryz.ntmps16
   go_wp2
   go_ret
   exact⟨by rw[HF.out];rfl,Below.refl _ _⟩
 · have h':¬(200:Int)<(v.length:Int):=by omega
   have hc:=behind_any (v.length+1) v p c 0 w (Nat.zero_le _) (by omega) hv hl
   rw[List.drop_zero]at hc
   cases hx:isEx v
   · have HF:Hid (_=_):=xfault_bad h hx
     generalize hen:endI v.length (pastE (v.length+1) v)=en at *
     have hne:(en != (v.length:Int))=true:=by
      rw[←hen]
      unfold isEx at hx
      cases hp:pastE (v.length+1) v with
      | none=>simp[endI]
      | some r=>
        rw[hp]at hx
        have hsh:=(pastE_shorter hp).1
        cases r with
        | nil=>cases hx
        | cons y r=>simp[endI]at hsh ⊢; omega
     clear hen hx h
     go_enter Tryz.func16,Tryz.ntmps16
     go_wp2_with fail
     refine hc.mono ?_
     rintro e w1 ⟨rfl,hb⟩
     go_wp2
     go_ret
     exact⟨by rw[HF.out];rfl,hb⟩
   · have HF:Hid (_=_):=xfault_ok h hx
     rw[(isEx_iff v).1 hx]at hc
     have hen:endI v.length (some [])=(v.length:Int):=by simp[endI]
     rw[hen]at hc
     clear hx h hen
     go_enter Tryz.func16,Tryz.ntmps16
     go_wp2_with fail
     refine hc.mono ?_
     rintro e w1 ⟨rfl,hb⟩
     go_wp2
     go_ret
     exact⟨by rw[HF.out];rfl,hb⟩
def lastOf:Value→ByteArray
 | .string b=>b
 | _=>⟨#[]⟩
theorem vars_at_var {v:List Nd}{k:Nat}(h:k<v.length)(h8:v[k].op=8):vars (v.take (k+1))=vars (v.take k)++[v[k].s]:=by
 rw[List.take_succ_eq_append_getElem h,vars_append,vars_cons_var h8];rfl
theorem vars_at_not {v:List Nd}{k:Nat}(h:k<v.length)(h8:v[k].op≠8):vars (v.take (k+1))=vars (v.take k):=by
 rw[List.take_succ_eq_append_getElem h,vars_append,vars_cons_not h8];simp[vars]
theorem vars_part {v:List Nd}{k:Nat}{z:ByteArray}(h:z∈vars (v.take k)):z∈vars v:=by
 obtain⟨x,hx,h1⟩:=mem_vars.1 h
 exact mem_vars.2 ⟨x,List.mem_of_mem_take hx,h1⟩
def NamesRet (w':World)(l:List ByteArray)(e:Ending):Prop:=∃q c,e= .returned (.slice q l.length c)∧TL w' q l∧l.length≤c∧c≤maxLen
theorem empty_text {s:ByteArray}:(s.toList == [])=true↔s=⟨#[]⟩:=by
 rw[beq_iff_eq,ByteArray.toList_eq]
 exact⟨fun h=>bytes_inj h,fun h=>by rw[h]⟩
set_option maxRecDepth 100000 in
theorem refNames_any (v:List Nd)(p:Option Addr)(c:Nat)(w:World)(hv:NL w p v)(hl:v.length≤200)(hne:∀z∈vars v,z.data.toList≠[])(hsz:∀z∈vars v,z.size≤maxLen):
 Calls Tryz.prog 17 #[.slice p v.length c] w fun e w'=>NamesRet w' (nms v) e∧Below w.heap.size w w':=by
 have HNE:Hid (∀z∈vars v,z.data.toList≠[]):=hne
 have HSZ:Hid (∀z∈vars v,z.size≤maxLen):=hsz
 have hvl:=vars_length v
 clear hne hsz
 go_enter Tryz.func17,Tryz.ntmps17
 go_wp2
 go_loopw [3,4] (fun ov sl wr=>∃(out:List ByteArray) (last:ByteArray),sl= .string last∧OT wr w.heap.size ov out∧Hid (Sofar (vars v) last out)∧last.size≤9223372036854775807∧Below w.heap.size w wr) (fun _ sl _=>aft (vars v) (lastOf sl))
 case atStart=>exact⟨[],⟨#[]⟩,rfl,Row1.nil _ _ _,Sofar.start HNE.out,Nat.zero_le _,Below.refl _ _⟩
 case round=>
  obtain⟨out,last,rfl,hot,HSF,hls,hb⟩:=hrel
  rename World=>w0
  have HOT:Hid (OT w0 w.heap.size u3 out):=hot
  have hof:out.length≤200:=by have:=HSF.out.few;omega
  have hvr:=hv.up hb
  have hbs:=hb.size
  clear hot
  go_wp2
  go_loopw [5,6] (fun sn i wz=>∃(k:Nat) (nx:ByteArray),k≤v.length∧i= .int .i64 k∧sn= .string nx∧Hid (NX last (vars (v.take k)) nx)∧nx.size≤9223372036854775807∧∃n,wz=w0.drewN n) (fun _ i _=>v.length-(intOf i).toNat)
  case atStart=>exact⟨0,⟨#[]⟩,Nat.zero_le _,rfl,rfl,NX.nil last,Nat.zero_le _,0,rfl⟩
  case round=>
   obtain⟨k,nx,hk,rfl,rfl,HNX,hnx,n,rfl⟩:=hrel
   by_cases hlt:k<v.length
   · have i1:(k:Int)<(v.length:Int):=by omega
     obtain⟨b,off,hpe,hbw,x0,x1,x2,x3,xw⟩:=hvr.at hlt
     subst hpe
     cases h8:(v[k].op == 8)
     · have HV:Hid (_=_):=vars_at_not hlt (by simpa using h8)
       generalize v[k]=x at *
       go_wp2
       go_roundw
       case rel=>exact⟨k+1,nx,by omega,by go_num,rfl,by rw[HV.out];exact HNX,hnx,_,rfl⟩
       case measure=>simp[intOf];omega
     · have HV:Hid (_=_):=vars_at_var hlt (by simpa using h8)
       generalize v[k]=x at *
       have hxs:x.s.size≤9223372036854775807:=by have:=xw.1;unfold maxLen at this;omega
       have HC:=fun w=>textC_any x.s last w xw.1 (by unfold maxLen;omega)
       by_cases h0:0<cmpB x.s last
       · by_cases hnn:nx=⟨#[]⟩
         · subst hnn
           have HN2:Hid (NX last (vars (v.take k)++[x.s]) x.s):=HNX.out.first (fun z hz=>HNE.out z (vars_part hz)) h0
           generalize cmpB x.s last=cp at *
           go_wp2_with fail
           refine(HC _).mono ?_
           rintro e0 wq ⟨rfl,n2,rfl⟩
           go_wp2
           go_roundw
           case rel=>exact⟨k+1,x.s,by omega,by go_num,rfl,by rw[HV.out];exact HN2,hxs,_,rfl⟩
           case measure=>simp[intOf];omega
         · have hnl:nx.data.toList≠[]:=fun h=>hnn (bytes_inj h)
           have hnb:(nx.toList == [])=false:=by rw[beq_eq_false_iff_ne,ByteArray.toList_eq];exact hnl
           have HD:=fun w=>textC_any x.s nx w xw.1 (by unfold maxLen;omega)
           by_cases h1:cmpB x.s nx<0
           · have HN2:Hid (NX last (vars (v.take k)++[x.s]) x.s):=HNX.out.less hnl h0 h1
             clear hnn hnl
             generalize cmpB x.s last=cp at *
             generalize cmpB x.s nx=cq at *
             go_wp2_with fail
             refine(HC _).mono ?_
             rintro e0 wq ⟨rfl,n2,rfl⟩
             go_wp2_with fail
             refine(HD _).mono ?_
             rintro e0 wq ⟨rfl,n3,rfl⟩
             go_wp2
             go_roundw
             case rel=>exact⟨k+1,x.s,by omega,by go_num,rfl,by rw[HV.out];exact HN2,hxs,_,rfl⟩
             case measure=>simp[intOf];omega
           · have HN2:Hid (NX last (vars (v.take k)++[x.s]) nx):=HNX.out.more hnl h1
             clear hnn hnl
             generalize cmpB x.s last=cp at *
             generalize cmpB x.s nx=cq at *
             go_wp2_with fail
             refine(HC _).mono ?_
             rintro e0 wq ⟨rfl,n2,rfl⟩
             go_wp2_with fail
             refine(HD _).mono ?_
             rintro e0 wq ⟨rfl,n3,rfl⟩
             go_wp2
             go_roundw
             case rel=>exact⟨k+1,nx,by omega,by go_num,rfl,by rw[HV.out];exact HN2,hnx,_,rfl⟩
             case measure=>simp[intOf];omega
       · have HN2:Hid (NX last (vars (v.take k)++[x.s]) nx):=HNX.out.skip h0
         generalize cmpB x.s last=cp at *
         go_wp2_with fail
         refine(HC _).mono ?_
         rintro e0 wq ⟨rfl,n2,rfl⟩
         go_wp2
         go_roundw
         case rel=>exact⟨k+1,nx,by omega,by go_num,rfl,by rw[HV.out];exact HN2,hnx,_,rfl⟩
         case measure=>simp[intOf];omega
   · have i1:¬(k:Int)<(v.length:Int):=by omega
     rw[List.take_of_length_le (by omega)]at HNX
     have hbn:Below w0.heap.size w0 (w0.drewN n):=⟨rfl,rfl,rfl,Nat.le_refl _,fun _ _=>rfl⟩
     have hot2:OT (w0.drewN n) w.heap.size u3 out:=Row1.kept (e:=184) HOT.out (Kept.of_below hbn hbs) (by decide)
     have hb2:Below w.heap.size w (w0.drewN n):=hb.trans (hbn.mono hbs)
     by_cases hnn:nx=⟨#[]⟩
     · subst hnn
       have HD:Hid (out=nms v):=HSF.out.done HNX.out HNE.out
       obtain⟨q,cc,rfl,htl,h1,h2⟩:=hot2.texts
       clear HNX HSF HOT
       go_wp2
       go_ret
       exact⟨by rw[←HD.out];exact⟨q,cc,rfl,htl,h1,h2⟩,hb2⟩
     · have hnl:nx.data.toList≠[]:=fun h=>hnn (bytes_inj h)
       have hnb:(nx.toList == [])=false:=by rw[beq_eq_false_iff_ne,ByteArray.toList_eq];exact hnl
       obtain⟨s1,s2,s3⟩:=HSF.out.next HNX.out hnl
       have HS1:Hid (Sofar (vars v) nx (out++[nx])):=s1
       have HS2:Hid (aft (vars v) nx<aft (vars v) last):=s2
       have HO2:Hid (OT (w0.drewN n) w.heap.size u3 out):=hot2
       have hsz2:=hb2.size
       clear s1 s2 s3 hnl hnn hot2 HSF HOT HNX
       go_wp2_with (at_builtin;refine append_text _ rfl (.tmp 51) (.tmp 53) rfl w.heap.size u3 out rfl HO2.out nx rfl (by omega) hsz2 ?_;intro v1 w3 hot1 hk1;have hb3:=hb2.trans hk1.bel;have HO3:Hid (OT w3 w.heap.size v1 (out++[nx])):=hot1;clear hot1)
       go_roundw
       case rel=>exact⟨out++[nx],nx,rfl,HO3.out,HS1,hnx,hb3⟩
       case measure=>exact HS2.out
theorem texts_take {a b:List ByteArray}{k:Nat}(ha:k<a.length)(hb:k<b.length)(h:a.take k=b.take k)(e:a[k]=b[k]):a.take (k+1)=b.take (k+1):=by
 rw[List.take_succ_eq_append_getElem ha,List.take_succ_eq_append_getElem hb,h,e]
theorem sameTexts_any (a b:List ByteArray)(p q:Option Addr)(c1 c2:Nat)(w:World)(ha:TL w p a)(hb:TL w q b)(la:a.length≤maxLen)(lb:b.length≤maxLen):
 Calls Tryz.prog 5 #[.slice p a.length c1,.slice q b.length c2] w fun e w'=>e= .returned (.bool (decide (a=b)))∧∃n,w'=w.drewN n:=by
 unfold maxLen at la lb
 by_cases hl:a.length=b.length
 · have i0:((a.length:Int) != (b.length:Int))=false:=by simp[hl]
   go_enter Tryz.func5,Tryz.ntmps5
   go_wp2
   go_loopw [5] (fun i wr=>∃k n:Nat,k≤a.length∧i= .int .i64 k∧wr=w.drewN n∧Hid (a.take k=b.take k)) (fun i _=>a.length-(intOf i).toNat)
   case atStart=>exact⟨0,0,Nat.zero_le _,rfl,rfl,rfl⟩
   case round=>
    obtain⟨k,n,hk,rfl,rfl,HD⟩:=hrel
    by_cases hlt:k<a.length
    · have hlt2:k<b.length:=by omega
      obtain⟨b1,o1,rfl,hb1,x0⟩:=ha.at hlt
      obtain⟨b2,o2,rfl,hb2,y0⟩:=hb.at hlt2
      have i1:(k:Int)<(a.length:Int):=by omega
      have i2:(k:Int)<(b.length:Int):=by omega
      have HE:Hid (a[k]=b[k]→a.take (k+1)=b.take (k+1)):=texts_take hlt hlt2 HD.out
      have HF:Hid (a[k]≠b[k]→a≠b):=fun h1 h2=>h1 (by subst h2;rfl)
      generalize a[k]=x at *
      generalize b[k]=y at *
      by_cases h1:x=y
      · subst h1
        have HE2:Hid (a.take (k+1)=b.take (k+1)):=HE.out rfl
        clear HE HF
        go_wp2
        go_quiet (fail)
        go_wp2
        go_roundw
        case rel=>exact⟨k+1,_,by omega,by go_num,rfl,HE2⟩
        case measure=>simp[intOf];omega
      · have h1':¬x.toList=y.toList:=fun h=>h1 (bytes_inj (by simpa only[ByteArray.toList_eq]using h))
        have h1'':(x.toList == y.toList)=false:=by simpa using h1'
        have HF2:Hid (a≠b):=HF.out h1
        clear HE HF h1 h1'
        go_wp2
        go_quiet (fail)
        go_wp2
        go_ret
        exact⟨by rw[decide_eq_false HF2.out];rfl,_,by rw[World.drewN_drewN]⟩
    · have i1:¬(k:Int)<(a.length:Int):=by omega
      have HS:Hid (a=b):=by
       have:=HD.out
       rw[List.take_of_length_le (by omega),List.take_of_length_le (by omega)]at this
       exact this
      go_wp2
      go_ret
      exact⟨by rw[decide_eq_true HS.out];rfl,_,rfl⟩
 · have i0:((a.length:Int) != (b.length:Int))=true:=by simp;omega
   have HS:Hid (a≠b):=fun h=>hl (by rw[h])
   go_enter Tryz.func5,Tryz.ntmps5
   go_wp2
   go_ret
   exact⟨by rw[decide_eq_false HS.out];rfl,0,rfl⟩
end Go.Proofs.YthhijecpookfhaaGreatDoor
