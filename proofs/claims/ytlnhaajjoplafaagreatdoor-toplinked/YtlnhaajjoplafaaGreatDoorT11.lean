import Derived.Test.YtlnhaajjoplafaaGreatDoorT9
import Derived.WalkSpells
import Derived.Laws.IdiomStrings
import Derived.Laws.BytesArg
import Derived.Maps.AppendAt
import Derived.Test.YtlnhaajjoplafaaGreatDoorT2
import Derived.Test.YtlnhaajjoplafaaGreatDoorT8
import Derived.Test.YtlnhaajjoplafaaGreatDoorT10
import Derived.Laws.StructEq
import Derived.WalkKit
import Derived.OwnWalk
set_option linter.unusedVariables false
set_option maxHeartbeats 12000000
namespace Go.Proofs.YtlnhaajjoplafaaGreatDoor
open Go.RowKit
theorem Tryz.infoNode:(Tryz.prog.info? 47).map (fun i=>(i.zero,i.size,i.bytes))=some (some (.agg #[.int .i64 0,.int .i64 0,.string ⟨#[]⟩,.string ⟨#[]⟩]),4,48):=by kernel_rfl
def Typed (w:World)(b:Nat)(e:TypeId):Prop:=∃cur fr,w.heap[b]? =some (.cells cur e fr)
theorem Typed.ne {w:World}{a b:Nat}{e f:TypeId}(h:Typed w a e)(k:Typed w b f)(hne:e≠f):a≠b:=by
 rintro rfl
 obtain⟨_,_,h⟩:=h
 obtain⟨_,_,k⟩:=k
 rw[h]at k
 cases k
 exact hne rfl
theorem Typed.lt {w:World}{b:Nat}{e:TypeId}(h:Typed w b e):b<w.heap.size:=by
 obtain⟨_,_,h⟩:=h
 exact(Array.getElem?_eq_some_iff.1 h).1
structure Kept (base:Nat)(e:TypeId)(w w':World):Prop where
 bel:Below base w w'
 typed:∀b f,f≠e→Typed w b f→w'.heap[b]? =w.heap[b]?
theorem Kept.refl (base:Nat)(e:TypeId)(w:World):Kept base e w w:=⟨Below.refl _ _,fun _ _ _ _=>rfl⟩
theorem Kept.trans {base:Nat}{e:TypeId}{a b c:World}(h:Kept base e a b)(k:Kept base e b c):Kept base e a c:=by
 refine⟨h.bel.trans k.bel,fun x f hf ht=>?_⟩
 have h1:=h.typed x f hf ht
 obtain⟨cur,fr,hx⟩:=ht
 rw[k.typed x f hf ⟨cur,fr,h1.trans hx⟩,h1]
theorem Kept.of_below {base:Nat}{e:TypeId}{w w':World}(h:Below w.heap.size w w')(hb:base≤w.heap.size):Kept base e w w':=
 ⟨h.mono hb,fun b f _ ht=>h.block b ht.lt⟩
theorem Kept.is {base:Nat}{e f:TypeId}{w w':World}(h:Kept base e w w')(hf:f≠e){b:Nat}(ht:Typed w b f):Typed w' b f:=by
 have:=h.typed b f hf ht
 obtain⟨cur,fr,hx⟩:=ht
 exact⟨cur,fr,this.trans hx⟩
def NT (w:World)(base:Nat)(q:Option Addr)(L:List Nd):Prop:=NL w q L∧(L=[]∨∃b o,q=some ⟨b,o,none⟩∧(b<base∨Typed w b 47))
theorem NT.kept {w w':World}{base:Nat}{e:TypeId}{q:Option Addr}{L:List Nd}(h:NT w base q L)(k:Kept base e w w')(he:47≠e):NT w' base q L:=by
 obtain⟨h1,h2⟩:=h
 rcases h2 with rfl | ⟨b,o,rfl,hb⟩
 · exact⟨.inl rfl,.inl rfl⟩
 · have hblk:w'.heap[b]? =w.heap[b]? :=by
    rcases hb with hb | hb
    · exact k.bel.block b hb
    · exact k.typed b _ he hb
   refine⟨?_,.inr ⟨b,o,rfl,hb.imp id (fun ht=>k.is he ht)⟩⟩
   rcases h1 with h1 | ⟨b',o',h3,h4,h5⟩
   · exact .inl h1
   · cases h3
     refine .inr ⟨b,o,rfl,Nat.lt_of_lt_of_le h4 k.bel.size,fun i x hx=>?_⟩
     have hq:∀a,w'.cell? ⟨b,a,none⟩=w.cell? ⟨b,a,none⟩:=fun a=>World.cell?_of_block hblk
     simp only[hq]
     exact h5 i x hx
theorem NT.old {w:World}{base:Nat}{q:Option Addr}{L:List Nd}(h:NL w q L)(hb:base=w.heap.size):NT w base q L:=by
 refine⟨h,?_⟩
 rcases h with h | ⟨b,o,h1,h2,_⟩
 · exact .inl h
 · exact .inr ⟨b,o,h1,.inl (by omega)⟩
def Row1 (w:World)(base:Nat)(e:TypeId)(v:Value)(xs:List Value):Prop:=w.ownsRow base e 1 v xs.length xs
theorem Row1.nil (w:World)(base:Nat)(e:TypeId):Row1 w base e (.slice none 0 0) []:=World.ownsRow_nil _ _ _ _
theorem Row1.typed {w:World}{base:Nat}{e:TypeId}{v:Value}{xs:List Value}(h:Row1 w base e v xs):∀g,v.ownBlock=some g→base≤g∧Typed w g e:=by
 intro g hg
 rcases h.2 with⟨rfl,_⟩ | ⟨g',cap,cur,rfl,hb,hgg,_⟩
 · simp[Value.ownBlock]at hg
 · simp[Value.ownBlock]at hg
   subst hg
   exact⟨hb,cur,_,hgg⟩
theorem Row1.kept {w w':World}{base:Nat}{e f:TypeId}{v:Value}{xs:List Value}(h:Row1 w base f v xs)(k:Kept base e w w')(hf:f≠e):Row1 w' base f v xs:=by
 refine⟨h.1,?_⟩
 rcases h.2 with hn | ⟨g,cap,cur,rfl,hb,hgg,rest⟩
 · exact .inl hn
 · exact .inr ⟨g,cap,cur,rfl,hb,(k.typed g f hf ⟨cur,_,hgg⟩).trans hgg,rest⟩
theorem Row1.slice {w:World}{base:Nat}{e:TypeId}{v:Value}{xs:List Value}(h:Row1 w base e v xs):∃q c,v= .slice q xs.length c∧xs.length≤c∧c≤maxLen∧(xs=[]∨∃g,q=some ⟨g,0,none⟩∧Typed w g e∧base≤g∧∀i u,xs[i]? =some u→w.cell? ⟨g,i,none⟩=some u):=by
 have hc:=fun g hg=>World.ownsRow.cells h (g:=g) hg
 have ht:=h.typed
 rcases h.2 with⟨rfl,hn⟩ | ⟨g,cap,cur,rfl,hb,hgg,hle,hm,_⟩
 · obtain rfl:=List.eq_nil_of_length_eq_zero hn
   exact⟨none,0,rfl,Nat.le_refl _,Nat.zero_le _,.inl rfl⟩
 · refine⟨some ⟨g,0,none⟩,cap,rfl,hle,hm,.inr ⟨g,rfl,(ht g rfl).2,hb,fun i u hu=>?_⟩⟩
   have:=hc g rfl i u hu
   have hadd:(⟨g,0,none⟩:Addr).add i=⟨g,i,none⟩:=by unfold Addr.add;split<;>simp_all
   rw[hadd]at this
   exact this
theorem append_cell (w:World){ops:Array Oper}{rest:List Oper}{o:Oper}{a:Act}{Q:Exit→Act→World→Prop}(hgd:o.guard=none)(s x:Operand)(t e:TypeId)
 (ho:o.op= .call { callee:=.builtin .append,args:= #[s,x],argTypes:= #[t,t] }) (ht:Tryz.prog.underlying t=some (.slice e)) (z:Value) (bytes:Nat)
 (hinfo:(Tryz.prog.info? e).map (fun i=>(i.zero,i.size,i.bytes))=some (some z,1,bytes)) (hz:z.cells.size=1)
 (base:Nat) (v:Value) (xs:List Value) (hs:a.eval s=v) (hown:Row1 w base e v xs) (u:Value) (hu:u.oneCell'=true) (hx:a.eval x= .slice (some ⟨w.heap.size,0,none⟩) 1 1)
 (h63:xs.length+1≤maxLen) (hlen:(xs.length+1)*bytes≤140737488355328) (hbase:base≤w.heap.size)
 (h:∀v' w',Row1 w' base e v' (xs++[u])→Kept base e w w'→wpList Tryz.prog ops Q rest (a.put o.dst v') w'):wpList Tryz.prog ops Q (o::rest) a (w.alloc (.cells #[u] e)):=by
 obtain⟨i0,hi,hz0,hz1,hz2⟩:=info_parts hinfo
 have hown2:(w.alloc (.cells #[u] e)).ownsRow base e 1 v xs.length xs:=World.ownsRow.alloc hown _
 refine wpList_append_own _ hgd s x t ho base e i0 z 1 bytes ht hi hz0 hz1 hz2 hz (by decide) v xs.length xs hs hown2 ⟨w.heap.size,0,none⟩ 1 1 [u] hx rfl ?_ ?_ h63 hlen ?_ ?_
 · intro j y hj
   match j,hj with
   | 0,hj=>simp at hj;subst hj;simp[Addr.add]
 · intro y hy;simp at hy;subst hy;exact hu
 · simp;omega
 · intro v' w' h1 h2 _
   refine h v' w' (by unfold Row1;rw[List.length_append];exact h1) ?_
   refine⟨((Below.refl base w).alloc hbase (.cells #[u] e)).grown h2 (by simp;omega) (fun k hk=>(hown.typed k hk).1),fun b f hf hty=>?_⟩
   have hlt:=hty.lt
   rw[h2.block b (by simp;omega) (fun hb=>?_)]
   · exact Below.heap_alloc _ _ _ hlt
   · exact(hown.typed b hb.symm).2.ne hty (fun hh=>hf hh.symm) rfl
def ncells (L:List Nd):List Value:=L.flatMap fun x=>[.int .i64 x.op,.int .i64 x.n,.string x.s,.string x.t]
theorem ncells_length (L:List Nd):(ncells L).length=L.length*4:=by
 induction L with
 | nil=>rfl
 | cons x L ih=>simp[ncells]at *; omega
theorem ncells_at (L:List Nd)(i j:Nat)(hj:j<4):(ncells L)[i*4+j]? =(L[i]?).bind fun x=>[Value.int .i64 x.op,.int .i64 x.n,.string x.s,.string x.t][j]? :=by
 induction L generalizing i with
 | nil=>simp[ncells]
 | cons x L ih=>
   have e:ncells (x::L)=[.int .i64 x.op,.int .i64 x.n,.string x.s,.string x.t]++ncells L:=by simp[ncells]
   rw[e]
   cases i with
   | zero=>
     rw[List.getElem?_append_left (by simp;omega)]
     simp
   | succ i=>
     rw[List.getElem?_append_right (by simp;omega)]
     have:=ih i
     simp only[List.length_cons,List.length_nil,List.getElem?_cons_succ]
     rw[←this]
     congr 1;omega
theorem ncells_one (L:List Nd):∀u∈ncells L,u.oneCell'=true:=by
 intro u hu
 simp only[ncells,List.mem_flatMap]at hu
 obtain⟨x,_,hu⟩:=hu
 simp at hu
 rcases hu with rfl | rfl | rfl | rfl<;>rfl
theorem NL.cells {w:World}{b off:Nat}{L:List Nd}(h:NL w (some ⟨b,off,none⟩) L):∀j u,(ncells L)[j]? =some u→w.cell? ⟨b,off+j,none⟩=some u:=by
 intro j u hu
 rcases h with rfl | ⟨b',o',h1,h2,h3⟩
 · simp[ncells]at hu
 · cases h1
   have hj:j=(j / 4)*4+j % 4:=by omega
   rw[hj,ncells_at L (j / 4) (j % 4) (by omega)]at hu
   cases hx:L[j / 4]? with
   | none=>rw[hx]at hu;simp at hu
   | some x=>
     rw[hx]at hu
     obtain⟨c0,c1,c2,c3,_⟩:=h3 _ x hx
     have hm:j % 4=0∨j % 4=1∨j % 4=2∨j % 4=3:=by omega
     rw[hj]
     rcases hm with e | e | e | e<;>rw[e]at hu ⊢ <;>simp at hu<;>subst hu
     · exact c0
     · rw[←Nat.add_assoc];exact c1
     · rw[←Nat.add_assoc];exact c2
     · rw[←Nat.add_assoc];exact c3
theorem NL.of_row {w:World}{base:Nat}{v:Value}{L:List Nd}(hw:∀x∈L,x.wf)(h:w.ownsRow base 47 4 v L.length (ncells L)):∃q c,v= .slice q L.length c∧NT w 0 q L∧L.length≤c∧c≤maxLen:=by
 have hc:=fun g hg=>World.ownsRow.cells h (g:=g) hg
 rcases h.2 with⟨rfl,hn⟩ | ⟨g,cap,cur,rfl,hb,hgg,hle,hm,_⟩
 · obtain rfl:=List.eq_nil_of_length_eq_zero hn
   exact⟨none,0,rfl,⟨.inl rfl,.inl rfl⟩,Nat.le_refl _,Nat.zero_le _⟩
 · refine⟨_,cap,rfl,⟨.inr ⟨g,0,rfl,(Array.getElem?_eq_some_iff.1 hgg).1,fun i x hx=>?_⟩,.inr ⟨g,0,rfl,.inr ⟨cur,_,hgg⟩⟩⟩,hle,hm⟩
   have q:∀j,j<4→w.cell? ⟨g,i*4+j,none⟩=[Value.int .i64 x.op,.int .i64 x.n,.string x.s,.string x.t][j]? :=fun j hj=>by
    have e:=ncells_at L i j hj
    rw[hx]at e
    have hadd:(⟨g,0,none⟩:Addr).add (i*4+j)=⟨g,i*4+j,none⟩:=by unfold Addr.add;split<;>simp_all
    obtain⟨u,hu⟩:∃u,[Value.int .i64 x.op,.int .i64 x.n,.string x.s,.string x.t][j]? =some u:=⟨_,List.getElem?_eq_getElem (by simpa using hj)⟩
    have:=hc g rfl (i*4+j) u (by rw[e];exact hu)
    rw[hadd]at this
    rw[this,hu]
   refine⟨?_,?_,?_,?_,hw x (List.mem_of_getElem? hx)⟩
   · have:=q 0 (by omega);simpa using this
   · have:=q 1 (by omega);simpa using this
   · have:=q 2 (by omega);simpa using this
   · have:=q 3 (by omega);simpa using this
theorem NT.any {w:World}{base:Nat}{q:Option Addr}{L:List Nd}(h:NT w 0 q L):NT w base q L:=
 ⟨h.1,h.2.imp id fun⟨b,o,h1,h2⟩=>⟨b,o,h1,h2.elim (fun h=>absurd h (Nat.not_lt_zero _)) .inr⟩⟩
theorem NL.wfs {w:World}{q:Option Addr}{L:List Nd}(h:NL w q L):∀x∈L,x.wf:=by
 intro x hx
 obtain⟨i,hi⟩:=List.getElem?_of_mem hx
 rcases h with rfl | ⟨b,o,_,_,h3⟩
 · cases hx
 · exact(h3 i x hi).2.2.2.2
def ON (w:World)(base:Nat)(v:Value)(L:List Nd):Prop:=w.ownsRow base 47 4 v L.length (ncells L)∧∀x∈L,x.wf
theorem ON.slice {w:World}{base:Nat}{v:Value}{L:List Nd}(h:ON w base v L)(hne:L≠[]):∃g cap,v= .slice (some ⟨g,0,none⟩) L.length cap∧base≤g∧g<w.heap.size∧L.length≤cap∧cap≤maxLen∧NL w (some ⟨g,0,none⟩) L∧∀j,w.frozen? ⟨g,j,none⟩=false:=by
 rcases h.1.2 with⟨_,hn⟩ | ⟨g,cap,cur,hv,hb,hgg,hle,hm,_⟩
 · exact absurd (List.eq_nil_of_length_eq_zero hn) hne
 · obtain⟨q,c,e,hnt,_⟩:=NL.of_row h.2 h.1
   rw[hv]at e
   cases e
   refine⟨g,cap,hv,hb,(Array.getElem?_eq_some_iff.1 hgg).1,hle,hm,hnt.1,fun j=>?_⟩
   simp[World.frozen?, hgg]
theorem ncells_append (a b:List Nd):ncells (a++b)=ncells a++ncells b:=by simp[ncells]
theorem ON.typed {w:World}{base:Nat}{v:Value}{L:List Nd}(h:ON w base v L):∀g,v.ownBlock=some g→base≤g∧Typed w g 47:=by
 intro g hg
 rcases h.1.2 with⟨rfl,_⟩ | ⟨g',cap,cur,rfl,hb,hgg,_⟩
 · simp[Value.ownBlock]at hg
 · simp[Value.ownBlock]at hg
   subst hg
   exact⟨hb,cur,_,hgg⟩
theorem ON.below {w w':World}{base:Nat}{v:Value}{L:List Nd}(h:ON w base v L)(k:Below w.heap.size w w'):ON w' base v L:=by
 refine⟨⟨h.1.1,?_⟩,h.2⟩
 rcases h.1.2 with hn | ⟨g,cap,cur,rfl,hb,hgg,rest⟩
 · exact .inl hn
 · exact .inr ⟨g,cap,cur,rfl,hb,(k.block g (Array.getElem?_eq_some_iff.1 hgg).1).trans hgg,rest⟩
theorem append_nodes (w:World){ops:Array Oper}{rest:List Oper}{o:Oper}{a:Act}{Q:Exit→Act→World→Prop}(hgd:o.guard=none)(s x:Operand)
 (ho:o.op= .call { callee:=.builtin .append,args:= #[s,x],argTypes:= #[30,30] })
 (base:Nat) (v:Value) (L:List Nd) (hs:a.eval s=v) (hown:ON w base v L) (M:List Nd) (n:Nat) (hn:M.length=n) (b off c:Nat) (hN:NL w (some ⟨b,off,none⟩) M)
 (hx:a.eval x= .slice (some ⟨b,off,none⟩) n c) (hlen:L.length+M.length≤1099511627776) (hbase:base≤w.heap.size)
 (h:∀v' w',ON w' base v' (L++M)→Kept base 47 w w'→wpList Tryz.prog ops Q rest (a.put o.dst v') w'):wpList Tryz.prog ops Q (o::rest) a w:=by
 subst hn
 obtain⟨i0,hi,hz0,hz1,hz2⟩:=info_parts Tryz.infoNode
 refine wpList_append_own _ hgd s x 30 ho base 47 i0 _ 4 48 Tryz.underlying30 hi hz0 hz1 hz2 rfl (by decide) v L.length (ncells L) hs hown.1 ⟨b,off,none⟩ M.length c (ncells M) hx (ncells_length M) ?_ (ncells_one _) (by unfold maxLen;omega) (by omega) hbase ?_
 · intro j u hu
   have hadd:(⟨b,off,none⟩:Addr).add j=⟨b,off+j,none⟩:=by unfold Addr.add;split<;>simp_all
   rw[hadd];exact hN.cells j u hu
 · intro v' w' h1 h2 _
   refine h v' w' ⟨?_,fun x hx=>?_⟩ ⟨(Below.refl base w).grown h2 hbase (fun k hk=>(hown.typed k hk).1),fun bb f hf hty=>h2.block bb hty.lt (fun e=>(hown.typed bb e.symm).2.ne hty (fun hh=>hf hh.symm) rfl)⟩
   · rw[ncells_append,List.length_append];exact h1
   · rcases List.mem_append.1 hx with hx | hx
     · exact hown.2 x hx
     · exact hN.wfs x hx
set_option maxRecDepth 100000
def pcl (x:Nd)(v:Value):List Value:=[.int .i64 x.op,.int .i64 x.n,.string x.s,.string x.t,v]
def partV (x:Nd)(v:Value):Value:=.agg #[.int .i64 x.op,.int .i64 x.n,.string x.s,.string x.t,v]
structure Keep (S:Nat→Prop)(w w':World):Prop where
 os:w'.os=w.os
 tape:w'.tape=w.tape
 output:w'.output=w.output
 size:w.heap.size≤w'.heap.size
 block:∀a,a<w.heap.size→¬S a→w'.heap[a]? =w.heap[a]?
theorem Keep.of_below {S:Nat→Prop}{w w':World}(h:Below w.heap.size w w'):Keep S w w':=⟨h.os,h.tape,h.output,h.size,fun a ha _=>h.block a ha⟩
theorem Keep.below {S:Nat→Prop}{w w':World}(h:Keep S w w'){N:Nat}(hN:N≤w.heap.size)(hS:∀a,S a→N≤a):Below N w w':=⟨h.os,h.tape,h.output,h.size,fun a ha=>h.block a (by omega) (fun e=>by have:=hS a e;omega)⟩
theorem Keep.refl (S:Nat→Prop)(w:World):Keep S w w:=⟨rfl,rfl,rfl,Nat.le_refl _,fun _ _ _=>rfl⟩
theorem Keep.trans {S S2:Nat→Prop}{w w1 w2:World}(h:Keep S w w1)(k:Keep S2 w1 w2)(hs:∀a,S2 a→S a∨w.heap.size≤a):Keep S w w2:=
 ⟨k.os.trans h.os,k.tape.trans h.tape,k.output.trans h.output,Nat.le_trans h.size k.size,fun a ha hn=>(k.block a (Nat.lt_of_lt_of_le ha h.size) (fun e=>(hs a e).elim hn (by omega))).trans (h.block a ha hn)⟩
theorem Keep.mono {S S2:Nat→Prop}{w w1:World}(h:Keep S w w1)(hs:∀a,S a→S2 a):Keep S2 w w1:=⟨h.os,h.tape,h.output,h.size,fun a ha hn=>h.block a ha (fun e=>hn (hs a e))⟩
theorem Keep.cell {S:Nat→Prop}{w w':World}(h:Keep S w w'){p:Addr}(hl:p.block<w.heap.size)(hn:¬S p.block):w'.cell? p=w.cell? p:=World.cell?_of_block (h.block _ hl hn)
theorem ownP_lt {w:World}{base:Nat}{T:TypeId}{m:Nat}{v:Value}{n:Nat}{l:List Value}(h:w.ownsRow base T m v n l){g:Nat}(hg:v.ownBlock=some g):g<w.heap.size∧base≤g:=by
 rcases h.2 with⟨rfl,_⟩ | ⟨g',cap,cur,rfl,hb,hh,_⟩
 · simp[Value.ownBlock]at hg
 · simp only[Value.ownBlock,Option.some.injEq]at hg
   subst hg
   exact⟨(Array.getElem?_eq_some_iff.1 hh).1,hb⟩
theorem ownP_agree {w w':World}{base:Nat}{T:TypeId}{m:Nat}{v:Value}{n:Nat}{l:List Value}(h:w.ownsRow base T m v n l)(hw:∀g,v.ownBlock=some g→g<w.heap.size→w'.heap[g]? =w.heap[g]?):w'.ownsRow base T m v n l:=by
 refine⟨h.1,?_⟩
 rcases h.2 with h2 | ⟨g,cap,cur,rfl,hb,hh,r⟩
 · exact .inl h2
 · exact .inr ⟨g,cap,cur,rfl,hb,(hw g rfl (Array.getElem?_eq_some_iff.1 hh).1).trans hh,r⟩
theorem ownP_cell {w:World}{base:Nat}{T:TypeId}{m:Nat}{v:Value}{n:Nat}{l:List Value}(h:w.ownsRow base T m v n l){j:Nat}{u:Value}(hj:l[j]? =some u):∃g cap,v= .slice (some ⟨g,0,none⟩) n cap∧g<w.heap.size∧w.cell? ⟨g,j,none⟩=some u∧w.frozen? ⟨g,j,none⟩=false:=by
 rcases h.2 with⟨rfl,h0⟩ | ⟨g,cap,cur,rfl,hb,hh,_⟩
 · have:=h.1
   rw[h0,Nat.zero_mul]at this
   rw[List.eq_nil_of_length_eq_zero this]at hj
   simp at hj
 · have:=h.cells (g:=g) rfl j u hj
   rw[show(⟨g,0,none⟩:Addr).add j=⟨g,j,none⟩ by unfold Addr.add;split<;>simp_all]at this
   exact⟨g,cap,rfl,(Array.getElem?_eq_some_iff.1 hh).1,this,by simp[World.frozen?, hh]⟩
structure PC (w:World)(g o:Nat)(x:Nd)(u:Value):Prop where
 lt:g<w.heap.size
 cells:w.cell? ⟨g,o,none⟩=some (.int .i64 x.op)∧w.cell? ⟨g,o+1,none⟩=some (.int .i64 x.n)∧w.cell? ⟨g,o+2,none⟩=some (.string x.s)∧w.cell? ⟨g,o+3,none⟩=some (.string x.t)∧w.cell? ⟨g,o+4,none⟩=some u
theorem PC.bel {N:Nat}{w w':World}{g o:Nat}{x:Nd}{u:Value}(h:PC w g o x u)(k:Below N w w')(hl:g<N):PC w' g o x u:=by
 obtain⟨h0,h1,h2,h3,h4⟩:=h.cells
 exact⟨Nat.lt_of_lt_of_le h.lt k.size,(k.cell (p:=⟨g,o,none⟩) hl).trans h0,(k.cell (p:=⟨g,o+1,none⟩) hl).trans h1,(k.cell (p:=⟨g,o+2,none⟩) hl).trans h2,(k.cell (p:=⟨g,o+3,none⟩) hl).trans h3,(k.cell (p:=⟨g,o+4,none⟩) hl).trans h4⟩
theorem PC.up {w w':World}{g o:Nat}{x:Nd}{u:Value}(h:PC w g o x u)(k:Below w.heap.size w w'):PC w' g o x u:=h.bel k h.lt
theorem PC.keep {S:Nat→Prop}{w w':World}{g o:Nat}{x:Nd}{u:Value}(h:PC w g o x u)(k:Keep S w w')(hn:¬S g):PC w' g o x u:=by
 obtain⟨h0,h1,h2,h3,h4⟩:=h.cells
 exact⟨Nat.lt_of_lt_of_le h.lt k.size,(k.cell (p:=⟨g,o,none⟩) h.lt hn).trans h0,(k.cell (p:=⟨g,o+1,none⟩) h.lt hn).trans h1,(k.cell (p:=⟨g,o+2,none⟩) h.lt hn).trans h2,(k.cell (p:=⟨g,o+3,none⟩) h.lt hn).trans h3,(k.cell (p:=⟨g,o+4,none⟩) h.lt hn).trans h4⟩
theorem set_five {la lb:List Value}{b0 b1 b2 b3 b4:Value}(a0 a1 a2 a3 a4:Value){p:Nat}(hp:la.length=p):(((((la++([b0,b1,b2,b3,b4]++lb)).set p a0).set (p+1) a1).set (p+2) a2).set (p+3) a3).set (p+4) a4=la++([a0,a1,a2,a3,a4]++lb):=by
 subst hp
 induction la with
 | nil=>rfl
 | cons z la ih=>
   simp only[List.cons_append,List.length_cons,show ∀j,la.length+1+j=la.length+j+1 from fun j=>by omega,List.set_cons_succ]
   exact congrArg (z:: ·) ih
theorem keep_set (w:World)(g o:Nat)(z:Value):Keep (fun a=>a=g) w (w.setCell ⟨g,o,none⟩ z):=by
 have h:=(Below.refl 0 w).setCell (p:=⟨g,o,none⟩) (Nat.zero_le _) z
 exact⟨h.os,h.tape,h.output,h.size,fun a _ hne=>heap_setCell_other w ⟨g,o,none⟩ a z hne⟩
theorem own_put {w:World}{base:Nat}{T:TypeId}{v:Value}{n:Nat}{la lb:List Value}{x y:Nd}{u u2:Value}(h:w.ownsRow base T 5 v n (la++(pcl x u++lb))){g p:Nat}(hg:v.ownBlock=some g)(hp:la.length=p){w':World}
 (hw:w'=((((w.setCell ⟨g,p,none⟩ (.int .i64 y.op)).setCell ⟨g,p+1,none⟩ (.int .i64 y.n)).setCell ⟨g,p+2,none⟩ (.string y.s)).setCell ⟨g,p+3,none⟩ (.string y.t)).setCell ⟨g,p+4,none⟩ u2):
 w'.ownsRow base T 5 v n (la++(pcl y u2++lb))∧Keep (fun a=>a=g) w w':=by
 have hn:=h.1
 rcases h.2 with⟨rfl,h0⟩ | ⟨g',cap,cur,rfl,hb,hh,h1,h2,h3,h4⟩
 · simp[Value.ownBlock]at hg
 · simp only[Value.ownBlock,Option.some.injEq]at hg
   subst hg
   have e1:=heap_setCell_same w g' p _ _ (.int .i64 y.op) hh
   have e2:=heap_setCell_same _ g' (p+1) _ _ (.int .i64 y.n) e1
   have e3:=heap_setCell_same _ g' (p+2) _ _ (.string y.s) e2
   have e4:=heap_setCell_same _ g' (p+3) _ _ (.string y.t) e3
   have e5:=heap_setCell_same _ g' (p+4) _ _ u2 e4
   subst hw
   refine⟨⟨by rw[←hn];simp[pcl],.inr ⟨g',cap,_,rfl,hb,e5,h1,h2,by simp[h3],?_⟩⟩,?_⟩
   · simp only[Array.toList_setIfInBounds,List.take_set,h4]
     exact set_five _ _ _ _ _ hp
   · have q:∀(W:World) (o:Nat) (z:Value),Keep (fun a=>a=g') W (W.setCell ⟨g',o,none⟩ z):=fun W o z=>keep_set W g' o z
     have t:∀ {a b c:World},Keep (fun a=>a=g') a b→Keep (fun a=>a=g') b c→Keep (fun a=>a=g') a c:=fun h k=>h.trans k (fun _ e=>.inl e)
     exact t (t (t (t (q _ _ _) (q _ _ _)) (q _ _ _)) (q _ _ _)) (q _ _ _)
theorem ownP_slice {w:World}{base:Nat}{T:TypeId}{m:Nat}{v:Value}{n:Nat}{l:List Value}(h:w.ownsRow base T m v n l):∃q c,v= .slice q n c:=by
 rcases h.2 with⟨rfl,h0⟩ | ⟨g,cap,cur,rfl,_⟩
 · exact⟨none,0,by rw[h0]⟩
 · exact⟨_,_,rfl⟩
theorem fnew_at {w:World}{o:Array Value}{T:TypeId}{N:Nat}(h:N=w.heap.size):(w.alloc (.cells o T)).heap[N]? =some (.cells o T (0,0)):=by subst h;exact heap_alloc_new _ _
theorem ON.any {w:World}{base:Nat}{v:Value}{L:List Nd}(h:ON w base v L):∃q c,v= .slice q L.length c:=by
 rcases h.1.2 with⟨rfl,h0⟩ | ⟨g,cap,cur,rfl,_⟩
 · exact⟨none,0,by rw[h0]⟩
 · exact⟨_,_,rfl⟩
theorem kqt {a b c:World}(h:Below a.heap.size a b)(k:Below b.heap.size b c):Below a.heap.size a c:=h.trans (k.mono h.size)
theorem kqA {a b:World}(h:Below a.heap.size a b){o:Obj}:Below a.heap.size a (b.alloc o):=kqt h ((Below.refl _ _).alloc (Nat.le_refl _) o)
theorem kqD {a b:World}(h:Below a.heap.size a b):Below a.heap.size a b.drew:=⟨h.os,h.tape,h.output,h.size,h.block⟩
theorem kqx {a b:World}(h:Below a.heap.size a b:=by repeat (first | exact Below.refl _ _ | apply kqA | apply kqD)):Below a.heap.size a b:=h
def bare (x:Nd):Bool:=x.n == 0 && (x.s.data.toList.isEmpty && x.t.data.toList.isEmpty)
def justS (x:Nd):Bool:=x.n == 0 && x.t.data.toList.isEmpty
theorem tName_any (s:ByteArray)(w:World)(hs:s.size≤maxLen):
 Calls Tryz.prog 79 #[.string s] w fun e w'=>e= .returned (.bool (nfault s.data.toList == 0))∧w'=w:=by
 have HC:=fun w=>check_any s w hs
 cases h:(nfault s.data.toList == 0)
 · rw[eV_not (by simpa using h)]at HC
   go_enter Tryz.func79,Tryz.ntmps79
   go_wp2_with fail
   refine(HC _).mono ?_
   rintro e w1 ⟨rfl,rfl⟩
   go_wp2
   go_ret
   exact⟨rfl,rfl⟩
 · rw[eV_nil (by simpa using h)]at HC
   go_enter Tryz.func79,Tryz.ntmps79
   go_wp2_with fail
   refine(HC _).mono ?_
   rintro e w1 ⟨rfl,rfl⟩
   go_wp2
   go_ret
   exact⟨rfl,rfl⟩
theorem tText_any (s:ByteArray)(w:World)(hs:s.size≤maxLen):
 Calls Tryz.prog 80 #[.string s] w fun e w'=>e= .returned (.bool (textOk s.data.toList))∧Below w.heap.size w w':=by
 have HC:=fun w=>quoteN_any s w hs
 cases h:textOk s.data.toList
 · have hn:=tfault_not h
   rw[eV_not hn]at HC
   go_enter Tryz.func80,Tryz.ntmps80
   go_wp2_with fail
   refine(HC _).mono ?_
   rintro e w1 ⟨q,_,rfl,hb⟩
   go_wp2
   go_ret
   exact⟨rfl,hb⟩
 · have hn:=tfault_ok h
   rw[eV_nil hn]at HC
   go_enter Tryz.func80,Tryz.ntmps80
   go_wp2_with fail
   refine(HC _).mono ?_
   rintro e w1 ⟨q,_,rfl,hb⟩
   go_wp2
   go_ret
   exact⟨rfl,hb⟩
theorem hasNothing_any (x:Nd)(w:World):
 Calls Tryz.prog 78 #[x.val] w fun e w'=>e= .returned (.bool (bare x))∧Below w.heap.size w w':=by
 obtain⟨op,n,s,t⟩:=x
 unfold Nd.val
 have HL:Hid (∀o w',Below (w.alloc o).heap.size (w.alloc o) w'→Below w.heap.size w w'):=fun o w' h=>((Below.refl _ _).alloc (Nat.le_refl _) _).trans (h.mono (by simp))
 go_enter Tryz.func78,Tryz.ntmps78
 go_wp2
 all_goals
  go_ret
  refine⟨ret_bool ?_,HL.out _ _ (Below.refl _ _)⟩
  simp_all [bare,←ByteArray.toList_eq]
theorem hasJustS_any (x:Nd)(w:World):
 Calls Tryz.prog 76 #[x.val] w fun e w'=>e= .returned (.bool (justS x))∧Below w.heap.size w w':=by
 obtain⟨op,n,s,t⟩:=x
 unfold Nd.val
 have HL:Hid (∀o w',Below (w.alloc o).heap.size (w.alloc o) w'→Below w.heap.size w w'):=fun o w' h=>((Below.refl _ _).alloc (Nat.le_refl _) _).trans (h.mono (by simp))
 go_enter Tryz.func76,Tryz.ntmps76
 go_wp2
 all_goals
  go_ret
  refine⟨ret_bool ?_,HL.out _ _ (Below.refl _ _)⟩
  simp_all [justS,←ByteArray.toList_eq]
theorem isWord_any (s:ByteArray)(w:World):
 Calls Tryz.prog 115 #[.string s] w fun e w'=>e= .returned (.bool (rsv s.data.toList))∧w'=w:=by
 go_enter Tryz.func115,Tryz.ntmps115
 go_wp2
 all_goals
  go_ret
  refine⟨ret_bool ?_,rfl⟩
  simp_all [rsv,ByteArray.toList_eq]
theorem head_byte (s:ByteArray)(h:1≤s.size):(s.extract 0 1).data.toList=s.data.toList.take 1:=by simp
theorem tail_bytes (s:ByteArray):(s.extract 1 s.size).data.toList=s.data.toList.tail:=by
 simp[List.take_of_length_le]
theorem take_head {l:List UInt8}(c:UInt8):l.take 1=[c]↔l.head? =some c:=by cases l<;>simp
theorem hasPrefix_any (s:ByteArray)(w:World)(hs:s.size≤maxLen):
 Calls Tryz.prog 109 #[.string s,.string ⟨#[63]⟩] w fun e w'=>e= .returned (.bool (decide (s.data.toList.head? =some 63)))∧w'=w:=by
 unfold maxLen at hs
 have hl:s.data.toList.length=s.size:=by simp
 by_cases h1:1≤s.size
 · have h1':(1:Int)≤(s.size:Int):=by omega
   have HE:Hid (((s.extract 0 1).toList=[63])↔s.data.toList.head? =some 63):=by
    show(_↔_)
    rw[ByteArray.toList_eq,head_byte s h1,take_head]
   go_enter Tryz.func109,Tryz.ntmps109
   go_wp2
   go_ret
   refine⟨ret_bool ?_,rfl⟩
   rw[Bool.eq_iff_iff,beq_iff_eq,decide_eq_true_iff]
   exact HE.out
 · have h1':¬(1:Int)≤(s.size:Int):=by omega
   have HE:Hid (decide (s.data.toList.head? =some 63)=false):=by
    show _=_
    have:s.data.toList=[]:=List.eq_nil_of_length_eq_zero (by omega)
    rw[this];rfl
   go_enter Tryz.func109,Tryz.ntmps109
   go_wp2
   go_ret
   exact⟨ret_bool HE.out.symm,rfl⟩
def slotOf (s:ByteArray):ByteArray:=if s.data.toList.head? =some 63 then s.extract 1 s.size else s
theorem cutPrefix_yes (s:ByteArray)(w:World)(hs:s.size≤maxLen)(h:s.data.toList.head? =some 63):
 Calls Tryz.prog 114 #[.string s,.string ⟨#[63]⟩] w fun e w'=>e= .returned (.tuple #[.string (s.extract 1 s.size),.bool true])∧w'=w:=by
 have hl:s.data.toList.length=s.size:=by simp
 have h1:1≤s.size:=by
  cases e:s.data.toList with
  | nil=>rw[e]at h;cases h
  | cons a l=>rw[e]at hl;simp at hl;omega
 have h1':(1:Int)≤(s.size:Int):=by omega
 have HP:=fun w=>hasPrefix_any s w hs
 rw[decide_eq_true h]at HP
 unfold maxLen at hs
 have hin:Calls Tryz.prog 159 #[.string s,.string ⟨#[63]⟩] w fun e w'=>e= .returned (.tuple #[.string (s.extract 1 s.size),.bool true])∧w'=w:=by
  go_enter Tryz.func159,Tryz.ntmps159
  go_wp2_with fail
  refine(HP _).mono ?_
  rintro e w1 ⟨rfl,rfl⟩
  go_wp2
  go_ret2
  exact⟨rfl,rfl⟩
 go_enter Tryz.func114,Tryz.ntmps114
 go_wp2_with fail
 refine hin.mono ?_
 rintro e w1 ⟨rfl,rfl⟩
 go_wp2
 go_ret2
 exact⟨rfl,rfl⟩
theorem cutPrefix_no (s:ByteArray)(w:World)(hs:s.size≤maxLen)(h:s.data.toList.head? ≠some 63):
 Calls Tryz.prog 114 #[.string s,.string ⟨#[63]⟩] w fun e w'=>e= .returned (.tuple #[.string s,.bool false])∧w'=w:=by
 have HP:=fun w=>hasPrefix_any s w hs
 rw[decide_eq_false h]at HP
 have hin:Calls Tryz.prog 159 #[.string s,.string ⟨#[63]⟩] w fun e w'=>e= .returned (.tuple #[.string s,.bool false])∧w'=w:=by
  go_enter Tryz.func159,Tryz.ntmps159
  go_wp2_with fail
  refine(HP _).mono ?_
  rintro e w1 ⟨rfl,rfl⟩
  go_wp2
  go_ret2
  exact⟨rfl,rfl⟩
 go_enter Tryz.func114,Tryz.ntmps114
 go_wp2_with fail
 refine hin.mono ?_
 rintro e w1 ⟨rfl,rfl⟩
 go_wp2
 go_ret2
 exact⟨rfl,rfl⟩
theorem isVar_any (s:ByteArray)(w:World)(hs:s.size≤maxLen):
 Calls Tryz.prog 77 #[.string s] w fun e w'=>e= .returned (.bool (varOk s.data.toList))∧w'=w:=by
 by_cases h:s.data.toList.head? =some 63
 · have HV:Hid (varOk s.data.toList=(nfault (s.extract 1 s.size).data.toList == 0)):=by
    show _=_
    unfold varOk;rw[if_pos h,tail_bytes]
   have HN:=fun w=>tName_any (s.extract 1 s.size) w (Nat.le_trans (by simp) hs)
   have HP:=fun w=>cutPrefix_yes s w hs h
   clear h
   generalize s.extract 1 s.size=u at *
   go_enter Tryz.func77,Tryz.ntmps77
   go_wp2_with fail
   refine(HP _).mono ?_
   rintro e w1 ⟨rfl,rfl⟩
   go_wp2_with fail
   refine(HN _).mono ?_
   rintro e w1 ⟨rfl,rfl⟩
   go_wp2
   go_ret
   exact⟨ret_bool HV.out.symm,rfl⟩
 · have HV:Hid (varOk s.data.toList=(nfault s.data.toList == 0 && !rsv s.data.toList)):=by
    show _=_
    unfold varOk;rw[if_neg h]
   have HN:=fun w=>tName_any s w hs
   have HP:=fun w=>cutPrefix_no s w hs h
   have HW:=fun w=>isWord_any s w
   clear h
   generalize rsv s.data.toList=r at *
   cases hn:(nfault s.data.toList == 0)<;>rw[hn]at HN HV
   · go_enter Tryz.func77,Tryz.ntmps77
     go_wp2_with fail
     refine(HP _).mono ?_
     rintro e w1 ⟨rfl,rfl⟩
     go_wp2_with fail
     refine(HN _).mono ?_
     rintro e w1 ⟨rfl,rfl⟩
     go_wp2
     go_ret
     exact⟨ret_bool HV.out.symm,rfl⟩
   · go_enter Tryz.func77,Tryz.ntmps77
     go_wp2_with fail
     refine(HP _).mono ?_
     rintro e w1 ⟨rfl,rfl⟩
     go_wp2_with fail
     refine(HN _).mono ?_
     rintro e w1 ⟨rfl,rfl⟩
     go_wp2_with fail
     refine(HW _).mono ?_
     rintro e w1 ⟨rfl,rfl⟩
     go_wp2
     go_ret
     exact⟨ret_bool HV.out.symm,rfl⟩
theorem tField_any (x:Nd)(w:World)(hx:x.wf):
 Calls Tryz.prog 81 #[x.val] w fun e w'=>e= .returned (.bool (x.op == 7 && ndOk x))∧Below w.heap.size w w':=by
 have HJ:=fun w=>hasJustS_any x w
 have HN:=fun w=>tName_any x.s w hx.1
 have HB:Hid ((x.op == 7 && ndOk x)=(x.op == 7 && (justS x && (nfault x.s.data.toList == 0)))):=by
  show _=_
  by_cases h7:x.op=7
  · unfold ndOk justS;simp[h7]
  · have:(x.op == 7)=false:=by simpa using h7
    rw[this];rfl
 rw[HB.out]
 clear HB
 generalize hj:justS x=j at *
 generalize hn:(nfault x.s.data.toList == 0)=n at *
 clear hj hn
 obtain⟨op,m,s,t⟩:=x
 unfold Nd.val at *
 have HL:Hid (∀o w',Below (w.alloc o).heap.size (w.alloc o) w'→Below w.heap.size w w'):=fun o w' h=>((Below.refl _ _).alloc (Nat.le_refl _) _).trans (h.mono (by simp))
 simp only at *
 cases h7:(op == 7)
 · go_enter Tryz.func81,Tryz.ntmps81
   go_wp2
   go_ret
   exact⟨rfl,HL.out _ _ (Below.refl _ _)⟩
 · have hal:∀w',Below (w.alloc (.cells #[.int .i64 op,.int .i64 m,.string s,.string t] 47)).heap.size (w.alloc (.cells #[.int .i64 op,.int .i64 m,.string s,.string t] 47)) w'→w'.cell? ⟨w.heap.size,2,none⟩=some (.string s):=fun w' hb=>(hb.cell (p:=⟨w.heap.size,2,none⟩) (by simp)).trans (by simp[go_sem])
   have HAL:Hid (∀_,_):=hal
   clear hal
   cases j
   · go_enter Tryz.func81,Tryz.ntmps81
     go_wp2_with fail
     refine(HJ _).mono ?_
     rintro e w1 ⟨rfl,hb⟩
     go_wp2
     go_ret
     exact⟨rfl,HL.out _ _ hb⟩
   · go_enter Tryz.func81,Tryz.ntmps81
     go_wp2_with fail
     refine(HJ _).mono ?_
     rintro e w1 ⟨rfl,hb⟩
     have hc:=HAL.out _ hb
     go_wp2_with fail
     refine(HN _).mono ?_
     rintro e w2 ⟨rfl,rfl⟩
     go_wp2
     go_ret
     exact⟨rfl,HL.out _ _ hb⟩
def thrown:List PanicEntry:=[{ v:=.iface 70 (.int .i64 1),recovered:=false }]
theorem need_true (w:World):Calls Tryz.prog 74 #[.bool true] w fun e w'=>e= .returned (.tuple #[])∧w'=w:=by
 go_enter Tryz.func74,Tryz.ntmps74
 go_wp2
 go_end0
 exact⟨rfl,rfl⟩
theorem need_false (w:World):Calls Tryz.prog 74 #[.bool false] w fun e w'=>e= .panicked thrown∧w'=w:=by
 go_enter Tryz.func74,Tryz.ntmps74
 go_wp2
 exact⟨rfl,rfl,rfl⟩
theorem isText_any (s:ByteArray)(w:World)(hs:s.size≤maxLen):
 Calls Tryz.prog 158 #[.string s] w fun e w'=>e= .returned (.bool (textOk s.data.toList))∧Below w.heap.size w w':=by
 by_cases h:60<s.size
 · have HT:Hid (textOk s.data.toList=false):=by show _=_;unfold textOk;simp;intro hh;omega
   go_enter Tryz.func158,Tryz.ntmps158
   go_wp2_with fail
   refine(quote_full s _ hs h).mono ?_
   rintro e w1 ⟨rfl,rfl⟩
   go_wp2
   go_ret
   exact⟨ret_bool HT.out.symm,Below.refl _ _⟩
 · cases ho:s.data.toList.all okb
   · have HT:Hid (textOk s.data.toList=false):=by show _=_;unfold textOk;rw[ho];simp
     go_enter Tryz.func158,Tryz.ntmps158
     go_wp2_with fail
     refine(quote_short s _ (by omega)).mono ?_
     rintro e w1 ⟨rfl,hb⟩
     rw[qres_bad ho]
     go_wp2
     go_ret
     exact⟨ret_bool HT.out.symm,hb⟩
   · have HT:Hid (textOk s.data.toList=true):=by show _=_;unfold textOk;rw[ho];simp;omega
     go_enter Tryz.func158,Tryz.ntmps158
     go_wp2_with fail
     refine(quote_short s _ (by omega)).mono ?_
     rintro e w1 ⟨rfl,hb⟩
     rw[qres_ok ho]
     go_wp2
     go_ret
     exact⟨ret_bool HT.out.symm,hb⟩
theorem mayBe_any (x:Nd)(w:World)(hx:x.wf):
 Calls Tryz.prog 111 #[x.val] w fun e w'=>e= .returned (.bool (ndOk x))∧Below w.heap.size w w':=by
 obtain⟨op,n,s,t⟩:=x
 obtain⟨hs,ht,_⟩:=hx
 unfold Nd.val
 have hal:∀o w',Below (w.alloc o).heap.size (w.alloc o) w'→Below w.heap.size w w':=fun o w' h=>((Below.refl _ _).alloc (Nat.le_refl _) _).trans (h.mono (by simp))
 have HL:Hid (∀o w',Below (w.alloc o).heap.size (w.alloc o) w'→Below w.heap.size w w'):=hal
 clear hal
 by_cases h1:op=1
 · subst h1
   go_enter Tryz.func111,Tryz.ntmps111
   go_wp2
   all_goals
    go_ret
    refine⟨ret_bool ?_,HL.out _ _ (Below.refl _ _)⟩
    simp_all [ndOk,←ByteArray.toList_eq]
 by_cases h2:op=2
 · subst h2
   go_enter Tryz.func111,Tryz.ntmps111
   go_wp2
   all_goals
    go_ret
    refine⟨ret_bool ?_,HL.out _ _ (Below.refl _ _)⟩
    simp_all [ndOk,←ByteArray.toList_eq]
 by_cases h3:op=3
 · subst h3
   have HT:=fun w=>isText_any s w hs
   cases hT:textOk s.data.toList<;>rw[hT]at HT
   all_goals
    go_enter Tryz.func111,Tryz.ntmps111
    go_wp2_with (go_at_call 158;refine(HT _).mono ?_;rintro e w1 ⟨rfl,hb⟩)
    all_goals
     go_ret
     refine⟨ret_bool ?_,HL.out _ _ (by first | assumption | exact Below.refl _ _)⟩
     simp_all [ndOk,ByteArray.toList_eq]
 by_cases h4:op=4
 · subst h4
   have HT:=fun w=>isText_any t w ht
   have HC:=fun w=>check_any s w hs
   by_cases hn:nfault s.data.toList=0
   · rw[eV_nil hn]at HC
     cases hT:textOk t.data.toList<;>rw[hT]at HT
     all_goals
      go_enter Tryz.func111,Tryz.ntmps111
      go_wp2_with (first | (go_at_call 158;refine(HT _).mono ?_;rintro e w1 ⟨rfl,hb⟩) | (go_at_call 23;refine(HC _).mono ?_;rintro e w1 ⟨rfl,rfl⟩))
      all_goals
       go_ret
       refine⟨ret_bool ?_,HL.out _ _ (by first | assumption | exact Below.refl _ _)⟩
       simp_all [ndOk]
   · rw[eV_not hn]at HC
     go_enter Tryz.func111,Tryz.ntmps111
     go_wp2_with (first | (go_at_call 158;refine(HT _).mono ?_;rintro e w1 ⟨rfl,hb⟩) | (go_at_call 23;refine(HC _).mono ?_;rintro e w1 ⟨rfl,rfl⟩))
     all_goals
      go_ret
      refine⟨ret_bool ?_,HL.out _ _ (by first | assumption | exact Below.refl _ _)⟩
      simp_all [ndOk]
 by_cases h56:op=5∨op=6
 · rcases h56 with rfl | rfl
   all_goals
    go_enter Tryz.func111,Tryz.ntmps111
    go_wp2
    all_goals
     go_ret
     refine⟨ret_bool ?_,HL.out _ _ (Below.refl _ _)⟩
     simp_all [ndOk,←ByteArray.toList_eq]
 by_cases h7:op=7
 · subst h7
   have HC:=fun w=>check_any s w hs
   by_cases hn:nfault s.data.toList=0
   · rw[eV_nil hn]at HC
     go_enter Tryz.func111,Tryz.ntmps111
     go_wp2_with (go_at_call 23;refine(HC _).mono ?_;rintro e w1 ⟨rfl,rfl⟩)
     all_goals
      go_ret
      refine⟨ret_bool ?_,HL.out _ _ (Below.refl _ _)⟩
      simp_all [ndOk,ByteArray.toList_eq]
   · rw[eV_not hn]at HC
     go_enter Tryz.func111,Tryz.ntmps111
     go_wp2_with (go_at_call 23;refine(HC _).mono ?_;rintro e w1 ⟨rfl,rfl⟩)
     all_goals
      go_ret
      refine⟨ret_bool ?_,HL.out _ _ (Below.refl _ _)⟩
      simp_all [ndOk,ByteArray.toList_eq]
 · have j5:¬op=5:=fun h=>h56 (.inl h)
   have j6:¬op=6:=fun h=>h56 (.inr h)
   have e1:(op == 1)=false:=by simpa using h1
   have e2:(op == 2)=false:=by simpa using h2
   have e3:(op == 3)=false:=by simpa using h3
   have e4:(op == 4)=false:=by simpa using h4
   have e5:(op == 5)=false:=by simpa using j5
   have e6:(op == 6)=false:=by simpa using j6
   have e7:(op == 7)=false:=by simpa using h7
   have HN:Hid (ndOk ⟨op,n,s,t⟩=false):=by show _=_;simp[ndOk,h1,h2,h3,h4,j5,j6,h7]
   clear h1 h2 h3 h4 h56 j5 j6 h7
   go_enter Tryz.func111,Tryz.ntmps111
   go_wp2
   go_ret
   exact⟨ret_bool HN.out.symm,HL.out _ _ (Below.refl _ _)⟩
theorem Tryz.infoText:(Tryz.prog.info? 9).map (fun i=>(i.zero,i.size,i.bytes))=some (some (.string ⟨#[]⟩),1,16):=by kernel_rfl
def TL (w:World)(p:Option Addr)(ts:List ByteArray):Prop:=
 ts=[]∨∃b off,p=some ⟨b,off,none⟩∧b<w.heap.size∧∀i s,ts[i]? =some s→w.cell? ⟨b,off+i,none⟩=some (.string s)
theorem TL.up {w w':World}{p:Option Addr}{ts:List ByteArray}(h:TL w p ts)(k:Below w.heap.size w w'):TL w' p ts:=by
 rcases h with h | ⟨b,off,h1,h2,h3⟩
 · exact .inl h
 · exact .inr ⟨b,off,h1,Nat.lt_of_lt_of_le h2 k.size,fun i s hs=>(k.cell (p:=⟨b,off+i,none⟩) h2).trans (h3 i s hs)⟩
theorem TL.at {w:World}{p:Option Addr}{ts:List ByteArray}(h:TL w p ts){i:Nat}(hi:i<ts.length):∃b off,p=some ⟨b,off,none⟩∧b<w.heap.size∧w.cell? ⟨b,off+i,none⟩=some (.string ts[i]):=by
 rcases h with rfl | ⟨b,off,h1,h2,h3⟩
 · simp at hi
 · exact⟨b,off,h1,h2,h3 i _ (List.getElem?_eq_getElem hi)⟩
def OT (w:World)(base:Nat)(v:Value)(ts:List ByteArray):Prop:=Row1 w base 9 v (ts.map Value.string)
theorem OT.texts {w:World}{base:Nat}{v:Value}{ts:List ByteArray}(h:OT w base v ts):∃q c,v= .slice q ts.length c∧TL w q ts∧ts.length≤c∧c≤maxLen:=by
 obtain⟨q,c,e,h1,h2,h3⟩:=Row1.slice h
 rw[List.length_map]at e h1
 refine⟨q,c,e,?_,h1,h2⟩
 rcases h3 with h3 | ⟨g,e2,ht,_,hc⟩
 · exact .inl (by simpa using h3)
 · exact .inr ⟨g,0,e2,ht.lt,fun i s hs=>by rw[Nat.zero_add];exact hc i _ (by simp[hs])⟩
theorem append_text (w:World){ops:Array Oper}{rest:List Oper}{o:Oper}{a:Act}{Q:Exit→Act→World→Prop}(hgd:o.guard=none)(s x:Operand)
 (ho:o.op= .call { callee:=.builtin .append,args:= #[s,x],argTypes:= #[38,38] })
 (base:Nat) (v:Value) (ts:List ByteArray) (hs:a.eval s=v) (hown:OT w base v ts) (t:ByteArray)
 (hx:a.eval x= .slice (some ⟨w.heap.size,0,none⟩) 1 1) (hlen:ts.length+1≤1099511627776) (hbase:base≤w.heap.size)
 (h:∀v' w',OT w' base v' (ts++[t])→Kept base 9 w w'→wpList Tryz.prog ops Q rest (a.put o.dst v') w'):wpList Tryz.prog ops Q (o::rest) a (w.alloc (.cells #[.string t] 9)):=by
 refine append_cell w hgd s x 38 9 ho Tryz.underlying38 (.string ⟨#[]⟩) 16 Tryz.infoText rfl base v (ts.map Value.string) hs hown (.string t) rfl hx (by rw[List.length_map];unfold maxLen;omega) (by rw[List.length_map];omega) hbase ?_
 intro v' w' h1 k
 refine h v' w' ?_ k
 unfold OT;rw[List.map_append];exact h1
theorem Tryz.infoList:(Tryz.prog.info? 30).map (fun i=>(i.zero,i.size,i.bytes))=some (some (.slice none 0 0),1,24):=by kernel_rfl
def OL (w:World)(base:Nat)(v:Value)(vs:List (List Nd)):Prop:=
 ∃xs,Row1 w base 30 v xs∧xs.length=vs.length∧∀(i:Nat) u L,xs[i]? =some u→vs[i]? =some L→∃q c,u= .slice q L.length c∧NT w base q L∧L.length≤c∧c≤maxLen
theorem OL.nil (w:World)(base:Nat):OL w base (.slice none 0 0) []:=⟨[],Row1.nil _ _ _,rfl,fun i u L h=>by simp at h⟩
theorem OL.kept {w w':World}{base:Nat}{e:TypeId}{v:Value}{vs:List (List Nd)}(h:OL w base v vs)(k:Kept base e w w')(h1:30≠e)(h2:47≠e):OL w' base v vs:=by
 obtain⟨xs,hr,hl,he⟩:=h
 exact⟨xs,hr.kept k h1,hl,fun i u L hu hL=>by
  obtain⟨q,c,e1,e2,e3⟩:=he i u L hu hL
  exact⟨q,c,e1,e2.kept k h2,e3⟩⟩
theorem OL.below {w w':World}{base:Nat}{v:Value}{vs:List (List Nd)}(h:OL w base v vs)(k:Below w.heap.size w w')(hb:base≤w.heap.size):OL w' base v vs:=
 h.kept (e:=307) (Kept.of_below k hb) (by decide) (by decide)
theorem OL.lists {w:World}{base:Nat}{v:Value}{vs:List (List Nd)}(h:OL w base v vs):∃q c,v= .slice q vs.length c∧LL w q vs∧vs.length≤c∧c≤maxLen:=by
 obtain⟨xs,hr,hl,he⟩:=h
 obtain⟨q,c,rfl,h1,h2,h3⟩:=hr.slice
 refine⟨q,c,by rw[hl],?_,by omega,h2⟩
 rcases h3 with rfl | ⟨g,rfl,ht,_,hc⟩
 · exact .inl (List.eq_nil_of_length_eq_zero (by rw[←hl];rfl))
 · refine .inr ⟨g,0,rfl,ht.lt,fun i L hL=>?_⟩
   have hi:i<xs.length:=by rw[hl];exact(List.getElem?_eq_some_iff.1 hL).1
   obtain⟨q',c',e1,e2,e3⟩:=he i xs[i] L (List.getElem?_eq_getElem hi) hL
   refine⟨q',c',?_,e2.1,e3⟩
   rw[Nat.zero_add,←e1]
   exact hc i _ (List.getElem?_eq_getElem hi)
theorem append_list (w:World){ops:Array Oper}{rest:List Oper}{o:Oper}{a:Act}{Q:Exit→Act→World→Prop}(hgd:o.guard=none)(s x:Operand)
 (ho:o.op= .call { callee:=.builtin .append,args:= #[s,x],argTypes:= #[57,57] })
 (base:Nat) (v:Value) (vs:List (List Nd)) (hs:a.eval s=v) (hown:OL w base v vs) (L:List Nd) (q:Option Addr) (c:Nat) (hN:NT w base q L) (hlc:L.length≤c) (hcm:c≤maxLen)
 (hx:a.eval x= .slice (some ⟨w.heap.size,0,none⟩) 1 1) (hlen:vs.length+1≤1099511627776) (hbase:base≤w.heap.size)
 (h:∀v' w',OL w' base v' (vs++[L])→Kept base 30 w w'→wpList Tryz.prog ops Q rest (a.put o.dst v') w'):wpList Tryz.prog ops Q (o::rest) a (w.alloc (.cells #[.slice q L.length c] 30)):=by
 obtain⟨xs,hr,hl,he⟩:=hown
 refine append_cell w hgd s x 57 30 ho Tryz.underlying57 (.slice none 0 0) 24 Tryz.infoList rfl base v xs hs hr (.slice q L.length c) rfl hx (by unfold maxLen;omega) (by omega) hbase ?_
 intro v' w' h1 k
 refine h v' w' ⟨xs++[.slice q L.length c],h1,by simp[hl],fun i u L' hu hL'=>?_⟩ k
 by_cases hi:i<xs.length
 · rw[List.getElem?_append_left hi]at hu
   rw[List.getElem?_append_left (by omega)]at hL'
   obtain⟨q',c',e1,e2,e3⟩:=he i u L' hu hL'
   exact⟨q',c',e1,e2.kept k (by decide),e3⟩
 · have hi2:i=xs.length:=by
    have:=(List.getElem?_eq_some_iff.1 hu).1
    simp at this;omega
   subst hi2
   rw[List.getElem?_append_right (Nat.le_refl _)]at hu
   rw[List.getElem?_append_right (by omega),hl]at hL'
   simp at hu hL'
   subst hu hL'
   exact⟨q,c,rfl,hN.kept k (by decide),hlc,hcm⟩
theorem NL.lit (w:World)(L:List Nd)(cs:Array Value)(hw:∀x∈L,x.wf)(hc:cs.toList=ncells L)(hl:L.length≤1000):NL (w.alloc (.cells cs 47)) (some ⟨w.heap.size,0,none⟩) L:=by
 have hs:cs.size=L.length*4:=by rw[←ncells_length,←hc];simp
 obtain⟨q,c,e,h,_⟩:=NL.of_row (base:=0) (v:=.slice (some ⟨w.heap.size,0,none⟩) L.length L.length) hw (w:=w.alloc (.cells cs 47)) ⟨ncells_length L,.inr ⟨w.heap.size,L.length,cs,rfl,Nat.zero_le _,heap_alloc_new _ _,Nat.le_refl _,by unfold maxLen;omega,hs,by rw[hc,←ncells_length,List.take_length]⟩⟩
 cases e
 exact h.1
theorem ON.lit1 (w:World)(x:Nd)(hx:x.wf):ON (w.alloc (.cells #[.int .i64 x.op,.int .i64 x.n,.string x.s,.string x.t] 47)) w.heap.size (.slice (some ⟨w.heap.size,0,none⟩) 1 1) [x]:=
 ⟨⟨rfl,.inr ⟨w.heap.size,1,_,rfl,Nat.le_refl _,heap_alloc_new _ _,Nat.le_refl _,by unfold maxLen;omega,rfl,rfl⟩⟩,by simp[hx]⟩
theorem append_textS (w:World){ops:Array Oper}{rest:List Oper}{o:Oper}{a:Act}{Q:Exit→Act→World→Prop}(hgd:o.guard=none)(s x:Operand)
 (ho:o.op= .call { callee:=.builtin .append,args:= #[s,x],argTypes:= #[38,38] })
 (base:Nat) (v:Value) (ts:List ByteArray) (hs:a.eval s=v) (hown:OT w base v ts) (t:ByteArray)
 (hx:a.eval x= .slice (some ⟨w.heap.size,0,none⟩) 1 1) (hlen:ts.length+1≤1099511627776) (hbase:base≤w.heap.size)
 (h:∀v' w',OT w' base v' (ts++[t])→Below base w w'→(∀g,g<w.heap.size→v.ownBlock≠some g→w'.heap[g]? =w.heap[g]?)→(∀g,v'.ownBlock=some g→v.ownBlock=some g∨w.heap.size≤g)→wpList Tryz.prog ops Q rest (a.put o.dst v') w'):wpList Tryz.prog ops Q (o::rest) a (w.alloc (.cells #[.string t] 9)):=by
 obtain⟨i0,hi,hz0,hz1,hz2⟩:=info_parts Tryz.infoText
 have hown2:(w.alloc (.cells #[.string t] 9)).ownsRow base 9 1 v (ts.map Value.string).length (ts.map Value.string):=World.ownsRow.alloc hown _
 refine wpList_append_own_at _ hgd s x 38 ho base 9 i0 (.string ⟨#[]⟩) 1 16 Tryz.underlying38 hi hz0 hz1 hz2 rfl (by decide) v (ts.map Value.string).length (ts.map Value.string) hs hown2 ⟨w.heap.size,0,none⟩ 1 1 [.string t] hx rfl ?_ ?_ (by rw[List.length_map];unfold maxLen;omega) (by rw[List.length_map];omega) ?_ ?_
 · intro j y hj
   match j,hj with
   | 0,hj=>simp at hj;subst hj;simp[Addr.add]
 · intro y hy;simp at hy;subst hy;rfl
 · simp;omega
 · intro v' w' h1 h2 _ h3
   have hb0:Below base w (w.alloc (.cells #[.string t] 9)):=(Below.refl base w).alloc hbase _
   refine h v' w' ?_ (hb0.grown h2 (by simp;omega) (fun k hk=>(Row1.typed hown k hk).1)) (fun g hg hne=>?_) (fun g hg=>?_)
   · unfold OT Row1
     rw[List.map_append,List.length_append]
     exact h1
   · rw[h2.block g (by simp;omega) (fun e=>hne e.symm)]
     exact heap_alloc_old w _ hg
   · rcases h3 with h3 | h3
     · exact .inl (h3▸hg)
     · rw[h3]at hg
       cases hg
       exact .inr (by simp)
structure Tx3 (w:World)(base:Nat)(v1:Value)(l1:List ByteArray)(v2:Value)(l2:List ByteArray)(v3:Value)(l3:List ByteArray):Prop where
 o1:OT w base v1 l1
 o2:OT w base v2 l2
 o3:OT w base v3 l3
 d12:∀g,v1.ownBlock=some g→v2.ownBlock≠some g
 d13:∀g,v1.ownBlock=some g→v3.ownBlock≠some g
 d23:∀g,v2.ownBlock=some g→v3.ownBlock≠some g
theorem Tx3.nil (w:World)(base:Nat):Tx3 w base (.slice none 0 0) [] (.slice none 0 0) [] (.slice none 0 0) []:=
 ⟨Row1.nil _ _ _,Row1.nil _ _ _,Row1.nil _ _ _,(fun g h=>by cases h),(fun g h=>by cases h),fun g h=>by cases h⟩
theorem OT.keepW {w w':World}{base:Nat}{v:Value}{l:List ByteArray}(h:OT w base v l)(hk:∀g,v.ownBlock=some g→g<w.heap.size→w'.heap[g]? =w.heap[g]?):OT w' base v l:=ownP_agree h hk
theorem Tx3.up {w w':World}{base:Nat}{v1 v2 v3:Value}{l1 l2 l3:List ByteArray}(h:Tx3 w base v1 l1 v2 l2 v3 l3)(k:Below w.heap.size w w'):Tx3 w' base v1 l1 v2 l2 v3 l3:=
 ⟨h.o1.keepW (fun g _ hl=>k.block g hl),h.o2.keepW (fun g _ hl=>k.block g hl),h.o3.keepW (fun g _ hl=>k.block g hl),h.d12,h.d13,h.d23⟩
theorem Tx3.rot {w:World}{base:Nat}{v1 v2 v3:Value}{l1 l2 l3:List ByteArray}(h:Tx3 w base v1 l1 v2 l2 v3 l3):Tx3 w base v2 l2 v3 l3 v1 l1:=
 ⟨h.o2,h.o3,h.o1,h.d23,(fun g hg e=>h.d12 g e hg),fun g hg e=>h.d13 g e hg⟩
theorem Tx3.put {w w':World}{base:Nat}{v1 v2 v3 v':Value}{l1 l2 l3 l':List ByteArray}(h:Tx3 w base v1 l1 v2 l2 v3 l3)(ho:OT w' base v' l')(hk:∀g,g<w.heap.size→v1.ownBlock≠some g→w'.heap[g]? =w.heap[g]?)(hv:∀g,v'.ownBlock=some g→v1.ownBlock=some g∨w.heap.size≤g):Tx3 w' base v' l' v2 l2 v3 l3:=by
 have hl2:=fun g (hg:v2.ownBlock=some g)=>(Row1.typed h.o2 g hg).2.lt
 have hl3:=fun g (hg:v3.ownBlock=some g)=>(Row1.typed h.o3 g hg).2.lt
 refine⟨ho,h.o2.keepW (fun g hg hl=>hk g hl (fun e=>h.d12 g e hg)),h.o3.keepW (fun g hg hl=>hk g hl (fun e=>h.d13 g e hg)),fun g hg e=>?_,fun g hg e=>?_,h.d23⟩
 · rcases hv g hg with q | q
   · exact h.d12 g q e
   · have:=hl2 g e;omega
 · rcases hv g hg with q | q
   · exact h.d13 g q e
   · have:=hl3 g e;omega
end Go.Proofs.YtlnhaajjoplafaaGreatDoor
