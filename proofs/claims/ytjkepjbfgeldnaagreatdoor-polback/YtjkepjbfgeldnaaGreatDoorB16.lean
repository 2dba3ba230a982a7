import Derived.Test.YtjkepjbfgeldnaaGreatDoorB11
import Derived.WalkSpells
import Derived.Laws.IdiomStrings
import Derived.Laws.BytesArg
import Derived.Maps.AppendAt
import Derived.Test.YtjkepjbfgeldnaaGreatDoorB6
import Derived.Test.YtjkepjbfgeldnaaGreatDoorB15
import Derived.Test.YtjkepjbfgeldnaaGreatDoorB2
import Derived.StillTailTactics
import Derived.Deep.QuietTactic
import Derived.Maps.OwnSet
import Derived.Test.YtjkepjbfgeldnaaGreatDoorB10
import Derived.Test.YtjkepjbfgeldnaaGreatDoorB4
import Derived.Laws.StructEq
set_option linter.unusedVariables false
set_option maxHeartbeats 12000000
namespace Go.Proofs.YtjkepjbfgeldnaaGreatDoor
open Go.RowKit
theorem Tryz.infoNode:(Tryz.prog.info? 97).map (fun i=>(i.zero,i.size,i.bytes))=some (some (.agg #[.int .i64 0,.int .i64 0,.string ⟨#[]⟩,.string ⟨#[]⟩]),4,48):=by kernel_rfl
def Typed (w:World)(b:Nat)(e:TypeId):Prop:=∃cur fr,w.heap[b]? =some (.cells cur e fr)
theorem Typed.ne {w:World}{a b:Nat}{e f:TypeId}(h:Typed w a e)(k:Typed w b f)(hne:e≠f):a≠b:=by
 rintro rfl
 obtain⟨_,_,h⟩:=h
 obtain⟨_,_,k⟩:=k
 rw[h]at k
 cases k
 exact hne rfl
theorem Typed.lt {w:World}{b:Nat}{e:TypeId}(h:Typed w b e):b<w.heap.size:=by
 obtain⟨_,_,h⟩:=h
 exact(Array.getElem?_eq_some_iff.1 h).1
structure Kept (base:Nat)(e:TypeId)(w w':World):Prop where
 bel:Below base w w'
 typed:∀b f,f≠e→Typed w b f→w'.heap[b]? =w.heap[b]?
theorem Kept.refl (base:Nat)(e:TypeId)(w:World):Kept base e w w:=⟨Below.refl _ _,fun _ _ _ _=>rfl⟩
theorem Kept.trans {base:Nat}{e:TypeId}{a b c:World}(h:Kept base e a b)(k:Kept base e b c):Kept base e a c:=by
 refine⟨h.bel.trans k.bel,fun x f hf ht=>?_⟩
 have h1:=h.typed x f hf ht
 obtain⟨cur,fr,hx⟩:=ht
 rw[k.typed x f hf ⟨cur,fr,h1.trans hx⟩,h1]
theorem Kept.of_below {base:Nat}{e:TypeId}{w w':World}(h:Below w.heap.size w w')(hb:base≤w.heap.size):Kept base e w w':=
 ⟨h.mono hb,fun b f _ ht=>h.block b ht.lt⟩
theorem Kept.is {base:Nat}{e f:TypeId}{w w':World}(h:Kept base e w w')(hf:f≠e){b:Nat}(ht:Typed w b f):Typed w' b f:=by
 have:=h.typed b f hf ht
 obtain⟨cur,fr,hx⟩:=ht
 exact⟨cur,fr,this.trans hx⟩
def NT (w:World)(base:Nat)(q:Option Addr)(L:List Nd):Prop:=NL w q L∧(L=[]∨∃b o,q=some ⟨b,o,none⟩∧(b<base∨Typed w b 97))
theorem NT.kept {w w':World}{base:Nat}{e:TypeId}{q:Option Addr}{L:List Nd}(h:NT w base q L)(k:Kept base e w w')(he:97≠e):NT w' base q L:=by
 obtain⟨h1,h2⟩:=h
 rcases h2 with rfl | ⟨b,o,rfl,hb⟩
 · exact⟨.inl rfl,.inl rfl⟩
 · have hblk:w'.heap[b]? =w.heap[b]? :=by
    rcases hb with hb | hb
    · exact k.bel.block b hb
    · exact k.typed b _ he hb
   refine⟨?_,.inr ⟨b,o,rfl,hb.imp id (fun ht=>k.is he ht)⟩⟩
   rcases h1 with h1 | ⟨b',o',h3,h4,h5⟩
   · exact .inl h1
   · cases h3
     refine .inr ⟨b,o,rfl,Nat.lt_of_lt_of_le h4 k.bel.size,fun i x hx=>?_⟩
     have hq:∀a,w'.cell? ⟨b,a,none⟩=w.cell? ⟨b,a,none⟩:=fun a=>World.cell?_of_block hblk
     simp only[hq]
     exact h5 i x hx
theorem NT.old {w:World}{base:Nat}{q:Option Addr}{L:List Nd}(h:NL w q L)(hb:base=w.heap.size):NT w base q L:=by
 refine⟨h,?_⟩
 rcases h with h | ⟨b,o,h1,h2,_⟩
 · exact .inl h
 · exact .inr ⟨b,o,h1,.inl (by omega)⟩
def Row1 (w:World)(base:Nat)(e:TypeId)(v:Value)(xs:List Value):Prop:=w.ownsRow base e 1 v xs.length xs
theorem Row1.nil (w:World)(base:Nat)(e:TypeId):Row1 w base e (.slice none 0 0) []:=World.ownsRow_nil _ _ _ _
theorem Row1.typed {w:World}{base:Nat}{e:TypeId}{v:Value}{xs:List Value}(h:Row1 w base e v xs):∀g,v.ownBlock=some g→base≤g∧Typed w g e:=by
 intro g hg
 rcases h.2 with⟨rfl,_⟩ | ⟨g',cap,cur,rfl,hb,hgg,_⟩
 · simp[Value.ownBlock]at hg
 · simp[Value.ownBlock]at hg
   subst hg
   exact⟨hb,cur,_,hgg⟩
theorem Row1.kept {w w':World}{base:Nat}{e f:TypeId}{v:Value}{xs:List Value}(h:Row1 w base f v xs)(k:Kept base e w w')(hf:f≠e):Row1 w' base f v xs:=by
 refine⟨h.1,?_⟩
 rcases h.2 with hn | ⟨g,cap,cur,rfl,hb,hgg,rest⟩
 · exact .inl hn
 · exact .inr ⟨g,cap,cur,rfl,hb,(k.typed g f hf ⟨cur,_,hgg⟩).trans hgg,rest⟩
theorem Row1.slice {w:World}{base:Nat}{e:TypeId}{v:Value}{xs:List Value}(h:Row1 w base e v xs):∃q c,v= .slice q xs.length c∧xs.length≤c∧c≤maxLen∧(xs=[]∨∃g,q=some ⟨g,0,none⟩∧Typed w g e∧base≤g∧∀i u,xs[i]? =some u→w.cell? ⟨g,i,none⟩=some u):=by
 have hc:=fun g hg=>World.ownsRow.cells h (g:=g) hg
 have ht:=h.typed
 rcases h.2 with⟨rfl,hn⟩ | ⟨g,cap,cur,rfl,hb,hgg,hle,hm,_⟩
 · obtain rfl:=List.eq_nil_of_length_eq_zero hn
   exact⟨none,0,rfl,Nat.le_refl _,Nat.zero_le _,.inl rfl⟩
 · refine⟨some ⟨g,0,none⟩,cap,rfl,hle,hm,.inr ⟨g,rfl,(ht g rfl).2,hb,fun i u hu=>?_⟩⟩
   have:=hc g rfl i u hu
   have hadd:(⟨g,0,none⟩:Addr).add i=⟨g,i,none⟩:=by unfold Addr.add;split<;>simp_all
   rw[hadd]at this
   exact this
theorem append_cell (w:World){ops:Array Oper}{rest:List Oper}{o:Oper}{a:Act}{Q:Exit→Act→World→Prop}(hgd:o.guard=none)(s x:Operand)(t e:TypeId)
 (ho:o.op= .call { callee:=.builtin .append,args:= #[s,x],argTypes:= #[t,t] }) (ht:Tryz.prog.underlying t=some (.slice e)) (z:Value) (bytes:Nat)
 (hinfo:(Tryz.prog.info? e).map (fun i=>(i.zero,i.size,i.bytes))=some (some z,1,bytes)) (hz:z.cells.size=1)
 (base:Nat) (v:Value) (xs:List Value) (hs:a.eval s=v) (hown:Row1 w base e v xs) (u:Value) (hu:u.oneCell'=true) (hx:a.eval x= .slice (some ⟨w.heap.size,0,none⟩) 1 1)
 (h63:xs.length+1≤maxLen) (hlen:(xs.length+1)*bytes≤140737488355328) (hbase:base≤w.heap.size)
 (h:∀v' w',Row1 w' base e v' (xs++[u])→Kept base e w w'→wpList Tryz.prog ops Q rest (a.put o.dst v') w'):wpList Tryz.prog ops Q (o::rest) a (w.alloc (.cells #[u] e)):=by
 obtain⟨i0,hi,hz0,hz1,hz2⟩:=info_parts hinfo
 have hown2:(w.alloc (.cells #[u] e)).ownsRow base e 1 v xs.length xs:=World.ownsRow.alloc hown _
 refine wpList_append_own _ hgd s x t ho base e i0 z 1 bytes ht hi hz0 hz1 hz2 hz (by decide) v xs.length xs hs hown2 ⟨w.heap.size,0,none⟩ 1 1 [u] hx rfl ?_ ?_ h63 hlen ?_ ?_
 · intro j y hj
   match j,hj with
   | 0,hj=>simp at hj;subst hj;simp[Addr.add]
 · intro y hy;simp at hy;subst hy;exact hu
 · simp;omega
 · intro v' w' h1 h2 _
   refine h v' w' (by unfold Row1;rw[List.length_append];exact h1) ?_
   refine⟨((Below.refl base w).alloc hbase (.cells #[u] e)).grown h2 (by simp;omega) (fun k hk=>(hown.typed k hk).1),fun b f hf hty=>?_⟩
   have hlt:=hty.lt
   rw[h2.block b (by simp;omega) (fun hb=>?_)]
   · exact Below.heap_alloc _ _ _ hlt
   · exact(hown.typed b hb.symm).2.ne hty (fun hh=>hf hh.symm) rfl
def ncells (L:List Nd):List Value:=L.flatMap fun x=>[.int .i64 x.op,.int .i64 x.n,.string x.s,.string x.t]
theorem ncells_length (L:List Nd):(ncells L).length=L.length*4:=by
 induction L with
 | nil=>rfl
 | cons x L ih=>simp[ncells]at *; omega
theorem ncells_at (L:List Nd)(i j:Nat)(hj:j<4):(ncells L)[i*4+j]? =(L[i]?).bind fun x=>[Value.int .i64 x.op,.int .i64 x.n,.string x.s,.string x.t][j]? :=by
 induction L generalizing i with
 | nil=>simp[ncells]
 | cons x L ih=>
   have e:ncells (x::L)=[.int .i64 x.op,.int .i64 x.n,.string x.s,.string x.t]++ncells L:=by simp[ncells]
   rw[e]
   cases i with
   | zero=>
     rw[List.getElem?_append_left (by simp;omega)]
     simp
   | succ i=>
     rw[List.getElem?_append_right (by simp;omega)]
     have:=ih i
     simp only[List.length_cons,List.length_nil,List.getElem?_cons_succ]
     rw[←this]
     congr 1;omega
theorem ncells_one (L:List Nd):∀u∈ncells L,u.oneCell'=true:=by
 intro u hu
 simp only[ncells,List.mem_flatMap]at hu
 obtain⟨x,_,hu⟩:=hu
 simp at hu
 rcases hu with rfl | rfl | rfl | rfl<;>rfl
theorem NL.cells {w:World}{b off:Nat}{L:List Nd}(h:NL w (some ⟨b,off,none⟩) L):∀j u,(ncells L)[j]? =some u→w.cell? ⟨b,off+j,none⟩=some u:=by
 intro j u hu
 rcases h with rfl | ⟨b',o',h1,h2,h3⟩
 · simp[ncells]at hu
 · cases h1
   have hj:j=(j / 4)*4+j % 4:=by omega
   rw[hj,ncells_at L (j / 4) (j % 4) (by omega)]at hu
   cases hx:L[j / 4]? with
   | none=>rw[hx]at hu;simp at hu
   | some x=>
     rw[hx]at hu
     obtain⟨c0,c1,c2,c3,_⟩:=h3 _ x hx
     have hm:j % 4=0∨j % 4=1∨j % 4=2∨j % 4=3:=by omega
     rw[hj]
     rcases hm with e | e | e | e<;>rw[e]at hu ⊢ <;>simp at hu<;>subst hu
     · exact c0
     · rw[←Nat.add_assoc];exact c1
     · rw[←Nat.add_assoc];exact c2
     · rw[←Nat.add_assoc];exact c3
theorem NL.of_row {w:World}{base:Nat}{v:Value}{L:List Nd}(hw:∀x∈L,x.wf)(h:w.ownsRow base 97 4 v L.length (ncells L)):∃q c,v= .slice q L.length c∧NT w 0 q L∧L.length≤c∧c≤maxLen:=by
 have hc:=fun g hg=>World.ownsRow.cells h (g:=g) hg
 rcases h.2 with⟨rfl,hn⟩ | ⟨g,cap,cur,rfl,hb,hgg,hle,hm,_⟩
 · obtain rfl:=List.eq_nil_of_length_eq_zero hn
   exact⟨none,0,rfl,⟨.inl rfl,.inl rfl⟩,Nat.le_refl _,Nat.zero_le _⟩
 · refine⟨_,cap,rfl,⟨.inr ⟨g,0,rfl,(Array.getElem?_eq_some_iff.1 hgg).1,fun i x hx=>?_⟩,.inr ⟨g,0,rfl,.inr ⟨cur,_,hgg⟩⟩⟩,hle,hm⟩
   have q:∀j,j<4→w.cell? ⟨g,i*4+j,none⟩=[Value.int .i64 x.op,.int .i64 x.n,.string x.s,.string x.t][j]? :=fun j hj=>by
    have e:=ncells_at L i j hj
    rw[hx]at e
    have hadd:(⟨g,0,none⟩:Addr).add (i*4+j)=⟨g,i*4+j,none⟩:=by unfold Addr.add;split<;>simp_all
    obtain⟨u,hu⟩:∃u,[Value.int .i64 x.op,.int .i64 x.n,.string x.s,.string x.t][j]? =some u:=⟨_,List.getElem?_eq_getElem (by simpa using hj)⟩
    have:=hc g rfl (i*4+j) u (by rw[e];exact hu)
    rw[hadd]at this
    rw[this,hu]
   refine⟨?_,?_,?_,?_,hw x (List.mem_of_getElem? hx)⟩
   · have:=q 0 (by omega);simpa using this
   · have:=q 1 (by omega);simpa using this
   · have:=q 2 (by omega);simpa using this
   · have:=q 3 (by omega);simpa using this
theorem NT.any {w:World}{base:Nat}{q:Option Addr}{L:List Nd}(h:NT w 0 q L):NT w base q L:=
 ⟨h.1,h.2.imp id fun⟨b,o,h1,h2⟩=>⟨b,o,h1,h2.elim (fun h=>absurd h (Nat.not_lt_zero _)) .inr⟩⟩
theorem NL.wfs {w:World}{q:Option Addr}{L:List Nd}(h:NL w q L):∀x∈L,x.wf:=by
 intro x hx
 obtain⟨i,hi⟩:=List.getElem?_of_mem hx
 rcases h with rfl | ⟨b,o,_,_,h3⟩
 · cases hx
 · exact(h3 i x hi).2.2.2.2
def ON (w:World)(base:Nat)(v:Value)(L:List Nd):Prop:=w.ownsRow base 97 4 v L.length (ncells L)∧∀x∈L,x.wf
theorem ON.slice {w:World}{base:Nat}{v:Value}{L:List Nd}(h:ON w base v L)(hne:L≠[]):∃g cap,v= .slice (some ⟨g,0,none⟩) L.length cap∧base≤g∧g<w.heap.size∧L.length≤cap∧cap≤maxLen∧NL w (some ⟨g,0,none⟩) L∧∀j,w.frozen? ⟨g,j,none⟩=false:=by
 rcases h.1.2 with⟨_,hn⟩ | ⟨g,cap,cur,hv,hb,hgg,hle,hm,_⟩
 · exact absurd (List.eq_nil_of_length_eq_zero hn) hne
 · obtain⟨q,c,e,hnt,_⟩:=NL.of_row h.2 h.1
   rw[hv]at e
   cases e
   refine⟨g,cap,hv,hb,(Array.getElem?_eq_some_iff.1 hgg).1,hle,hm,hnt.1,fun j=>?_⟩
   simp[World.frozen?, hgg]
theorem ncells_append (a b:List Nd):ncells (a++b)=ncells a++ncells b:=by simp[ncells]
theorem ON.typed {w:World}{base:Nat}{v:Value}{L:List Nd}(h:ON w base v L):∀g,v.ownBlock=some g→base≤g∧Typed w g 97:=by
 intro g hg
 rcases h.1.2 with⟨rfl,_⟩ | ⟨g',cap,cur,rfl,hb,hgg,_⟩
 · simp[Value.ownBlock]at hg
 · simp[Value.ownBlock]at hg
   subst hg
   exact⟨hb,cur,_,hgg⟩
theorem ON.below {w w':World}{base:Nat}{v:Value}{L:List Nd}(h:ON w base v L)(k:Below w.heap.size w w'):ON w' base v L:=by
 refine⟨⟨h.1.1,?_⟩,h.2⟩
 rcases h.1.2 with hn | ⟨g,cap,cur,rfl,hb,hgg,rest⟩
 · exact .inl hn
 · exact .inr ⟨g,cap,cur,rfl,hb,(k.block g (Array.getElem?_eq_some_iff.1 hgg).1).trans hgg,rest⟩
theorem append_nodes (w:World){ops:Array Oper}{rest:List Oper}{o:Oper}{a:Act}{Q:Exit→Act→World→Prop}(hgd:o.guard=none)(s x:Operand)
 (ho:o.op= .call { callee:=.builtin .append,args:= #[s,x],argTypes:= #[59,59] })
 (base:Nat) (v:Value) (L:List Nd) (hs:a.eval s=v) (hown:ON w base v L) (M:List Nd) (n:Nat) (hn:M.length=n) (b off c:Nat) (hN:NL w (some ⟨b,off,none⟩) M)
 (hx:a.eval x= .slice (some ⟨b,off,none⟩) n c) (hlen:L.length+M.length≤1099511627776) (hbase:base≤w.heap.size)
 (h:∀v' w',ON w' base v' (L++M)→Kept base 97 w w'→wpList Tryz.prog ops Q rest (a.put o.dst v') w'):wpList Tryz.prog ops Q (o::rest) a w:=by
 subst hn
 obtain⟨i0,hi,hz0,hz1,hz2⟩:=info_parts Tryz.infoNode
 refine wpList_append_own _ hgd s x 59 ho base 97 i0 _ 4 48 Tryz.underlying59 hi hz0 hz1 hz2 rfl (by decide) v L.length (ncells L) hs hown.1 ⟨b,off,none⟩ M.length c (ncells M) hx (ncells_length M) ?_ (ncells_one _) (by unfold maxLen;omega) (by omega) hbase ?_
 · intro j u hu
   have hadd:(⟨b,off,none⟩:Addr).add j=⟨b,off+j,none⟩:=by unfold Addr.add;split<;>simp_all
   rw[hadd];exact hN.cells j u hu
 · intro v' w' h1 h2 _
   refine h v' w' ⟨?_,fun x hx=>?_⟩ ⟨(Below.refl base w).grown h2 hbase (fun k hk=>(hown.typed k hk).1),fun bb f hf hty=>h2.block bb hty.lt (fun e=>(hown.typed bb e.symm).2.ne hty (fun hh=>hf hh.symm) rfl)⟩
   · rw[ncells_append,List.length_append];exact h1
   · rcases List.mem_append.1 hx with hx | hx
     · exact hown.2 x hx
     · exact hN.wfs x hx
set_option maxRecDepth 100000
def pcl (x:Nd)(v:Value):List Value:=[.int .i64 x.op,.int .i64 x.n,.string x.s,.string x.t,v]
def partV (x:Nd)(v:Value):Value:=.agg #[.int .i64 x.op,.int .i64 x.n,.string x.s,.string x.t,v]
structure Keep (S:Nat→Prop)(w w':World):Prop where
 os:w'.os=w.os
 tape:w'.tape=w.tape
 output:w'.output=w.output
 size:w.heap.size≤w'.heap.size
 block:∀a,a<w.heap.size→¬S a→w'.heap[a]? =w.heap[a]?
theorem Keep.of_below {S:Nat→Prop}{w w':World}(h:Below w.heap.size w w'):Keep S w w':=⟨h.os,h.tape,h.output,h.size,fun a ha _=>h.block a ha⟩
theorem Keep.below {S:Nat→Prop}{w w':World}(h:Keep S w w'){N:Nat}(hN:N≤w.heap.size)(hS:∀a,S a→N≤a):Below N w w':=⟨h.os,h.tape,h.output,h.size,fun a ha=>h.block a (by omega) (fun e=>by have:=hS a e;omega)⟩
theorem Keep.refl (S:Nat→Prop)(w:World):Keep S w w:=⟨rfl,rfl,rfl,Nat.le_refl _,fun _ _ _=>rfl⟩
theorem Keep.trans {S S2:Nat→Prop}{w w1 w2:World}(h:Keep S w w1)(k:Keep S2 w1 w2)(hs:∀a,S2 a→S a∨w.heap.size≤a):Keep S w w2:=
 ⟨k.os.trans h.os,k.tape.trans h.tape,k.output.trans h.output,Nat.le_trans h.size k.size,fun a ha hn=>(k.block a (Nat.lt_of_lt_of_le ha h.size) (fun e=>(hs a e).elim hn (by omega))).trans (h.block a ha hn)⟩
theorem Keep.mono {S S2:Nat→Prop}{w w1:World}(h:Keep S w w1)(hs:∀a,S a→S2 a):Keep S2 w w1:=⟨h.os,h.tape,h.output,h.size,fun a ha hn=>h.block a ha (fun e=>hn (hs a e))⟩
theorem Keep.cell {S:Nat→Prop}{w w':World}(h:Keep S w w'){p:Addr}(hl:p.block<w.heap.size)(hn:¬S p.block):w'.cell? p=w.cell? p:=World.cell?_of_block (h.block _ hl hn)
theorem ownP_lt {w:World}{base:Nat}{T:TypeId}{m:Nat}{v:Value}{n:Nat}{l:List Value}(h:w.ownsRow base T m v n l){g:Nat}(hg:v.ownBlock=some g):g<w.heap.size∧base≤g:=by
 rcases h.2 with⟨rfl,_⟩ | ⟨g',cap,cur,rfl,hb,hh,_⟩
 · simp[Value.ownBlock]at hg
 · simp only[Value.ownBlock,Option.some.injEq]at hg
   subst hg
   exact⟨(Array.getElem?_eq_some_iff.1 hh).1,hb⟩
theorem ownP_agree {w w':World}{base:Nat}{T:TypeId}{m:Nat}{v:Value}{n:Nat}{l:List Value}(h:w.ownsRow base T m v n l)(hw:∀g,v.ownBlock=some g→g<w.heap.size→w'.heap[g]? =w.heap[g]?):w'.ownsRow base T m v n l:=by
 refine⟨h.1,?_⟩
 rcases h.2 with h2 | ⟨g,cap,cur,rfl,hb,hh,r⟩
 · exact .inl h2
 · exact .inr ⟨g,cap,cur,rfl,hb,(hw g rfl (Array.getElem?_eq_some_iff.1 hh).1).trans hh,r⟩
theorem ownP_cell {w:World}{base:Nat}{T:TypeId}{m:Nat}{v:Value}{n:Nat}{l:List Value}(h:w.ownsRow base T m v n l){j:Nat}{u:Value}(hj:l[j]? =some u):∃g cap,v= .slice (some ⟨g,0,none⟩) n cap∧g<w.heap.size∧w.cell? ⟨g,j,none⟩=some u∧w.frozen? ⟨g,j,none⟩=false:=by
 rcases h.2 with⟨rfl,h0⟩ | ⟨g,cap,cur,rfl,hb,hh,_⟩
 · have:=h.1
   rw[h0,Nat.zero_mul]at this
   rw[List.eq_nil_of_length_eq_zero this]at hj
   simp at hj
 · have:=h.cells (g:=g) rfl j u hj
   rw[show(⟨g,0,none⟩:Addr).add j=⟨g,j,none⟩ by unfold Addr.add;split<;>simp_all]at this
   exact⟨g,cap,rfl,(Array.getElem?_eq_some_iff.1 hh).1,this,by simp[World.frozen?, hh]⟩
structure PC (w:World)(g o:Nat)(x:Nd)(u:Value):Prop where
 lt:g<w.heap.size
 cells:w.cell? ⟨g,o,none⟩=some (.int .i64 x.op)∧w.cell? ⟨g,o+1,none⟩=some (.int .i64 x.n)∧w.cell? ⟨g,o+2,none⟩=some (.string x.s)∧w.cell? ⟨g,o+3,none⟩=some (.string x.t)∧w.cell? ⟨g,o+4,none⟩=some u
theorem PC.bel {N:Nat}{w w':World}{g o:Nat}{x:Nd}{u:Value}(h:PC w g o x u)(k:Below N w w')(hl:g<N):PC w' g o x u:=by
 obtain⟨h0,h1,h2,h3,h4⟩:=h.cells
 exact⟨Nat.lt_of_lt_of_le h.lt k.size,(k.cell (p:=⟨g,o,none⟩) hl).trans h0,(k.cell (p:=⟨g,o+1,none⟩) hl).trans h1,(k.cell (p:=⟨g,o+2,none⟩) hl).trans h2,(k.cell (p:=⟨g,o+3,none⟩) hl).trans h3,(k.cell (p:=⟨g,o+4,none⟩) hl).trans h4⟩
theorem PC.up {w w':World}{g o:Nat}{x:Nd}{u:Value}(h:PC w g o x u)(k:Below w.heap.size w w'):PC w' g o x u:=h.bel k h.lt
theorem PC.keep {S:Nat→Prop}{w w':World}{g o:Nat}{x:Nd}{u:Value}(h:PC w g o x u)(k:Keep S w w')(hn:¬S g):PC w' g o x u:=by
 obtain⟨h0,h1,h2,h3,h4⟩:=h.cells
 exact⟨Nat.lt_of_lt_of_le h.lt k.size,(k.cell (p:=⟨g,o,none⟩) h.lt hn).trans h0,(k.cell (p:=⟨g,o+1,none⟩) h.lt hn).trans h1,(k.cell (p:=⟨g,o+2,none⟩) h.lt hn).trans h2,(k.cell (p:=⟨g,o+3,none⟩) h.lt hn).trans h3,(k.cell (p:=⟨g,o+4,none⟩) h.lt hn).trans h4⟩
theorem set_five {la lb:List Value}{b0 b1 b2 b3 b4:Value}(a0 a1 a2 a3 a4:Value){p:Nat}(hp:la.length=p):(((((la++([b0,b1,b2,b3,b4]++lb)).set p a0).set (p+1) a1).set (p+2) a2).set (p+3) a3).set (p+4) a4=la++([a0,a1,a2,a3,a4]++lb):=by
 subst hp
 induction la with
 | nil=>rfl
 | cons z la ih=>
   simp only[List.cons_append,List.length_cons,show ∀j,la.length+1+j=la.length+j+1 from fun j=>by omega,List.set_cons_succ]
   exact congrArg (z:: ·) ih
theorem keep_set (w:World)(g o:Nat)(z:Value):Keep (fun a=>a=g) w (w.setCell ⟨g,o,none⟩ z):=by
 have h:=(Below.refl 0 w).setCell (p:=⟨g,o,none⟩) (Nat.zero_le _) z
 exact⟨h.os,h.tape,h.output,h.size,fun a _ hne=>heap_setCell_other w ⟨g,o,none⟩ a z hne⟩
theorem own_put {w:World}{base:Nat}{T:TypeId}{v:Value}{n:Nat}{la lb:List Value}{x y:Nd}{u u2:Value}(h:w.ownsRow base T 5 v n (la++(pcl x u++lb))){g p:Nat}(hg:v.ownBlock=some g)(hp:la.length=p){w':World}
 (hw:w'=((((w.setCell ⟨g,p,none⟩ (.int .i64 y.op)).setCell ⟨g,p+1,none⟩ (.int .i64 y.n)).setCell ⟨g,p+2,none⟩ (.string y.s)).setCell ⟨g,p+3,none⟩ (.string y.t)).setCell ⟨g,p+4,none⟩ u2):
 w'.ownsRow base T 5 v n (la++(pcl y u2++lb))∧Keep (fun a=>a=g) w w':=by
 have hn:=h.1
 rcases h.2 with⟨rfl,h0⟩ | ⟨g',cap,cur,rfl,hb,hh,h1,h2,h3,h4⟩
 · simp[Value.ownBlock]at hg
 · simp only[Value.ownBlock,Option.some.injEq]at hg
   subst hg
   have e1:=heap_setCell_same w g' p _ _ (.int .i64 y.op) hh
   have e2:=heap_setCell_same _ g' (p+1) _ _ (.int .i64 y.n) e1
   have e3:=heap_setCell_same _ g' (p+2) _ _ (.string y.s) e2
   have e4:=heap_setCell_same _ g' (p+3) _ _ (.string y.t) e3
   have e5:=heap_setCell_same _ g' (p+4) _ _ u2 e4
   subst hw
   refine⟨⟨by rw[←hn];simp[pcl],.inr ⟨g',cap,_,rfl,hb,e5,h1,h2,by simp[h3],?_⟩⟩,?_⟩
   · simp only[Array.toList_setIfInBounds,List.take_set,h4]
     exact set_five _ _ _ _ _ hp
   · have q:∀(W:World) (o:Nat) (z:Value),Keep (fun a=>a=g') W (W.setCell ⟨g',o,none⟩ z):=fun W o z=>keep_set W g' o z
     have t:∀ {a b c:World},Keep (fun a=>a=g') a b→Keep (fun a=>a=g') b c→Keep (fun a=>a=g') a c:=fun h k=>h.trans k (fun _ e=>.inl e)
     exact t (t (t (t (q _ _ _) (q _ _ _)) (q _ _ _)) (q _ _ _)) (q _ _ _)
theorem ownP_slice {w:World}{base:Nat}{T:TypeId}{m:Nat}{v:Value}{n:Nat}{l:List Value}(h:w.ownsRow base T m v n l):∃q c,v= .slice q n c:=by
 rcases h.2 with⟨rfl,h0⟩ | ⟨g,cap,cur,rfl,_⟩
 · exact⟨none,0,by rw[h0]⟩
 · exact⟨_,_,rfl⟩
theorem fnew_at {w:World}{o:Array Value}{T:TypeId}{N:Nat}(h:N=w.heap.size):(w.alloc (.cells o T)).heap[N]? =some (.cells o T (0,0)):=by subst h;exact heap_alloc_new _ _
theorem ON.any {w:World}{base:Nat}{v:Value}{L:List Nd}(h:ON w base v L):∃q c,v= .slice q L.length c:=by
 rcases h.1.2 with⟨rfl,h0⟩ | ⟨g,cap,cur,rfl,_⟩
 · exact⟨none,0,by rw[h0]⟩
 · exact⟨_,_,rfl⟩
theorem kqt {a b c:World}(h:Below a.heap.size a b)(k:Below b.heap.size b c):Below a.heap.size a c:=h.trans (k.mono h.size)
theorem kqA {a b:World}(h:Below a.heap.size a b){o:Obj}:Below a.heap.size a (b.alloc o):=kqt h ((Below.refl _ _).alloc (Nat.le_refl _) o)
theorem kqD {a b:World}(h:Below a.heap.size a b):Below a.heap.size a b.drew:=⟨h.os,h.tape,h.output,h.size,h.block⟩
theorem kqx {a b:World}(h:Below a.heap.size a b:=by repeat (first | exact Below.refl _ _ | apply kqA | apply kqD)):Below a.heap.size a b:=h
structure BX (B:Nat)(w w':World):Prop where
 os:w'.os=w.os
 tape:w'.tape=w.tape
 output:w'.output=w.output
 size:w.heap.size≤w'.heap.size
 block:∀k,k<w.heap.size→k≠B→w'.heap[k]? =w.heap[k]?
theorem BX.refl (B:Nat)(w:World):BX B w w:=⟨rfl,rfl,rfl,Nat.le_refl _,fun _ _ _=>rfl⟩
theorem BX.trans {B:Nat}{a b c:World}(h:BX B a b)(k:BX B b c):BX B a c:=
 ⟨k.os.trans h.os,k.tape.trans h.tape,k.output.trans h.output,Nat.le_trans h.size k.size,fun i hi hn=>(k.block i (Nat.lt_of_lt_of_le hi h.size) hn).trans (h.block i hi hn)⟩
theorem BX.of_below {B:Nat}{w w':World}(h:Below w.heap.size w w'):BX B w w':=⟨h.os,h.tape,h.output,h.size,fun i hi _=>h.block i hi⟩
theorem BX.up {B:Nat}{a w w':World}(h:BX B a w)(k:Below w.heap.size w w'):BX B a w':=h.trans (BX.of_below k)
theorem BX.set {B:Nat}{a w:World}(h:BX B a w)(i:Nat)(v:Value):BX B a (w.setCell ⟨B,i,none⟩ v):=
 h.trans ⟨rfl,rfl,rfl,by simp,fun k _ hn=>Below.heap_setCell w ⟨B,i,none⟩ v k hn⟩
theorem BX.cell {B:Nat}{w w':World}(h:BX B w w'){p:Addr}(hp:p.block<w.heap.size)(hn:p.block≠B):w'.cell? p=w.cell? p:=by
 unfold World.cell?; rw[h.block p.block hp hn]
theorem BX.below {B N:Nat}{w w':World}(h:BX B w w')(hN:N≤B)(hB:B<w.heap.size):Below N w w':=
 ⟨h.os,h.tape,h.output,h.size,fun k hk=>h.block k (by omega) (by omega)⟩
def ErrIn (w:World):Prop:=∃ev,w.cell? ⟨8,0,none⟩=some ev∧(ev= .nilIface∨∃te pe,ev= .iface te pe)
structure RS (w:World)(B:Nat)(p:Option Addr)(c:Nat)(ts:List Tk)(k:Nat):Prop where
 blk:w.heap[B]? =some (.cells #[.slice p ts.length c,.int .i64 (k:Int)] 170 (0,0))
 tk:TKL w p ts
 ne:ts=[]∨∀a,p=some a→a.block≠B
 le:k≤ts.length
 len:ts.length≤300
 all:AllS ts
 er:ErrIn w
 ge:8<B
theorem RS.lt {w:World}{B:Nat}{p:Option Addr}{c:Nat}{ts:List Tk}{k:Nat}(h:RS w B p c ts k):B<w.heap.size:=(Array.getElem?_eq_some_iff.1 h.blk).1
theorem RS.c0 {w:World}{B:Nat}{p:Option Addr}{c:Nat}{ts:List Tk}{k:Nat}(h:RS w B p c ts k):w.cell? ⟨B,0,none⟩=some (.slice p ts.length c):=by
 simp[World.cell?, h.blk]
theorem RS.c1 {w:World}{B:Nat}{p:Option Addr}{c:Nat}{ts:List Tk}{k:Nat}(h:RS w B p c ts k):w.cell? ⟨B,1,none⟩=some (.int .i64 (k:Int)):=by
 simp[World.cell?, h.blk]
theorem RS.fz {w:World}{B:Nat}{p:Option Addr}{c:Nat}{ts:List Tk}{k:Nat}(h:RS w B p c ts k):w.frozen? ⟨B,1,none⟩=false:=by
 simp[World.frozen?, h.blk]
theorem TKL.bx {B:Nat}{w w':World}{p:Option Addr}{L:List Tk}(h:TKL w p L)(hn:L=[]∨∀a,p=some a→a.block≠B)(k:BX B w w'):TKL w' p L:=by
 rcases hn with hn | hn
 · exact .inl hn
 rcases h with h | ⟨b,off,h1,h2,h3⟩
 · exact .inl h
 · refine .inr ⟨b,off,h1,Nat.lt_of_lt_of_le h2 k.size,fun i x hx=>?_⟩
   have q:∀o,w'.cell? ⟨b,o,none⟩=w.cell? ⟨b,o,none⟩:=fun o=>k.cell (p:=⟨b,o,none⟩) h2 (hn ⟨b,off,none⟩ h1)
   simp only[q]
   exact h3 i x hx
theorem ErrIn.bx {B:Nat}{w w':World}(h:ErrIn w)(hB:8<B)(k:BX B w w')(hlt:B<w.heap.size):ErrIn w':=by
 obtain⟨ev,h1,h2⟩:=h
 exact⟨ev,(k.cell (p:=⟨8,0,none⟩) (by show 8<_;omega) (by show 8≠_;omega)).trans h1,h2⟩
theorem RS.next {w w':World}{B:Nat}{p:Option Addr}{c:Nat}{ts:List Tk}{k k':Nat}(h:RS w B p c ts k)(hx:BX B w w')(hk:k'≤ts.length)
 (hb:w'.heap[B]? =some (.cells #[.slice p ts.length c,.int .i64 (k':Int)] 170 (0,0))):RS w' B p c ts k':=
 ⟨hb,h.tk.bx h.ne hx,h.ne,hk,h.len,h.all,h.er.bx h.ge hx h.lt,h.ge⟩
theorem RS.up {w w':World}{B:Nat}{p:Option Addr}{c:Nat}{ts:List Tk}{k:Nat}(h:RS w B p c ts k)(hb:Below w.heap.size w w'):RS w' B p c ts k:=
 h.next (BX.of_below hb) h.le ((hb.block B h.lt).trans h.blk)
theorem RS.set {w:World}{B:Nat}{p:Option Addr}{c:Nat}{ts:List Tk}{k k':Nat}(h:RS w B p c ts k)(hk:k'≤ts.length):RS (w.setCell ⟨B,1,none⟩ (.int .i64 (k':Int))) B p c ts k':=
 h.next ((BX.refl B w).set 1 _) hk (heap_setCell_same w B 1 _ _ _ h.blk)
theorem NT.bx {w w':World}{B:Nat}{p:Option Addr}{c:Nat}{ts:List Tk}{k:Nat}{q:Option Addr}{L:List Nd}(hr:RS w B p c ts k)(h:NT w 0 q L)(hx:BX B w w'):NT w' 0 q L:=by
 obtain⟨h1,h2⟩:=h
 rcases h2 with h2 | ⟨b,o,h2,h3⟩
 · exact⟨.inl h2,.inl h2⟩
 · rcases h3 with h3 | h3
   · omega
   · have hne:b≠B:=by
      intro e;subst e
      obtain⟨cur,fr,hh⟩:=h3
      rw[hr.blk]at hh
      injection hh with hh
      injection hh with _ hh _
      exact absurd hh (by decide)
     have hlt:=h3.lt
     refine⟨?_,.inr ⟨b,o,h2,.inr ?_⟩⟩
     · rcases h1 with h1 | ⟨b',o',e,h4,h5⟩
       · exact .inl h1
       · rw[h2]at e;cases e
         refine .inr ⟨b,o,h2,Nat.lt_of_lt_of_le hlt hx.size,fun i x hi=>?_⟩
         have q:∀o,w'.cell? ⟨b,o,none⟩=w.cell? ⟨b,o,none⟩:=fun o=>hx.cell (p:=⟨b,o,none⟩) hlt hne
         simp only[q]
         exact h5 i x hi
     · obtain⟨cur,fr,hh⟩:=h3
       exact⟨cur,fr,(hx.block b hlt hne).trans hh⟩
def thrownP (n:Int):List PanicEntry:=[{ v:=.iface 172 (.agg #[.iface 41 (.int .i64 n)]),recovered:=false }]
def EndP (B:Nat)(p:Option Addr)(c:Nat)(ts:List Tk)(w:World)(res:PRes)(e:Ending)(w':World):Prop:=
 match res with
 | .ok x=>(∃q cc,e= .returned (.slice q x.1.length cc)∧NT w' 0 q x.1∧x.1.length≤cc∧cc≤maxLen)∧RS w' B p c ts (ts.length-x.2.length)∧BX B w w'
 | .error y=>e= .panicked (thrownP y.2)∧RS w' B p c ts (ts.length-y.1)∧BX B w w'
theorem drop_cons {ts r:List Tk}{t:Tk}{k:Nat}(h:ts.drop k=t::r):ts.drop (k+1)=r∧k<ts.length∧ts.length-r.length=k+1:=by
 have hl:=congrArg List.length h
 rw[List.length_drop,List.length_cons]at hl
 refine⟨?_,by omega,by omega⟩
 have:=congrArg List.tail h
 rwa [List.tail_drop,List.tail_cons]at this
theorem drop_suffix {ts a r:List Tk}{k:Nat}(h:ts.drop k=a++r):ts.drop (ts.length-r.length)=r:=by
 have hs:ts=(ts.take k++a)++r:=by rw[List.append_assoc,←h,List.take_append_drop]
 have hl:=congrArg List.length hs
 rw[List.length_append]at hl
 have e:ts.length-r.length=(ts.take k++a).length:=by omega
 rw[e]
 generalize ts.take k++a=m at *
 rw[hs]
 exact List.drop_left ..
theorem below_draws' {B:Nat}{a w:World}(h:Below B a w)(n:Nat):Below B a (w.drewN n):=⟨h.os,h.tape,h.output,h.size,h.block⟩
theorem pneed_true (v:Value)(w:World):Calls Tryz.prog 118 #[.bool true,v] w fun e w'=>e= .returned (.tuple #[])∧w'=w:=by
 go_enter Tryz.func118,Tryz.ntmps118
 go_wp2
 go_end0
 exact⟨rfl,rfl⟩
theorem pneed_false (n:Int)(w:World):Calls Tryz.prog 118 #[.bool false,.iface 41 (.int .i64 n)] w fun e w'=>e= .panicked (thrownP n)∧w'=w:=by
 go_enter Tryz.func118,Tryz.ntmps118
 go_wp2
 exact⟨rfl,rfl,rfl⟩
def tokV (t:Tk):Value:=.agg #[.int .i64 t.kind,.string t.s,.int .i64 t.at_]
def itB (t:Tk):ByteArray:=if t.kind=1∨t.kind=5 then t.s else⟨#[]⟩
theorem itself_any (t:Tk)(w:World):Calls Tryz.prog 140 #[tokV t] w fun e w'=>e= .returned (.string (itB t))∧Below w.heap.size w w':=by
 unfold tokV
 go_enter Tryz.func140,Tryz.ntmps140
 go_wp2
 · rename_i h
   go_ret
   exact⟨by unfold itB;rw[if_pos (Or.inl h)];rfl,(Below.refl _ _).alloc (Nat.le_refl _) _⟩
 · rename_i h1 h
   go_ret
   have h5:t.kind=5:=by
    rcases h with h | h
    · exact absurd (by simpa using h) h1
    · simpa using h
   exact⟨by unfold itB;rw[if_pos (Or.inr h5)];rfl,(Below.refl _ _).alloc (Nat.le_refl _) _⟩
 · rename_i h1 h
   go_ret
   have h5:¬t.kind=5:=by simpa using h.2
   exact⟨by unfold itB;rw[if_neg (by rintro(h | h)<;>contradiction)];rfl,(Below.refl _ _).alloc (Nat.le_refl _) _⟩
theorem hdT_at {ts:List Tk}{k:Nat}(h:k<ts.length):hdT (ts.drop k)=ts[k]:=by
 rw[List.drop_eq_getElem_cons h];rfl
theorem hdT_end {ts:List Tk}{k:Nat}(h:¬k<ts.length):hdT (ts.drop k)=bT:=by
 rw[List.drop_of_length_le (by omega)];rfl
set_option maxRecDepth 100000 in
theorem ahead_any (w:World)(B:Nat)(p:Option Addr)(c:Nat)(ts:List Tk)(k i:Nat)(h:RS w B p c ts k)(hi:i≤1):
 Calls Tryz.prog 141 #[.pointer (some ⟨B,0,none⟩),.int .i64 (i:Int)] w fun e w'=>e= .returned (tokV (hdT ((ts.drop k).drop i)))∧Below w.heap.size w w':=by
 have hb0:Below w.heap.size w (w.alloc (.cells #[.int .i64 0,.string ⟨#[]⟩,.int .i64 0] 78)):=(Below.refl _ _).alloc (Nat.le_refl _) _
 have hr:=h.up hb0
 have c0:=hr.c0
 have c1:=hr.c1
 have htk:=hr.tk
 have hle:=h.le
 have hlen:=h.len
 have hc:∀o,(w.alloc (.cells #[.int .i64 0,.string ⟨#[]⟩,.int .i64 0] 78)).frozen? ⟨w.heap.size,o,none⟩=false:=by intro o;simp[go_sem]
 have d0:(w.alloc (.cells #[.int .i64 0,.string ⟨#[]⟩,.int .i64 0] 78)).cell? ⟨w.heap.size,0,none⟩=some (.int .i64 0):=by simp[go_sem]
 have d1:(w.alloc (.cells #[.int .i64 0,.string ⟨#[]⟩,.int .i64 0] 78)).cell? ⟨w.heap.size,1,none⟩=some (.string ⟨#[]⟩):=by simp[go_sem]
 have d2:(w.alloc (.cells #[.int .i64 0,.string ⟨#[]⟩,.int .i64 0] 78)).cell? ⟨w.heap.size,2,none⟩=some (.int .i64 0):=by simp[go_sem]
 have f0:=hc 0
 have f1:=hc 1
 have f2:=hc 2
 rw[List.drop_drop]
 clear hr h hc
 generalize hW0:w.alloc (.cells #[.int .i64 0,.string ⟨#[]⟩,.int .i64 0] 78)=w0 at *
 by_cases hlt:k+i<ts.length
 · have i1:(k:Int)+(i:Int)<(ts.length:Int):=by omega
   have i2:(k:Int)≤300:=by omega
   have i3:(i:Int)≤1:=by omega
   obtain⟨b,off,rfl,hbw,x0,x1,x2⟩:=htk.at hlt
   rw[hdT_at hlt]
   unfold tokV
   generalize ts[k+i]=t at *
   have hwr:IntKind.i64.wrap ((k:Int)+(i:Int))=(k:Int)+(i:Int):=IntWalk.i64_in _ (by omega)
   have i4:(0:Int)≤(k:Int)+(i:Int):=by omega
   go_enter Tryz.func141,Tryz.ntmps141
   go_wp2
   go_quiet (fail)
   go_wp2
   have i5:((k:Int)+(i:Int)).toNat=k+i:=by omega
   have hbd:Below w.heap.size w (w0.drewN nq).drew:=(below_draws' hb0 nq).drew
   have y0:(w0.drewN nq).drew.cell? ⟨b,off+(k+i)*3,none⟩=some (.int .i64 t.kind):=x0
   have y1:(w0.drewN nq).drew.cell? ⟨b,off+(k+i)*3+1,none⟩=some (.string t.s):=x1
   have y2:(w0.drewN nq).drew.cell? ⟨b,off+(k+i)*3+2,none⟩=some (.int .i64 t.at_):=x2
   have e0:(w0.drewN nq).drew.cell? ⟨w.heap.size,0,none⟩=some (.int .i64 0):=d0
   have e1:(w0.drewN nq).drew.cell? ⟨w.heap.size,1,none⟩=some (.string ⟨#[]⟩):=d1
   have e2:(w0.drewN nq).drew.cell? ⟨w.heap.size,2,none⟩=some (.int .i64 0):=d2
   have g0:(w0.drewN nq).drew.frozen? ⟨w.heap.size,0,none⟩=false:=f0
   have g1:(w0.drewN nq).drew.frozen? ⟨w.heap.size,1,none⟩=false:=f1
   have g2:(w0.drewN nq).drew.frozen? ⟨w.heap.size,2,none⟩=false:=f2
   have s0:(w0.drewN nq).drew.cell? ⟨B,0,none⟩=some (.slice (some ⟨b,off,none⟩) ts.length c):=c0
   have s1:(w0.drewN nq).drew.cell? ⟨B,1,none⟩=some (.int .i64 (k:Int)):=c1
   refine wp_region_still_tail 12 (by kernel_rfl) (by kernel_rfl) ?_
   change wpStill _ _ (w0.drewN nq).drew (fun a'=>wpList _ _ _ _ a' (w0.drewN nq).drew) _ _
   clear x0 x1 x2 d0 d1 d2 f0 f1 f2 c0 c1 htk hW0 hb0
   generalize (w0.drewN nq).drew=wd at *
   simp only[List.take_succ_cons,List.take_zero,List.drop_succ_cons,List.drop_zero]
   repeat still_step
   refine wpStill_nil ?_
   go_wp2
   refine bodyPost_ret (v:=.agg #[.int .i64 t.kind,.string t.s,.int .i64 t.at_]) (by simp[results,Tryz.results141,go_sem,e0,e1,e2]) rfl ⟨rfl,?_⟩
   exact((hbd.setCell (Nat.le_refl _) _).setCell (Nat.le_refl _) _).setCell (Nat.le_refl _) _
 · have i1:¬(k:Int)+(i:Int)<(ts.length:Int):=by omega
   have i2:(k:Int)≤300:=by omega
   have i3:(i:Int)≤1:=by omega
   have hwr:IntKind.i64.wrap ((k:Int)+(i:Int))=(k:Int)+(i:Int):=IntWalk.i64_in _ (by omega)
   rw[hdT_end hlt]
   unfold tokV bT
   go_enter Tryz.func141,Tryz.ntmps141
   go_wp2
   go_quiet (fail)
   go_wp2
   refine bodyPost_ret (v:=.agg #[.int .i64 0,.string ⟨#[]⟩,.int .i64 0]) (by simp[results,Tryz.results141,go_sem,d0,d1,d2]) rfl ⟨rfl,?_⟩
   exact(((below_draws' hb0 nq).setCell (Nat.le_refl _) _).setCell (Nat.le_refl _) _).setCell (Nat.le_refl _) _
theorem bytes_beq' (a b:ByteArray):(a == b)=true↔a=b:=by
 obtain⟨x⟩:=a
 obtain⟨y⟩:=b
 constructor
 · intro h
   have e:x=y:=by simpa using(show(x == y)=true from h)
   rw[e]
 · intro h
   injection h with h
   show(x == y)=true
   rw[h];simp
theorem itB_its (t:Tk):(itB t).data.toList=its t:=by
 unfold itB its
 split
 · rfl
 · rfl
theorem sayB_eq (l:List Tk)(s:ByteArray):(itB (hdT l) == s)=sayB l s.data.toList:=by
 unfold sayB
 rw[Bool.eq_iff_iff]
 simp only[decide_eq_true_eq]
 rw[←itB_its,bytes_beq']
 constructor
 · intro h;rw[h]
 · intro h
   obtain⟨⟨a⟩⟩:=s
   generalize itB (hdT l)=x at *
   obtain⟨⟨b⟩⟩:=x
   simp at h
   rw[h]
theorem ahead0_any (w:World)(B:Nat)(p:Option Addr)(c:Nat)(ts:List Tk)(k:Nat)(h:RS w B p c ts k):
 Calls Tryz.prog 141 #[.pointer (some ⟨B,0,none⟩),.int .i64 0] w fun e w'=>e= .returned (tokV (hdT (ts.drop k)))∧Below w.heap.size w w':=
 ahead_any w B p c ts k 0 h (by omega)
theorem ahead1_any (w:World)(B:Nat)(p:Option Addr)(c:Nat)(ts:List Tk)(k:Nat)(h:RS w B p c ts k):
 Calls Tryz.prog 141 #[.pointer (some ⟨B,0,none⟩),.int .i64 1] w fun e w'=>e= .returned (tokV (hdT (ts.drop k).tail))∧Below w.heap.size w w':=by
 have:=ahead_any w B p c ts k 1 h (by omega)
 rwa [List.drop_one]at this
set_option maxRecDepth 100000 in
theorem says_any (w:World)(B:Nat)(p:Option Addr)(c:Nat)(ts:List Tk)(k:Nat)(s:ByteArray)(h:RS w B p c ts k):
 Calls Tryz.prog 139 #[.pointer (some ⟨B,0,none⟩),.string s] w fun e w'=>e= .returned (.bool (sayB (ts.drop k) s.data.toList))∧Below w.heap.size w w':=by
 rw[←sayB_eq]
 have H1:=ahead0_any w B p c ts k h
 generalize hdT (ts.drop k)=t at *
 have H2:=itself_any t
 go_enter Tryz.func139,Tryz.ntmps139
 go_wp2_with fail
 refine H1.mono ?_
 rintro e w1 ⟨rfl,hb1⟩
 unfold tokV at *
 go_wp2_with fail
 refine(H2 _).mono ?_
 rintro e w2 ⟨rfl,hb2⟩
 go_wp2
 go_ret
 exact⟨by rw[beq_toListBytes];rfl,hb1.trans (hb2.mono hb1.size)⟩
set_option maxRecDepth 100000 in
theorem passes_no (w:World)(B:Nat)(p:Option Addr)(c:Nat)(ts:List Tk)(k:Nat)(s:ByteArray)(h:RS w B p c ts k)(hs:sayB (ts.drop k) s.data.toList=false):
 Calls Tryz.prog 176 #[.pointer (some ⟨B,0,none⟩),.string s] w fun e w'=>e= .returned (.bool false)∧Below w.heap.size w w':=by
 have H1:=says_any w B p c ts k s h
 rw[hs]at H1
 go_enter Tryz.func176,Tryz.ntmps176
 go_wp2_with fail
 refine H1.mono ?_
 rintro e w1 ⟨rfl,hb1⟩
 go_wp2
 go_ret
 exact⟨rfl,hb1⟩
theorem sayB_lt {ts:List Tk}{k:Nat}{c:UInt8}{s:List UInt8}(h:sayB (ts.drop k) (c::s)=true):k<ts.length:=by
 by_cases hk:k<ts.length
 · exact hk
 · unfold sayB at h
   rw[hdT_end hk]at h
   simp[its,bT]at h
set_option maxRecDepth 100000 in
theorem passes_yes (w:World)(B:Nat)(p:Option Addr)(c:Nat)(ts:List Tk)(k:Nat)(s:ByteArray)(h:RS w B p c ts k)(hs:sayB (ts.drop k) s.data.toList=true)(hk:k<ts.length):
 Calls Tryz.prog 176 #[.pointer (some ⟨B,0,none⟩),.string s] w fun e w'=>e= .returned (.bool true)∧RS w' B p c ts (k+1)∧BX B w w':=by
 have H1:=says_any w B p c ts k s h
 rw[hs]at H1
 have i1:(k:Int)≤300:=by have:=h.len;omega
 go_enter Tryz.func176,Tryz.ntmps176
 go_wp2_with fail
 refine H1.mono ?_
 rintro e w1 ⟨rfl,hb1⟩
 have h1:=h.up hb1
 have c1:=h1.c1
 have f1:=h1.fz
 go_wp2
 go_ret
 refine⟨rfl,?_,?_⟩
 · exact h1.set (k':=k+1) (by omega)
 · exact(BX.of_below hb1).set 1 _
theorem Tryz.infoList:(Tryz.prog.info? 59).map (fun i=>(i.zero,i.size,i.bytes))=some (some (.slice none 0 0),1,24):=by kernel_rfl
def OL (w:World)(base:Nat)(v:Value)(vs:List (List Nd)):Prop:=
 ∃xs,Row1 w base 59 v xs∧xs.length=vs.length∧∀(i:Nat) u L,xs[i]? =some u→vs[i]? =some L→∃q c,u= .slice q L.length c∧NT w base q L∧L.length≤c∧c≤maxLen
theorem OL.nil (w:World)(base:Nat):OL w base (.slice none 0 0) []:=⟨[],Row1.nil _ _ _,rfl,fun i u L h=>by simp at h⟩
theorem OL.kept {w w':World}{base:Nat}{e:TypeId}{v:Value}{vs:List (List Nd)}(h:OL w base v vs)(k:Kept base e w w')(h1:59≠e)(h2:97≠e):OL w' base v vs:=by
 obtain⟨xs,hr,hl,he⟩:=h
 exact⟨xs,hr.kept k h1,hl,fun i u L hu hL=>by
  obtain⟨q,c,e1,e2,e3⟩:=he i u L hu hL
  exact⟨q,c,e1,e2.kept k h2,e3⟩⟩
theorem OL.below {w w':World}{base:Nat}{v:Value}{vs:List (List Nd)}(h:OL w base v vs)(k:Below w.heap.size w w')(hb:base≤w.heap.size):OL w' base v vs:=
 h.kept (e:=300) (Kept.of_below k hb) (by decide) (by decide)
theorem OL.lists {w:World}{base:Nat}{v:Value}{vs:List (List Nd)}(h:OL w base v vs):∃q c,v= .slice q vs.length c∧LL w q vs∧vs.length≤c∧c≤maxLen:=by
 obtain⟨xs,hr,hl,he⟩:=h
 obtain⟨q,c,rfl,h1,h2,h3⟩:=hr.slice
 refine⟨q,c,by rw[hl],?_,by omega,h2⟩
 rcases h3 with rfl | ⟨g,rfl,ht,_,hc⟩
 · exact .inl (List.eq_nil_of_length_eq_zero (by rw[←hl];rfl))
 · refine .inr ⟨g,0,rfl,ht.lt,fun i L hL=>?_⟩
   have hi:i<xs.length:=by rw[hl];exact(List.getElem?_eq_some_iff.1 hL).1
   obtain⟨q',c',e1,e2,e3⟩:=he i xs[i] L (List.getElem?_eq_getElem hi) hL
   refine⟨q',c',?_,e2.1,e3⟩
   rw[Nat.zero_add,←e1]
   exact hc i _ (List.getElem?_eq_getElem hi)
theorem append_list (w:World){ops:Array Oper}{rest:List Oper}{o:Oper}{a:Act}{Q:Exit→Act→World→Prop}(hgd:o.guard=none)(s x:Operand)
 (ho:o.op= .call { callee:=.builtin .append,args:= #[s,x],argTypes:= #[212,212] })
 (base:Nat) (v:Value) (vs:List (List Nd)) (hs:a.eval s=v) (hown:OL w base v vs) (L:List Nd) (q:Option Addr) (c:Nat) (hN:NT w base q L) (hlc:L.length≤c) (hcm:c≤maxLen)
 (hx:a.eval x= .slice (some ⟨w.heap.size,0,none⟩) 1 1) (hlen:vs.length+1≤1099511627776) (hbase:base≤w.heap.size)
 (h:∀v' w',OL w' base v' (vs++[L])→Kept base 59 w w'→wpList Tryz.prog ops Q rest (a.put o.dst v') w'):wpList Tryz.prog ops Q (o::rest) a (w.alloc (.cells #[.slice q L.length c] 59)):=by
 obtain⟨xs,hr,hl,he⟩:=hown
 refine append_cell w hgd s x 212 59 ho Tryz.underlying212 (.slice none 0 0) 24 Tryz.infoList rfl base v xs hs hr (.slice q L.length c) rfl hx (by unfold maxLen;omega) (by omega) hbase ?_
 intro v' w' h1 k
 refine h v' w' ⟨xs++[.slice q L.length c],h1,by simp[hl],fun i u L' hu hL'=>?_⟩ k
 by_cases hi:i<xs.length
 · rw[List.getElem?_append_left hi]at hu
   rw[List.getElem?_append_left (by omega)]at hL'
   obtain⟨q',c',e1,e2,e3⟩:=he i u L' hu hL'
   exact⟨q',c',e1,e2.kept k (by decide),e3⟩
 · have hi2:i=xs.length:=by
    have:=(List.getElem?_eq_some_iff.1 hu).1
    simp at this;omega
   subst hi2
   rw[List.getElem?_append_right (Nat.le_refl _)]at hu
   rw[List.getElem?_append_right (by omega),hl]at hL'
   simp at hu hL'
   subst hu hL'
   exact⟨q,c,rfl,hN.kept k (by decide),hlc,hcm⟩
theorem pass_ok (w:World)(B:Nat)(p:Option Addr)(c:Nat)(ts:List Tk)(k:Nat)(s:ByteArray)(h:RS w B p c ts k)(hs:sayB (ts.drop k) s.data.toList=true)(hk:k<ts.length):
 Calls Tryz.prog 143 #[.pointer (some ⟨B,0,none⟩),.string s] w fun e w'=>e= .returned (.tuple #[])∧RS w' B p c ts (k+1)∧BX B w w':=by
 have H1:=passes_yes w B p c ts k s h hs hk
 go_enter Tryz.func143,Tryz.ntmps143
 go_wp2_with fail
 refine H1.mono ?_
 rintro e w1 ⟨rfl,h1,hx1⟩
 go_wp2_with fail
 refine(pneed_true _ _).mono ?_
 rintro e w2 ⟨rfl,rfl⟩
 go_wp2
 go_end0
 exact⟨rfl,h1,hx1⟩
theorem pass_bad (w:World)(B:Nat)(p:Option Addr)(c:Nat)(ts:List Tk)(k:Nat)(s:ByteArray)(h:RS w B p c ts k)(hs:sayB (ts.drop k) s.data.toList=false):
 Calls Tryz.prog 143 #[.pointer (some ⟨B,0,none⟩),.string s] w fun e w'=>e= .panicked (thrownP 1)∧RS w' B p c ts k∧BX B w w':=by
 have H1:=passes_no w B p c ts k s h hs
 go_enter Tryz.func143,Tryz.ntmps143
 go_wp2_with fail
 refine H1.mono ?_
 rintro e w1 ⟨rfl,hb1⟩
 go_wp2_with fail
 refine(pneed_false _ _).mono ?_
 rintro e w2 ⟨rfl,rfl⟩
 go_wp2
 exact⟨rfl,rfl,h.up hb1,BX.of_below hb1⟩
theorem take_ok (w:World)(B:Nat)(p:Option Addr)(c:Nat)(ts:List Tk)(k:Nat)(kd:Int)(h:RS w B p c ts k)(hk:k<ts.length)(hd:(hdT (ts.drop k)).kind=kd):
 Calls Tryz.prog 206 #[.pointer (some ⟨B,0,none⟩),.int .i64 kd] w fun e w'=>e= .returned (.string (hdT (ts.drop k)).s)∧RS w' B p c ts (k+1)∧BX B w w':=by
 have H1:=ahead0_any w B p c ts k h
 have i1:(k:Int)≤300:=by have:=h.len;omega
 generalize hdT (ts.drop k)=t at *
 unfold tokV at H1
 subst hd
 go_enter Tryz.func206,Tryz.ntmps206
 go_wp2_with fail
 refine H1.mono ?_
 rintro e w1 ⟨rfl,hb1⟩
 have hbt:Below w1.heap.size w1 (w1.alloc (.cells #[.int .i64 t.kind,.string t.s,.int .i64 t.at_] 78)):=(Below.refl _ _).alloc (Nat.le_refl _) _
 have h1:=(h.up hb1).up hbt
 have c1:=h1.c1
 have f1:=h1.fz
 go_wp2_with fail
 refine(pneed_true _ _).mono ?_
 rintro e w2 ⟨rfl,rfl⟩
 have hsz:w1.heap.size≠B:=by have:=(h.up hb1).lt;omega
 go_wp2
 go_ret
 exact⟨rfl,h1.set (k':=k+1) (by omega),((BX.of_below hb1).up hbt).set 1 _⟩
theorem take_bad (w:World)(B:Nat)(p:Option Addr)(c:Nat)(ts:List Tk)(k:Nat)(kd:Int)(h:RS w B p c ts k)(hd:((hdT (ts.drop k)).kind == kd)=false):
 Calls Tryz.prog 206 #[.pointer (some ⟨B,0,none⟩),.int .i64 kd] w fun e w'=>e= .panicked (thrownP 1)∧RS w' B p c ts k∧BX B w w':=by
 have H1:=ahead0_any w B p c ts k h
 generalize hdT (ts.drop k)=t at *
 unfold tokV at H1
 go_enter Tryz.func206,Tryz.ntmps206
 go_wp2_with fail
 refine H1.mono ?_
 rintro e w1 ⟨rfl,hb1⟩
 have hbt:Below w1.heap.size w1 (w1.alloc (.cells #[.int .i64 t.kind,.string t.s,.int .i64 t.at_] 78)):=(Below.refl _ _).alloc (Nat.le_refl _) _
 go_wp2_with fail
 refine(pneed_false _ _).mono ?_
 rintro e w2 ⟨rfl,rfl⟩
 go_wp2
 exact⟨rfl,rfl,(h.up hb1).up hbt,(BX.of_below hb1).up hbt⟩
end Go.Proofs.YtjkepjbfgeldnaaGreatDoor
namespace Go.Proofs.YtjkepjbfgeldnaaGreatDoor
open Go.RowKit Go.Maps Go.WideMaps
set_option maxRecDepth 100000
theorem key_law:Keyed Tryz.prog 9:=string_keyed Tryz.underlying9
theorem zero_int (w:World):(zeroValue 3).run Tryz.prog w= .ok (.int .i64 0) w:=by kernel_rfl
structure OpsM (D:DataW Unit)(f:List UInt8→Option Int):Prop where
 has:∀x:List UInt8,Maps.has D (.string x)=(f x).isSome
 val:∀x:List UInt8,D.atKey (.string x) (.lit (.int .i64 0))= .lit (.int .i64 ((f x).getD 0))
def putF (f:List UInt8→Option Int)(k:List UInt8)(o:Int):List UInt8→Option Int:=fun x=>if x=k then some o else f x
def noF:List UInt8→Option Int:=fun _=>none
theorem OpsM.start:OpsM (.map []) noF:=⟨fun x=>by simp[Maps.has,noF],fun x=>rfl⟩
theorem OpsM.put {D:DataW Unit}{f:List UInt8→Option Int}(h:OpsM D f)(ht:Tidy D)(k:List UInt8)(o:Int):OpsM (D.put (.string k) (.lit (.int .i64 o))) (putF f k o):=by
 have hkl:WideAt.IsKeyLit (.string k):=trivial
 refine⟨fun x=>?_,fun x=>?_⟩
 · by_cases e:x=k
   · subst e
     rw[has_put_same ht.isMap hkl]
     simp[putF]
   · rw[has_put_other (fun q=>e (by injection q)),h.has]
     simp[putF,e]
 · by_cases e:x=k
   · subst e
     rw[atKey_put_same ht.isMap hkl]
     simp[putF]
   · rw[atKey_put_other (fun q=>e (by injection q)),h.val]
     simp[putF,e]
def OM (w:World)(b n:Nat)(f:List UInt8→Option Int):Prop:=∃D,w.ownsMap Tryz.prog 9 (plainElem Tryz.prog 3) b n D∧OpsM D f
theorem OM.made (w:World):OM (w.alloc (.map #[] 0)) w.heap.size 0 noF:=⟨.map [],World.ownsMap_made _ _ _ _,OpsM.start⟩
theorem OM.put {w:World}{b n:Nat}{f:List UInt8→Option Int}(h:OM w b n f)(hn:n≤10)(k:ByteArray)(hk:k.size≤maxLen)(o:Int)(ho:0≤o)(ho2:o≤100):
 ∃w',(Instr.mapUpdate 211 (.map (some b)) (.string k) (.int .i64 o)).run Tryz.prog w= .ok () w'∧OM w' b (n+1) (putF f k.data.toList o)∧w.grownBy w' (some b):=by
 obtain⟨D,h1,h2⟩:=h
 obtain⟨w',r1,r2,r3⟩:=h1.update (t:=211) (e:=3) key_law Tryz.underlying211 (by unfold maxLen;omega) (keyOf_string_mk Tryz.underlying9 hk) (plainElem_int Tryz.underlying3 (WalkArith.wf_i64 (n:=o) (by omega)))
 exact⟨w',r1,⟨_,r2,h2.put (h1.tidy key_law) _ _⟩,r3⟩
theorem OM.lt {w:World}{b n:Nat}{f:List UInt8→Option Int}(h:OM w b n f):b<w.heap.size:=by
 obtain⟨D,h1,h2⟩:=h;exact h1.lt
theorem OM.of_block {w w':World}{b n:Nat}{f:List UInt8→Option Int}(h:OM w b n f)(hb:w'.heap[b]? =w.heap[b]?):OM w' b n f:=by
 obtain⟨D,⟨es,clock,h1,h3⟩,h2⟩:=h
 exact⟨D,⟨es,clock,hb.trans h1,h3⟩,h2⟩
theorem OM.ne {w:World}{b n:Nat}{f:List UInt8→Option Int}{B:Nat}{p:Option Addr}{c:Nat}{ts:List Tk}{k:Nat}(h:OM w b n f)(hr:RS w B p c ts k):b≠B:=by
 intro e;subst e
 obtain⟨D,⟨es,clock,h1,h3⟩,h2⟩:=h
 rw[hr.blk]at h1
 injection h1 with h1
 cases h1
theorem OM.bx {w w':World}{b n:Nat}{f:List UInt8→Option Int}{B:Nat}{p:Option Addr}{c:Nat}{ts:List Tk}{k:Nat}(h:OM w b n f)(hr:RS w B p c ts k)(hx:BX B w w'):OM w' b n f:=
 h.of_block (hx.block b h.lt (h.ne hr))
theorem OM.up {w w':World}{b n:Nat}{f:List UInt8→Option Int}(h:OM w b n f)(hb:Below w.heap.size w w'):OM w' b n f:=h.of_block (hb.block b h.lt)
theorem grown_below {w0 w w':World}{b:Nat}(h:Below w0.heap.size w0 w)(hg:w.grownBy w' (some b))(hb:w0.heap.size≤b):Below w0.heap.size w0 w':=
 h.grown hg h.size (fun j hj=>by cases hj;exact hb)
theorem lookup_op (w:World){ops:Array Oper}{rest:List Oper}{o:Oper}{a:Act}{Q:Exit→Act→World→Prop}(hg:o.guard=none)(m x:Operand)(hop:o.op=Op.lookup 211 m x true)
 (b n:Nat) (f:List UInt8→Option Int) (hm:a.eval m= .map (some b)) (hown:OM w b n f) (s:ByteArray) (hx:a.eval x= .string s) (hs:s.size≤maxLen)
 (hK:wpList Tryz.prog ops Q rest (a.put o.dst (.tuple #[.int .i64 ((f s.data.toList).getD 0),.bool (f s.data.toList).isSome])) w):wpList Tryz.prog ops Q (o::rest) a w:=by
 obtain⟨D,h1,h2⟩:=hown
 exact wpList_lookup_own_ok_int w hg m x 211 hop 9 3 .i64 key_law Tryz.underlying211 Tryz.underlying3 (zero_int _) b n D hm h1 _ _ hx (keyOf_string_mk Tryz.underlying9 hs) (fun c hat _=>by
  rw[h2.val]at hat
  injection hat with h1
  injection h1 with _ h3
  rw[←h3,h2.has];exact hK)
end Go.Proofs.YtjkepjbfgeldnaaGreatDoor
namespace Go.Proofs.YtjkepjbfgeldnaaGreatDoor
open Go.RowKit
def bare (x:Nd):Bool:=x.n == 0 && (x.s.data.toList.isEmpty && x.t.data.toList.isEmpty)
def justS (x:Nd):Bool:=x.n == 0 && x.t.data.toList.isEmpty
theorem tName_any (s:ByteArray)(w:World)(hs:s.size≤maxLen):
 Calls Tryz.prog 160 #[.string s] w fun e w'=>e= .returned (.bool (nfault s.data.toList == 0))∧w'=w:=by
 have HC:=fun w=>check_any s w hs
 cases h:(nfault s.data.toList == 0)
 · rw[eV_not (by simpa using h)]at HC
   go_enter Tryz.func160,Tryz.ntmps160
   go_wp2_with fail
   refine(HC _).mono ?_
   rintro e w1 ⟨rfl,rfl⟩
   go_wp2
   go_ret
   exact⟨rfl,rfl⟩
 · rw[eV_nil (by simpa using h)]at HC
   go_enter Tryz.func160,Tryz.ntmps160
   go_wp2_with fail
   refine(HC _).mono ?_
   rintro e w1 ⟨rfl,rfl⟩
   go_wp2
   go_ret
   exact⟨rfl,rfl⟩
theorem tText_any (s:ByteArray)(w:World)(hs:s.size≤maxLen):
 Calls Tryz.prog 161 #[.string s] w fun e w'=>e= .returned (.bool (textOk s.data.toList))∧Below w.heap.size w w':=by
 have HC:=fun w=>quoteN_any s w hs
 cases h:textOk s.data.toList
 · have hn:=tfault_not h
   rw[eV_not hn]at HC
   go_enter Tryz.func161,Tryz.ntmps161
   go_wp2_with fail
   refine(HC _).mono ?_
   rintro e w1 ⟨q,_,rfl,hb⟩
   go_wp2
   go_ret
   exact⟨rfl,hb⟩
 · have hn:=tfault_ok h
   rw[eV_nil hn]at HC
   go_enter Tryz.func161,Tryz.ntmps161
   go_wp2_with fail
   refine(HC _).mono ?_
   rintro e w1 ⟨q,_,rfl,hb⟩
   go_wp2
   go_ret
   exact⟨rfl,hb⟩
theorem hasNothing_any (x:Nd)(w:World):
 Calls Tryz.prog 159 #[x.val] w fun e w'=>e= .returned (.bool (bare x))∧Below w.heap.size w w':=by
 obtain⟨op,n,s,t⟩:=x
 unfold Nd.val
 have HL:Hid (∀o w',Below (w.alloc o).heap.size (w.alloc o) w'→Below w.heap.size w w'):=fun o w' h=>((Below.refl _ _).alloc (Nat.le_refl _) _).trans (h.mono (by simp))
 go_enter Tryz.func159,Tryz.ntmps159
 go_wp2
 all_goals
  go_ret
  refine⟨ret_bool ?_,HL.out _ _ (Below.refl _ _)⟩
  simp_all [bare,←ByteArray.toList_eq]
theorem hasJustS_any (x:Nd)(w:World):
 Calls Tryz.prog 157 #[x.val] w fun e w'=>e= .returned (.bool (justS x))∧Below w.heap.size w w':=by
 obtain⟨op,n,s,t⟩:=x
 unfold Nd.val
 have HL:Hid (∀o w',Below (w.alloc o).heap.size (w.alloc o) w'→Below w.heap.size w w'):=fun o w' h=>((Below.refl _ _).alloc (Nat.le_refl _) _).trans (h.mono (by simp))
 go_enter Tryz.func157,Tryz.ntmps157
 go_wp2
 all_goals
  go_ret
  refine⟨ret_bool ?_,HL.out _ _ (Below.refl _ _)⟩
  simp_all [justS,←ByteArray.toList_eq]
theorem isWord_any (s:ByteArray)(w:World):
 Calls Tryz.prog 186 #[.string s] w fun e w'=>e= .returned (.bool (rsv s.data.toList))∧w'=w:=by
 go_enter Tryz.func186,Tryz.ntmps186
 go_wp2
 all_goals
  go_ret
  refine⟨ret_bool ?_,rfl⟩
  simp_all [rsv,ByteArray.toList_eq]
theorem head_byte (s:ByteArray)(h:1≤s.size):(s.extract 0 1).data.toList=s.data.toList.take 1:=by simp
theorem tail_bytes (s:ByteArray):(s.extract 1 s.size).data.toList=s.data.toList.tail:=by
 simp[List.take_of_length_le]
theorem take_head {l:List UInt8}(c:UInt8):l.take 1=[c]↔l.head? =some c:=by cases l<;>simp
theorem hasPrefix_any (s:ByteArray)(w:World)(hs:s.size≤maxLen):
 Calls Tryz.prog 121 #[.string s,.string ⟨#[63]⟩] w fun e w'=>e= .returned (.bool (decide (s.data.toList.head? =some 63)))∧w'=w:=by
 unfold maxLen at hs
 have hl:s.data.toList.length=s.size:=by simp
 by_cases h1:1≤s.size
 · have h1':(1:Int)≤(s.size:Int):=by omega
   have HE:Hid (((s.extract 0 1).toList=[63])↔s.data.toList.head? =some 63):=by
    show(_↔_)
    rw[ByteArray.toList_eq,head_byte s h1,take_head]
   go_enter Tryz.func121,Tryz.ntmps121
   go_wp2
   go_ret
   refine⟨ret_bool ?_,rfl⟩
   rw[Bool.eq_iff_iff,beq_iff_eq,decide_eq_true_iff]
   exact HE.out
 · have h1':¬(1:Int)≤(s.size:Int):=by omega
   have HE:Hid (decide (s.data.toList.head? =some 63)=false):=by
    show _=_
    have:s.data.toList=[]:=List.eq_nil_of_length_eq_zero (by omega)
    rw[this];rfl
   go_enter Tryz.func121,Tryz.ntmps121
   go_wp2
   go_ret
   exact⟨ret_bool HE.out.symm,rfl⟩
def slotOf (s:ByteArray):ByteArray:=if s.data.toList.head? =some 63 then s.extract 1 s.size else s
theorem cutPrefix_yes (s:ByteArray)(w:World)(hs:s.size≤maxLen)(h:s.data.toList.head? =some 63):
 Calls Tryz.prog 185 #[.string s,.string ⟨#[63]⟩] w fun e w'=>e= .returned (.tuple #[.string (s.extract 1 s.size),.bool true])∧w'=w:=by
 have hl:s.data.toList.length=s.size:=by simp
 have h1:1≤s.size:=by
  cases e:s.data.toList with
  | nil=>rw[e]at h;cases h
  | cons a l=>rw[e]at hl;simp at hl;omega
 have h1':(1:Int)≤(s.size:Int):=by omega
 have HP:=fun w=>hasPrefix_any s w hs
 rw[decide_eq_true h]at HP
 unfold maxLen at hs
 have hin:Calls Tryz.prog 199 #[.string s,.string ⟨#[63]⟩] w fun e w'=>e= .returned (.tuple #[.string (s.extract 1 s.size),.bool true])∧w'=w:=by
  go_enter Tryz.func199,Tryz.ntmps199
  go_wp2_with fail
  refine(HP _).mono ?_
  rintro e w1 ⟨rfl,rfl⟩
  go_wp2
  go_ret2
  exact⟨rfl,rfl⟩
 go_enter Tryz.func185,Tryz.ntmps185
 go_wp2_with fail
 refine hin.mono ?_
 rintro e w1 ⟨rfl,rfl⟩
 go_wp2
 go_ret2
 exact⟨rfl,rfl⟩
theorem cutPrefix_no (s:ByteArray)(w:World)(hs:s.size≤maxLen)(h:s.data.toList.head? ≠some 63):
 Calls Tryz.prog 185 #[.string s,.string ⟨#[63]⟩] w fun e w'=>e= .returned (.tuple #[.string s,.bool false])∧w'=w:=by
 have HP:=fun w=>hasPrefix_any s w hs
 rw[decide_eq_false h]at HP
 have hin:Calls Tryz.prog 199 #[.string s,.string ⟨#[63]⟩] w fun e w'=>e= .returned (.tuple #[.string s,.bool false])∧w'=w:=by
  go_enter Tryz.func199,Tryz.ntmps199
  go_wp2_with fail
  refine(HP _).mono ?_
  rintro e w1 ⟨rfl,rfl⟩
  go_wp2
  go_ret2
  exact⟨rfl,rfl⟩
 go_enter Tryz.func185,Tryz.ntmps185
 go_wp2_with fail
 refine hin.mono ?_
 rintro e w1 ⟨rfl,rfl⟩
 go_wp2
 go_ret2
 exact⟨rfl,rfl⟩
theorem isVar_any (s:ByteArray)(w:World)(hs:s.size≤maxLen):
 Calls Tryz.prog 158 #[.string s] w fun e w'=>e= .returned (.bool (varOk s.data.toList))∧w'=w:=by
 by_cases h:s.data.toList.head? =some 63
 · have HV:Hid (varOk s.data.toList=(nfault (s.extract 1 s.size).data.toList == 0)):=by
    show _=_
    unfold varOk;rw[if_pos h,tail_bytes]
   have HN:=fun w=>tName_any (s.extract 1 s.size) w (Nat.le_trans (by simp) hs)
   have HP:=fun w=>cutPrefix_yes s w hs h
   clear h
   generalize s.extract 1 s.size=u at *
   go_enter Tryz.func158,Tryz.ntmps158
   go_wp2_with fail
   refine(HP _).mono ?_
   rintro e w1 ⟨rfl,rfl⟩
   go_wp2_with fail
   refine(HN _).mono ?_
   rintro e w1 ⟨rfl,rfl⟩
   go_wp2
   go_ret
   exact⟨ret_bool HV.out.symm,rfl⟩
 · have HV:Hid (varOk s.data.toList=(nfault s.data.toList == 0 && !rsv s.data.toList)):=by
    show _=_
    unfold varOk;rw[if_neg h]
   have HN:=fun w=>tName_any s w hs
   have HP:=fun w=>cutPrefix_no s w hs h
   have HW:=fun w=>isWord_any s w
   clear h
   generalize rsv s.data.toList=r at *
   cases hn:(nfault s.data.toList == 0)<;>rw[hn]at HN HV
   · go_enter Tryz.func158,Tryz.ntmps158
     go_wp2_with fail
     refine(HP _).mono ?_
     rintro e w1 ⟨rfl,rfl⟩
     go_wp2_with fail
     refine(HN _).mono ?_
     rintro e w1 ⟨rfl,rfl⟩
     go_wp2
     go_ret
     exact⟨ret_bool HV.out.symm,rfl⟩
   · go_enter Tryz.func158,Tryz.ntmps158
     go_wp2_with fail
     refine(HP _).mono ?_
     rintro e w1 ⟨rfl,rfl⟩
     go_wp2_with fail
     refine(HN _).mono ?_
     rintro e w1 ⟨rfl,rfl⟩
     go_wp2_with fail
     refine(HW _).mono ?_
     rintro e w1 ⟨rfl,rfl⟩
     go_wp2
     go_ret
     exact⟨ret_bool HV.out.symm,rfl⟩
theorem tField_any (x:Nd)(w:World)(hx:x.wf):
 Calls Tryz.prog 162 #[x.val] w fun e w'=>e= .returned (.bool (x.op == 7 && ndOk x))∧Below w.heap.size w w':=by
 have HJ:=fun w=>hasJustS_any x w
 have HN:=fun w=>tName_any x.s w hx.1
 have HB:Hid ((x.op == 7 && ndOk x)=(x.op == 7 && (justS x && (nfault x.s.data.toList == 0)))):=by
  show _=_
  by_cases h7:x.op=7
  · unfold ndOk justS;simp[h7]
  · have:(x.op == 7)=false:=by simpa using h7
    rw[this];rfl
 rw[HB.out]
 clear HB
 generalize hj:justS x=j at *
 generalize hn:(nfault x.s.data.toList == 0)=n at *
 clear hj hn
 obtain⟨op,m,s,t⟩:=x
 unfold Nd.val at *
 have HL:Hid (∀o w',Below (w.alloc o).heap.size (w.alloc o) w'→Below w.heap.size w w'):=fun o w' h=>((Below.refl _ _).alloc (Nat.le_refl _) _).trans (h.mono (by simp))
 simp only at *
 cases h7:(op == 7)
 · go_enter Tryz.func162,Tryz.ntmps162
   go_wp2
   go_ret
   exact⟨rfl,HL.out _ _ (Below.refl _ _)⟩
 · have hal:∀w',Below (w.alloc (.cells #[.int .i64 op,.int .i64 m,.string s,.string t] 97)).heap.size (w.alloc (.cells #[.int .i64 op,.int .i64 m,.string s,.string t] 97)) w'→w'.cell? ⟨w.heap.size,2,none⟩=some (.string s):=fun w' hb=>(hb.cell (p:=⟨w.heap.size,2,none⟩) (by simp)).trans (by simp[go_sem])
   have HAL:Hid (∀_,_):=hal
   clear hal
   cases j
   · go_enter Tryz.func162,Tryz.ntmps162
     go_wp2_with fail
     refine(HJ _).mono ?_
     rintro e w1 ⟨rfl,hb⟩
     go_wp2
     go_ret
     exact⟨rfl,HL.out _ _ hb⟩
   · go_enter Tryz.func162,Tryz.ntmps162
     go_wp2_with fail
     refine(HJ _).mono ?_
     rintro e w1 ⟨rfl,hb⟩
     have hc:=HAL.out _ hb
     go_wp2_with fail
     refine(HN _).mono ?_
     rintro e w2 ⟨rfl,rfl⟩
     go_wp2
     go_ret
     exact⟨rfl,HL.out _ _ hb⟩
def thrown:List PanicEntry:=[{ v:=.iface 41 (.int .i64 1),recovered:=false }]
theorem need_true (w:World):Calls Tryz.prog 197 #[.bool true] w fun e w'=>e= .returned (.tuple #[])∧w'=w:=by
 go_enter Tryz.func197,Tryz.ntmps197
 go_wp2
 go_end0
 exact⟨rfl,rfl⟩
theorem need_false (w:World):Calls Tryz.prog 197 #[.bool false] w fun e w'=>e= .panicked thrown∧w'=w:=by
 go_enter Tryz.func197,Tryz.ntmps197
 go_wp2
 exact⟨rfl,rfl,rfl⟩
theorem isText_any (s:ByteArray)(w:World)(hs:s.size≤maxLen):
 Calls Tryz.prog 213 #[.string s] w fun e w'=>e= .returned (.bool (textOk s.data.toList))∧Below w.heap.size w w':=by
 by_cases h:60<s.size
 · have HT:Hid (textOk s.data.toList=false):=by show _=_;unfold textOk;simp;intro hh;omega
   go_enter Tryz.func213,Tryz.ntmps213
   go_wp2_with fail
   refine(quote_full s _ hs h).mono ?_
   rintro e w1 ⟨rfl,rfl⟩
   go_wp2
   go_ret
   exact⟨ret_bool HT.out.symm,Below.refl _ _⟩
 · cases ho:s.data.toList.all okb
   · have HT:Hid (textOk s.data.toList=false):=by show _=_;unfold textOk;rw[ho];simp
     go_enter Tryz.func213,Tryz.ntmps213
     go_wp2_with fail
     refine(quote_short s _ (by omega)).mono ?_
     rintro e w1 ⟨rfl,hb⟩
     rw[qres_bad ho]
     go_wp2
     go_ret
     exact⟨ret_bool HT.out.symm,hb⟩
   · have HT:Hid (textOk s.data.toList=true):=by show _=_;unfold textOk;rw[ho];simp;omega
     go_enter Tryz.func213,Tryz.ntmps213
     go_wp2_with fail
     refine(quote_short s _ (by omega)).mono ?_
     rintro e w1 ⟨rfl,hb⟩
     rw[qres_ok ho]
     go_wp2
     go_ret
     exact⟨ret_bool HT.out.symm,hb⟩
theorem mayBe_any (x:Nd)(w:World)(hx:x.wf):
 Calls Tryz.prog 207 #[x.val] w fun e w'=>e= .returned (.bool (ndOk x))∧Below w.heap.size w w':=by
 obtain⟨op,n,s,t⟩:=x
 obtain⟨hs,ht,_⟩:=hx
 unfold Nd.val
 have hal:∀o w',Below (w.alloc o).heap.size (w.alloc o) w'→Below w.heap.size w w':=fun o w' h=>((Below.refl _ _).alloc (Nat.le_refl _) _).trans (h.mono (by simp))
 have HL:Hid (∀o w',Below (w.alloc o).heap.size (w.alloc o) w'→Below w.heap.size w w'):=hal
 clear hal
 by_cases h1:op=1
 · subst h1
   go_enter Tryz.func207,Tryz.ntmps207
   go_wp2
   all_goals
    go_ret
    refine⟨ret_bool ?_,HL.out _ _ (Below.refl _ _)⟩
    simp_all [ndOk,←ByteArray.toList_eq]
 by_cases h2:op=2
 · subst h2
   go_enter Tryz.func207,Tryz.ntmps207
   go_wp2
   all_goals
    go_ret
    refine⟨ret_bool ?_,HL.out _ _ (Below.refl _ _)⟩
    simp_all [ndOk,←ByteArray.toList_eq]
 by_cases h3:op=3
 · subst h3
   have HT:=fun w=>isText_any s w hs
   cases hT:textOk s.data.toList<;>rw[hT]at HT
   all_goals
    go_enter Tryz.func207,Tryz.ntmps207
    go_wp2_with (go_at_call 213;refine(HT _).mono ?_;rintro e w1 ⟨rfl,hb⟩)
    all_goals
     go_ret
     refine⟨ret_bool ?_,HL.out _ _ (by first | assumption | exact Below.refl _ _)⟩
     simp_all [ndOk,ByteArray.toList_eq]
 by_cases h4:op=4
 · subst h4
   have HT:=fun w=>isText_any t w ht
   have HC:=fun w=>check_any s w hs
   by_cases hn:nfault s.data.toList=0
   · rw[eV_nil hn]at HC
     cases hT:textOk t.data.toList<;>rw[hT]at HT
     all_goals
      go_enter Tryz.func207,Tryz.ntmps207
      go_wp2_with (first | (go_at_call 213;refine(HT _).mono ?_;rintro e w1 ⟨rfl,hb⟩) | (go_at_call 38;refine(HC _).mono ?_;rintro e w1 ⟨rfl,rfl⟩))
      all_goals
       go_ret
       refine⟨ret_bool ?_,HL.out _ _ (by first | assumption | exact Below.refl _ _)⟩
       simp_all [ndOk]
   · rw[eV_not hn]at HC
     go_enter Tryz.func207,Tryz.ntmps207
     go_wp2_with (first | (go_at_call 213;refine(HT _).mono ?_;rintro e w1 ⟨rfl,hb⟩) | (go_at_call 38;refine(HC _).mono ?_;rintro e w1 ⟨rfl,rfl⟩))
     all_goals
      go_ret
      refine⟨ret_bool ?_,HL.out _ _ (by first | assumption | exact Below.refl _ _)⟩
      simp_all [ndOk]
 by_cases h56:op=5∨op=6
 · rcases h56 with rfl | rfl
   all_goals
    go_enter Tryz.func207,Tryz.ntmps207
    go_wp2
    all_goals
     go_ret
     refine⟨ret_bool ?_,HL.out _ _ (Below.refl _ _)⟩
     simp_all [ndOk,←ByteArray.toList_eq]
 by_cases h7:op=7
 · subst h7
   have HC:=fun w=>check_any s w hs
   by_cases hn:nfault s.data.toList=0
   · rw[eV_nil hn]at HC
     go_enter Tryz.func207,Tryz.ntmps207
     go_wp2_with (go_at_call 38;refine(HC _).mono ?_;rintro e w1 ⟨rfl,rfl⟩)
     all_goals
      go_ret
      refine⟨ret_bool ?_,HL.out _ _ (Below.refl _ _)⟩
      simp_all [ndOk,ByteArray.toList_eq]
   · rw[eV_not hn]at HC
     go_enter Tryz.func207,Tryz.ntmps207
     go_wp2_with (go_at_call 38;refine(HC _).mono ?_;rintro e w1 ⟨rfl,rfl⟩)
     all_goals
      go_ret
      refine⟨ret_bool ?_,HL.out _ _ (Below.refl _ _)⟩
      simp_all [ndOk,ByteArray.toList_eq]
 · have j5:¬op=5:=fun h=>h56 (.inl h)
   have j6:¬op=6:=fun h=>h56 (.inr h)
   have e1:(op == 1)=false:=by simpa using h1
   have e2:(op == 2)=false:=by simpa using h2
   have e3:(op == 3)=false:=by simpa using h3
   have e4:(op == 4)=false:=by simpa using h4
   have e5:(op == 5)=false:=by simpa using j5
   have e6:(op == 6)=false:=by simpa using j6
   have e7:(op == 7)=false:=by simpa using h7
   have HN:Hid (ndOk ⟨op,n,s,t⟩=false):=by show _=_;simp[ndOk,h1,h2,h3,h4,j5,j6,h7]
   clear h1 h2 h3 h4 h56 j5 j6 h7
   go_enter Tryz.func207,Tryz.ntmps207
   go_wp2
   go_ret
   exact⟨ret_bool HN.out.symm,HL.out _ _ (Below.refl _ _)⟩
theorem Tryz.infoText:(Tryz.prog.info? 9).map (fun i=>(i.zero,i.size,i.bytes))=some (some (.string ⟨#[]⟩),1,16):=by kernel_rfl
def TL (w:World)(p:Option Addr)(ts:List ByteArray):Prop:=
 ts=[]∨∃b off,p=some ⟨b,off,none⟩∧b<w.heap.size∧∀i s,ts[i]? =some s→w.cell? ⟨b,off+i,none⟩=some (.string s)
theorem TL.up {w w':World}{p:Option Addr}{ts:List ByteArray}(h:TL w p ts)(k:Below w.heap.size w w'):TL w' p ts:=by
 rcases h with h | ⟨b,off,h1,h2,h3⟩
 · exact .inl h
 · exact .inr ⟨b,off,h1,Nat.lt_of_lt_of_le h2 k.size,fun i s hs=>(k.cell (p:=⟨b,off+i,none⟩) h2).trans (h3 i s hs)⟩
theorem TL.at {w:World}{p:Option Addr}{ts:List ByteArray}(h:TL w p ts){i:Nat}(hi:i<ts.length):∃b off,p=some ⟨b,off,none⟩∧b<w.heap.size∧w.cell? ⟨b,off+i,none⟩=some (.string ts[i]):=by
 rcases h with rfl | ⟨b,off,h1,h2,h3⟩
 · simp at hi
 · exact⟨b,off,h1,h2,h3 i _ (List.getElem?_eq_getElem hi)⟩
def OT (w:World)(base:Nat)(v:Value)(ts:List ByteArray):Prop:=Row1 w base 9 v (ts.map Value.string)
theorem OT.texts {w:World}{base:Nat}{v:Value}{ts:List ByteArray}(h:OT w base v ts):∃q c,v= .slice q ts.length c∧TL w q ts∧ts.length≤c∧c≤maxLen:=by
 obtain⟨q,c,e,h1,h2,h3⟩:=Row1.slice h
 rw[List.length_map]at e h1
 refine⟨q,c,e,?_,h1,h2⟩
 rcases h3 with h3 | ⟨g,e2,ht,_,hc⟩
 · exact .inl (by simpa using h3)
 · exact .inr ⟨g,0,e2,ht.lt,fun i s hs=>by rw[Nat.zero_add];exact hc i _ (by simp[hs])⟩
theorem append_text (w:World){ops:Array Oper}{rest:List Oper}{o:Oper}{a:Act}{Q:Exit→Act→World→Prop}(hgd:o.guard=none)(s x:Operand)
 (ho:o.op= .call { callee:=.builtin .append,args:= #[s,x],argTypes:= #[37,37] })
 (base:Nat) (v:Value) (ts:List ByteArray) (hs:a.eval s=v) (hown:OT w base v ts) (t:ByteArray)
 (hx:a.eval x= .slice (some ⟨w.heap.size,0,none⟩) 1 1) (hlen:ts.length+1≤1099511627776) (hbase:base≤w.heap.size)
 (h:∀v' w',OT w' base v' (ts++[t])→Kept base 9 w w'→wpList Tryz.prog ops Q rest (a.put o.dst v') w'):wpList Tryz.prog ops Q (o::rest) a (w.alloc (.cells #[.string t] 9)):=by
 refine append_cell w hgd s x 37 9 ho Tryz.underlying37 (.string ⟨#[]⟩) 16 Tryz.infoText rfl base v (ts.map Value.string) hs hown (.string t) rfl hx (by rw[List.length_map];unfold maxLen;omega) (by rw[List.length_map];omega) hbase ?_
 intro v' w' h1 k
 refine h v' w' ?_ k
 unfold OT;rw[List.map_append];exact h1
end Go.Proofs.YtjkepjbfgeldnaaGreatDoor
