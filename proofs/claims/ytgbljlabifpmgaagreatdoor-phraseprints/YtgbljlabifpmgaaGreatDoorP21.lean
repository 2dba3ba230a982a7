import Derived.Test.YtgbljlabifpmgaaGreatDoorP8
import Derived.Test.YtgbljlabifpmgaaGreatDoorP18
import Derived.Test.YtgbljlabifpmgaaGreatDoorP20
import Derived.Laws.AppendOwnNone
import Derived.Lib.LaidTab
import Derived.Lib.ItoaNum
import Derived.Test.YtgbljlabifpmgaaGreatDoorP10
import Derived.StillTailTactics
set_option linter.unusedVariables false
set_option maxHeartbeats 12000000
namespace Go.Proofs.YtgbljlabifpmgaaGreatDoor
open Go.RowKit
set_option maxRecDepth 100000
structure KW (B:Nat)(w w':World):Prop where
 bel:Below B w w'
 typed:∀b f,f≠43→f≠40→Typed w b f→w'.heap[b]? =w.heap[b]?
theorem KW.refl (B:Nat)(w:World):KW B w w:=⟨Below.refl _ _,fun _ _ _ _ _=>rfl⟩
theorem Typed.same {w w':World}{b:Nat}{f:TypeId}(h:Typed w b f)(k:w'.heap[b]? =w.heap[b]?):Typed w' b f:=by
 obtain⟨cur,fr,hh⟩:=h
 exact⟨cur,fr,k.trans hh⟩
theorem KW.trans {B:Nat}{a b c:World}(h:KW B a b)(k:KW B b c):KW B a c:=
 ⟨h.bel.trans k.bel,fun x f h1 h2 ht=>(k.typed x f h1 h2 (ht.same (h.typed x f h1 h2 ht))).trans (h.typed x f h1 h2 ht)⟩
theorem KW.of_below {B:Nat}{w w':World}(h:Below w.heap.size w w')(hB:B≤w.heap.size):KW B w w':=⟨h.mono hB,fun b f _ _ ht=>h.block b ht.lt⟩
theorem KW.up {B:Nat}{a w w':World}(h:KW B a w)(k:Below w.heap.size w w')(hB:B≤w.heap.size):KW B a w':=h.trans (KW.of_below k hB)
theorem KW.cellT {B:Nat}{w w':World}(h:KW B w w'){b:Nat}{f:TypeId}(h1:f≠43)(h2:f≠40)(ht:Typed w b f)(o:Nat):w'.cell? ⟨b,o,none⟩=w.cell? ⟨b,o,none⟩:=by
 unfold World.cell?; rw[h.typed b f h1 h2 ht]
theorem Tryz.gPow:Tryz.prog.globalNamed "internal/strconv.uint64pow10" =some 1:=by kernel_rfl
def Tab (w:World):Prop:=Lib.TabIs Tryz.prog w "internal/strconv.uint64pow10" .u64 Lib.pow10Tab
theorem Tab.keep {w w':World}(h:Tab w)(hk:w'.heap[1]? =w.heap[1]?):Tab w':=by
 unfold Tab Lib.TabIs World.var? at h ⊢
 simp only[Tryz.gPow,Option.bind_some]at h ⊢
 rw[hk]
 exact h
structure WS (w:World)(B:Nat)(p:Option Addr)(c:Nat)(e:List Nd)(k:Nat)(v:Value)(L:List Tk):Prop where
 blk:w.heap[B]? =some (.cells #[.slice p e.length c,.int .i64 (k:Int),v] 40 (0,0))
 own:OTk w (B+1) v L
 nl:NL w p e
 ne:∀a,p=some a→a.block<B
 le:k≤e.length
 len:e.length≤200
 tb:Tab w
 ge:1<B
section
variable {w w':World} {B:Nat} {p:Option Addr} {c:Nat} {e:List Nd} {k:Nat} {v:Value} {L:List Tk}
theorem WS.lt (h:WS w B p c e k v L):B<w.heap.size:=(Array.getElem?_eq_some_iff.1 h.blk).1
theorem WS.c0 (h:WS w B p c e k v L):w.cell? ⟨B,0,none⟩=some (.slice p e.length c):=by simp[World.cell?, h.blk]
theorem WS.c1 (h:WS w B p c e k v L):w.cell? ⟨B,1,none⟩=some (.int .i64 (k:Int)):=by simp[World.cell?, h.blk]
theorem WS.c2 (h:WS w B p c e k v L):w.cell? ⟨B,2,none⟩=some v:=by simp[World.cell?, h.blk]
theorem WS.fz (h:WS w B p c e k v L)(i:Nat):w.frozen? ⟨B,i,none⟩=false:=by simp[World.frozen?, h.blk]
theorem NL.low {q:Option Addr}{M:List Nd}(h:NL w q M)(hn:∀a,q=some a→a.block<B)(k:Below B w w')(hs:w.heap.size≤w'.heap.size):NL w' q M:=by
 rcases h with h | ⟨b,off,h1,h2,h3⟩
 · exact .inl h
 · refine .inr ⟨b,off,h1,Nat.lt_of_lt_of_le h2 hs,fun i x hx=>?_⟩
   have q:∀o,w'.cell? ⟨b,o,none⟩=w.cell? ⟨b,o,none⟩:=fun o=>k.cell (p:=⟨b,o,none⟩) (hn ⟨b,off,none⟩ h1)
   simp only[q]
   exact h3 i x hx
theorem WS.up (h:WS w B p c e k v L)(hb:Below w.heap.size w w'):WS w' B p c e k v L:=
 ⟨(hb.block B h.lt).trans h.blk,h.own.below hb,h.nl.up hb,h.ne,h.le,h.len,h.tb.keep (hb.block _ (Nat.lt_trans h.ge h.lt)),h.ge⟩
theorem WS.setAt (h:WS w B p c e k v L){k':Nat}(hk:k'≤e.length):WS (w.setCell ⟨B,1,none⟩ (.int .i64 (k':Int))) B p c e k' v L:=
 ⟨heap_setCell_same w B 1 _ _ _ h.blk,h.own.other (fun g hg=>Below.heap_setCell w ⟨B,1,none⟩ _ g (by have:=(h.own.lt g hg).1;show g≠B;omega)),h.nl.low h.ne ⟨rfl,rfl,rfl,by simp,fun k hk=>Below.heap_setCell w ⟨B,1,none⟩ _ k (by show k≠B;omega)⟩ (by simp),h.ne,hk,h.len,h.tb.keep (Below.heap_setCell w ⟨B,1,none⟩ _ _ (by have:=h.ge;show _≠B;omega)),h.ge⟩
theorem KW.set {a:World}(h:KW B a w)(hB:Typed w B 40)(i:Nat)(u:Value):KW B a (w.setCell ⟨B,i,none⟩ u):=
 h.trans ⟨⟨rfl,rfl,rfl,by simp,fun k hk=>Below.heap_setCell w ⟨B,i,none⟩ u k (by show k≠B;omega)⟩,fun b f h1 h2 ht=>Below.heap_setCell w ⟨B,i,none⟩ u b (fun e=>by
  have e':b=B:=e
  subst e'
  obtain⟨c1,f1,g1⟩:=ht
  obtain⟨c2,f2,g2⟩:=hB
  rw[g1]at g2
  injection g2 with g2
  injection g2 with _ g2 _
  exact h2 g2)⟩
theorem WS.typed (h:WS w B p c e k v L):Typed w B 40:=⟨_,_,h.blk⟩
theorem WS.setTs (h:WS w B p c e k v L){w1:World}{v1:Value}{L1:List Tk}(hk:KW (B+1) w w1)(ho:OTk w1 (B+1) v1 L1):WS (w1.setCell ⟨B,2,none⟩ v1) B p c e k v1 L1:=by
 have hb:w1.heap[B]? =some (.cells #[.slice p e.length c,.int .i64 (k:Int),v] 40 (0,0)):=(hk.bel.block B (by omega)).trans h.blk
 have hnl:NL w1 p e:=h.nl.low (B:=B+1) (fun a ha=>Nat.lt_succ_of_lt (h.ne a ha)) hk.bel hk.bel.size
 exact⟨heap_setCell_same w1 B 2 _ _ _ hb,ho.other (fun g hg=>Below.heap_setCell w1 ⟨B,2,none⟩ _ g (by have:=(ho.lt g hg).1;show g≠B;omega)),hnl.low h.ne ⟨rfl,rfl,rfl,by simp,fun k hk=>Below.heap_setCell w1 ⟨B,2,none⟩ _ k (by show k≠B;omega)⟩ (by simp),h.ne,h.le,h.len,(h.tb.keep (hk.bel.block _ (Nat.lt_succ_of_lt h.ge))).keep (Below.heap_setCell w1 ⟨B,2,none⟩ _ _ (by have:=h.ge;show _≠B;omega)),h.ge⟩
theorem WS.far (h:WS w B p c e k v L){g:Nat}(hg:B<g)(hv:∀b,v.ownBlock=some b→b≠g)(i:Nat)(u:Value):WS (w.setCell ⟨g,i,none⟩ u) B p c e k v L:=
 ⟨(Below.heap_setCell w ⟨g,i,none⟩ u B (by show B≠g;omega)).trans h.blk,h.own.other (fun b hb=>Below.heap_setCell w ⟨g,i,none⟩ u b (hv b hb)),h.nl.low h.ne ⟨rfl,rfl,rfl,by simp,fun k hk=>Below.heap_setCell w ⟨g,i,none⟩ u k (by show k≠g;omega)⟩ (by simp),h.ne,h.le,h.len,h.tb.keep (Below.heap_setCell w ⟨g,i,none⟩ u _ (by have:=h.ge;show _≠g;omega)),h.ge⟩
theorem KW.far {a:World}(h:KW B a w){g:Nat}(hg:a.heap.size≤g)(hB:B≤g)(i:Nat)(u:Value):KW B a (w.setCell ⟨g,i,none⟩ u):=
 ⟨h.bel.trans ⟨rfl,rfl,rfl,by simp,fun k hk=>Below.heap_setCell w ⟨g,i,none⟩ u k (by show k≠g;omega)⟩,fun b f h1 h2 ht=>(Below.heap_setCell w ⟨g,i,none⟩ u b (by have:=ht.lt;show b≠g;omega)).trans (h.typed b f h1 h2 ht)⟩
theorem KW.drop (h:KW (B+1) w w'):KW B w w':=⟨h.bel.mono (Nat.le_succ _),h.typed⟩
end
theorem append_tokK (w:World){ops:Array Oper}{rest:List Oper}{o:Oper}{a:Act}{Q:Exit→Act→World→Prop}(hgd:o.guard=none)(s x:Operand)
 (ho:o.op= .call { callee:=.builtin .append,args:= #[s,x],argTypes:= #[23,23] })
 (base:Nat) (v:Value) (L:List Tk) (hs:a.eval s=v) (hown:OTk w base v L) (t:Tk) (hx:a.eval x= .slice (some ⟨w.heap.size,0,none⟩) 1 1)
 (hlen:L.length+1≤1099511627776) (hbase:base≤w.heap.size)
 (h:∀v' w',OTk w' base v' (L++[t])→KW base w w'→wpList Tryz.prog ops Q rest (a.put o.dst v') w'):wpList Tryz.prog ops Q (o::rest) a (w.alloc (.cells #[.int .i64 t.kind,.string t.s,.int .i64 t.at_] 43)):=by
 obtain⟨i0,hi,hz0,hz1,hz2⟩:=info_parts Tryz.infoTok
 refine wpList_append_own _ hgd s x 23 ho base 43 i0 _ 3 32 Tryz.underlying23 hi hz0 hz1 hz2 rfl (by decide) v L.length (tcells L) hs (hown.alloc _) ⟨w.heap.size,0,none⟩ 1 1 [.int .i64 t.kind,.string t.s,.int .i64 t.at_] hx rfl ?_ ?_ ?_ ?_ ?_ ?_
 · intro j u hj
   match j,hj with
   | 0,hj=>simp at hj;subst hj;simp[Addr.add]
   | 1,hj=>simp at hj;subst hj;simp[Addr.add]
   | 2,hj=>simp at hj;subst hj;simp[Addr.add]
 · intro u hu;simp at hu;rcases hu with rfl | rfl | rfl<;>rfl
 · unfold maxLen;omega
 · omega
 · simp;omega
 · intro v' w' h1 h2 _
   refine h v' w' ?_ ⟨?_,?_⟩
   · unfold OTk;rw[tcells_append,List.length_append];exact h1
   · refine((Below.refl base w).alloc hbase (.cells #[.int .i64 t.kind,.string t.s,.int .i64 t.at_] 43)).grown h2 (by simp;omega) ?_
     intro k hk
     exact(World.ownsRow.lt hown k hk).1
   · intro b f hf _ hty
     have hb0:(w.alloc (.cells #[.int .i64 t.kind,.string t.s,.int .i64 t.at_] 43)).heap[b]? =w.heap[b]? :=((Below.refl w.heap.size w).alloc (Nat.le_refl _) _).block b hty.lt
     refine(h2.block b (by have:=hty.lt;simp;omega) (fun e=>?_)).trans hb0
     rcases hown.2 with⟨hv,_⟩ | ⟨g,cap,cur,hv,hb,hgg,_⟩
     · rw[hv]at e;simp[Value.ownBlock]at e
     · rw[hv]at e
       simp[Value.ownBlock]at e
       subst e
       obtain⟨c1,f1,g1⟩:=hty
       rw[hgg]at g1
       injection g1 with g1
       injection g1 with _ g1 _
       exact hf g1.symm
def Wr (B:Nat)(p:Option Addr)(c:Nat)(e:List Nd)(k:Nat)(L:List Tk)(w w':World):Prop:=(∃v',WS w' B p c e k v' L)∧KW B w w'
theorem wadd_any (w:World)(B:Nat)(p:Option Addr)(c:Nat)(e:List Nd)(k:Nat)(v:Value)(L:List Tk)(kd:Int)(s:ByteArray)(h:WS w B p c e k v L)(hl:L.length≤1000000):
 Calls Tryz.prog 42 #[.pointer (some ⟨B,0,none⟩),.int .i64 kd,.string s] w fun en w'=>en= .returned (.tuple #[])∧Wr B p c e k (L++[⟨kd,s,0⟩]) w w':=by
 have c2:=h.c2
 have hlt:=h.lt
 go_enter Tryz.func42,Tryz.ntmps42
 go_wp2_with (at_builtin;refine append_tokK w rfl (.tmp 10) (.tmp 14) rfl (B+1) v L rfl h.own ⟨kd,s,0⟩ rfl (by omega) (by omega) ?_;intro v1 w1 ho1 hk1;obtain⟨qq,cq,ev,_⟩:=ho1.slice;subst ev;have b1:w1.heap[B]? =_:=(hk1.bel.block B (Nat.lt_succ_self _)).trans h.blk;have f1:w1.frozen? ⟨B,2,none⟩=false:=(by simp[World.frozen?, b1]);have d1:w1.cell? ⟨B,2,none⟩=some v:=(by simp[World.cell?, b1]))
 go_end0
 have ho2:OTk w1 (B+1) (.slice qq (L.length+1) cq) (L++[⟨kd,s,0⟩]):=by simpa using ho1
 exact⟨rfl,⟨_,h.setTs hk1 ho2⟩,KW.set hk1.drop ⟨_,_,b1⟩ 2 _⟩
theorem wtake_any (w:World)(B:Nat)(p:Option Addr)(c:Nat)(e:List Nd)(k:Nat)(v:Value)(L:List Tk)(x:Nd)(h:WS w B p c e k v L)(hx:e[k]? =some x):
 Calls Tryz.prog 34 #[.pointer (some ⟨B,0,none⟩)] w fun en w'=>en= .returned (.agg #[.int .i64 x.op,.int .i64 x.n,.string x.s,.string x.t])∧Wr B p c e (k+1) L w w':=by
 have hk:k<e.length:=(List.getElem?_eq_some_iff.1 hx).1
 have hel:=h.len
 have hb0:Below w.heap.size w (w.alloc (.cells #[.int .i64 0,.int .i64 0,.string ⟨#[]⟩,.string ⟨#[]⟩] 29)):=(Below.refl _ _).alloc (Nat.le_refl _) _
 have h1:=h.up hb0
 obtain⟨bq,oq,hpq,hbq,e0,e1,e2,e3,_⟩:=h.nl.at hk
 have hex:e[k]=x:=by rw[List.getElem?_eq_getElem hk]at hx;exact Option.some.inj hx
 rw[hex]at e0 e1 e2 e3
 subst hpq
 have c0:=h.c0
 have c1:=h.c1
 have f1:=h.fz 1
 have hlt:=h.lt
 have hB2:¬B=w.heap.size:=by omega
 have hB3:¬B=w.heap.size+1:=by omega
 have i1:(k:Int)<(e.length:Int):=by omega
 have i2:(k:Int)≤200:=by omega
 go_enter Tryz.func34,Tryz.ntmps34
 go_wp2
 go_region
 go_wp2
 have hz:Below (w.setCell ⟨B,1,none⟩ (.int .i64 ((k+1:Nat):Int))).heap.size (w.setCell ⟨B,1,none⟩ (.int .i64 ((k+1:Nat):Int))) (((w.setCell ⟨B,1,none⟩ (.int .i64 ((k+1:Nat):Int))).alloc (.cells #[.int .i64 x.op,.int .i64 x.n,.string x.s,.string x.t] 29)).alloc (.cells #[.int .i64 x.op,.int .i64 x.n,.string x.s,.string x.t] 29)).drew:=
  (((Below.refl _ _).alloc (Nat.le_refl _) _).alloc (by simp) _).drew
 refine bodyPost_ret (v:=.agg #[.int .i64 x.op,.int .i64 x.n,.string x.s,.string x.t]) (by simp[results,Tryz.results34,go_sem]) rfl ⟨rfl,⟨v,(h.setAt (k':=k+1) hk).up hz⟩,(KW.set (KW.refl B w) h.typed 1 _).up hz (by simp;omega)⟩
theorem formOf_any (op:Int)(w:World):Calls Tryz.prog 18 #[.int .i64 op] w fun en w'=>en= .returned (.int .i64 (lvO op:Int))∧w'=w:=by
 have HL:Hid (lvO op=if op=13 then 0 else if op=12 then 1 else if op=11 then 2 else if 14≤op∧op≤16∨20≤op∧op≤24∧op≠22 then 3 else if op=17∨op=18 then 4 else if op=19 then 5 else if op=9∨op=10 then 6 else if 22≤op∧op≤27 then 7 else 8):=rfl
 rw[HL.out]
 go_enter Tryz.func18,Tryz.ntmps18
 by_cases h:9≤op∧op≤27
 · obtain⟨n,rfl⟩:∃n:Nat,op=n:=⟨op.toNat,by omega⟩
   have hn:n=9∨n=10∨n=11∨n=12∨n=13∨n=14∨n=15∨n=16∨n=17∨n=18∨n=19∨n=20∨n=21∨n=22∨n=23∨n=24∨n=25∨n=26∨n=27:=by omega
   rcases hn with rfl | rfl | rfl | rfl | rfl | rfl | rfl | rfl | rfl | rfl | rfl | rfl | rfl | rfl | rfl | rfl | rfl | rfl | rfl<;>(go_wp2;go_ret;exact⟨rfl,rfl⟩)
 · have e:(if op=13 then 0 else if op=12 then 1 else if op=11 then 2 else if 14≤op∧op≤16∨20≤op∧op≤24∧op≠22 then 3 else if op=17∨op=18 then 4 else if op=19 then 5 else if op=9∨op=10 then 6 else if 22≤op∧op≤27 then 7 else 8:Nat)=8:=by
    repeat' split
    all_goals omega
   rw[e]
   have b9:(op == 9)=false:=by simp;omega
   have b10:(op == 10)=false:=by simp;omega
   have b11:(op == 11)=false:=by simp;omega
   have b12:(op == 12)=false:=by simp;omega
   have b13:(op == 13)=false:=by simp;omega
   have b14:(op == 14)=false:=by simp;omega
   have b15:(op == 15)=false:=by simp;omega
   have b16:(op == 16)=false:=by simp;omega
   have b17:(op == 17)=false:=by simp;omega
   have b18:(op == 18)=false:=by simp;omega
   have b19:(op == 19)=false:=by simp;omega
   have b20:(op == 20)=false:=by simp;omega
   have b21:(op == 21)=false:=by simp;omega
   have b22:(op == 22)=false:=by simp;omega
   have b23:(op == 23)=false:=by simp;omega
   have b24:(op == 24)=false:=by simp;omega
   have b25:(op == 25)=false:=by simp;omega
   have b26:(op == 26)=false:=by simp;omega
   have b27:(op == 27)=false:=by simp;omega
   clear HL e h
   go_wp2
   go_ret
   exact⟨rfl,rfl⟩
def sayT (s:ByteArray):Tk:=⟨if nfault s.data.toList=0 then 1 else 5,s,0⟩
theorem wsay_any (w:World)(B:Nat)(p:Option Addr)(c:Nat)(e:List Nd)(k:Nat)(v:Value)(L:List Tk)(ss:List ByteArray)(S:Nat)(h:WS w B p c e k v L)(hl:L.length≤900000)(hn:ss.length≤10)
 (hS:∀i x,ss[i]? =some x→w.cell? ⟨S,i,none⟩=some (.string x)) (hT:Typed w S 9) (hz:∀x∈ss,x.size≤maxLen):
 Calls Tryz.prog 20 #[.pointer (some ⟨B,0,none⟩),.slice (some ⟨S,0,none⟩) ss.length ss.length] w fun en w'=>en= .returned (.tuple #[])∧Wr B p c e k (L++ss.map sayT) w w':=by
 have hnl:ss.length≤10:=hn
 have HE:∀(w':World) (L':List Tk) (u:Value) (kd:Int) (s:ByteArray),WS w' B p c e k u L'→L'.length≤900010→Calls Tryz.prog 42 #[.pointer (some ⟨B,0,none⟩),.int .i64 kd,.string s] w' fun en w''=>en= .returned (.tuple #[])∧Wr B p c e k (L'++[⟨kd,s,0⟩]) w' w'':=
  fun w' L' u kd s h' hl'=>wadd_any w' B p c e k u L' kd s h' (by omega)
 go_enter Tryz.func20,Tryz.ntmps20
 go_wp2
 go_loopw [8] (fun i wr=>∃j:Nat,j≤ss.length∧i= .int .i64 j∧Wr B p c e k (L++(ss.take j).map sayT) w wr) (fun i _=>ss.length-(intOf i).toNat)
 case atStart=>exact⟨0,Nat.zero_le _,rfl,⟨v,by simpa using h⟩,KW.refl _ _⟩
 case round=>
  obtain⟨j,hj,rfl,⟨u,hu⟩,hk⟩:=hrel
  by_cases hlt:j<ss.length
  · have i1:(j:Int)<(ss.length:Int):=by omega
    have hx:=List.getElem?_eq_getElem hlt
    have hc:wr.cell? ⟨S,j,none⟩=some (.string ss[j]):=(hk.cellT (by decide) (by decide) hT j).trans (hS j _ hx)
    have HM:Hid (L++(ss.take (j+1)).map sayT=L++(ss.take j).map sayT++[sayT ss[j]]):=by
     show _=_
     rw[List.take_succ_eq_append_getElem hlt,List.map_append,List.map_cons,List.map_nil,List.append_assoc]
    have hll:(L++(ss.take j).map sayT).length≤900010:=by simp;omega
    have hsz:=hz _ (List.getElem_mem hlt)
    have HC:=check_any ss[j] wr hsz
    have hU:sayT ss[j]=⟨if nfault ss[j].data.toList=0 then 1 else 5,ss[j],0⟩:=rfl
    rw[hU]at HM
    clear hU hx
    generalize ss[j]=s at *
    generalize L++(ss.take j).map sayT=M at *
    by_cases hf:nfault s.data.toList=0
    · rw[eV_nil hf]at HC
      rw[if_pos hf]at HM
      go_wp2_with fail
      refine HC.mono ?_
      rintro en w1 ⟨rfl,rfl⟩
      go_wp2_with fail
      refine(HE _ M u 1 s hu hll).mono ?_
      rintro en w2 ⟨rfl,⟨u2,hu2⟩,hk2⟩
      go_wp2
      go_roundw
      case rel=>exact⟨j+1,by omega,by go_num,⟨u2,by rw[HM.out];exact hu2⟩,hk.trans hk2⟩
      case measure=>simp[intOf];omega
    · rw[eV_not hf]at HC
      rw[if_neg hf]at HM
      go_wp2_with fail
      refine HC.mono ?_
      rintro en w1 ⟨rfl,rfl⟩
      go_wp2_with fail
      refine(HE _ M u 5 s hu hll).mono ?_
      rintro en w2 ⟨rfl,⟨u2,hu2⟩,hk2⟩
      go_wp2
      go_roundw
      case rel=>exact⟨j+1,by omega,by go_num,⟨u2,by rw[HM.out];exact hu2⟩,hk.trans hk2⟩
      case measure=>simp[intOf];omega
  · obtain rfl:j=ss.length:=by omega
    have i1:¬(ss.length:Int)<(ss.length:Int):=by omega
    rw[List.take_length]at hu
    go_wp2
    go_end0
    exact⟨rfl,⟨u,hu⟩,hk⟩
end Go.Proofs.YtgbljlabifpmgaaGreatDoor
