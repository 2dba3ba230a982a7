import Derived.Test.YtjkepjbfgeldnaaGreatDoorB6
import Derived.Test.YtjkepjbfgeldnaaGreatDoorB16
import Derived.Test.YtjkepjbfgeldnaaGreatDoorB14
import Derived.Laws.AppendOwnNone
import Derived.Lib.LaidTab
import Derived.Lib.ItoaNum
import Derived.Test.YtjkepjbfgeldnaaGreatDoorB19
import Derived.Test.YtjkepjbfgeldnaaGreatDoorB18
import Derived.Test.YtjkepjbfgeldnaaGreatDoorB4
import Derived.StillTailTactics
set_option linter.unusedVariables false
set_option maxHeartbeats 12000000
namespace Go.Proofs.YtjkepjbfgeldnaaGreatDoor
open Go.RowKit
set_option maxRecDepth 100000
structure KW (B:Nat)(w w':World):Prop where
 bel:Below B w w'
 typed:∀b f,f≠78→f≠122→Typed w b f→w'.heap[b]? =w.heap[b]?
theorem KW.refl (B:Nat)(w:World):KW B w w:=⟨Below.refl _ _,fun _ _ _ _ _=>rfl⟩
theorem Typed.same {w w':World}{b:Nat}{f:TypeId}(h:Typed w b f)(k:w'.heap[b]? =w.heap[b]?):Typed w' b f:=by
 obtain⟨cur,fr,hh⟩:=h
 exact⟨cur,fr,k.trans hh⟩
theorem KW.trans {B:Nat}{a b c:World}(h:KW B a b)(k:KW B b c):KW B a c:=
 ⟨h.bel.trans k.bel,fun x f h1 h2 ht=>(k.typed x f h1 h2 (ht.same (h.typed x f h1 h2 ht))).trans (h.typed x f h1 h2 ht)⟩
theorem KW.of_below {B:Nat}{w w':World}(h:Below w.heap.size w w')(hB:B≤w.heap.size):KW B w w':=⟨h.mono hB,fun b f _ _ ht=>h.block b ht.lt⟩
theorem KW.up {B:Nat}{a w w':World}(h:KW B a w)(k:Below w.heap.size w w')(hB:B≤w.heap.size):KW B a w':=h.trans (KW.of_below k hB)
theorem KW.cellT {B:Nat}{w w':World}(h:KW B w w'){b:Nat}{f:TypeId}(h1:f≠78)(h2:f≠122)(ht:Typed w b f)(o:Nat):w'.cell? ⟨b,o,none⟩=w.cell? ⟨b,o,none⟩:=by
 unfold World.cell?; rw[h.typed b f h1 h2 ht]
theorem Tryz.gPow:Tryz.prog.globalNamed "internal/strconv.uint64pow10" =some 4:=by kernel_rfl
def Tab (w:World):Prop:=Lib.TabIs Tryz.prog w "internal/strconv.uint64pow10" .u64 Lib.pow10Tab
theorem Tab.keep {w w':World}(h:Tab w)(hk:w'.heap[4]? =w.heap[4]?):Tab w':=by
 unfold Tab Lib.TabIs World.var? at h ⊢
 simp only[Tryz.gPow,Option.bind_some]at h ⊢
 rw[hk]
 exact h
structure WS (w:World)(B:Nat)(p:Option Addr)(c:Nat)(e:List Nd)(k:Nat)(v:Value)(L:List Tk):Prop where
 blk:w.heap[B]? =some (.cells #[.slice p e.length c,.int .i64 (k:Int),v] 122 (0,0))
 own:OTk w (B+1) v L
 nl:NL w p e
 ne:∀a,p=some a→a.block<B
 le:k≤e.length
 len:e.length≤200
 tb:Tab w
 ge:4<B
section
variable {w w':World} {B:Nat} {p:Option Addr} {c:Nat} {e:List Nd} {k:Nat} {v:Value} {L:List Tk}
theorem WS.lt (h:WS w B p c e k v L):B<w.heap.size:=(Array.getElem?_eq_some_iff.1 h.blk).1
theorem WS.c0 (h:WS w B p c e k v L):w.cell? ⟨B,0,none⟩=some (.slice p e.length c):=by simp[World.cell?, h.blk]
theorem WS.c1 (h:WS w B p c e k v L):w.cell? ⟨B,1,none⟩=some (.int .i64 (k:Int)):=by simp[World.cell?, h.blk]
theorem WS.c2 (h:WS w B p c e k v L):w.cell? ⟨B,2,none⟩=some v:=by simp[World.cell?, h.blk]
theorem WS.fz (h:WS w B p c e k v L)(i:Nat):w.frozen? ⟨B,i,none⟩=false:=by simp[World.frozen?, h.blk]
theorem NL.low {q:Option Addr}{M:List Nd}(h:NL w q M)(hn:∀a,q=some a→a.block<B)(k:Below B w w')(hs:w.heap.size≤w'.heap.size):NL w' q M:=by
 rcases h with h | ⟨b,off,h1,h2,h3⟩
 · exact .inl h
 · refine .inr ⟨b,off,h1,Nat.lt_of_lt_of_le h2 hs,fun i x hx=>?_⟩
   have q:∀o,w'.cell? ⟨b,o,none⟩=w.cell? ⟨b,o,none⟩:=fun o=>k.cell (p:=⟨b,o,none⟩) (hn ⟨b,off,none⟩ h1)
   simp only[q]
   exact h3 i x hx
theorem WS.up (h:WS w B p c e k v L)(hb:Below w.heap.size w w'):WS w' B p c e k v L:=
 ⟨(hb.block B h.lt).trans h.blk,h.own.below hb,h.nl.up hb,h.ne,h.le,h.len,h.tb.keep (hb.block _ (Nat.lt_trans h.ge h.lt)),h.ge⟩
theorem WS.setAt (h:WS w B p c e k v L){k':Nat}(hk:k'≤e.length):WS (w.setCell ⟨B,1,none⟩ (.int .i64 (k':Int))) B p c e k' v L:=
 ⟨heap_setCell_same w B 1 _ _ _ h.blk,h.own.other (fun g hg=>Below.heap_setCell w ⟨B,1,none⟩ _ g (by have:=(h.own.lt g hg).1;show g≠B;omega)),h.nl.low h.ne ⟨rfl,rfl,rfl,by simp,fun k hk=>Below.heap_setCell w ⟨B,1,none⟩ _ k (by show k≠B;omega)⟩ (by simp),h.ne,hk,h.len,h.tb.keep (Below.heap_setCell w ⟨B,1,none⟩ _ _ (by have:=h.ge;show _≠B;omega)),h.ge⟩
theorem KW.set {a:World}(h:KW B a w)(hB:Typed w B 122)(i:Nat)(u:Value):KW B a (w.setCell ⟨B,i,none⟩ u):=
 h.trans ⟨⟨rfl,rfl,rfl,by simp,fun k hk=>Below.heap_setCell w ⟨B,i,none⟩ u k (by show k≠B;omega)⟩,fun b f h1 h2 ht=>Below.heap_setCell w ⟨B,i,none⟩ u b (fun e=>by
  have e':b=B:=e
  subst e'
  obtain⟨c1,f1,g1⟩:=ht
  obtain⟨c2,f2,g2⟩:=hB
  rw[g1]at g2
  injection g2 with g2
  injection g2 with _ g2 _
  exact h2 g2)⟩
theorem WS.typed (h:WS w B p c e k v L):Typed w B 122:=⟨_,_,h.blk⟩
theorem WS.setTs (h:WS w B p c e k v L){w1:World}{v1:Value}{L1:List Tk}(hk:KW (B+1) w w1)(ho:OTk w1 (B+1) v1 L1):WS (w1.setCell ⟨B,2,none⟩ v1) B p c e k v1 L1:=by
 have hb:w1.heap[B]? =some (.cells #[.slice p e.length c,.int .i64 (k:Int),v] 122 (0,0)):=(hk.bel.block B (by omega)).trans h.blk
 have hnl:NL w1 p e:=h.nl.low (B:=B+1) (fun a ha=>Nat.lt_succ_of_lt (h.ne a ha)) hk.bel hk.bel.size
 exact⟨heap_setCell_same w1 B 2 _ _ _ hb,ho.other (fun g hg=>Below.heap_setCell w1 ⟨B,2,none⟩ _ g (by have:=(ho.lt g hg).1;show g≠B;omega)),hnl.low h.ne ⟨rfl,rfl,rfl,by simp,fun k hk=>Below.heap_setCell w1 ⟨B,2,none⟩ _ k (by show k≠B;omega)⟩ (by simp),h.ne,h.le,h.len,(h.tb.keep (hk.bel.block _ (Nat.lt_succ_of_lt h.ge))).keep (Below.heap_setCell w1 ⟨B,2,none⟩ _ _ (by have:=h.ge;show _≠B;omega)),h.ge⟩
theorem WS.far (h:WS w B p c e k v L){g:Nat}(hg:B<g)(hv:∀b,v.ownBlock=some b→b≠g)(i:Nat)(u:Value):WS (w.setCell ⟨g,i,none⟩ u) B p c e k v L:=
 ⟨(Below.heap_setCell w ⟨g,i,none⟩ u B (by show B≠g;omega)).trans h.blk,h.own.other (fun b hb=>Below.heap_setCell w ⟨g,i,none⟩ u b (hv b hb)),h.nl.low h.ne ⟨rfl,rfl,rfl,by simp,fun k hk=>Below.heap_setCell w ⟨g,i,none⟩ u k (by show k≠g;omega)⟩ (by simp),h.ne,h.le,h.len,h.tb.keep (Below.heap_setCell w ⟨g,i,none⟩ u _ (by have:=h.ge;show _≠g;omega)),h.ge⟩
theorem KW.far {a:World}(h:KW B a w){g:Nat}(hg:a.heap.size≤g)(hB:B≤g)(i:Nat)(u:Value):KW B a (w.setCell ⟨g,i,none⟩ u):=
 ⟨h.bel.trans ⟨rfl,rfl,rfl,by simp,fun k hk=>Below.heap_setCell w ⟨g,i,none⟩ u k (by show k≠g;omega)⟩,fun b f h1 h2 ht=>(Below.heap_setCell w ⟨g,i,none⟩ u b (by have:=ht.lt;show b≠g;omega)).trans (h.typed b f h1 h2 ht)⟩
theorem KW.drop (h:KW (B+1) w w'):KW B w w':=⟨h.bel.mono (Nat.le_succ _),h.typed⟩
end
theorem append_tokK (w:World){ops:Array Oper}{rest:List Oper}{o:Oper}{a:Act}{Q:Exit→Act→World→Prop}(hgd:o.guard=none)(s x:Operand)
 (ho:o.op= .call { callee:=.builtin .append,args:= #[s,x],argTypes:= #[49,49] })
 (base:Nat) (v:Value) (L:List Tk) (hs:a.eval s=v) (hown:OTk w base v L) (t:Tk) (hx:a.eval x= .slice (some ⟨w.heap.size,0,none⟩) 1 1)
 (hlen:L.length+1≤1099511627776) (hbase:base≤w.heap.size)
 (h:∀v' w',OTk w' base v' (L++[t])→KW base w w'→wpList Tryz.prog ops Q rest (a.put o.dst v') w'):wpList Tryz.prog ops Q (o::rest) a (w.alloc (.cells #[.int .i64 t.kind,.string t.s,.int .i64 t.at_] 78)):=by
 obtain⟨i0,hi,hz0,hz1,hz2⟩:=info_parts Tryz.infoTok
 refine wpList_append_own _ hgd s x 49 ho base 78 i0 _ 3 32 Tryz.underlying49 hi hz0 hz1 hz2 rfl (by decide) v L.length (tcells L) hs (hown.alloc _) ⟨w.heap.size,0,none⟩ 1 1 [.int .i64 t.kind,.string t.s,.int .i64 t.at_] hx rfl ?_ ?_ ?_ ?_ ?_ ?_
 · intro j u hj
   match j,hj with
   | 0,hj=>simp at hj;subst hj;simp[Addr.add]
   | 1,hj=>simp at hj;subst hj;simp[Addr.add]
   | 2,hj=>simp at hj;subst hj;simp[Addr.add]
 · intro u hu;simp at hu;rcases hu with rfl | rfl | rfl<;>rfl
 · unfold maxLen;omega
 · omega
 · simp;omega
 · intro v' w' h1 h2 _
   refine h v' w' ?_ ⟨?_,?_⟩
   · unfold OTk;rw[tcells_append,List.length_append];exact h1
   · refine((Below.refl base w).alloc hbase (.cells #[.int .i64 t.kind,.string t.s,.int .i64 t.at_] 78)).grown h2 (by simp;omega) ?_
     intro k hk
     exact(World.ownsRow.lt hown k hk).1
   · intro b f hf _ hty
     have hb0:(w.alloc (.cells #[.int .i64 t.kind,.string t.s,.int .i64 t.at_] 78)).heap[b]? =w.heap[b]? :=((Below.refl w.heap.size w).alloc (Nat.le_refl _) _).block b hty.lt
     refine(h2.block b (by have:=hty.lt;simp;omega) (fun e=>?_)).trans hb0
     rcases hown.2 with⟨hv,_⟩ | ⟨g,cap,cur,hv,hb,hgg,_⟩
     · rw[hv]at e;simp[Value.ownBlock]at e
     · rw[hv]at e
       simp[Value.ownBlock]at e
       subst e
       obtain⟨c1,f1,g1⟩:=hty
       rw[hgg]at g1
       injection g1 with g1
       injection g1 with _ g1 _
       exact hf g1.symm
set_option linter.unusedSimpArgs false
theorem txt_neL {a:ByteArray}{l:List UInt8}(h:a≠⟨l.toArray⟩):(a.toList == l)=false:=by
 rw[beq_eq_false_iff_ne]
 intro e
 refine h (bytes_inj ?_)
 rw[←ByteArray.toList_eq,e]
def brS (s:ByteArray):Int:=if s=⟨#[123]⟩then 1 else if s=⟨#[125]⟩then-1 else 0
theorem brS_le (s:ByteArray): -1≤brS s∧brS s≤1:=by unfold brS;repeat' split
                                                   all_goals exact⟨by decide,by decide⟩
theorem brT_5 {t:Tk}(h:t.kind=5):brT t=brS t.s:=by unfold brT brS;rw[if_pos h]
theorem brT_n {t:Tk}(h:t.kind≠5):brT t=0:=by unfold brT;rw[if_neg h]
theorem braceOf_any (s:ByteArray)(w:World):Calls Tryz.prog 91 #[.string s] w fun e w'=>e= .returned (.int .i64 (brS s))∧w'=w:=by
 by_cases h1:s=⟨#[123]⟩
 · subst h1
   go_enter Tryz.func91,Tryz.ntmps91
   go_wp2
   go_ret
   exact⟨rfl,rfl⟩
 · by_cases h2:s=⟨#[125]⟩
   · subst h2
     go_enter Tryz.func91,Tryz.ntmps91
     go_wp2
     go_ret
     exact⟨rfl,rfl⟩
   · have HE:Hid (brS s=0):=by show _=_;unfold brS;rw[if_neg h1,if_neg h2]
     have e1:(s.toList == [123])=false:=txt_neL h1
     have e2:(s.toList == [125])=false:=txt_neL h2
     clear h1 h2
     go_enter Tryz.func91,Tryz.ntmps91
     go_wp2
     go_ret
     exact⟨by rw[HE.out];rfl,rfl⟩
theorem Rs.belowB {R N:Nat}{l:List Tk}{a b c:World}(h:Rs R l a b)(k:Below N b c)(hN:a.heap.size≤N)(hR:R<N):Rs R l a c:=by
 obtain⟨⟨p,cc,ts,n,d,hl⟩,hk⟩:=h
 refine⟨⟨p,cc,ts,n,⟨(k.block R hR).trans d.blk,d.tkLow (k.mono (Nat.le_of_lt hR)),d.lo,d.le,d.len⟩,hl⟩,?_⟩
 exact⟨k.os.trans hk.os,k.tape.trans hk.tape,k.output.trans hk.output,Nat.le_trans hk.size k.size,fun x hx hne=>(k.block x (by omega)).trans (hk.block x hx hne)⟩
theorem OTk.byRs {R base:Nat}{l:List Tk}{a b:World}{v:Value}{L:List Tk}(h:OTk a base v L)(k:Rs R l a b)(hR:R<base):OTk b base v L:=
 h.other (fun g hg=>k.2.block g (h.lt g hg).2 (fun e=>by have h1:=(h.lt g hg).1;have h2:g=R:=e;omega))
def InsRet (w':World)(L:List Tk)(e:Ending):Prop:=∃q c,e= .returned (.slice q L.length c)∧TKL w' q L∧L.length≤c∧c≤maxLen
theorem InsRet.own {w:World}{base:Nat}{v:Value}{L:List Tk}(h:OTk w base v L):InsRet w L (.returned v):=by
 obtain⟨q,c,rfl,h1,h2,h3,_⟩:=h.slice
 exact⟨q,c,rfl,h1,h2,h3⟩
section
variable {R:Nat} {l:List Tk} {a b:World}
theorem Rs.inside (h:Rs R l a b):
 Calls Tryz.prog 64 #[.pointer (some ⟨R,0,none⟩)] b fun e w'=>InsRet w' (insF 1 l).1 e∧Rs R (insF 1 l).2 b w':=by
 have hR:=h.lt
 have hsm:=h.small
 have HH:Hid (Rs R l b b):=h.refl
 clear h
 go_enter Tryz.func64,Tryz.ntmps64
 go_wp2
 go_loopw [3,4] (fun v i wr=>∃(k:Int) (L m:List Tk),i= .int .i64 k∧OTk wr b.heap.size v L∧Rs R m b wr∧ -(L.length:Int)≤k∧k≤(L.length:Int)+1∧L.length+m.length≤l.length∧Hid (insF 1 l=(L++(insF k m).1,(insF k m).2))) (fun v i _=>100001-(match v with | .slice _ n _=>n | _=>0))
 case atStart=>exact⟨1,[],l,rfl,OTk.nil _ _,HH.out,by simp,by simp,by simp,by show _=_;simp⟩
 case round=>
  obtain⟨k,L,m,rfl,hO,hr,hk1,hk2,hlm,HI⟩:=hrel
  obtain⟨⟨p,c,ts,n,d,hl⟩,_⟩:=id hr
  have c0:=d.c0
  have c1:=d.c1
  have hRw:=d.lt
  have hle:=d.le
  have hlen:=d.len
  have HO:Hid (OTk wr b.heap.size u3 L):=hO
  have HR:Hid (Rs R m b wr):=hr
  by_cases hlt:n<ts.length
  · have i1:(n:Int)<(ts.length:Int):=by omega
    cases m with
    | nil=>have:=congrArg List.length hl;rw[List.length_drop,List.length_nil]at this;omega
    | cons t r=>
      have HT:=fun W (hW:Below wr.heap.size wr W)=>(hr.up hW).refl.take
      rw[show fsT (t::r)=t from rfl,show(t::r).tail=r from rfl]at HT
      obtain⟨q3,c3,hv3,_⟩:=hO.slice
      have hlm2:L.length+r.length+1≤l.length:=by have:=hlm;simp at this;omega
      have HB:Hid (-(L.length:Int)≤k∧k≤(L.length:Int)+1∧L.length+r.length+1≤l.length∧l.length≤100000):=⟨hk1,hk2,hlm2,hsm⟩
      subst hv3
      unfold tkV at HT
      have b1: -100000≤k:=by omega
      have b2:k≤100001:=by omega
      clear d hl hO hr hlm hlm2 hk1 hk2
      by_cases hK:t.kind=5
      · have HK:Hid (t.kind=5):=hK
        have ik:(t.kind == 5)=true:=by rw[hK];rfl
        clear hK
        go_wp2
        go_region
        go_wp2_with fail
        refine(HT _ kqx).mono ?_
        rintro _ w2 ⟨rfl,h2⟩
        have H2:Hid (Rs R r b w2):=(HR.out.up kqx).then h2
        have HO2:Hid (OTk w2 b.heap.size (.slice q3 L.length c3) L):=(HO.out.below kqx).byRs h2 hR
        have hs2:b.heap.size≤w2.heap.size:=H2.out.2.size
        have HS2:Hid (b.heap.size≤w2.heap.size):=hs2
        clear HT h2 hs2 c0 c1
        go_wp2_with fail
        refine(braceOf_any t.s _).mono ?_
        rintro _ w3 ⟨rfl,rfl⟩
        obtain⟨z,hz⟩:∃z,z=brS t.s:=⟨_,rfl⟩
        have hz1:=brS_le t.s
        rw[←hz]at hz1 ⊢
        have HZ:Hid (brT t=z):=by show _=_;rw[hz];exact brT_5 HK.out
        clear hz
        obtain⟨hz1,hz2⟩:=hz1
        by_cases hc:k+z=0
        · have ic:(k+z == 0)=true:=by rw[hc];rfl
          have HE:Hid (insF 1 l=(L,r)):=by show _=_;rw[HI.out,insF_cons,HZ.out,if_pos (by exact hc)];simp
          go_wp2
          go_ret
          refine⟨?_,?_⟩
          · rw[HE.out];exact InsRet.own (HO2.out.below kqx)
          · rw[HE.out];exact H2.out.up kqx
        · have ic:(k+z == 0)=false:=by rw[beq_eq_false_iff_ne];exact hc
          have HE:Hid (insF 1 l=((L++[t])++(insF (k+z) r).1,(insF (k+z) r).2)):=by show _=_;rw[HI.out,insF_cons,HZ.out,if_neg (by exact hc)];simp
          go_wp2_with (first | (at_builtin;refine Hid.out ?_))
          show wpList _ _ _ _ _ _
          refine append_tokK (w2.alloc (.cells #[.int .i64 t.kind,.string t.s,.int .i64 t.at_] 78)) rfl (.tmp 28) (.tmp 30) rfl b.heap.size (.slice q3 L.length c3) L rfl (HO2.out.below kqx) t (by simp[go_sem]) (by have:=HB.out;omega) (Nat.le_trans HS2.out (by simp)) ?_
          intro v8 w8 ho8 hk8
          obtain⟨q8,c8,rfl,_⟩:=ho8.slice
          have HO8:Hid (OTk w8 b.heap.size (.slice q8 (L++[t]).length c8) (L++[t])):=ho8
          have HR8:Hid (Rs R r b w8):=(H2.out.up (kqx:Below w2.heap.size w2 (w2.alloc (.cells #[.int .i64 t.kind,.string t.s,.int .i64 t.at_] 78)))).belowB hk8.bel (Nat.le_refl _) hR
          have e8:(L++[t]).length=L.length+1:=by simp
          rw[e8]at HO8 ⊢
          clear ho8 hk8 e8
          go_wp2
          go_roundw
          case rel=>exact⟨k+z,L++[t],r,rfl,HO8.out,HR8.out,by have:=HB.out;simp;omega,by have:=HB.out;simp;omega,by have:=HB.out;simp;omega,HE⟩
          case measure=>have:=HB.out;simp;omega
      · have HK:Hid (t.kind≠5):=hK
        have ik:(t.kind == 5)=false:=by rw[beq_eq_false_iff_ne];exact hK
        clear hK
        go_wp2
        go_region
        go_wp2_with fail
        refine(HT _ kqx).mono ?_
        rintro _ w2 ⟨rfl,h2⟩
        have H2:Hid (Rs R r b w2):=(HR.out.up kqx).then h2
        have HO2:Hid (OTk w2 b.heap.size (.slice q3 L.length c3) L):=(HO.out.below kqx).byRs h2 hR
        have hs2:b.heap.size≤w2.heap.size:=H2.out.2.size
        have HS2:Hid (b.heap.size≤w2.heap.size):=hs2
        clear HT h2 hs2 c0 c1
        by_cases hc:k=0
        · have ic:(k == 0)=true:=by rw[hc];rfl
          have HE:Hid (insF 1 l=(L,r)):=by show _=_;rw[HI.out,insF_cons,(brT_n HK.out),if_pos (by omega)];simp
          go_wp2
          go_ret
          refine⟨?_,?_⟩
          · rw[HE.out];exact InsRet.own (HO2.out.below kqx)
          · rw[HE.out];exact H2.out.up kqx
        · have ic:(k == 0)=false:=by rw[beq_eq_false_iff_ne];exact hc
          have HE:Hid (insF 1 l=((L++[t])++(insF (k) r).1,(insF (k) r).2)):=by show _=_;rw[HI.out,insF_cons,(brT_n HK.out),Int.add_zero,if_neg (by exact hc)];simp
          go_wp2_with (first | (at_builtin;refine Hid.out ?_))
          show wpList _ _ _ _ _ _
          refine append_tokK (w2.alloc (.cells #[.int .i64 t.kind,.string t.s,.int .i64 t.at_] 78)) rfl (.tmp 28) (.tmp 30) rfl b.heap.size (.slice q3 L.length c3) L rfl (HO2.out.below kqx) t (by simp[go_sem]) (by have:=HB.out;omega) (Nat.le_trans HS2.out (by simp)) ?_
          intro v8 w8 ho8 hk8
          obtain⟨q8,c8,rfl,_⟩:=ho8.slice
          have HO8:Hid (OTk w8 b.heap.size (.slice q8 (L++[t]).length c8) (L++[t])):=ho8
          have HR8:Hid (Rs R r b w8):=(H2.out.up (kqx:Below w2.heap.size w2 (w2.alloc (.cells #[.int .i64 t.kind,.string t.s,.int .i64 t.at_] 78)))).belowB hk8.bel (Nat.le_refl _) hR
          have e8:(L++[t]).length=L.length+1:=by simp
          rw[e8]at HO8 ⊢
          clear ho8 hk8 e8
          go_wp2
          go_roundw
          case rel=>exact⟨k,L++[t],r,rfl,HO8.out,HR8.out,by have:=HB.out;simp;omega,by have:=HB.out;simp;omega,by have:=HB.out;simp;omega,HE⟩
          case measure=>have:=HB.out;simp;omega
  · have i1:¬(n:Int)<(ts.length:Int):=by omega
    have e:m=[]:=by rw[←hl];exact drop_none hlt
    subst e
    have HE:Hid (insF 1 l=(L,[])):=by show _=_;rw[HI.out];simp[insF]
    clear d hl
    go_wp2
    go_region
    go_wp2
    go_ret
    refine⟨?_,?_⟩
    · rw[HE.out];exact InsRet.own (HO.out.below kqx)
    · rw[HE.out];exact HR.out.up kqx
end
structure KP (B:Nat)(w w':World):Prop where
 bel:Below B w w'
 typed:∀b f,f≠78→f≠122→f≠57→Typed w b f→w'.heap[b]? =w.heap[b]?
theorem KP.refl (B:Nat)(w:World):KP B w w:=⟨Below.refl _ _,fun _ _ _ _ _ _=>rfl⟩
theorem KP.trans {B:Nat}{a b c:World}(h:KP B a b)(k:KP B b c):KP B a c:=
 ⟨h.bel.trans k.bel,fun x f h1 h2 h3 ht=>(k.typed x f h1 h2 h3 (ht.same (h.typed x f h1 h2 h3 ht))).trans (h.typed x f h1 h2 h3 ht)⟩
theorem KP.of_below {B:Nat}{w w':World}(h:Below w.heap.size w w')(hB:B≤w.heap.size):KP B w w':=⟨h.mono hB,fun b f _ _ _ ht=>h.block b ht.lt⟩
theorem KP.up {B:Nat}{a w w':World}(h:KP B a w)(k:Below w.heap.size w w')(hB:B≤w.heap.size):KP B a w':=h.trans (KP.of_below k hB)
theorem KP.blk {B:Nat}{w w':World}(h:KP B w w'){b:Nat}{cs:Array Value}{f:TypeId}(h1:f≠78)(h2:f≠122)(h3:f≠57)(k:Blk w b cs f):Blk w' b cs f:=⟨(h.typed b f h1 h2 h3 ⟨_,_,k.blk⟩).trans k.blk⟩
structure PW (w:World)(B:Nat)(v:Value)(L:List Tk):Prop where
 blk:w.heap[B]? =some (.cells #[v] 57 (0,0))
 own:OTk w (B+1) v L
section
variable {w w':World} {B:Nat} {v:Value} {L:List Tk}
theorem PW.lt (h:PW w B v L):B<w.heap.size:=(Array.getElem?_eq_some_iff.1 h.blk).1
theorem PW.c0 (h:PW w B v L):w.cell? ⟨B,0,none⟩=some v:=by simp[World.cell?, h.blk]
theorem PW.fz (h:PW w B v L):w.frozen? ⟨B,0,none⟩=false:=by simp[World.frozen?, h.blk]
theorem PW.up (h:PW w B v L)(hb:Below w.heap.size w w'):PW w' B v L:=⟨(hb.block B h.lt).trans h.blk,h.own.below hb⟩
theorem PW.new (w:World):PW (w.alloc (.cells #[.slice none 0 0] 57)) w.heap.size (.slice none 0 0) []:=⟨(MapKept.heap_alloc w _).1,OTk.nil _ _⟩
theorem PW.setTs (h:PW w B v L){w1:World}{v1:Value}{L1:List Tk}(hk:KW (B+1) w w1)(ho:OTk w1 (B+1) v1 L1):PW (w1.setCell ⟨B,0,none⟩ v1) B v1 L1∧KP B w (w1.setCell ⟨B,0,none⟩ v1):=by
 have hb:w1.heap[B]? =some (.cells #[v] 57 (0,0)):=(hk.bel.block B (by omega)).trans h.blk
 refine⟨⟨heap_setCell_same w1 B 0 _ _ _ hb,ho.other (fun g hg=>Below.heap_setCell w1 ⟨B,0,none⟩ _ g (by have:=(ho.lt g hg).1;show g≠B;omega))⟩,?_,?_⟩
 · exact(hk.bel.mono (Nat.le_succ _)).trans ⟨rfl,rfl,rfl,by simp,fun k hk=>Below.heap_setCell w1 ⟨B,0,none⟩ _ k (by show k≠B;omega)⟩
 · intro b f h1 h2 h3 ht
   refine(Below.heap_setCell w1 ⟨B,0,none⟩ _ b (fun e=>?_)).trans (hk.typed b f h1 h2 ht)
   have e':b=B:=e
   subst e'
   obtain⟨c1,f1,g1⟩:=ht
   rw[h.blk]at g1
   injection g1 with g1
   injection g1 with _ g1 _
   exact h3 g1.symm
end
def Pw (B:Nat)(L:List Tk)(w w':World):Prop:=(∃v',PW w' B v' L)∧KP B w w'
theorem Pw.then {B:Nat}{L M:List Tk}{a b c:World}(h:Pw B L a b)(k:Pw B M b c):Pw B M a c:=⟨k.1,h.2.trans k.2⟩
theorem padd_any (w:World)(B:Nat)(v:Value)(L:List Tk)(kd:Int)(s:ByteArray)(h:PW w B v L)(hl:L.length≤1000000):
 Calls Tryz.prog 42 #[.pointer (some ⟨B,0,none⟩),.int .i64 kd,.string s] w fun en w'=>en= .returned (.tuple #[])∧Pw B (L++[⟨kd,s,0⟩]) w w':=by
 have c0:=h.c0
 have hlt:=h.lt
 go_enter Tryz.func42,Tryz.ntmps42
 go_wp2_with (at_builtin;refine append_tokK w rfl (.tmp 10) (.tmp 14) rfl (B+1) v L rfl h.own ⟨kd,s,0⟩ rfl (by omega) (by omega) ?_;intro v1 w1 ho1 hk1;obtain⟨qq,cq,ev,_⟩:=ho1.slice;subst ev;have b1:w1.heap[B]? =_:=(hk1.bel.block B (Nat.lt_succ_self _)).trans h.blk;have f1:w1.frozen? ⟨B,0,none⟩=false:=(by simp[World.frozen?, b1]);have d1:w1.cell? ⟨B,0,none⟩=some v:=(by simp[World.cell?, b1]))
 go_end0
 have ho2:OTk w1 (B+1) (.slice qq (L.length+1) cq) (L++[⟨kd,s,0⟩]):=by simpa using ho1
 obtain⟨k1,k2⟩:=h.setTs hk1 ho2
 exact⟨rfl,⟨_,k1⟩,k2⟩
theorem Pw.add {B:Nat}{L:List Tk}{a b:World}(h:Pw B L a b)(kd:Int)(s:ByteArray)(hl:L.length≤1000000):
 Calls Tryz.prog 42 #[.pointer (some ⟨B,0,none⟩),.int .i64 kd,.string s] b fun en w'=>en= .returned (.tuple #[])∧Pw B (L++[⟨kd,s,0⟩]) a w':=by
 obtain⟨⟨v,hv⟩,hk⟩:=h
 exact(padd_any b B v L kd s hv hl).mono fun en w' ⟨h1,h2⟩=>⟨h1,h2.1,hk.trans h2.2⟩
theorem Pw.up {B:Nat}{L:List Tk}{a b c:World}(h:Pw B L a b)(k:Below b.heap.size b c):Pw B L a c:=by
 obtain⟨⟨v,hv⟩,hk⟩:=h
 exact⟨⟨v,hv.up k⟩,hk.up k (Nat.le_of_lt hv.lt)⟩
theorem Pw.refl {B:Nat}{L:List Tk}{v:Value}{w:World}(h:PW w B v L):Pw B L w w:=⟨⟨v,h⟩,KP.refl _ _⟩
theorem puid_any (w:World)(B:Nat)(v:Value)(L:List Tk)(u:Ui)(h:PW w B v L)(hl:L.length≤900000):
 Calls Tryz.prog 71 #[.pointer (some ⟨B,0,none⟩),.agg #[.string u.t,.string u.i]] w fun en w'=>en= .returned (.tuple #[])∧Pw B (L++uidW u) w w':=by
 obtain⟨V,hV⟩:∃V,V=w.alloc (.cells #[.string u.t,.string u.i] 23):=⟨_,rfl⟩
 have hbV:Below w.heap.size w V:=by rw[hV];exact kqx
 have HW:Hid (KP B w V):=KP.of_below hbV (Nat.le_of_lt h.lt)
 have P0:Pw B L V V:=Pw.refl (h.up hbV)
 have HB:Hid (∀w',KP B V w'→w'.cell? ⟨w.heap.size,1,none⟩=some (.string u.i)):=fun w' hk=>by
  have hb:Blk V w.heap.size #[.string u.t,.string u.i] 23:=by rw[hV];exact Blk.new w _ _ rfl
  exact(hk.blk (by decide) (by decide) (by decide) hb).cell 1
 have HU:Hid (L++uidW u=((L++[⟨1,u.t,0⟩])++[⟨5,⟨#[58,58]⟩,0⟩])++[⟨3,u.i,0⟩]):=by show _=_;simp[uidW,nmT,sgT,qtT,kCC]
 have P1:=P0.add 1 u.t (by omega)
 clear h P0
 go_enter Tryz.func71,Tryz.ntmps71
 go_wp2_with fail
 rw[←hV]
 clear hV
 refine P1.mono ?_
 rintro _ w1 ⟨rfl,p1⟩
 clear P1
 have P2:=p1.add 5 ⟨#[58,58]⟩ (by simp;omega)
 go_wp2_with fail
 refine P2.mono ?_
 rintro _ w2 ⟨rfl,p2⟩
 clear P2 p1
 have P3:=p2.add 3 u.i (by simp;omega)
 have x1:=HB.out w2 p2.2
 clear p2
 go_wp2_with fail
 refine P3.mono ?_
 rintro _ w3 ⟨rfl,p3⟩
 have HP3:Hid (Pw B (((L++[⟨1,u.t,0⟩])++[⟨5,⟨#[58,58]⟩,0⟩])++[⟨3,u.i,0⟩]) V w3):=p3
 clear p3 P3 x1
 go_wp2
 go_end0
 exact⟨rfl,by rw[HU.out];exact HP3.out.1,HW.out.trans HP3.out.2⟩
theorem Pw.uid {B:Nat}{L:List Tk}{a b:World}(h:Pw B L a b)(u:Ui)(hl:L.length≤900000):
 Calls Tryz.prog 71 #[.pointer (some ⟨B,0,none⟩),.agg #[.string u.t,.string u.i]] b fun en w'=>en= .returned (.tuple #[])∧Pw B (L++uidW u) a w':=by
 obtain⟨⟨v,hv⟩,hk⟩:=h
 exact(puid_any b B v L u hv hl).mono fun en w' ⟨h1,h2⟩=>⟨h1,h2.1,hk.trans h2.2⟩
theorem snoc2 {α :Type}(L:List α)(x: α)(M:List α):L++x::M=(L++[x])++M:=by simp
section
variable (w:World) (B:Nat) (v:Value) (L:List Tk) (s:Sco) (nm:ByteArray) (h:PW w B v L) (hl:L.length≤800000)
include h hl
theorem pside_0 (h0:s.op≠1∧s.op≠2∧s.op≠3∧s.op≠4∧s.op≠5∧s.op≠6):
 Calls Tryz.prog 43 #[.pointer (some ⟨B,0,none⟩),sdV s nm] w fun en w'=>en= .returned (.tuple #[])∧Pw B (L++sdW nm s) w w':=by
 obtain⟨op,ty,⟨ut,ui⟩⟩:=s
 simp only at h0
 obtain⟨V,hV⟩:∃V,V=w.alloc (.cells #[.int .i64 op,.string ty,.string ut,.string ui,.string nm] 87):=⟨_,rfl⟩
 have hbV:Below w.heap.size w V:=by rw[hV];exact kqx
 have HW:Hid (KP B w V):=KP.of_below hbV (Nat.le_of_lt h.lt)
 have P0:Pw B L V V:=Pw.refl (h.up hbV)
 have HB:Hid (∀w',KP B V w'→w'.cell? ⟨w.heap.size,0,none⟩=some (.int .i64 op)∧w'.cell? ⟨w.heap.size,1,none⟩=some (.string ty)∧w'.cell? ⟨w.heap.size,2,none⟩=some (.string ut)∧w'.cell? ⟨w.heap.size,3,none⟩=some (.string ui)∧w'.cell? ⟨w.heap.size,4,none⟩=some (.string nm)):=fun w' hk=>by
  have hb:Blk V w.heap.size #[.int .i64 op,.string ty,.string ut,.string ui,.string nm] 87:=by rw[hV];exact Blk.new w _ _ rfl
  have hb2:=hk.blk (by decide) (by decide) (by decide) hb
  exact⟨hb2.cell 0,hb2.cell 1,hb2.cell 2,hb2.cell 3,hb2.cell 4⟩
 have HU:Hid (L++sdW nm ⟨op,ty,⟨ut,ui⟩⟩=(L++[⟨1,nm,0⟩])):=by show _=_;simp[sdW,scW,nmT,h0]
 obtain⟨n1,n2,n3,n4,n5,n6⟩:=h0
 have b1:(op == 1)=false:=by rw[beq_eq_false_iff_ne];exact n1
 have b2:(op == 2)=false:=by rw[beq_eq_false_iff_ne];exact n2
 have b3:(op == 3)=false:=by rw[beq_eq_false_iff_ne];exact n3
 have b4:(op == 4)=false:=by rw[beq_eq_false_iff_ne];exact n4
 have b5:(op == 5)=false:=by rw[beq_eq_false_iff_ne];exact n5
 have b6:(op == 6)=false:=by rw[beq_eq_false_iff_ne];exact n6
 clear n1 n2 n3 n4 n5 n6
 have P1:=P0.add 1 nm (by omega)
 clear h P0
 unfold sdV
 simp only
 go_enter Tryz.func43,Tryz.ntmps43
 go_wp2_with fail
 rw[←hV]
 clear hV
 refine P1.mono ?_
 rintro _ w1 ⟨rfl,p1⟩
 clear P1
 obtain⟨x0,x1,x2,x3,x4⟩:=HB.out w1 p1.2
 have HP:Hid (Pw B (L++[⟨1,nm,0⟩]) V w1):=p1
 clear p1
 go_wp2
 go_end0
 exact⟨rfl,by rw[HU.out];exact HP.out.1,HW.out.trans HP.out.2⟩
theorem pside_1 (h0:s.op=1):
 Calls Tryz.prog 43 #[.pointer (some ⟨B,0,none⟩),sdV s nm] w fun en w'=>en= .returned (.tuple #[])∧Pw B (L++sdW nm s) w w':=by
 obtain⟨op,ty,⟨ut,ui⟩⟩:=s
 simp only at h0
 obtain⟨V,hV⟩:∃V,V=w.alloc (.cells #[.int .i64 op,.string ty,.string ut,.string ui,.string nm] 87):=⟨_,rfl⟩
 have hbV:Below w.heap.size w V:=by rw[hV];exact kqx
 have HW:Hid (KP B w V):=KP.of_below hbV (Nat.le_of_lt h.lt)
 have P0:Pw B L V V:=Pw.refl (h.up hbV)
 have HB:Hid (∀w',KP B V w'→w'.cell? ⟨w.heap.size,0,none⟩=some (.int .i64 op)∧w'.cell? ⟨w.heap.size,1,none⟩=some (.string ty)∧w'.cell? ⟨w.heap.size,2,none⟩=some (.string ut)∧w'.cell? ⟨w.heap.size,3,none⟩=some (.string ui)∧w'.cell? ⟨w.heap.size,4,none⟩=some (.string nm)):=fun w' hk=>by
  have hb:Blk V w.heap.size #[.int .i64 op,.string ty,.string ut,.string ui,.string nm] 87:=by rw[hV];exact Blk.new w _ _ rfl
  have hb2:=hk.blk (by decide) (by decide) (by decide) hb
  exact⟨hb2.cell 0,hb2.cell 1,hb2.cell 2,hb2.cell 3,hb2.cell 4⟩
 have HU:Hid (L++sdW nm ⟨op,ty,⟨ut,ui⟩⟩=(((L++[⟨1,nm,0⟩])++[⟨5,⟨#[61,61]⟩,0⟩])++uidW ⟨ut,ui⟩)):=by show _=_;simp[sdW,scW,nmT,sgT,slT,kEq,kIn,kIs,h0]
 subst h0
 have P1:=P0.add 1 nm (by omega)
 clear h P0
 unfold sdV
 simp only
 go_enter Tryz.func43,Tryz.ntmps43
 go_wp2_with fail
 rw[←hV]
 clear hV
 refine P1.mono ?_
 rintro _ w1 ⟨rfl,p1⟩
 clear P1
 obtain⟨x0,x1,x2,x3,x4⟩:=HB.out w1 p1.2
 have P2:=p1.add 5 ⟨#[61,61]⟩ (by simp;omega)
 clear p1
 go_wp2_with fail
 refine P2.mono ?_
 rintro _ w2 ⟨rfl,p2⟩
 clear P2 x0 x1 x2 x3 x4
 have P3:=p2.uid ⟨ut,ui⟩ (by simp;omega)
 obtain⟨x0,x1,x2,x3,x4⟩:=HB.out w2 p2.2
 clear p2
 go_wp2_with fail
 refine P3.mono ?_
 rintro _ w3 ⟨rfl,p3⟩
 clear P3 x0 x1 x2 x3 x4
 have HP:Hid (Pw B (((L++[⟨1,nm,0⟩])++[⟨5,⟨#[61,61]⟩,0⟩])++uidW ⟨ut,ui⟩) V w3):=p3
 clear p3
 go_wp2
 go_end0
 exact⟨rfl,by rw[HU.out];exact HP.out.1,HW.out.trans HP.out.2⟩
theorem pside_2 (h0:s.op=2):
 Calls Tryz.prog 43 #[.pointer (some ⟨B,0,none⟩),sdV s nm] w fun en w'=>en= .returned (.tuple #[])∧Pw B (L++sdW nm s) w w':=by
 obtain⟨op,ty,⟨ut,ui⟩⟩:=s
 simp only at h0
 obtain⟨V,hV⟩:∃V,V=w.alloc (.cells #[.int .i64 op,.string ty,.string ut,.string ui,.string nm] 87):=⟨_,rfl⟩
 have hbV:Below w.heap.size w V:=by rw[hV];exact kqx
 have HW:Hid (KP B w V):=KP.of_below hbV (Nat.le_of_lt h.lt)
 have P0:Pw B L V V:=Pw.refl (h.up hbV)
 have HB:Hid (∀w',KP B V w'→w'.cell? ⟨w.heap.size,0,none⟩=some (.int .i64 op)∧w'.cell? ⟨w.heap.size,1,none⟩=some (.string ty)∧w'.cell? ⟨w.heap.size,2,none⟩=some (.string ut)∧w'.cell? ⟨w.heap.size,3,none⟩=some (.string ui)∧w'.cell? ⟨w.heap.size,4,none⟩=some (.string nm)):=fun w' hk=>by
  have hb:Blk V w.heap.size #[.int .i64 op,.string ty,.string ut,.string ui,.string nm] 87:=by rw[hV];exact Blk.new w _ _ rfl
  have hb2:=hk.blk (by decide) (by decide) (by decide) hb
  exact⟨hb2.cell 0,hb2.cell 1,hb2.cell 2,hb2.cell 3,hb2.cell 4⟩
 have HU:Hid (L++sdW nm ⟨op,ty,⟨ut,ui⟩⟩=(((L++[⟨1,nm,0⟩])++[⟨1,⟨#[105,110]⟩,0⟩])++uidW ⟨ut,ui⟩)):=by show _=_;simp[sdW,scW,nmT,sgT,slT,kEq,kIn,kIs,h0]
 subst h0
 have P1:=P0.add 1 nm (by omega)
 clear h P0
 unfold sdV
 simp only
 go_enter Tryz.func43,Tryz.ntmps43
 go_wp2_with fail
 rw[←hV]
 clear hV
 refine P1.mono ?_
 rintro _ w1 ⟨rfl,p1⟩
 clear P1
 obtain⟨x0,x1,x2,x3,x4⟩:=HB.out w1 p1.2
 have P2:=p1.add 1 ⟨#[105,110]⟩ (by simp;omega)
 clear p1
 go_wp2_with fail
 refine P2.mono ?_
 rintro _ w2 ⟨rfl,p2⟩
 clear P2 x0 x1 x2 x3 x4
 have P3:=p2.uid ⟨ut,ui⟩ (by simp;omega)
 obtain⟨x0,x1,x2,x3,x4⟩:=HB.out w2 p2.2
 clear p2
 go_wp2_with fail
 refine P3.mono ?_
 rintro _ w3 ⟨rfl,p3⟩
 clear P3 x0 x1 x2 x3 x4
 have HP:Hid (Pw B (((L++[⟨1,nm,0⟩])++[⟨1,⟨#[105,110]⟩,0⟩])++uidW ⟨ut,ui⟩) V w3):=p3
 clear p3
 go_wp2
 go_end0
 exact⟨rfl,by rw[HU.out];exact HP.out.1,HW.out.trans HP.out.2⟩
theorem pside_3 (h0:s.op=3):
 Calls Tryz.prog 43 #[.pointer (some ⟨B,0,none⟩),sdV s nm] w fun en w'=>en= .returned (.tuple #[])∧Pw B (L++sdW nm s) w w':=by
 obtain⟨op,ty,⟨ut,ui⟩⟩:=s
 simp only at h0
 obtain⟨V,hV⟩:∃V,V=w.alloc (.cells #[.int .i64 op,.string ty,.string ut,.string ui,.string nm] 87):=⟨_,rfl⟩
 have hbV:Below w.heap.size w V:=by rw[hV];exact kqx
 have HW:Hid (KP B w V):=KP.of_below hbV (Nat.le_of_lt h.lt)
 have P0:Pw B L V V:=Pw.refl (h.up hbV)
 have HB:Hid (∀w',KP B V w'→w'.cell? ⟨w.heap.size,0,none⟩=some (.int .i64 op)∧w'.cell? ⟨w.heap.size,1,none⟩=some (.string ty)∧w'.cell? ⟨w.heap.size,2,none⟩=some (.string ut)∧w'.cell? ⟨w.heap.size,3,none⟩=some (.string ui)∧w'.cell? ⟨w.heap.size,4,none⟩=some (.string nm)):=fun w' hk=>by
  have hb:Blk V w.heap.size #[.int .i64 op,.string ty,.string ut,.string ui,.string nm] 87:=by rw[hV];exact Blk.new w _ _ rfl
  have hb2:=hk.blk (by decide) (by decide) (by decide) hb
  exact⟨hb2.cell 0,hb2.cell 1,hb2.cell 2,hb2.cell 3,hb2.cell 4⟩
 have HU:Hid (L++sdW nm ⟨op,ty,⟨ut,ui⟩⟩=(((L++[⟨1,nm,0⟩])++[⟨1,⟨#[105,115]⟩,0⟩])++[⟨1,ty,0⟩])):=by show _=_;simp[sdW,scW,nmT,sgT,slT,kEq,kIn,kIs,h0]
 subst h0
 have P1:=P0.add 1 nm (by omega)
 clear h P0
 unfold sdV
 simp only
 go_enter Tryz.func43,Tryz.ntmps43
 go_wp2_with fail
 rw[←hV]
 clear hV
 refine P1.mono ?_
 rintro _ w1 ⟨rfl,p1⟩
 clear P1
 obtain⟨x0,x1,x2,x3,x4⟩:=HB.out w1 p1.2
 have P2:=p1.add 1 ⟨#[105,115]⟩ (by simp;omega)
 clear p1
 go_wp2_with fail
 refine P2.mono ?_
 rintro _ w2 ⟨rfl,p2⟩
 clear P2 x0 x1 x2 x3 x4
 have P3:=p2.add 1 ty (by simp;omega)
 obtain⟨x0,x1,x2,x3,x4⟩:=HB.out w2 p2.2
 clear p2
 go_wp2_with fail
 refine P3.mono ?_
 rintro _ w3 ⟨rfl,p3⟩
 clear P3 x0 x1 x2 x3 x4
 have HP:Hid (Pw B (((L++[⟨1,nm,0⟩])++[⟨1,⟨#[105,115]⟩,0⟩])++[⟨1,ty,0⟩]) V w3):=p3
 clear p3
 go_wp2
 go_end0
 exact⟨rfl,by rw[HU.out];exact HP.out.1,HW.out.trans HP.out.2⟩
theorem pside_4 (h0:s.op=4):
 Calls Tryz.prog 43 #[.pointer (some ⟨B,0,none⟩),sdV s nm] w fun en w'=>en= .returned (.tuple #[])∧Pw B (L++sdW nm s) w w':=by
 obtain⟨op,ty,⟨ut,ui⟩⟩:=s
 simp only at h0
 obtain⟨V,hV⟩:∃V,V=w.alloc (.cells #[.int .i64 op,.string ty,.string ut,.string ui,.string nm] 87):=⟨_,rfl⟩
 have hbV:Below w.heap.size w V:=by rw[hV];exact kqx
 have HW:Hid (KP B w V):=KP.of_below hbV (Nat.le_of_lt h.lt)
 have P0:Pw B L V V:=Pw.refl (h.up hbV)
 have HB:Hid (∀w',KP B V w'→w'.cell? ⟨w.heap.size,0,none⟩=some (.int .i64 op)∧w'.cell? ⟨w.heap.size,1,none⟩=some (.string ty)∧w'.cell? ⟨w.heap.size,2,none⟩=some (.string ut)∧w'.cell? ⟨w.heap.size,3,none⟩=some (.string ui)∧w'.cell? ⟨w.heap.size,4,none⟩=some (.string nm)):=fun w' hk=>by
  have hb:Blk V w.heap.size #[.int .i64 op,.string ty,.string ut,.string ui,.string nm] 87:=by rw[hV];exact Blk.new w _ _ rfl
  have hb2:=hk.blk (by decide) (by decide) (by decide) hb
  exact⟨hb2.cell 0,hb2.cell 1,hb2.cell 2,hb2.cell 3,hb2.cell 4⟩
 have HU:Hid (L++sdW nm ⟨op,ty,⟨ut,ui⟩⟩=(((((L++[⟨1,nm,0⟩])++[⟨1,⟨#[105,115]⟩,0⟩])++[⟨1,ty,0⟩])++[⟨1,⟨#[105,110]⟩,0⟩])++uidW ⟨ut,ui⟩)):=by show _=_;simp[sdW,scW,nmT,sgT,slT,kEq,kIn,kIs,h0]
 subst h0
 have P1:=P0.add 1 nm (by omega)
 clear h P0
 unfold sdV
 simp only
 go_enter Tryz.func43,Tryz.ntmps43
 go_wp2_with fail
 rw[←hV]
 clear hV
 refine P1.mono ?_
 rintro _ w1 ⟨rfl,p1⟩
 clear P1
 obtain⟨x0,x1,x2,x3,x4⟩:=HB.out w1 p1.2
 have P2:=p1.add 1 ⟨#[105,115]⟩ (by simp;omega)
 clear p1
 go_wp2_with fail
 refine P2.mono ?_
 rintro _ w2 ⟨rfl,p2⟩
 clear P2 x0 x1 x2 x3 x4
 have P3:=p2.add 1 ty (by simp;omega)
 obtain⟨x0,x1,x2,x3,x4⟩:=HB.out w2 p2.2
 clear p2
 go_wp2_with fail
 refine P3.mono ?_
 rintro _ w3 ⟨rfl,p3⟩
 clear P3 x0 x1 x2 x3 x4
 have P4:=p3.add 1 ⟨#[105,110]⟩ (by simp;omega)
 obtain⟨x0,x1,x2,x3,x4⟩:=HB.out w3 p3.2
 clear p3
 go_wp2_with fail
 refine P4.mono ?_
 rintro _ w4 ⟨rfl,p4⟩
 clear P4 x0 x1 x2 x3 x4
 have P5:=p4.uid ⟨ut,ui⟩ (by simp;omega)
 obtain⟨x0,x1,x2,x3,x4⟩:=HB.out w4 p4.2
 clear p4
 go_wp2_with fail
 refine P5.mono ?_
 rintro _ w5 ⟨rfl,p5⟩
 clear P5 x0 x1 x2 x3 x4
 have HP:Hid (Pw B (((((L++[⟨1,nm,0⟩])++[⟨1,⟨#[105,115]⟩,0⟩])++[⟨1,ty,0⟩])++[⟨1,⟨#[105,110]⟩,0⟩])++uidW ⟨ut,ui⟩) V w5):=p5
 clear p5
 go_wp2
 go_end0
 exact⟨rfl,by rw[HU.out];exact HP.out.1,HW.out.trans HP.out.2⟩
theorem pside_5 (h0:s.op=5):
 Calls Tryz.prog 43 #[.pointer (some ⟨B,0,none⟩),sdV s nm] w fun en w'=>en= .returned (.tuple #[])∧Pw B (L++sdW nm s) w w':=by
 obtain⟨op,ty,⟨ut,ui⟩⟩:=s
 simp only at h0
 obtain⟨V,hV⟩:∃V,V=w.alloc (.cells #[.int .i64 op,.string ty,.string ut,.string ui,.string nm] 87):=⟨_,rfl⟩
 have hbV:Below w.heap.size w V:=by rw[hV];exact kqx
 have HW:Hid (KP B w V):=KP.of_below hbV (Nat.le_of_lt h.lt)
 have P0:Pw B L V V:=Pw.refl (h.up hbV)
 have HB:Hid (∀w',KP B V w'→w'.cell? ⟨w.heap.size,0,none⟩=some (.int .i64 op)∧w'.cell? ⟨w.heap.size,1,none⟩=some (.string ty)∧w'.cell? ⟨w.heap.size,2,none⟩=some (.string ut)∧w'.cell? ⟨w.heap.size,3,none⟩=some (.string ui)∧w'.cell? ⟨w.heap.size,4,none⟩=some (.string nm)):=fun w' hk=>by
  have hb:Blk V w.heap.size #[.int .i64 op,.string ty,.string ut,.string ui,.string nm] 87:=by rw[hV];exact Blk.new w _ _ rfl
  have hb2:=hk.blk (by decide) (by decide) (by decide) hb
  exact⟨hb2.cell 0,hb2.cell 1,hb2.cell 2,hb2.cell 3,hb2.cell 4⟩
 have HU:Hid (L++sdW nm ⟨op,ty,⟨ut,ui⟩⟩=(((L++[⟨1,nm,0⟩])++[⟨5,⟨#[61,61]⟩,0⟩])++[⟨4,nm,0⟩])):=by show _=_;simp[sdW,scW,nmT,sgT,slT,kEq,kIn,kIs,h0]
 subst h0
 have P1:=P0.add 1 nm (by omega)
 clear h P0
 unfold sdV
 simp only
 go_enter Tryz.func43,Tryz.ntmps43
 go_wp2_with fail
 rw[←hV]
 clear hV
 refine P1.mono ?_
 rintro _ w1 ⟨rfl,p1⟩
 clear P1
 obtain⟨x0,x1,x2,x3,x4⟩:=HB.out w1 p1.2
 have P2:=p1.add 5 ⟨#[61,61]⟩ (by simp;omega)
 clear p1
 go_wp2_with fail
 refine P2.mono ?_
 rintro _ w2 ⟨rfl,p2⟩
 clear P2 x0 x1 x2 x3 x4
 have P3:=p2.add 4 nm (by simp;omega)
 obtain⟨x0,x1,x2,x3,x4⟩:=HB.out w2 p2.2
 clear p2
 go_wp2_with fail
 refine P3.mono ?_
 rintro _ w3 ⟨rfl,p3⟩
 clear P3 x0 x1 x2 x3 x4
 have HP:Hid (Pw B (((L++[⟨1,nm,0⟩])++[⟨5,⟨#[61,61]⟩,0⟩])++[⟨4,nm,0⟩]) V w3):=p3
 clear p3
 go_wp2
 go_end0
 exact⟨rfl,by rw[HU.out];exact HP.out.1,HW.out.trans HP.out.2⟩
theorem pside_6 (h0:s.op=6):
 Calls Tryz.prog 43 #[.pointer (some ⟨B,0,none⟩),sdV s nm] w fun en w'=>en= .returned (.tuple #[])∧Pw B (L++sdW nm s) w w':=by
 obtain⟨op,ty,⟨ut,ui⟩⟩:=s
 simp only at h0
 obtain⟨V,hV⟩:∃V,V=w.alloc (.cells #[.int .i64 op,.string ty,.string ut,.string ui,.string nm] 87):=⟨_,rfl⟩
 have hbV:Below w.heap.size w V:=by rw[hV];exact kqx
 have HW:Hid (KP B w V):=KP.of_below hbV (Nat.le_of_lt h.lt)
 have P0:Pw B L V V:=Pw.refl (h.up hbV)
 have HB:Hid (∀w',KP B V w'→w'.cell? ⟨w.heap.size,0,none⟩=some (.int .i64 op)∧w'.cell? ⟨w.heap.size,1,none⟩=some (.string ty)∧w'.cell? ⟨w.heap.size,2,none⟩=some (.string ut)∧w'.cell? ⟨w.heap.size,3,none⟩=some (.string ui)∧w'.cell? ⟨w.heap.size,4,none⟩=some (.string nm)):=fun w' hk=>by
  have hb:Blk V w.heap.size #[.int .i64 op,.string ty,.string ut,.string ui,.string nm] 87:=by rw[hV];exact Blk.new w _ _ rfl
  have hb2:=hk.blk (by decide) (by decide) (by decide) hb
  exact⟨hb2.cell 0,hb2.cell 1,hb2.cell 2,hb2.cell 3,hb2.cell 4⟩
 have HU:Hid (L++sdW nm ⟨op,ty,⟨ut,ui⟩⟩=(((L++[⟨1,nm,0⟩])++[⟨1,⟨#[105,110]⟩,0⟩])++[⟨4,nm,0⟩])):=by show _=_;simp[sdW,scW,nmT,sgT,slT,kEq,kIn,kIs,h0]
 subst h0
 have P1:=P0.add 1 nm (by omega)
 clear h P0
 unfold sdV
 simp only
 go_enter Tryz.func43,Tryz.ntmps43
 go_wp2_with fail
 rw[←hV]
 clear hV
 refine P1.mono ?_
 rintro _ w1 ⟨rfl,p1⟩
 clear P1
 obtain⟨x0,x1,x2,x3,x4⟩:=HB.out w1 p1.2
 have P2:=p1.add 1 ⟨#[105,110]⟩ (by simp;omega)
 clear p1
 go_wp2_with fail
 refine P2.mono ?_
 rintro _ w2 ⟨rfl,p2⟩
 clear P2 x0 x1 x2 x3 x4
 have P3:=p2.add 4 nm (by simp;omega)
 obtain⟨x0,x1,x2,x3,x4⟩:=HB.out w2 p2.2
 clear p2
 go_wp2_with fail
 refine P3.mono ?_
 rintro _ w3 ⟨rfl,p3⟩
 clear P3 x0 x1 x2 x3 x4
 have HP:Hid (Pw B (((L++[⟨1,nm,0⟩])++[⟨1,⟨#[105,110]⟩,0⟩])++[⟨4,nm,0⟩]) V w3):=p3
 clear p3
 go_wp2
 go_end0
 exact⟨rfl,by rw[HU.out];exact HP.out.1,HW.out.trans HP.out.2⟩
theorem pside_any:
 Calls Tryz.prog 43 #[.pointer (some ⟨B,0,none⟩),sdV s nm] w fun en w'=>en= .returned (.tuple #[])∧Pw B (L++sdW nm s) w w':=by
 by_cases h1:s.op=1
 · exact pside_1 w B v L s nm h hl h1
 by_cases h2:s.op=2
 · exact pside_2 w B v L s nm h hl h2
 by_cases h3:s.op=3
 · exact pside_3 w B v L s nm h hl h3
 by_cases h4:s.op=4
 · exact pside_4 w B v L s nm h hl h4
 by_cases h5:s.op=5
 · exact pside_5 w B v L s nm h hl h5
 by_cases h6:s.op=6
 · exact pside_6 w B v L s nm h hl h6
 exact pside_0 w B v L s nm h hl ⟨h1,h2,h3,h4,h5,h6⟩
end
theorem Pw.side {B:Nat}{L:List Tk}{a b:World}(h:Pw B L a b)(s:Sco)(nm:ByteArray)(hl:L.length≤800000):
 Calls Tryz.prog 43 #[.pointer (some ⟨B,0,none⟩),sdV s nm] b fun en w'=>en= .returned (.tuple #[])∧Pw B (L++sdW nm s) a w':=by
 obtain⟨⟨v,hv⟩,hk⟩:=h
 exact(pside_any b B v L s nm hv hl).mono fun en w' ⟨h1,h2⟩=>⟨h1,h2.1,hk.trans h2.2⟩
def Wr (B:Nat)(p:Option Addr)(c:Nat)(e:List Nd)(k:Nat)(L:List Tk)(w w':World):Prop:=(∃v',WS w' B p c e k v' L)∧KW B w w'
theorem wadd_any (w:World)(B:Nat)(p:Option Addr)(c:Nat)(e:List Nd)(k:Nat)(v:Value)(L:List Tk)(kd:Int)(s:ByteArray)(h:WS w B p c e k v L)(hl:L.length≤1000000):
 Calls Tryz.prog 132 #[.pointer (some ⟨B,0,none⟩),.int .i64 kd,.string s] w fun en w'=>en= .returned (.tuple #[])∧Wr B p c e k (L++[⟨kd,s,0⟩]) w w':=by
 have c2:=h.c2
 have hlt:=h.lt
 go_enter Tryz.func132,Tryz.ntmps132
 go_wp2_with (at_builtin;refine append_tokK w rfl (.tmp 10) (.tmp 14) rfl (B+1) v L rfl h.own ⟨kd,s,0⟩ rfl (by omega) (by omega) ?_;intro v1 w1 ho1 hk1;obtain⟨qq,cq,ev,_⟩:=ho1.slice;subst ev;have b1:w1.heap[B]? =_:=(hk1.bel.block B (Nat.lt_succ_self _)).trans h.blk;have f1:w1.frozen? ⟨B,2,none⟩=false:=(by simp[World.frozen?, b1]);have d1:w1.cell? ⟨B,2,none⟩=some v:=(by simp[World.cell?, b1]))
 go_end0
 have ho2:OTk w1 (B+1) (.slice qq (L.length+1) cq) (L++[⟨kd,s,0⟩]):=by simpa using ho1
 exact⟨rfl,⟨_,h.setTs hk1 ho2⟩,KW.set hk1.drop ⟨_,_,b1⟩ 2 _⟩
theorem wtake_any (w:World)(B:Nat)(p:Option Addr)(c:Nat)(e:List Nd)(k:Nat)(v:Value)(L:List Tk)(x:Nd)(h:WS w B p c e k v L)(hx:e[k]? =some x):
 Calls Tryz.prog 125 #[.pointer (some ⟨B,0,none⟩)] w fun en w'=>en= .returned (.agg #[.int .i64 x.op,.int .i64 x.n,.string x.s,.string x.t])∧Wr B p c e (k+1) L w w':=by
 have hk:k<e.length:=(List.getElem?_eq_some_iff.1 hx).1
 have hel:=h.len
 have hb0:Below w.heap.size w (w.alloc (.cells #[.int .i64 0,.int .i64 0,.string ⟨#[]⟩,.string ⟨#[]⟩] 97)):=(Below.refl _ _).alloc (Nat.le_refl _) _
 have h1:=h.up hb0
 obtain⟨bq,oq,hpq,hbq,e0,e1,e2,e3,_⟩:=h.nl.at hk
 have hex:e[k]=x:=by rw[List.getElem?_eq_getElem hk]at hx;exact Option.some.inj hx
 rw[hex]at e0 e1 e2 e3
 subst hpq
 have c0:=h.c0
 have c1:=h.c1
 have f1:=h.fz 1
 have hlt:=h.lt
 have hB2:¬B=w.heap.size:=by omega
 have hB3:¬B=w.heap.size+1:=by omega
 have i1:(k:Int)<(e.length:Int):=by omega
 have i2:(k:Int)≤200:=by omega
 go_enter Tryz.func125,Tryz.ntmps125
 go_wp2
 go_region
 go_wp2
 have hz:Below (w.setCell ⟨B,1,none⟩ (.int .i64 ((k+1:Nat):Int))).heap.size (w.setCell ⟨B,1,none⟩ (.int .i64 ((k+1:Nat):Int))) (((w.setCell ⟨B,1,none⟩ (.int .i64 ((k+1:Nat):Int))).alloc (.cells #[.int .i64 x.op,.int .i64 x.n,.string x.s,.string x.t] 97)).alloc (.cells #[.int .i64 x.op,.int .i64 x.n,.string x.s,.string x.t] 97)).drew:=
  (((Below.refl _ _).alloc (Nat.le_refl _) _).alloc (by simp) _).drew
 refine bodyPost_ret (v:=.agg #[.int .i64 x.op,.int .i64 x.n,.string x.s,.string x.t]) (by simp[results,Tryz.results125,go_sem]) rfl ⟨rfl,⟨v,(h.setAt (k':=k+1) hk).up hz⟩,(KW.set (KW.refl B w) h.typed 1 _).up hz (by simp;omega)⟩
theorem formOf_any (op:Int)(w:World):Calls Tryz.prog 99 #[.int .i64 op] w fun en w'=>en= .returned (.int .i64 (lvO op:Int))∧w'=w:=by
 have HL:Hid (lvO op=if op=13 then 0 else if op=12 then 1 else if op=11 then 2 else if 14≤op∧op≤16∨20≤op∧op≤24∧op≠22 then 3 else if op=17∨op=18 then 4 else if op=19 then 5 else if op=9∨op=10 then 6 else if 22≤op∧op≤27 then 7 else 8):=rfl
 rw[HL.out]
 go_enter Tryz.func99,Tryz.ntmps99
 by_cases h:9≤op∧op≤27
 · obtain⟨n,rfl⟩:∃n:Nat,op=n:=⟨op.toNat,by omega⟩
   have hn:n=9∨n=10∨n=11∨n=12∨n=13∨n=14∨n=15∨n=16∨n=17∨n=18∨n=19∨n=20∨n=21∨n=22∨n=23∨n=24∨n=25∨n=26∨n=27:=by omega
   rcases hn with rfl | rfl | rfl | rfl | rfl | rfl | rfl | rfl | rfl | rfl | rfl | rfl | rfl | rfl | rfl | rfl | rfl | rfl | rfl<;>(go_wp2;go_ret;exact⟨rfl,rfl⟩)
 · have e:(if op=13 then 0 else if op=12 then 1 else if op=11 then 2 else if 14≤op∧op≤16∨20≤op∧op≤24∧op≠22 then 3 else if op=17∨op=18 then 4 else if op=19 then 5 else if op=9∨op=10 then 6 else if 22≤op∧op≤27 then 7 else 8:Nat)=8:=by
    repeat' split
    all_goals omega
   rw[e]
   have b9:(op == 9)=false:=by simp;omega
   have b10:(op == 10)=false:=by simp;omega
   have b11:(op == 11)=false:=by simp;omega
   have b12:(op == 12)=false:=by simp;omega
   have b13:(op == 13)=false:=by simp;omega
   have b14:(op == 14)=false:=by simp;omega
   have b15:(op == 15)=false:=by simp;omega
   have b16:(op == 16)=false:=by simp;omega
   have b17:(op == 17)=false:=by simp;omega
   have b18:(op == 18)=false:=by simp;omega
   have b19:(op == 19)=false:=by simp;omega
   have b20:(op == 20)=false:=by simp;omega
   have b21:(op == 21)=false:=by simp;omega
   have b22:(op == 22)=false:=by simp;omega
   have b23:(op == 23)=false:=by simp;omega
   have b24:(op == 24)=false:=by simp;omega
   have b25:(op == 25)=false:=by simp;omega
   have b26:(op == 26)=false:=by simp;omega
   have b27:(op == 27)=false:=by simp;omega
   clear HL e h
   go_wp2
   go_ret
   exact⟨rfl,rfl⟩
def sayT (s:ByteArray):Tk:=⟨if nfault s.data.toList=0 then 1 else 5,s,0⟩
theorem wsay_any (w:World)(B:Nat)(p:Option Addr)(c:Nat)(e:List Nd)(k:Nat)(v:Value)(L:List Tk)(ss:List ByteArray)(S:Nat)(h:WS w B p c e k v L)(hl:L.length≤900000)(hn:ss.length≤10)
 (hS:∀i x,ss[i]? =some x→w.cell? ⟨S,i,none⟩=some (.string x)) (hT:Typed w S 9) (hz:∀x∈ss,x.size≤maxLen):
 Calls Tryz.prog 101 #[.pointer (some ⟨B,0,none⟩),.slice (some ⟨S,0,none⟩) ss.length ss.length] w fun en w'=>en= .returned (.tuple #[])∧Wr B p c e k (L++ss.map sayT) w w':=by
 have hnl:ss.length≤10:=hn
 have HE:∀(w':World) (L':List Tk) (u:Value) (kd:Int) (s:ByteArray),WS w' B p c e k u L'→L'.length≤900010→Calls Tryz.prog 132 #[.pointer (some ⟨B,0,none⟩),.int .i64 kd,.string s] w' fun en w''=>en= .returned (.tuple #[])∧Wr B p c e k (L'++[⟨kd,s,0⟩]) w' w'':=
  fun w' L' u kd s h' hl'=>wadd_any w' B p c e k u L' kd s h' (by omega)
 go_enter Tryz.func101,Tryz.ntmps101
 go_wp2
 go_loopw [8] (fun i wr=>∃j:Nat,j≤ss.length∧i= .int .i64 j∧Wr B p c e k (L++(ss.take j).map sayT) w wr) (fun i _=>ss.length-(intOf i).toNat)
 case atStart=>exact⟨0,Nat.zero_le _,rfl,⟨v,by simpa using h⟩,KW.refl _ _⟩
 case round=>
  obtain⟨j,hj,rfl,⟨u,hu⟩,hk⟩:=hrel
  by_cases hlt:j<ss.length
  · have i1:(j:Int)<(ss.length:Int):=by omega
    have hx:=List.getElem?_eq_getElem hlt
    have hc:wr.cell? ⟨S,j,none⟩=some (.string ss[j]):=(hk.cellT (by decide) (by decide) hT j).trans (hS j _ hx)
    have HM:Hid (L++(ss.take (j+1)).map sayT=L++(ss.take j).map sayT++[sayT ss[j]]):=by
     show _=_
     rw[List.take_succ_eq_append_getElem hlt,List.map_append,List.map_cons,List.map_nil,List.append_assoc]
    have hll:(L++(ss.take j).map sayT).length≤900010:=by simp;omega
    have hsz:=hz _ (List.getElem_mem hlt)
    have HC:=check_any ss[j] wr hsz
    have hU:sayT ss[j]=⟨if nfault ss[j].data.toList=0 then 1 else 5,ss[j],0⟩:=rfl
    rw[hU]at HM
    clear hU hx
    generalize ss[j]=s at *
    generalize L++(ss.take j).map sayT=M at *
    by_cases hf:nfault s.data.toList=0
    · rw[eV_nil hf]at HC
      rw[if_pos hf]at HM
      go_wp2_with fail
      refine HC.mono ?_
      rintro en w1 ⟨rfl,rfl⟩
      go_wp2_with fail
      refine(HE _ M u 1 s hu hll).mono ?_
      rintro en w2 ⟨rfl,⟨u2,hu2⟩,hk2⟩
      go_wp2
      go_roundw
      case rel=>exact⟨j+1,by omega,by go_num,⟨u2,by rw[HM.out];exact hu2⟩,hk.trans hk2⟩
      case measure=>simp[intOf];omega
    · rw[eV_not hf]at HC
      rw[if_neg hf]at HM
      go_wp2_with fail
      refine HC.mono ?_
      rintro en w1 ⟨rfl,rfl⟩
      go_wp2_with fail
      refine(HE _ M u 5 s hu hll).mono ?_
      rintro en w2 ⟨rfl,⟨u2,hu2⟩,hk2⟩
      go_wp2
      go_roundw
      case rel=>exact⟨j+1,by omega,by go_num,⟨u2,by rw[HM.out];exact hu2⟩,hk.trans hk2⟩
      case measure=>simp[intOf];omega
  · obtain rfl:j=ss.length:=by omega
    have i1:¬(ss.length:Int)<(ss.length:Int):=by omega
    rw[List.take_length]at hu
    go_wp2
    go_end0
    exact⟨rfl,⟨u,hu⟩,hk⟩
end Go.Proofs.YtjkepjbfgeldnaaGreatDoor
