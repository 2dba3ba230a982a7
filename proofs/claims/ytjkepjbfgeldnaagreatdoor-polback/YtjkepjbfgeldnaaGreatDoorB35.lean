import Derived.Test.YtjkepjbfgeldnaaGreatDoorB34
import Derived.Test.YtjkepjbfgeldnaaGreatDoorB15
import Derived.Test.YtjkepjbfgeldnaaGreatDoorB9
import Derived.Deep.RegionHeld
import Derived.Defers
import Derived.Recover
import Derived.Laws.Pointers
import Derived.Test.YtjkepjbfgeldnaaGreatDoorB8
import Derived.Test.YtjkepjbfgeldnaaGreatDoorB20
import Derived.Test.YtjkepjbfgeldnaaGreatDoorB19
set_option linter.unusedVariables false
set_option maxHeartbeats 12000000
namespace Go.Proofs.YtjkepjbfgeldnaaGreatDoor
open Go.RowKit
set_option linter.unusedSimpArgs false
set_option maxRecDepth 100000
structure BY (B L:Nat)(w w':World):Prop where
 os:w'.os=w.os
 tape:w'.tape=w.tape
 output:w'.output=w.output
 size:w.heap.size≤w'.heap.size
 block:∀k,k<w.heap.size→k≠B→k≠L→w'.heap[k]? =w.heap[k]?
theorem BY.refl (B L:Nat)(w:World):BY B L w w:=⟨rfl,rfl,rfl,Nat.le_refl _,fun _ _ _ _=>rfl⟩
theorem BY.trans {B L:Nat}{a b c:World}(h:BY B L a b)(k:BY B L b c):BY B L a c:=
 ⟨k.os.trans h.os,k.tape.trans h.tape,k.output.trans h.output,Nat.le_trans h.size k.size,fun i hi hn hm=>(k.block i (Nat.lt_of_lt_of_le hi h.size) hn hm).trans (h.block i hi hn hm)⟩
theorem BX.by {B L:Nat}{w w':World}(h:BX B w w'):BY B L w w':=⟨h.os,h.tape,h.output,h.size,fun i hi hn _=>h.block i hi hn⟩
theorem BY.set {B L:Nat}{a w:World}(h:BY B L a w)(v:Value):BY B L a (w.setCell ⟨L,0,none⟩ v):=
 h.trans ⟨rfl,rfl,rfl,by simp,fun k _ _ hn=>Below.heap_setCell w ⟨L,0,none⟩ v k hn⟩
theorem BY.up {B L:Nat}{a w w':World}(h:BY B L a w)(k:Below w.heap.size w w'):BY B L a w':=h.trans (BX.of_below k).by
structure FS (w:World)(B P L:Nat)(nm:ByteArray):Prop where
 p0:w.heap[P]? =some (.cells #[.pointer (some ⟨B,0,none⟩)] 168 (0,0))
 l0:w.heap[L]? =some (.cells #[.string nm] 9 (0,0))
theorem FS.cp {w:World}{B P L:Nat}{nm:ByteArray}(h:FS w B P L nm):w.cell? ⟨P,0,none⟩=some (.pointer (some ⟨B,0,none⟩)):=by simp[World.cell?, h.p0]
theorem FS.cl {w:World}{B P L:Nat}{nm:ByteArray}(h:FS w B P L nm):w.cell? ⟨L,0,none⟩=some (.string nm):=by simp[World.cell?, h.l0]
theorem FS.fl {w:World}{B P L:Nat}{nm:ByteArray}(h:FS w B P L nm):w.frozen? ⟨L,0,none⟩=false:=by simp[World.frozen?, h.l0]
theorem FS.ltp {w:World}{B P L:Nat}{nm:ByteArray}(h:FS w B P L nm):P<w.heap.size:=(Array.getElem?_eq_some_iff.1 h.p0).1
theorem FS.ltl {w:World}{B P L:Nat}{nm:ByteArray}(h:FS w B P L nm):L<w.heap.size:=(Array.getElem?_eq_some_iff.1 h.l0).1
theorem FS.nepl {w:World}{B P L:Nat}{nm:ByteArray}(h:FS w B P L nm):P≠L:=by
 intro e;subst e
 have h1:=h.p0
 rw[h.l0]at h1
 injection h1 with h1
 injection h1 with h1 _ _
 simp at h1
theorem FS.ne {w:World}{B P L:Nat}{nm:ByteArray}{p:Option Addr}{c:Nat}{ts:List Tk}{k:Nat}(h:FS w B P L nm)(hr:RS w B p c ts k):P≠B∧L≠B:=by
 have hT:Typed w B 170:=⟨_,_,hr.blk⟩
 have h1:Typed w P 168:=⟨_,_,h.p0⟩
 have h2:Typed w L 9:=⟨_,_,h.l0⟩
 exact⟨h1.ne hT (by decide),h2.ne hT (by decide)⟩
theorem FS.bx {w w':World}{B P L:Nat}{nm:ByteArray}{p:Option Addr}{c:Nat}{ts:List Tk}{k:Nat}(h:FS w B P L nm)(hr:RS w B p c ts k)(hx:BX B w w'):FS w' B P L nm:=
 ⟨(hx.block P h.ltp (h.ne hr).1).trans h.p0,(hx.block L h.ltl (h.ne hr).2).trans h.l0⟩
theorem FS.up {w w':World}{B P L:Nat}{nm:ByteArray}(h:FS w B P L nm)(hb:Below w.heap.size w w'):FS w' B P L nm:=
 ⟨(hb.block P h.ltp).trans h.p0,(hb.block L h.ltl).trans h.l0⟩
theorem FS.set {w:World}{B P L:Nat}{nm:ByteArray}(h:FS w B P L nm)(s:ByteArray):FS (w.setCell ⟨L,0,none⟩ (.string s)) B P L s:=
 ⟨(Below.heap_setCell w ⟨L,0,none⟩ _ P h.nepl).trans h.p0,heap_setCell_same w L 0 _ _ _ h.l0⟩
theorem RS.last {w:World}{B P L:Nat}{nm:ByteArray}{p:Option Addr}{c:Nat}{ts:List Tk}{k:Nat}(h:RS w B p c ts k)(hf:FS w B P L nm)(hL:∀a,p=some a→a.block≠L)(hG:8<L)(s:ByteArray):RS (w.setCell ⟨L,0,none⟩ (.string s)) B p c ts k:=by
 have hB:B≠L:=(hf.ne h).2.symm
 refine⟨(Below.heap_setCell w ⟨L,0,none⟩ _ B hB).trans h.blk,?_,h.ne,h.le,h.len,h.all,?_,h.ge⟩
 · rcases h.tk with h1 | ⟨b,off,h1,h2,h3⟩
   · exact .inl h1
   · refine .inr ⟨b,off,h1,by simpa using h2,fun i x hx=>?_⟩
     have hne:=hL ⟨b,off,none⟩ h1
     have q:∀o,(w.setCell ⟨L,0,none⟩ (.string s)).cell? ⟨b,o,none⟩=w.cell? ⟨b,o,none⟩:=fun o=>World.cell?_of_block (Below.heap_setCell w ⟨L,0,none⟩ _ b hne)
     simp only[q]
     exact h3 i x hx
 · obtain⟨ev,h1,h2⟩:=h.er
   exact⟨ev,(World.cell?_of_block (Below.heap_setCell w ⟨L,0,none⟩ _ 8 (by show 8≠L;omega))).trans h1,h2⟩
theorem text_gt {a b:ByteArray}(h:Lib.compareBytes a.data.toList b.data.toList<0):Op.bytesLess b.toList a.toList=false∧(b.toList == a.toList)=false:=by
 rw[ByteArray.toList_eq,ByteArray.toList_eq,bytesLess_cb]
 have hc:cmpB a b<0:=h
 have h1:=cmpB_is.neg a b
 constructor
 · have:¬Lib.compareBytes b.data.toList a.data.toList<0:=by
    intro h2
    have h3:cmpB b a<0:=h2
    omega
   simpa using this
 · cases e:(b.data.toList == a.data.toList)
   · rfl
   · exfalso
     have e2:=bytes_inj (beq_iff_eq.1 e)
     subst e2
     have:=cmpB_is.self b
     omega
theorem text_le {a b:ByteArray}(h:¬Lib.compareBytes a.data.toList b.data.toList<0):(!Op.bytesLess b.toList a.toList && !(b.toList == a.toList))=false:=by
 rw[ByteArray.toList_eq,ByteArray.toList_eq,bytesLess_cb]
 have hc:¬cmpB a b<0:=h
 have h1:=cmpB_is.neg a b
 cases e:(b.data.toList == a.data.toList)
 · have hne:b≠a:=fun e2=>by subst e2;simp at e
   have:Lib.compareBytes b.data.toList a.data.toList<0:=by
    show cmpB b a<0
    have h2:cmpB b a≠0:=fun h0=>hne ((cmpB_is.zero b a).1 h0)
    omega
   simp[this]
 · simp
theorem keyB_hd (nm:List UInt8)(l:List Tk):keyB nm l=((hdT l).kind == 1 && decide (Lib.compareBytes nm (hdT l).l<0)):=by
 cases l<;>rfl
theorem tok_text (a b d:Value)(w:World):(Instr.field 78 (.agg #[a,b,d]) 1).run Tryz.prog w= .ok b w:=by kernel_rfl
def FieldE (B P L:Nat)(p:Option Addr)(c:Nat)(ts:List Tk)(w:World)(out:Except (Nat×Int) (Tk×List Nd×List Tk))(e:Ending)(w':World):Prop:=
 match out with
 | .ok x=>(∃q cc,e= .returned (.slice q (x.2.1.length+1) cc)∧NT w' 0 q (mkN 7 0 x.1.l []::x.2.1)∧x.2.1.length+1≤cc∧cc≤maxLen)∧RS w' B p c ts (ts.length-x.2.2.length)∧FS w' B P L x.1.s∧BY B L w w'
 | .error y=>e= .panicked (thrownP y.2)∧RS w' B p c ts (ts.length-y.1)∧BY B L w w'
theorem field_less (B P L:Nat)(p:Option Addr)(c:Nat)(ts:List Tk)(w:World)(k:Nat)(nm:ByteArray)(h:RS w B p c ts k)(hf:FS w B P L nm)
 (hk:¬Lib.compareBytes nm.data.toList (hdT (ts.drop k)).s.data.toList<0):
 Calls Tryz.prog 241 #[.pointer (some ⟨P,0,none⟩),.pointer (some ⟨L,0,none⟩)] w fun e w'=>e= .panicked (thrownP 1)∧RS w' B p c ts k∧BY B L w w':=by
 have A0:=fun W (hr:RS W B p c ts k)=>ahead0_any W B p c ts k hr
 unfold tokV at A0
 have hft:=tok_text
 generalize hdT (ts.drop k)=t at *
 have hle:=text_le hk
 have hS0:w.drew.cell? ⟨P,0,none⟩=some (.pointer (some ⟨B,0,none⟩))∧w.drew.cell? ⟨L,0,none⟩=some (.string nm):=⟨hf.cp,hf.cl⟩
 go_enter Tryz.func241,Tryz.ntmps241
 go_wp2_with fail
 refine wp_region_held_drew (S:=fun w'=>w'.cell? ⟨P,0,none⟩=some (.pointer (some ⟨B,0,none⟩))∧w'.cell? ⟨L,0,none⟩=some (.string nm)) (by kernel_rfl) hS0 (fun hHeld=>?_)
 have hb0:Below w.heap.size w w.drew:=(Below.refl _ _).drew
 generalize w.drew=w0 at *
 refine wpAnyH_take (i:=0) (v:=?_) rfl (by kernel_rfl) (by kernel_rfl) (by kernel_rfl) (fun _ _ _ h=>h) (Or.inl ⟨by rfl,?_⟩) hHeld ?_
 rotate_left
 · intro w hSw;obtain⟨s1,s2⟩:=hSw;go_simp;try with_reducible rfl
 try simp only[Act.put,List.setIfInBounds_toArray,List.set_cons_zero,List.set_cons_succ]
 refine wpAnyH_take (i:=3) (v:=?_) rfl (by kernel_rfl) (by kernel_rfl) (by kernel_rfl) (fun _ _ _ h=>h) (Or.inl ⟨by rfl,?_⟩) hHeld ?_
 rotate_left
 · intro w hSw;obtain⟨s1,s2⟩:=hSw;go_simp;try with_reducible rfl
 try simp only[Act.put,List.setIfInBounds_toArray,List.set_cons_zero,List.set_cons_succ]
 refine wpAnyH_take (i:=5) (v:=?_) rfl (by kernel_rfl) (by kernel_rfl) (by kernel_rfl) (fun _ _ _ h=>h) (Or.inl ⟨by rfl,?_⟩) hHeld ?_
 rotate_left
 · intro w hSw;obtain⟨s1,s2⟩:=hSw;go_simp;try with_reducible rfl
 try simp only[Act.put,List.setIfInBounds_toArray,List.set_cons_zero,List.set_cons_succ]
 refine wpAnyH_ready (rs:=[1]) (by kernel_rfl) (by simp) ?_
 refine AllReadyH.cons rfl (fun K hK=>?_) AllReadyH.nil
 go_simp
 refine(A0 _ (h.up hb0)).mono ?_
 rintro e w1 ⟨rfl,hb1⟩
 have hb2:=hb0.trans (hb1.mono hb0.size)
 have hf1:=hf.up hb2
 refine hK.out _ _ ⟨hf1.cp,hf1.cl⟩ (fun hHeld1=>?_)
 clear hK K
 try simp only[Act.put,List.setIfInBounds_toArray,List.set_cons_zero,List.set_cons_succ]
 refine wpAnyH_take (i:=2) (v:=?_) rfl (by kernel_rfl) (by kernel_rfl) (by kernel_rfl) (fun _ _ _ h=>h) (Or.inl ⟨by rfl,?_⟩) hHeld1 ?_
 rotate_left
 · intro w hSw;obtain⟨s1,s2⟩:=hSw;go_simp;try with_reducible rfl
 try simp only[Act.put,List.setIfInBounds_toArray,List.set_cons_zero,List.set_cons_succ]
 refine wpAnyH_take (i:=4) (v:=?_) rfl (by kernel_rfl) (by kernel_rfl) (by kernel_rfl) (fun _ _ _ h=>h) (Or.inl ⟨by rfl,?_⟩) hHeld1 ?_
 rotate_left
 · intro w hSw;obtain⟨s1,s2⟩:=hSw;go_simp;try with_reducible rfl
 try simp only[Act.put,List.setIfInBounds_toArray,List.set_cons_zero,List.set_cons_succ]
 refine wpAnyH_ready (rs:=[6]) (by kernel_rfl) (by simp) ?_
 refine AllReadyH.cons rfl (fun K hK=>?_) AllReadyH.nil
 go_simp
 refine(pneed_false _ _).mono ?_
 rintro e w2 ⟨rfl,rfl⟩
 exact⟨rfl,rfl,h.up hb2,(BX.of_below hb2).by⟩
theorem field_any (n:Nat)(B P L:Nat)(p:Option Addr)(c:Nat)(ts:List Tk)(ih:AllR n B p c ts)(w:World)(k:Nat)(nm:ByteArray)(out:Except (Nat×Int) (Tk×List Nd×List Tk))(h:RS w B p c ts k)(hf:FS w B P L nm)
 (hL:∀a,p=some a→a.block≠L) (hG:8<L) (ho:FO n nm.data.toList (ts.drop k) out):
 Calls Tryz.prog 241 #[.pointer (some ⟨P,0,none⟩),.pointer (some ⟨L,0,none⟩)] w fun e w'=>FieldE B P L p c ts w out e w':=by
 have hlk:=h.le
 have hlen:=h.len
 have HK0:ts.length-(ts.drop k).length=k:=by rw[List.length_drop];omega
 have hkb:=keyB_hd nm.data.toList (ts.drop k)
 by_cases hk:Lib.compareBytes nm.data.toList (hdT (ts.drop k)).s.data.toList<0
 · have hk':decide (Lib.compareBytes nm.data.toList (hdT (ts.drop k)).l<0)=true:=decide_eq_true hk
   rw[hk',Bool.and_true]at hkb
   have hcp:=hf.cp
   have hcl:=hf.cl
   have A0:=fun W (hr:RS W B p c ts k)=>ahead0_any W B p c ts k hr
   unfold tokV at A0
   have hft:=tok_text
   have hpw:P<w.heap.size:=hf.ltp
   have hlw:L<w.heap.size:=hf.ltl
   obtain⟨t,hdt⟩:∃t,hdT (ts.drop k)=t:=⟨_,rfl⟩
   rw[hdt]at hk hkb A0
   obtain⟨hl1,hl2⟩:=text_gt hk
   have hA:∀q:BW w.heap.size w,Calls Tryz.prog 141 #[.pointer (some ⟨B,0,none⟩),.int .i64 0] q.at_ (fun e w''=>e= .returned (.agg #[.int .i64 t.kind,.string t.s,.int .i64 t.at_])∧∃p':BW w.heap.size w,w''=p'.at_):=fun q=>Calls.bel q (A0 _ (h.up q.bel))
   have hN:∀(v:Value) (q:BW w.heap.size w),Calls Tryz.prog 118 #[.bool true,v] q.at_ (fun e w''=>e= .returned (.tuple #[])∧∃p':BW w.heap.size w,w''=p'.at_):=fun v q=>(pneed_true v _).mono fun e w' ⟨h1,h2⟩=>⟨h1,q,h2⟩
   have hzp:∀q:BW w.heap.size w,q.at_.cell? ⟨P,0,none⟩=some (.pointer (some ⟨B,0,none⟩)):=fun q=>(q.bel.cell (p:=⟨P,0,none⟩) hpw).trans hcp
   have hzl:∀q:BW w.heap.size w,q.at_.cell? ⟨L,0,none⟩=some (.string nm):=fun q=>(q.bel.cell (p:=⟨L,0,none⟩) hlw).trans hcl
   go_enter Tryz.func241,Tryz.ntmps241
   go_wp2_with fail
   refine wp_region_bel (by kernel_rfl) (by kernel_rfl) ?_
   go_big_quiet_step (exact hA _)
   go_big_quiet_step (exact hA _)
   go_big_quiet_step (fail)
   go_big_quiet_step (fail)
   go_big_quiet_step (fail)
   go_big_quiet_step (fail)
   go_big_quiet_step (exact hN _ _)
   refine wpQuiet_nil ?_
   rintro _ ⟨q,rfl⟩
   have hbq:=q.bel
   clear hA hN hzp hzl hl1 hl2 A0
   generalize q.at_=w1 at *
   have hr1:=h.up hbq
   have hf1:=hf.up hbq
   have cp1:=hf1.cp
   clear hcp hcl
   go_wp2_with fail
   by_cases hkd:(t.kind == 1)=true
   · rw[hkd]at hkb
     rcases ho with⟨h0,_⟩ | ⟨u,l1,hd,_,ho⟩
     · rw[hkb]at h0;cases h0
     · obtain rfl:u=t:=by rw[hd]at hdt;exact hdt
       obtain⟨d1,d2,d3⟩:=drop_cons hd
       have hsu:=h.all u (List.mem_of_mem_drop (i:=k) (by rw[hd];exact List.mem_cons_self ..))
       have husz:u.s.size≤maxLen:=by have:=spB_size hsu;unfold Tk.l at this;unfold maxLen;simp at this;omega
       have HT:=take_ok w1 B p c ts k 1 hr1 d2 (by rw[hdt];simpa using hkd)
       rw[hdt]at HT
       refine HT.mono ?_
       rintro e w2 ⟨rfl,hr2,hx2⟩
       have hf2:=hf1.bx hr1 hx2
       have cl2:=hf2.cl
       have fl2:=hf2.fl
       have hf3:=hf2.set u.s
       have cp3:=hf3.cp
       have hr3:=hr2.last hf2 hL hG u.s
       have hY3:BY B L w (w2.setCell ⟨L,0,none⟩ (.string u.s)):=((BX.of_below hbq).trans hx2).by.set _
       clear HT hx2 hdt hkb hk hk' hkd q hf1 cp1 hbq hr1
       have al:AllS l1:=fun x hx=>h.all x (List.mem_of_mem_drop (i:=k) (by rw[hd];exact List.mem_cons_of_mem _ hx))
       go_wp2_with fail
       generalize w2.setCell ⟨L,0,none⟩ (.string u.s)=w3 at *
       rcases ho with⟨c1,rfl⟩ | ⟨v,l2,rfl,hv,ho⟩
       · refine(pass_bad w3 B p c ts (k+1) ⟨#[58]⟩ hr3 (by rw[d1,sayB_sgn al (by decide)];exact c1)).mono ?_
         rintro e w4 ⟨rfl,hr4,hx4⟩
         have HK:Hid (ts.length-l1.length=k+1):=d3
         go_wp2
         refine⟨rfl,rfl,?_,hY3.trans hx4.by⟩
         simp only[HK.out];exact hr4
       · obtain⟨d4,d5,d6⟩:=drop_cons d1
         refine(pass_ok w3 B p c ts (k+1) ⟨#[58]⟩ hr3 (by rw[d1];exact(sayB_sgn al (by decide)).trans hv) d5).mono ?_
         rintro e w4 ⟨rfl,hr4,hx4⟩
         have hf4:=hf3.bx hr3 hx4
         have hY4:BY B L w w4:=hY3.trans hx4.by
         clear hx4 hf3 cp3 hr3 hY3 al
         go_wp2_with fail
         have hS0:w4.drew.cell? ⟨P,0,none⟩=some (.pointer (some ⟨B,0,none⟩))∧w4.drew.cell? ⟨L,0,none⟩=some (.string u.s):=⟨hf4.cp,hf4.cl⟩
         refine wp_region_held_drew (S:=fun w'=>w'.cell? ⟨P,0,none⟩=some (.pointer (some ⟨B,0,none⟩))∧w'.cell? ⟨L,0,none⟩=some (.string u.s)) (by kernel_rfl) hS0 (fun hHeld=>?_)
         have hb0:Below w4.heap.size w4 w4.drew:=(Below.refl _ _).drew
         have hr5:=hr4.up hb0
         have hf5:=hf4.up hb0
         have hY5:=hY4.up hb0
         clear hS0 hr4 hf4 hY4 hb0
         generalize w4.drew=w5 at *
         refine wpAnyH_take (i:=0) (v:=?_) rfl (by kernel_rfl) (by kernel_rfl) (by kernel_rfl) (fun _ _ _ h=>h) (Or.inl ⟨by rfl,?_⟩) hHeld ?_
         rotate_left
         · intro w hSw;obtain⟨s1,s2⟩:=hSw;go_simp;try with_reducible rfl
         try simp only[Act.put,List.setIfInBounds_toArray,List.set_cons_zero,List.set_cons_succ]
         refine wpAnyH_take (i:=1) (v:=?_) rfl (by kernel_rfl) (by kernel_rfl) (by kernel_rfl) (fun _ _ _ h=>h) (Or.inl ⟨by rfl,?_⟩) hHeld ?_
         rotate_left
         · intro w hSw;obtain⟨s1,s2⟩:=hSw;go_simp;try with_reducible rfl
         try simp only[Act.put,List.setIfInBounds_toArray,List.set_cons_zero,List.set_cons_succ]
         refine wpAnyH_take (i:=2) (v:=?_) rfl (by kernel_rfl) (by kernel_rfl) (by kernel_rfl) (fun _ _ _ h=>h) (Or.inl ⟨by rfl,?_⟩) hHeld ?_
         rotate_left
         · intro w hSw;obtain⟨s1,s2⟩:=hSw;go_simp;try with_reducible rfl
         try simp only[Act.put,List.setIfInBounds_toArray,List.set_cons_zero,List.set_cons_succ]
         refine wpAnyH_ready (rs:=[3]) (by kernel_rfl) (by simp) ?_
         refine AllReadyH.cons rfl (fun K hK=>?_) AllReadyH.nil
         go_simp
         rcases ho with⟨e1,g1,rfl⟩ | ⟨b,r,g1,ho⟩
         · refine(ih 0 (by omega) w5 _ _ hr5 (by rw[d4];exact g1)).mono ?_
           rintro e w6 ⟨rfl,hr6,hx6⟩
           exact⟨rfl,rfl,hr6,hY5.trans hx6.by⟩
         · obtain⟨nb,lb,sb,db⟩:=hr5.next_words (w1:=w) (n:=n) (lvl:=0) (by omega) (by rw[d4];exact g1)
           refine(ih 0 (by omega) w5 _ _ hr5 (by rw[d4];exact g1)).mono ?_
           rintro e w6 ⟨⟨qb,cb,rfl,hntb,hcb,hcmb⟩,hr6,hx6⟩
           simp only at hntb hcb hr6 ⊢
           have hf6:=hf5.bx hr5 hx6
           have hY6:=hY5.trans hx6.by
           refine hK.out _ _ ⟨hf6.cp,hf6.cl⟩ (fun hHeld1=>?_)
           clear hK K hr5 hf5 hY5 hx6 hHeld
           refine wpAnyH_ready (rs:=[4]) (by kernel_rfl) (by simp) ?_
           refine AllReadyH.cons rfl (fun K hK=>?_) AllReadyH.nil
           go_simp
           have hbA:Below w6.heap.size w6 (w6.alloc (.cells #[.slice qb b.length cb] 59)):=(Below.refl _ _).alloc (Nat.le_refl _) _
           have hfA:=hf6.up hbA
           refine hK.out _ _ ⟨hfA.cp,hfA.cl⟩ (fun hHeld2=>?_)
           clear hK K hHeld1
           have HJ:=join1 (mkN 7 0 u.s.data.toList []) b qb cb 59 w6 (mkN_wf husz) hntb.1 hcb hcmb nb (by omega)
           rw[ndV_mk]at HJ
           refine wpAnyH_ready (rs:=[5]) (by kernel_rfl) (by simp) ?_
           refine AllReadyH.cons rfl (fun K hK=>?_) AllReadyH.nil
           go_simp
           refine HJ.mono ?_
           rintro e w7 ⟨⟨q7,c7,rfl,hnt7,hc7,hcm7⟩,hb7⟩
           have hf7:=hf6.up hb7
           have hr7:=hr6.up hb7
           have hY7:=hY6.up hb7
           refine hK.out _ _ ⟨hf7.cp,hf7.cl⟩ (fun hHeld3=>?_)
           clear hK K hHeld2 hbA hfA HJ
           refine wpAnyH_ready (rs:=[6]) (by kernel_rfl) (by simp) ?_
           refine AllReadyH.cons rfl (fun K hK=>?_) AllReadyH.nil
           go_simp
           refine hK.out _ _ ⟨hf7.cp,hf7.cl⟩ (fun hHeld4=>?_)
           clear hK K hHeld3
           refine wpAnyH_done (by kernel_rfl) ?_ _
           have cp7:=hf7.cp
           have cl7:=hf7.cl
           have EZ:(u.s.toList == [122,122,122,122,122,122,122,122,122,122,122,122,122,122,122,122,122,122,122,122])=(u.l == wLast):=by rw[ByteArray.toList_eq];rfl
           have S2:=fun W (hr:RS W B p c ts (ts.length-r.length))=>says_any W B p c ts (ts.length-r.length) ⟨#[125]⟩ hr
           have al7:=hr7.rest
           rw[db]at al7
           rw[db,show(ByteArray.mk #[125]).data.toList=[125] from rfl,sayB_sgn al7 (by decide)]at S2
           have HLN:Hid ((mkN 7 0 u.s.data.toList []::b).length=b.length+1):=rfl
           have HNT7:Hid (NT w7 0 q7 (mkN 7 0 u.s.data.toList []::b)):=hnt7
           simp only[List.length_cons]at hc7
           clear hnt7 g1
           by_cases hz:u.l=wLast
           · rw[show(u.l == wLast)=true from by rw[hz];exact beq_self_eq_true _]at EZ
             rcases ho with⟨_,c2,rfl⟩ | ⟨c2,rfl⟩
             · rw[c2]at S2
               clear hz c2
               go_wp2_with (first
                | (go_at_call 139;refine(S2 _ hr7).mono ?_;rintro e w8 ⟨rfl,hb8⟩)
                | (go_at_call 118;refine(pneed_false _ _).mono ?_;rintro e w9 ⟨rfl,rfl⟩))
               exact⟨rfl,rfl,hr7.up hb8,hY7.up hb8⟩
             · have c3:nextS r [125]=true:=by
                rcases c2 with c2 | c2
                · exact absurd hz c2
                · exact c2
               rw[c3]at S2
               clear hz c2 c3
               go_wp2_with (first
                | (go_at_call 139;refine(S2 _ hr7).mono ?_;rintro e w8 ⟨rfl,hb8⟩)
                | (go_at_call 118;refine(pneed_true _ _).mono ?_;rintro e w9 ⟨rfl,rfl⟩))
               go_ret
               exact⟨⟨q7,c7,rfl,HNT7.out.below hb8,hc7,hcm7⟩,hr7.up hb8,hf7.up hb8,hY7.up hb8⟩
           · have hz':(u.l == wLast)=false:=by simpa using hz
             rw[hz']at EZ
             have HO:Hid (out= .ok (u,b,r)):=by
              rcases ho with⟨c2,_⟩ | ⟨_,c2⟩
              · exact absurd c2 hz
              · exact c2
             clear hz hz' ho
             go_wp2_with (go_at_call 118;refine(pneed_true _ _).mono ?_;rintro e w9 ⟨rfl,rfl⟩)
             go_ret
             rw[HO.out]
             exact⟨⟨q7,c7,rfl,HNT7.out,hc7,hcm7⟩,hr7,hf7,hY7⟩
   · have hkd':(t.kind == 1)=false:=by simpa using hkd
     have HO:Hid (out= .error ((ts.drop k).length,1)):=by
      rcases ho with⟨_,h2⟩ | ⟨u,l1,_,h2,_⟩
      · exact h2
      · rw[hkb,hkd']at h2;cases h2
     refine(take_bad w1 B p c ts k 1 hr1 (by rw[hdt];exact hkd')).mono ?_
     rintro e w2 ⟨rfl,hr2,hx2⟩
     have HKK:Hid _:=HK0
     clear hkd hkd' hkb ho hdt
     go_wp2
     refine⟨rfl,?_⟩
     rw[HO.out]
     refine⟨rfl,?_,((BX.of_below hbq).trans hx2).by⟩
     simp only[HKK.out];exact hr2
 · have hk':decide (Lib.compareBytes nm.data.toList (hdT (ts.drop k)).l<0)=false:=decide_eq_false hk
   rw[hk',Bool.and_false]at hkb
   obtain rfl:out= .error ((ts.drop k).length,1):=by
    rcases ho with⟨_,h2⟩ | ⟨u,l1,_,h2,_⟩
    · exact h2
    · rw[hkb]at h2;cases h2
   refine(field_less B P L p c ts w k nm h hf hk).mono ?_
   rintro e w1 ⟨rfl,hr1,hy1⟩
   refine⟨rfl,?_,hy1⟩
   simp only[HK0];exact hr1
def ListY (L:Nat)(B:Nat)(p:Option Addr)(c:Nat)(ts:List Tk)(w:World)(res:PRes)(e:Ending)(w':World):Prop:=
 match res with
 | .ok x=>(∃vs q cc,e= .returned (.slice q vs.length cc)∧LL w' q vs∧x.1=mkN 6 vs.length [] []::vs.flatten∧(∀u∈vs,u≠[])∧vs.flatten.length≤300∧vs.length≤300)∧RS w' B p c ts (ts.length-x.2.length)∧BY B L w w'
 | .error y=>e= .panicked (thrownP y.2)∧RS w' B p c ts (ts.length-y.1)∧BY B L w w'
theorem Nodal.by {w w':World}{B P L:Nat}{nm:ByteArray}{p:Option Addr}{c:Nat}{ts:List Tk}{k:Nat}(hr:RS w B p c ts k)(hf:FS w B P L nm)(hx:BY B L w w'):Nodal w w':=by
 refine⟨hx.size,fun b hb=>?_⟩
 have hT:Typed w B 170:=⟨_,_,hr.blk⟩
 have hT2:Typed w L 9:=⟨_,_,hf.l0⟩
 rcases hb with hb | hb
 · exact hx.block b hb.lt (hb.ne hT (by decide)) (hb.ne hT2 (by decide))
 · exact hx.block b hb.lt (hb.ne hT (by decide)) (hb.ne hT2 (by decide))
theorem BY.kept {B L:Nat}{w wr w':World}{e:TypeId}(h:BY B L w wr)(hk:Kept w.heap.size e wr w'):BY B L w w':=
 ⟨hk.bel.os.trans h.os,hk.bel.tape.trans h.tape,hk.bel.output.trans h.output,Nat.le_trans h.size hk.bel.size,fun i hi hn hm=>(hk.bel.block i hi).trans (h.block i hi hn hm)⟩
theorem FS.kept {w w':World}{B P L:Nat}{nm:ByteArray}{base:Nat}{e:TypeId}(h:FS w B P L nm)(hk:Kept base e w w')(hP:P<base)(hL:L<base):FS w' B P L nm:=
 ⟨(hk.bel.block P hP).trans h.p0,(hk.bel.block L hL).trans h.l0⟩
theorem listRec_any (n:Nat)(B P L:Nat)(p:Option Addr)(c:Nat)(ts:List Tk)(ih:AllR n B p c ts)(w:World)(k:Nat)(res:PRes)(h:RS w B p c ts k)(hf:FS w B P L ⟨#[]⟩)(hL:∀a,p=some a→a.block≠L)(hG:8<L)(hres:RecI n res [] [] (ts.drop k)):
 Calls Tryz.prog 237 #[.pointer (some ⟨B,0,none⟩),.func (.func 241) #[] #[.pointer (some ⟨P,0,none⟩),.pointer (some ⟨L,0,none⟩)],.string ⟨#[125]⟩] w fun e w'=>ListY L B p c ts w res e w':=by
 have hlk:=h.le
 have hlen:=h.len
 have hlow:=h.low
 have hBl:=h.lt
 have hPl:=hf.ltp
 have hLl:=hf.ltl
 have HF0:Hid (FS w B P L ⟨#[]⟩):=hf
 have eg:∀args w,(callFunc 241 args).run Tryz.prog w= .ok (.enter 241 args) w:=enters_of Tryz.func241 (by kernel_rfl) rfl
 have HS0:Hid (RecI n res [] [] (ts.drop k)):=hres
 have H0:Hid (RS w B p c ts k):=h
 clear hres h hf
 go_enter Tryz.func237,Tryz.ntmps237
 go_wp2_with fail
 go_loopw [7] (fun pv wr=>∃(k':Nat) (vs:List (List Nd)) (nm:ByteArray),Hid (OW wr w.heap.size pv vs)∧Hid (RecI n res vs nm.data.toList (ts.drop k'))∧Hid (RS wr B p c ts k')∧Hid (FS wr B P L nm)∧Hid (BY B L w wr)∧Hid (∀u∈vs,u≠[])∧
  vs.length+(ts.length-k')≤300∧Hid (vs.flatten.length+(ts.length-k')≤300)) (fun _ wr=>ts.length-(intOf ((wr.cell? ⟨B,1,none⟩).getD undef)).toNat)
 case atStart=>exact⟨k,[],⟨#[]⟩,OW.nil _ _,HS0,H0,HF0,BY.refl _ _ _,(fun u hu=>absurd hu (by simp)),(by show 0+_≤_;omega),(by show 0+_≤_;omega)⟩
 case round=>
  obtain⟨k',vs,nm,HO,HS,HR,HFS,HX,HN,hvl,HF⟩:=hrel
  have hk':=HR.out.le
  have hall:=HR.out.rest
  have y1:=sayB_sgn (c:=125) (w:=[]) hall (by decide)
  obtain⟨qv,cv,rfl,hcv,hcvm⟩:∃qv cv,u7= .slice qv vs.length cv∧vs.length≤cv∧cv≤maxLen:=by
   obtain⟨q,c,h1,_,h2,h3⟩:=HO.out.ol.lists
   exact⟨q,c,h1,h2,h3⟩
  by_cases c1:nextS (ts.drop k') [125]=true
  · obtain⟨t,r,hd,ht⟩:=nextS_cons c1
    obtain⟨d1,d2,d3⟩:=drop_cons hd
    have P1:=passes_yes wr B p c ts k' ⟨#[125]⟩ HR.out (y1.trans c1) d2
    have HE:Hid (res= .ok (mkN 6 vs.length [] []::vs.flatten,r)):=by
     rcases HS.out with⟨_,h2⟩ | ⟨h2,_⟩
     · rw[hd]at h2;exact h2
     · rw[c1]at h2;cases h2
    have HK:Hid (ts.length-r.length=k'+1):=d3
    clear y1 c1 HS hd
    go_wp2_with (go_at_call 176;refine P1.mono ?_;rintro e w2 ⟨rfl,hr2,hx2⟩)
    go_ret
    rw[HE.out]
    have hO2:=HO.out.nodal (Nodal.bx HR.out hx2)
    obtain⟨q2,c2,e2,hll,_,_⟩:=hO2.ol.lists
    refine⟨⟨vs,q2,c2,?_,hll,rfl,HN.out,by have:=HF.out;omega,by omega⟩,?_,HX.out.trans hx2.by⟩
    · rw[←e2];rfl
    · simp only[HK.out];exact hr2
  · have c1':nextS (ts.drop k') [125]=false:=by simpa using c1
    have P1:=passes_no wr B p c ts k' ⟨#[125]⟩ HR.out (y1.trans c1')
    go_wp2_with fail
    refine P1.mono ?_
    rintro e w2 ⟨rfl,hb2⟩
    have hr2:=HR.out.up hb2
    have hX2:BY B L w w2:=HX.out.up hb2
    have hf2:=HFS.out.up hb2
    have hO2:=HO.out.nodal (Nodal.below hb2)
    have hs:(vs=[]∧nm.data.toList=[]∧pK n 0 [] [] (ts.drop k')=some res)∨(vs≠[]∧nextS (ts.drop k') [44]=true∧pK n vs.length nm.data.toList vs.flatten (ts.drop k').tail=some res)∨(vs≠[]∧nextS (ts.drop k') [44]=false∧res= .error ((ts.drop k').length,1)):=by
     rcases HS.out with⟨h2,_⟩ | ⟨_,h2⟩
     · rw[h2]at c1';cases c1'
     · exact h2
    have y2:=sayB_sgn (c:=44) (w:=[]) hall (by decide)
    clear P1 y1 c1 c1' HS
    rcases hs with⟨rfl,hnm,h2⟩ | ⟨hne,c2,h2⟩ | ⟨hne,c2,rfl⟩
    · clear y2 HO
      obtain⟨out,hfo,hout⟩:=RecI.part (vs:=([]:List (List Nd))) h2
      have HG:=fun W (hr:RS W B p c ts k') (hf:FS W B P L nm)=>field_any n B P L p c ts ih W k' nm out hr hf hL hG (by rw[hnm];exact hfo)
      rcases hout with⟨e1,rfl,rfl⟩ | ⟨u,b,r,rfl,g2⟩
      · clear hfo
        go_wp2_with (go_at_fn 241;refine(HG _ hr2 hf2).mono ?_;rintro e w4 ⟨rfl,hr4,hx4⟩)
        exact⟨rfl,rfl,hr4,hX2.trans hx4⟩
      · have hsz:b.length+1+r.length≤ts.length-k'∧ts.drop (ts.length-r.length)=r:=by
         rcases hfo with⟨_,h0⟩ | ⟨u',l1,hd1,_,h0⟩
         · cases h0
         · rcases h0 with⟨_,h0⟩ | ⟨v',l2,rfl,_,h0⟩
           · cases h0
           · rcases h0 with⟨_,_,h0⟩ | ⟨b',r',g1,h0⟩
             · cases h0
             · rcases h0 with⟨_,_,h0⟩ | ⟨_,h0⟩
               · cases h0
               · injection h0 with h0
                 injection h0 with e1 h0
                 injection h0 with e2 e3
                 subst e1 e2 e3
                 have hdd:=hd1
                 have hk2:AllK l2:=fun x hx=>HR.out.all.kinds x (List.mem_of_mem_drop (i:=k') (by rw[hdd];exact List.mem_cons_of_mem _ (List.mem_cons_of_mem _ hx)))
                 obtain⟨g3,_,a',g4⟩:=pE_len hk2 (by omega) g1
                 have:=congrArg List.length hdd
                 rw[List.length_drop,List.length_cons,List.length_cons]at this
                 refine⟨by omega,drop_suffix (k:=k') (a:=u::v'::a') ?_⟩
                 rw[hdd,g4];rfl
        obtain⟨sb,db⟩:=hsz
        have HG2:Hid (RecI n res (([]:List (List Nd))++[mkN 7 0 u.l []::b]) u.l r):=g2
        have HDB:Hid (ts.drop (ts.length-r.length)=r):=db
        have HOO:Hid (OW w2 w.heap.size (.slice qv (([]:List (List Nd))).length cv) ([]:List (List Nd))):=hO2
        have HXQ:Hid (BY B L w w2):=hX2
        have HRQ:Hid (RS w2 B p c ts k'):=hr2
        have HFQ:Hid (FS w2 B P L nm):=hf2
        have HLN:Hid ((mkN 7 0 u.l []::b).length=b.length+1):=rfl
        clear g2 db hfo
        go_wp2_with (first
         | (go_at_fn 241;refine(HG _ HRQ.out HFQ.out).mono ?_;rintro e w4 ⟨⟨qb,cb,rfl,hntb,hcb,hcmb⟩,hr4,hf4,hx4⟩;simp only at hntb hcb hr4 hf4 ⊢; have HNT4:Hid (NT w4 0 qb (mkN 7 0 u.l []::b)):=hntb;have HR4:Hid (RS w4 B p c ts (ts.length-r.length)):=hr4;have HF4:Hid (FS w4 B P L u.s):=hf4;have HX4:Hid (BY B L w w4):=HXQ.out.trans hx4;have HO4:Hid (OW w4 w.heap.size (.slice qv (([]:List (List Nd))).length cv) ([]:List (List Nd))):=HOO.out.nodal (Nodal.by HRQ.out HFQ.out hx4);clear hntb hr4 hx4 hf4)
         | (at_builtin;refine append_ow w4 rfl (.tmp 17) (.tmp 20) rfl w.heap.size (.slice qv 0 cv) ([]:List (List Nd)) rfl HO4.out (mkN 7 0 u.l []::b) qb cb HNT4.out (by rw[HLN.out];exact hcb) hcmb rfl (by simp;try omega) HX4.out.size ?_;intro v5 w5 hown5 hk5))
        have hr5:=HR4.out.kept hk5 hBl hlow
        refine⟨⟨ts.length-r.length,([]:List (List Nd))++[mkN 7 0 u.l []::b],u.s,hown5,by show RecI _ _ _ _ _;rw[HDB.out];exact HG2.out,hr5,HF4.out.kept hk5 hPl hLl,HX4.out.kept hk5,?_,?_,?_⟩,?_⟩
        · intro x hx
          rcases List.mem_append.1 hx with hx | hx
          · exact HN.out x hx
          · simp at hx;subst hx;simp
        · simp;try omega
        · have:=HF.out;show _≤_;simp at this ⊢; try omega
        · rw[hr5.c1,HR.out.c1];simp[intOf];omega
    · obtain⟨t,r0,hd,ht⟩:=nextS_cons c2
      obtain⟨d1,d2,d3⟩:=drop_cons hd
      have hv0:(0:Int)<(vs.length:Int):=by
       have:vs.length≠0:=fun e=>hne (List.eq_nil_of_length_eq_zero e)
       omega
      have P2:=pass_ok w2 B p c ts k' ⟨#[44]⟩ hr2 (y2.trans c2) d2
      rw[hd,List.tail_cons]at h2
      go_wp2_with (go_at_call 143;refine P2.mono ?_;rintro e w3 ⟨rfl,hr3,hx3⟩;have hX3:BY B L w w3:=hX2.trans hx3.by;have hO3:=hO2.nodal (Nodal.bx hr2 hx3);have hf3:=hf2.bx hr2 hx3;clear hx3)
      obtain⟨out,hfo,hout⟩:=RecI.part (vs:=vs) h2
      have HG:=fun W (hr:RS W B p c ts (k'+1)) (hf:FS W B P L nm)=>field_any n B P L p c ts ih W (k'+1) nm out hr hf hL hG (by rw[d1];exact hfo)
      rcases hout with⟨e1,rfl,rfl⟩ | ⟨u,b,r,rfl,g2⟩
      · clear hfo
        go_wp2_with (go_at_fn 241;refine(HG _ hr3 hf3).mono ?_;rintro e w4 ⟨rfl,hr4,hx4⟩)
        exact⟨rfl,rfl,hr4,hX3.trans hx4⟩
      · have hsz:b.length+1+r.length≤ts.length-(k'+1)∧ts.drop (ts.length-r.length)=r:=by
         rcases hfo with⟨_,h0⟩ | ⟨u',l1,hd1,_,h0⟩
         · cases h0
         · rcases h0 with⟨_,h0⟩ | ⟨v',l2,rfl,_,h0⟩
           · cases h0
           · rcases h0 with⟨_,_,h0⟩ | ⟨b',r',g1,h0⟩
             · cases h0
             · rcases h0 with⟨_,_,h0⟩ | ⟨_,h0⟩
               · cases h0
               · injection h0 with h0
                 injection h0 with e1 h0
                 injection h0 with e2 e3
                 subst e1 e2 e3
                 have hdd:=hd1
                 rw[←d1]at hdd
                 have hk2:AllK l2:=fun x hx=>HR.out.all.kinds x (List.mem_of_mem_drop (i:=(k'+1)) (by rw[hdd];exact List.mem_cons_of_mem _ (List.mem_cons_of_mem _ hx)))
                 obtain⟨g3,_,a',g4⟩:=pE_len hk2 (by omega) g1
                 have:=congrArg List.length hdd
                 rw[List.length_drop,List.length_cons,List.length_cons]at this
                 refine⟨by omega,drop_suffix (k:=(k'+1)) (a:=u::v'::a') ?_⟩
                 rw[hdd,g4];rfl
        obtain⟨sb,db⟩:=hsz
        have HG2:Hid (RecI n res (vs++[mkN 7 0 u.l []::b]) u.l r):=g2
        have HDB:Hid (ts.drop (ts.length-r.length)=r):=db
        have HOO:Hid (OW w3 w.heap.size (.slice qv (vs).length cv) vs):=hO3
        have HXQ:Hid (BY B L w w3):=hX3
        have HRQ:Hid (RS w3 B p c ts (k'+1)):=hr3
        have HFQ:Hid (FS w3 B P L nm):=hf3
        have HLN:Hid ((mkN 7 0 u.l []::b).length=b.length+1):=rfl
        clear g2 db hfo
        go_wp2_with (first
         | (go_at_fn 241;refine(HG _ HRQ.out HFQ.out).mono ?_;rintro e w4 ⟨⟨qb,cb,rfl,hntb,hcb,hcmb⟩,hr4,hf4,hx4⟩;simp only at hntb hcb hr4 hf4 ⊢; have HNT4:Hid (NT w4 0 qb (mkN 7 0 u.l []::b)):=hntb;have HR4:Hid (RS w4 B p c ts (ts.length-r.length)):=hr4;have HF4:Hid (FS w4 B P L u.s):=hf4;have HX4:Hid (BY B L w w4):=HXQ.out.trans hx4;have HO4:Hid (OW w4 w.heap.size (.slice qv (vs).length cv) vs):=HOO.out.nodal (Nodal.by HRQ.out HFQ.out hx4);clear hntb hr4 hx4 hf4)
         | (at_builtin;refine append_ow w4 rfl (.tmp 17) (.tmp 20) rfl w.heap.size (.slice qv vs.length cv) vs rfl HO4.out (mkN 7 0 u.l []::b) qb cb HNT4.out (by rw[HLN.out];exact hcb) hcmb rfl (by simp;try omega) HX4.out.size ?_;intro v5 w5 hown5 hk5))
        have hr5:=HR4.out.kept hk5 hBl hlow
        refine⟨⟨ts.length-r.length,vs++[mkN 7 0 u.l []::b],u.s,hown5,by show RecI _ _ _ _ _;rw[HDB.out];exact HG2.out,hr5,HF4.out.kept hk5 hPl hLl,HX4.out.kept hk5,?_,?_,?_⟩,?_⟩
        · intro x hx
          rcases List.mem_append.1 hx with hx | hx
          · exact HN.out x hx
          · simp at hx;subst hx;simp
        · simp;try omega
        · have:=HF.out;show _≤_;simp at this ⊢; try omega
        · rw[hr5.c1,HR.out.c1];simp[intOf];omega
    · have hv0:(0:Int)<(vs.length:Int):=by
       have:vs.length≠0:=fun e=>hne (List.eq_nil_of_length_eq_zero e)
       omega
      have P2:=pass_bad w2 B p c ts k' ⟨#[44]⟩ hr2 (y2.trans c2)
      have HK:Hid (ts.length-(ts.drop k').length=k'):=by show _=_;rw[List.length_drop];omega
      go_wp2_with (go_at_call 143;refine P2.mono ?_;rintro e w3 ⟨rfl,hr3,hx3⟩)
      refine⟨rfl,rfl,?_,hX2.trans hx3.by⟩
      simp only[HK.out];exact hr3
theorem joinAll (op:Int)(vs:List (List Nd))(q:Option Addr)(cc:Nat)(w:World)(hv:LL w q vs)(hne:∀u∈vs,u≠[])(hl:vs.flatten.length≤300)(hc:vs.length≤300):
 Calls Tryz.prog 144 #[.agg #[.int .i64 op,.int .i64 (vs.length:Int),.string ⟨#[]⟩,.string ⟨#[]⟩],.slice q vs.length cc] w fun e w'=>Made w (mkN op vs.length [] []::vs.flatten) e w':=by
 refine(join_any (mkN op vs.length [] []) vs q cc w ⟨Nat.zero_le _,Nat.zero_le _,by show(vs.length:Int)≤_;omega⟩ hv hne (by omega) (by omega)).mono ?_
 rintro e w' ⟨⟨q',c',rfl,h1,h2,h3⟩,hb⟩
 exact⟨⟨q',c',rfl,h1,h2,h3⟩,hb⟩
theorem LL.bx {w w':World}{q:Option Addr}{vs:List (List Nd)}(h:LL w q vs)(hb:Below w.heap.size w w'):LL w' q vs:=h.up hb
theorem record_any (n:Nat)(B:Nat)(p:Option Addr)(c:Nat)(ts:List Tk)(ih:AllR n B p c ts)(w:World)(k:Nat)(res:PRes)(h:RS w B p c ts k)(hne:ts≠[])(hres:RecI n res [] [] (ts.drop k)):
 Calls Tryz.prog 238 #[.pointer (some ⟨B,0,none⟩)] w fun e w'=>EndP B p c ts w res e w':=by
 have hmf:∀(fn:Fn) (first cap:Array Value) (w:World),(Instr.makeFunc fn first cap).run Tryz.prog w= .ok (.func fn first cap) w:=fun _ _ _ _=>rfl
 have hbA:Below w.heap.size w ((w.alloc (.cells #[.pointer (some ⟨B,0,none⟩)] 168)).alloc (.cells #[.string ⟨#[]⟩] 9)):=((Below.refl _ _).alloc (Nat.le_refl _) _).alloc (by simp) _
 have hf:FS ((w.alloc (.cells #[.pointer (some ⟨B,0,none⟩)] 168)).alloc (.cells #[.string ⟨#[]⟩] 9)) B w.heap.size (w.heap.size+1) ⟨#[]⟩:=by
  refine⟨?_,?_⟩
  · have h1:(w.alloc (.cells #[.pointer (some ⟨B,0,none⟩)] 168)).heap[w.heap.size]? =some (.cells #[.pointer (some ⟨B,0,none⟩)] 168 (0,0)):=heap_alloc_new _ _
    have h2:Below (w.heap.size+1) (w.alloc (.cells #[.pointer (some ⟨B,0,none⟩)] 168)) ((w.alloc (.cells #[.pointer (some ⟨B,0,none⟩)] 168)).alloc (.cells #[.string ⟨#[]⟩] 9)):=(Below.refl _ _).alloc (by simp) _
    exact(h2.block w.heap.size (by omega)).trans h1
  · have h1:=heap_alloc_new (w.alloc (.cells #[.pointer (some ⟨B,0,none⟩)] 168)) (.cells #[.string ⟨#[]⟩] 9)
    have h2:(w.alloc (.cells #[.pointer (some ⟨B,0,none⟩)] 168)).heap.size=w.heap.size+1:=by simp
    rw[h2]at h1
    exact h1
 have hL:∀a,p=some a→a.block≠w.heap.size+1:=fun a ha=>by
  rcases h.low with h0 | h0
  · exact absurd h0 hne
  · have:=h0 a ha;omega
 have H:=listRec_any n B w.heap.size (w.heap.size+1) p c ts ih _ k res (h.up hbA) hf hL (by have:=h.ge;have:=h.lt;omega) hres
 have HB:Hid (∀w',BY B (w.heap.size+1) ((w.alloc (.cells #[.pointer (some ⟨B,0,none⟩)] 168)).alloc (.cells #[.string ⟨#[]⟩] 9)) w'→BX B w w'):=fun w' hy=>
  ⟨hy.os.trans hbA.os,hy.tape.trans hbA.tape,hy.output.trans hbA.output,Nat.le_trans hbA.size hy.size,fun i hi hn=>(hy.block i (Nat.lt_of_lt_of_le hi hbA.size) hn (by omega)).trans (hbA.block i hi)⟩
 clear hres hf
 go_enter Tryz.func238,Tryz.ntmps238
 go_wp2_with fail
 refine H.mono ?_
 intro e w1 he
 cases res with
 | error y=>
   obtain⟨rfl,hr1,hy1⟩:=he
   have hx:=HB.out _ hy1
   clear HB hbA H
   go_wp2
   exact⟨rfl,rfl,hr1,hx⟩
 | ok x=>
   obtain⟨⟨vs,q,cc,rfl,hll,hx1,hnv,hfl,hvl⟩,hr1,hy1⟩:=he
   have HX:Hid (BX B w w1):=HB.out _ hy1
   have HJ:=joinAll 6 vs q cc w1 hll hnv hfl hvl
   have HX1:Hid (x.1=mkN 6 vs.length [] []::vs.flatten):=hx1
   have HL1:Hid ((mkN 6 vs.length [] []::vs.flatten).length=vs.flatten.length+1):=rfl
   clear HB hbA H hy1 hll hnv hx1
   generalize vs.flatten=F at *
   go_wp2_with (go_at_call 144;refine HJ.mono ?_;rintro e w2 ⟨⟨q2,c2,rfl,hnt2,hc2,hcm2⟩,hb2⟩)
   go_ret
   exact⟨⟨q2,c2,by rw[HX1.out];rfl,by rw[HX1.out];exact hnt2,by rw[HX1.out];exact hc2,hcm2⟩,hr1.up hb2,HX.out.up hb2⟩
theorem beq_sgn {t:Tk}(h5:t.kind=5)(s:List UInt8):(t.l == s)=sgn t s:=by unfold sgn;rw[h5];rfl
theorem great_size {t:Tk}(h:spB t=true):t.s.size≤60:=by have:=spB_size h;unfold Tk.l at this;simpa using this
theorem atom_step (n:Nat)(B:Nat)(p:Option Addr)(c:Nat)(ts:List Tk)(ih:AllR n B p c ts):Reads (n+1) 8 232 B p c ts:=by
 intro w k res h hres
 have hlk:=h.le
 have hlen:=h.len
 have hall:=h.rest
 have hmf:∀(fn:Fn) (first cap:Array Value) (w:World),(Instr.makeFunc fn first cap).run Tryz.prog w= .ok (.func fn first cap) w:=fun _ _ _ _=>rfl
 have A0:=ahead0_any w B p c ts k h
 obtain⟨t,hdt⟩:∃t,hdT (ts.drop k)=t:=⟨_,rfl⟩
 rw[hdt]at A0
 unfold tokV at A0
 go_enter Tryz.func232,Tryz.ntmps232
 go_wp2_with fail
 refine A0.mono ?_
 rintro e w1 ⟨rfl,hb1⟩
 have hbt:Below w1.heap.size w1 (w1.alloc (.cells #[.int .i64 t.kind,.string t.s,.int .i64 t.at_] 78)):=(Below.refl _ _).alloc (Nat.le_refl _) _
 have hr1:=(h.up hb1).up hbt
 have hX1:BX B w (w1.alloc (.cells #[.int .i64 t.kind,.string t.s,.int .i64 t.at_] 78)):=(BX.of_below hb1).up hbt
 have t0:(w1.alloc (.cells #[.int .i64 t.kind,.string t.s,.int .i64 t.at_] 78)).cell? ⟨w1.heap.size,0,none⟩=some (.int .i64 t.kind):=by simp[go_sem]
 clear hbt A0
 obtain⟨wt,hwt⟩:∃wt,wt=w1.alloc (.cells #[.int .i64 t.kind,.string t.s,.int .i64 t.at_] 78):=⟨_,rfl⟩
 rw[←hwt]at hr1 hX1 t0
 by_cases k1:t.kind=1
 · obtain⟨r,hd⟩:∃r,ts.drop k=t::r:=by
    cases hd:ts.drop k with
    | nil=>rw[hd]at hdt;rw[←hdt]at k1;exact absurd k1 (by decide)
    | cons t' r=>rw[hd]at hdt;exact⟨r,by rw[show t'=t from hdt]⟩
   have e1:(t.kind == 1)=true:=by rw[k1];rfl
   rw[hd,pE8_name _ _ _ k1]at hres
   have HN:=named_any B p c ts wt k t r res hr1 hd k1 hres
   clear hres hd hdt k1
   go_wp2_with (go_at_call 235;(try rw[←hwt]);refine HN.mono ?_;intro e w4 he;have HE:Hid (EndP B p c ts w res e w4):=EndP.step hX1 he;rcases he.shape with⟨q,nn,cc,rfl⟩ | ⟨y,rfl⟩)
   · go_ret
     exact HE.out
   · exact⟨rfl,HE.out⟩
 · have e1:(t.kind == 1)=false:=by simpa using k1
   by_cases k2:t.kind=2
   · obtain⟨r,hd⟩:∃r,ts.drop k=t::r:=by
      cases hd:ts.drop k with
      | nil=>rw[hd]at hdt;rw[←hdt]at k2;exact absurd k2 (by decide)
      | cons t' r=>rw[hd]at hdt;exact⟨r,by rw[show t'=t from hdt]⟩
     obtain⟨d1,d2,d3⟩:=drop_cons hd
     have e2:(t.kind == 2)=true:=by rw[k2];rfl
     have hst:=h.all t (List.mem_of_mem_drop (i:=k) (by rw[hd];exact List.mem_cons_self ..))
     obtain⟨s1,s2,s3⟩:=spB_two hst k2
     have hat:=atoi_plain s1 s2 s3
     rw[hd,pE8,if_pos e2]at hres
     have hkl:ts.length-(r.length+1)=k:=by have:=congrArg List.length hd;rw[List.length_drop,List.length_cons]at this;omega
     by_cases hg:great t false=true
     · rw[if_pos hg]at hres hat
       have HN:=number_over wt B p c ts k ⟨#[]⟩ hr1 (by rw[hdt];exact k2) (by decide) (by rw[hdt];exact great_size hst) (by rw[hdt];exact hat)
       injection hres with hres
       subst hres
       have HKL:Hid _:=hkl
       clear hd hdt k2 hat hg
       go_wp2_with (go_at_call 236;(try rw[←hwt]);refine HN.mono ?_;rintro e w4 ⟨rfl,hr4,hx4⟩)
       refine⟨rfl,rfl,?_,hX1.trans hx4⟩
       simp only[HKL.out];exact hr4
     · have hg':great t false=false:=by simpa using hg
       rw[if_neg hg]at hres hat
       have hrng:=num_range (b:=false) s1 s2 hg'
       simp only[Bool.false_eq_true,if_false]at hrng
       have HN:=number_ok wt B p c ts k ⟨#[]⟩ (digV t.l) hr1 d2 (by rw[hdt];exact k2) (by decide) (by rw[hdt];exact great_size hst) (by rw[hdt];exact hat) hrng.2
       injection hres with hres
       subst hres
       have HD3:Hid (ts.length-r.length=k+1):=d3
       have HNN:Hid (numN t false=mkN 2 (digV t.l) [] []):=rfl
       clear hd hdt k2 hat hg hg' hrng
       go_wp2_with (go_at_call 236;(try rw[←hwt]);refine HN.mono ?_;rintro e w4 ⟨⟨q4,c4,rfl,hnt4,hc4,hcm4⟩,hr4,hx4⟩)
       go_ret
       refine⟨⟨q4,c4,rfl,by rw[HNN.out];exact hnt4,hc4,hcm4⟩,?_,hX1.trans hx4⟩
       simp only[HD3.out];exact hr4
   · have e2:(t.kind == 2)=false:=by simpa using k2
     by_cases k3:t.kind=3
     · obtain⟨r,hd⟩:∃r,ts.drop k=t::r:=by
        cases hd:ts.drop k with
        | nil=>rw[hd]at hdt;rw[←hdt]at k3;exact absurd k3 (by decide)
        | cons t' r=>rw[hd]at hdt;exact⟨r,by rw[show t'=t from hdt]⟩
       obtain⟨d1,d2,d3⟩:=drop_cons hd
       have e3:(t.kind == 3)=true:=by rw[k3];rfl
       have hst:=h.all t (List.mem_of_mem_drop (i:=k) (by rw[hd];exact List.mem_cons_self ..))
       have htsz:t.s.size≤maxLen:=by have:=great_size hst;unfold maxLen;omega
       rw[hd,pE8,e2,e3]at hres
       simp only[Bool.false_eq_true,if_false,if_true]at hres
       injection hres with hres
       subst hres
       have HT:=take_ok wt B p c ts k 3 hr1 d2 (by rw[hdt];exact k3)
       rw[hdt]at HT
       have HJ:=fun W=>join0 (mkN 3 0 t.s.data.toList []) W (mkN_wf htsz)
       rw[ndV_mk]at HJ
       have HD3:Hid (ts.length-r.length=k+1):=d3
       clear hd hdt k3
       go_wp2_with (first
        | (go_at_call 206;(try rw[←hwt]);refine HT.mono ?_;rintro e w3 ⟨rfl,hr3,hx3⟩)
        | (go_at_call 144;(try rw[←hwt]);refine(HJ _).mono ?_;rintro e w4 ⟨⟨q4,c4,rfl,hnt4,hc4,hcm4⟩,hb4⟩))
       go_ret
       refine⟨⟨q4,c4,rfl,hnt4,hc4,hcm4⟩,?_,(hX1.trans hx3).up hb4⟩
       simp only[HD3.out];exact hr3.up hb4
     · have e3:(t.kind == 3)=false:=by simpa using k3
       by_cases k4:t.kind=4
       · obtain⟨r,hd⟩:∃r,ts.drop k=t::r:=by
          cases hd:ts.drop k with
          | nil=>rw[hd]at hdt;rw[←hdt]at k4;exact absurd k4 (by decide)
          | cons t' r=>rw[hd]at hdt;exact⟨r,by rw[show t'=t from hdt]⟩
         obtain⟨d1,d2,d3⟩:=drop_cons hd
         have e4:(t.kind == 4)=true:=by rw[k4];rfl
         have hst:=h.all t (List.mem_of_mem_drop (i:=k) (by rw[hd];exact List.mem_cons_self ..))
         have htsz:t.s.size≤60:=great_size hst
         rw[hd,pE8,e2,e3,e4]at hres
         simp only[Bool.false_eq_true,if_false,if_true]at hres
         injection hres with hres
         subst hres
         have HT:=take_ok wt B p c ts k 4 hr1 d2 (by rw[hdt];exact k4)
         rw[hdt]at HT
         have hq:(ByteArray.mk #[63]++t.s).data.toList=63::t.l:=by unfold Tk.l;simp
         have HJ:=fun W=>join0 (mkN 8 0 (ByteArray.mk #[63]++t.s).data.toList []) W (mkN_wf (by have h1:(ByteArray.mk #[63]).size=1:=rfl;unfold maxLen;simp[h1];omega))
         rw[ndV_mk,hq]at HJ
         have HD3:Hid (ts.length-r.length=k+1):=d3
         clear hd hdt k4 hq
         go_wp2_with (first
          | (go_at_call 206;(try rw[←hwt]);refine HT.mono ?_;rintro e w3 ⟨rfl,hr3,hx3⟩)
          | (go_at_call 144;(try rw[←hwt]);refine(HJ _).mono ?_;rintro e w4 ⟨⟨q4,c4,rfl,hnt4,hc4,hcm4⟩,hb4⟩))
         go_ret
         refine⟨⟨q4,c4,rfl,hnt4,hc4,hcm4⟩,?_,(hX1.trans hx3).up hb4⟩
         simp only[HD3.out];exact hr3.up hb4
       · have e4:(t.kind == 4)=false:=by simpa using k4
         have y1:=sayB_sgn (c:=45) (w:=[]) hall (by decide)
         have y2:=sayB_sgn (c:=91) (w:=[]) hall (by decide)
         have y3:=sayB_sgn (c:=123) (w:=[]) hall (by decide)
         have y4:=sayB_sgn (c:=40) (w:=[]) hall (by decide)
         have PN:=fun W (hr:RS W B p c ts k) s (hs:sayB (ts.drop k) s.data.toList=false)=>passes_no W B p c ts k s hr hs
         by_cases c1:nextS (ts.drop k) [45]=true
         · obtain⟨t',r,hd,ht⟩:=nextS_cons c1
           obtain rfl:t'=t:=by rw[hd]at hdt;exact hdt
           obtain⟨d1,d2,d3⟩:=drop_cons hd
           obtain⟨k5,tl⟩:=sgn_kind ht
           rw[hd,pE8_sign _ _ _ k5,tl,if_pos (by rfl)]at hres
           have P1:=passes_yes wt B p c ts k ⟨#[45]⟩ hr1 (y1.trans c1) d2
           clear k5 tl hd ht c1 y1 y2 y3 y4 hdt
           go_wp2_with (go_at_call 176;(try rw[←hwt]);refine P1.mono ?_;rintro e w2 ⟨rfl,hr2,hx2⟩)
           have hX2:BX B w w2:=hX1.trans hx2
           clear P1 hx2 hr1 hX1
           rcases must_some hres with⟨m1,rfl⟩ | ⟨u,r2,rfl,m1,g1⟩
           · refine(number_bad w2 B p c ts (k+1) ⟨#[45]⟩ hr2 (by rw[d1];exact hd_bad (by decide) m1)).mono ?_
             rintro e w3 ⟨rfl,hr3,hx3⟩
             have HD3:Hid (ts.length-r.length=k+1):=d3
             clear m1
             go_wp2
             refine⟨rfl,rfl,?_,hX2.trans hx3⟩
             simp only[HD3.out];exact hr3
           · obtain⟨d4,d5,d6⟩:=drop_cons d1
             have hdu:hdT (ts.drop (k+1))=u:=by rw[d1];rfl
             have ku:u.kind=2:=by simpa using m1
             have hsu:=h.all u (List.mem_of_mem_drop (i:=k+1) (by rw[d1];exact List.mem_cons_self ..))
             obtain⟨s1,s2,s3⟩:=spB_two hsu ku
             have hat:=atoi_minus s1 s2 s3
             by_cases hg:great u true=true
             · rw[if_pos hg]at g1 hat
               refine(number_over w2 B p c ts (k+1) ⟨#[45]⟩ hr2 (by rw[hdu];exact ku) (by decide) (by rw[hdu];exact great_size hsu) (by rw[hdu];exact hat)).mono ?_
               rintro e w3 ⟨rfl,hr3,hx3⟩
               injection g1 with g1
               subst g1
               have HKL:Hid (ts.length-(r2.length+1)=k+1):=by show _=_;simp only[List.length_cons]at d3;exact d3
               clear m1 hg hat
               go_wp2
               refine⟨rfl,rfl,?_,hX2.trans hx3⟩
               simp only[HKL.out];exact hr3
             · have hg':great u true=false:=by simpa using hg
               rw[if_neg hg]at g1 hat
               have hrng:=num_range (b:=true) s1 s2 hg'
               simp only[if_true]at hrng
               refine(number_ok w2 B p c ts (k+1) ⟨#[45]⟩ (-digV u.l) hr2 d5 (by rw[hdu];exact ku) (by decide) (by rw[hdu];exact great_size hsu) (by rw[hdu];exact hat) hrng.2).mono ?_
               rintro e w3 ⟨⟨q3,c3,rfl,hnt3,hc3,hcm3⟩,hr3,hx3⟩
               injection g1 with g1
               subst g1
               have HD6:Hid (ts.length-r2.length=k+1+1):=d6
               have HNN:Hid (numN u true=mkN 2 (-digV u.l) [] []):=rfl
               have HNT:Hid (NT w3 0 q3 [mkN 2 (-digV u.l) [] []]):=hnt3
               clear m1 hg hat hg' hrng hnt3
               go_wp2
               go_ret
               refine⟨⟨q3,c3,rfl,by rw[HNN.out];exact HNT.out,hc3,hcm3⟩,?_,hX2.trans hx3⟩
               simp only[HD6.out];exact hr3
         · have c1':nextS (ts.drop k) [45]=false:=by simpa using c1
           have hk5:∀t' r,ts.drop k=t'::r→t'.kind=5:=fun t' r hd=>by
            have e0:t'=t:=by rw[hd]at hdt;exact hdt
            subst e0
            have:=hall.kinds t' (by rw[hd];exact List.mem_cons_self ..)
            unfold kOk at this
            simp only[Bool.or_eq_true,beq_iff_eq]at this
            omega
           have P1:=PN wt hr1 ⟨#[45]⟩ (y1.trans c1')
           by_cases c2:nextS (ts.drop k) [91]=true
           · obtain⟨t',r,hd,ht⟩:=nextS_cons c2
             obtain⟨d1,d2,d3⟩:=drop_cons hd
             obtain⟨k5,tl⟩:=sgn_kind ht
             rw[hd,pE8_sign _ _ _ k5,tl,if_neg (by decide),if_neg (by decide),if_pos (by rfl)]at hres
             have hSI:=SetI.start hres
             have P2:=fun W (hr:RS W B p c ts k)=>passes_yes W B p c ts k ⟨#[91]⟩ hr (y2.trans c2) d2
             have HL:=fun W (hr:RS W B p c ts (k+1))=>listSet_any n B p c ts ih W (k+1) res hr (by rw[d1];exact hSI)
             clear hres hSI hd ht c1 c1' c2 y1 y2 y3 y4 tl hdt k5 hk5
             go_wp2_with fail
             try rw[←hwt]
             refine P1.mono ?_
             rintro e w2 ⟨rfl,hb2⟩
             go_wp2_with fail
             refine(P2 _ (hr1.up hb2)).mono ?_
             rintro e w3 ⟨rfl,hr3,hx3⟩
             go_wp2_with fail
             refine(HL _ hr3).mono ?_
             intro e w4 he
             have hX3:BX B w w3:=(hX1.up hb2).trans hx3
             cases res with
             | error y=>
               obtain⟨rfl,hr4,hx4⟩:=he
               go_wp2
               exact⟨rfl,rfl,hr4,hX3.trans hx4⟩
             | ok x=>
               obtain⟨⟨vs,q,cc,rfl,hll,hx1,hnv,hfl,hvl⟩,hr4,hx4⟩:=he
               have HX:Hid (BX B w w4):=hX3.trans hx4
               have HJ:=joinAll 5 vs q cc w4 hll hnv hfl hvl
               have HXe:Hid (x.1=mkN 5 vs.length [] []::vs.flatten):=hx1
               clear hll hnv hx1 hx4 HL
               generalize vs.flatten=F at *
               go_wp2_with (go_at_call 144;refine HJ.mono ?_;rintro e w5 ⟨⟨q2,c2,rfl,hnt2,hc2,hcm2⟩,hb5⟩)
               go_ret
               exact⟨⟨q2,c2,by rw[HXe.out];rfl,by rw[HXe.out];exact hnt2,by rw[HXe.out];exact hc2,hcm2⟩,hr4.up hb5,HX.out.up hb5⟩
           · have c2':nextS (ts.drop k) [91]=false:=by simpa using c2
             by_cases c3:nextS (ts.drop k) [123]=true
             · obtain⟨t',r,hd,ht⟩:=nextS_cons c3
               obtain⟨d1,d2,d3⟩:=drop_cons hd
               obtain⟨k5,tl⟩:=sgn_kind ht
               rw[hd,pE8_sign _ _ _ k5,tl,if_neg (by decide),if_neg (by decide),if_neg (by decide),if_pos (by rfl)]at hres
               have hSI:=RecI.start hres
               have hnts:ts≠[]:=fun e=>by rw[e]at d2;simp at d2
               have P2:=fun W (hr:RS W B p c ts k)=>PN W hr ⟨#[91]⟩ (y2.trans c2')
               have P3:=fun W (hr:RS W B p c ts k)=>passes_yes W B p c ts k ⟨#[123]⟩ hr (y3.trans c3) d2
               have HL:=fun W (hr:RS W B p c ts (k+1))=>record_any n B p c ts ih W (k+1) res hr hnts (by rw[d1];exact hSI)
               clear hres hSI hd ht c1 c1' c2 c2' c3 y1 y2 y3 y4 tl hdt k5 hk5
               go_wp2_with fail
               try rw[←hwt]
               refine P1.mono ?_
               rintro e w2 ⟨rfl,hb2⟩
               go_wp2_with fail
               refine(P2 _ (hr1.up hb2)).mono ?_
               rintro e w3 ⟨rfl,hb3⟩
               go_wp2_with fail
               refine(P3 _ ((hr1.up hb2).up hb3)).mono ?_
               rintro e w4 ⟨rfl,hr4,hx4⟩
               go_wp2_with fail
               refine(HL _ hr4).mono ?_
               intro e w5 he
               have HE:Hid (EndP B p c ts w res e w5):=EndP.step (((hX1.up hb2).up hb3).trans hx4) he
               rcases he.shape with⟨q,nn,cc,rfl⟩ | ⟨y,rfl⟩
               · go_wp2
                 go_ret
                 exact HE.out
               · go_wp2
                 exact⟨rfl,HE.out⟩
             · have c3':nextS (ts.drop k) [123]=false:=by simpa using c3
               have P2:=fun W (hr:RS W B p c ts k)=>PN W hr ⟨#[91]⟩ (y2.trans c2')
               have P3:=fun W (hr:RS W B p c ts k)=>PN W hr ⟨#[123]⟩ (y3.trans c3')
               by_cases c4:nextS (ts.drop k) [40]=true
               · obtain⟨t',r,hd,ht⟩:=nextS_cons c4
                 obtain⟨d1,d2,d3⟩:=drop_cons hd
                 obtain⟨k5,tl⟩:=sgn_kind ht
                 rw[hd,pE8_sign _ _ _ k5,tl,if_neg (by decide),if_pos (by rfl)]at hres
                 have P4:=fun W (hr:RS W B p c ts k)=>pass_ok W B p c ts k ⟨#[40]⟩ hr (y4.trans c4) d2
                 clear hd ht c1 c1' c2 c2' c3 c3' c4 y1 y2 y3 y4 tl hdt k5 hk5
                 go_wp2_with fail
                 try rw[←hwt]
                 refine P1.mono ?_
                 rintro e w2 ⟨rfl,hb2⟩
                 go_wp2_with fail
                 refine(P2 _ (hr1.up hb2)).mono ?_
                 rintro e w3 ⟨rfl,hb3⟩
                 go_wp2_with fail
                 refine(P3 _ ((hr1.up hb2).up hb3)).mono ?_
                 rintro e w4 ⟨rfl,hb4⟩
                 go_wp2_with fail
                 refine(P4 _ (((hr1.up hb2).up hb3).up hb4)).mono ?_
                 rintro e w5 ⟨rfl,hr5,hx5⟩
                 go_wp2_with fail
                 have hX5:BX B w w5:=(((hX1.up hb2).up hb3).up hb4).trans hx5
                 clear hx5 P1 P2 P3 P4 PN
                 rcases andR_some hres with⟨e1',g1,rfl⟩ | ⟨a,r1,g1,g2⟩
                 · refine(ih 0 (by omega) w5 _ _ hr5 (by rw[d1];exact g1)).mono ?_
                   rintro e w6 ⟨rfl,hr6,hx6⟩
                   go_wp2
                   exact⟨rfl,rfl,hr6,hX5.trans hx6⟩
                 · obtain⟨na,la,sa,da⟩:=hr5.next_words (w1:=w) (n:=n) (lvl:=0) (by omega) (by rw[d1];exact g1)
                   refine(ih 0 (by omega) w5 _ _ hr5 (by rw[d1];exact g1)).mono ?_
                   rintro e w6 ⟨⟨qa,ca,rfl,hnta,hca,hcma⟩,hr6,hx6⟩
                   simp only at hnta hca hr6 ⊢
                   have hX6:BX B w w6:=hX5.trans hx6
                   have al:=hr6.rest
                   rw[da]at al
                   clear g1 hx6
                   go_wp2_with fail
                   rcases must_some g2 with⟨m1,rfl⟩ | ⟨x,r2,rfl,m1,g3⟩
                   · refine(pass_bad w6 B p c ts _ ⟨#[41]⟩ hr6 (by rw[da];exact say_must_s al (by decide) m1)).mono ?_
                     rintro e w7 ⟨rfl,hr7,hx7⟩
                     go_wp2
                     exact⟨rfl,rfl,hr7,hX6.trans hx7⟩
                   · obtain⟨d4,d5,d6⟩:=drop_cons da
                     refine(pass_ok w6 B p c ts _ ⟨#[41]⟩ hr6 (by rw[da];exact(sayB_sgn al (by decide)).trans m1) d5).mono ?_
                     rintro e w7 ⟨rfl,hr7,hx7⟩
                     have HNT:Hid (NT w7 0 qa a):=hnta.bx hr6 hx7
                     have HD6:Hid (ts.length-r2.length=ts.length-(x::r2).length+1):=d6
                     have HR7:Hid (RS w7 B p c ts (ts.length-(x::r2).length+1)):=hr7
                     have HX7:Hid (BX B w w7):=hX6.trans hx7
                     injection g3 with g3
                     subst g3
                     clear hnta hr6 hx7 hr7 m1 al
                     go_wp2
                     go_ret
                     refine⟨⟨qa,ca,rfl,HNT.out,hca,hcma⟩,?_,HX7.out⟩
                     simp only[HD6.out];exact HR7.out
               · have c4':nextS (ts.drop k) [40]=false:=by simpa using c4
                 have HE:Hid (res= .error ((ts.drop k).length,1)):=by
                  cases hd:ts.drop k with
                  | nil=>
                    rw[hd]at hres
                    have e0:pE (n+1) 8 []=some (.error (0,1)):=by rw[pE.eq_def];rfl
                    rw[e0]at hres
                    injection hres with hres
                    exact hres.symm
                  | cons t' r=>
                    have k5:=hk5 t' r hd
                    rw[hd]at c1' c2' c3' c4' hres
                    rw[pE8_sign _ _ _ k5,beq_sgn k5,beq_sgn k5,beq_sgn k5,beq_sgn k5,show sgn t' [45]=false from c1',show sgn t' [40]=false from c4',show sgn t' [91]=false from c2',show sgn t' [123]=false from c3']at hres
                    simp only[Bool.false_eq_true,if_false]at hres
                    injection hres with hres
                    exact hres.symm
                 have HK0:Hid (ts.length-(ts.drop k).length=k):=by show _=_;rw[List.length_drop];omega
                 have P4:=fun W (hr:RS W B p c ts k)=>pass_bad W B p c ts k ⟨#[40]⟩ hr (y4.trans c4')
                 clear hres c1 c1' c2 c2' c3 c3' c4 c4' y1 y2 y3 y4 hdt hk5
                 go_wp2_with fail
                 try rw[←hwt]
                 refine P1.mono ?_
                 rintro e w2 ⟨rfl,hb2⟩
                 go_wp2_with fail
                 refine(P2 _ (hr1.up hb2)).mono ?_
                 rintro e w3 ⟨rfl,hb3⟩
                 go_wp2_with fail
                 refine(P3 _ ((hr1.up hb2).up hb3)).mono ?_
                 rintro e w4 ⟨rfl,hb4⟩
                 go_wp2_with fail
                 refine(P4 _ (((hr1.up hb2).up hb3).up hb4)).mono ?_
                 rintro e w5 ⟨rfl,hr5,hx5⟩
                 go_wp2_with fail
                 refine⟨rfl,?_⟩
                 rw[HE.out]
                 refine⟨rfl,?_,(((hX1.up hb2).up hb3).up hb4).trans hx5⟩
                 simp only[HK0.out];exact hr5
theorem all_zero (B:Nat)(p:Option Addr)(c:Nat)(ts:List Tk):AllR 0 B p c ts:=fun lvl _ W k res _ hres=>by rw[pE]at hres;cases hres
theorem all_reads (B:Nat)(p:Option Addr)(c:Nat)(ts:List Tk):∀n,AllR n B p c ts
 | 0=>all_zero B p c ts
 | n+1=>by
   have ih:=all_reads B p c ts n
   intro lvl hl
   match lvl,hl with
   | 0,_=>exact whole_step n B p c ts ih
   | 1,_=>exact either_step n B p c ts ih
   | 2,_=>exact both_step n B p c ts ih
   | 3,_=>exact rel_step n B p c ts ih
   | 4,_=>exact sum_step n B p c ts ih
   | 5,_=>exact prod_step n B p c ts ih
   | 6,_=>exact sign_step n B p c ts ih
   | 7,_=>exact post_step n B p c ts ih
   | 8,_=>exact atom_step n B p c ts ih
theorem pcatch_idle (p q r s:Addr)(w:World):
 CallsD Tryz.prog 116 #[.pointer (some p),.pointer (some q),.pointer (some r),.pointer (some s)] .returning w fun e u' w'=>e= .returned (.tuple #[])∧u'= .returning∧w'=w:=by
 refine callsD_of_wpS Tryz.func116 rfl fun c₀ cs hu=>?_
 apply wpS_seq
 apply wpS_region
 simp[wpOpsS,go_sem,recoverD,hu,Tryz.ntmps116,Exit.thenS]
 have e:∀p q r s X:Value, #[p,q,r,s]++(Array.replicate 15 undef).setIfInBounds 3 X= #[p,q,r,s,undef,undef,undef,X,undef,undef,undef,undef,undef,undef,undef,undef,undef,undef,undef]:=fun _ _ _ _ _=>rfl
 rw[e]
 refine wpS_of_wp ?_
 go_wp2
 cases c₀
 simp_all [bodyPostS,results,Tryz.results116]
theorem pcatch_thrown (n:Int)(N:Nat)(w:World)(k:Int)(u0 u1 u2:Value)(h0:w.cell? ⟨N,0,none⟩=some u0)(z0:w.frozen? ⟨N,0,none⟩=false)(h1:w.cell? ⟨N+1,0,none⟩=some u1)(z1:w.frozen? ⟨N+1,0,none⟩=false)
 (h2:w.cell? ⟨N+2,0,none⟩=some u2) (z2:w.frozen? ⟨N+2,0,none⟩=false) (h4:w.cell? ⟨N+4,0,none⟩=some (.pointer (some ⟨N+3,0,none⟩))) (h3:w.cell? ⟨N+3,1,none⟩=some (.int .i64 k)) (hs:N+5≤w.heap.size):
 CallsD Tryz.prog 116 #[.pointer (some ⟨N+4,0,none⟩),.pointer (some ⟨N,0,none⟩),.pointer (some ⟨N+1,0,none⟩),.pointer (some ⟨N+2,0,none⟩)] (.panicking (thrownP n)) w fun e u' w'=>e= .returned (.tuple #[])∧u'= .panicking [{ v:=.iface 172 (.agg #[.iface 41 (.int .i64 n)]),recovered:=true }]∧
  w'.cell? ⟨N,0,none⟩=some (.slice none 0 0)∧w'.cell? ⟨N+1,0,none⟩=some (.int .i64 k)∧w'.cell? ⟨N+2,0,none⟩=some (.iface 41 (.int .i64 n))∧Below N w w':=by
 have hta:∀w:World,Sem.run Tryz.prog (Instr.typeAssert (.iface 172 (.agg #[.iface 41 (.int .i64 n)])) 20 172 true) w= .ok (.tuple #[.agg #[.iface 41 (.int .i64 n)],.bool true]) w:=fun _=>by kernel_rfl
 refine callsD_of_wpS Tryz.func116 rfl fun c₀ cs hu=>?_
 unfold thrownP at hu
 apply wpS_seq
 apply wpS_region
 simp[wpOpsS,go_sem,recoverD,hu,Tryz.ntmps116,Exit.thenS]
 have e:∀p q r s X:Value, #[p,q,r,s]++(Array.replicate 15 undef).setIfInBounds 3 X= #[p,q,r,s,undef,undef,undef,X,undef,undef,undef,undef,undef,undef,undef,undef,undef,undef,undef]:=fun _ _ _ _ _=>rfl
 rw[e]
 refine wpS_of_wp ?_
 go_wp2_with fail
 have hbA:Below w.heap.size w (w.alloc (.cells #[.iface 41 (.int .i64 n)] 172)):=(Below.refl _ _).alloc (Nat.le_refl _) _
 have a0:=(hbA.cell (p:=⟨N,0,none⟩) (by show N<_;omega)).trans h0
 have a1:=(hbA.cell (p:=⟨N+1,0,none⟩) (by show N+1<_;omega)).trans h1
 have a2:=(hbA.cell (p:=⟨N+2,0,none⟩) (by show N+2<_;omega)).trans h2
 have a3:=(hbA.cell (p:=⟨N+3,1,none⟩) (by show N+3<_;omega)).trans h3
 have a4:=(hbA.cell (p:=⟨N+4,0,none⟩) (by show N+4<_;omega)).trans h4
 have y0:=(hbA.frozen (p:=⟨N,0,none⟩) (by show N<_;omega)).trans z0
 have y1:=(hbA.frozen (p:=⟨N+1,0,none⟩) (by show N+1<_;omega)).trans z1
 have y2:=(hbA.frozen (p:=⟨N+2,0,none⟩) (by show N+2<_;omega)).trans z2
 have a5:(w.alloc (.cells #[.iface 41 (.int .i64 n)] 172)).cell? ⟨w.heap.size,0,none⟩=some (.iface 41 (.int .i64 n)):=by simp[go_sem]
 have hbB:Below N w (w.alloc (.cells #[.iface 41 (.int .i64 n)] 172)):=hbA.mono (by omega)
 clear hbA
 generalize w.alloc (.cells #[.iface 41 (.int .i64 n)] 172)=w1 at *
 have n0:N≠w.heap.size:=by omega
 have n1:N+1≠w.heap.size:=by omega
 have n2:N+2≠w.heap.size:=by omega
 have n3:w.heap.size≠N:=by omega
 have n4:w.heap.size≠N+1:=by omega
 have n5:w.heap.size≠N+2:=by omega
 clear h0 h1 h2 h3 h4 z0 z1 z2 hta
 go_region_held (fun w'=>w'.cell? ⟨N+4,0,none⟩=some (.pointer (some ⟨N+3,0,none⟩))∧w'.cell? ⟨N+3,1,none⟩=some (.int .i64 k)∧w'.cell? ⟨w.heap.size,0,none⟩=some (.iface 41 (.int .i64 n))) (go_keep) (fail)
 all_goals go_wp2
 have k0:(((w1.setCell ⟨N,0,none⟩ (.slice none 0 0)).setCell ⟨N+1,0,none⟩ (.int .i64 k)).setCell ⟨N+2,0,none⟩ (.iface 41 (.int .i64 n))).drew.cell? ⟨N,0,none⟩=some (.slice none 0 0):=
  ((World.cell?_setCell_other _ _ _ _ (by simp)).trans (World.cell?_setCell_other _ _ _ _ (by simp))).trans (World.cell?_setCell_same _ _ _ a0)
 have k1:(((w1.setCell ⟨N,0,none⟩ (.slice none 0 0)).setCell ⟨N+1,0,none⟩ (.int .i64 k)).setCell ⟨N+2,0,none⟩ (.iface 41 (.int .i64 n))).drew.cell? ⟨N+1,0,none⟩=some (.int .i64 k):=
  (World.cell?_setCell_other _ _ _ _ (by simp)).trans (World.cell?_setCell_same _ _ _ ((World.cell?_setCell_other _ _ _ _ (by simp)).trans a1))
 have k2:(((w1.setCell ⟨N,0,none⟩ (.slice none 0 0)).setCell ⟨N+1,0,none⟩ (.int .i64 k)).setCell ⟨N+2,0,none⟩ (.iface 41 (.int .i64 n))).drew.cell? ⟨N+2,0,none⟩=some (.iface 41 (.int .i64 n)):=
  World.cell?_setCell_same _ _ _ ((World.cell?_setCell_other _ _ _ _ (by simp)).trans ((World.cell?_setCell_other _ _ _ _ (by simp)).trans a2))
 have k3:Below N w (((w1.setCell ⟨N,0,none⟩ (.slice none 0 0)).setCell ⟨N+1,0,none⟩ (.int .i64 k)).setCell ⟨N+2,0,none⟩ (.iface 41 (.int .i64 n))).drew:=
  (((hbB.setCell (Nat.le_refl _) _).setCell (by show N≤N+1;omega) _).setCell (by show N≤N+2;omega) _).drew
 clear hbB a0 a1 a2 a3 a4 a5 y0 y1 y2 n0 n1 n2 n3 n4 n5
 try clear hHeld
 generalize (((w1.setCell ⟨N,0,none⟩ (.slice none 0 0)).setCell ⟨N+1,0,none⟩ (.int .i64 k)).setCell ⟨N+2,0,none⟩ (.iface 41 (.int .i64 n))).drew=w9 at *
 cases c₀
 simp_all [bodyPostS,results,Tryz.results116]
def lineR (ts:List Tk):Except (Nat×Int) (List Nd):=
 match prs ts with
 | .ok (e,[])=>.ok e
 | .ok (e,t::r)=>.error (ts.length-(r.length+1),1)
 | .error y=>.error (ts.length-y.1,y.2)
def LineE (R:Except (Nat×Int) (List Nd))(e:Ending)(w':World):Prop:=
 match R with
 | .ok x=>∃q cc,e= .returned (.tuple #[.slice q x.length cc,.int .i64 0,.nilIface])∧NT w' 0 q x∧x.length≤cc∧cc≤maxLen∧x≠[]
 | .error y=>e= .returned (.tuple #[.slice none 0 0,.int .i64 (y.1:Int),.iface 41 (.int .i64 y.2)])
structure LK (w:World)(N:Nat)(v:Value):Prop where
 b0:w.heap[N]? =some (.cells #[v] 59 (0,0))
 b1:w.heap[N+1]? =some (.cells #[.int .i64 0] 3 (0,0))
 b2:w.heap[N+2]? =some (.cells #[.nilIface] 30 (0,0))
 b4:w.heap[N+4]? =some (.cells #[.pointer (some ⟨N+3,0,none⟩)] 168 (0,0))
theorem LK.lt {w:World}{N:Nat}{v:Value}(h:LK w N v):N+5≤w.heap.size:=by
 have:=(Array.getElem?_eq_some_iff.1 h.b4).1;omega
theorem LK.bx {w w':World}{N:Nat}{v:Value}(h:LK w N v)(hx:BX (N+3) w w'):LK w' N v:=by
 have:=h.lt
 exact⟨(hx.block N (by omega) (by omega)).trans h.b0,(hx.block (N+1) (by omega) (by omega)).trans h.b1,(hx.block (N+2) (by omega) (by omega)).trans h.b2,(hx.block (N+4) (by omega) (by omega)).trans h.b4⟩
theorem cell_of {w:World}{N:Nat}{v:Value}{T:TypeId}(h:w.heap[N]? =some (.cells #[v] T (0,0))):w.cell? ⟨N,0,none⟩=some v∧w.frozen? ⟨N,0,none⟩=false:=by
 simp[World.cell?, World.frozen?, h]
theorem NT.same {w w':World}{q:Option Addr}{L:List Nd}(hs:w.heap.size≤w'.heap.size)(k:∀b,Typed w b 97→w'.heap[b]? =w.heap[b]?)(h:NT w 0 q L):NT w' 0 q L:=by
 obtain⟨h1,h2⟩:=h
 rcases h2 with h2 | ⟨b,o,h2,h3⟩
 · exact⟨.inl h2,.inl h2⟩
 · rcases h3 with h3 | h3
   · omega
   · have hb:=k b h3
     refine⟨?_,.inr ⟨b,o,h2,.inr ?_⟩⟩
     · rcases h1 with h1 | ⟨b',o',e,h4,h5⟩
       · exact .inl h1
       · rw[h2]at e;cases e
         refine .inr ⟨b,o,h2,Nat.lt_of_lt_of_le h4 hs,fun i x hi=>?_⟩
         have q:∀o,w'.cell? ⟨b,o,none⟩=w.cell? ⟨b,o,none⟩:=fun o=>World.cell?_of_block hb
         simp only[q]
         exact h5 i x hi
     · obtain⟨cur,fr,hh⟩:=h3
       exact⟨cur,fr,hb.trans hh⟩
theorem at_new {w:World}{cs:Array Value}{T:TypeId}{n:Nat}(h:n=w.heap.size):(w.alloc (.cells cs T)).heap[n]? =some (.cells cs T (0,0)):=by
 subst h;exact heap_alloc_new _ _
theorem at_old {w:World}{o:Obj}{n:Nat}(h:n<w.heap.size):(w.alloc o).heap[n]? =w.heap[n]? :=((Below.refl w.heap.size w).alloc (Nat.le_refl _) o).block n h
theorem readLine_any (ts:List Tk)(p:Option Addr)(c:Nat)(w:World)(hl:ts.length≤300)(hs:AllS ts)(htk:TKL w p ts)(he:ErrIn w):
 Calls Tryz.prog 90 #[.slice p ts.length c] w fun e w'=>LineE (lineR ts) e w'∧Below w.heap.size w w':=by
 have hmf:∀(fn:Fn) (first cap:Array Value) (w:World),(Instr.makeFunc fn first cap).run Tryz.prog w= .ok (.func fn first cap) w:=fun _ _ _ _=>rfl
 obtain⟨w5,hw5⟩:∃w5,w5=((((w.alloc (.cells #[.slice none 0 0] 59)).alloc (.cells #[.int .i64 0] 3)).alloc (.cells #[.nilIface] 30)).alloc (.cells #[.slice p ts.length c,.int .i64 0] 170)).alloc (.cells #[.pointer (some ⟨w.heap.size+1+1+1,0,none⟩)] 168):=⟨_,rfl⟩
 have hb5:Below w.heap.size w w5:=by
  rw[hw5]
  exact(((((Below.refl _ _).alloc (Nat.le_refl _) _).alloc (by simp) _).alloc (by simp;omega) _).alloc (by simp;omega) _).alloc (by simp;omega) _
 have hK5:LK w5 w.heap.size (.slice none 0 0):=by
  rw[hw5]
  refine⟨?_,?_,?_,?_⟩
  · rw[at_old (by simp<;>omega),at_old (by simp<;>omega),at_old (by simp<;>omega),at_old (by simp)];exact at_new rfl
  · rw[at_old (by simp<;>omega),at_old (by simp<;>omega),at_old (by simp)];exact at_new (by simp)
  · rw[at_old (by simp<;>omega),at_old (by simp)];exact at_new (by simp)
  · exact at_new (by simp)
 have hR5:RS w5 (w.heap.size+3) p c ts 0:=by
  have hge:8<w.heap.size:=by
   obtain⟨ev,h1,_⟩:=he
   exact World.block_lt_of_cell? w _ h1
  have hne0:ts=[]∨∀a,p=some a→a.block≠w.heap.size+3:=by
   rcases htk with h | ⟨b,off,h1,h2,_⟩
   · exact .inl h
   · exact .inr fun a ha=>by rw[h1]at ha;cases ha;show b≠_;omega
  refine⟨?_,htk.up hb5,hne0,Nat.zero_le _,hl,hs,?_,by omega⟩
  · rw[hw5,at_old (by simp)];exact at_new (by simp)
  · obtain⟨ev,h1,h2⟩:=he
    exact⟨ev,(hb5.cell (p:=⟨8,0,none⟩) hge).trans h1,h2⟩
 have H1:=all_reads (w.heap.size+3) p c ts (10*ts.length+10) 0 (by omega) w5 0 (prs ts) hR5 (by rw[List.drop_zero];exact prs_any (Nat.le_refl _))
 go_enter_defers Tryz.func90,Tryz.ntmps90
 go_wp2_with fail
 rw[←hw5]
 refine H1.mono ?_
 have HL:Hid (lineR ts=match prs ts with
  | .ok (e,[])=>.ok e
  | .ok (e,t::r)=>.error (ts.length-(r.length+1),1)
  | .error y=>.error (ts.length-y.1,y.2)):=rfl
 cases hprs:prs ts with
 | error y=>
   rw[hprs]at H1 HL
   rintro e w6 ⟨rfl,hr6,hx6⟩
   have hK6:=hK5.bx hx6
   have hB6:Below w.heap.size w w6:=hb5.trans (hx6.below (by omega) hR5.lt)
   obtain⟨x0,z0⟩:=cell_of hK6.b0
   obtain⟨x1,z1⟩:=cell_of hK6.b1
   obtain⟨x2,z2⟩:=cell_of hK6.b2
   obtain⟨x4,z4⟩:=cell_of hK6.b4
   have x3:=hr6.c1
   have hsz:=hK6.lt
   clear H1 hprs hw5
   go_wp2
   refine leaves_cons (f:=116) (args:= #[.pointer (some ⟨w.heap.size+4,0,none⟩),.pointer (some ⟨w.heap.size,0,none⟩),.pointer (some ⟨w.heap.size+1,0,none⟩),.pointer (some ⟨w.heap.size+2,0,none⟩)]) (by simp) (by simp[go_sem]) ?_
   refine(pcatch_thrown y.2 w.heap.size _ _ _ _ _ x0 z0 x1 z1 x2 z2 x4 x3 hsz).mono ?_
   rintro e u' w7 ⟨rfl,rfl,c0,c1,c2,hb7⟩
   have hb8:=hB6.trans hb7
   simp[Leaves,settle,results,Tryz.results90,go_sem,c0,c1,c2]
   exact⟨by rw[HL.out];rfl,hb8⟩
 | ok x=>
   obtain⟨x,r⟩:=x
   rw[hprs]at H1 HL
   rintro e w6 ⟨⟨q,cc,rfl,hnt,hc,hcm⟩,hr6,hx6⟩
   simp only at hnt hc hr6 ⊢
   have hK6:=hK5.bx hx6
   have hB6:Below w.heap.size w w6:=hb5.trans (hx6.below (by omega) hR5.lt)
   obtain⟨x0,z0⟩:=cell_of hK6.b0
   have hb7:(w6.setCell ⟨w.heap.size,0,none⟩ (.slice q x.length cc)).heap[w.heap.size]? =some (.cells #[.slice q x.length cc] 59 (0,0)):=heap_setCell_same w6 w.heap.size 0 _ _ _ hK6.b0
   have hne:∀k,k≠w.heap.size→(w6.setCell ⟨w.heap.size,0,none⟩ (.slice q x.length cc)).heap[k]? =w6.heap[k]? :=fun k hk=>Below.heap_setCell w6 ⟨w.heap.size,0,none⟩ _ k hk
   have hK7:LK (w6.setCell ⟨w.heap.size,0,none⟩ (.slice q x.length cc)) w.heap.size (.slice q x.length cc):=
    ⟨hb7,(hne _ (by omega)).trans hK6.b1,(hne _ (by omega)).trans hK6.b2,(hne _ (by omega)).trans hK6.b4⟩
   have hR7:(w6.setCell ⟨w.heap.size,0,none⟩ (.slice q x.length cc)).heap[w.heap.size+3]? =some (.cells #[.slice p ts.length c,.int .i64 ((ts.length-r.length:Nat):Int)] 170 (0,0)):=(hne _ (by omega)).trans hr6.blk
   have hN7:NT (w6.setCell ⟨w.heap.size,0,none⟩ (.slice q x.length cc)) 0 q x:=by
    refine NT.same (by simp) (fun b hb=>hne b ?_) hnt
    rintro rfl
    obtain⟨cu,fr,hh⟩:=hb
    rw[hK6.b0]at hh
    injection hh with hh
    injection hh with _ hh _
    exact absurd hh (by decide)
   have hB7:Below w.heap.size w (w6.setCell ⟨w.heap.size,0,none⟩ (.slice q x.length cc)):=hB6.setCell (Nat.le_refl _) _
   have HPR:Hid (prs ts= .ok (x,r)):=hprs
   clear hne hb7 H1 hprs hw5 hnt
   go_wp2_with fail
   generalize w6.setCell ⟨w.heap.size,0,none⟩ (.slice q x.length cc)=w7 at *
   have hb8:Below w7.heap.size w7 w7.drew:=(Below.refl _ _).drew
   have hN8:=hN7.below hb8
   have hB8:=hB7.trans (hb8.mono hB7.size)
   have hK8:LK w7.drew w.heap.size (.slice q x.length cc):=⟨hK7.b0,hK7.b1,hK7.b2,hK7.b4⟩
   have hR8:w7.drew.heap[w.heap.size+3]? =some (.cells #[.slice p ts.length c,.int .i64 ((ts.length-r.length:Nat):Int)] 170 (0,0)):=hR7
   refine wp_region_still_tail 11 (by kernel_rfl) (by kernel_rfl) ?_
   change wpStill _ _ w7.drew (fun a'=>wpList _ _ _ _ a' w7.drew) _ _
   clear hN7 hB7 hK7 hR7 hb8
   generalize w7.drew=w8 at *
   obtain⟨x0,z0⟩:=cell_of hK8.b0
   obtain⟨x1,z1⟩:=cell_of hK8.b1
   obtain⟨x2,z2⟩:=cell_of hK8.b2
   obtain⟨x4,z4⟩:=cell_of hK8.b4
   have x3:w8.cell? ⟨w.heap.size+3,1,none⟩=some (.int .i64 ((ts.length-r.length:Nat):Int)):=by simp[World.cell?, hR8]
   have x5:w8.cell? ⟨w.heap.size+3,0,none⟩=some (.slice p ts.length c):=by simp[World.cell?, hR8]
   have hsz:=hK8.lt
   have hlr:r.length≤ts.length:=by
    have h8:=prs_any (n:=10*ts.length+10) (l:=ts) (Nat.le_refl _)
    rw[HPR.out]at h8
    have h9:=(pE_len (lvl:=0) hs.kinds (by omega) h8).1
    omega
   cases r with
   | nil=>
     have e0:((ts.length-([]:List Tk).length:Nat):Int)=(ts.length:Int):=by simp
     rw[e0]at x3
     simp only[List.take_succ_cons,List.take_zero,List.drop_succ_cons,List.drop_zero]
     repeat still_step
     refine wpStill_nil ?_
     go_wp2_with fail
     refine(pneed_true _ _).mono ?_
     rintro e w9 ⟨rfl,rfl⟩
     go_wp2
     have hneT:∀b,Typed w9 b 97→b≠w.heap.size∧b≠w.heap.size+1∧b≠w.heap.size+1+1:=fun b hb=>
      ⟨hb.ne ⟨_,_,hK8.b0⟩ (by decide),hb.ne ⟨_,_,hK8.b1⟩ (by decide),hb.ne ⟨_,_,hK8.b2⟩ (by decide)⟩
     have hNz:NT (((w9.setCell ⟨w.heap.size,0,none⟩ (.slice q x.length cc)).setCell ⟨w.heap.size+1,0,none⟩ (.int .i64 0)).setCell ⟨w.heap.size+1+1,0,none⟩ .nilIface) 0 q x:=
      NT.same (by simp) (fun b hb=>by
       obtain⟨n0,n1,n2⟩:=hneT b hb
       rw[Below.heap_setCell _ _ _ _ n2,Below.heap_setCell _ _ _ _ n1,Below.heap_setCell _ _ _ _ n0]) hN8
     have hBz:Below w.heap.size w (((w9.setCell ⟨w.heap.size,0,none⟩ (.slice q x.length cc)).setCell ⟨w.heap.size+1,0,none⟩ (.int .i64 0)).setCell ⟨w.heap.size+1+1,0,none⟩ .nilIface):=
      ((hB8.setCell (Nat.le_refl _) _).setCell (by show w.heap.size≤w.heap.size+1;omega) _).setCell (by show w.heap.size≤w.heap.size+1+1;omega) _
     have g0:(((w9.setCell ⟨w.heap.size,0,none⟩ (.slice q x.length cc)).setCell ⟨w.heap.size+1,0,none⟩ (.int .i64 0)).setCell ⟨w.heap.size+1+1,0,none⟩ .nilIface).cell? ⟨w.heap.size,0,none⟩=some (.slice q x.length cc):=
      ((World.cell?_setCell_other _ _ _ _ (by simp;try omega)).trans (World.cell?_setCell_other _ _ _ _ (by simp))).trans (World.cell?_setCell_same _ _ _ x0)
     have g1:(((w9.setCell ⟨w.heap.size,0,none⟩ (.slice q x.length cc)).setCell ⟨w.heap.size+1,0,none⟩ (.int .i64 0)).setCell ⟨w.heap.size+1+1,0,none⟩ .nilIface).cell? ⟨w.heap.size+1,0,none⟩=some (.int .i64 0):=
      (World.cell?_setCell_other _ _ _ _ (by simp)).trans (World.cell?_setCell_same _ _ _ ((World.cell?_setCell_other _ _ _ _ (by simp)).trans x1))
     have g2:(((w9.setCell ⟨w.heap.size,0,none⟩ (.slice q x.length cc)).setCell ⟨w.heap.size+1,0,none⟩ (.int .i64 0)).setCell ⟨w.heap.size+1+1,0,none⟩ .nilIface).cell? ⟨w.heap.size+1+1,0,none⟩=some .nilIface:=
      World.cell?_setCell_same _ _ _ ((World.cell?_setCell_other _ _ _ _ (by simp)).trans ((World.cell?_setCell_other _ _ _ _ (by simp;try omega)).trans x2))
     have HXN:Hid (x≠[]):=by
      have h8:=prs_any (n:=10*ts.length+10) (l:=ts) (Nat.le_refl _)
      rw[HPR.out]at h8
      exact(pE_len (lvl:=0) hs.kinds (by omega) h8).2.1
     clear hneT
     generalize ((w9.setCell ⟨w.heap.size,0,none⟩ (.slice q x.length cc)).setCell ⟨w.heap.size+1,0,none⟩ (.int .i64 0)).setCell ⟨w.heap.size+1+1,0,none⟩ .nilIface=wz at *
     unfold bodyPostD
     simp only[]
     refine leaves_cons (f:=116) (args:= #[.pointer (some ⟨w.heap.size+4,0,none⟩),.pointer (some ⟨w.heap.size,0,none⟩),.pointer (some ⟨w.heap.size+1,0,none⟩),.pointer (some ⟨w.heap.size+2,0,none⟩)]) (by simp) (by simp[go_sem]) ?_
     refine(pcatch_idle ⟨w.heap.size+4,0,none⟩ ⟨w.heap.size,0,none⟩ ⟨w.heap.size+1,0,none⟩ ⟨w.heap.size+2,0,none⟩ _).mono ?_
     rintro e u' w10 ⟨rfl,rfl,rfl⟩
     simp[Leaves,settle,results,Tryz.results90,go_sem,g0,g1,g2]
     exact⟨by rw[HL.out];exact⟨_,_,rfl,hNz,hc,hcm,HXN.out⟩,hBz⟩
   | cons t r1=>
     have hlt:((ts.length-(t::r1).length:Nat):Int)≠(ts.length:Int):=by simp only[List.length_cons]at *; omega
     have e0:(((ts.length-(t::r1).length:Nat):Int) == (ts.length:Int))=false:=by simpa using hlt
     simp only[List.length_cons]at *
     have HKK:Hid (ts.length-(r1.length+1)=ts.length-(r1.length+1)):=rfl
     generalize ts.length-(r1.length+1)=kk at *
     simp only[List.take_succ_cons,List.take_zero,List.drop_succ_cons,List.drop_zero]
     repeat still_step
     refine wpStill_nil ?_
     go_wp2_with fail
     refine(pneed_false _ _).mono ?_
     rintro e w9 ⟨rfl,rfl⟩
     go_wp2
     refine leaves_cons (f:=116) (args:= #[.pointer (some ⟨w.heap.size+4,0,none⟩),.pointer (some ⟨w.heap.size,0,none⟩),.pointer (some ⟨w.heap.size+1,0,none⟩),.pointer (some ⟨w.heap.size+2,0,none⟩)]) (by simp) (by simp[go_sem]) ?_
     refine(pcatch_thrown 1 w.heap.size _ _ _ _ _ x0 z0 x1 z1 x2 z2 x4 x3 hsz).mono ?_
     rintro e u' w10 ⟨rfl,rfl,c0,c1,c2,hb10⟩
     have hbE:=hB8.trans hb10
     simp[Leaves,settle,results,Tryz.results90,go_sem,c0,c1,c2]
     exact⟨by rw[HL.out];rfl,hbE⟩
theorem line_parse {ts:List Tk}(hl:ts.length≤300)(hs:AllS ts):parseL ts=match lineR ts with | .error y=>.error y | .ok x=>if 200<x.length then .error (0,4)else .ok x:=by
 have hp:=prs_any (n:=10*ts.length+10) (l:=ts) (Nat.le_refl _)
 unfold lineR
 match hr:prs ts with
 | .error y=>
   rw[hr]at hp
   rw[parse_halt hl hs (halt_error hs.kinds hp)]
 | .ok (e,[])=>
   rw[hr]at hp
   have ha:=halt_ok (b:=bT) hs.kinds hp
   obtain⟨e',hd⟩:=der_acc hs.kinds ha
   have:=prs_der hd
   rw[hr]at this
   injection this with this
   injection this with this
   subst this
   simp only
   split
   · rename_i h;exact parse_full hl hs hd h
   · rename_i h;exact parse_ok hl hs hd (by omega)
 | .ok (e,t::r)=>
   rw[hr]at hp
   rw[parse_halt hl hs (halt_more hs.kinds hp)]
theorem parse_bad {ts:List Tk}{i:Nat}(hl:ts.length≤300)(hi:i<ts.length)(hb:∀t∈ts.take i,spB t=true)(hn:spB ts[i]=false):parseL ts= .error (i,1):=by
 unfold parseL
 rw[if_neg (by omega)]
 have hf:ts.findIdx? (fun t=> !spB t)=some i:=by
  rw[List.findIdx?_eq_some_iff_getElem]
  refine⟨hi,by simp[hn],fun j hj=>?_⟩
  have:ts[j]∈ts.take i:=List.mem_take_iff_getElem.2 ⟨j,by omega,rfl⟩
  simp[hb _ this]
 rw[hf]
theorem one_spell (t:Tk):(∃l,spellL [t]= .ok l)↔spB t=true:=by
 unfold spellL
 rw[if_neg (by simp)]
 constructor
 · rintro⟨l,h⟩
   split at h
   · rename_i h1;simpa using h1
   · cases h
 · intro h
   have hl:(lineW [t]).length≤900:=by
    have h60:=spB_size h
    unfold Tk.l at h60
    rw[lineW_cons]
    simp only[gaps,List.flatMap_nil,List.append_nil]
    unfold wtn
    split
    · simp only[List.length_cons];omega
    · split
      · split
        · have:=body_length t.s.data.toList
          unfold quoted
          simp only[List.length_cons,List.length_append,List.length_nil];omega
        · simp
      · omega
   exact⟨_,by rw[if_pos (by simpa using h),if_neg (by omega)]⟩
theorem TKL.one {w:World}{b off:Nat}{L:List Tk}(h:TKL w (some ⟨b,off,none⟩) L){i:Nat}(hi:i<L.length):TKL w (some ⟨b,off+i*3,none⟩) [L[i]]:=by
 obtain⟨b',o',e,h1,h2,h3,h4⟩:=h.at hi
 cases e
 refine .inr ⟨b,off+i*3,rfl,h1,fun j x hx=>?_⟩
 match j,hx with
 | 0,hx=>simp at hx;subst hx;exact⟨by simpa using h2,by simpa using h3,by simpa using h4⟩
theorem parse_any (ts:List Tk)(p:Option Addr)(c:Nat)(w:World)(hv:TKL w p ts)(hlc:ts.length≤c)(hcm:c≤maxLen)(hsz:∀t∈ts,t.s.size≤140737488351232)(he:ErrIn w):
 Calls Tryz.prog 63 #[.slice p ts.length c] w fun e w'=>LineE (parseL ts) e w'∧Below w.heap.size w w':=by
 unfold maxLen at hcm
 by_cases h300:300<ts.length
 · have HP:Hid (parseL ts= .error (0,4)):=by unfold parseL;exact if_pos h300
   have i1:(300:Int)<(ts.length:Int):=by omega
   go_enter Tryz.func63,Tryz.ntmps63
   go_wp2
   go_ret3
   exact⟨by rw[HP.out];rfl,Below.refl _ _⟩
 · have i1:¬(300:Int)<(ts.length:Int):=by omega
   have HV:Hid (TKL w p ts):=hv
   have HSZ:Hid (∀t∈ts,t.s.size≤140737488351232):=hsz
   have HE:Hid (ErrIn w):=he
   clear hv hsz he
   go_enter Tryz.func63,Tryz.ntmps63
   go_wp2_with fail
   go_loopw [17] (fun i wr=>∃k:Nat,k≤ts.length∧i= .int .i64 k∧Hid (∀t∈ts.take k,spB t=true)∧Below w.heap.size w wr) (fun i _=>ts.length-(intOf i).toNat)
   case atStart=>exact⟨0,Nat.zero_le _,rfl,(fun t ht=>absurd ht (by simp)),Below.refl _ _⟩
   case round=>
    obtain⟨k,hk,rfl,HA,hb⟩:=hrel
    by_cases hlt:k<ts.length
    · have i2:(k:Int)<(ts.length:Int):=by omega
      obtain⟨b,off,rfl,hbw,_⟩:=(HV.out.up hb).at hlt
      have hone:=(HV.out.up hb).one hlt
      have H1:=spell_any [ts[k]] (some ⟨b,off+k*3,none⟩) (c-k) wr hone (by unfold maxLen;simp) (fun t ht=>by simp at ht;subst ht;exact HSZ.out _ (List.getElem_mem _))
      simp only[List.length_cons,List.length_nil,Nat.zero_add]at H1
      have ho:=one_spell ts[k]
      have HPB:Hid (spB ts[k]=false→parseL ts= .error (k,1)):=fun hn=>parse_bad (by omega) hlt HA.out hn
      have HNX:Hid (spB ts[k]=true→∀t∈ts.take (k+1),spB t=true):=fun hn t ht=>by
       rw[List.take_succ_eq_append_getElem hlt]at ht
       rcases List.mem_append.1 ht with ht | ht
       · exact HA.out t ht
       · simp at ht;subst ht;exact hn
      cases hsp:spellL [ts[k]]with
      | ok l=>
        rw[hsp]at H1
        have HB:Hid (spB ts[k]=true):=ho.1 ⟨l,hsp⟩
        unfold spellV at H1
        simp only[]at H1
        clear hsp ho
        go_wp2_with fail
        refine H1.mono ?_
        rintro e w1 ⟨rfl,hb1⟩
        go_wp2
        go_roundw
        case rel=>exact⟨k+1,by omega,by go_num,HNX.out HB.out,hb.trans (hb1.mono hb.size)⟩
        case measure=>simp[intOf];omega
      | error n=>
        rw[hsp]at H1
        have HB:Hid (spB ts[k]=false):=by
         show _=_
         cases hh:spB ts[k]
         · rfl
         · obtain⟨l,hl⟩:=ho.2 hh
           rw[hl]at hsp;cases hsp
        unfold spellV at H1
        simp only[]at H1
        clear hsp ho
        go_wp2_with fail
        refine H1.mono ?_
        rintro e w1 ⟨rfl,hb1⟩
        go_wp2
        go_ret3
        exact⟨by rw[HPB.out HB.out];rfl,hb.trans (hb1.mono hb.size)⟩
    · obtain rfl:k=ts.length:=by omega
      have i2:¬(ts.length:Int)<(ts.length:Int):=by omega
      have hall:AllS ts:=by have:=HA.out;rwa [List.take_length]at this
      have hEr:ErrIn wr:=by
       obtain⟨ev,h1,h2⟩:=HE.out
       exact⟨ev,(hb.cell (p:=⟨8,0,none⟩) (World.block_lt_of_cell? w _ h1)).trans h1,h2⟩
      have HR:=readLine_any ts p c wr (by omega) hall (HV.out.up hb) hEr
      have HLP:Hid _:=line_parse (by omega) hall
      clear hall hEr HA
      cases hlr:lineR ts with
      | error y=>
        rw[hlr]at HR
        have HP:Hid (parseL ts= .error y):=by have:=HLP.out;rw[hlr]at this;exact this
        clear hlr HLP
        go_wp2_with fail
        refine HR.mono ?_
        rintro e w1 ⟨rfl,hb1⟩
        go_wp2
        go_ret3
        exact⟨by rw[HP.out];rfl,hb.trans (hb1.mono hb.size)⟩
      | ok x=>
        rw[hlr]at HR
        by_cases hx:200<x.length
        · have HP:Hid (parseL ts= .error (0,4)):=by have:=HLP.out;rw[hlr]at this;simp only[if_pos hx]at this;exact this
          have i3:(200:Int)<(x.length:Int):=by omega
          clear hlr HLP
          go_wp2_with fail
          refine HR.mono ?_
          rintro e w1 ⟨⟨q,cc,rfl,hnt,hc,hcm2,hne⟩,hb1⟩
          clear hnt hne
          go_wp2
          go_ret3
          exact⟨by rw[HP.out];rfl,hb.trans (hb1.mono hb.size)⟩
        · have HP:Hid (parseL ts= .ok x):=by have:=HLP.out;rw[hlr]at this;simp only[if_neg hx]at this;exact this
          have i3:¬(200:Int)<(x.length:Int):=by omega
          clear hlr HLP
          go_wp2_with fail
          refine HR.mono ?_
          rintro e w1 ⟨⟨q,cc,rfl,hnt,hc,hcm2,hne⟩,hb1⟩
          have HN:Hid (NT w1 0 q x):=hnt
          have HNE:Hid (x≠[]):=hne
          clear hnt hne
          go_wp2
          go_ret3
          exact⟨by rw[HP.out];exact⟨q,cc,rfl,HN.out,hc,hcm2,HNE.out⟩,hb.trans (hb1.mono hb.size)⟩
theorem lineE_ex {ts:List Tk}{e:Ending}{w':World}(h:LineE (parseL ts) e w'):∃q c i v,e= .returned (.tuple #[.slice q (exR ts).length c,.int .i64 i,v])∧AK0 w' (exR ts) q c∧(∀b o,q=some ⟨b,o,none⟩→exR ts≠[]∧Typed w' b 97)∧(v= .nilIface∨∃k,v= .iface 41 (.int .i64 k)):=by
 unfold exR
 cases hp:parseL ts with
 | ok x=>
   rw[hp]at h
   obtain⟨q,cc,rfl,h1,h2,h3,h4⟩:=h
   refine⟨q,cc,0,_,rfl,⟨h1.1,h2,h3⟩,fun b o e=>?_,.inl rfl⟩
   rcases h1.2 with h5 | ⟨b',o',e',h5⟩
   · exact absurd h5 h4
   · rw[e]at e'
     cases e'
     rcases h5 with h5 | h5
     · omega
     · exact⟨h4,h5⟩
 | error y=>
   rw[hp]at h
   exact⟨none,0,_,_,h,⟨.inl rfl,Nat.le_refl _,Nat.zero_le _⟩,fun b o e=>(by cases e),.inr ⟨_,rfl⟩⟩
theorem insF_mem:∀(k:Int) (l:List Tk),∀t∈(insF k l).1,t∈l
 | _,[],t,h=>by simp[insF]at h
 | k,x::r,t,h=>by
   rw[insF_cons]at h
   split at h
   · simp at h
   · rcases List.mem_cons.1 h with rfl | h
     · simp
     · exact List.mem_cons_of_mem _ (insF_mem _ r t h)
def EK (R:Nat)(b:World):Prop:=∀w',Keep (fun x=>x=R) b w'→ErrIn w'
theorem EK.step {R:Nat}{l:List Tk}{b c:World}(h:EK R b)(k:Rs R l b c):EK R c:=fun w' hk=>h w' (k.2.trans hk (fun _ e=>.inl e))
theorem EK.up {R:Nat}{b c:World}(h:EK R b)(k:Below b.heap.size b c):EK R c:=fun w' hk=>h w' ((Keep.of_below k).trans hk (fun _ e=>.inl e))
theorem EK.now {R:Nat}{b:World}(h:EK R b):ErrIn b:=h b (Keep.refl _ _)
def CdRet (w':World)(c:Cnd)(e:Ending):Prop:=∃q n,e= .returned (.agg #[.bool c.un,.slice q c.ex.length n])∧AK0 w' c.ex q n∧∀b o,q=some ⟨b,o,none⟩→Typed w' b 97
section
variable {R:Nat} {l:List Tk} {a b:World}
theorem Rs.cond (h:Rs R l a b)(hE:EK R b)(hs:∀t∈l,t.s.size≤140737488351232):
 Calls Tryz.prog 37 #[.pointer (some ⟨R,0,none⟩)] b fun e w'=>CdRet w' (cdR l).1 e∧Rs R (cdR l).2 b w':=by
 obtain⟨V,hV⟩:∃V,V=b.alloc (.cells #[.bool false,.slice none 0 0] 61):=⟨_,rfl⟩
 have hbV:Below b.heap.size b V:=by rw[hV];exact kqx
 have hR:=h.lt
 have H0:Rs R l b V:=h.refl.up hbV
 have hb:Blk V b.heap.size #[.bool false,.slice none 0 0] 61:=by rw[hV];exact Blk.new b _ _ rfl
 have HA:=H0.refl.take
 have HB:=fun w' (k:Rs R l.tail b w')=>k.refl.passes kBo
 have HC:=fun w' (k:Rs R (psT kBo l.tail) b w')=>k.refl.inside
 obtain⟨m1,hm1⟩:∃m,m=l.tail:=⟨_,rfl⟩
 obtain⟨m2,hm2⟩:∃m,m=psT kBo l.tail:=⟨_,rfl⟩
 have HR:Hid (cdR l=(⟨decide ((fsT l).s=kUnless),exR (insF 1 m2).1⟩,(insF 1 m2).2)):=by show _=_;rw[hm2];rfl
 rw[HR.out]
 have hmem:∀t∈(insF 1 m2).1,t∈l:=fun t ht=>by
  have h1:=insF_mem 1 m2 t ht
  rw[hm2]at h1
  have h2:t∈l.tail:=by
   unfold psT at h1
   split at h1
   · exact List.mem_of_mem_tail h1
   · exact h1
  exact List.mem_of_mem_tail h2
 have HS:Hid (∀t∈(insF 1 m2).1,t.s.size≤140737488351232):=fun t ht=>hs t (hmem t ht)
 have HEK:Hid (EK R b):=hE
 rw[←hm2]at HC
 rw[hm1.symm]at HA HB
 have HM:Hid (m2=psT kBo m1):=by show _=_;rw[hm2,hm1]
 rw[←HM.out]at HB
 clear hm1 hm2 hmem HR
 unfold tkV kBo at *
 have hfd:=fun a b d w=>ptok_text a b d w
 have hun:∀s:ByteArray,(s.toList == [117,110,108,101,115,115])=decide (s=kUnless):=fun s=>by
  by_cases e:s=kUnless
  · rw[decide_eq_true e,e,ByteArray.toList_eq];rfl
  · rw[decide_eq_false e];exact txt_neL e
 have hun1:=hun (fsT l).s
 generalize fsT l=t at *
 generalize hL:(insF 1 m2).1=L at *
 generalize hm3:(insF 1 m2).2=m3 at *
 generalize (decide ((fsT m1).s=⟨#[123]⟩))=d at *
 generalize decide (t.s=kUnless)=un at *
 have HV0:Hid (Rs R l b V):=H0
 clear h H0 hL hm3 hs hE hun
 go_enter Tryz.func37,Tryz.ntmps37
 go_wp2_with fail
 rw[←hV]
 refine HA.mono ?_
 rintro _ w1 ⟨rfl,h1⟩
 have hb1:=h1.blk hb (by omega)
 have hlt:=hb1.lt
 obtain⟨V1,hV1⟩:∃V1,V1=w1.alloc (.cells #[.bool un,.slice none 0 0] 61):=⟨_,rfl⟩
 have H1:Rs R m1 b V1:=by rw[hV1];exact(HV0.out.then h1).up kqx
 have hb2:Blk V1 b.heap.size #[.bool false,.slice none 0 0] 61:=by rw[hV1];exact hb1.up kqx
 have hb3:Blk V1 w1.heap.size #[.bool un,.slice none 0 0] 61:=by rw[hV1];exact Blk.new w1 _ _ rfl
 have HB1:=HB V1 H1
 have hRw:=h1.lt
 clear HB HA hV hb h1 hb1
 go_wp2_with fail
 rw[←hV1]
 refine HB1.mono ?_
 rintro _ w2 ⟨rfl,h2⟩
 have HC2:=HC w2 (H1.then h2)
 have hb4:=h2.blk hb2 (by omega)
 have hb5:=h2.blk hb3 (by omega)
 have H2:Hid (Rs R m2 b w2):=H1.then h2
 clear HC HB1 hV1 hb2 hb3 h2 H1
 go_wp2_with fail
 refine HC2.mono ?_
 rintro _ w3 ⟨⟨q3,c3,rfl,ht3,hl3,hm3⟩,h3⟩
 have hb6:=h3.blk hb4 (by omega)
 have hb7:=h3.blk hb5 (by omega)
 have H3:Hid (Rs R m3 b w3):=H2.out.then h3
 have HP:=parse_any L q3 c3 w3 ht3 hl3 hm3 HS.out (HEK.out.step H3.out).now
 clear HC2 hb4 hb5 h3 ht3 hl3 hm3
 go_wp2_with fail
 refine HP.mono ?_
 rintro e4 w4 ⟨h4,hb4⟩
 obtain⟨q4,c4,i4,v4,rfl,hA4,hty,hv4⟩:=lineE_ex h4
 have hb8:=hb6.up hb4
 have hb9:=hb7.up hb4
 have H4:Hid (Rs R m3 b w4):=H3.out.up hb4
 have x0:w4.cell? ⟨b.heap.size,0,none⟩=some (.bool false):=hb8.cell 0
 have x1:w4.cell? ⟨b.heap.size,1,none⟩=some (.slice none 0 0):=hb8.cell 1
 have y0:w4.cell? ⟨w1.heap.size,0,none⟩=some (.bool un):=hb9.cell 0
 have y1:w4.cell? ⟨w1.heap.size,1,none⟩=some (.slice none 0 0):=hb9.cell 1
 have fx0:=hb8.free 0
 have fx1:=hb8.free 1
 have fy1:=hb9.free 1
 have hne:¬b.heap.size=w1.heap.size:=by omega
 have hne':¬w1.heap.size=b.heap.size:=by omega
 obtain⟨L4,hL4⟩:∃L4,L4=exR L:=⟨_,rfl⟩
 obtain⟨n4,hn4⟩:∃n,n=(exR L).length:=⟨_,rfl⟩
 have HA4:Hid (AK0 w4 (exR L) q4 c4):=hA4
 have HTY:Hid (∀b' o,q4=some ⟨b',o,none⟩→Typed w4 b' 97∧b'≠b.heap.size∧b'≠w1.heap.size):=fun b' o e=>by
  have ht:=(hty b' o e).2
  exact⟨ht,ht.ne ⟨_,_,hb8.blk⟩ (by decide),ht.ne ⟨_,_,hb9.blk⟩ (by decide)⟩
 have HBK:Hid (Blk (w4.setCell ⟨w1.heap.size,1,none⟩ (.slice q4 n4 c4)) b.heap.size #[.bool false,.slice none 0 0] 61):=hb8.keep (keepSet w4 w1.heap.size 1 _) hne
 have HN4:Hid (n4=(exR L).length):=hn4
 rw[←hn4]
 clear HP hb6 hb7 hb8 hb9 h4 hA4 hty hL4 L4 hn4
 rcases hv4 with rfl | ⟨kk,rfl⟩
 all_goals
  go_wp2
  obtain⟨z0,z1⟩:=set2 HBK.out (.bool un) (.slice q4 n4 c4)
  refine bodyPost_ret (v:=.agg #[.bool un,.slice q4 n4 c4]) (by simp[results,Tryz.results37,go_sem,z0,z1]) rfl ⟨⟨q4,c4,by rw[HN4.out],?_,?_⟩,?_⟩
  · exact((HA4.out.keepS (keepSet w4 w1.heap.size 1 _) (fun b' o e=>(HTY.out b' o e).2.2)).keepS (keepSet _ b.heap.size 0 _) (fun b' o e=>(HTY.out b' o e).2.1)).keepS (keepSet _ b.heap.size 1 _) (fun b' o e=>(HTY.out b' o e).2.1)
  · intro b' o e
    obtain⟨ht,h5,h6⟩:=HTY.out b' o e
    refine ht.same ?_
    rw[Below.heap_setCell _ ⟨b.heap.size,1,none⟩ _ b' h5,Below.heap_setCell _ ⟨b.heap.size,0,none⟩ _ b' h5,Below.heap_setCell _ ⟨w1.heap.size,1,none⟩ _ b' h6]
  · exact((H4.out.set hR (Nat.le_of_lt hlt) 1 _).set hR (Nat.le_refl _) 0 _).set hR (Nat.le_refl _) 1 _
end
theorem Tryz.infoCnd:(Tryz.prog.info? 61).map (fun i=>(i.zero,i.size,i.bytes))=some (some (.agg #[.bool false,.slice none 0 0]),2,32):=by kernel_rfl
def CRow (w:World)(base:Nat)(v:Value)(cs:List Cnd):Prop:=∃xs:List Value,w.ownsRow base 61 2 v cs.length xs∧∀(i:Nat) c,cs[i]? =some c→∃q n,xs[i*2]? =some (.bool c.un)∧xs[i*2+1]? =some (.slice q c.ex.length n)∧AK0 w c.ex q n∧∀b o,q=some ⟨b,o,none⟩→Typed w b 97
theorem CRow.nil (w:World)(base:Nat):CRow w base (.slice none 0 0) []:=⟨[],World.ownsRow_nil _ _ _ _,fun i c h=>by simp at h⟩
theorem CRow.own {w:World}{base:Nat}{v:Value}{cs:List Cnd}(h:CRow w base v cs){g:Nat}(hg:v.ownBlock=some g):g<w.heap.size∧base≤g∧Typed w g 61:=by
 obtain⟨xs,h1,_⟩:=h
 refine⟨(ownP_lt h1 hg).1,(ownP_lt h1 hg).2,?_⟩
 rcases h1.2 with⟨rfl,_⟩ | ⟨g',cap,cur,rfl,hb,hgg,_⟩
 · cases hg
 · cases hg;exact⟨_,_,hgg⟩
theorem CRow.keep {S:Nat→Prop}{w w':World}{base:Nat}{v:Value}{cs:List Cnd}(h:CRow w base v cs)(k:Keep S w w')(hv:∀g,v.ownBlock=some g→¬S g)(hS:∀g,S g→¬Typed w g 97):CRow w' base v cs:=by
 obtain⟨xs,h1,h2⟩:=h
 refine⟨xs,ownP_agree h1 (fun g hg hl=>k.block g hl (hv g hg)),fun i c hc=>?_⟩
 obtain⟨q,n,g1,g2,g3,g4⟩:=h2 i c hc
 exact⟨q,n,g1,g2,g3.keepS k (fun b o e hs=>hS b hs (g4 b o e)),fun b o e=>(g4 b o e).same (k.block b (g4 b o e).lt (fun hs=>hS b hs (g4 b o e)))⟩
theorem CRow.up {w w':World}{base:Nat}{v:Value}{cs:List Cnd}(h:CRow w base v cs)(k:Below w.heap.size w w'):CRow w' base v cs:=by
 obtain⟨xs,h1,h2⟩:=h
 refine⟨xs,ownP_agree h1 (fun g _ hl=>k.block g hl),fun i c hc=>?_⟩
 obtain⟨q,n,g1,g2,g3,g4⟩:=h2 i c hc
 exact⟨q,n,g1,g2,g3.up k,fun b o e=>(g4 b o e).same (k.block b (g4 b o e).lt)⟩
theorem CRow.cdl {w:World}{base:Nat}{v:Value}{cs:List Cnd}(h:CRow w base v cs):∃q c,v= .slice q cs.length c∧CdLT w q cs∧cs.length≤c∧c≤maxLen:=by
 obtain⟨xs,h1,h2⟩:=h
 rcases h1.2 with⟨rfl,h0⟩ | ⟨g,cap,cur,rfl,hb,hgg,hle,hm,hsz,htk⟩
 · obtain rfl:=List.eq_nil_of_length_eq_zero h0
   exact⟨none,0,rfl,.inl rfl,Nat.le_refl _,Nat.zero_le _⟩
 · have hlt:=(Array.getElem?_eq_some_iff.1 hgg).1
   refine⟨some ⟨g,0,none⟩,cap,rfl,.inr ⟨g,0,rfl,⟨_,_,hgg⟩,fun i c hc=>?_⟩,hle,hm⟩
   obtain⟨q,n,g1,g2,g3,g4⟩:=h2 i c hc
   have hi:i<cs.length:=(List.getElem?_eq_some_iff.1 hc).1
   have hcell:∀j,j<cs.length*2→w.cell? ⟨g,0+j,none⟩=xs[j]? :=by
    intro j hj
    rw[←htk,List.getElem?_take_of_lt hj]
    simp[World.cell?, hgg]
   refine⟨q,n,g3,g4,?_,?_⟩
   · rw[hcell (i*2) (by omega)];exact g1
   · have:=hcell (i*2+1) (by omega)
     rw[Nat.zero_add]at this
     rw[Nat.zero_add,this];exact g2
theorem wp_appendC (w:World){o:Oper}{a:Act}{K:Act→World→Prop}{Q:Exit→Act→World→Prop}(s x:Operand)
 (ho:o.op= .call { callee:=.builtin .append,args:= #[s,x],argTypes:= #[26,26] })
 (base:Nat) (v:Value) (cs:List Cnd) (hs:a.eval s=v) (hown:CRow w base v cs) (c:Cnd) (B:Nat) (q:Option Addr) (n:Nat) (hb:Blk w B #[.bool c.un,.slice q c.ex.length n] 61)
 (hA:AK0 w c.ex q n) (hty:∀b o,q=some ⟨b,o,none⟩→Typed w b 97) (hx:a.eval x= .slice (some ⟨B,0,none⟩) 1 1) (hlen:cs.length+1≤1000000) (hbase:base≤w.heap.size)
 (h:∀v' w',CRow w' base v' (cs++[c])→Keep (fun b=>v.ownBlock=some b) w w'→K (a.put o.dst v') w'):o.wp Tryz.prog a w K Q:=by
 obtain⟨i0,hi,hz0,hz1,hz2⟩:=info_parts Tryz.infoCnd
 have hownT:=fun g (hg:v.ownBlock=some g)=>(hown.own hg).2.2
 obtain⟨xs,h1,h2⟩:=hown
 refine wp_append_at w s x 26 ho base 61 i0 _ 2 32 Tryz.underlying26 hi hz0 hz1 hz2 rfl (by decide) v cs.length xs hs h1 ⟨B,0,none⟩ 1 1 [.bool c.un,.slice q c.ex.length n] hx rfl ?_ ?_ (by unfold maxLen;omega) (by omega) hbase ?_
 · intro j t hj
   match j,hj with
   | 0,hj=>simp at hj;subst hj;simpa[Addr.add]using hb.cell 0
   | 1,hj=>simp at hj;subst hj;simpa[Addr.add]using hb.cell 1
   | (j+2),hj=>simp at hj
 · intro t ht
   simp only[List.mem_cons,List.not_mem_nil,or_false]at ht
   rcases ht with rfl | rfl<;>rfl
 · intro v' w' g1 g2 _
   have hK:Keep (fun b=>v.ownBlock=some b) w w':=⟨g2.os,g2.tape,g2.output,g2.size,fun k hk hne=>g2.block k hk (fun e=>hne e.symm)⟩
   have hak:∀ {M:List Nd} {q':Option Addr} {c':Nat},AK0 w M q' c'→(∀b o,q'=some ⟨b,o,none⟩→Typed w b 97)→AK0 w' M q' c'∧∀b o,q'=some ⟨b,o,none⟩→Typed w' b 97:=fun {M q' c'} hM hq=>by
    have hn:∀b o,q'=some ⟨b,o,none⟩→¬v.ownBlock=some b:=fun b o e hg=>(hq b o e).ne (hownT b hg) (by decide) rfl
    exact⟨hM.keepS hK hn,fun b o e=>(hq b o e).same (hK.block b (hq b o e).lt (hn b o e))⟩
   have hxl:xs.length=cs.length*2:=h1.1
   refine h v' w' ⟨xs++[.bool c.un,.slice q c.ex.length n],by rw[List.length_append];exact g1,fun i d hd=>?_⟩ hK
   by_cases hi2:i<cs.length
   · rw[List.getElem?_append_left hi2]at hd
     obtain⟨q',n',e1,e2,e3,e4⟩:=h2 i d hd
     refine⟨q',n',?_,?_,hak e3 e4⟩
     · rw[List.getElem?_append_left (by omega)];exact e1
     · rw[List.getElem?_append_left (by omega)];exact e2
   · rw[List.getElem?_append_right (by omega)]at hd
     have h0:i=cs.length:=by have:=(List.getElem?_eq_some_iff.1 hd).1;simp at this;omega
     subst h0
     rw[Nat.sub_self]at hd
     simp at hd
     subst hd
     refine⟨q,n,?_,?_,hak hA hty⟩
     · rw[List.getElem?_append_right (by omega),show cs.length*2-xs.length=0 by omega];rfl
     · rw[List.getElem?_append_right (by omega),show cs.length*2+1-xs.length=1 by omega];rfl
end Go.Proofs.YtjkepjbfgeldnaaGreatDoor
