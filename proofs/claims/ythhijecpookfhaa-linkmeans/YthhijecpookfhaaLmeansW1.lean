import Derived.Test.YthhijecpookfhaaL19
import Derived.Test.YthhijecpookfhaaL18
import Derived.Test.YthhijecpookfhaaL21
import Derived.Test.YthhijecpookfhaaL20
set_option linter.unusedVariables false
set_option maxHeartbeats 12000000
namespace Go.Proofs.Ythhijecpookfhaa
open Go.RowKit
set_option linter.unusedSimpArgs false
set_option linter.unusedSectionVars false
set_option maxRecDepth 100000
theorem slot_eq {s:ByteArray}(h:s=sQp∨s=sQr):(s.toList == [63,114,101,115,111,117,114,99,101])=decide (s=sQr):=by
 rcases h with rfl | rfl
 · rw[ByteArray.toList_eq,decide_eq_false (by decide)];rfl
 · rw[ByteArray.toList_eq,decide_eq_true rfl];rfl
section
variable (p:Po) (pc:Option Addr) (cc:Nat) (who what:Ui) (w:World) (h:PoA w p pc cc) (hu:UOk who) (hv:UOk what)
include h hu hv
theorem linkMeans_bad (hl:lkf p who what≠0):
 Calls Try.prog 3 #[poV p pc cc,uiV who,uiV what] w fun e w'=>e= .returned (.bool true)∧Below w.heap.size w w':=by
 obtain⟨V,hV⟩:∃V,V=((w.alloc (.cells (poC p pc cc) 28)).alloc (.cells #[.string who.t,.string who.i] 23)).alloc (.cells #[.string what.t,.string what.i] 23):=⟨_,rfl⟩
 have hbV:Below w.heap.size w V:=by rw[hV];exact kqx
 have HA:Hid (∀W,Below V.heap.size V W→Blk W w.heap.size (poC p pc cc) 28∧Blk W (w.heap.size+1) #[.string who.t,.string who.i] 23∧Blk W (w.heap.size+1+1) #[.string what.t,.string what.i] 23):=fun W hW=>by
  have h1:Blk V w.heap.size (poC p pc cc) 28:=by rw[hV];exact((Blk.new w _ _ rfl).up kqx).up kqx
  have h2:Blk V (w.heap.size+1) #[.string who.t,.string who.i] 23:=by rw[hV];refine(Blk.new (w.alloc _) _ _ ?_).up kqx;simp
  have h3:Blk V (w.heap.size+1+1) #[.string what.t,.string what.i] 23:=by rw[hV];refine Blk.new ((w.alloc _).alloc _) _ _ ?_;simp
  exact⟨h1.up hW,h2.up hW,h3.up hW⟩
 have HPA:Hid (∀W,Below V.heap.size V W→PoA W p pc cc):=fun W hW=>h.up (kqt hbV hW)
 have L0:=fun W=>link_good (pa0_po 5 W) (a:=⟨⟨#[65]⟩,eB⟩) (b:=eU) ⟨by unfold maxLen;show 1≤_;omega,Nat.zero_le _⟩ ⟨Nat.zero_le _,Nat.zero_le _⟩ (by kernel_rfl)
 rw[show lkP (pa0 5) ⟨⟨#[65]⟩,eB⟩ eU=⟨⟨#[97]⟩,false,⟨1,eB,⟨⟨#[65]⟩,eB⟩⟩,⟨0,eB,eU⟩,⟨0,eB,eU⟩,[]⟩ from rfl]at L0
 have L1:=fun W hW=>link_wrong (HPA.out W hW) hu hv rfl hl
 generalize lkf p who what=n at *
 unfold poZ at L1
 clear h hu hv hl HPA
 unfold poC at hV
 unfold poV uiV pa0 eU eB at *
 simp only[List.length_nil]at L0
 go_enter Try.func3,Try.ntmps3
 go_wp2_with fail
 rw[←hV]
 clear hV
 refine(L0 _).mono ?_
 rintro _ w1 ⟨⟨q1,c1,rfl,_⟩,hb1⟩
 clear L0
 obtain⟨hB0,hB1,hB2⟩:=HA.out w1 hb1
 obtain⟨x0,x1,x2,x3,x4,x5,x6,x7,x8,x9,x10,x11,x12,x13,x14⟩:=po_cells hB0
 have u0:=hB1.cell 0
 have u1:=hB1.cell 1
 have t0:=hB2.cell 0
 have t1:=hB2.cell 1
 have l0:w.heap.size<w1.heap.size:=hB0.lt
 have l1:w.heap.size+1<w1.heap.size:=hB1.lt
 have l2:w.heap.size+1+1<w1.heap.size:=hB2.lt
 simp only[List.getElem?_toArray,List.getElem?_cons_zero,List.getElem?_cons_succ]at u0 u1 t0 t1
 clear hB0 hB1 hB2
 go_wp2_with fail
 refine(L1 _ (kqt hb1 kqx)).mono ?_
 rintro _ w2 ⟨rfl,hb2'⟩
 have hb2:Below V.heap.size V w2:=kqt (kqt hb1 kqx) hb2'
 clear u0 u1 t0 t1 l0 l1 l2 x0 x1 x2 x3 x4 x5 x6 x7 x8 x9 x10 x11 x12 x13 x14
 go_wp2
 go_ret
 exact⟨rfl,kqt hbV (kqt hb2 kqx)⟩
theorem linkMeans_great (hl:lkf p who what=0)(hg:¬(poE p).length≤200):
 Calls Try.prog 3 #[poV p pc cc,uiV who,uiV what] w fun e w'=>e= .returned (.bool true)∧Below w.heap.size w w':=by
 obtain⟨V,hV⟩:∃V,V=((w.alloc (.cells (poC p pc cc) 28)).alloc (.cells #[.string who.t,.string who.i] 23)).alloc (.cells #[.string what.t,.string what.i] 23):=⟨_,rfl⟩
 have hbV:Below w.heap.size w V:=by rw[hV];exact kqx
 have HA:Hid (∀W,Below V.heap.size V W→Blk W w.heap.size (poC p pc cc) 28∧Blk W (w.heap.size+1) #[.string who.t,.string who.i] 23∧Blk W (w.heap.size+1+1) #[.string what.t,.string what.i] 23):=fun W hW=>by
  have h1:Blk V w.heap.size (poC p pc cc) 28:=by rw[hV];exact((Blk.new w _ _ rfl).up kqx).up kqx
  have h2:Blk V (w.heap.size+1) #[.string who.t,.string who.i] 23:=by rw[hV];refine(Blk.new (w.alloc _) _ _ ?_).up kqx;simp
  have h3:Blk V (w.heap.size+1+1) #[.string what.t,.string what.i] 23:=by rw[hV];refine Blk.new ((w.alloc _).alloc _) _ _ ?_;simp
  exact⟨h1.up hW,h2.up hW,h3.up hW⟩
 have HPA:Hid (∀W,Below V.heap.size V W→PoA W p pc cc):=fun W hW=>h.up (kqt hbV hW)
 have L0:=fun W=>link_good (pa0_po 5 W) (a:=⟨⟨#[65]⟩,eB⟩) (b:=eU) ⟨by unfold maxLen;show 1≤_;omega,Nat.zero_le _⟩ ⟨Nat.zero_le _,Nat.zero_le _⟩ (by kernel_rfl)
 rw[show lkP (pa0 5) ⟨⟨#[65]⟩,eB⟩ eU=⟨⟨#[97]⟩,false,⟨1,eB,⟨⟨#[65]⟩,eB⟩⟩,⟨0,eB,eU⟩,⟨0,eB,eU⟩,[]⟩ from rfl]at L0
 have L1:=fun W hW=>link_good (HPA.out W hW) hu hv hl
 have S1:=fun W hW=>slots_good (HPA.out W hW) (lkf_ways hl).1 rfl
 have S2:=fun W q c (hq:PoA W (lkP p who what) q c)=>slots_good hq (pof_lk hl) (slL_done p who what)
 have HL:Hid ((poE (lkP p who what)).length=(poE p).length):=poE_len p who what
 have E1:=fun W hW=>expr_great (HPA.out W hW) (lkf_ways hl).1 hg
 have E2:=fun W q c (hq:PoA W (lkP p who what) q c)=>expr_great hq (pof_lk hl) (by rw[HL.out];exact hg)
 generalize lkP p who what=Q at *
 clear h hu hv hl hg HPA HL
 unfold poC at hV
 unfold poV uiV pa0 eU eB at *
 simp only[List.length_nil]at L0
 go_enter Try.func3,Try.ntmps3
 go_wp2_with fail
 rw[←hV]
 clear hV
 refine(L0 _).mono ?_
 rintro _ w1 ⟨⟨q1,c1,rfl,_⟩,hb1⟩
 clear L0
 obtain⟨hB0,hB1,hB2⟩:=HA.out w1 hb1
 obtain⟨x0,x1,x2,x3,x4,x5,x6,x7,x8,x9,x10,x11,x12,x13,x14⟩:=po_cells hB0
 have u0:=hB1.cell 0
 have u1:=hB1.cell 1
 have t0:=hB2.cell 0
 have t1:=hB2.cell 1
 have l0:w.heap.size<w1.heap.size:=hB0.lt
 have l1:w.heap.size+1<w1.heap.size:=hB1.lt
 have l2:w.heap.size+1+1<w1.heap.size:=hB2.lt
 simp only[List.getElem?_toArray,List.getElem?_cons_zero,List.getElem?_cons_succ]at u0 u1 t0 t1
 clear hB0 hB1 hB2
 go_wp2_with fail
 refine(L1 _ (kqt hb1 kqx)).mono ?_
 rintro _ w2 ⟨⟨q2,c2,rfl,hp2⟩,hb2'⟩
 have hb2:Below V.heap.size V w2:=kqt (kqt hb1 kqx) hb2'
 clear L1 hb2' u0 u1 t0 t1 l0 l1 l2 x0 x1 x2 x3 x4 x5 x6 x7 x8 x9 x10 x11 x12 x13 x14
 obtain⟨V2,hV2⟩:∃V2,V2=w2.alloc (.cells (poC Q q2 c2) 28):=⟨_,rfl⟩
 have hbV2:Below w2.heap.size w2 V2:=by rw[hV2];exact kqx
 have hb2V:Below V.heap.size V V2:=kqt hb2 hbV2
 have HQ:Hid (∀W,Below V2.heap.size V2 W→PoA W Q q2 c2):=fun W hW=>hp2.up (kqt hbV2 hW)
 have HBQ:Hid (∀W,Below V2.heap.size V2 W→Blk W w2.heap.size (poC Q q2 c2) 28):=fun W hW=>by
  have h1:Blk V2 w2.heap.size (poC Q q2 c2) 28:=by rw[hV2];exact Blk.new w2 _ _ rfl
  exact h1.up hW
 clear hp2
 unfold poC at hV2
 go_wp2_with fail
 rw[←hV2]
 clear hV2
 refine(S2 _ q2 c2 (HQ.out _ (Below.refl _ _))).mono ?_
 rintro _ w3 ⟨⟨q3,c3,rfl,_⟩,hb3⟩
 have hb3V:Below V.heap.size V w3:=kqt hb2V hb3
 obtain⟨hB0,_,_⟩:=HA.out w3 hb3V
 obtain⟨x0,x1,x2,x3,x4,x5,x6,x7,x8,x9,x10,x11,x12,x13,x14⟩:=po_cells hB0
 have l0:w.heap.size<w3.heap.size:=hB0.lt
 clear hB0 S2
 simp only[List.length_nil]
 go_wp2_with fail
 refine(S1 _ hb3V).mono ?_
 rintro _ w4 ⟨⟨qh,ch,rfl,htl⟩,hb4⟩
 have hb4V:Below V.heap.size V w4:=kqt hb3V hb4
 have HT4:Hid (TL w4 qh (slL p)):=htl
 clear htl S1 l0 x0 x1 x2 x3 x4 x5 x6 x7 x8 x9 x10 x11 x12 x13 x14
 obtain⟨hB0,_,_⟩:=HA.out w4 hb4V
 obtain⟨x0,x1,x2,x3,x4,x5,x6,x7,x8,x9,x10,x11,x12,x13,x14⟩:=po_cells hB0
 have l0:w.heap.size<w4.heap.size:=hB0.lt
 clear hB0
 go_wp2_with fail
 refine(E1 _ hb4V).mono ?_
 rintro _ w5 ⟨rfl,hb5⟩
 have hb5V:Below V.heap.size V w5:=kqt hb4V hb5
 have hb5Q:Below V2.heap.size V2 w5:=kqt (kqt hb3 hb4) hb5
 clear E1 l0 x0 x1 x2 x3 x4 x5 x6 x7 x8 x9 x10 x11 x12 x13 x14
 have hBQ:=HBQ.out w5 hb5Q
 obtain⟨x0,x1,x2,x3,x4,x5,x6,x7,x8,x9,x10,x11,x12,x13,x14⟩:=po_cells hBQ
 have l0:w2.heap.size<w5.heap.size:=hBQ.lt
 clear hBQ
 go_wp2_with fail
 refine(E2 _ q2 c2 (HQ.out _ hb5Q)).mono ?_
 rintro _ w6 ⟨rfl,hb6⟩
 clear E2 l0 x0 x1 x2 x3 x4 x5 x6 x7 x8 x9 x10 x11 x12 x13 x14
 go_wp2
 go_ret
 exact⟨rfl,kqt hbV (kqt hb5V hb6)⟩
end
end Go.Proofs.Ythhijecpookfhaa
