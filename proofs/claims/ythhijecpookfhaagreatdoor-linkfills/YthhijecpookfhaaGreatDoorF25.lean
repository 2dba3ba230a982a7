import Derived.Test.YthhijecpookfhaaGreatDoorF24
import Derived.Test.YthhijecpookfhaaGreatDoorF23
import Derived.Test.YthhijecpookfhaaGreatDoorF4
import Derived.Deep.RegionHeld
set_option linter.unusedVariables false
set_option maxHeartbeats 12000000
namespace Go.Proofs.YthhijecpookfhaaGreatDoor
open Go.RowKit
set_option linter.unusedSimpArgs false
set_option maxRecDepth 100000
section
variable (p:Po) (pc:Option Addr) (cc:Nat) (who what:Ui) (w:World) (h:PoA w p pc cc) (hu:UOk who) (hv:UOk what)
include h hu hv
theorem link_ok (h0:pof p=0)(h1:fif p.who who=0)(h2:fif p.what what=0):
 Calls Tryz.prog 10 #[poV p pc cc,uiV who,uiV what] w fun e w'=>LkRet p who what w' e∧Below w.heap.size w w':=by
 obtain⟨V,hV⟩:∃V,V=(((w.alloc (.cells (poC p pc cc) 28)).alloc (.cells #[.string who.t,.string who.i] 23)).alloc (.cells #[.string what.t,.string what.i] 23)).alloc (.cells #[.string ⟨#[]⟩,.bool false,.int .i64 0,.string ⟨#[]⟩,.string ⟨#[]⟩,.string ⟨#[]⟩,.int .i64 0,.string ⟨#[]⟩,.string ⟨#[]⟩,.string ⟨#[]⟩,.int .i64 0,.string ⟨#[]⟩,.string ⟨#[]⟩,.string ⟨#[]⟩,.slice none 0 0] 28):=⟨_,rfl⟩
 have hbV:Below w.heap.size w V:=by rw[hV];exact kqx
 have HA:Hid (∀W,Below V.heap.size V W→Blk W w.heap.size (poC p pc cc) 28∧Blk W (w.heap.size+1) #[.string who.t,.string who.i] 23∧Blk W (w.heap.size+1+1) #[.string what.t,.string what.i] 23∧Blk W (w.heap.size+1+1+1) #[.string ⟨#[]⟩,.bool false,.int .i64 0,.string ⟨#[]⟩,.string ⟨#[]⟩,.string ⟨#[]⟩,.int .i64 0,.string ⟨#[]⟩,.string ⟨#[]⟩,.string ⟨#[]⟩,.int .i64 0,.string ⟨#[]⟩,.string ⟨#[]⟩,.string ⟨#[]⟩,.slice none 0 0] 28):=fun W hW=>by
  have h1:Blk V w.heap.size (poC p pc cc) 28:=by rw[hV];exact(((Blk.new w _ _ rfl).up kqx).up kqx).up kqx
  have h2:Blk V (w.heap.size+1) #[.string who.t,.string who.i] 23:=by rw[hV];refine((Blk.new (w.alloc _) _ _ ?_).up kqx).up kqx;simp
  have h3:Blk V (w.heap.size+1+1) #[.string what.t,.string what.i] 23:=by rw[hV];refine(Blk.new ((w.alloc _).alloc _) _ _ ?_).up kqx;simp
  have h4:Blk V (w.heap.size+1+1+1) #[.string ⟨#[]⟩,.bool false,.int .i64 0,.string ⟨#[]⟩,.string ⟨#[]⟩,.string ⟨#[]⟩,.int .i64 0,.string ⟨#[]⟩,.string ⟨#[]⟩,.string ⟨#[]⟩,.int .i64 0,.string ⟨#[]⟩,.string ⟨#[]⟩,.string ⟨#[]⟩,.slice none 0 0] 28:=by rw[hV];refine Blk.new (((w.alloc _).alloc _).alloc _) _ _ ?_;simp
  exact⟨h1.up hW,h2.up hW,h3.up hW,h4.up hW⟩
 have hltV:w.heap.size+1+1+1<V.heap.size:=(HA.out V (Below.refl _ _)).2.2.2.lt
 have HC:=fun W (hW:Below V.heap.size V W)=>pcheck_any p pc cc W ((h.up hbV).up hW)
 have HF1:=fun W=>filled_any p.who who W hu
 have HF2:=fun W=>filled_any p.what what W hv
 have hL:lkf p who what=0:=by unfold lkf;rw[if_pos h0,if_pos h1];exact h2
 obtain⟨_,_,_,_,g5',g6'⟩:=pof_ways h0
 have HCP:=fun W (hW:Below V.heap.size V W)=>copied_any p.cs pc cc W ((h.cl.up hbV).up hW) (fun c hc=>by
  have hx:=(cdf_zero (csf_zero g6' c hc)).1
  refine⟨fun e=>?_,(xfault_zero hx).1⟩
  have:=(xfault_zero hx).2
  rw[e]at this
  simp[pastE]at this) g5'
 rw[eV_nil h0]at HC
 have HF1:∀W,Calls Tryz.prog 22 #[scV p.who,uiV who] W fun e w'=>e= .returned (.tuple #[scV (fil p.who who),.nilIface])∧Below W.heap.size W w':=fun W=>(HF1 W).mono (by
  rintro e w' ⟨k1,k2⟩
  unfold FilRet at k1
  rw[if_pos h1]at k1
  exact⟨k1,k2⟩)
 have HF2:∀W,Calls Tryz.prog 22 #[scV p.what,uiV what] W fun e w'=>e= .returned (.tuple #[scV (fil p.what what),.nilIface])∧Below W.heap.size W w':=fun W=>(HF2 W).mono (by
  rintro e w' ⟨k1,k2⟩
  unfold FilRet at k1
  rw[if_pos h2]at k1
  exact⟨k1,k2⟩)
 have HR:Hid (∀W q c,CdLT W q p.cs→p.cs.length≤c→c≤maxLen→LkRet p who what W (.returned (.tuple #[poV ⟨p.nm,p.fb,fil p.who who,p.act,fil p.what what,p.cs⟩ q c,.nilIface]))):=fun W q c k1 k2 k3=>by
  show LkRet _ _ _ _ _
  unfold LkRet
  rw[if_pos hL]
  exact⟨q,c,rfl,⟨h.nm,fil_sok h.who hu,h.act,fil_sok h.what hv,k1.cdl,k2,k3⟩,k1⟩
 generalize fil p.who who=S at *
 generalize fil p.what what=U at *
 clear hL h0 h1 h2 g5' g6' h hu hv
 unfold poC at hV
 unfold poV uiV at *
 try unfold scV at *
 go_enter Tryz.func10,Tryz.ntmps10
 go_wp2_with fail
 rw[←hV]
 clear hV
 refine(HC _ (Below.refl _ _)).mono ?_
 rintro _ w1 ⟨rfl,hb1⟩
 clear HC
 obtain⟨hB0,hB1,hB2,hB3⟩:=HA.out w1 hb1
 obtain⟨x0,x1,x2,x3,x4,x5,x6,x7,x8,x9,x10,x11,x12,x13,x14⟩:=po_cells hB0
 have u0:=hB1.cell 0
 have u1:=hB1.cell 1
 simp only[List.getElem?_toArray,List.getElem?_cons_zero,List.getElem?_cons_succ]at u0 u1
 clear hB0 hB1 hB2 hB3
 go_wp2_with fail
 refine(HF1 _).mono ?_
 rintro _ w2 ⟨rfl,hb2'⟩
 have hb2:Below V.heap.size V w2:=kqt hb1 hb2'
 clear HF1 hb2' u0 u1 x0 x1 x2 x3 x4 x5 x6 x7 x8 x9 x10 x11 x12 x13 x14
 obtain⟨V2,hV2⟩:∃V2,V2=w2.alloc (.cells #[.int .i64 S.op,.string S.ty,.string S.u.t,.string S.u.i] 25):=⟨_,rfl⟩
 have hbV2:Below V.heap.size V V2:=by rw[hV2];exact kqt hb2 kqx
 have HS4:Hid (Blk V2 w2.heap.size #[.int .i64 S.op,.string S.ty,.string S.u.t,.string S.u.i] 25):=by rw[hV2];exact Blk.new w2 _ _ rfl
 obtain⟨g4,hg4⟩:∃g,g=w2.heap.size:=⟨_,rfl⟩
 rw[←hg4]at HS4
 have hg4V:V.heap.size≤g4:=by rw[hg4];exact hb2.size
 obtain⟨hB0,hB1,hB2,hB3⟩:=HA.out w2 hb2
 have hlt2:w.heap.size<w2.heap.size:=hB0.lt
 have hlt3:w.heap.size+1+1<w2.heap.size:=hB2.lt
 obtain⟨x0,x1,x2,x3,x4,x5,x6,x7,x8,x9,x10,x11,x12,x13,x14⟩:=po_cells hB0
 have u0:=hB2.cell 0
 have u1:=hB2.cell 1
 simp only[List.getElem?_toArray,List.getElem?_cons_zero,List.getElem?_cons_succ]at u0 u1
 clear hB0 hB1 hB2 hB3
 go_wp2_with fail
 rw[←hV2,←hg4]
 clear hV2 hg4
 refine(HF2 _).mono ?_
 rintro _ w3 ⟨rfl,hb3'⟩
 have hb3:Below V.heap.size V w3:=kqt hbV2 hb3'
 have HS5:Hid (Blk w3 g4 #[.int .i64 S.op,.string S.ty,.string S.u.t,.string S.u.i] 25):=HS4.out.up hb3'
 clear HF2 HS4 hb3' hlt2 hlt3 u0 u1 x0 x1 x2 x3 x4 x5 x6 x7 x8 x9 x10 x11 x12 x13 x14
 obtain⟨V3,hV3⟩:∃V3,V3=w3.alloc (.cells #[.int .i64 U.op,.string U.ty,.string U.u.t,.string U.u.i] 25):=⟨_,rfl⟩
 have hbV3:Below V.heap.size V V3:=by rw[hV3];exact kqt hb3 kqx
 have HS6:Hid (Blk V3 w3.heap.size #[.int .i64 U.op,.string U.ty,.string U.u.t,.string U.u.i] 25):=by rw[hV3];exact Blk.new w3 _ _ rfl
 have HS7:Hid (Blk V3 g4 #[.int .i64 S.op,.string S.ty,.string S.u.t,.string S.u.i] 25):=by rw[hV3];exact HS5.out.up kqx
 obtain⟨g5,hg5⟩:∃g,g=w3.heap.size:=⟨_,rfl⟩
 rw[←hg5]at HS6
 have hg5V:V.heap.size≤g5:=by rw[hg5];exact hb3.size
 have HSS:Hid (∀W,Below V3.heap.size V3 W→W.cell? ⟨g4,0,none⟩=some (.int .i64 S.op)∧W.cell? ⟨g4,1,none⟩=some (.string S.ty)∧W.cell? ⟨g4,2,none⟩=some (.string S.u.t)∧W.cell? ⟨g4,3,none⟩=some (.string S.u.i)∧W.cell? ⟨g5,0,none⟩=some (.int .i64 U.op)∧W.cell? ⟨g5,1,none⟩=some (.string U.ty)∧W.cell? ⟨g5,2,none⟩=some (.string U.u.t)∧W.cell? ⟨g5,3,none⟩=some (.string U.u.i)):=fun W hW=>⟨(HS7.out.up hW).cell 0,(HS7.out.up hW).cell 1,(HS7.out.up hW).cell 2,(HS7.out.up hW).cell 3,(HS6.out.up hW).cell 0,(HS6.out.up hW).cell 1,(HS6.out.up hW).cell 2,(HS6.out.up hW).cell 3⟩
 have n4:¬w.heap.size=g4:=by omega
 have n5:¬w.heap.size=g5:=by omega
 have m4:¬g4=w.heap.size:=by omega
 have m5:¬g5=w.heap.size:=by omega
 obtain⟨hB0,hB1,hB2,hB3⟩:=HA.out V3 hbV3
 have c14:=(po_cells hB0).2.2.2.2.2.2.2.2.2.2.2.2.2.2
 clear hB0 hB1 hB2 hB3 HS5 HS6 HS7
 go_wp2_with fail
 rw[←hV3,←hg5]
 clear hV3 hg5
 obtain⟨D,hD⟩:∃D,D=V3.drew:=⟨_,rfl⟩
 have kD:Below V3.heap.size V3 D:=by rw[hD];exact kqx
 have d14:D.cell? ⟨w.heap.size,14,none⟩=some (.slice pc p.cs.length cc):=(kD.cell (p:=⟨w.heap.size,14,none⟩) (by show w.heap.size<V3.heap.size;have:=hbV3.size;omega)).trans c14
 refine wp_region_held_drew (S:=fun w'=>w'.cell? ⟨g4,0,none⟩=some (.int .i64 S.op)∧w'.cell? ⟨g4,1,none⟩=some (.string S.ty)∧w'.cell? ⟨g4,2,none⟩=some (.string S.u.t)∧w'.cell? ⟨g4,3,none⟩=some (.string S.u.i)∧w'.cell? ⟨g5,0,none⟩=some (.int .i64 U.op)∧w'.cell? ⟨g5,1,none⟩=some (.string U.ty)∧w'.cell? ⟨g5,2,none⟩=some (.string U.u.t)∧w'.cell? ⟨g5,3,none⟩=some (.string U.u.i)) (by kernel_rfl) (HSS.out _ kqx) (fun hHeld=>?_)
 rw[←hD]at hHeld ⊢
 clear hD c14
 refine wpAnyH_take (i:=0) (v:=?_) rfl (by kernel_rfl) (by kernel_rfl) (by kernel_rfl) (fun _ _ _ h=>h) (Or.inl ⟨by kernel_rfl,?_⟩) (by assumption) ?_
 rotate_left
 · intro w hSw
   try dsimp only at hSw
   go_simp
   all_goals with_reducible rfl
 try simp only[Act.put,List.getElem_toArray,List.getElem_cons_succ,List.getElem_cons_zero,List.setIfInBounds_toArray,List.set_cons_zero,List.set_cons_succ]
 refine wpAnyH_take (i:=1) (v:=?_) rfl (by kernel_rfl) (by kernel_rfl) (by kernel_rfl) (fun _ _ _ h=>h) (Or.inl ⟨by kernel_rfl,?_⟩) (by assumption) ?_
 rotate_left
 · intro w hSw
   try dsimp only at hSw
   go_simp
   all_goals with_reducible rfl
 try simp only[Act.put,List.getElem_toArray,List.getElem_cons_succ,List.getElem_cons_zero,List.setIfInBounds_toArray,List.set_cons_zero,List.set_cons_succ]
 refine wpAnyH_take (i:=2) (v:=?_) rfl (by kernel_rfl) (by kernel_rfl) (by kernel_rfl) (fun _ _ _ h=>h) (Or.inl ⟨by kernel_rfl,?_⟩) (by assumption) ?_
 rotate_left
 · intro w hSw
   try dsimp only at hSw
   go_simp
   all_goals with_reducible rfl
 try simp only[Act.put,List.getElem_toArray,List.getElem_cons_succ,List.getElem_cons_zero,List.setIfInBounds_toArray,List.set_cons_zero,List.set_cons_succ]
 refine wpAnyH_ready (rs:=[3]) (by kernel_rfl) (by simp) ?_
 refine AllReadyH.cons rfl (fun K hK=>?_) (AllReadyH.nil)
 go_simp
 refine hK.out _ _ (HSS.out _ kD) (fun hHeld=>?_)
 clear hK K
 try simp only[Act.put,List.getElem_toArray,List.getElem_cons_succ,List.getElem_cons_zero,List.setIfInBounds_toArray,List.set_cons_zero,List.set_cons_succ]
 refine wpAnyH_take (i:=5) (v:=?_) rfl (by kernel_rfl) (by kernel_rfl) (by kernel_rfl) (fun _ _ _ h=>h) (Or.inl ⟨by kernel_rfl,?_⟩) (by assumption) ?_
 rotate_left
 · intro w hSw
   try dsimp only at hSw
   go_simp
   all_goals with_reducible rfl
 try simp only[Act.put,List.getElem_toArray,List.getElem_cons_succ,List.getElem_cons_zero,List.setIfInBounds_toArray,List.set_cons_zero,List.set_cons_succ]
 refine wpAnyH_ready (rs:=[4]) (by kernel_rfl) (by simp) ?_
 refine AllReadyH.cons rfl (fun K hK=>?_) (AllReadyH.nil)
 go_simp
 go_wp2_with fail
 refine(HCP _ (kqt hbV3 kD)).mono ?_
 rintro _ w4 ⟨⟨q,c,rfl,hcd,hle,hcm⟩,hb4'⟩
 have hb4:Below V3.heap.size V3 w4:=kqt kD hb4'
 have hb4V:Below V.heap.size V w4:=kqt hbV3 hb4
 have HCD:Hid (CdLT w4 q p.cs∧p.cs.length≤c∧c≤maxLen):=⟨hcd,hle,hcm⟩
 have HP4:Hid (Blk w4 w.heap.size #[.string p.nm,.bool p.fb,.int .i64 p.who.op,.string p.who.ty,.string p.who.u.t,.string p.who.u.i,.int .i64 p.act.op,.string p.act.ty,.string p.act.u.t,.string p.act.u.i,.int .i64 p.what.op,.string p.what.ty,.string p.what.u.t,.string p.what.u.i,.slice pc p.cs.length cc] 28∧Blk w4 (w.heap.size+1+1+1) #[.string ⟨#[]⟩,.bool false,.int .i64 0,.string ⟨#[]⟩,.string ⟨#[]⟩,.string ⟨#[]⟩,.int .i64 0,.string ⟨#[]⟩,.string ⟨#[]⟩,.string ⟨#[]⟩,.int .i64 0,.string ⟨#[]⟩,.string ⟨#[]⟩,.string ⟨#[]⟩,.slice none 0 0] 28):=by
  obtain⟨hB0,_,_,hB3⟩:=HA.out w4 hb4V
  exact⟨hB0,hB3⟩
 clear hcd hle hcm hb4' d14 HCP HA
 refine hK.out _ _ (HSS.out _ hb4) (fun hHeld=>?_)
 clear hK K
 try simp only[Act.put,List.getElem_toArray,List.getElem_cons_succ,List.getElem_cons_zero,List.setIfInBounds_toArray,List.set_cons_zero,List.set_cons_succ]
 have sw4:=HSS.out _ hb4
 have l4w4:g4<w4.heap.size:=World.block_lt_of_cell? _ _ sw4.1
 have l5w4:g5<w4.heap.size:=World.block_lt_of_cell? _ _ sw4.2.2.2.2.1
 refine wpAnyH_ready (rs:=[6]) (by kernel_rfl) (by simp) ?_
 refine AllReadyH.cons rfl (fun K hK=>?_) (AllReadyH.nil)
 have y2:w4.cell? ⟨w.heap.size,2,none⟩=some (.int .i64 p.who.op):=HP4.out.1.cell 2
 have f2:=HP4.out.1.free 2
 have y3:w4.cell? ⟨w.heap.size,3,none⟩=some (.string p.who.ty):=HP4.out.1.cell 3
 have f3:=HP4.out.1.free 3
 have y4:w4.cell? ⟨w.heap.size,4,none⟩=some (.string p.who.u.t):=HP4.out.1.cell 4
 have f4:=HP4.out.1.free 4
 have y5:w4.cell? ⟨w.heap.size,5,none⟩=some (.string p.who.u.i):=HP4.out.1.cell 5
 have f5:=HP4.out.1.free 5
 go_simp
 obtain⟨W5,hW5⟩:∃V,V=((((w4).setCell ⟨w.heap.size,2,none⟩ (.int .i64 S.op)).setCell ⟨w.heap.size,3,none⟩ (.string S.ty)).setCell ⟨w.heap.size,4,none⟩ (.string S.u.t)).setCell ⟨w.heap.size,5,none⟩ (.string S.u.i):=⟨_,rfl⟩
 rw[←hW5]
 have HP5:Hid (Blk W5 w.heap.size #[.string p.nm,.bool p.fb,.int .i64 S.op,.string S.ty,.string S.u.t,.string S.u.i,.int .i64 p.act.op,.string p.act.ty,.string p.act.u.t,.string p.act.u.i,.int .i64 p.what.op,.string p.what.ty,.string p.what.u.t,.string p.what.u.i,.slice pc p.cs.length cc] 28∧Keep (fun x=>x=w.heap.size) w4 W5):=⟨by rw[hW5];exact((((HP4.out.1.set rfl).1.set rfl).1.set rfl).1.set rfl).1,by rw[hW5];exact(Keep.trans (Keep.trans (Keep.trans (keep_set _ w.heap.size 2 _) (keep_set _ w.heap.size 3 _) (fun _ e=>.inl e)) (keep_set _ w.heap.size 4 _) (fun _ e=>.inl e)) (keep_set _ w.heap.size 5 _) (fun _ e=>.inl e))⟩
 have sW5:W5.cell? ⟨g4,0,none⟩=some (.int .i64 S.op)∧W5.cell? ⟨g4,1,none⟩=some (.string S.ty)∧W5.cell? ⟨g4,2,none⟩=some (.string S.u.t)∧W5.cell? ⟨g4,3,none⟩=some (.string S.u.i)∧W5.cell? ⟨g5,0,none⟩=some (.int .i64 U.op)∧W5.cell? ⟨g5,1,none⟩=some (.string U.ty)∧W5.cell? ⟨g5,2,none⟩=some (.string U.u.t)∧W5.cell? ⟨g5,3,none⟩=some (.string U.u.i):=(by have k:∀g o,¬g=w.heap.size→g<w4.heap.size→W5.cell? ⟨g,o,none⟩=w4.cell? ⟨g,o,none⟩:=fun g o hg hl=>HP5.out.2.cell (p:=⟨g,o,none⟩) hl hg;simp only[k g4 _ m4 l4w4,k g5 _ m5 l5w4];exact sw4)
 clear hW5 y2 f2 y3 f3 y4 f4 y5 f5
 refine hK.out _ _ (sW5) (fun hHeld=>?_)
 clear hK K
 try simp only[Act.put,List.getElem_toArray,List.getElem_cons_succ,List.getElem_cons_zero,List.setIfInBounds_toArray,List.set_cons_zero,List.set_cons_succ]
 have l4W5:g4<W5.heap.size:=World.block_lt_of_cell? _ _ sW5.1
 have l5W5:g5<W5.heap.size:=World.block_lt_of_cell? _ _ sW5.2.2.2.2.1
 refine wpAnyH_take (i:=7) (v:=?_) rfl (by kernel_rfl) (by kernel_rfl) (by kernel_rfl) (fun _ _ _ h=>h) (Or.inl ⟨by kernel_rfl,?_⟩) (by assumption) ?_
 rotate_left
 · intro w hSw
   try dsimp only at hSw
   go_simp
   all_goals with_reducible rfl
 try simp only[Act.put,List.getElem_toArray,List.getElem_cons_succ,List.getElem_cons_zero,List.setIfInBounds_toArray,List.set_cons_zero,List.set_cons_succ]
 refine wpAnyH_ready (rs:=[8]) (by kernel_rfl) (by simp) ?_
 refine AllReadyH.cons rfl (fun K hK=>?_) (AllReadyH.nil)
 have y10:W5.cell? ⟨w.heap.size,10,none⟩=some (.int .i64 p.what.op):=HP5.out.1.cell 10
 have f10:=HP5.out.1.free 10
 have y11:W5.cell? ⟨w.heap.size,11,none⟩=some (.string p.what.ty):=HP5.out.1.cell 11
 have f11:=HP5.out.1.free 11
 have y12:W5.cell? ⟨w.heap.size,12,none⟩=some (.string p.what.u.t):=HP5.out.1.cell 12
 have f12:=HP5.out.1.free 12
 have y13:W5.cell? ⟨w.heap.size,13,none⟩=some (.string p.what.u.i):=HP5.out.1.cell 13
 have f13:=HP5.out.1.free 13
 go_simp
 obtain⟨W6,hW6⟩:∃V,V=((((W5).setCell ⟨w.heap.size,10,none⟩ (.int .i64 U.op)).setCell ⟨w.heap.size,11,none⟩ (.string U.ty)).setCell ⟨w.heap.size,12,none⟩ (.string U.u.t)).setCell ⟨w.heap.size,13,none⟩ (.string U.u.i):=⟨_,rfl⟩
 rw[←hW6]
 have HP6:Hid (Blk W6 w.heap.size #[.string p.nm,.bool p.fb,.int .i64 S.op,.string S.ty,.string S.u.t,.string S.u.i,.int .i64 p.act.op,.string p.act.ty,.string p.act.u.t,.string p.act.u.i,.int .i64 U.op,.string U.ty,.string U.u.t,.string U.u.i,.slice pc p.cs.length cc] 28∧Keep (fun x=>x=w.heap.size) W5 W6):=⟨by rw[hW6];exact((((HP5.out.1.set rfl).1.set rfl).1.set rfl).1.set rfl).1,by rw[hW6];exact(Keep.trans (Keep.trans (Keep.trans (keep_set _ w.heap.size 10 _) (keep_set _ w.heap.size 11 _) (fun _ e=>.inl e)) (keep_set _ w.heap.size 12 _) (fun _ e=>.inl e)) (keep_set _ w.heap.size 13 _) (fun _ e=>.inl e))⟩
 have sW6:W6.cell? ⟨g4,0,none⟩=some (.int .i64 S.op)∧W6.cell? ⟨g4,1,none⟩=some (.string S.ty)∧W6.cell? ⟨g4,2,none⟩=some (.string S.u.t)∧W6.cell? ⟨g4,3,none⟩=some (.string S.u.i)∧W6.cell? ⟨g5,0,none⟩=some (.int .i64 U.op)∧W6.cell? ⟨g5,1,none⟩=some (.string U.ty)∧W6.cell? ⟨g5,2,none⟩=some (.string U.u.t)∧W6.cell? ⟨g5,3,none⟩=some (.string U.u.i):=(by have k:∀g o,¬g=w.heap.size→g<W5.heap.size→W6.cell? ⟨g,o,none⟩=W5.cell? ⟨g,o,none⟩:=fun g o hg hl=>HP6.out.2.cell (p:=⟨g,o,none⟩) hl hg;simp only[k g4 _ m4 l4W5,k g5 _ m5 l5W5];exact sW5)
 clear hW6 y10 f10 y11 f11 y12 f12 y13 f13
 refine hK.out _ _ (sW6) (fun hHeld=>?_)
 clear hK K
 try simp only[Act.put,List.getElem_toArray,List.getElem_cons_succ,List.getElem_cons_zero,List.setIfInBounds_toArray,List.set_cons_zero,List.set_cons_succ]
 have l4W6:g4<W6.heap.size:=World.block_lt_of_cell? _ _ sW6.1
 have l5W6:g5<W6.heap.size:=World.block_lt_of_cell? _ _ sW6.2.2.2.2.1
 refine wpAnyH_take (i:=9) (v:=?_) rfl (by kernel_rfl) (by kernel_rfl) (by kernel_rfl) (fun _ _ _ h=>h) (Or.inl ⟨by kernel_rfl,?_⟩) (by assumption) ?_
 rotate_left
 · intro w hSw
   try dsimp only at hSw
   go_simp
   all_goals with_reducible rfl
 try simp only[Act.put,List.getElem_toArray,List.getElem_cons_succ,List.getElem_cons_zero,List.setIfInBounds_toArray,List.set_cons_zero,List.set_cons_succ]
 refine wpAnyH_ready (rs:=[10]) (by kernel_rfl) (by simp) ?_
 refine AllReadyH.cons rfl (fun K hK=>?_) (AllReadyH.nil)
 have y14:W6.cell? ⟨w.heap.size,14,none⟩=some (.slice pc p.cs.length cc):=HP6.out.1.cell 14
 have f14:=HP6.out.1.free 14
 go_simp
 obtain⟨W7,hW7⟩:∃V,V=(W6).setCell ⟨w.heap.size,14,none⟩ (.slice q p.cs.length c):=⟨_,rfl⟩
 rw[←hW7]
 have HP7:Hid (Blk W7 w.heap.size #[.string p.nm,.bool p.fb,.int .i64 S.op,.string S.ty,.string S.u.t,.string S.u.i,.int .i64 p.act.op,.string p.act.ty,.string p.act.u.t,.string p.act.u.i,.int .i64 U.op,.string U.ty,.string U.u.t,.string U.u.i,.slice q p.cs.length c] 28∧Keep (fun x=>x=w.heap.size) W6 W7):=⟨by rw[hW7];exact(HP6.out.1.set rfl).1,by rw[hW7];exact(keep_set _ w.heap.size 14 _)⟩
 have sW7:W7.cell? ⟨g4,0,none⟩=some (.int .i64 S.op)∧W7.cell? ⟨g4,1,none⟩=some (.string S.ty)∧W7.cell? ⟨g4,2,none⟩=some (.string S.u.t)∧W7.cell? ⟨g4,3,none⟩=some (.string S.u.i)∧W7.cell? ⟨g5,0,none⟩=some (.int .i64 U.op)∧W7.cell? ⟨g5,1,none⟩=some (.string U.ty)∧W7.cell? ⟨g5,2,none⟩=some (.string U.u.t)∧W7.cell? ⟨g5,3,none⟩=some (.string U.u.i):=(by have k:∀g o,¬g=w.heap.size→g<W6.heap.size→W7.cell? ⟨g,o,none⟩=W6.cell? ⟨g,o,none⟩:=fun g o hg hl=>HP7.out.2.cell (p:=⟨g,o,none⟩) hl hg;simp only[k g4 _ m4 l4W6,k g5 _ m5 l5W6];exact sW6)
 clear hW7 y14 f14
 refine hK.out _ _ (sW7) (fun hHeld=>?_)
 clear hK K
 try simp only[Act.put,List.getElem_toArray,List.getElem_cons_succ,List.getElem_cons_zero,List.setIfInBounds_toArray,List.set_cons_zero,List.set_cons_succ]
 refine wpAnyH_done (by kernel_rfl) ?_ _
 clear hHeld
 have HK7:Hid (Keep (fun x=>x=w.heap.size) w4 W7):=(HP5.out.2.trans HP6.out.2 (fun _ e=>.inl e)).trans HP7.out.2 (fun _ e=>.inl e)
 have hb7:Below w.heap.size w W7:=(kqt hbV hb4V).trans (HK7.out.below (kqt hbV hb4V).size (fun a e=>by have h2:a=w.heap.size:=e;omega))
 have HZ:Hid (Blk W7 (w.heap.size+1+1+1) #[.string ⟨#[]⟩,.bool false,.int .i64 0,.string ⟨#[]⟩,.string ⟨#[]⟩,.string ⟨#[]⟩,.int .i64 0,.string ⟨#[]⟩,.string ⟨#[]⟩,.string ⟨#[]⟩,.int .i64 0,.string ⟨#[]⟩,.string ⟨#[]⟩,.string ⟨#[]⟩,.slice none 0 0] 28):=HP4.out.2.keep HK7.out (by omega)
 have HC7:Hid (CdLT W7 q p.cs):=HCD.out.1.keep HK7.out (fun g e ht=>by have h2:g=w.heap.size:=e;subst h2;exact ht.ne ⟨_,_,HP4.out.1.blk⟩ (by decide) rfl) (fun g e ht=>by have h2:g=w.heap.size:=e;subst h2;exact ht.ne ⟨_,_,HP4.out.1.blk⟩ (by decide) rfl)
 have x0:W7.cell? ⟨w.heap.size,0,none⟩=some (.string p.nm):=HP7.out.1.cell 0
 have y0:W7.cell? ⟨(w.heap.size+1+1+1),0,none⟩=some (.string ⟨#[]⟩):=HZ.out.cell 0
 have f0:=HZ.out.free 0
 have x1:W7.cell? ⟨w.heap.size,1,none⟩=some (.bool p.fb):=HP7.out.1.cell 1
 have y1:W7.cell? ⟨(w.heap.size+1+1+1),1,none⟩=some (.bool false):=HZ.out.cell 1
 have f1:=HZ.out.free 1
 have x2:W7.cell? ⟨w.heap.size,2,none⟩=some (.int .i64 S.op):=HP7.out.1.cell 2
 have y2:W7.cell? ⟨(w.heap.size+1+1+1),2,none⟩=some (.int .i64 0):=HZ.out.cell 2
 have f2:=HZ.out.free 2
 have x3:W7.cell? ⟨w.heap.size,3,none⟩=some (.string S.ty):=HP7.out.1.cell 3
 have y3:W7.cell? ⟨(w.heap.size+1+1+1),3,none⟩=some (.string ⟨#[]⟩):=HZ.out.cell 3
 have f3:=HZ.out.free 3
 have x4:W7.cell? ⟨w.heap.size,4,none⟩=some (.string S.u.t):=HP7.out.1.cell 4
 have y4:W7.cell? ⟨(w.heap.size+1+1+1),4,none⟩=some (.string ⟨#[]⟩):=HZ.out.cell 4
 have f4:=HZ.out.free 4
 have x5:W7.cell? ⟨w.heap.size,5,none⟩=some (.string S.u.i):=HP7.out.1.cell 5
 have y5:W7.cell? ⟨(w.heap.size+1+1+1),5,none⟩=some (.string ⟨#[]⟩):=HZ.out.cell 5
 have f5:=HZ.out.free 5
 have x6:W7.cell? ⟨w.heap.size,6,none⟩=some (.int .i64 p.act.op):=HP7.out.1.cell 6
 have y6:W7.cell? ⟨(w.heap.size+1+1+1),6,none⟩=some (.int .i64 0):=HZ.out.cell 6
 have f6:=HZ.out.free 6
 have x7:W7.cell? ⟨w.heap.size,7,none⟩=some (.string p.act.ty):=HP7.out.1.cell 7
 have y7:W7.cell? ⟨(w.heap.size+1+1+1),7,none⟩=some (.string ⟨#[]⟩):=HZ.out.cell 7
 have f7:=HZ.out.free 7
 have x8:W7.cell? ⟨w.heap.size,8,none⟩=some (.string p.act.u.t):=HP7.out.1.cell 8
 have y8:W7.cell? ⟨(w.heap.size+1+1+1),8,none⟩=some (.string ⟨#[]⟩):=HZ.out.cell 8
 have f8:=HZ.out.free 8
 have x9:W7.cell? ⟨w.heap.size,9,none⟩=some (.string p.act.u.i):=HP7.out.1.cell 9
 have y9:W7.cell? ⟨(w.heap.size+1+1+1),9,none⟩=some (.string ⟨#[]⟩):=HZ.out.cell 9
 have f9:=HZ.out.free 9
 have x10:W7.cell? ⟨w.heap.size,10,none⟩=some (.int .i64 U.op):=HP7.out.1.cell 10
 have y10:W7.cell? ⟨(w.heap.size+1+1+1),10,none⟩=some (.int .i64 0):=HZ.out.cell 10
 have f10:=HZ.out.free 10
 have x11:W7.cell? ⟨w.heap.size,11,none⟩=some (.string U.ty):=HP7.out.1.cell 11
 have y11:W7.cell? ⟨(w.heap.size+1+1+1),11,none⟩=some (.string ⟨#[]⟩):=HZ.out.cell 11
 have f11:=HZ.out.free 11
 have x12:W7.cell? ⟨w.heap.size,12,none⟩=some (.string U.u.t):=HP7.out.1.cell 12
 have y12:W7.cell? ⟨(w.heap.size+1+1+1),12,none⟩=some (.string ⟨#[]⟩):=HZ.out.cell 12
 have f12:=HZ.out.free 12
 have x13:W7.cell? ⟨w.heap.size,13,none⟩=some (.string U.u.i):=HP7.out.1.cell 13
 have y13:W7.cell? ⟨(w.heap.size+1+1+1),13,none⟩=some (.string ⟨#[]⟩):=HZ.out.cell 13
 have f13:=HZ.out.free 13
 have x14:W7.cell? ⟨w.heap.size,14,none⟩=some (.slice q p.cs.length c):=HP7.out.1.cell 14
 have y14:W7.cell? ⟨(w.heap.size+1+1+1),14,none⟩=some (.slice none 0 0):=HZ.out.cell 14
 have f14:=HZ.out.free 14
 clear HP4 HP5 HP6 HP7 HSS sW5 sW6 sW7 sw4
 go_wp2
 obtain⟨Y,hY⟩:∃Y,Y=(((((((((((((((W7).setCell ⟨(w.heap.size+1+1+1),0,none⟩ (.string p.nm)).setCell ⟨(w.heap.size+1+1+1),1,none⟩ (.bool p.fb)).setCell ⟨(w.heap.size+1+1+1),2,none⟩ (.int .i64 S.op)).setCell ⟨(w.heap.size+1+1+1),3,none⟩ (.string S.ty)).setCell ⟨(w.heap.size+1+1+1),4,none⟩ (.string S.u.t)).setCell ⟨(w.heap.size+1+1+1),5,none⟩ (.string S.u.i)).setCell ⟨(w.heap.size+1+1+1),6,none⟩ (.int .i64 p.act.op)).setCell ⟨(w.heap.size+1+1+1),7,none⟩ (.string p.act.ty)).setCell ⟨(w.heap.size+1+1+1),8,none⟩ (.string p.act.u.t)).setCell ⟨(w.heap.size+1+1+1),9,none⟩ (.string p.act.u.i)).setCell ⟨(w.heap.size+1+1+1),10,none⟩ (.int .i64 U.op)).setCell ⟨(w.heap.size+1+1+1),11,none⟩ (.string U.ty)).setCell ⟨(w.heap.size+1+1+1),12,none⟩ (.string U.u.t)).setCell ⟨(w.heap.size+1+1+1),13,none⟩ (.string U.u.i)).setCell ⟨(w.heap.size+1+1+1),14,none⟩ (.slice q p.cs.length c):=⟨_,rfl⟩
 rw[←hY]
 obtain⟨hbY,hkY⟩:Blk Y (w.heap.size+1+1+1) #[.string p.nm,.bool p.fb,.int .i64 S.op,.string S.ty,.string S.u.t,.string S.u.i,.int .i64 p.act.op,.string p.act.ty,.string p.act.u.t,.string p.act.u.i,.int .i64 U.op,.string U.ty,.string U.u.t,.string U.u.i,.slice q p.cs.length c] 28∧Keep (fun x=>x=(w.heap.size+1+1+1)) W7 Y:=by rw[hY];exact⟨lk_cells15 HZ.out (.string p.nm) (.bool p.fb) (.int .i64 S.op) (.string S.ty) (.string S.u.t) (.string S.u.i) (.int .i64 p.act.op) (.string p.act.ty) (.string p.act.u.t) (.string p.act.u.i) (.int .i64 U.op) (.string U.ty) (.string U.u.t) (.string U.u.i) (.slice q p.cs.length c),lk_keep15 _ _ _ _ _ _ _ _ _ _ _ _ _ _ _ _ _⟩
 have HBY:Hid (Below w.heap.size w Y):=(hb7).trans (hkY.below (hb7).size (fun a e=>by have h2:a=(w.heap.size+1+1+1):=e;omega))
 have HKY:Hid (Keep (fun x=>x=(w.heap.size+1+1+1)) W7 Y):=hkY
 clear hY hkY
 have z0:=hbY.cell 0
 have z1:=hbY.cell 1
 have z2:=hbY.cell 2
 have z3:=hbY.cell 3
 have z4:=hbY.cell 4
 have z5:=hbY.cell 5
 have z6:=hbY.cell 6
 have z7:=hbY.cell 7
 have z8:=hbY.cell 8
 have z9:=hbY.cell 9
 have z10:=hbY.cell 10
 have z11:=hbY.cell 11
 have z12:=hbY.cell 12
 have z13:=hbY.cell 13
 have z14:=hbY.cell 14
 simp only[List.getElem?_toArray,List.getElem?_cons_zero,List.getElem?_cons_succ]at z0 z1 z2 z3 z4 z5 z6 z7 z8 z9 z10 z11 z12 z13 z14
 refine bodyPost_ret (v:=.tuple #[.agg #[.string p.nm,.bool p.fb,.int .i64 S.op,.string S.ty,.string S.u.t,.string S.u.i,.int .i64 p.act.op,.string p.act.ty,.string p.act.u.t,.string p.act.u.i,.int .i64 U.op,.string U.ty,.string U.u.t,.string U.u.i,.slice q p.cs.length c],.nilIface]) (by simp[results,Tryz.results10,go_sem,z0,z1,z2,z3,z4,z5,z6,z7,z8,z9,z10,z11,z12,z13,z14]) rfl ⟨?_,HBY.out⟩
 exact HR.out _ _ _ (HC7.out.keep HKY.out (fun g e ht=>by have h2:g=w.heap.size+1+1+1:=e;subst h2;exact ht.ne ⟨_,_,HZ.out.blk⟩ (by decide) rfl) (fun g e ht=>by have h2:g=w.heap.size+1+1+1:=e;subst h2;exact ht.ne ⟨_,_,HZ.out.blk⟩ (by decide) rfl)) HCD.out.2.1 HCD.out.2.2
theorem link_any:
 Calls Tryz.prog 10 #[poV p pc cc,uiV who,uiV what] w fun e w'=>LkRet p who what w' e∧Below w.heap.size w w':=by
 by_cases h0:pof p=0
 · by_cases h1:fif p.who who=0
   · by_cases h2:fif p.what what=0
     · exact link_ok p pc cc who what w h hu hv h0 h1 h2
     · exact link_what p pc cc who what w h hu hv h0 h1 h2
   · exact link_who p pc cc who what w h hu hv h0 h1
 · exact link_bad p pc cc who what w h hu hv h0
end
theorem sameB {a:List Nd}{w:World}{p q:Option Addr}{c d n:Nat}(ha:NL w p a)(hb:NL w q a)(hla:a.length≤maxLen)(hn:a.length=n):Calls Tryz.prog 24 #[.slice p n c,.slice q n d] w fun e w'=>e= .returned (.bool true)∧Below w.heap.size w w':=by
 subst hn
 refine(sameNodes_any a a p q c d w ha hb hla hla).mono ?_
 rintro _ _ ⟨rfl,n,rfl⟩
 exact⟨by rw[(sameNd_iff _ _).2 rfl],⟨rfl,rfl,rfl,Nat.le_refl _,fun _ _=>rfl⟩⟩
theorem samePol_any (p:Po)(pc pd:Option Addr)(cc cd:Nat)(w:World)(h:PoA w p pc cc)(k:PoA w p pd cd):
 Calls Tryz.prog 11 #[poV p pc cc,poV p pd cd] w fun e w'=>e= .returned (.bool true)∧Below w.heap.size w w':=by
 obtain⟨V,hV⟩:∃V,V=(w.alloc (.cells (poC p pc cc) 28)).alloc (.cells (poC p pd cd) 28):=⟨_,rfl⟩
 have hbV:Below w.heap.size w V:=by rw[hV];exact kqx
 have HA:Hid (∀w',Below V.heap.size V w'→Blk w' w.heap.size (poC p pc cc) 28):=fun w' hk=>by
  have hb:Blk V w.heap.size (poC p pc cc) 28:=by rw[hV];exact(Blk.new w _ _ rfl).up kqx
  exact hb.up hk
 have HB:Hid (∀w',Below V.heap.size V w'→Blk w' (w.heap.size+1) (poC p pd cd) 28):=fun w' hk=>by
  have hb:Blk V (w.heap.size+1) (poC p pd cd) 28:=by rw[hV];refine Blk.new _ _ _ ?_;simp
  exact hb.up hk
 have HPC:Hid (CdL w pc p.cs∧CdL w pd p.cs):=⟨h.cl,k.cl⟩
 have hcm:p.cs.length≤maxLen:=Nat.le_trans h.le h.cm
 obtain⟨x0,x1,x2,x3,x4,x5,x6,x7,x8,x9,x10,x11,x12,x13,x14⟩:=po_cells (HA.out V (Below.refl _ _))
 obtain⟨y0,y1,y2,y3,y4,y5,y6,y7,y8,y9,y10,y11,y12,y13,y14⟩:=po_cells (HB.out V (Below.refl _ _))
 unfold poC at hV
 unfold poV
 clear h k
 go_enter Tryz.func11,Tryz.ntmps11
 go_wp2_with fail
 rw[←hV]
 clear hV x0 x1 x2 x3 x4 x5 x6 x7 x8 x9 x10 x11 x12 x13 x14 y0 y1 y2 y3 y4 y5 y6 y7 y8 y9 y10 y11 y12 y13 y14
 go_loopw [5] (fun i wr=>∃k:Nat,k≤p.cs.length∧i= .int .i64 k∧Below V.heap.size V wr) (fun i _=>p.cs.length-(intOf i).toNat)
 case atStart=>exact⟨0,Nat.zero_le _,rfl,Below.refl _ _⟩
 case round=>
  obtain⟨k,hk,rfl,hb⟩:=hrel
  have hbw:=kqt hbV hb
  obtain⟨_,_,_,_,_,_,_,_,_,_,_,_,_,_,x14⟩:=po_cells (HA.out wr hb)
  obtain⟨_,_,_,_,_,_,_,_,_,_,_,_,_,_,y14⟩:=po_cells (HB.out wr hb)
  by_cases hlt:k<p.cs.length
  · have i1:(k:Int)<(p.cs.length:Int):=by omega
    obtain⟨b1,o1,e1,f1,hp1,hb1,ha1,u0',u1'⟩:=HPC.out.1.at hlt
    obtain⟨b2,o2,e2,f2,hp2,hb2,ha2,v0',v1'⟩:=HPC.out.2.at hlt
    have u0:=(hbw.cell (p:=⟨b1,o1+k*2,none⟩) hb1).trans u0'
    have u1:=(hbw.cell (p:=⟨b1,o1+k*2+1,none⟩) hb1).trans u1'
    have v0:=(hbw.cell (p:=⟨b2,o2+k*2,none⟩) hb2).trans v0'
    have v1:=(hbw.cell (p:=⟨b2,o2+k*2+1,none⟩) hb2).trans v1'
    have g1:b1<wr.heap.size:=Nat.lt_of_lt_of_le hb1 hbw.size
    have g2:b2<wr.heap.size:=Nat.lt_of_lt_of_le hb2 hbw.size
    have hkm:(k:Int)≤9223372036854775806:=by unfold maxLen at hcm;omega
    have HS:=fun W (hW:Below wr.heap.size wr W)=>sameB (w:=W) (c:=f1) (d:=f2) (ha1.up (kqt hbw hW)).nl (ha2.up (kqt hbw hW)).nl (Nat.le_trans ha1.le ha1.cm) rfl
    have HPV:Hid (∀w',Below wr.heap.size wr w'→w'.cell? ⟨w.heap.size,14,none⟩=some (.slice (some ⟨b1,o1,none⟩) p.cs.length cc)∧w'.cell? ⟨w.heap.size+1,14,none⟩=some (.slice (some ⟨b2,o2,none⟩) p.cs.length cd)∧w'.cell? ⟨b1,o1+k*2,none⟩=some (.bool p.cs[k].un)∧w'.cell? ⟨b2,o2+k*2,none⟩=some (.bool p.cs[k].un)):=fun w' hw=>by
     obtain⟨_,_,_,_,_,_,_,_,_,_,_,_,_,_,a14⟩:=po_cells (HA.out w' (kqt hb hw))
     obtain⟨_,_,_,_,_,_,_,_,_,_,_,_,_,_,b14⟩:=po_cells (HB.out w' (kqt hb hw))
     rw[hp1]at a14
     rw[hp2]at b14
     exact⟨a14,b14,(hw.cell (p:=⟨b1,o1+k*2,none⟩) g1).trans u0,(hw.cell (p:=⟨b2,o2+k*2,none⟩) g2).trans v0⟩
    have HPQ:Hid (∀w',Below wr.heap.size wr w'→w'.cell? ⟨w.heap.size,14,none⟩=some (.slice (some ⟨b1,o1,none⟩) p.cs.length cc)∧w'.cell? ⟨w.heap.size+1,14,none⟩=some (.slice (some ⟨b2,o2,none⟩) p.cs.length cd)∧w'.cell? ⟨b1,o1+k*2+1,none⟩=some (.slice e1 p.cs[k].ex.length f1)∧w'.cell? ⟨b2,o2+k*2+1,none⟩=some (.slice e2 p.cs[k].ex.length f2)):=fun w' hw=>⟨(HPV.out w' hw).1,(HPV.out w' hw).2.1,(hw.cell (p:=⟨b1,o1+k*2+1,none⟩) g1).trans u1,(hw.cell (p:=⟨b2,o2+k*2+1,none⟩) g2).trans v1⟩
    subst hp1 hp2
    clear u0' u1' v0' v1' ha1 ha2
    generalize p.cs[k].ex.length=n at *
    generalize p.cs[k].un=un at *
    go_wp2_with fail
    go_region_held (fun w'=>w'.cell? ⟨w.heap.size,14,none⟩=some (.slice (some ⟨b1,o1,none⟩) p.cs.length cc)∧w'.cell? ⟨w.heap.size+1,14,none⟩=some (.slice (some ⟨b2,o2,none⟩) p.cs.length cd)∧w'.cell? ⟨b1,o1+k*2+1,none⟩=some (.slice e1 n f1)∧w'.cell? ⟨b2,o2+k*2+1,none⟩=some (.slice e2 n f2)) (first | exact HPQ.out _ hb3 | exact HPQ.out _ kqx) (first
     | (go_at_call 24
        refine(HS _ kqx).mono ?_
        rintro _ w3 ⟨rfl,hb3'⟩
        have hb3:Below wr.heap.size wr w3:=kqt kqx hb3'))
    clear HS x14 y14 u0 u1 v0 v1
    obtain⟨x14,y14,u0,v0⟩:=HPV.out w3 hb3
    have hb3':=kqt hb hb3
    cases un
    all_goals
     go_wp2
     go_region
     go_wp2
     go_roundw
     case rel=>exact⟨k+1,by omega,by go_num,kqt hb3' kqx⟩
     case measure=>simp[intOf];omega
  · have i1:¬(k:Int)<(p.cs.length:Int):=by omega
    go_wp2
    go_ret
    exact⟨rfl,hbw⟩
def pa0 (op:Int):Po:=⟨⟨#[97]⟩,false,⟨op,eB,eU⟩,⟨0,eB,eU⟩,⟨0,eB,eU⟩,[]⟩
theorem pa0_po (op:Int)(w:World):PoA w (pa0 op) none 0:=by
 have hu:UOk eU:=⟨Nat.zero_le _,Nat.zero_le _⟩
 have hs:∀op,ScoOk ⟨op,eB,eU⟩:=fun op=>⟨Nat.zero_le _,hu⟩
 exact⟨by unfold maxLen;show 1≤_;omega,hs _,hs _,hs _,.inl rfl,Nat.le_refl _,Nat.zero_le _⟩
theorem link_good {p:Po}{pc:Option Addr}{cc:Nat}{a b:Ui}{w:World}(h:PoA w p pc cc)(ha:UOk a)(hb:UOk b)(hl:lkf p a b=0):
 Calls Tryz.prog 10 #[poV p pc cc,uiV a,uiV b] w fun e w'=>(∃q c,e= .returned (.tuple #[poV (lkP p a b) q c,.nilIface])∧PoA w' (lkP p a b) q c)∧Below w.heap.size w w':=by
 refine(link_any p pc cc a b w h ha hb).mono ?_
 rintro e w' ⟨h1,h2⟩
 unfold LkRet at h1
 rw[if_pos hl]at h1
 obtain⟨q,c,h3,h4,_⟩:=h1
 exact⟨⟨q,c,h3,h4⟩,h2⟩
theorem link_wrong {p:Po}{pc:Option Addr}{cc:Nat}{a b:Ui}{w:World}(h:PoA w p pc cc)(ha:UOk a)(hb:UOk b){n:Int}(hl:lkf p a b=n)(hn:n≠0):
 Calls Tryz.prog 10 #[poV p pc cc,uiV a,uiV b] w fun e w'=>e= .returned (.tuple #[poZ,.iface 35 (.int .i64 n)])∧Below w.heap.size w w':=by
 subst hl
 refine(link_any p pc cc a b w h ha hb).mono ?_
 rintro e w' ⟨h1,h2⟩
 unfold LkRet at h1
 rw[if_neg hn,eV_not hn]at h1
 exact⟨h1,h2⟩
end Go.Proofs.YthhijecpookfhaaGreatDoor
