import Derived.Test.YthhijecpookfhaaGreatDoorF26
set_option linter.unusedVariables false
set_option maxHeartbeats 12000000
namespace Go.Proofs.YthhijecpookfhaaGreatDoor
open Go.RowKit
set_option linter.unusedSimpArgs false
set_option linter.unusedSectionVars false
set_option maxRecDepth 100000
section
variable (p:Po) (pc:Option Addr) (cc:Nat) (who what:Ui) (w:World) (hL:ErrVar w) (h:PoA w p pc cc) (hu:UOk who) (hv:UOk what)
include hL h hu hv
theorem lfills_bad (hn:pof p≠0):
 Calls Tryz.prog 3 #[poV p pc cc,uiV who,uiV what] w fun e w'=>e= .returned (.bool true)∧Below w.heap.size w w':=by
 obtain⟨V,hV⟩:∃V,V=((w.alloc (.cells (poC p pc cc) 28)).alloc (.cells #[.string who.t,.string who.i] 23)).alloc (.cells #[.string what.t,.string what.i] 23):=⟨_,rfl⟩
 have hbV:Below w.heap.size w V:=by rw[hV];exact kqx
 have HA:Hid (∀W,Below V.heap.size V W→Blk W w.heap.size (poC p pc cc) 28∧Blk W (w.heap.size+1) #[.string who.t,.string who.i] 23∧Blk W (w.heap.size+1+1) #[.string what.t,.string what.i] 23):=fun W hW=>by
  have h1:Blk V w.heap.size (poC p pc cc) 28:=by rw[hV];exact((Blk.new w _ _ rfl).up kqx).up kqx
  have h2:Blk V (w.heap.size+1) #[.string who.t,.string who.i] 23:=by rw[hV];refine(Blk.new (w.alloc _) _ _ ?_).up kqx;simp
  have h3:Blk V (w.heap.size+1+1) #[.string what.t,.string what.i] 23:=by rw[hV];refine Blk.new ((w.alloc _).alloc _) _ _ ?_;simp
  exact⟨h1.up hW,h2.up hW,h3.up hW⟩
 have HPA:Hid (∀W,Below V.heap.size V W→PoA W p pc cc):=fun W hW=>h.up (kqt hbV hW)
 have HER:Hid (∀W,Below V.heap.size V W→ErrVar W):=fun W hW=>ev_up hL (kqt hbV hW)
 have L0:=fun W=>slots_good (paW_po W) (L:=[sQr]) (by kernel_rfl) rfl
 have HPF:=fun W (hW:Below V.heap.size V W)=>policyFault_any p pc cc W (HPA.out W hW)
 have HLD:=fun W (hW:Below V.heap.size V W)=>linked_wrong (HPA.out W hW) hu hv (n:=pof p) (by unfold lkf;rw[if_neg hn]) hn
 have HSL:=fun W (hW:Below V.heap.size V W)=>slots_wrong (HPA.out W hW) rfl hn
 have HLW:=fun W (hW:Below V.heap.size V W)=>link_wrong (a:=who) (b:=what) (n:=pof p) (HPA.out W hW) hu hv (by unfold lkf;rw[if_neg hn]) hn
 have HTE:=fun W (hW:Below V.heap.size V W)=>toldE_any (pof p) (pof p) W (HER.out W hW)
 rw[eV_not hn,show(pof p == pof p)=true by simp]at HTE
 have HTX:=fun W=>same_texts (L:=[]) (n:=0) rfl (by omega) (w:=W) (p:=none) (q:=none) (c:=0) (d:=0) (.inl rfl) (.inl rfl)
 have HSP:=fun W=>samePol_any poN none none 0 0 W (poN_po W) (poN_po W)
 have hn2:(pof p == 0)=false:=by simpa using hn
 generalize pof p=n at *
 unfold poZ at HLD HLW
 unfold poN poV eU eB at HSP
 simp only[List.length_nil]at HSP
 clear hn h hu hv hL HPA HER
 unfold poC at hV
 unfold poV uiV paW eU eB at *
 simp only[List.length_cons,List.length_nil]at L0
 obtain⟨PV,hPV⟩:∃v,v=Value.agg #[.string p.nm,.bool p.fb,.int .i64 p.who.op,.string p.who.ty,.string p.who.u.t,.string p.who.u.i,.int .i64 p.act.op,.string p.act.ty,.string p.act.u.t,.string p.act.u.i,.int .i64 p.what.op,.string p.what.ty,.string p.what.u.t,.string p.what.u.i,.slice pc p.cs.length cc]:=⟨_,rfl⟩
 rw[←hPV]at HPF HLD
 try rw[←hPV]at HSL
 try rw[←hPV]at HSO
 try rw[←hPV]at HLW
 try rw[←hPV]at HLG
 have HPV:Hid (PV=Value.agg #[.string p.nm,.bool p.fb,.int .i64 p.who.op,.string p.who.ty,.string p.who.u.t,.string p.who.u.i,.int .i64 p.act.op,.string p.act.ty,.string p.act.u.t,.string p.act.u.i,.int .i64 p.what.op,.string p.what.ty,.string p.what.u.t,.string p.what.u.i,.slice pc p.cs.length cc]):=hPV
 obtain⟨ZV,hZV⟩:∃v,v=Value.agg #[.string ⟨#[]⟩,.bool false,.int .i64 0,.string ⟨#[]⟩,.string ⟨#[]⟩,.string ⟨#[]⟩,.int .i64 0,.string ⟨#[]⟩,.string ⟨#[]⟩,.string ⟨#[]⟩,.int .i64 0,.string ⟨#[]⟩,.string ⟨#[]⟩,.string ⟨#[]⟩,.slice none 0 0]:=⟨_,rfl⟩
 have HZV:Hid (ZV=Value.agg #[.string ⟨#[]⟩,.bool false,.int .i64 0,.string ⟨#[]⟩,.string ⟨#[]⟩,.string ⟨#[]⟩,.int .i64 0,.string ⟨#[]⟩,.string ⟨#[]⟩,.string ⟨#[]⟩,.int .i64 0,.string ⟨#[]⟩,.string ⟨#[]⟩,.string ⟨#[]⟩,.slice none 0 0]):=hZV
 clear hPV hZV
 go_enter Tryz.func3,Tryz.ntmps3
 go_wp2_with fail
 rw[←hV,←HPV.out]
 clear hV
 refine(L0 _).mono ?_
 rintro _ w1 ⟨⟨q1,c1,rfl,ht1⟩,hb1⟩
 clear L0
 obtain⟨X1,hX1⟩:∃X,X=w1.alloc (.cells #[.string sQr] 9):=⟨_,rfl⟩
 have hbX1:Below V.heap.size V X1:=by rw[hX1];exact kqt hb1 kqx
 have HS0:=same_texts (L:=[sQr]) (n:=0+1) rfl (by omega) (p:=q1) (q:=some ⟨w1.heap.size,0,none⟩) (c:=c1) (d:=1) (ht1.up (show Below w1.heap.size w1 X1 by rw[hX1];exact kqx)) (by rw[hX1];exact TL.lit1 _ _)
 clear ht1
 unfold sQr at hX1
 go_wp2_with fail
 rw[←hX1]
 clear hX1
 refine HS0.mono ?_
 rintro _ w2 ⟨rfl,hb2'⟩
 have hb2:Below V.heap.size V w2:=kqt hbX1 hb2'
 clear HS0 hb2' hbX1 hb1
 obtain⟨hB0,hB1,hB2⟩:=HA.out w2 hb2
 obtain⟨x0,x1,x2,x3,x4,x5,x6,x7,x8,x9,x10,x11,x12,x13,x14⟩:=po_cells hB0
 have l0:w.heap.size<w2.heap.size:=hB0.lt
 clear hB0 hB1 hB2
 go_wp2_with fail
 rw[←HPV.out]
 refine(HPF _ hb2).mono ?_
 rintro _ w3 ⟨rfl,hb3'⟩
 have hb3:Below V.heap.size V w3:=kqt hb2 hb3'
 clear l0 x0 x1 x2 x3 x4 x5 x6 x7 x8 x9 x10 x11 x12 x13 x14
 obtain⟨hB0,hB1,hB2⟩:=HA.out w3 hb3
 obtain⟨x0,x1,x2,x3,x4,x5,x6,x7,x8,x9,x10,x11,x12,x13,x14⟩:=po_cells hB0
 have l0:w.heap.size<w3.heap.size:=hB0.lt
 clear hB0 hB1 hB2
 go_wp2_with fail
 rw[←HPV.out]
 refine(HSL _ hb3).mono ?_
 rintro _ w4 ⟨rfl,hb4'⟩
 have hb4:Below V.heap.size V w4:=kqt hb3 hb4'
 clear l0 x0 x1 x2 x3 x4 x5 x6 x7 x8 x9 x10 x11 x12 x13 x14
 go_wp2_with fail
 refine(HTE _ hb4).mono ?_
 rintro _ w5 ⟨rfl,hb5'⟩
 have hb5:Below V.heap.size V w5:=kqt hb4 hb5'
 go_wp2_with fail
 refine(HTX _).mono ?_
 rintro _ w6 ⟨rfl,hb6'⟩
 have hb6:Below V.heap.size V w6:=kqt hb5 hb6'
 obtain⟨hB0,hB1,hB2⟩:=HA.out w6 hb6
 obtain⟨x0,x1,x2,x3,x4,x5,x6,x7,x8,x9,x10,x11,x12,x13,x14⟩:=po_cells hB0
 have l0:w.heap.size<w6.heap.size:=hB0.lt
 have u0:=hB1.cell 0
 have u1:=hB1.cell 1
 simp only[List.getElem?_toArray,List.getElem?_cons_zero,List.getElem?_cons_succ]at u0 u1
 have t0:=hB2.cell 0
 have t1:=hB2.cell 1
 simp only[List.getElem?_toArray,List.getElem?_cons_zero,List.getElem?_cons_succ]at t0 t1
 have l1:w.heap.size+1<w6.heap.size:=hB1.lt
 have l2:w.heap.size+1+1<w6.heap.size:=hB2.lt
 clear hB0 hB1 hB2
 go_wp2_with fail
 rw[←HPV.out]
 refine(HLD _ hb6).mono ?_
 rintro _ w7 ⟨rfl,hb7'⟩
 have hb7:Below V.heap.size V w7:=kqt hb6 hb7'
 clear l0 x0 x1 x2 x3 x4 x5 x6 x7 x8 x9 x10 x11 x12 x13 x14 u0 u1 t0 t1 l1 l2
 obtain⟨X7,hX7⟩:∃X,X=w7.alloc (.cells #[.string ⟨#[]⟩,.bool false,.int .i64 0,.string ⟨#[]⟩,.string ⟨#[]⟩,.string ⟨#[]⟩,.int .i64 0,.string ⟨#[]⟩,.string ⟨#[]⟩,.string ⟨#[]⟩,.int .i64 0,.string ⟨#[]⟩,.string ⟨#[]⟩,.string ⟨#[]⟩,.slice none 0 0] 28):=⟨_,rfl⟩
 have hbX7:Below V.heap.size V X7:=by rw[hX7];exact kqt hb7 kqx
 have HKX7:Hid (∀W,Below X7.heap.size X7 W→Blk W w7.heap.size #[.string ⟨#[]⟩,.bool false,.int .i64 0,.string ⟨#[]⟩,.string ⟨#[]⟩,.string ⟨#[]⟩,.int .i64 0,.string ⟨#[]⟩,.string ⟨#[]⟩,.string ⟨#[]⟩,.int .i64 0,.string ⟨#[]⟩,.string ⟨#[]⟩,.string ⟨#[]⟩,.slice none 0 0] 28):=fun W hW=>by
  have hk:Blk X7 w7.heap.size #[.string ⟨#[]⟩,.bool false,.int .i64 0,.string ⟨#[]⟩,.string ⟨#[]⟩,.string ⟨#[]⟩,.int .i64 0,.string ⟨#[]⟩,.string ⟨#[]⟩,.string ⟨#[]⟩,.int .i64 0,.string ⟨#[]⟩,.string ⟨#[]⟩,.string ⟨#[]⟩,.slice none 0 0] 28:=by rw[hX7];exact Blk.new w7 _ _ rfl
  exact hk.up hW
 obtain⟨hB0,hB1,hB2⟩:=HA.out w7 hb7
 obtain⟨x0,x1,x2,x3,x4,x5,x6,x7,x8,x9,x10,x11,x12,x13,x14⟩:=po_cells hB0
 have l0:w.heap.size<w7.heap.size:=hB0.lt
 have u0:=hB1.cell 0
 have u1:=hB1.cell 1
 simp only[List.getElem?_toArray,List.getElem?_cons_zero,List.getElem?_cons_succ]at u0 u1
 have t0:=hB2.cell 0
 have t1:=hB2.cell 1
 simp only[List.getElem?_toArray,List.getElem?_cons_zero,List.getElem?_cons_succ]at t0 t1
 have l1:w.heap.size+1<w7.heap.size:=hB1.lt
 have l2:w.heap.size+1+1<w7.heap.size:=hB2.lt
 clear hB0 hB1 hB2
 go_wp2_with fail
 rw[←hX7,←HPV.out]
 try rw[←HZV.out]
 try rw[←HQV.out]
 clear hX7
 refine(HLW _ hbX7).mono ?_
 rintro _ w8 ⟨rfl,hb8'⟩
 have hb8:Below V.heap.size V w8:=kqt hbX7 hb8'
 clear l0 x0 x1 x2 x3 x4 x5 x6 x7 x8 x9 x10 x11 x12 x13 x14 u0 u1 t0 t1 l1 l2
 obtain⟨X8,hX8⟩:∃X,X=w8.alloc (.cells #[.string ⟨#[]⟩,.bool false,.int .i64 0,.string ⟨#[]⟩,.string ⟨#[]⟩,.string ⟨#[]⟩,.int .i64 0,.string ⟨#[]⟩,.string ⟨#[]⟩,.string ⟨#[]⟩,.int .i64 0,.string ⟨#[]⟩,.string ⟨#[]⟩,.string ⟨#[]⟩,.slice none 0 0] 28):=⟨_,rfl⟩
 have hbX8:Below V.heap.size V X8:=by rw[hX8];exact kqt hb8 kqx
 have HKX8:Hid (∀W,Below X8.heap.size X8 W→Blk W w8.heap.size #[.string ⟨#[]⟩,.bool false,.int .i64 0,.string ⟨#[]⟩,.string ⟨#[]⟩,.string ⟨#[]⟩,.int .i64 0,.string ⟨#[]⟩,.string ⟨#[]⟩,.string ⟨#[]⟩,.int .i64 0,.string ⟨#[]⟩,.string ⟨#[]⟩,.string ⟨#[]⟩,.slice none 0 0] 28):=fun W hW=>by
  have hk:Blk X8 w8.heap.size #[.string ⟨#[]⟩,.bool false,.int .i64 0,.string ⟨#[]⟩,.string ⟨#[]⟩,.string ⟨#[]⟩,.int .i64 0,.string ⟨#[]⟩,.string ⟨#[]⟩,.string ⟨#[]⟩,.int .i64 0,.string ⟨#[]⟩,.string ⟨#[]⟩,.string ⟨#[]⟩,.slice none 0 0] 28:=by rw[hX8];exact Blk.new w8 _ _ rfl
  exact hk.up hW
 have hb8X:Below w8.heap.size w8 X8:=by rw[hX8];exact kqx
 go_wp2_with fail
 rw[←hX8]
 try rw[←HZV.out]
 try rw[←HRV.out]
 clear hX8
 refine(HTE _ hbX8).mono ?_
 rintro _ w9 ⟨rfl,hb9'⟩
 have hb9:Below V.heap.size V w9:=kqt hbX8 hb9'
 have hb79:Below X7.heap.size X7 w9:=kqt (kqt hb8' hb8X) hb9'
 have x0:w9.cell? ⟨w7.heap.size,0,none⟩=some (.string ⟨#[]⟩):=(HKX7.out w9 hb79).cell 0
 have x1:w9.cell? ⟨w7.heap.size,1,none⟩=some (.bool false):=(HKX7.out w9 hb79).cell 1
 have x2:w9.cell? ⟨w7.heap.size,2,none⟩=some (.int .i64 0):=(HKX7.out w9 hb79).cell 2
 have x3:w9.cell? ⟨w7.heap.size,3,none⟩=some (.string ⟨#[]⟩):=(HKX7.out w9 hb79).cell 3
 have x4:w9.cell? ⟨w7.heap.size,4,none⟩=some (.string ⟨#[]⟩):=(HKX7.out w9 hb79).cell 4
 have x5:w9.cell? ⟨w7.heap.size,5,none⟩=some (.string ⟨#[]⟩):=(HKX7.out w9 hb79).cell 5
 have x6:w9.cell? ⟨w7.heap.size,6,none⟩=some (.int .i64 0):=(HKX7.out w9 hb79).cell 6
 have x7:w9.cell? ⟨w7.heap.size,7,none⟩=some (.string ⟨#[]⟩):=(HKX7.out w9 hb79).cell 7
 have x8:w9.cell? ⟨w7.heap.size,8,none⟩=some (.string ⟨#[]⟩):=(HKX7.out w9 hb79).cell 8
 have x9:w9.cell? ⟨w7.heap.size,9,none⟩=some (.string ⟨#[]⟩):=(HKX7.out w9 hb79).cell 9
 have x10:w9.cell? ⟨w7.heap.size,10,none⟩=some (.int .i64 0):=(HKX7.out w9 hb79).cell 10
 have x11:w9.cell? ⟨w7.heap.size,11,none⟩=some (.string ⟨#[]⟩):=(HKX7.out w9 hb79).cell 11
 have x12:w9.cell? ⟨w7.heap.size,12,none⟩=some (.string ⟨#[]⟩):=(HKX7.out w9 hb79).cell 12
 have x13:w9.cell? ⟨w7.heap.size,13,none⟩=some (.string ⟨#[]⟩):=(HKX7.out w9 hb79).cell 13
 have x14:w9.cell? ⟨w7.heap.size,14,none⟩=some (.slice none 0 0):=(HKX7.out w9 hb79).cell 14
 have lX7:w7.heap.size<w9.heap.size:=(HKX7.out w9 hb79).lt
 have y0:w9.cell? ⟨w8.heap.size,0,none⟩=some (.string ⟨#[]⟩):=(HKX8.out w9 hb9').cell 0
 have y1:w9.cell? ⟨w8.heap.size,1,none⟩=some (.bool false):=(HKX8.out w9 hb9').cell 1
 have y2:w9.cell? ⟨w8.heap.size,2,none⟩=some (.int .i64 0):=(HKX8.out w9 hb9').cell 2
 have y3:w9.cell? ⟨w8.heap.size,3,none⟩=some (.string ⟨#[]⟩):=(HKX8.out w9 hb9').cell 3
 have y4:w9.cell? ⟨w8.heap.size,4,none⟩=some (.string ⟨#[]⟩):=(HKX8.out w9 hb9').cell 4
 have y5:w9.cell? ⟨w8.heap.size,5,none⟩=some (.string ⟨#[]⟩):=(HKX8.out w9 hb9').cell 5
 have y6:w9.cell? ⟨w8.heap.size,6,none⟩=some (.int .i64 0):=(HKX8.out w9 hb9').cell 6
 have y7:w9.cell? ⟨w8.heap.size,7,none⟩=some (.string ⟨#[]⟩):=(HKX8.out w9 hb9').cell 7
 have y8:w9.cell? ⟨w8.heap.size,8,none⟩=some (.string ⟨#[]⟩):=(HKX8.out w9 hb9').cell 8
 have y9:w9.cell? ⟨w8.heap.size,9,none⟩=some (.string ⟨#[]⟩):=(HKX8.out w9 hb9').cell 9
 have y10:w9.cell? ⟨w8.heap.size,10,none⟩=some (.int .i64 0):=(HKX8.out w9 hb9').cell 10
 have y11:w9.cell? ⟨w8.heap.size,11,none⟩=some (.string ⟨#[]⟩):=(HKX8.out w9 hb9').cell 11
 have y12:w9.cell? ⟨w8.heap.size,12,none⟩=some (.string ⟨#[]⟩):=(HKX8.out w9 hb9').cell 12
 have y13:w9.cell? ⟨w8.heap.size,13,none⟩=some (.string ⟨#[]⟩):=(HKX8.out w9 hb9').cell 13
 have y14:w9.cell? ⟨w8.heap.size,14,none⟩=some (.slice none 0 0):=(HKX8.out w9 hb9').cell 14
 have lX8:w8.heap.size<w9.heap.size:=(HKX8.out w9 hb9').lt
 go_wp2_with fail
 refine(HSP _).mono ?_
 rintro _ w10 ⟨rfl,hb10'⟩
 go_wp2
 go_ret
 exact⟨rfl,kqt hbV (kqt hb9 hb10')⟩
end
end Go.Proofs.YthhijecpookfhaaGreatDoor
