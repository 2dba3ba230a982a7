import Derived.Test.YtpmkpfdhanmhiaaGreatDoorP25
import Derived.Test.YtpmkpfdhanmhiaaGreatDoorP26
import Derived.Test.YtpmkpfdhanmhiaaGreatDoorP18
import Derived.Test.YtpmkpfdhanmhiaaGreatDoorP35
import Derived.Test.YtpmkpfdhanmhiaaGreatDoorP19
import Derived.Test.YtpmkpfdhanmhiaaGreatDoorP2
import Derived.Deep.RegionHeld
set_option linter.unusedVariables false
set_option maxHeartbeats 12000000
namespace Go.Proofs.YtpmkpfdhanmhiaaGreatDoor
open Go.RowKit
set_option linter.unusedSimpArgs false
set_option linter.unusedSectionVars false
set_option maxRecDepth 100000
section
variable (es:List En) (ps:Option Addr) (cs:Nat) (p:Po) (pc:Option Addr) (cc:Nat) (q:Rq) (pq:Option Addr) (cq:Nat) (w:World) (ha:EvArg w es ps q pq cq) (h:PoA w p pc cc) (hN:∀c∈p.cs,∀y∈c.ex,n64 y)
include ha h hN
theorem pmeans_err {n:Int}(hn:exprL p= .error n):
 Calls Tryz.prog 3 #[.slice ps es.length cs,poV p pc cc,reqV q pq cq] w fun e w'=>e= .returned (.bool true)∧Below w.heap.size w w':=by
 obtain⟨V,hV⟩:∃V,V=(w.alloc (.cells (poC p pc cc) 29)).alloc (.cells #[.string q.who.t,.string q.who.i,.string q.act.t,.string q.act.i,.string q.what.t,.string q.what.i,.slice pq q.cx.length cq] 32):=⟨_,rfl⟩
 have hbV:Below w.heap.size w V:=by rw[hV];exact kqx
 have HA:Hid (∀W,Below V.heap.size V W→Blk W w.heap.size (poC p pc cc) 29∧QB W (w.heap.size+1) q pq cq):=fun W hW=>by
  have h1:Blk V w.heap.size (poC p pc cc) 29:=by rw[hV];exact(Blk.new w _ _ rfl).up kqx
  have h2:QB V (w.heap.size+1) q pq cq:=by rw[hV];exact⟨new_at (by simp)⟩
  exact⟨h1.up hW,h2.up hW⟩
 have HPA:Hid (∀W,Below V.heap.size V W→PoA W p pc cc):=fun W hW=>h.up (kqt hbV hW)
 have HEA:Hid (∀W,Below V.heap.size V W→EvArg W es ps q pq cq):=fun W hW=>ha.up (kqt hbV hW)
 have HX0:=pexpr_0 V
 have HEX:=fun W (hW:Below V.heap.size V W)=>expr_err (HPA.out W hW) hn
 clear ha h hN hn HPA HEA
 unfold poC at hV
 unfold poV po0 at *
 unfold reqV at *
 go_enter Tryz.func3,Tryz.ntmps3
 go_wp2_with fail
 rw[←hV]
 clear hV
 refine HX0.mono ?_
 rintro _ w1 ⟨⟨q1,c1,rfl⟩,hb1⟩
 clear HX0
 obtain⟨hB0,hB1⟩:=HA.out w1 hb1
 obtain⟨x0,x1,x2,x3,x4,x5,x6,x7,x8,x9,x10,x11,x12,x13,x14⟩:=po_cells hB0
 have l0:w.heap.size<w1.heap.size:=hB0.lt
 obtain⟨y0,y1,y2,y3,y4,y5,y6⟩:=hB1.cells
 have l1:w.heap.size+1<w1.heap.size:=hB1.lt
 clear hB0 hB1
 go_wp2_with fail
 refine(HEX _ hb1).mono ?_
 rintro _ w2 ⟨rfl,hb2'⟩
 have hb2:Below V.heap.size V w2:=kqt hb1 hb2'
 clear x0 x1 x2 x3 x4 x5 x6 x7 x8 x9 x10 x11 x12 x13 x14 l0 y0 y1 y2 y3 y4 y5 y6 l1
 clear HEX hb2'
 obtain⟨hB0,hB1⟩:=HA.out w2 hb2
 obtain⟨x0,x1,x2,x3,x4,x5,x6,x7,x8,x9,x10,x11,x12,x13,x14⟩:=po_cells hB0
 have l0:w.heap.size<w2.heap.size:=hB0.lt
 clear hB0 hB1
 go_wp2
 go_ret
 exact⟨rfl,kqt hbV hb2⟩
theorem pmeans_who (h0:pof p=0)(hl:(poE p).length≤200)(h5:5≤p.who.op):
 Calls Tryz.prog 3 #[.slice ps es.length cs,poV p pc cc,reqV q pq cq] w fun e w'=>e= .returned (.bool true)∧Below w.heap.size w w':=by
 obtain⟨V,hV⟩:∃V,V=(w.alloc (.cells (poC p pc cc) 29)).alloc (.cells #[.string q.who.t,.string q.who.i,.string q.act.t,.string q.act.i,.string q.what.t,.string q.what.i,.slice pq q.cx.length cq] 32):=⟨_,rfl⟩
 have hbV:Below w.heap.size w V:=by rw[hV];exact kqx
 have HA:Hid (∀W,Below V.heap.size V W→Blk W w.heap.size (poC p pc cc) 29∧QB W (w.heap.size+1) q pq cq):=fun W hW=>by
  have h1:Blk V w.heap.size (poC p pc cc) 29:=by rw[hV];exact(Blk.new w _ _ rfl).up kqx
  have h2:QB V (w.heap.size+1) q pq cq:=by rw[hV];exact⟨new_at (by simp)⟩
  exact⟨h1.up hW,h2.up hW⟩
 have HPA:Hid (∀W,Below V.heap.size V W→PoA W p pc cc):=fun W hW=>h.up (kqt hbV hW)
 have HEA:Hid (∀W,Below V.heap.size V W→EvArg W es ps q pq cq):=fun W hW=>ha.up (kqt hbV hW)
 have HX0:=pexpr_0 V
 have HEX:=fun W (hW:Below V.heap.size V W)=>expr_good (HPA.out W hW) h0 hl
 clear ha h hN h0 hl HPA HEA
 unfold poC at hV
 unfold poV po0 at *
 unfold reqV at *
 go_enter Tryz.func3,Tryz.ntmps3
 go_wp2_with fail
 rw[←hV]
 clear hV
 refine HX0.mono ?_
 rintro _ w1 ⟨⟨q1,c1,rfl⟩,hb1⟩
 clear HX0
 obtain⟨hB0,hB1⟩:=HA.out w1 hb1
 obtain⟨x0,x1,x2,x3,x4,x5,x6,x7,x8,x9,x10,x11,x12,x13,x14⟩:=po_cells hB0
 have l0:w.heap.size<w1.heap.size:=hB0.lt
 obtain⟨y0,y1,y2,y3,y4,y5,y6⟩:=hB1.cells
 have l1:w.heap.size+1<w1.heap.size:=hB1.lt
 clear hB0 hB1
 go_wp2_with fail
 refine(HEX _ hb1).mono ?_
 rintro _ w2 ⟨⟨q2,c2,rfl,ha2⟩,hb2'⟩
 have hb2:Below V.heap.size V w2:=kqt hb1 hb2'
 have HE2:Hid (AK0 w2 (poE p) q2 c2):=ha2
 clear ha2 HEX hb2'
 clear x0 x1 x2 x3 x4 x5 x6 x7 x8 x9 x10 x11 x12 x13 x14 l0 y0 y1 y2 y3 y4 y5 y6 l1
 obtain⟨hB0,hB1⟩:=HA.out w2 hb2
 obtain⟨x0,x1,x2,x3,x4,x5,x6,x7,x8,x9,x10,x11,x12,x13,x14⟩:=po_cells hB0
 have l0:w.heap.size<w2.heap.size:=hB0.lt
 clear hB0 hB1
 go_wp2
 go_ret
 exact⟨rfl,kqt hbV hb2⟩
theorem pmeans_what (h0:pof p=0)(hl:(poE p).length≤200)(h5:¬ 5≤p.who.op)(h6:5≤p.what.op):
 Calls Tryz.prog 3 #[.slice ps es.length cs,poV p pc cc,reqV q pq cq] w fun e w'=>e= .returned (.bool true)∧Below w.heap.size w w':=by
 obtain⟨V,hV⟩:∃V,V=(w.alloc (.cells (poC p pc cc) 29)).alloc (.cells #[.string q.who.t,.string q.who.i,.string q.act.t,.string q.act.i,.string q.what.t,.string q.what.i,.slice pq q.cx.length cq] 32):=⟨_,rfl⟩
 have hbV:Below w.heap.size w V:=by rw[hV];exact kqx
 have HA:Hid (∀W,Below V.heap.size V W→Blk W w.heap.size (poC p pc cc) 29∧QB W (w.heap.size+1) q pq cq):=fun W hW=>by
  have h1:Blk V w.heap.size (poC p pc cc) 29:=by rw[hV];exact(Blk.new w _ _ rfl).up kqx
  have h2:QB V (w.heap.size+1) q pq cq:=by rw[hV];exact⟨new_at (by simp)⟩
  exact⟨h1.up hW,h2.up hW⟩
 have HPA:Hid (∀W,Below V.heap.size V W→PoA W p pc cc):=fun W hW=>h.up (kqt hbV hW)
 have HEA:Hid (∀W,Below V.heap.size V W→EvArg W es ps q pq cq):=fun W hW=>ha.up (kqt hbV hW)
 have HX0:=pexpr_0 V
 have HEX:=fun W (hW:Below V.heap.size V W)=>expr_good (HPA.out W hW) h0 hl
 clear ha h hN h0 hl HPA HEA
 unfold poC at hV
 unfold poV po0 at *
 unfold reqV at *
 go_enter Tryz.func3,Tryz.ntmps3
 go_wp2_with fail
 rw[←hV]
 clear hV
 refine HX0.mono ?_
 rintro _ w1 ⟨⟨q1,c1,rfl⟩,hb1⟩
 clear HX0
 obtain⟨hB0,hB1⟩:=HA.out w1 hb1
 obtain⟨x0,x1,x2,x3,x4,x5,x6,x7,x8,x9,x10,x11,x12,x13,x14⟩:=po_cells hB0
 have l0:w.heap.size<w1.heap.size:=hB0.lt
 obtain⟨y0,y1,y2,y3,y4,y5,y6⟩:=hB1.cells
 have l1:w.heap.size+1<w1.heap.size:=hB1.lt
 clear hB0 hB1
 go_wp2_with fail
 refine(HEX _ hb1).mono ?_
 rintro _ w2 ⟨⟨q2,c2,rfl,ha2⟩,hb2'⟩
 have hb2:Below V.heap.size V w2:=kqt hb1 hb2'
 have HE2:Hid (AK0 w2 (poE p) q2 c2):=ha2
 clear ha2 HEX hb2'
 clear x0 x1 x2 x3 x4 x5 x6 x7 x8 x9 x10 x11 x12 x13 x14 l0 y0 y1 y2 y3 y4 y5 y6 l1
 obtain⟨hB0,hB1⟩:=HA.out w2 hb2
 obtain⟨x0,x1,x2,x3,x4,x5,x6,x7,x8,x9,x10,x11,x12,x13,x14⟩:=po_cells hB0
 have l0:w.heap.size<w2.heap.size:=hB0.lt
 clear hB0 hB1
 go_wp2
 go_ret
 exact⟨rfl,kqt hbV hb2⟩
theorem pmeans_store (h0:pof p=0)(hl:(poE p).length≤200)(h5:¬ 5≤p.who.op)(h6:¬ 5≤p.what.op)(h7:stf es≠0):
 Calls Tryz.prog 3 #[.slice ps es.length cs,poV p pc cc,reqV q pq cq] w fun e w'=>e= .returned (.bool true)∧Below w.heap.size w w':=by
 obtain⟨V,hV⟩:∃V,V=(w.alloc (.cells (poC p pc cc) 29)).alloc (.cells #[.string q.who.t,.string q.who.i,.string q.act.t,.string q.act.i,.string q.what.t,.string q.what.i,.slice pq q.cx.length cq] 32):=⟨_,rfl⟩
 have hbV:Below w.heap.size w V:=by rw[hV];exact kqx
 have HA:Hid (∀W,Below V.heap.size V W→Blk W w.heap.size (poC p pc cc) 29∧QB W (w.heap.size+1) q pq cq):=fun W hW=>by
  have h1:Blk V w.heap.size (poC p pc cc) 29:=by rw[hV];exact(Blk.new w _ _ rfl).up kqx
  have h2:QB V (w.heap.size+1) q pq cq:=by rw[hV];exact⟨new_at (by simp)⟩
  exact⟨h1.up hW,h2.up hW⟩
 have HPA:Hid (∀W,Below V.heap.size V W→PoA W p pc cc):=fun W hW=>h.up (kqt hbV hW)
 have HEA:Hid (∀W,Below V.heap.size V W→EvArg W es ps q pq cq):=fun W hW=>ha.up (kqt hbV hW)
 have HX0:=pexpr_0 V
 have HEX:=fun W (hW:Below V.heap.size V W)=>expr_good (HPA.out W hW) h0 hl
 have HST:=fun W hl=>entCheck_any es ps cs W hl
 rw[eV_not h7]at HST
 clear ha h hN h0 hl h7 HPA
 unfold poC at hV
 unfold poV po0 at *
 unfold reqV at *
 go_enter Tryz.func3,Tryz.ntmps3
 go_wp2_with fail
 rw[←hV]
 clear hV
 refine HX0.mono ?_
 rintro _ w1 ⟨⟨q1,c1,rfl⟩,hb1⟩
 clear HX0
 obtain⟨hB0,hB1⟩:=HA.out w1 hb1
 obtain⟨x0,x1,x2,x3,x4,x5,x6,x7,x8,x9,x10,x11,x12,x13,x14⟩:=po_cells hB0
 have l0:w.heap.size<w1.heap.size:=hB0.lt
 obtain⟨y0,y1,y2,y3,y4,y5,y6⟩:=hB1.cells
 have l1:w.heap.size+1<w1.heap.size:=hB1.lt
 clear hB0 hB1
 go_wp2_with fail
 refine(HEX _ hb1).mono ?_
 rintro _ w2 ⟨⟨q2,c2,rfl,ha2⟩,hb2'⟩
 have hb2:Below V.heap.size V w2:=kqt hb1 hb2'
 have HE2:Hid (AK0 w2 (poE p) q2 c2):=ha2
 clear ha2 HEX hb2'
 clear x0 x1 x2 x3 x4 x5 x6 x7 x8 x9 x10 x11 x12 x13 x14 l0 y0 y1 y2 y3 y4 y5 y6 l1
 obtain⟨hB0,hB1⟩:=HA.out w2 hb2
 obtain⟨x0,x1,x2,x3,x4,x5,x6,x7,x8,x9,x10,x11,x12,x13,x14⟩:=po_cells hB0
 have l0:w.heap.size<w2.heap.size:=hB0.lt
 clear hB0 hB1
 go_wp2_with fail
 refine(HST _ (HEA.out _ hb2).el).mono ?_
 rintro _ w3 ⟨rfl,hb3'⟩
 have hb3:Below V.heap.size V w3:=kqt hb2 hb3'
 clear HST hb3'
 go_wp2
 go_ret
 exact⟨rfl,kqt hbV hb3⟩
theorem pmeans_ask (h0:pof p=0)(hl:(poE p).length≤200)(h5:¬ 5≤p.who.op)(h6:¬ 5≤p.what.op)(h7:stf es=0)(h8:askf q≠0):
 Calls Tryz.prog 3 #[.slice ps es.length cs,poV p pc cc,reqV q pq cq] w fun e w'=>e= .returned (.bool true)∧Below w.heap.size w w':=by
 obtain⟨V,hV⟩:∃V,V=(w.alloc (.cells (poC p pc cc) 29)).alloc (.cells #[.string q.who.t,.string q.who.i,.string q.act.t,.string q.act.i,.string q.what.t,.string q.what.i,.slice pq q.cx.length cq] 32):=⟨_,rfl⟩
 have hbV:Below w.heap.size w V:=by rw[hV];exact kqx
 have HA:Hid (∀W,Below V.heap.size V W→Blk W w.heap.size (poC p pc cc) 29∧QB W (w.heap.size+1) q pq cq):=fun W hW=>by
  have h1:Blk V w.heap.size (poC p pc cc) 29:=by rw[hV];exact(Blk.new w _ _ rfl).up kqx
  have h2:QB V (w.heap.size+1) q pq cq:=by rw[hV];exact⟨new_at (by simp)⟩
  exact⟨h1.up hW,h2.up hW⟩
 have HPA:Hid (∀W,Below V.heap.size V W→PoA W p pc cc):=fun W hW=>h.up (kqt hbV hW)
 have HEA:Hid (∀W,Below V.heap.size V W→EvArg W es ps q pq cq):=fun W hW=>ha.up (kqt hbV hW)
 have HX0:=pexpr_0 V
 have HEX:=fun W (hW:Below V.heap.size V W)=>expr_good (HPA.out W hW) h0 hl
 have HST:=fun W hl=>entCheck_any es ps cs W hl
 rw[eV_nil h7]at HST
 have HAK:=fun W hr=>ask_any q pq cq W hr
 rw[eV_not h8]at HAK
 unfold reqV at HAK
 clear ha h hN h0 hl h7 h8 HPA
 unfold poC at hV
 unfold poV po0 at *
 unfold reqV at *
 go_enter Tryz.func3,Tryz.ntmps3
 go_wp2_with fail
 rw[←hV]
 clear hV
 refine HX0.mono ?_
 rintro _ w1 ⟨⟨q1,c1,rfl⟩,hb1⟩
 clear HX0
 obtain⟨hB0,hB1⟩:=HA.out w1 hb1
 obtain⟨x0,x1,x2,x3,x4,x5,x6,x7,x8,x9,x10,x11,x12,x13,x14⟩:=po_cells hB0
 have l0:w.heap.size<w1.heap.size:=hB0.lt
 obtain⟨y0,y1,y2,y3,y4,y5,y6⟩:=hB1.cells
 have l1:w.heap.size+1<w1.heap.size:=hB1.lt
 clear hB0 hB1
 go_wp2_with fail
 refine(HEX _ hb1).mono ?_
 rintro _ w2 ⟨⟨q2,c2,rfl,ha2⟩,hb2'⟩
 have hb2:Below V.heap.size V w2:=kqt hb1 hb2'
 have HE2:Hid (AK0 w2 (poE p) q2 c2):=ha2
 clear ha2 HEX hb2'
 clear x0 x1 x2 x3 x4 x5 x6 x7 x8 x9 x10 x11 x12 x13 x14 l0 y0 y1 y2 y3 y4 y5 y6 l1
 obtain⟨hB0,hB1⟩:=HA.out w2 hb2
 obtain⟨x0,x1,x2,x3,x4,x5,x6,x7,x8,x9,x10,x11,x12,x13,x14⟩:=po_cells hB0
 have l0:w.heap.size<w2.heap.size:=hB0.lt
 clear hB0 hB1
 go_wp2_with fail
 refine(HST _ (HEA.out _ hb2).el).mono ?_
 rintro _ w3 ⟨rfl,hb3'⟩
 have hb3:Below V.heap.size V w3:=kqt hb2 hb3'
 clear HST hb3'
 clear x0 x1 x2 x3 x4 x5 x6 x7 x8 x9 x10 x11 x12 x13 x14 l0
 obtain⟨hB0,hB1⟩:=HA.out w3 hb3
 obtain⟨y0,y1,y2,y3,y4,y5,y6⟩:=hB1.cells
 have l1:w.heap.size+1<w3.heap.size:=hB1.lt
 clear hB0 hB1
 go_wp2_with fail
 refine(HAK _ (HEA.out _ hb3).rq).mono ?_
 rintro _ w4 ⟨rfl,hb4'⟩
 have hb4:Below V.heap.size V w4:=kqt hb3 hb4'
 clear HAK hb4'
 go_wp2
 go_ret
 exact⟨rfl,kqt hbV hb4⟩
end
section
variable (es:List En) (ps:Option Addr) (cs:Nat) (p:Po) (pc:Option Addr) (cc:Nat) (q:Rq) (pq:Option Addr) (cq:Nat) (w:World) (ha:EvArg w es ps q pq cq) (h:PoA w p pc cc) (hN:∀c∈p.cs,∀y∈c.ex,n64 y)
include ha h hN
theorem pmeans_no1 (h0:pof p=0)(hl:(poE p).length≤200)(h5:¬ 5≤p.who.op)(h6:¬ 5≤p.what.op)(h7:stf es=0)(h8:askf q=0)(f1:fitC es p.who q.who=false):
 Calls Tryz.prog 3 #[.slice ps es.length cs,poV p pc cc,reqV q pq cq] w fun e w'=>e= .returned (.bool true)∧Below w.heap.size w w':=by
 obtain⟨V,hV⟩:∃V,V=(w.alloc (.cells (poC p pc cc) 29)).alloc (.cells #[.string q.who.t,.string q.who.i,.string q.act.t,.string q.act.i,.string q.what.t,.string q.what.i,.slice pq q.cx.length cq] 32):=⟨_,rfl⟩
 have hbV:Below w.heap.size w V:=by rw[hV];exact kqx
 have HA:Hid (∀W,Below V.heap.size V W→Blk W w.heap.size (poC p pc cc) 29∧QB W (w.heap.size+1) q pq cq):=fun W hW=>by
  have h1:Blk V w.heap.size (poC p pc cc) 29:=by rw[hV];exact(Blk.new w _ _ rfl).up kqx
  have h2:QB V (w.heap.size+1) q pq cq:=by rw[hV];exact⟨new_at (by simp)⟩
  exact⟨h1.up hW,h2.up hW⟩
 have HPA:Hid (∀W,Below V.heap.size V W→PoA W p pc cc):=fun W hW=>h.up (kqt hbV hW)
 have HEA:Hid (∀W,Below V.heap.size V W→EvArg W es ps q pq cq):=fun W hW=>ha.up (kqt hbV hW)
 have HX0:=pexpr_0 V
 have HEX:=fun W (hW:Below V.heap.size V W)=>expr_good (HPA.out W hW) h0 hl
 have HST:=fun W hl=>entCheck_any es ps cs W hl
 rw[eV_nil h7]at HST
 have HAK:=fun W hr=>ask_any q pq cq W hr
 rw[eV_nil h8]at HAK
 unfold reqV at HAK
 obtain⟨hpx,hpv⟩:=pol_val (es:=es) (q:=q) h0 hl (by omega) (by omega)
 have hR:valueL es q (poE p)=bindE (pvL es q p) fun b=>.ok (tN b):=by rw[valueL_ex hpx,if_pos h7,if_pos h8];exact hpv
 have HLA:Hid (∀W q2 c2,AK0 W (poE p) q2 c2→LArg W (poE p) (poE p).length q2 c2):=fun W q2 c2 k=>⟨rfl,k.nl,k.le,k.cm,poE_64 hN⟩
 have HVA:=fun W q2 c2 (hE:EvArg W es ps q pq cq) (hl:LArg W (poE p) (poE p).length q2 c2)=>evalue_arg cs W hE hl hR
 unfold reqV at HVA
 have HF1:=fun W hl=>sfits_any es ps cs p.who q.who W hl h.who.2 ha.rq.u0 h7
 have HF2:=fun W hl=>sfits_any es ps cs p.act q.act W hl h.act.2 ha.rq.u1 h7
 have HF3:=fun W hl=>sfits_any es ps cs p.what q.what W hl h.what.2 ha.rq.u2 h7
 unfold scvP at HF1 HF2 HF3
 obtain⟨n,hn⟩:∃n,n=(poE p).length:=⟨_,rfl⟩
 rw[←hn]at HEX HLA HVA
 rw[f1]at HF1
 have HPV:Hid (pvL es q p= .ok false):=pv_no (.inl f1)
 clear hpx hpv hR hn ha h hN h0 hl h7 h8 HPA f1 HF2 HF3
 unfold poC at hV
 unfold poV po0 at *
 unfold reqV at *
 go_enter Tryz.func3,Tryz.ntmps3
 go_wp2_with fail
 rw[←hV]
 clear hV
 refine HX0.mono ?_
 rintro _ w1 ⟨⟨q1,c1,rfl⟩,hb1⟩
 clear HX0
 obtain⟨hB0,hB1⟩:=HA.out w1 hb1
 obtain⟨x0,x1,x2,x3,x4,x5,x6,x7,x8,x9,x10,x11,x12,x13,x14⟩:=po_cells hB0
 have l0:w.heap.size<w1.heap.size:=hB0.lt
 obtain⟨y0,y1,y2,y3,y4,y5,y6⟩:=hB1.cells
 have l1:w.heap.size+1<w1.heap.size:=hB1.lt
 clear hB0 hB1
 go_wp2_with fail
 refine(HEX _ hb1).mono ?_
 rintro _ w2 ⟨⟨q2,c2,rfl,ha2⟩,hb2'⟩
 have hb2:Below V.heap.size V w2:=kqt hb1 hb2'
 have HE2:Hid (AK0 w2 (poE p) q2 c2):=ha2
 clear ha2 HEX hb2'
 clear x0 x1 x2 x3 x4 x5 x6 x7 x8 x9 x10 x11 x12 x13 x14 l0 y0 y1 y2 y3 y4 y5 y6 l1
 obtain⟨hB0,hB1⟩:=HA.out w2 hb2
 obtain⟨x0,x1,x2,x3,x4,x5,x6,x7,x8,x9,x10,x11,x12,x13,x14⟩:=po_cells hB0
 have l0:w.heap.size<w2.heap.size:=hB0.lt
 clear hB0 hB1
 go_wp2_with fail
 refine(HST _ (HEA.out _ hb2).el).mono ?_
 rintro _ w3 ⟨rfl,hb3'⟩
 have hb3:Below V.heap.size V w3:=kqt hb2 hb3'
 have HE3:Hid (AK0 w3 (poE p) q2 c2):=HE2.out.up hb3'
 clear HST hb3' HE2
 clear x0 x1 x2 x3 x4 x5 x6 x7 x8 x9 x10 x11 x12 x13 x14 l0
 obtain⟨hB0,hB1⟩:=HA.out w3 hb3
 obtain⟨y0,y1,y2,y3,y4,y5,y6⟩:=hB1.cells
 have l1:w.heap.size+1<w3.heap.size:=hB1.lt
 clear hB0 hB1
 go_wp2_with fail
 refine(HAK _ (HEA.out _ hb3).rq).mono ?_
 rintro _ w4 ⟨rfl,hb4'⟩
 have hb4:Below V.heap.size V w4:=kqt hb3 hb4'
 have HE4:Hid (AK0 w4 (poE p) q2 c2):=HE3.out.up hb4'
 clear HAK hb4' HE3
 clear y0 y1 y2 y3 y4 y5 y6 l1
 obtain⟨hB0,hB1⟩:=HA.out w4 hb4
 obtain⟨y0,y1,y2,y3,y4,y5,y6⟩:=hB1.cells
 have l1:w.heap.size+1<w4.heap.size:=hB1.lt
 clear hB0 hB1
 go_wp2_with fail
 refine(HVA _ q2 c2 (HEA.out _ hb4) (HLA.out _ _ _ HE4.out)).mono ?_
 rintro _ w5 ⟨⟨v,f,rfl,hans⟩,hb5'⟩
 have hb5:Below V.heap.size V w5:=kqt hb4 hb5'
 have HAN:Hid (∀W,Below w5.heap.size w5 W→Ans W (bindE (pvL es q p) fun b=>.ok (tN b)) v f):=fun W hW=>hans.up hW
 clear HVA HLA HE4 hb5' hans
 clear y0 y1 y2 y3 y4 y5 y6 l1
 obtain⟨hB0,hB1⟩:=HA.out w5 hb5
 obtain⟨x0,x1,x2,x3,x4,x5,x6,x7,x8,x9,x10,x11,x12,x13,x14⟩:=po_cells hB0
 have l0:w.heap.size<w5.heap.size:=hB0.lt
 obtain⟨y0,y1,y2,y3,y4,y5,y6⟩:=hB1.cells
 have l1:w.heap.size+1<w5.heap.size:=hB1.lt
 clear hB0 hB1
 go_wp2_with fail
 refine(HF1 _ (HEA.out _ hb5).el).mono ?_
 rintro _ w6 ⟨rfl,hb6'⟩
 have hb6:Below V.heap.size V w6:=kqt hb5 hb6'
 have hb5w6:Below w5.heap.size w5 w6:=hb6'
 clear HF1 hb6'
 clear x0 x1 x2 x3 x4 x5 x6 x7 x8 x9 x10 x11 x12 x13 x14 l0 y0 y1 y2 y3 y4 y5 y6 l1
 have HAF:Hid (Ans w6 (.ok (tN false)) v f):=by have:=HAN.out w6 hb5w6;rw[HPV.out]at this;exact this
 clear HAN HPV
 obtain⟨qv,cv,rfl,rfl,hva⟩:=HAF.out
 have HVV:Hid (VArg w6 (tN false) (tN false).length qv cv):=hva
 clear hva
 have HTR:=refTruth_any
 simp only[show ∀b,(tN b).length=1 from fun _=>rfl]at *
 go_wp2_with fail
 refine(HTR _ _).mono ?_
 rintro _ t1 ⟨⟨qt,ct,rfl,hvt⟩,ht1⟩
 have HSN:=sameO (a:=tN false) (n:=1) rfl cv ct t1 (HVV.out.nl.up ht1) hvt.nl (by omega)
 clear hvt HVV
 go_wp2_with fail
 refine HSN.mono ?_
 rintro _ t2 ⟨rfl,ht2⟩
 go_wp2
 go_ret
 exact⟨rfl,kqt hbV (kqt hb6 (kqt ht1 ht2))⟩
theorem pmeans_no2 (h0:pof p=0)(hl:(poE p).length≤200)(h5:¬ 5≤p.who.op)(h6:¬ 5≤p.what.op)(h7:stf es=0)(h8:askf q=0)(f1:fitC es p.who q.who=true)(f2:fitC es p.act q.act=false):
 Calls Tryz.prog 3 #[.slice ps es.length cs,poV p pc cc,reqV q pq cq] w fun e w'=>e= .returned (.bool true)∧Below w.heap.size w w':=by
 obtain⟨V,hV⟩:∃V,V=(w.alloc (.cells (poC p pc cc) 29)).alloc (.cells #[.string q.who.t,.string q.who.i,.string q.act.t,.string q.act.i,.string q.what.t,.string q.what.i,.slice pq q.cx.length cq] 32):=⟨_,rfl⟩
 have hbV:Below w.heap.size w V:=by rw[hV];exact kqx
 have HA:Hid (∀W,Below V.heap.size V W→Blk W w.heap.size (poC p pc cc) 29∧QB W (w.heap.size+1) q pq cq):=fun W hW=>by
  have h1:Blk V w.heap.size (poC p pc cc) 29:=by rw[hV];exact(Blk.new w _ _ rfl).up kqx
  have h2:QB V (w.heap.size+1) q pq cq:=by rw[hV];exact⟨new_at (by simp)⟩
  exact⟨h1.up hW,h2.up hW⟩
 have HPA:Hid (∀W,Below V.heap.size V W→PoA W p pc cc):=fun W hW=>h.up (kqt hbV hW)
 have HEA:Hid (∀W,Below V.heap.size V W→EvArg W es ps q pq cq):=fun W hW=>ha.up (kqt hbV hW)
 have HX0:=pexpr_0 V
 have HEX:=fun W (hW:Below V.heap.size V W)=>expr_good (HPA.out W hW) h0 hl
 have HST:=fun W hl=>entCheck_any es ps cs W hl
 rw[eV_nil h7]at HST
 have HAK:=fun W hr=>ask_any q pq cq W hr
 rw[eV_nil h8]at HAK
 unfold reqV at HAK
 obtain⟨hpx,hpv⟩:=pol_val (es:=es) (q:=q) h0 hl (by omega) (by omega)
 have hR:valueL es q (poE p)=bindE (pvL es q p) fun b=>.ok (tN b):=by rw[valueL_ex hpx,if_pos h7,if_pos h8];exact hpv
 have HLA:Hid (∀W q2 c2,AK0 W (poE p) q2 c2→LArg W (poE p) (poE p).length q2 c2):=fun W q2 c2 k=>⟨rfl,k.nl,k.le,k.cm,poE_64 hN⟩
 have HVA:=fun W q2 c2 (hE:EvArg W es ps q pq cq) (hl:LArg W (poE p) (poE p).length q2 c2)=>evalue_arg cs W hE hl hR
 unfold reqV at HVA
 have HF1:=fun W hl=>sfits_any es ps cs p.who q.who W hl h.who.2 ha.rq.u0 h7
 have HF2:=fun W hl=>sfits_any es ps cs p.act q.act W hl h.act.2 ha.rq.u1 h7
 have HF3:=fun W hl=>sfits_any es ps cs p.what q.what W hl h.what.2 ha.rq.u2 h7
 unfold scvP at HF1 HF2 HF3
 obtain⟨n,hn⟩:∃n,n=(poE p).length:=⟨_,rfl⟩
 rw[←hn]at HEX HLA HVA
 rw[f1]at HF1
 rw[f2]at HF2
 have HPV:Hid (pvL es q p= .ok false):=pv_no (.inr (.inl f2))
 clear hpx hpv hR hn ha h hN h0 hl h7 h8 HPA f1 f2 HF3
 unfold poC at hV
 unfold poV po0 at *
 unfold reqV at *
 go_enter Tryz.func3,Tryz.ntmps3
 go_wp2_with fail
 rw[←hV]
 clear hV
 refine HX0.mono ?_
 rintro _ w1 ⟨⟨q1,c1,rfl⟩,hb1⟩
 clear HX0
 obtain⟨hB0,hB1⟩:=HA.out w1 hb1
 obtain⟨x0,x1,x2,x3,x4,x5,x6,x7,x8,x9,x10,x11,x12,x13,x14⟩:=po_cells hB0
 have l0:w.heap.size<w1.heap.size:=hB0.lt
 obtain⟨y0,y1,y2,y3,y4,y5,y6⟩:=hB1.cells
 have l1:w.heap.size+1<w1.heap.size:=hB1.lt
 clear hB0 hB1
 go_wp2_with fail
 refine(HEX _ hb1).mono ?_
 rintro _ w2 ⟨⟨q2,c2,rfl,ha2⟩,hb2'⟩
 have hb2:Below V.heap.size V w2:=kqt hb1 hb2'
 have HE2:Hid (AK0 w2 (poE p) q2 c2):=ha2
 clear ha2 HEX hb2'
 clear x0 x1 x2 x3 x4 x5 x6 x7 x8 x9 x10 x11 x12 x13 x14 l0 y0 y1 y2 y3 y4 y5 y6 l1
 obtain⟨hB0,hB1⟩:=HA.out w2 hb2
 obtain⟨x0,x1,x2,x3,x4,x5,x6,x7,x8,x9,x10,x11,x12,x13,x14⟩:=po_cells hB0
 have l0:w.heap.size<w2.heap.size:=hB0.lt
 clear hB0 hB1
 go_wp2_with fail
 refine(HST _ (HEA.out _ hb2).el).mono ?_
 rintro _ w3 ⟨rfl,hb3'⟩
 have hb3:Below V.heap.size V w3:=kqt hb2 hb3'
 have HE3:Hid (AK0 w3 (poE p) q2 c2):=HE2.out.up hb3'
 clear HST hb3' HE2
 clear x0 x1 x2 x3 x4 x5 x6 x7 x8 x9 x10 x11 x12 x13 x14 l0
 obtain⟨hB0,hB1⟩:=HA.out w3 hb3
 obtain⟨y0,y1,y2,y3,y4,y5,y6⟩:=hB1.cells
 have l1:w.heap.size+1<w3.heap.size:=hB1.lt
 clear hB0 hB1
 go_wp2_with fail
 refine(HAK _ (HEA.out _ hb3).rq).mono ?_
 rintro _ w4 ⟨rfl,hb4'⟩
 have hb4:Below V.heap.size V w4:=kqt hb3 hb4'
 have HE4:Hid (AK0 w4 (poE p) q2 c2):=HE3.out.up hb4'
 clear HAK hb4' HE3
 clear y0 y1 y2 y3 y4 y5 y6 l1
 obtain⟨hB0,hB1⟩:=HA.out w4 hb4
 obtain⟨y0,y1,y2,y3,y4,y5,y6⟩:=hB1.cells
 have l1:w.heap.size+1<w4.heap.size:=hB1.lt
 clear hB0 hB1
 go_wp2_with fail
 refine(HVA _ q2 c2 (HEA.out _ hb4) (HLA.out _ _ _ HE4.out)).mono ?_
 rintro _ w5 ⟨⟨v,f,rfl,hans⟩,hb5'⟩
 have hb5:Below V.heap.size V w5:=kqt hb4 hb5'
 have HAN:Hid (∀W,Below w5.heap.size w5 W→Ans W (bindE (pvL es q p) fun b=>.ok (tN b)) v f):=fun W hW=>hans.up hW
 clear HVA HLA HE4 hb5' hans
 clear y0 y1 y2 y3 y4 y5 y6 l1
 obtain⟨hB0,hB1⟩:=HA.out w5 hb5
 obtain⟨x0,x1,x2,x3,x4,x5,x6,x7,x8,x9,x10,x11,x12,x13,x14⟩:=po_cells hB0
 have l0:w.heap.size<w5.heap.size:=hB0.lt
 obtain⟨y0,y1,y2,y3,y4,y5,y6⟩:=hB1.cells
 have l1:w.heap.size+1<w5.heap.size:=hB1.lt
 clear hB0 hB1
 go_wp2_with fail
 refine(HF1 _ (HEA.out _ hb5).el).mono ?_
 rintro _ w6 ⟨rfl,hb6'⟩
 have hb6:Below V.heap.size V w6:=kqt hb5 hb6'
 have hb5w6:Below w5.heap.size w5 w6:=hb6'
 clear HF1 hb6'
 clear x0 x1 x2 x3 x4 x5 x6 x7 x8 x9 x10 x11 x12 x13 x14 l0 y0 y1 y2 y3 y4 y5 y6 l1
 obtain⟨hB0,hB1⟩:=HA.out w6 hb6
 obtain⟨x0,x1,x2,x3,x4,x5,x6,x7,x8,x9,x10,x11,x12,x13,x14⟩:=po_cells hB0
 have l0:w.heap.size<w6.heap.size:=hB0.lt
 obtain⟨y0,y1,y2,y3,y4,y5,y6⟩:=hB1.cells
 have l1:w.heap.size+1<w6.heap.size:=hB1.lt
 clear hB0 hB1
 go_wp2_with fail
 refine(HF2 _ (HEA.out _ hb6).el).mono ?_
 rintro _ w7 ⟨rfl,hb7'⟩
 have hb7:Below V.heap.size V w7:=kqt hb6 hb7'
 have hb5w7:Below w5.heap.size w5 w7:=kqt hb5w6 hb7'
 clear HF2 hb7'
 clear x0 x1 x2 x3 x4 x5 x6 x7 x8 x9 x10 x11 x12 x13 x14 l0 y0 y1 y2 y3 y4 y5 y6 l1
 have HAF:Hid (Ans w7 (.ok (tN false)) v f):=by have:=HAN.out w7 hb5w7;rw[HPV.out]at this;exact this
 clear HAN HPV
 obtain⟨qv,cv,rfl,rfl,hva⟩:=HAF.out
 have HVV:Hid (VArg w7 (tN false) (tN false).length qv cv):=hva
 clear hva
 have HTR:=refTruth_any
 simp only[show ∀b,(tN b).length=1 from fun _=>rfl]at *
 go_wp2_with fail
 refine(HTR _ _).mono ?_
 rintro _ t1 ⟨⟨qt,ct,rfl,hvt⟩,ht1⟩
 have HSN:=sameO (a:=tN false) (n:=1) rfl cv ct t1 (HVV.out.nl.up ht1) hvt.nl (by omega)
 clear hvt HVV
 go_wp2_with fail
 refine HSN.mono ?_
 rintro _ t2 ⟨rfl,ht2⟩
 go_wp2
 go_ret
 exact⟨rfl,kqt hbV (kqt hb7 (kqt ht1 ht2))⟩
theorem pmeans_no3 (h0:pof p=0)(hl:(poE p).length≤200)(h5:¬ 5≤p.who.op)(h6:¬ 5≤p.what.op)(h7:stf es=0)(h8:askf q=0)(f1:fitC es p.who q.who=true)(f2:fitC es p.act q.act=true)(f3:fitC es p.what q.what=false):
 Calls Tryz.prog 3 #[.slice ps es.length cs,poV p pc cc,reqV q pq cq] w fun e w'=>e= .returned (.bool true)∧Below w.heap.size w w':=by
 obtain⟨V,hV⟩:∃V,V=(w.alloc (.cells (poC p pc cc) 29)).alloc (.cells #[.string q.who.t,.string q.who.i,.string q.act.t,.string q.act.i,.string q.what.t,.string q.what.i,.slice pq q.cx.length cq] 32):=⟨_,rfl⟩
 have hbV:Below w.heap.size w V:=by rw[hV];exact kqx
 have HA:Hid (∀W,Below V.heap.size V W→Blk W w.heap.size (poC p pc cc) 29∧QB W (w.heap.size+1) q pq cq):=fun W hW=>by
  have h1:Blk V w.heap.size (poC p pc cc) 29:=by rw[hV];exact(Blk.new w _ _ rfl).up kqx
  have h2:QB V (w.heap.size+1) q pq cq:=by rw[hV];exact⟨new_at (by simp)⟩
  exact⟨h1.up hW,h2.up hW⟩
 have HPA:Hid (∀W,Below V.heap.size V W→PoA W p pc cc):=fun W hW=>h.up (kqt hbV hW)
 have HEA:Hid (∀W,Below V.heap.size V W→EvArg W es ps q pq cq):=fun W hW=>ha.up (kqt hbV hW)
 have HX0:=pexpr_0 V
 have HEX:=fun W (hW:Below V.heap.size V W)=>expr_good (HPA.out W hW) h0 hl
 have HST:=fun W hl=>entCheck_any es ps cs W hl
 rw[eV_nil h7]at HST
 have HAK:=fun W hr=>ask_any q pq cq W hr
 rw[eV_nil h8]at HAK
 unfold reqV at HAK
 obtain⟨hpx,hpv⟩:=pol_val (es:=es) (q:=q) h0 hl (by omega) (by omega)
 have hR:valueL es q (poE p)=bindE (pvL es q p) fun b=>.ok (tN b):=by rw[valueL_ex hpx,if_pos h7,if_pos h8];exact hpv
 have HLA:Hid (∀W q2 c2,AK0 W (poE p) q2 c2→LArg W (poE p) (poE p).length q2 c2):=fun W q2 c2 k=>⟨rfl,k.nl,k.le,k.cm,poE_64 hN⟩
 have HVA:=fun W q2 c2 (hE:EvArg W es ps q pq cq) (hl:LArg W (poE p) (poE p).length q2 c2)=>evalue_arg cs W hE hl hR
 unfold reqV at HVA
 have HF1:=fun W hl=>sfits_any es ps cs p.who q.who W hl h.who.2 ha.rq.u0 h7
 have HF2:=fun W hl=>sfits_any es ps cs p.act q.act W hl h.act.2 ha.rq.u1 h7
 have HF3:=fun W hl=>sfits_any es ps cs p.what q.what W hl h.what.2 ha.rq.u2 h7
 unfold scvP at HF1 HF2 HF3
 obtain⟨n,hn⟩:∃n,n=(poE p).length:=⟨_,rfl⟩
 rw[←hn]at HEX HLA HVA
 rw[f1]at HF1
 rw[f2]at HF2
 rw[f3]at HF3
 have HPV:Hid (pvL es q p= .ok false):=pv_no (.inr (.inr f3))
 clear hpx hpv hR hn ha h hN h0 hl h7 h8 HPA f1 f2 f3
 unfold poC at hV
 unfold poV po0 at *
 unfold reqV at *
 go_enter Tryz.func3,Tryz.ntmps3
 go_wp2_with fail
 rw[←hV]
 clear hV
 refine HX0.mono ?_
 rintro _ w1 ⟨⟨q1,c1,rfl⟩,hb1⟩
 clear HX0
 obtain⟨hB0,hB1⟩:=HA.out w1 hb1
 obtain⟨x0,x1,x2,x3,x4,x5,x6,x7,x8,x9,x10,x11,x12,x13,x14⟩:=po_cells hB0
 have l0:w.heap.size<w1.heap.size:=hB0.lt
 obtain⟨y0,y1,y2,y3,y4,y5,y6⟩:=hB1.cells
 have l1:w.heap.size+1<w1.heap.size:=hB1.lt
 clear hB0 hB1
 go_wp2_with fail
 refine(HEX _ hb1).mono ?_
 rintro _ w2 ⟨⟨q2,c2,rfl,ha2⟩,hb2'⟩
 have hb2:Below V.heap.size V w2:=kqt hb1 hb2'
 have HE2:Hid (AK0 w2 (poE p) q2 c2):=ha2
 clear ha2 HEX hb2'
 clear x0 x1 x2 x3 x4 x5 x6 x7 x8 x9 x10 x11 x12 x13 x14 l0 y0 y1 y2 y3 y4 y5 y6 l1
 obtain⟨hB0,hB1⟩:=HA.out w2 hb2
 obtain⟨x0,x1,x2,x3,x4,x5,x6,x7,x8,x9,x10,x11,x12,x13,x14⟩:=po_cells hB0
 have l0:w.heap.size<w2.heap.size:=hB0.lt
 clear hB0 hB1
 go_wp2_with fail
 refine(HST _ (HEA.out _ hb2).el).mono ?_
 rintro _ w3 ⟨rfl,hb3'⟩
 have hb3:Below V.heap.size V w3:=kqt hb2 hb3'
 have HE3:Hid (AK0 w3 (poE p) q2 c2):=HE2.out.up hb3'
 clear HST hb3' HE2
 clear x0 x1 x2 x3 x4 x5 x6 x7 x8 x9 x10 x11 x12 x13 x14 l0
 obtain⟨hB0,hB1⟩:=HA.out w3 hb3
 obtain⟨y0,y1,y2,y3,y4,y5,y6⟩:=hB1.cells
 have l1:w.heap.size+1<w3.heap.size:=hB1.lt
 clear hB0 hB1
 go_wp2_with fail
 refine(HAK _ (HEA.out _ hb3).rq).mono ?_
 rintro _ w4 ⟨rfl,hb4'⟩
 have hb4:Below V.heap.size V w4:=kqt hb3 hb4'
 have HE4:Hid (AK0 w4 (poE p) q2 c2):=HE3.out.up hb4'
 clear HAK hb4' HE3
 clear y0 y1 y2 y3 y4 y5 y6 l1
 obtain⟨hB0,hB1⟩:=HA.out w4 hb4
 obtain⟨y0,y1,y2,y3,y4,y5,y6⟩:=hB1.cells
 have l1:w.heap.size+1<w4.heap.size:=hB1.lt
 clear hB0 hB1
 go_wp2_with fail
 refine(HVA _ q2 c2 (HEA.out _ hb4) (HLA.out _ _ _ HE4.out)).mono ?_
 rintro _ w5 ⟨⟨v,f,rfl,hans⟩,hb5'⟩
 have hb5:Below V.heap.size V w5:=kqt hb4 hb5'
 have HAN:Hid (∀W,Below w5.heap.size w5 W→Ans W (bindE (pvL es q p) fun b=>.ok (tN b)) v f):=fun W hW=>hans.up hW
 clear HVA HLA HE4 hb5' hans
 clear y0 y1 y2 y3 y4 y5 y6 l1
 obtain⟨hB0,hB1⟩:=HA.out w5 hb5
 obtain⟨x0,x1,x2,x3,x4,x5,x6,x7,x8,x9,x10,x11,x12,x13,x14⟩:=po_cells hB0
 have l0:w.heap.size<w5.heap.size:=hB0.lt
 obtain⟨y0,y1,y2,y3,y4,y5,y6⟩:=hB1.cells
 have l1:w.heap.size+1<w5.heap.size:=hB1.lt
 clear hB0 hB1
 go_wp2_with fail
 refine(HF1 _ (HEA.out _ hb5).el).mono ?_
 rintro _ w6 ⟨rfl,hb6'⟩
 have hb6:Below V.heap.size V w6:=kqt hb5 hb6'
 have hb5w6:Below w5.heap.size w5 w6:=hb6'
 clear HF1 hb6'
 clear x0 x1 x2 x3 x4 x5 x6 x7 x8 x9 x10 x11 x12 x13 x14 l0 y0 y1 y2 y3 y4 y5 y6 l1
 obtain⟨hB0,hB1⟩:=HA.out w6 hb6
 obtain⟨x0,x1,x2,x3,x4,x5,x6,x7,x8,x9,x10,x11,x12,x13,x14⟩:=po_cells hB0
 have l0:w.heap.size<w6.heap.size:=hB0.lt
 obtain⟨y0,y1,y2,y3,y4,y5,y6⟩:=hB1.cells
 have l1:w.heap.size+1<w6.heap.size:=hB1.lt
 clear hB0 hB1
 go_wp2_with fail
 refine(HF2 _ (HEA.out _ hb6).el).mono ?_
 rintro _ w7 ⟨rfl,hb7'⟩
 have hb7:Below V.heap.size V w7:=kqt hb6 hb7'
 have hb5w7:Below w5.heap.size w5 w7:=kqt hb5w6 hb7'
 clear HF2 hb7'
 clear x0 x1 x2 x3 x4 x5 x6 x7 x8 x9 x10 x11 x12 x13 x14 l0 y0 y1 y2 y3 y4 y5 y6 l1
 obtain⟨hB0,hB1⟩:=HA.out w7 hb7
 obtain⟨x0,x1,x2,x3,x4,x5,x6,x7,x8,x9,x10,x11,x12,x13,x14⟩:=po_cells hB0
 have l0:w.heap.size<w7.heap.size:=hB0.lt
 obtain⟨y0,y1,y2,y3,y4,y5,y6⟩:=hB1.cells
 have l1:w.heap.size+1<w7.heap.size:=hB1.lt
 clear hB0 hB1
 go_wp2_with fail
 refine(HF3 _ (HEA.out _ hb7).el).mono ?_
 rintro _ w8 ⟨rfl,hb8'⟩
 have hb8:Below V.heap.size V w8:=kqt hb7 hb8'
 have hb5w8:Below w5.heap.size w5 w8:=kqt hb5w7 hb8'
 clear HF3 hb8'
 clear x0 x1 x2 x3 x4 x5 x6 x7 x8 x9 x10 x11 x12 x13 x14 l0 y0 y1 y2 y3 y4 y5 y6 l1
 have HAF:Hid (Ans w8 (.ok (tN false)) v f):=by have:=HAN.out w8 hb5w8;rw[HPV.out]at this;exact this
 clear HAN HPV
 obtain⟨qv,cv,rfl,rfl,hva⟩:=HAF.out
 have HVV:Hid (VArg w8 (tN false) (tN false).length qv cv):=hva
 clear hva
 have HTR:=refTruth_any
 simp only[show ∀b,(tN b).length=1 from fun _=>rfl]at *
 go_wp2_with fail
 refine(HTR _ _).mono ?_
 rintro _ t1 ⟨⟨qt,ct,rfl,hvt⟩,ht1⟩
 have HSN:=sameO (a:=tN false) (n:=1) rfl cv ct t1 (HVV.out.nl.up ht1) hvt.nl (by omega)
 clear hvt HVV
 go_wp2_with fail
 refine HSN.mono ?_
 rintro _ t2 ⟨rfl,ht2⟩
 go_wp2
 go_ret
 exact⟨rfl,kqt hbV (kqt hb8 (kqt ht1 ht2))⟩
end
end Go.Proofs.YtpmkpfdhanmhiaaGreatDoor
