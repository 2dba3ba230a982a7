import Derived.Test.YtpmkpfdhanmhiaaGreatDoorP36
set_option linter.unusedVariables false
set_option maxHeartbeats 12000000
namespace Go.Proofs.YtpmkpfdhanmhiaaGreatDoor
open Go.RowKit
set_option linter.unusedSimpArgs false
set_option linter.unusedSectionVars false
set_option maxRecDepth 100000
section
variable (es:List En) (ps:Option Addr) (cs:Nat) (p:Po) (pc:Option Addr) (cc:Nat) (q:Rq) (pq:Option Addr) (cq:Nat) (w:World) (ha:EvArg w es ps q pq cq) (h:PoA w p pc cc) (hN:∀c∈p.cs,∀y∈c.ex,n64 y)
include ha h hN
theorem pmeans_yes (h0:pof p=0)(hl:(poE p).length≤200)(h5:¬ 5≤p.who.op)(h6:¬ 5≤p.what.op)(h7:stf es=0)(h8:askf q=0)(f1:fitC es p.who q.who=true)(f2:fitC es p.act q.act=true)(f3:fitC es p.what q.what=true):
 Calls Tryz.prog 3 #[.slice ps es.length cs,poV p pc cc,reqV q pq cq] w fun e w'=>e= .returned (.bool true)∧Below w.heap.size w w':=by
 obtain⟨V,hV⟩:∃V,V=(w.alloc (.cells (poC p pc cc) 29)).alloc (.cells #[.string q.who.t,.string q.who.i,.string q.act.t,.string q.act.i,.string q.what.t,.string q.what.i,.slice pq q.cx.length cq] 32):=⟨_,rfl⟩
 have hbV:Below w.heap.size w V:=by rw[hV];exact kqx
 have HA:Hid (∀W,Below V.heap.size V W→Blk W w.heap.size (poC p pc cc) 29∧QB W (w.heap.size+1) q pq cq):=fun W hW=>by
  have h1:Blk V w.heap.size (poC p pc cc) 29:=by rw[hV];exact(Blk.new w _ _ rfl).up kqx
  have h2:QB V (w.heap.size+1) q pq cq:=by rw[hV];exact⟨new_at (by simp)⟩
  exact⟨h1.up hW,h2.up hW⟩
 have HPA:Hid (∀W,Below V.heap.size V W→PoA W p pc cc):=fun W hW=>h.up (kqt hbV hW)
 have HEA:Hid (∀W,Below V.heap.size V W→EvArg W es ps q pq cq):=fun W hW=>ha.up (kqt hbV hW)
 have HX0:=pexpr_0 V
 have HEX:=fun W (hW:Below V.heap.size V W)=>expr_good (HPA.out W hW) h0 hl
 have HST:=fun W hl=>entCheck_any es ps cs W hl
 rw[eV_nil h7]at HST
 have HAK:=fun W hr=>ask_any q pq cq W hr
 rw[eV_nil h8]at HAK
 unfold reqV at HAK
 obtain⟨hpx,hpv⟩:=pol_val (es:=es) (q:=q) h0 hl (by omega) (by omega)
 have hR:valueL es q (poE p)=bindE (pvL es q p) fun b=>.ok (tN b):=by rw[valueL_ex hpx,if_pos h7,if_pos h8];exact hpv
 have HLA:Hid (∀W q2 c2,AK0 W (poE p) q2 c2→LArg W (poE p) (poE p).length q2 c2):=fun W q2 c2 k=>⟨rfl,k.nl,k.le,k.cm,poE_64 hN⟩
 have HVA:=fun W q2 c2 (hE:EvArg W es ps q pq cq) (hl:LArg W (poE p) (poE p).length q2 c2)=>evalue_arg cs W hE hl hR
 unfold reqV at HVA
 have HF1:=fun W hl=>sfits_any es ps cs p.who q.who W hl h.who.2 ha.rq.u0 h7
 have HF2:=fun W hl=>sfits_any es ps cs p.act q.act W hl h.act.2 ha.rq.u1 h7
 have HF3:=fun W hl=>sfits_any es ps cs p.what q.what W hl h.what.2 ha.rq.u2 h7
 unfold scvP at HF1 HF2 HF3
 obtain⟨n,hn⟩:∃n,n=(poE p).length:=⟨_,rfl⟩
 rw[←hn]at HEX HLA HVA
 rw[f1]at HF1
 rw[f2]at HF2
 rw[f3]at HF3
 have HPV:Hid (pvL es q p=allC ((p.cs.drop 0).map (cvE es q))):=pv_yes f1 f2 f3
 obtain⟨_,_,_,_,hl4,hcs⟩:=pof_ways h0
 have HCV:Hid (∀k (hk:k<p.cs.length),valueL es q p.cs[k].ex=ev0 es q p.cs[k].ex∧N64 p.cs[k].ex∧(p.cs.drop k).map (cvE es q)=cvE es q p.cs[k]::(p.cs.drop (k+1)).map (cvE es q)):=fun k hk=>by
  have hx:=(cdf_zero (csf_zero hcs _ (List.getElem_mem hk))).1
  exact⟨by rw[valueL_ex hx,if_pos h7,if_pos h8],hN _ (List.getElem_mem hk),drop_map hk⟩
 have HCD:Hid (∀W,Below V.heap.size V W→CdL W pc p.cs):=fun W hW=>(HPA.out W hW).cl
 have hl4':(p.cs.length:Int)≤4:=by omega
 clear hpx hpv hR hn ha h hN h0 hl h7 h8 HPA f1 f2 f3 hcs hl4
 unfold poC at hV
 unfold poV po0 at *
 unfold reqV at *
 go_enter Tryz.func3,Tryz.ntmps3
 go_wp2_with fail
 rw[←hV]
 clear hV
 refine HX0.mono ?_
 rintro _ w1 ⟨⟨q1,c1,rfl⟩,hb1⟩
 clear HX0
 obtain⟨hB0,hB1⟩:=HA.out w1 hb1
 obtain⟨x0,x1,x2,x3,x4,x5,x6,x7,x8,x9,x10,x11,x12,x13,x14⟩:=po_cells hB0
 have l0:w.heap.size<w1.heap.size:=hB0.lt
 obtain⟨y0,y1,y2,y3,y4,y5,y6⟩:=hB1.cells
 have l1:w.heap.size+1<w1.heap.size:=hB1.lt
 clear hB0 hB1
 go_wp2_with fail
 refine(HEX _ hb1).mono ?_
 rintro _ w2 ⟨⟨q2,c2,rfl,ha2⟩,hb2'⟩
 have hb2:Below V.heap.size V w2:=kqt hb1 hb2'
 have HE2:Hid (AK0 w2 (poE p) q2 c2):=ha2
 clear ha2 HEX hb2'
 clear x0 x1 x2 x3 x4 x5 x6 x7 x8 x9 x10 x11 x12 x13 x14 l0 y0 y1 y2 y3 y4 y5 y6 l1
 obtain⟨hB0,hB1⟩:=HA.out w2 hb2
 obtain⟨x0,x1,x2,x3,x4,x5,x6,x7,x8,x9,x10,x11,x12,x13,x14⟩:=po_cells hB0
 have l0:w.heap.size<w2.heap.size:=hB0.lt
 clear hB0 hB1
 go_wp2_with fail
 refine(HST _ (HEA.out _ hb2).el).mono ?_
 rintro _ w3 ⟨rfl,hb3'⟩
 have hb3:Below V.heap.size V w3:=kqt hb2 hb3'
 have HE3:Hid (AK0 w3 (poE p) q2 c2):=HE2.out.up hb3'
 clear HST hb3' HE2
 clear x0 x1 x2 x3 x4 x5 x6 x7 x8 x9 x10 x11 x12 x13 x14 l0
 obtain⟨hB0,hB1⟩:=HA.out w3 hb3
 obtain⟨y0,y1,y2,y3,y4,y5,y6⟩:=hB1.cells
 have l1:w.heap.size+1<w3.heap.size:=hB1.lt
 clear hB0 hB1
 go_wp2_with fail
 refine(HAK _ (HEA.out _ hb3).rq).mono ?_
 rintro _ w4 ⟨rfl,hb4'⟩
 have hb4:Below V.heap.size V w4:=kqt hb3 hb4'
 have HE4:Hid (AK0 w4 (poE p) q2 c2):=HE3.out.up hb4'
 clear HAK hb4' HE3
 clear y0 y1 y2 y3 y4 y5 y6 l1
 obtain⟨hB0,hB1⟩:=HA.out w4 hb4
 obtain⟨y0,y1,y2,y3,y4,y5,y6⟩:=hB1.cells
 have l1:w.heap.size+1<w4.heap.size:=hB1.lt
 clear hB0 hB1
 go_wp2_with fail
 refine(HVA _ q2 c2 (HEA.out _ hb4) (HLA.out _ _ _ HE4.out)).mono ?_
 rintro _ w5 ⟨⟨v,f,rfl,hans⟩,hb5'⟩
 have hb5:Below V.heap.size V w5:=kqt hb4 hb5'
 have HAN:Hid (∀W,Below w5.heap.size w5 W→Ans W (bindE (pvL es q p) fun b=>.ok (tN b)) v f):=fun W hW=>hans.up hW
 clear HVA HLA HE4 hb5' hans
 clear y0 y1 y2 y3 y4 y5 y6 l1
 obtain⟨hB0,hB1⟩:=HA.out w5 hb5
 obtain⟨x0,x1,x2,x3,x4,x5,x6,x7,x8,x9,x10,x11,x12,x13,x14⟩:=po_cells hB0
 have l0:w.heap.size<w5.heap.size:=hB0.lt
 obtain⟨y0,y1,y2,y3,y4,y5,y6⟩:=hB1.cells
 have l1:w.heap.size+1<w5.heap.size:=hB1.lt
 clear hB0 hB1
 go_wp2_with fail
 refine(HF1 _ (HEA.out _ hb5).el).mono ?_
 rintro _ w6 ⟨rfl,hb6'⟩
 have hb6:Below V.heap.size V w6:=kqt hb5 hb6'
 have hb5w6:Below w5.heap.size w5 w6:=hb6'
 clear HF1 hb6'
 clear x0 x1 x2 x3 x4 x5 x6 x7 x8 x9 x10 x11 x12 x13 x14 l0 y0 y1 y2 y3 y4 y5 y6 l1
 obtain⟨hB0,hB1⟩:=HA.out w6 hb6
 obtain⟨x0,x1,x2,x3,x4,x5,x6,x7,x8,x9,x10,x11,x12,x13,x14⟩:=po_cells hB0
 have l0:w.heap.size<w6.heap.size:=hB0.lt
 obtain⟨y0,y1,y2,y3,y4,y5,y6⟩:=hB1.cells
 have l1:w.heap.size+1<w6.heap.size:=hB1.lt
 clear hB0 hB1
 go_wp2_with fail
 refine(HF2 _ (HEA.out _ hb6).el).mono ?_
 rintro _ w7 ⟨rfl,hb7'⟩
 have hb7:Below V.heap.size V w7:=kqt hb6 hb7'
 have hb5w7:Below w5.heap.size w5 w7:=kqt hb5w6 hb7'
 clear HF2 hb7'
 clear x0 x1 x2 x3 x4 x5 x6 x7 x8 x9 x10 x11 x12 x13 x14 l0 y0 y1 y2 y3 y4 y5 y6 l1
 obtain⟨hB0,hB1⟩:=HA.out w7 hb7
 obtain⟨x0,x1,x2,x3,x4,x5,x6,x7,x8,x9,x10,x11,x12,x13,x14⟩:=po_cells hB0
 have l0:w.heap.size<w7.heap.size:=hB0.lt
 obtain⟨y0,y1,y2,y3,y4,y5,y6⟩:=hB1.cells
 have l1:w.heap.size+1<w7.heap.size:=hB1.lt
 clear hB0 hB1
 go_wp2_with fail
 refine(HF3 _ (HEA.out _ hb7).el).mono ?_
 rintro _ w8 ⟨rfl,hb8'⟩
 have hb8:Below V.heap.size V w8:=kqt hb7 hb8'
 have hb5w8:Below w5.heap.size w5 w8:=kqt hb5w7 hb8'
 clear HF3 hb8'
 clear x0 x1 x2 x3 x4 x5 x6 x7 x8 x9 x10 x11 x12 x13 x14 l0 y0 y1 y2 y3 y4 y5 y6 l1
 have HAN8:Hid (∀W,Below w8.heap.size w8 W→Ans W (bindE (pvL es q p) fun b=>.ok (tN b)) v f):=fun W hW=>HAN.out W (kqt hb5w8 hW)
 clear HAN
 have HSS:Hid (∀w',Below w8.heap.size w8 w'→w'.cell? ⟨w.heap.size,14,none⟩=some (.slice pc p.cs.length cc)∧w'.cell? ⟨w.heap.size+1,0,none⟩=some (.string q.who.t)∧w'.cell? ⟨w.heap.size+1,1,none⟩=some (.string q.who.i)∧w'.cell? ⟨w.heap.size+1,2,none⟩=some (.string q.act.t)∧w'.cell? ⟨w.heap.size+1,3,none⟩=some (.string q.act.i)∧w'.cell? ⟨w.heap.size+1,4,none⟩=some (.string q.what.t)∧w'.cell? ⟨w.heap.size+1,5,none⟩=some (.string q.what.i)∧w'.cell? ⟨w.heap.size+1,6,none⟩=some (.slice pq q.cx.length cq)):=fun w' hW=>by
  obtain⟨hB0,hB1⟩:=HA.out w' (kqt hb8 hW)
  exact⟨(po_cells hB0).2.2.2.2.2.2.2.2.2.2.2.2.2.2,hB1.cells⟩
 go_wp2
 go_loopw [13,14] (fun wv i wr=>∃(k:Nat),k≤p.cs.length∧i= .int .i64 k∧wv= .bool true∧Below w8.heap.size w8 wr∧Hid (pvL es q p=allC ((p.cs.drop k).map (cvE es q)))) (fun _ i _=>p.cs.length-(intOf i).toNat)
 case atStart=>exact⟨0,Nat.zero_le _,rfl,rfl,Below.refl _ _,HPV⟩
 case round=>
  obtain⟨k,hk,rfl,rfl,hbr,HP⟩:=hrel
  have hbrV:Below V.heap.size V wr:=kqt hb8 hbr
  obtain⟨z14,z0,z1,z2,z3,z4,z5,z6⟩:=HSS.out wr hbr
  by_cases hlt:k<p.cs.length
  · have i1:(k:Int)<(p.cs.length:Int):=by omega
    have hk4:(k:Int)≤9223372036854775806:=by omega
    obtain⟨hval,hnum,hdrop⟩:=HCV.out k hlt
    obtain⟨bc,oc,pe,ce,rfl,hbc,hak,c0,c1⟩:=(HCD.out wr hbrV).at hlt
    have HDR:Hid (pvL es q p=allC (cvE es q p.cs[k]::(p.cs.drop (k+1)).map (cvE es q))):=by rw[←hdrop];exact HP
    obtain⟨un,hun⟩:∃un,un=p.cs[k].un:=⟨_,rfl⟩
    obtain⟨ne,hne⟩:∃n,n=p.cs[k].ex.length:=⟨_,rfl⟩
    rw[←hun]at c0
    rw[←hne]at c1
    have HLK:Hid (∀W,Below wr.heap.size wr W→LArg W p.cs[k].ex ne pe ce):=fun W hW=>⟨hne.symm,hak.nl.up hW,by rw[hne];exact hak.le,hak.cm,hnum⟩
    have HVK:=fun W (hE:EvArg W es ps q pq cq) (hl:LArg W p.cs[k].ex ne pe ce)=>evalue_arg cs W hE hl hval
    unfold reqV at HVK
    have HSK:Hid (∀w',Below wr.heap.size wr w'→(w'.cell? ⟨w.heap.size,14,none⟩=some (.slice (some ⟨bc,oc,none⟩) p.cs.length cc)∧w'.cell? ⟨w.heap.size+1,0,none⟩=some (.string q.who.t)∧w'.cell? ⟨w.heap.size+1,1,none⟩=some (.string q.who.i)∧w'.cell? ⟨w.heap.size+1,2,none⟩=some (.string q.act.t)∧w'.cell? ⟨w.heap.size+1,3,none⟩=some (.string q.act.i)∧w'.cell? ⟨w.heap.size+1,4,none⟩=some (.string q.what.t)∧w'.cell? ⟨w.heap.size+1,5,none⟩=some (.string q.what.i)∧w'.cell? ⟨w.heap.size+1,6,none⟩=some (.slice pq q.cx.length cq))∧w'.cell? ⟨bc,oc+k*2,none⟩=some (.bool un)∧w'.cell? ⟨bc,oc+k*2+1,none⟩=some (.slice pe ne ce)):=fun w' hW=>⟨HSS.out w' (kqt hbr hW),(hW.cell (p:=⟨bc,oc+k*2,none⟩) hbc).trans c0,(hW.cell (p:=⟨bc,oc+k*2+1,none⟩) hbc).trans c1⟩
    obtain⟨C,hC⟩:∃C,C=p.cs[k]:=⟨_,rfl⟩
    have HUN:Hid (un=C.un):=by show _=_;rw[hC,hun]
    rw[←hC]at HLK HVK HDR
    clear hC hun hne hval hnum hdrop hak HP
    go_wp2_with fail
    go_region_held (fun w'=>(w'.cell? ⟨w.heap.size,14,none⟩=some (.slice (some ⟨bc,oc,none⟩) p.cs.length cc)∧w'.cell? ⟨w.heap.size+1,0,none⟩=some (.string q.who.t)∧w'.cell? ⟨w.heap.size+1,1,none⟩=some (.string q.who.i)∧w'.cell? ⟨w.heap.size+1,2,none⟩=some (.string q.act.t)∧w'.cell? ⟨w.heap.size+1,3,none⟩=some (.string q.act.i)∧w'.cell? ⟨w.heap.size+1,4,none⟩=some (.string q.what.t)∧w'.cell? ⟨w.heap.size+1,5,none⟩=some (.string q.what.i)∧w'.cell? ⟨w.heap.size+1,6,none⟩=some (.slice pq q.cx.length cq))∧w'.cell? ⟨bc,oc+k*2,none⟩=some (.bool un)∧w'.cell? ⟨bc,oc+k*2+1,none⟩=some (.slice pe ne ce)) (first | exact HSK.out _ hb9r | exact HSK.out _ kqx) (first
     | (go_at_call 7
        refine(HVK _ (HEA.out _ (kqt hbrV kqx)) (HLK.out _ kqx)).mono ?_
        rintro _ w9 ⟨⟨vk,fk,rfl,hans⟩,hb9'⟩
        have hb9r:Below wr.heap.size wr w9:=kqt kqx hb9'))
    all_goals
     have HK9:Hid (Ans w9 (ev0 es q C.ex) vk fk):=hans
     clear hans HVK HLK
     obtain⟨Rk,hRk⟩:∃R,R=ev0 es q C.ex:=⟨_,rfl⟩
     have HRK:Hid (ev0 es q C.ex=Rk):=hRk.symm
     rw[←hRk]at HK9
     clear hRk
     cases Rk with
     | error m=>
       obtain⟨rfl,rfl⟩:=HK9.out
       obtain⟨m2,hm2⟩:=cv_err HRK.out
       have HAE:Ans w9 (.error m2) v f:=by have:=HAN8.out w9 (kqt hbr hb9r);rw[HDR.out,hm2]at this;exact this
       obtain⟨rfl,rfl⟩:=HAE
       clear HAN8 HDR HSK HSS HCV HCD HPV hm2 HRK HK9
       go_wp2
       go_ret
       exact⟨rfl,kqt hbV (kqt hbrV hb9r)⟩
     | ok a=>
       obtain⟨qk,ck,rfl,rfl,hva⟩:=HK9.out
       clear HK9
       obtain⟨x,r,bk,ok,rfl,rfl,hbk,k0,k1,_,_,_,hn1⟩:=hva.head
       obtain⟨nk,hnk⟩:∃n,n=(x::r).length:=⟨_,rfl⟩
       have i3:(1:Int)≤(nk:Int):=by omega
       rw[←hnk]
       obtain⟨⟨z14,_⟩,c0',_⟩:=HSK.out w9 hb9r
       have lB:bk<w9.heap.size:=hbk
       by_cases hx:x.op=1
       · have hcv:cvE es q C= .ok (!((x.n == 1) == C.un)):=cv_bool HRK.out hx
         rw[←HUN.out]at hcv
         rw[hx]at k0
         by_cases hu:((x.n == 1) == un)=true
         · rw[hu]at hcv
           have HPF:Hid (pvL es q p= .ok false):=by rw[show pvL es q p=_ from HDR.out,hcv];rfl
           clear hcv HDR HRK hva hx hnk hn1 HSK HSS HCV HCD HPV
           have HAF:Ans w9 (.ok (tN false)) v f:=by have:=HAN8.out w9 (kqt hbr hb9r);rw[HPF.out]at this;exact this
           obtain⟨qv,cv,rfl,rfl,hv2⟩:=HAF
           have HVV:Hid (VArg w9 (tN false) (tN false).length qv cv):=hv2
           clear hv2 HAN8 HPF
           have HTR:=refTruth_any
           simp only[show ∀b,(tN b).length=1 from fun _=>rfl]at *
           go_wp2_with fail
           go_quiet (fail)
           have hbq:Below w9.heap.size w9 (w9.drewN nq):=⟨rfl,rfl,rfl,Nat.le_refl _,fun _ _=>rfl⟩
           go_wp2_with fail
           refine(HTR _ _).mono ?_
           rintro _ t1 ⟨⟨qt,ct,rfl,hvt⟩,ht1⟩
           have HSN:=sameO (a:=tN false) (n:=1) rfl cv ct t1 (HVV.out.nl.up (kqt hbq ht1)) hvt.nl (by omega)
           clear hvt HVV
           go_wp2_with fail
           refine HSN.mono ?_
           rintro _ t2 ⟨rfl,ht2⟩
           go_wp2
           go_ret
           exact⟨rfl,kqt hbV (kqt (kqt hbrV hb9r) (kqt hbq (kqt ht1 ht2)))⟩
         · have hu':((x.n == 1) == un)=false:=by simpa using hu
           rw[hu']at hcv
           have HPF:Hid (pvL es q p=allC ((p.cs.drop (k+1)).map (cvE es q))):=by rw[show pvL es q p=_ from HDR.out,hcv];rfl
           clear hcv HDR HRK hva hx hu hnk hn1 HSK HSS HCV HCD HPV HAN8
           go_wp2
           go_quiet (fail)
           go_wp2
           go_roundw
           case rel=>exact⟨k+1,by omega,by go_num,rfl,kqt hbr (kqt hb9r ⟨rfl,rfl,rfl,Nat.le_refl _,fun _ _=>rfl⟩),HPF⟩
           case measure=>simp[intOf];omega
       · obtain⟨m2,hm2⟩:=cv_type HRK.out (show opV (x::r)≠1 from hx)
         have b1:(x.op == 1)=false:=by simpa using hx
         have HAE:Ans w9 (.error m2) v f:=by have:=HAN8.out w9 (kqt hbr hb9r);rw[HDR.out,hm2]at this;exact this
         obtain⟨rfl,rfl⟩:=HAE
         clear HAN8 HDR HSK HSS HCV HCD HPV hm2 HRK hva hx hnk hn1
         go_wp2
         go_ret
         exact⟨rfl,kqt hbV (kqt hbrV hb9r)⟩
  · have i1:¬(k:Int)<(p.cs.length:Int):=by omega
    have HR:Hid (pvL es q p= .ok true):=by
     have:=HP.out
     rw[List.drop_of_length_le (by omega)]at this
     exact this
    have HAF:Hid (Ans wr (.ok (tN true)) v f):=by have:=HAN8.out wr hbr;rw[HR.out]at this;exact this
    clear HP HAN8 HR HCV HCD HSS
    obtain⟨qv,cv,rfl,rfl,hva⟩:=HAF.out
    have HVV:Hid (VArg wr (tN true) (tN true).length qv cv):=hva
    clear hva
    have HTR:=refTruth_any
    simp only[show ∀b,(tN b).length=1 from fun _=>rfl]at *
    go_wp2_with fail
    refine(HTR _ _).mono ?_
    rintro _ t1 ⟨⟨qt,ct,rfl,hvt⟩,ht1⟩
    have HSN:=sameO (a:=tN true) (n:=1) rfl cv ct t1 (HVV.out.nl.up ht1) hvt.nl (by omega)
    clear hvt HVV
    go_wp2_with fail
    refine HSN.mono ?_
    rintro _ t2 ⟨rfl,ht2⟩
    go_wp2
    go_ret
    exact⟨rfl,kqt hbV (kqt hbrV (kqt ht1 ht2))⟩
theorem pmeans_walk:
 Calls Tryz.prog 3 #[.slice ps es.length cs,poV p pc cc,reqV q pq cq] w fun e w'=>e= .returned (.bool true)∧Below w.heap.size w w':=by
 cases hR:exprL p with
 | error n=>exact pmeans_err es ps cs p pc cc q pq cq w ha h hN hR
 | ok e=>
   obtain⟨h0,hl,_⟩:=exprL_ok hR
   by_cases h5:5≤p.who.op
   · exact pmeans_who es ps cs p pc cc q pq cq w ha h hN h0 hl h5
   by_cases h6:5≤p.what.op
   · exact pmeans_what es ps cs p pc cc q pq cq w ha h hN h0 hl h5 h6
   by_cases h7:stf es=0
   · by_cases h8:askf q=0
     · cases f1:fitC es p.who q.who with
       | false=>exact pmeans_no1 es ps cs p pc cc q pq cq w ha h hN h0 hl h5 h6 h7 h8 f1
       | true=>
         cases f2:fitC es p.act q.act with
         | false=>exact pmeans_no2 es ps cs p pc cc q pq cq w ha h hN h0 hl h5 h6 h7 h8 f1 f2
         | true=>
           cases f3:fitC es p.what q.what with
           | false=>exact pmeans_no3 es ps cs p pc cc q pq cq w ha h hN h0 hl h5 h6 h7 h8 f1 f2 f3
           | true=>exact pmeans_yes es ps cs p pc cc q pq cq w ha h hN h0 hl h5 h6 h7 h8 f1 f2 f3
     · exact pmeans_ask es ps cs p pc cc q pq cq w ha h hN h0 hl h5 h6 h7 h8
   · exact pmeans_store es ps cs p pc cc q pq cq w ha h hN h0 hl h5 h6 h7
end
end Go.Proofs.YtpmkpfdhanmhiaaGreatDoor
