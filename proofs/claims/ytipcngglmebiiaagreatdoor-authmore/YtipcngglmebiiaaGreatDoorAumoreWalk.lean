import Derived.Test.YtipcngglmebiiaaGreatDoorA37
import Derived.Test.YtipcngglmebiiaaGreatDoorA26
import Derived.Test.YtipcngglmebiiaaGreatDoorA24
import Derived.Deep.RegionHeld
set_option linter.unusedVariables false
set_option maxHeartbeats 12000000
namespace Go.Proofs.YtipcngglmebiiaaGreatDoor
open Go.RowKit Go.Deep
set_option linter.unusedSimpArgs false
set_option maxRecDepth 100000
theorem aumore_walk (es:List En)(ps:Option Addr)(cs:Nat)(L:List Po)(pl:Option Addr)(cl:Nat)(q:Rq)(pq:Option Addr)(cq:Nat)(p:Po)(pc:Option Addr)(cc:Nat)(w:World)(ha:EvArg w es ps q pq cq)(hP:PArg w L L.length pl cl)(hp0:pl=none→cl=0)(hr:L.length*216≤140737488351232)(h:PoA w p pc cc)(h64:P64 p):
 Calls Tryz.prog 5 #[.slice ps es.length cs,.slice pl L.length cl,reqV q pq cq,poV p pc cc] w fun e w'=>e= .returned (.bool true)∧Below w.heap.size w w':=by
 obtain⟨V,hV⟩:∃V,V=(w.alloc (.cells #[.string q.who.t,.string q.who.i,.string q.act.t,.string q.act.i,.string q.what.t,.string q.what.i,.slice pq q.cx.length cq] 28)).alloc (.cells (poC p pc cc) 42):=⟨_,rfl⟩
 have hbV:Below w.heap.size w V:=by rw[hV];exact kqx
 have HA:Hid (∀W,Below V.heap.size V W→QB W w.heap.size q pq cq∧Blk W (w.heap.size+1) (poC p pc cc) 42):=fun W hW=>by
  have h1:QB V w.heap.size q pq cq:=by rw[hV];exact(QB.new w q pq cq).up kqx
  have h2:Blk V (w.heap.size+1) (poC p pc cc) 42:=by rw[hV];exact Blk.new _ _ _ (by simp)
  exact⟨h1.up hW,h2.up hW⟩
 have HEA:Hid (∀W,Below V.heap.size V W→EvArg W es ps q pq cq):=fun W hW=>ha.up (kqt hbV hW)
 have HPA:Hid (∀W,Below V.heap.size V W→PArg W L L.length pl cl):=fun W hW=>hP.up (kqt hbV hW)
 obtain⟨n,hn⟩:∃n,n=L.length:=⟨_,rfl⟩
 obtain⟨m,hm⟩:∃m,m=n+1:=⟨_,rfl⟩
 have HM:Hid (m=n+1):=hm
 clear hm
 have hPM:=permitted_any V (HEA.out V (Below.refl _ _)).er
 have HK:=fun L' n' pl cl W ha hp=>ask_pols es ps cs L' n' pl cl q pq cq W ha hp
 obtain⟨xs,hxs,hxp⟩:=hP.pl.parts
 have HXL:Hid (xs.length=n):=by show _=_;rw[hn,←hxs];simp
 have HXC:Hid (∀w',Below V.heap.size V w'→PAC w' pl xs):=fun w' hb=>PAC.up hxp.lies (kqt hbV hb)
 have HXP:Hid (∀x∈xs,∀w',Below V.heap.size V w'→PoA w' x.p x.q x.c):=fun x hx w' hb=>(hxp.parts x hx).up (kqt hbV hb)
 have HXS:Hid (xs.map (·.p)=L):=hxs
 have HX64:Hid (∀x∈L++[p],P64 x):=fun x hx=>by
  rcases List.mem_append.1 hx with hx | hx
  · exact hP.num x hx
  · rw[List.mem_singleton.1 hx];exact h64
 have hcm:=hP.cm
 unfold maxLen at hcm
 have hle:=hP.le
 rw[←hn]at HPA hr hle ⊢
 have HN:Hid (n=L.length):=hn
 have HXQ:Hid (∀W,Below V.heap.size V W→PoA W p pc cc):=fun W hW=>h.up (kqt hbV hW)
 clear hxs hxp hn ha hP h h64
 unfold reqV at *
 unfold poV
 unfold poC at hV
 go_enter Tryz.func5,Tryz.ntmps5
 go_wp2_with fail
 rw[←hV]
 clear hV
 refine hPM.mono ?_
 rintro _ G ⟨rfl,hbVG⟩
 clear hPM
 obtain⟨x,hx⟩:∃x,x=p:=⟨_,rfl⟩
 subst hx
 have HCX:∀(W:World) B,Blk W B (poC x pc cc) 42→Blk W B (poC x pc cc) 42:=fun _ _ h=>h
 have HS:Hid (∀w',Below V.heap.size V w'→w'.cell? ⟨w.heap.size+1,0,none⟩=some (.string x.nm)∧w'.cell? ⟨w.heap.size+1,1,none⟩=some (.bool x.fb)∧w'.cell? ⟨w.heap.size+1,2,none⟩=some (.int .i64 x.who.op)∧w'.cell? ⟨w.heap.size+1,3,none⟩=some (.string x.who.ty)∧w'.cell? ⟨w.heap.size+1,4,none⟩=some (.string x.who.u.t)∧w'.cell? ⟨w.heap.size+1,5,none⟩=some (.string x.who.u.i)∧w'.cell? ⟨w.heap.size+1,6,none⟩=some (.int .i64 x.act.op)∧w'.cell? ⟨w.heap.size+1,7,none⟩=some (.string x.act.ty)∧w'.cell? ⟨w.heap.size+1,8,none⟩=some (.string x.act.u.t)∧w'.cell? ⟨w.heap.size+1,9,none⟩=some (.string x.act.u.i)∧w'.cell? ⟨w.heap.size+1,10,none⟩=some (.int .i64 x.what.op)∧w'.cell? ⟨w.heap.size+1,11,none⟩=some (.string x.what.ty)∧w'.cell? ⟨w.heap.size+1,12,none⟩=some (.string x.what.u.t)∧w'.cell? ⟨w.heap.size+1,13,none⟩=some (.string x.what.u.i)∧w'.cell? ⟨w.heap.size+1,14,none⟩=some (.slice pc x.cs.length cc)):=fun w' hb=>po_cells (HA.out w' hb).2
 have hsG:V.heap.size≤G.heap.size:=hbVG.size
 obtain⟨Z0,hZ0⟩:∃Z0,Z0=G.drew:=⟨_,rfl⟩
 have hbVZ0:Below V.heap.size V Z0:=by rw[hZ0];exact kqt hbVG kqx
 have hsZ0:Z0.heap.size=G.heap.size:=by rw[hZ0];rfl
 go_wp2_with fail
 refine wp_region_held_drew (S:=fun w'=>w'.cell? ⟨w.heap.size+1,0,none⟩=some (.string x.nm)∧w'.cell? ⟨w.heap.size+1,1,none⟩=some (.bool x.fb)∧w'.cell? ⟨w.heap.size+1,2,none⟩=some (.int .i64 x.who.op)∧w'.cell? ⟨w.heap.size+1,3,none⟩=some (.string x.who.ty)∧w'.cell? ⟨w.heap.size+1,4,none⟩=some (.string x.who.u.t)∧w'.cell? ⟨w.heap.size+1,5,none⟩=some (.string x.who.u.i)∧w'.cell? ⟨w.heap.size+1,6,none⟩=some (.int .i64 x.act.op)∧w'.cell? ⟨w.heap.size+1,7,none⟩=some (.string x.act.ty)∧w'.cell? ⟨w.heap.size+1,8,none⟩=some (.string x.act.u.t)∧w'.cell? ⟨w.heap.size+1,9,none⟩=some (.string x.act.u.i)∧w'.cell? ⟨w.heap.size+1,10,none⟩=some (.int .i64 x.what.op)∧w'.cell? ⟨w.heap.size+1,11,none⟩=some (.string x.what.ty)∧w'.cell? ⟨w.heap.size+1,12,none⟩=some (.string x.what.u.t)∧w'.cell? ⟨w.heap.size+1,13,none⟩=some (.string x.what.u.i)∧w'.cell? ⟨w.heap.size+1,14,none⟩=some (.slice pc x.cs.length cc)) (by kernel_rfl) (by rw[←hZ0];exact HS.out _ hbVZ0) (fun hHeld=>?_)
 rw[←hZ0]at hHeld ⊢
 clear hZ0
 refine wpAnyH_take (i:=1) (v:=?_) rfl (by kernel_rfl) (by kernel_rfl) (by kernel_rfl) (fun _ _ _ h=>h) (Or.inl ⟨by rfl,?_⟩) (by assumption) ?_
 rotate_left
 · intro w hSw
   go_simp
   all_goals with_reducible rfl
 try simp only[Act.put,List.setIfInBounds_toArray,List.set_cons_zero,List.set_cons_succ]
 refine wpAnyH_take (i:=3) (v:=?_) rfl (by kernel_rfl) (by kernel_rfl) (by kernel_rfl) (fun _ _ _ h=>h) (Or.inl ⟨by rfl,?_⟩) (by assumption) ?_
 rotate_left
 · intro w hSw
   go_simp
   all_goals with_reducible rfl
 try simp only[Act.put,List.setIfInBounds_toArray,List.set_cons_zero,List.set_cons_succ]
 refine wpAnyH_ready (rs:=[0,4]) (by kernel_rfl) (by simp) ?_
 refine AllReadyH.cons rfl (fun K hK=>?_) (AllReadyH.cons rfl (fun K hK=>?_) (AllReadyH.nil))
 · go_simp
   obtain⟨Za,hZa⟩:∃Za,Za=Z0.alloc (.cells #[] 42):=⟨_,rfl⟩
   have hbZa:Below Z0.heap.size Z0 Za:=by rw[hZa];exact kqx
   have hbVZa:=kqt hbVZ0 hbZa
   have hsZa:Za.heap.size=Z0.heap.size+1:=by rw[hZa];simp
   have hrZa:Za.ownsRow G.heap.size 42 15 (.slice (some ⟨G.heap.size,0,none⟩) 0 0) ([]:List PA).length (plL []):=by have:=World.ownsRow_made (base:=G.heap.size) (e:=42) (size:=15) Z0 #[] 0 (by omega) (Nat.zero_le _) (by simp);rw[hZa];simp only[hsZ0,hsZ0]at this;exact this
   rw[←hZa]
   clear hZa
   refine hK.out _ _ (HS.out _ hbVZa) (fun hHeld=>?_)
   clear hK K
   try simp only[Act.put,List.setIfInBounds_toArray,List.set_cons_zero,List.set_cons_succ]
   refine wpAnyH_ready (rs:=[2,4]) (by kernel_rfl) (by simp) ?_
   refine AllReadyH.cons rfl (fun K hK=>?_) (AllReadyH.cons rfl (fun K hK=>?_) (AllReadyH.nil))
   · rw[if_pos (by rfl)]
     refine wp_append_pols Za (.tmp 18) (.tmp 19) rfl G.heap.size (.slice (some ⟨G.heap.size,0,none⟩) 0 0) [] rfl hrZa xs n HXL.out pl cl (HXC.out _ hbVZa) hp0 rfl (by have:=HXL.out;simp;omega) (by omega) ?_
     intro vZb Zb hrZb hgZb _
     rw[List.nil_append]at hrZb
     have hb5Zb:Below G.heap.size Za Zb:=grown_belowG hgZb (fun g hg=>(World.ownsRow.lt hrZa g hg).1) (by omega)
     have hbVZb:Below V.heap.size V Zb:=hbVZa.trans (hb5Zb.mono (by omega))
     have hsZb:Za.heap.size≤Zb.heap.size:=hgZb.size
     obtain⟨qZb,cZb,hvZb⟩:=ownP_slice hrZb
     subst hvZb
     refine hK.out _ _ (HS.out _ hbVZb) (fun hHeld=>?_)
     clear hK K
     try simp only[Act.put,List.setIfInBounds_toArray,List.set_cons_zero,List.set_cons_succ]
     refine wpAnyH_ready (rs:=[4]) (by kernel_rfl) (by simp) ?_
     refine AllReadyH.cons rfl (fun K hK=>?_) (AllReadyH.nil)
     go_simp
     obtain⟨Zc,hZc⟩:∃Zc,Zc=Zb.alloc (.cells #[.string x.nm,.bool x.fb,.int .i64 x.who.op,.string x.who.ty,.string x.who.u.t,.string x.who.u.i,.int .i64 x.act.op,.string x.act.ty,.string x.act.u.t,.string x.act.u.i,.int .i64 x.what.op,.string x.what.ty,.string x.what.u.t,.string x.what.u.i,.slice pc x.cs.length cc] 42):=⟨_,rfl⟩
     have hbZc:Below Zb.heap.size Zb Zc:=by rw[hZc];exact kqx
     have hbVZc:=kqt hbVZb hbZc
     have hsZc:Zc.heap.size=Zb.heap.size+1:=by rw[hZc];simp
     have hAZc:Blk Zc (Zb.heap.size) #[.string x.nm,.bool x.fb,.int .i64 x.who.op,.string x.who.ty,.string x.who.u.t,.string x.who.u.i,.int .i64 x.act.op,.string x.act.ty,.string x.act.u.t,.string x.act.u.i,.int .i64 x.what.op,.string x.what.ty,.string x.what.u.t,.string x.what.u.i,.slice pc x.cs.length cc] 42:=by rw[hZc];exact Blk.new Zb _ _ (by omega)
     have hrZc:=ownP_agree (w':=Zc) hrZb (fun g _ hl=>hbZc.block g hl)
     rw[←hZc]
     clear hZc
     refine hK.out _ _ (HS.out _ hbVZc) (fun hHeld=>?_)
     clear hK K
     try simp only[Act.put,List.setIfInBounds_toArray,List.set_cons_zero,List.set_cons_succ]
     refine wpAnyH_ready (rs:=[5]) (by kernel_rfl) (by simp) ?_
     refine AllReadyH.cons rfl (fun K hK=>?_) (AllReadyH.nil)
     rw[if_pos (by rfl)]
     refine wp_append_pols Zc (.tmp 20) (.tmp 22) rfl G.heap.size _ xs rfl hrZc [⟨x,pc,cc⟩] 1 rfl (some ⟨Zb.heap.size,0,none⟩) 1 (pac_one (x:=⟨x,pc,cc⟩) (HCX Zc _ hAZc)) (fun h=>by cases h) rfl (by have:=HXL.out;simp;omega) (by omega) ?_
     intro vZd Zd hrZd hgZd _
     have hb5Zd:Below G.heap.size Zc Zd:=grown_belowG hgZd (fun g hg=>(World.ownsRow.lt hrZc g hg).1) (by omega)
     have hbVZd:Below V.heap.size V Zd:=hbVZc.trans (hb5Zd.mono (by omega))
     have hsZd:Zc.heap.size≤Zd.heap.size:=hgZd.size
     have HLEN:Hid ((xs++[(⟨x,pc,cc⟩:PA)]).length=m):=by show _=_;rw[List.length_append,HXL.out,HM.out];rfl
     rw[HLEN.out]at hrZd
     obtain⟨qZd,cZd,hvZd⟩:=ownP_slice hrZd
     subst hvZd
     refine hK.out _ _ (HS.out _ hbVZd) (fun hHeld=>?_)
     clear hK K
     try simp only[Act.put,List.setIfInBounds_toArray,List.set_cons_zero,List.set_cons_succ]
     refine wpAnyH_take (i:=6) (v:=?_) rfl (by kernel_rfl) (by kernel_rfl) (by kernel_rfl) (fun _ _ _ h=>h) (Or.inl ⟨by rfl,?_⟩) (by assumption) ?_
     rotate_left
     · intro w hSw
       go_simp
       all_goals with_reducible rfl
     try simp only[Act.put,List.setIfInBounds_toArray,List.set_cons_zero,List.set_cons_succ]
     refine wpAnyH_done (by kernel_rfl) ?_ _
     clear hHeld
     rw[←HLEN.out]at hrZd
     obtain⟨qe,ce,he1,hPL,hle9,hcm9⟩:=pols_of_row hrZd (fun y hy=>by
      rcases List.mem_append.1 hy with hy | hy
      · exact HXP.out y hy Zd hbVZd
      · rw[List.mem_singleton.1 hy];exact HXQ.out Zd hbVZd)
     injection he1 with e1 _ e2
     subst e1 e2
     rw[List.map_append,HXS.out,List.map_singleton]at hPL
     rw[HLEN.out]at hle9
     have HPM:Hid (PArg Zd (L++[x]) m qZd cZd):=⟨by rw[List.length_append,HN.out.symm,HM.out];rfl,hPL,hle9,hcm9,HX64.out⟩
     clear hPL hle9 hcm9 HLEN
     clear HXL HM
     obtain⟨y0,y1,y2,y3,y4,y5,y6⟩:=(HA.out Zd hbVZd).1.cells
     have lq:w.heap.size<Zd.heap.size:=(HA.out Zd hbVZd).1.lt
     go_wp2_with fail
     refine(HK L n pl cl _ (HEA.out _ hbVZd) (HPA.out _ hbVZd)).mono ?_
     rintro _ w3 ⟨hr3,hb3'⟩
     have hb3:Below V.heap.size V w3:=kqt hbVZd hb3'
     obtain⟨a1,p11,n11,c11,p12,n12,c12,rfl,han1⟩:=hr3.any
     have HN1:Hid (auE es q L=0→a1=auAl (auV es q) L):=fun h=>(han1 h).al
     clear han1 hr3 y0 y1 y2 y3 y4 y5 y6 lq HS HXC HXP HXS HX64 HXQ HN
     obtain⟨y0,y1,y2,y3,y4,y5,y6⟩:=(HA.out w3 hb3).1.cells
     have lq:w.heap.size<w3.heap.size:=(HA.out w3 hb3).1.lt
     obtain⟨W3,hW3⟩:∃W,W=w3.alloc (.cells #[.bool a1,.slice p11 n11 c11,.slice p12 n12 c12] 33):=⟨_,rfl⟩
     have hb33:Below w3.heap.size w3 W3:=by rw[hW3];exact kqx
     have hbW3:Below V.heap.size V W3:=kqt hb3 hb33
     have HB1:Hid (Blk W3 w3.heap.size #[.bool a1,.slice p11 n11 c11,.slice p12 n12 c12] 33):=by rw[hW3];exact Blk.new _ _ _ rfl
     have HPW:=HPM.out.up (kqt hb3' hb33)
     go_wp2_with fail
     rw[←hW3]
     clear hW3
     refine(HK (L++[x]) m _ _ _ (HEA.out _ hbW3) HPW).mono ?_
     rintro _ w4 ⟨hr4,hb4'⟩
     have hb4:Below V.heap.size V w4:=kqt hbW3 hb4'
     obtain⟨a2,p21,n21,c21,p22,n22,c22,rfl,han2⟩:=hr4.any
     have HN2:Hid (auE es q (L++[x])=0→a2=auAl (auV es q) (L++[x])):=fun h=>(han2 h).al
     clear han2 hr4 y0 y1 y2 y3 y4 y5 y6 lq HK HPM HPW
     have z1:w4.cell? ⟨w3.heap.size,0,none⟩=some (.bool a1):=(HB1.out.up hb4').cell 0
     have lz:w3.heap.size<w4.heap.size:=(HB1.out.up hb4').lt
     have x1:w4.cell? ⟨w.heap.size+1,1,none⟩=some (.bool x.fb):=(HA.out w4 hb4).2.cell 1
     have lx:w.heap.size+1<w4.heap.size:=(HA.out w4 hb4).2.lt
     by_cases h1:auE es q L=0
     · rw[eV_nil h1]
       by_cases h2:auE es q (L++[x])=0
       · rw[eV_nil h2]
         have hM:(x.fb=true→a2=true→a1=true)∧(x.fb=false→a1=true→a2=true):=by rw[HN1.out h1,HN2.out h2];exact auAl_more
         obtain⟨fb,hfb⟩:∃fb,fb=x.fb:=⟨_,rfl⟩
         rw[←hfb]at x1 hM
         clear hfb h1 h2 HN1 HN2
         cases fb<;>cases a1<;>cases a2
         all_goals first
          | (exfalso;revert hM;decide)
          | (go_wp2_with fail
             go_ret
             exact⟨rfl,kqt hbV (kqt hb4 kqx)⟩)
       · obtain⟨e2,he2⟩:=ev_nn h2
         rw[he2]
         clear h1 h2 HN1 HN2 he2
         go_wp2_with fail
         go_ret
         exact⟨rfl,kqt hbV (kqt hb4 kqx)⟩
     · obtain⟨e1,he1⟩:=ev_nn h1
       rw[he1]
       obtain⟨e2,he2⟩:∃e2,e2=eV (auE es q (L++[x])):=⟨_,rfl⟩
       rw[←he2]
       clear h1 HN1 HN2 he1 he2
       go_wp2_with fail
       go_ret
       exact⟨rfl,kqt hbV (kqt hb4 kqx)⟩
   · go_simp
     obtain⟨Zb,hZb⟩:∃Zb,Zb=Za.alloc (.cells #[.string x.nm,.bool x.fb,.int .i64 x.who.op,.string x.who.ty,.string x.who.u.t,.string x.who.u.i,.int .i64 x.act.op,.string x.act.ty,.string x.act.u.t,.string x.act.u.i,.int .i64 x.what.op,.string x.what.ty,.string x.what.u.t,.string x.what.u.i,.slice pc x.cs.length cc] 42):=⟨_,rfl⟩
     have hbZb:Below Za.heap.size Za Zb:=by rw[hZb];exact kqx
     have hbVZb:=kqt hbVZa hbZb
     have hsZb:Zb.heap.size=Za.heap.size+1:=by rw[hZb];simp
     have hAZb:Blk Zb (G.heap.size+1) #[.string x.nm,.bool x.fb,.int .i64 x.who.op,.string x.who.ty,.string x.who.u.t,.string x.who.u.i,.int .i64 x.act.op,.string x.act.ty,.string x.act.u.t,.string x.act.u.i,.int .i64 x.what.op,.string x.what.ty,.string x.what.u.t,.string x.what.u.i,.slice pc x.cs.length cc] 42:=by rw[hZb];exact Blk.new Za _ _ (by omega)
     have hrZb:=ownP_agree (w':=Zb) hrZa (fun g _ hl=>hbZb.block g hl)
     rw[←hZb]
     clear hZb
     refine hK.out _ _ (HS.out _ hbVZb) (fun hHeld=>?_)
     clear hK K
     try simp only[Act.put,List.setIfInBounds_toArray,List.set_cons_zero,List.set_cons_succ]
     refine wpAnyH_ready (rs:=[2]) (by kernel_rfl) (by simp) ?_
     refine AllReadyH.cons rfl (fun K hK=>?_) (AllReadyH.nil)
     rw[if_pos (by rfl)]
     refine wp_append_pols Zb (.tmp 18) (.tmp 19) rfl G.heap.size (.slice (some ⟨G.heap.size,0,none⟩) 0 0) [] rfl hrZb xs n HXL.out pl cl (HXC.out _ hbVZb) hp0 rfl (by have:=HXL.out;simp;omega) (by omega) ?_
     intro vZc Zc hrZc hgZc _
     rw[List.nil_append]at hrZc
     have hb5Zc:Below G.heap.size Zb Zc:=grown_belowG hgZc (fun g hg=>(World.ownsRow.lt hrZb g hg).1) (by omega)
     have hbVZc:Below V.heap.size V Zc:=hbVZb.trans (hb5Zc.mono (by omega))
     have hsZc:Zb.heap.size≤Zc.heap.size:=hgZc.size
     have hAZc:=hAZb.grown hgZc (fun e=>by simp only[Value.ownBlock,Option.some.injEq]at e;omega)
     obtain⟨qZc,cZc,hvZc⟩:=ownP_slice hrZc
     subst hvZc
     refine hK.out _ _ (HS.out _ hbVZc) (fun hHeld=>?_)
     clear hK K
     try simp only[Act.put,List.setIfInBounds_toArray,List.set_cons_zero,List.set_cons_succ]
     refine wpAnyH_ready (rs:=[5]) (by kernel_rfl) (by simp) ?_
     refine AllReadyH.cons rfl (fun K hK=>?_) (AllReadyH.nil)
     rw[if_pos (by rfl)]
     refine wp_append_pols Zc (.tmp 20) (.tmp 22) rfl G.heap.size _ xs rfl hrZc [⟨x,pc,cc⟩] 1 rfl (some ⟨G.heap.size+1,0,none⟩) 1 (pac_one (x:=⟨x,pc,cc⟩) (HCX Zc _ hAZc)) (fun h=>by cases h) rfl (by have:=HXL.out;simp;omega) (by omega) ?_
     intro vZd Zd hrZd hgZd _
     have hb5Zd:Below G.heap.size Zc Zd:=grown_belowG hgZd (fun g hg=>(World.ownsRow.lt hrZc g hg).1) (by omega)
     have hbVZd:Below V.heap.size V Zd:=hbVZc.trans (hb5Zd.mono (by omega))
     have hsZd:Zc.heap.size≤Zd.heap.size:=hgZd.size
     have HLEN:Hid ((xs++[(⟨x,pc,cc⟩:PA)]).length=m):=by show _=_;rw[List.length_append,HXL.out,HM.out];rfl
     rw[HLEN.out]at hrZd
     obtain⟨qZd,cZd,hvZd⟩:=ownP_slice hrZd
     subst hvZd
     refine hK.out _ _ (HS.out _ hbVZd) (fun hHeld=>?_)
     clear hK K
     try simp only[Act.put,List.setIfInBounds_toArray,List.set_cons_zero,List.set_cons_succ]
     refine wpAnyH_take (i:=6) (v:=?_) rfl (by kernel_rfl) (by kernel_rfl) (by kernel_rfl) (fun _ _ _ h=>h) (Or.inl ⟨by rfl,?_⟩) (by assumption) ?_
     rotate_left
     · intro w hSw
       go_simp
       all_goals with_reducible rfl
     try simp only[Act.put,List.setIfInBounds_toArray,List.set_cons_zero,List.set_cons_succ]
     refine wpAnyH_done (by kernel_rfl) ?_ _
     clear hHeld
     rw[←HLEN.out]at hrZd
     obtain⟨qe,ce,he1,hPL,hle9,hcm9⟩:=pols_of_row hrZd (fun y hy=>by
      rcases List.mem_append.1 hy with hy | hy
      · exact HXP.out y hy Zd hbVZd
      · rw[List.mem_singleton.1 hy];exact HXQ.out Zd hbVZd)
     injection he1 with e1 _ e2
     subst e1 e2
     rw[List.map_append,HXS.out,List.map_singleton]at hPL
     rw[HLEN.out]at hle9
     have HPM:Hid (PArg Zd (L++[x]) m qZd cZd):=⟨by rw[List.length_append,HN.out.symm,HM.out];rfl,hPL,hle9,hcm9,HX64.out⟩
     clear hPL hle9 hcm9 HLEN
     clear HXL HM
     obtain⟨y0,y1,y2,y3,y4,y5,y6⟩:=(HA.out Zd hbVZd).1.cells
     have lq:w.heap.size<Zd.heap.size:=(HA.out Zd hbVZd).1.lt
     go_wp2_with fail
     refine(HK L n pl cl _ (HEA.out _ hbVZd) (HPA.out _ hbVZd)).mono ?_
     rintro _ w3 ⟨hr3,hb3'⟩
     have hb3:Below V.heap.size V w3:=kqt hbVZd hb3'
     obtain⟨a1,p11,n11,c11,p12,n12,c12,rfl,han1⟩:=hr3.any
     have HN1:Hid (auE es q L=0→a1=auAl (auV es q) L):=fun h=>(han1 h).al
     clear han1 hr3 y0 y1 y2 y3 y4 y5 y6 lq HS HXC HXP HXS HX64 HXQ HN
     obtain⟨y0,y1,y2,y3,y4,y5,y6⟩:=(HA.out w3 hb3).1.cells
     have lq:w.heap.size<w3.heap.size:=(HA.out w3 hb3).1.lt
     obtain⟨W3,hW3⟩:∃W,W=w3.alloc (.cells #[.bool a1,.slice p11 n11 c11,.slice p12 n12 c12] 33):=⟨_,rfl⟩
     have hb33:Below w3.heap.size w3 W3:=by rw[hW3];exact kqx
     have hbW3:Below V.heap.size V W3:=kqt hb3 hb33
     have HB1:Hid (Blk W3 w3.heap.size #[.bool a1,.slice p11 n11 c11,.slice p12 n12 c12] 33):=by rw[hW3];exact Blk.new _ _ _ rfl
     have HPW:=HPM.out.up (kqt hb3' hb33)
     go_wp2_with fail
     rw[←hW3]
     clear hW3
     refine(HK (L++[x]) m _ _ _ (HEA.out _ hbW3) HPW).mono ?_
     rintro _ w4 ⟨hr4,hb4'⟩
     have hb4:Below V.heap.size V w4:=kqt hbW3 hb4'
     obtain⟨a2,p21,n21,c21,p22,n22,c22,rfl,han2⟩:=hr4.any
     have HN2:Hid (auE es q (L++[x])=0→a2=auAl (auV es q) (L++[x])):=fun h=>(han2 h).al
     clear han2 hr4 y0 y1 y2 y3 y4 y5 y6 lq HK HPM HPW
     have z1:w4.cell? ⟨w3.heap.size,0,none⟩=some (.bool a1):=(HB1.out.up hb4').cell 0
     have lz:w3.heap.size<w4.heap.size:=(HB1.out.up hb4').lt
     have x1:w4.cell? ⟨w.heap.size+1,1,none⟩=some (.bool x.fb):=(HA.out w4 hb4).2.cell 1
     have lx:w.heap.size+1<w4.heap.size:=(HA.out w4 hb4).2.lt
     by_cases h1:auE es q L=0
     · rw[eV_nil h1]
       by_cases h2:auE es q (L++[x])=0
       · rw[eV_nil h2]
         have hM:(x.fb=true→a2=true→a1=true)∧(x.fb=false→a1=true→a2=true):=by rw[HN1.out h1,HN2.out h2];exact auAl_more
         obtain⟨fb,hfb⟩:∃fb,fb=x.fb:=⟨_,rfl⟩
         rw[←hfb]at x1 hM
         clear hfb h1 h2 HN1 HN2
         cases fb<;>cases a1<;>cases a2
         all_goals first
          | (exfalso;revert hM;decide)
          | (go_wp2_with fail
             go_ret
             exact⟨rfl,kqt hbV (kqt hb4 kqx)⟩)
       · obtain⟨e2,he2⟩:=ev_nn h2
         rw[he2]
         clear h1 h2 HN1 HN2 he2
         go_wp2_with fail
         go_ret
         exact⟨rfl,kqt hbV (kqt hb4 kqx)⟩
     · obtain⟨e1,he1⟩:=ev_nn h1
       rw[he1]
       obtain⟨e2,he2⟩:∃e2,e2=eV (auE es q (L++[x])):=⟨_,rfl⟩
       rw[←he2]
       clear h1 HN1 HN2 he1 he2
       go_wp2_with fail
       go_ret
       exact⟨rfl,kqt hbV (kqt hb4 kqx)⟩
 · go_simp
   obtain⟨Za,hZa⟩:∃Za,Za=Z0.alloc (.cells #[.string x.nm,.bool x.fb,.int .i64 x.who.op,.string x.who.ty,.string x.who.u.t,.string x.who.u.i,.int .i64 x.act.op,.string x.act.ty,.string x.act.u.t,.string x.act.u.i,.int .i64 x.what.op,.string x.what.ty,.string x.what.u.t,.string x.what.u.i,.slice pc x.cs.length cc] 42):=⟨_,rfl⟩
   have hbZa:Below Z0.heap.size Z0 Za:=by rw[hZa];exact kqx
   have hbVZa:=kqt hbVZ0 hbZa
   have hsZa:Za.heap.size=Z0.heap.size+1:=by rw[hZa];simp
   have hAZa:Blk Za (G.heap.size) #[.string x.nm,.bool x.fb,.int .i64 x.who.op,.string x.who.ty,.string x.who.u.t,.string x.who.u.i,.int .i64 x.act.op,.string x.act.ty,.string x.act.u.t,.string x.act.u.i,.int .i64 x.what.op,.string x.what.ty,.string x.what.u.t,.string x.what.u.i,.slice pc x.cs.length cc] 42:=by rw[hZa];exact Blk.new Z0 _ _ (by omega)
   rw[←hZa]
   clear hZa
   refine hK.out _ _ (HS.out _ hbVZa) (fun hHeld=>?_)
   clear hK K
   try simp only[Act.put,List.setIfInBounds_toArray,List.set_cons_zero,List.set_cons_succ]
   refine wpAnyH_ready (rs:=[0]) (by kernel_rfl) (by simp) ?_
   refine AllReadyH.cons rfl (fun K hK=>?_) (AllReadyH.nil)
   go_simp
   obtain⟨Zb,hZb⟩:∃Zb,Zb=Za.alloc (.cells #[] 42):=⟨_,rfl⟩
   have hbZb:Below Za.heap.size Za Zb:=by rw[hZb];exact kqx
   have hbVZb:=kqt hbVZa hbZb
   have hsZb:Zb.heap.size=Za.heap.size+1:=by rw[hZb];simp
   have hrZb:Zb.ownsRow G.heap.size 42 15 (.slice (some ⟨G.heap.size+1,0,none⟩) 0 0) ([]:List PA).length (plL []):=by have:=World.ownsRow_made (base:=G.heap.size) (e:=42) (size:=15) Za #[] 0 (by omega) (Nat.zero_le _) (by simp);rw[hZb];simp only[hsZ0,hsZa]at this;exact this
   have hAZb:=hAZa.up hbZb
   rw[←hZb]
   clear hZb
   refine hK.out _ _ (HS.out _ hbVZb) (fun hHeld=>?_)
   clear hK K
   try simp only[Act.put,List.setIfInBounds_toArray,List.set_cons_zero,List.set_cons_succ]
   refine wpAnyH_ready (rs:=[2]) (by kernel_rfl) (by simp) ?_
   refine AllReadyH.cons rfl (fun K hK=>?_) (AllReadyH.nil)
   rw[if_pos (by rfl)]
   refine wp_append_pols Zb (.tmp 18) (.tmp 19) rfl G.heap.size (.slice (some ⟨G.heap.size+1,0,none⟩) 0 0) [] rfl hrZb xs n HXL.out pl cl (HXC.out _ hbVZb) hp0 rfl (by have:=HXL.out;simp;omega) (by omega) ?_
   intro vZc Zc hrZc hgZc _
   rw[List.nil_append]at hrZc
   have hb5Zc:Below G.heap.size Zb Zc:=grown_belowG hgZc (fun g hg=>(World.ownsRow.lt hrZb g hg).1) (by omega)
   have hbVZc:Below V.heap.size V Zc:=hbVZb.trans (hb5Zc.mono (by omega))
   have hsZc:Zb.heap.size≤Zc.heap.size:=hgZc.size
   have hAZc:=hAZb.grown hgZc (fun e=>by simp only[Value.ownBlock,Option.some.injEq]at e;omega)
   obtain⟨qZc,cZc,hvZc⟩:=ownP_slice hrZc
   subst hvZc
   refine hK.out _ _ (HS.out _ hbVZc) (fun hHeld=>?_)
   clear hK K
   try simp only[Act.put,List.setIfInBounds_toArray,List.set_cons_zero,List.set_cons_succ]
   refine wpAnyH_ready (rs:=[5]) (by kernel_rfl) (by simp) ?_
   refine AllReadyH.cons rfl (fun K hK=>?_) (AllReadyH.nil)
   rw[if_pos (by rfl)]
   refine wp_append_pols Zc (.tmp 20) (.tmp 22) rfl G.heap.size _ xs rfl hrZc [⟨x,pc,cc⟩] 1 rfl (some ⟨G.heap.size,0,none⟩) 1 (pac_one (x:=⟨x,pc,cc⟩) (HCX Zc _ hAZc)) (fun h=>by cases h) rfl (by have:=HXL.out;simp;omega) (by omega) ?_
   intro vZd Zd hrZd hgZd _
   have hb5Zd:Below G.heap.size Zc Zd:=grown_belowG hgZd (fun g hg=>(World.ownsRow.lt hrZc g hg).1) (by omega)
   have hbVZd:Below V.heap.size V Zd:=hbVZc.trans (hb5Zd.mono (by omega))
   have hsZd:Zc.heap.size≤Zd.heap.size:=hgZd.size
   have HLEN:Hid ((xs++[(⟨x,pc,cc⟩:PA)]).length=m):=by show _=_;rw[List.length_append,HXL.out,HM.out];rfl
   rw[HLEN.out]at hrZd
   obtain⟨qZd,cZd,hvZd⟩:=ownP_slice hrZd
   subst hvZd
   refine hK.out _ _ (HS.out _ hbVZd) (fun hHeld=>?_)
   clear hK K
   try simp only[Act.put,List.setIfInBounds_toArray,List.set_cons_zero,List.set_cons_succ]
   refine wpAnyH_take (i:=6) (v:=?_) rfl (by kernel_rfl) (by kernel_rfl) (by kernel_rfl) (fun _ _ _ h=>h) (Or.inl ⟨by rfl,?_⟩) (by assumption) ?_
   rotate_left
   · intro w hSw
     go_simp
     all_goals with_reducible rfl
   try simp only[Act.put,List.setIfInBounds_toArray,List.set_cons_zero,List.set_cons_succ]
   refine wpAnyH_done (by kernel_rfl) ?_ _
   clear hHeld
   rw[←HLEN.out]at hrZd
   obtain⟨qe,ce,he1,hPL,hle9,hcm9⟩:=pols_of_row hrZd (fun y hy=>by
    rcases List.mem_append.1 hy with hy | hy
    · exact HXP.out y hy Zd hbVZd
    · rw[List.mem_singleton.1 hy];exact HXQ.out Zd hbVZd)
   injection he1 with e1 _ e2
   subst e1 e2
   rw[List.map_append,HXS.out,List.map_singleton]at hPL
   rw[HLEN.out]at hle9
   have HPM:Hid (PArg Zd (L++[x]) m qZd cZd):=⟨by rw[List.length_append,HN.out.symm,HM.out];rfl,hPL,hle9,hcm9,HX64.out⟩
   clear hPL hle9 hcm9 HLEN
   clear HXL HM
   obtain⟨y0,y1,y2,y3,y4,y5,y6⟩:=(HA.out Zd hbVZd).1.cells
   have lq:w.heap.size<Zd.heap.size:=(HA.out Zd hbVZd).1.lt
   go_wp2_with fail
   refine(HK L n pl cl _ (HEA.out _ hbVZd) (HPA.out _ hbVZd)).mono ?_
   rintro _ w3 ⟨hr3,hb3'⟩
   have hb3:Below V.heap.size V w3:=kqt hbVZd hb3'
   obtain⟨a1,p11,n11,c11,p12,n12,c12,rfl,han1⟩:=hr3.any
   have HN1:Hid (auE es q L=0→a1=auAl (auV es q) L):=fun h=>(han1 h).al
   clear han1 hr3 y0 y1 y2 y3 y4 y5 y6 lq HS HXC HXP HXS HX64 HXQ HN
   obtain⟨y0,y1,y2,y3,y4,y5,y6⟩:=(HA.out w3 hb3).1.cells
   have lq:w.heap.size<w3.heap.size:=(HA.out w3 hb3).1.lt
   obtain⟨W3,hW3⟩:∃W,W=w3.alloc (.cells #[.bool a1,.slice p11 n11 c11,.slice p12 n12 c12] 33):=⟨_,rfl⟩
   have hb33:Below w3.heap.size w3 W3:=by rw[hW3];exact kqx
   have hbW3:Below V.heap.size V W3:=kqt hb3 hb33
   have HB1:Hid (Blk W3 w3.heap.size #[.bool a1,.slice p11 n11 c11,.slice p12 n12 c12] 33):=by rw[hW3];exact Blk.new _ _ _ rfl
   have HPW:=HPM.out.up (kqt hb3' hb33)
   go_wp2_with fail
   rw[←hW3]
   clear hW3
   refine(HK (L++[x]) m _ _ _ (HEA.out _ hbW3) HPW).mono ?_
   rintro _ w4 ⟨hr4,hb4'⟩
   have hb4:Below V.heap.size V w4:=kqt hbW3 hb4'
   obtain⟨a2,p21,n21,c21,p22,n22,c22,rfl,han2⟩:=hr4.any
   have HN2:Hid (auE es q (L++[x])=0→a2=auAl (auV es q) (L++[x])):=fun h=>(han2 h).al
   clear han2 hr4 y0 y1 y2 y3 y4 y5 y6 lq HK HPM HPW
   have z1:w4.cell? ⟨w3.heap.size,0,none⟩=some (.bool a1):=(HB1.out.up hb4').cell 0
   have lz:w3.heap.size<w4.heap.size:=(HB1.out.up hb4').lt
   have x1:w4.cell? ⟨w.heap.size+1,1,none⟩=some (.bool x.fb):=(HA.out w4 hb4).2.cell 1
   have lx:w.heap.size+1<w4.heap.size:=(HA.out w4 hb4).2.lt
   by_cases h1:auE es q L=0
   · rw[eV_nil h1]
     by_cases h2:auE es q (L++[x])=0
     · rw[eV_nil h2]
       have hM:(x.fb=true→a2=true→a1=true)∧(x.fb=false→a1=true→a2=true):=by rw[HN1.out h1,HN2.out h2];exact auAl_more
       obtain⟨fb,hfb⟩:∃fb,fb=x.fb:=⟨_,rfl⟩
       rw[←hfb]at x1 hM
       clear hfb h1 h2 HN1 HN2
       cases fb<;>cases a1<;>cases a2
       all_goals first
        | (exfalso;revert hM;decide)
        | (go_wp2_with fail
           go_ret
           exact⟨rfl,kqt hbV (kqt hb4 kqx)⟩)
     · obtain⟨e2,he2⟩:=ev_nn h2
       rw[he2]
       clear h1 h2 HN1 HN2 he2
       go_wp2_with fail
       go_ret
       exact⟨rfl,kqt hbV (kqt hb4 kqx)⟩
   · obtain⟨e1,he1⟩:=ev_nn h1
     rw[he1]
     obtain⟨e2,he2⟩:∃e2,e2=eV (auE es q (L++[x])):=⟨_,rfl⟩
     rw[←he2]
     clear h1 HN1 HN2 he1 he2
     go_wp2_with fail
     go_ret
     exact⟨rfl,kqt hbV (kqt hb4 kqx)⟩
end Go.Proofs.YtipcngglmebiiaaGreatDoor
