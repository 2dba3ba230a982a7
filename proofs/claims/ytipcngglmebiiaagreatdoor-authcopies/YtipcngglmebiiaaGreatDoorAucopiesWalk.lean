import Derived.Test.YtipcngglmebiiaaGreatDoorA37
import Derived.Test.YtipcngglmebiiaaGreatDoorA26
import Derived.Test.YtipcngglmebiiaaGreatDoorA12
import Derived.Test.YtipcngglmebiiaaGreatDoorA24
import Derived.Deep.RegionHeld3
set_option linter.unusedVariables false
set_option maxHeartbeats 12000000
namespace Go.Proofs.YtipcngglmebiiaaGreatDoor
open Go.RowKit Go.Deep
set_option linter.unusedSimpArgs false
set_option maxRecDepth 100000
theorem aucopies_walk (es:List En)(ps:Option Addr)(cs:Nat)(L:List Po)(pl:Option Addr)(cl:Nat)(q:Rq)(pq:Option Addr)(cq:Nat)(i:Int)(s:ByteArray)(w:World)(ha:EvArg w es ps q pq cq)(hP:PArg w L L.length pl cl)(hr:L.length*216≤140737488351232)(hs:s.size≤maxLen):
 Calls Tryz.prog 8 #[.slice ps es.length cs,.slice pl L.length cl,reqV q pq cq,.int .i64 i,.string s] w fun e w'=>e= .returned (.bool true)∧Below w.heap.size w w':=by
 obtain⟨V,hV⟩:∃V,V=w.alloc (.cells #[.string q.who.t,.string q.who.i,.string q.act.t,.string q.act.i,.string q.what.t,.string q.what.i,.slice pq q.cx.length cq] 28):=⟨_,rfl⟩
 have hbV:Below w.heap.size w V:=by rw[hV];exact kqx
 have HA0:Hid (∀W,Below V.heap.size V W→QB W w.heap.size q pq cq):=fun W hW=>by
  have h1:QB V w.heap.size q pq cq:=by rw[hV];exact QB.new w q pq cq
  exact h1.up hW
 have HEA0:Hid (∀W,Below V.heap.size V W→EvArg W es ps q pq cq):=fun W hW=>ha.up (kqt hbV hW)
 have HPA0:Hid (∀W,Below V.heap.size V W→PArg W L L.length pl cl):=fun W hW=>hP.up (kqt hbV hW)
 obtain⟨n,hn⟩:∃n,n=L.length:=⟨_,rfl⟩
 obtain⟨m,hm⟩:∃m,m=n+1:=⟨_,rfl⟩
 have HM:Hid (m=n+1):=hm
 clear hm
 have hPM:=permitted_any V (HEA0.out V (Below.refl _ _)).er
 have HK:=fun L' n' pl cl W ha hp=>ask_pols es ps cs L' n' pl cl q pq cq W ha hp
 obtain⟨xs,hxs,hxp⟩:=hP.pl.parts
 have HXL:Hid (xs.length=n):=by show _=_;rw[hn,←hxs];simp
 have HXA0:Hid (∀w',Below V.heap.size V w'→PAL w' pl xs):=fun w' hb=>hxp.up (kqt hbV hb)
 have HXS:Hid (xs.map (·.p)=L):=hxs
 have H64:Hid (∀x∈L,P64 x):=hP.num
 have hcm:=hP.cm
 unfold maxLen at hcm
 have hle:=hP.le
 rw[←hn]at HPA0 hr hle ⊢
 have HN:Hid (n=L.length):=hn
 clear hxs hxp hn ha hP
 unfold reqV at *
 go_enter Tryz.func8,Tryz.ntmps8
 go_wp2_with fail
 rw[←hV]
 clear hV
 refine hPM.mono ?_
 rintro _ w1 ⟨rfl,hb1⟩
 clear hPM
 by_cases hi0:i<0
 · go_wp2_with fail
   go_ret
   exact⟨rfl,kqt hbV hb1⟩
 by_cases hin:(n:Int)≤i
 · go_wp2_with fail
   go_ret
   exact⟨rfl,kqt hbV hb1⟩
 obtain⟨k,rfl⟩:∃k:Nat,i=k:=⟨i.toNat,by omega⟩
 have hkn:k<n:=by omega
 have hkx:k<xs.length:=by have:=HXL.out;omega
 have HYM:Hid (xs[k]∈xs):=List.getElem_mem hkx
 obtain⟨b,off,e0,hbw,hpo,k0,k1,k2,k3,k4,k5,k6,k7,k8,k9,k10,k11,k12,k13,k14⟩:=(HXA0.out w1 hb1).at hkx
 subst e0
 have hp0:(some ⟨b,off,none⟩:Option Addr)=none→cl=0:=fun h=>by cases h
 generalize xs[k]=y at *
 obtain⟨P,pc,cc⟩:=y
 dsimp only at hpo k0 k1 k2 k3 k4 k5 k6 k7 k8 k9 k10 k11 k12 k13 k14
 have HPL:Hid (P∈L):=by show _∈_;rw[←HXS.out];exact List.mem_map.2 ⟨_,HYM.out,rfl⟩
 obtain⟨x,hx⟩:∃x:Po,x=⟨s,P.fb,P.who,P.act,P.what,P.cs⟩:=⟨_,rfl⟩
 obtain⟨V2,hV2⟩:∃V,V=w1.alloc (.cells #[.string s,.bool P.fb,.int .i64 P.who.op,.string P.who.ty,.string P.who.u.t,.string P.who.u.i,.int .i64 P.act.op,.string P.act.ty,.string P.act.u.t,.string P.act.u.i,.int .i64 P.what.op,.string P.what.ty,.string P.what.u.t,.string P.what.u.i,.slice pc P.cs.length cc] 42):=⟨_,rfl⟩
 have hb12:Below w1.heap.size w1 V2:=by rw[hV2];exact kqx
 have hbVV:Below V.heap.size V V2:=kqt hb1 hb12
 have hBX:Blk V2 w1.heap.size (poC x pc cc) 42:=by rw[hV2,hx];exact Blk.new _ _ _ rfl
 have HXQ:Hid (∀W,Below V2.heap.size V2 W→PoA W x pc cc):=fun W hW=>by
  have:=hpo.up (kqt hb12 hW)
  rw[hx]
  exact⟨hs,this.who,this.act,this.what,this.cl,this.le,this.cm⟩
 have HX64:Hid (∀z∈L++[x],P64 z):=fun z hz=>by
  rcases List.mem_append.1 hz with hz | hz
  · exact H64.out z hz
  · rw[List.mem_singleton.1 hz,hx];exact H64.out P HPL.out
 have HFB:Hid (x.fb=P.fb):=by show _=_;rw[hx]
 have HXN:Hid (x.nm=s):=by show _=_;rw[hx]
 have HFV:Hid (∀es q,auV es q x=auV es q P):=fun es q=>by rw[hx];rfl
 have HNC:Hid (∀W,Below V2.heap.size V2 W→W.cell? ⟨b,off+k*15,none⟩=some (.string P.nm)):=fun W hW=>((kqt hb12 hW).cell (p:=⟨b,off+k*15,none⟩) hbw).trans k0
 clear hpo hx hs
 go_wp2_with fail
 rw[←hV2]
 clear hV2 k0 k1 k2 k3 k4 k5 k6 k7 k8 k9 k10 k11 k12 k13 k14 hbw
 have HA:Hid (∀W,Below V2.heap.size V2 W→QB W w.heap.size q pq cq):=fun W hW=>HA0.out W (kqt hbVV hW)
 have HEA:Hid (∀W,Below V2.heap.size V2 W→EvArg W es ps q pq cq):=fun W hW=>HEA0.out W (kqt hbVV hW)
 have HPA:Hid (∀W,Below V2.heap.size V2 W→PArg W L n (some ⟨b,off,none⟩) cl):=fun W hW=>HPA0.out W (kqt hbVV hW)
 have HXC:Hid (∀w',Below V2.heap.size V2 w'→PAC w' (some ⟨b,off,none⟩) xs):=fun w' hb=>(HXA0.out w' (kqt hbVV hb)).lies
 have HXP:Hid (∀x∈xs,∀w',Below V2.heap.size V2 w'→PoA w' x.p x.q x.c):=fun x hx w' hb=>(HXA0.out w' (kqt hbVV hb)).parts x hx
 have hbW:=kqt hbV hbVV
 clear HA0 HEA0 HPA0 HXA0 HYM H64
 have HCX:∀(W:World) B,Blk W B (poC x pc cc) 42→Blk W B (poC x pc cc) 42:=fun _ _ h=>h
 have HS:Hid (∀w',Below V2.heap.size V2 w'→w'.cell? ⟨w1.heap.size,0,none⟩=some (.string x.nm)∧w'.cell? ⟨w1.heap.size,1,none⟩=some (.bool x.fb)∧w'.cell? ⟨w1.heap.size,2,none⟩=some (.int .i64 x.who.op)∧w'.cell? ⟨w1.heap.size,3,none⟩=some (.string x.who.ty)∧w'.cell? ⟨w1.heap.size,4,none⟩=some (.string x.who.u.t)∧w'.cell? ⟨w1.heap.size,5,none⟩=some (.string x.who.u.i)∧w'.cell? ⟨w1.heap.size,6,none⟩=some (.int .i64 x.act.op)∧w'.cell? ⟨w1.heap.size,7,none⟩=some (.string x.act.ty)∧w'.cell? ⟨w1.heap.size,8,none⟩=some (.string x.act.u.t)∧w'.cell? ⟨w1.heap.size,9,none⟩=some (.string x.act.u.i)∧w'.cell? ⟨w1.heap.size,10,none⟩=some (.int .i64 x.what.op)∧w'.cell? ⟨w1.heap.size,11,none⟩=some (.string x.what.ty)∧w'.cell? ⟨w1.heap.size,12,none⟩=some (.string x.what.u.t)∧w'.cell? ⟨w1.heap.size,13,none⟩=some (.string x.what.u.i)∧w'.cell? ⟨w1.heap.size,14,none⟩=some (.slice pc x.cs.length cc)):=fun w' hb=>po_cells (hBX.up hb)
 obtain⟨Z0,hZ0⟩:∃Z0,Z0=V2.drew:=⟨_,rfl⟩
 have hbVZ0:Below V2.heap.size V2 Z0:=by rw[hZ0];exact kqx
 have hsZ0:Z0.heap.size=V2.heap.size:=by rw[hZ0];rfl
 clear hBX
 go_wp2_with fail
 refine wp_region_held_drew (S:=fun w'=>w'.cell? ⟨w1.heap.size,0,none⟩=some (.string x.nm)∧w'.cell? ⟨w1.heap.size,1,none⟩=some (.bool x.fb)∧w'.cell? ⟨w1.heap.size,2,none⟩=some (.int .i64 x.who.op)∧w'.cell? ⟨w1.heap.size,3,none⟩=some (.string x.who.ty)∧w'.cell? ⟨w1.heap.size,4,none⟩=some (.string x.who.u.t)∧w'.cell? ⟨w1.heap.size,5,none⟩=some (.string x.who.u.i)∧w'.cell? ⟨w1.heap.size,6,none⟩=some (.int .i64 x.act.op)∧w'.cell? ⟨w1.heap.size,7,none⟩=some (.string x.act.ty)∧w'.cell? ⟨w1.heap.size,8,none⟩=some (.string x.act.u.t)∧w'.cell? ⟨w1.heap.size,9,none⟩=some (.string x.act.u.i)∧w'.cell? ⟨w1.heap.size,10,none⟩=some (.int .i64 x.what.op)∧w'.cell? ⟨w1.heap.size,11,none⟩=some (.string x.what.ty)∧w'.cell? ⟨w1.heap.size,12,none⟩=some (.string x.what.u.t)∧w'.cell? ⟨w1.heap.size,13,none⟩=some (.string x.what.u.i)∧w'.cell? ⟨w1.heap.size,14,none⟩=some (.slice pc x.cs.length cc)) (by kernel_rfl) (by rw[←hZ0];exact HS.out _ hbVZ0) (fun hHeld=>?_)
 rw[←hZ0]at hHeld ⊢
 clear hZ0
 refine wpAnyH_take (i:=1) (v:=?_) rfl (by kernel_rfl) (by kernel_rfl) (by kernel_rfl) (fun _ _ _ h=>h) (Or.inl ⟨by rfl,?_⟩) (by assumption) ?_
 rotate_left
 · intro w hSw
   go_simp
   all_goals with_reducible rfl
 try simp only[Act.put,List.setIfInBounds_toArray,List.set_cons_zero,List.set_cons_succ]
 refine wpAnyH_take (i:=3) (v:=?_) rfl (by kernel_rfl) (by kernel_rfl) (by kernel_rfl) (fun _ _ _ h=>h) (Or.inl ⟨by rfl,?_⟩) (by assumption) ?_
 rotate_left
 · intro w hSw
   go_simp
   all_goals with_reducible rfl
 try simp only[Act.put,List.setIfInBounds_toArray,List.set_cons_zero,List.set_cons_succ]
 refine wpAnyH_ready (rs:=[0,4]) (by kernel_rfl) (by simp) ?_
 refine AllReadyH.cons rfl (fun K hK=>?_) (AllReadyH.cons rfl (fun K hK=>?_) (AllReadyH.nil))
 · go_simp
   obtain⟨Za,hZa⟩:∃Za,Za=Z0.alloc (.cells #[] 42):=⟨_,rfl⟩
   have hbZa:Below Z0.heap.size Z0 Za:=by rw[hZa];exact kqx
   have hbVZa:=kqt hbVZ0 hbZa
   have hsZa:Za.heap.size=Z0.heap.size+1:=by rw[hZa];simp
   have hrZa:Za.ownsRow V2.heap.size 42 15 (.slice (some ⟨V2.heap.size,0,none⟩) 0 0) ([]:List PA).length (plL []):=by have:=World.ownsRow_made (base:=V2.heap.size) (e:=42) (size:=15) Z0 #[] 0 (by omega) (Nat.zero_le _) (by simp);rw[hZa];simp only[hsZ0,hsZ0]at this;exact this
   rw[←hZa]
   clear hZa
   refine hK.out _ _ (HS.out _ hbVZa) (fun hHeld=>?_)
   clear hK K
   try simp only[Act.put,List.setIfInBounds_toArray,List.set_cons_zero,List.set_cons_succ]
   refine wpAnyH_ready (rs:=[2,4]) (by kernel_rfl) (by simp) ?_
   refine AllReadyH.cons rfl (fun K hK=>?_) (AllReadyH.cons rfl (fun K hK=>?_) (AllReadyH.nil))
   · rw[if_pos (by rfl)]
     refine wp_append_pols Za (.tmp 35) (.tmp 36) rfl V2.heap.size (.slice (some ⟨V2.heap.size,0,none⟩) 0 0) [] rfl hrZa xs n HXL.out (some ⟨b,off,none⟩) cl (HXC.out _ hbVZa) hp0 rfl (by have:=HXL.out;simp;omega) (by omega) ?_
     intro vZb Zb hrZb hgZb _
     rw[List.nil_append]at hrZb
     have hb5Zb:Below V2.heap.size Za Zb:=grown_belowG hgZb (fun g hg=>(World.ownsRow.lt hrZa g hg).1) (by omega)
     have hbVZb:Below V2.heap.size V2 Zb:=hbVZa.trans (hb5Zb.mono (by omega))
     have hsZb:Za.heap.size≤Zb.heap.size:=hgZb.size
     obtain⟨qZb,cZb,hvZb⟩:=ownP_slice hrZb
     subst hvZb
     refine hK.out _ _ (HS.out _ hbVZb) (fun hHeld=>?_)
     clear hK K
     try simp only[Act.put,List.setIfInBounds_toArray,List.set_cons_zero,List.set_cons_succ]
     refine wpAnyH_ready (rs:=[4]) (by kernel_rfl) (by simp) ?_
     refine AllReadyH.cons rfl (fun K hK=>?_) (AllReadyH.nil)
     go_simp
     obtain⟨Zc,hZc⟩:∃Zc,Zc=Zb.alloc (.cells #[.string x.nm,.bool x.fb,.int .i64 x.who.op,.string x.who.ty,.string x.who.u.t,.string x.who.u.i,.int .i64 x.act.op,.string x.act.ty,.string x.act.u.t,.string x.act.u.i,.int .i64 x.what.op,.string x.what.ty,.string x.what.u.t,.string x.what.u.i,.slice pc x.cs.length cc] 42):=⟨_,rfl⟩
     have hbZc:Below Zb.heap.size Zb Zc:=by rw[hZc];exact kqx
     have hbVZc:=kqt hbVZb hbZc
     have hsZc:Zc.heap.size=Zb.heap.size+1:=by rw[hZc];simp
     have hAZc:Blk Zc (Zb.heap.size) #[.string x.nm,.bool x.fb,.int .i64 x.who.op,.string x.who.ty,.string x.who.u.t,.string x.who.u.i,.int .i64 x.act.op,.string x.act.ty,.string x.act.u.t,.string x.act.u.i,.int .i64 x.what.op,.string x.what.ty,.string x.what.u.t,.string x.what.u.i,.slice pc x.cs.length cc] 42:=by rw[hZc];exact Blk.new Zb _ _ (by omega)
     have hrZc:=ownP_agree (w':=Zc) hrZb (fun g _ hl=>hbZc.block g hl)
     rw[←hZc]
     clear hZc
     refine hK.out _ _ (HS.out _ hbVZc) (fun hHeld=>?_)
     clear hK K
     try simp only[Act.put,List.setIfInBounds_toArray,List.set_cons_zero,List.set_cons_succ]
     refine wpAnyH_ready (rs:=[5]) (by kernel_rfl) (by simp) ?_
     refine AllReadyH.cons rfl (fun K hK=>?_) (AllReadyH.nil)
     rw[if_pos (by rfl)]
     refine wp_append_pols Zc (.tmp 37) (.tmp 39) rfl V2.heap.size _ xs rfl hrZc [⟨x,pc,cc⟩] 1 rfl (some ⟨Zb.heap.size,0,none⟩) 1 (pac_one (x:=⟨x,pc,cc⟩) (HCX Zc _ hAZc)) (fun h=>by cases h) rfl (by have:=HXL.out;simp;omega) (by omega) ?_
     intro vZd Zd hrZd hgZd _
     have hb5Zd:Below V2.heap.size Zc Zd:=grown_belowG hgZd (fun g hg=>(World.ownsRow.lt hrZc g hg).1) (by omega)
     have hbVZd:Below V2.heap.size V2 Zd:=hbVZc.trans (hb5Zd.mono (by omega))
     have hsZd:Zc.heap.size≤Zd.heap.size:=hgZd.size
     have HLEN:Hid ((xs++[(⟨x,pc,cc⟩:PA)]).length=m):=by show _=_;rw[List.length_append,HXL.out,HM.out];rfl
     rw[HLEN.out]at hrZd
     obtain⟨qZd,cZd,hvZd⟩:=ownP_slice hrZd
     subst hvZd
     refine hK.out _ _ (HS.out _ hbVZd) (fun hHeld=>?_)
     clear hK K
     try simp only[Act.put,List.setIfInBounds_toArray,List.set_cons_zero,List.set_cons_succ]
     refine wpAnyH_take (i:=6) (v:=?_) rfl (by kernel_rfl) (by kernel_rfl) (by kernel_rfl) (fun _ _ _ h=>h) (Or.inl ⟨by rfl,?_⟩) (by assumption) ?_
     rotate_left
     · intro w hSw
       go_simp
       all_goals with_reducible rfl
     try simp only[Act.put,List.setIfInBounds_toArray,List.set_cons_zero,List.set_cons_succ]
     refine wpAnyH_done (by kernel_rfl) ?_ _
     clear hHeld
     rw[←HLEN.out]at hrZd
     obtain⟨qe,ce,he1,hPL,hle9,hcm9⟩:=pols_of_row hrZd (fun y hy=>by
      rcases List.mem_append.1 hy with hy | hy
      · exact HXP.out y hy Zd hbVZd
      · rw[List.mem_singleton.1 hy];exact HXQ.out Zd hbVZd)
     injection he1 with e1 _ e2
     subst e1 e2
     rw[List.map_append,HXS.out,List.map_singleton]at hPL
     rw[HLEN.out]at hle9
     have HPM:Hid (PArg Zd (L++[x]) m qZd cZd):=⟨by rw[List.length_append,HN.out.symm,HM.out];rfl,hPL,hle9,hcm9,HX64.out⟩
     clear hPL hle9 hcm9 HLEN
     clear HXL HM
     obtain⟨y0,y1,y2,y3,y4,y5,y6⟩:=(HA.out Zd hbVZd).cells
     have lq:w.heap.size<Zd.heap.size:=(HA.out Zd hbVZd).lt
     go_wp2_with fail
     refine(HK L n _ _ _ (HEA.out _ hbVZd) (HPA.out _ hbVZd)).mono ?_
     rintro _ w3 ⟨hr3,hb3'⟩
     have hb3:Below V2.heap.size V2 w3:=kqt hbVZd hb3'
     obtain⟨a1,p11,n11,c11,p12,n12,c12,rfl,han1⟩:=hr3.any
     have HN1:Hid (auE es q L=0→AnsQ w3 es q L a1 p11 n11 p12 n12):=han1
     clear han1 hr3 y0 y1 y2 y3 y4 y5 y6 lq HS HXC HXP HXS HX64 HXQ HN
     obtain⟨y0,y1,y2,y3,y4,y5,y6⟩:=(HA.out w3 hb3).cells
     have lq:w.heap.size<w3.heap.size:=(HA.out w3 hb3).lt
     obtain⟨W3,hW3⟩:∃W,W=w3.alloc (.cells #[.bool a1,.slice p11 n11 c11,.slice p12 n12 c12] 33):=⟨_,rfl⟩
     have hb33:Below w3.heap.size w3 W3:=by rw[hW3];exact kqx
     have hbW3:Below V2.heap.size V2 W3:=kqt hb3 hb33
     have HB1:Hid (Blk W3 w3.heap.size #[.bool a1,.slice p11 n11 c11,.slice p12 n12 c12] 33):=by rw[hW3];exact Blk.new _ _ _ rfl
     have HPW:=HPM.out.up (kqt hb3' hb33)
     go_wp2_with fail
     rw[←hW3]
     clear hW3
     refine(HK (L++[x]) m _ _ _ (HEA.out _ hbW3) HPW).mono ?_
     rintro _ w4 ⟨hr4,hb4'⟩
     have hb4:Below V2.heap.size V2 w4:=kqt hbW3 hb4'
     obtain⟨a2,p21,n21,c21,p22,n22,c22,rfl,han2⟩:=hr4.any
     have HN2:Hid (auE es q (L++[x])=0→AnsQ w4 es q (L++[x]) a2 p21 n21 p22 n22):=han2
     clear han2 hr4 y0 y1 y2 y3 y4 y5 y6 lq HK HPM HPW
     by_cases h1:auE es q L=0
     · rw[eV_nil h1]
       by_cases h2:auE es q (L++[x])=0
       · rw[eV_nil h2]
         obtain⟨d1,d2,d3,d4,d5⟩:=HN1.out h1
         obtain⟨f1,f2,f3,f4,f5⟩:=HN2.out h2
         obtain⟨_,z2,_⟩:=auE_zero.1 h1
         obtain⟨_,z4,_⟩:=auE_zero.1 h2
         obtain⟨g1,_,g3⟩:=auC_zero.1 z2
         obtain⟨g4,_,g6⟩:=auC_zero.1 z4
         obtain⟨r1,r2,r3⟩:=au_copy (f:=auV es q) HPL.out HFB.out (HFV.out es q) g3 g6
         rw[←d1,←f1]at r1
         subst r1
         obtain⟨l1,hl1⟩:∃l,l=auBy (auV es q) L:=⟨_,rfl⟩
         obtain⟨l2,hl2⟩:∃l,l=auBy (auV es q) (L++[x]):=⟨_,rfl⟩
         obtain⟨l3,hl3⟩:∃l,l=auW (auV es q) L:=⟨_,rfl⟩
         obtain⟨l4,hl4⟩:∃l,l=auW (auV es q) (L++[x]):=⟨_,rfl⟩
         have hlen:l1.length≤12∧l2.length≤12∧l3.length≤12∧l4.length≤12:=by
          rw[hl1,hl2,hl3,hl4]
          refine⟨Nat.le_trans auBy_len g1,Nat.le_trans auBy_len g4,Nat.le_trans auW_len g1,Nat.le_trans auW_len g4⟩
         rw[←hl1]at d2 d4 r2
         rw[←hl2]at f2 f4 r2
         rw[←hl3]at d3 d5 r3
         rw[←hl4]at f3 f5 r3
         obtain⟨nm,hnm⟩:∃nm,nm=P.nm:=⟨_,rfl⟩
         rw[←hnm]at r2 r3
         obtain⟨W4,hW4⟩:∃W,W=w4.alloc (.cells #[.bool a1,.slice p21 n21 c21,.slice p22 n22 c22] 33):=⟨_,rfl⟩
         have hb44:Below w4.heap.size w4 W4:=by rw[hW4];exact kqx
         have hbW4:Below V2.heap.size V2 W4:=kqt hb4 hb44
         have hB2:Blk W4 w4.heap.size #[.bool a1,.slice p21 n21 c21,.slice p22 n22 c22] 33:=by rw[hW4];exact Blk.new _ _ _ rfl
         have hB1:Blk W4 w3.heap.size #[.bool a1,.slice p11 n11 c11,.slice p12 n12 c12] 33:=HB1.out.up (kqt hb4' hb44)
         have HS3:Hid (∀w',Below W4.heap.size W4 w'→w'.cell? ⟨w3.heap.size,0,none⟩=some (.bool a1)∧w'.cell? ⟨w3.heap.size,1,none⟩=some (.slice p11 n11 c11)∧w'.cell? ⟨w3.heap.size,2,none⟩=some (.slice p12 n12 c12)∧w'.cell? ⟨w4.heap.size,0,none⟩=some (.bool a1)∧w'.cell? ⟨w4.heap.size,1,none⟩=some (.slice p21 n21 c21)∧w'.cell? ⟨w4.heap.size,2,none⟩=some (.slice p22 n22 c22)∧w'.cell? ⟨b,off+k*15,none⟩=some (.string nm)):=fun w' hW=>⟨(hB1.up hW).cell 0,(hB1.up hW).cell 1,(hB1.up hW).cell 2,(hB2.up hW).cell 0,(hB2.up hW).cell 1,(hB2.up hW).cell 2,by rw[hnm];exact HNC.out w' (kqt hbW4 hW)⟩
         obtain⟨mb,hmb⟩:∃mb,mb=amT nm l1:=⟨_,rfl⟩
         obtain⟨mw,hmw⟩:∃mw,mw=amT nm l3:=⟨_,rfl⟩
         have hmb2:amT s l2=mb:=by rw[hmb,Bool.eq_iff_iff,amT_iff,amT_iff,r2,HXN.out]
         have hmw2:amT s l4=mw:=by rw[hmw,Bool.eq_iff_iff,amT_iff,amT_iff,r3,HXN.out]
         subst d2 d3 f2 f3
         have HM1:=fun W (hW:Below W4.heap.size W4 W)=>among_any nm l1 p11 c11 W (d4.up (kqt hb33 (kqt hb4' (kqt hb44 hW)))) (by omega)
         have HM2:=fun W (hW:Below W4.heap.size W4 W)=>among_any s l2 p21 c21 W (f4.up (kqt hb44 hW)) (by omega)
         have HM3:=fun W (hW:Below W4.heap.size W4 W)=>among_any nm l3 p12 c12 W (d5.up (kqt hb33 (kqt hb4' (kqt hb44 hW)))) (by omega)
         have HM4:=fun W (hW:Below W4.heap.size W4 W)=>among_any s l4 p22 c22 W (f5.up (kqt hb44 hW)) (by omega)
         rw[←hmb]at HM1
         rw[hmb2]at HM2
         rw[←hmw]at HM3
         rw[hmw2]at HM4
         clear h1 h2 HN1 HN2 HB1 hB1 hB2 d1 d4 d5 f1 f4 f5 z2 z4 g1 g3 g4 g6 r2 r3 hl1 hl2 hl3 hl4 hlen hmb hmw hmb2 hmw2 hnm
         go_wp2_with fail
         rw[←hW4]
         clear hW4
         go_region_held3 (fun w'=>w'.cell? ⟨w3.heap.size,0,none⟩=some (.bool a1)∧w'.cell? ⟨w3.heap.size,1,none⟩=some (.slice p11 l1.length c11)∧w'.cell? ⟨w3.heap.size,2,none⟩=some (.slice p12 l3.length c12)∧w'.cell? ⟨w4.heap.size,0,none⟩=some (.bool a1)∧w'.cell? ⟨w4.heap.size,1,none⟩=some (.slice p21 l2.length c21)∧w'.cell? ⟨w4.heap.size,2,none⟩=some (.slice p22 l4.length c22)∧w'.cell? ⟨b,off+k*15,none⟩=some (.string nm)) (first | exact HS3.out _ h9 | exact HS3.out _ h8 | exact HS3.out _ h7 | exact HS3.out _ h6 | exact HS3.out _ kqx) (first
          | (go_at_call_of 16 p11
             refine(HM1 _ (by first | exact h7 | exact kqx)).mono ?_
             rintro _ w6 ⟨rfl,qh6⟩
             have h6:Below W4.heap.size W4 w6:=kqt (by first | exact h7 | exact kqx) qh6)
          | (go_at_call_of 16 p21
             refine(HM2 _ (by first | exact h6 | exact kqx)).mono ?_
             rintro _ w7 ⟨rfl,qh7⟩
             have h7:Below W4.heap.size W4 w7:=kqt (by first | exact h6 | exact kqx) qh7)
          | (go_at_call_of 16 p12
             refine(HM3 _ (by first | exact h9 | exact h7 | exact h6 | exact kqx)).mono ?_
             rintro _ w8 ⟨rfl,qh8⟩
             have h8:Below W4.heap.size W4 w8:=kqt (by first | exact h9 | exact h7 | exact h6 | exact kqx) qh8)
          | (go_at_call_of 16 p22
             refine(HM4 _ (by first | exact h8 | exact h7 | exact h6 | exact kqx)).mono ?_
             rintro _ w9 ⟨rfl,qh9⟩
             have h9:Below W4.heap.size W4 w9:=kqt (by first | exact h8 | exact h7 | exact h6 | exact kqx) qh9))
         all_goals
          go_wp2_with fail
          go_ret
          first
           | exact⟨by simp,kqt hbW (kqt hbW4 h9)⟩
           | exact⟨by simp,kqt hbW (kqt hbW4 h8)⟩
       · obtain⟨e2,he2⟩:=ev_nn h2
         rw[he2]
         clear h1 h2 HN1 HN2 he2
         go_wp2_with fail
         go_ret
         exact⟨rfl,kqt hbW (kqt hb4 kqx)⟩
     · obtain⟨e1,he1⟩:=ev_nn h1
       rw[he1]
       obtain⟨e2,he2⟩:∃e2,e2=eV (auE es q (L++[x])):=⟨_,rfl⟩
       rw[←he2]
       clear h1 HN1 HN2 he1 he2
       go_wp2_with fail
       go_ret
       exact⟨rfl,kqt hbW (kqt hb4 kqx)⟩
   · go_simp
     obtain⟨Zb,hZb⟩:∃Zb,Zb=Za.alloc (.cells #[.string x.nm,.bool x.fb,.int .i64 x.who.op,.string x.who.ty,.string x.who.u.t,.string x.who.u.i,.int .i64 x.act.op,.string x.act.ty,.string x.act.u.t,.string x.act.u.i,.int .i64 x.what.op,.string x.what.ty,.string x.what.u.t,.string x.what.u.i,.slice pc x.cs.length cc] 42):=⟨_,rfl⟩
     have hbZb:Below Za.heap.size Za Zb:=by rw[hZb];exact kqx
     have hbVZb:=kqt hbVZa hbZb
     have hsZb:Zb.heap.size=Za.heap.size+1:=by rw[hZb];simp
     have hAZb:Blk Zb (V2.heap.size+1) #[.string x.nm,.bool x.fb,.int .i64 x.who.op,.string x.who.ty,.string x.who.u.t,.string x.who.u.i,.int .i64 x.act.op,.string x.act.ty,.string x.act.u.t,.string x.act.u.i,.int .i64 x.what.op,.string x.what.ty,.string x.what.u.t,.string x.what.u.i,.slice pc x.cs.length cc] 42:=by rw[hZb];exact Blk.new Za _ _ (by omega)
     have hrZb:=ownP_agree (w':=Zb) hrZa (fun g _ hl=>hbZb.block g hl)
     rw[←hZb]
     clear hZb
     refine hK.out _ _ (HS.out _ hbVZb) (fun hHeld=>?_)
     clear hK K
     try simp only[Act.put,List.setIfInBounds_toArray,List.set_cons_zero,List.set_cons_succ]
     refine wpAnyH_ready (rs:=[2]) (by kernel_rfl) (by simp) ?_
     refine AllReadyH.cons rfl (fun K hK=>?_) (AllReadyH.nil)
     rw[if_pos (by rfl)]
     refine wp_append_pols Zb (.tmp 35) (.tmp 36) rfl V2.heap.size (.slice (some ⟨V2.heap.size,0,none⟩) 0 0) [] rfl hrZb xs n HXL.out (some ⟨b,off,none⟩) cl (HXC.out _ hbVZb) hp0 rfl (by have:=HXL.out;simp;omega) (by omega) ?_
     intro vZc Zc hrZc hgZc _
     rw[List.nil_append]at hrZc
     have hb5Zc:Below V2.heap.size Zb Zc:=grown_belowG hgZc (fun g hg=>(World.ownsRow.lt hrZb g hg).1) (by omega)
     have hbVZc:Below V2.heap.size V2 Zc:=hbVZb.trans (hb5Zc.mono (by omega))
     have hsZc:Zb.heap.size≤Zc.heap.size:=hgZc.size
     have hAZc:=hAZb.grown hgZc (fun e=>by simp only[Value.ownBlock,Option.some.injEq]at e;omega)
     obtain⟨qZc,cZc,hvZc⟩:=ownP_slice hrZc
     subst hvZc
     refine hK.out _ _ (HS.out _ hbVZc) (fun hHeld=>?_)
     clear hK K
     try simp only[Act.put,List.setIfInBounds_toArray,List.set_cons_zero,List.set_cons_succ]
     refine wpAnyH_ready (rs:=[5]) (by kernel_rfl) (by simp) ?_
     refine AllReadyH.cons rfl (fun K hK=>?_) (AllReadyH.nil)
     rw[if_pos (by rfl)]
     refine wp_append_pols Zc (.tmp 37) (.tmp 39) rfl V2.heap.size _ xs rfl hrZc [⟨x,pc,cc⟩] 1 rfl (some ⟨V2.heap.size+1,0,none⟩) 1 (pac_one (x:=⟨x,pc,cc⟩) (HCX Zc _ hAZc)) (fun h=>by cases h) rfl (by have:=HXL.out;simp;omega) (by omega) ?_
     intro vZd Zd hrZd hgZd _
     have hb5Zd:Below V2.heap.size Zc Zd:=grown_belowG hgZd (fun g hg=>(World.ownsRow.lt hrZc g hg).1) (by omega)
     have hbVZd:Below V2.heap.size V2 Zd:=hbVZc.trans (hb5Zd.mono (by omega))
     have hsZd:Zc.heap.size≤Zd.heap.size:=hgZd.size
     have HLEN:Hid ((xs++[(⟨x,pc,cc⟩:PA)]).length=m):=by show _=_;rw[List.length_append,HXL.out,HM.out];rfl
     rw[HLEN.out]at hrZd
     obtain⟨qZd,cZd,hvZd⟩:=ownP_slice hrZd
     subst hvZd
     refine hK.out _ _ (HS.out _ hbVZd) (fun hHeld=>?_)
     clear hK K
     try simp only[Act.put,List.setIfInBounds_toArray,List.set_cons_zero,List.set_cons_succ]
     refine wpAnyH_take (i:=6) (v:=?_) rfl (by kernel_rfl) (by kernel_rfl) (by kernel_rfl) (fun _ _ _ h=>h) (Or.inl ⟨by rfl,?_⟩) (by assumption) ?_
     rotate_left
     · intro w hSw
       go_simp
       all_goals with_reducible rfl
     try simp only[Act.put,List.setIfInBounds_toArray,List.set_cons_zero,List.set_cons_succ]
     refine wpAnyH_done (by kernel_rfl) ?_ _
     clear hHeld
     rw[←HLEN.out]at hrZd
     obtain⟨qe,ce,he1,hPL,hle9,hcm9⟩:=pols_of_row hrZd (fun y hy=>by
      rcases List.mem_append.1 hy with hy | hy
      · exact HXP.out y hy Zd hbVZd
      · rw[List.mem_singleton.1 hy];exact HXQ.out Zd hbVZd)
     injection he1 with e1 _ e2
     subst e1 e2
     rw[List.map_append,HXS.out,List.map_singleton]at hPL
     rw[HLEN.out]at hle9
     have HPM:Hid (PArg Zd (L++[x]) m qZd cZd):=⟨by rw[List.length_append,HN.out.symm,HM.out];rfl,hPL,hle9,hcm9,HX64.out⟩
     clear hPL hle9 hcm9 HLEN
     clear HXL HM
     obtain⟨y0,y1,y2,y3,y4,y5,y6⟩:=(HA.out Zd hbVZd).cells
     have lq:w.heap.size<Zd.heap.size:=(HA.out Zd hbVZd).lt
     go_wp2_with fail
     refine(HK L n _ _ _ (HEA.out _ hbVZd) (HPA.out _ hbVZd)).mono ?_
     rintro _ w3 ⟨hr3,hb3'⟩
     have hb3:Below V2.heap.size V2 w3:=kqt hbVZd hb3'
     obtain⟨a1,p11,n11,c11,p12,n12,c12,rfl,han1⟩:=hr3.any
     have HN1:Hid (auE es q L=0→AnsQ w3 es q L a1 p11 n11 p12 n12):=han1
     clear han1 hr3 y0 y1 y2 y3 y4 y5 y6 lq HS HXC HXP HXS HX64 HXQ HN
     obtain⟨y0,y1,y2,y3,y4,y5,y6⟩:=(HA.out w3 hb3).cells
     have lq:w.heap.size<w3.heap.size:=(HA.out w3 hb3).lt
     obtain⟨W3,hW3⟩:∃W,W=w3.alloc (.cells #[.bool a1,.slice p11 n11 c11,.slice p12 n12 c12] 33):=⟨_,rfl⟩
     have hb33:Below w3.heap.size w3 W3:=by rw[hW3];exact kqx
     have hbW3:Below V2.heap.size V2 W3:=kqt hb3 hb33
     have HB1:Hid (Blk W3 w3.heap.size #[.bool a1,.slice p11 n11 c11,.slice p12 n12 c12] 33):=by rw[hW3];exact Blk.new _ _ _ rfl
     have HPW:=HPM.out.up (kqt hb3' hb33)
     go_wp2_with fail
     rw[←hW3]
     clear hW3
     refine(HK (L++[x]) m _ _ _ (HEA.out _ hbW3) HPW).mono ?_
     rintro _ w4 ⟨hr4,hb4'⟩
     have hb4:Below V2.heap.size V2 w4:=kqt hbW3 hb4'
     obtain⟨a2,p21,n21,c21,p22,n22,c22,rfl,han2⟩:=hr4.any
     have HN2:Hid (auE es q (L++[x])=0→AnsQ w4 es q (L++[x]) a2 p21 n21 p22 n22):=han2
     clear han2 hr4 y0 y1 y2 y3 y4 y5 y6 lq HK HPM HPW
     by_cases h1:auE es q L=0
     · rw[eV_nil h1]
       by_cases h2:auE es q (L++[x])=0
       · rw[eV_nil h2]
         obtain⟨d1,d2,d3,d4,d5⟩:=HN1.out h1
         obtain⟨f1,f2,f3,f4,f5⟩:=HN2.out h2
         obtain⟨_,z2,_⟩:=auE_zero.1 h1
         obtain⟨_,z4,_⟩:=auE_zero.1 h2
         obtain⟨g1,_,g3⟩:=auC_zero.1 z2
         obtain⟨g4,_,g6⟩:=auC_zero.1 z4
         obtain⟨r1,r2,r3⟩:=au_copy (f:=auV es q) HPL.out HFB.out (HFV.out es q) g3 g6
         rw[←d1,←f1]at r1
         subst r1
         obtain⟨l1,hl1⟩:∃l,l=auBy (auV es q) L:=⟨_,rfl⟩
         obtain⟨l2,hl2⟩:∃l,l=auBy (auV es q) (L++[x]):=⟨_,rfl⟩
         obtain⟨l3,hl3⟩:∃l,l=auW (auV es q) L:=⟨_,rfl⟩
         obtain⟨l4,hl4⟩:∃l,l=auW (auV es q) (L++[x]):=⟨_,rfl⟩
         have hlen:l1.length≤12∧l2.length≤12∧l3.length≤12∧l4.length≤12:=by
          rw[hl1,hl2,hl3,hl4]
          refine⟨Nat.le_trans auBy_len g1,Nat.le_trans auBy_len g4,Nat.le_trans auW_len g1,Nat.le_trans auW_len g4⟩
         rw[←hl1]at d2 d4 r2
         rw[←hl2]at f2 f4 r2
         rw[←hl3]at d3 d5 r3
         rw[←hl4]at f3 f5 r3
         obtain⟨nm,hnm⟩:∃nm,nm=P.nm:=⟨_,rfl⟩
         rw[←hnm]at r2 r3
         obtain⟨W4,hW4⟩:∃W,W=w4.alloc (.cells #[.bool a1,.slice p21 n21 c21,.slice p22 n22 c22] 33):=⟨_,rfl⟩
         have hb44:Below w4.heap.size w4 W4:=by rw[hW4];exact kqx
         have hbW4:Below V2.heap.size V2 W4:=kqt hb4 hb44
         have hB2:Blk W4 w4.heap.size #[.bool a1,.slice p21 n21 c21,.slice p22 n22 c22] 33:=by rw[hW4];exact Blk.new _ _ _ rfl
         have hB1:Blk W4 w3.heap.size #[.bool a1,.slice p11 n11 c11,.slice p12 n12 c12] 33:=HB1.out.up (kqt hb4' hb44)
         have HS3:Hid (∀w',Below W4.heap.size W4 w'→w'.cell? ⟨w3.heap.size,0,none⟩=some (.bool a1)∧w'.cell? ⟨w3.heap.size,1,none⟩=some (.slice p11 n11 c11)∧w'.cell? ⟨w3.heap.size,2,none⟩=some (.slice p12 n12 c12)∧w'.cell? ⟨w4.heap.size,0,none⟩=some (.bool a1)∧w'.cell? ⟨w4.heap.size,1,none⟩=some (.slice p21 n21 c21)∧w'.cell? ⟨w4.heap.size,2,none⟩=some (.slice p22 n22 c22)∧w'.cell? ⟨b,off+k*15,none⟩=some (.string nm)):=fun w' hW=>⟨(hB1.up hW).cell 0,(hB1.up hW).cell 1,(hB1.up hW).cell 2,(hB2.up hW).cell 0,(hB2.up hW).cell 1,(hB2.up hW).cell 2,by rw[hnm];exact HNC.out w' (kqt hbW4 hW)⟩
         obtain⟨mb,hmb⟩:∃mb,mb=amT nm l1:=⟨_,rfl⟩
         obtain⟨mw,hmw⟩:∃mw,mw=amT nm l3:=⟨_,rfl⟩
         have hmb2:amT s l2=mb:=by rw[hmb,Bool.eq_iff_iff,amT_iff,amT_iff,r2,HXN.out]
         have hmw2:amT s l4=mw:=by rw[hmw,Bool.eq_iff_iff,amT_iff,amT_iff,r3,HXN.out]
         subst d2 d3 f2 f3
         have HM1:=fun W (hW:Below W4.heap.size W4 W)=>among_any nm l1 p11 c11 W (d4.up (kqt hb33 (kqt hb4' (kqt hb44 hW)))) (by omega)
         have HM2:=fun W (hW:Below W4.heap.size W4 W)=>among_any s l2 p21 c21 W (f4.up (kqt hb44 hW)) (by omega)
         have HM3:=fun W (hW:Below W4.heap.size W4 W)=>among_any nm l3 p12 c12 W (d5.up (kqt hb33 (kqt hb4' (kqt hb44 hW)))) (by omega)
         have HM4:=fun W (hW:Below W4.heap.size W4 W)=>among_any s l4 p22 c22 W (f5.up (kqt hb44 hW)) (by omega)
         rw[←hmb]at HM1
         rw[hmb2]at HM2
         rw[←hmw]at HM3
         rw[hmw2]at HM4
         clear h1 h2 HN1 HN2 HB1 hB1 hB2 d1 d4 d5 f1 f4 f5 z2 z4 g1 g3 g4 g6 r2 r3 hl1 hl2 hl3 hl4 hlen hmb hmw hmb2 hmw2 hnm
         go_wp2_with fail
         rw[←hW4]
         clear hW4
         go_region_held3 (fun w'=>w'.cell? ⟨w3.heap.size,0,none⟩=some (.bool a1)∧w'.cell? ⟨w3.heap.size,1,none⟩=some (.slice p11 l1.length c11)∧w'.cell? ⟨w3.heap.size,2,none⟩=some (.slice p12 l3.length c12)∧w'.cell? ⟨w4.heap.size,0,none⟩=some (.bool a1)∧w'.cell? ⟨w4.heap.size,1,none⟩=some (.slice p21 l2.length c21)∧w'.cell? ⟨w4.heap.size,2,none⟩=some (.slice p22 l4.length c22)∧w'.cell? ⟨b,off+k*15,none⟩=some (.string nm)) (first | exact HS3.out _ h9 | exact HS3.out _ h8 | exact HS3.out _ h7 | exact HS3.out _ h6 | exact HS3.out _ kqx) (first
          | (go_at_call_of 16 p11
             refine(HM1 _ (by first | exact h7 | exact kqx)).mono ?_
             rintro _ w6 ⟨rfl,qh6⟩
             have h6:Below W4.heap.size W4 w6:=kqt (by first | exact h7 | exact kqx) qh6)
          | (go_at_call_of 16 p21
             refine(HM2 _ (by first | exact h6 | exact kqx)).mono ?_
             rintro _ w7 ⟨rfl,qh7⟩
             have h7:Below W4.heap.size W4 w7:=kqt (by first | exact h6 | exact kqx) qh7)
          | (go_at_call_of 16 p12
             refine(HM3 _ (by first | exact h9 | exact h7 | exact h6 | exact kqx)).mono ?_
             rintro _ w8 ⟨rfl,qh8⟩
             have h8:Below W4.heap.size W4 w8:=kqt (by first | exact h9 | exact h7 | exact h6 | exact kqx) qh8)
          | (go_at_call_of 16 p22
             refine(HM4 _ (by first | exact h8 | exact h7 | exact h6 | exact kqx)).mono ?_
             rintro _ w9 ⟨rfl,qh9⟩
             have h9:Below W4.heap.size W4 w9:=kqt (by first | exact h8 | exact h7 | exact h6 | exact kqx) qh9))
         all_goals
          go_wp2_with fail
          go_ret
          first
           | exact⟨by simp,kqt hbW (kqt hbW4 h9)⟩
           | exact⟨by simp,kqt hbW (kqt hbW4 h8)⟩
       · obtain⟨e2,he2⟩:=ev_nn h2
         rw[he2]
         clear h1 h2 HN1 HN2 he2
         go_wp2_with fail
         go_ret
         exact⟨rfl,kqt hbW (kqt hb4 kqx)⟩
     · obtain⟨e1,he1⟩:=ev_nn h1
       rw[he1]
       obtain⟨e2,he2⟩:∃e2,e2=eV (auE es q (L++[x])):=⟨_,rfl⟩
       rw[←he2]
       clear h1 HN1 HN2 he1 he2
       go_wp2_with fail
       go_ret
       exact⟨rfl,kqt hbW (kqt hb4 kqx)⟩
 · go_simp
   obtain⟨Za,hZa⟩:∃Za,Za=Z0.alloc (.cells #[.string x.nm,.bool x.fb,.int .i64 x.who.op,.string x.who.ty,.string x.who.u.t,.string x.who.u.i,.int .i64 x.act.op,.string x.act.ty,.string x.act.u.t,.string x.act.u.i,.int .i64 x.what.op,.string x.what.ty,.string x.what.u.t,.string x.what.u.i,.slice pc x.cs.length cc] 42):=⟨_,rfl⟩
   have hbZa:Below Z0.heap.size Z0 Za:=by rw[hZa];exact kqx
   have hbVZa:=kqt hbVZ0 hbZa
   have hsZa:Za.heap.size=Z0.heap.size+1:=by rw[hZa];simp
   have hAZa:Blk Za (V2.heap.size) #[.string x.nm,.bool x.fb,.int .i64 x.who.op,.string x.who.ty,.string x.who.u.t,.string x.who.u.i,.int .i64 x.act.op,.string x.act.ty,.string x.act.u.t,.string x.act.u.i,.int .i64 x.what.op,.string x.what.ty,.string x.what.u.t,.string x.what.u.i,.slice pc x.cs.length cc] 42:=by rw[hZa];exact Blk.new Z0 _ _ (by omega)
   rw[←hZa]
   clear hZa
   refine hK.out _ _ (HS.out _ hbVZa) (fun hHeld=>?_)
   clear hK K
   try simp only[Act.put,List.setIfInBounds_toArray,List.set_cons_zero,List.set_cons_succ]
   refine wpAnyH_ready (rs:=[0]) (by kernel_rfl) (by simp) ?_
   refine AllReadyH.cons rfl (fun K hK=>?_) (AllReadyH.nil)
   go_simp
   obtain⟨Zb,hZb⟩:∃Zb,Zb=Za.alloc (.cells #[] 42):=⟨_,rfl⟩
   have hbZb:Below Za.heap.size Za Zb:=by rw[hZb];exact kqx
   have hbVZb:=kqt hbVZa hbZb
   have hsZb:Zb.heap.size=Za.heap.size+1:=by rw[hZb];simp
   have hrZb:Zb.ownsRow V2.heap.size 42 15 (.slice (some ⟨V2.heap.size+1,0,none⟩) 0 0) ([]:List PA).length (plL []):=by have:=World.ownsRow_made (base:=V2.heap.size) (e:=42) (size:=15) Za #[] 0 (by omega) (Nat.zero_le _) (by simp);rw[hZb];simp only[hsZ0,hsZa]at this;exact this
   have hAZb:=hAZa.up hbZb
   rw[←hZb]
   clear hZb
   refine hK.out _ _ (HS.out _ hbVZb) (fun hHeld=>?_)
   clear hK K
   try simp only[Act.put,List.setIfInBounds_toArray,List.set_cons_zero,List.set_cons_succ]
   refine wpAnyH_ready (rs:=[2]) (by kernel_rfl) (by simp) ?_
   refine AllReadyH.cons rfl (fun K hK=>?_) (AllReadyH.nil)
   rw[if_pos (by rfl)]
   refine wp_append_pols Zb (.tmp 35) (.tmp 36) rfl V2.heap.size (.slice (some ⟨V2.heap.size+1,0,none⟩) 0 0) [] rfl hrZb xs n HXL.out (some ⟨b,off,none⟩) cl (HXC.out _ hbVZb) hp0 rfl (by have:=HXL.out;simp;omega) (by omega) ?_
   intro vZc Zc hrZc hgZc _
   rw[List.nil_append]at hrZc
   have hb5Zc:Below V2.heap.size Zb Zc:=grown_belowG hgZc (fun g hg=>(World.ownsRow.lt hrZb g hg).1) (by omega)
   have hbVZc:Below V2.heap.size V2 Zc:=hbVZb.trans (hb5Zc.mono (by omega))
   have hsZc:Zb.heap.size≤Zc.heap.size:=hgZc.size
   have hAZc:=hAZb.grown hgZc (fun e=>by simp only[Value.ownBlock,Option.some.injEq]at e;omega)
   obtain⟨qZc,cZc,hvZc⟩:=ownP_slice hrZc
   subst hvZc
   refine hK.out _ _ (HS.out _ hbVZc) (fun hHeld=>?_)
   clear hK K
   try simp only[Act.put,List.setIfInBounds_toArray,List.set_cons_zero,List.set_cons_succ]
   refine wpAnyH_ready (rs:=[5]) (by kernel_rfl) (by simp) ?_
   refine AllReadyH.cons rfl (fun K hK=>?_) (AllReadyH.nil)
   rw[if_pos (by rfl)]
   refine wp_append_pols Zc (.tmp 37) (.tmp 39) rfl V2.heap.size _ xs rfl hrZc [⟨x,pc,cc⟩] 1 rfl (some ⟨V2.heap.size,0,none⟩) 1 (pac_one (x:=⟨x,pc,cc⟩) (HCX Zc _ hAZc)) (fun h=>by cases h) rfl (by have:=HXL.out;simp;omega) (by omega) ?_
   intro vZd Zd hrZd hgZd _
   have hb5Zd:Below V2.heap.size Zc Zd:=grown_belowG hgZd (fun g hg=>(World.ownsRow.lt hrZc g hg).1) (by omega)
   have hbVZd:Below V2.heap.size V2 Zd:=hbVZc.trans (hb5Zd.mono (by omega))
   have hsZd:Zc.heap.size≤Zd.heap.size:=hgZd.size
   have HLEN:Hid ((xs++[(⟨x,pc,cc⟩:PA)]).length=m):=by show _=_;rw[List.length_append,HXL.out,HM.out];rfl
   rw[HLEN.out]at hrZd
   obtain⟨qZd,cZd,hvZd⟩:=ownP_slice hrZd
   subst hvZd
   refine hK.out _ _ (HS.out _ hbVZd) (fun hHeld=>?_)
   clear hK K
   try simp only[Act.put,List.setIfInBounds_toArray,List.set_cons_zero,List.set_cons_succ]
   refine wpAnyH_take (i:=6) (v:=?_) rfl (by kernel_rfl) (by kernel_rfl) (by kernel_rfl) (fun _ _ _ h=>h) (Or.inl ⟨by rfl,?_⟩) (by assumption) ?_
   rotate_left
   · intro w hSw
     go_simp
     all_goals with_reducible rfl
   try simp only[Act.put,List.setIfInBounds_toArray,List.set_cons_zero,List.set_cons_succ]
   refine wpAnyH_done (by kernel_rfl) ?_ _
   clear hHeld
   rw[←HLEN.out]at hrZd
   obtain⟨qe,ce,he1,hPL,hle9,hcm9⟩:=pols_of_row hrZd (fun y hy=>by
    rcases List.mem_append.1 hy with hy | hy
    · exact HXP.out y hy Zd hbVZd
    · rw[List.mem_singleton.1 hy];exact HXQ.out Zd hbVZd)
   injection he1 with e1 _ e2
   subst e1 e2
   rw[List.map_append,HXS.out,List.map_singleton]at hPL
   rw[HLEN.out]at hle9
   have HPM:Hid (PArg Zd (L++[x]) m qZd cZd):=⟨by rw[List.length_append,HN.out.symm,HM.out];rfl,hPL,hle9,hcm9,HX64.out⟩
   clear hPL hle9 hcm9 HLEN
   clear HXL HM
   obtain⟨y0,y1,y2,y3,y4,y5,y6⟩:=(HA.out Zd hbVZd).cells
   have lq:w.heap.size<Zd.heap.size:=(HA.out Zd hbVZd).lt
   go_wp2_with fail
   refine(HK L n _ _ _ (HEA.out _ hbVZd) (HPA.out _ hbVZd)).mono ?_
   rintro _ w3 ⟨hr3,hb3'⟩
   have hb3:Below V2.heap.size V2 w3:=kqt hbVZd hb3'
   obtain⟨a1,p11,n11,c11,p12,n12,c12,rfl,han1⟩:=hr3.any
   have HN1:Hid (auE es q L=0→AnsQ w3 es q L a1 p11 n11 p12 n12):=han1
   clear han1 hr3 y0 y1 y2 y3 y4 y5 y6 lq HS HXC HXP HXS HX64 HXQ HN
   obtain⟨y0,y1,y2,y3,y4,y5,y6⟩:=(HA.out w3 hb3).cells
   have lq:w.heap.size<w3.heap.size:=(HA.out w3 hb3).lt
   obtain⟨W3,hW3⟩:∃W,W=w3.alloc (.cells #[.bool a1,.slice p11 n11 c11,.slice p12 n12 c12] 33):=⟨_,rfl⟩
   have hb33:Below w3.heap.size w3 W3:=by rw[hW3];exact kqx
   have hbW3:Below V2.heap.size V2 W3:=kqt hb3 hb33
   have HB1:Hid (Blk W3 w3.heap.size #[.bool a1,.slice p11 n11 c11,.slice p12 n12 c12] 33):=by rw[hW3];exact Blk.new _ _ _ rfl
   have HPW:=HPM.out.up (kqt hb3' hb33)
   go_wp2_with fail
   rw[←hW3]
   clear hW3
   refine(HK (L++[x]) m _ _ _ (HEA.out _ hbW3) HPW).mono ?_
   rintro _ w4 ⟨hr4,hb4'⟩
   have hb4:Below V2.heap.size V2 w4:=kqt hbW3 hb4'
   obtain⟨a2,p21,n21,c21,p22,n22,c22,rfl,han2⟩:=hr4.any
   have HN2:Hid (auE es q (L++[x])=0→AnsQ w4 es q (L++[x]) a2 p21 n21 p22 n22):=han2
   clear han2 hr4 y0 y1 y2 y3 y4 y5 y6 lq HK HPM HPW
   by_cases h1:auE es q L=0
   · rw[eV_nil h1]
     by_cases h2:auE es q (L++[x])=0
     · rw[eV_nil h2]
       obtain⟨d1,d2,d3,d4,d5⟩:=HN1.out h1
       obtain⟨f1,f2,f3,f4,f5⟩:=HN2.out h2
       obtain⟨_,z2,_⟩:=auE_zero.1 h1
       obtain⟨_,z4,_⟩:=auE_zero.1 h2
       obtain⟨g1,_,g3⟩:=auC_zero.1 z2
       obtain⟨g4,_,g6⟩:=auC_zero.1 z4
       obtain⟨r1,r2,r3⟩:=au_copy (f:=auV es q) HPL.out HFB.out (HFV.out es q) g3 g6
       rw[←d1,←f1]at r1
       subst r1
       obtain⟨l1,hl1⟩:∃l,l=auBy (auV es q) L:=⟨_,rfl⟩
       obtain⟨l2,hl2⟩:∃l,l=auBy (auV es q) (L++[x]):=⟨_,rfl⟩
       obtain⟨l3,hl3⟩:∃l,l=auW (auV es q) L:=⟨_,rfl⟩
       obtain⟨l4,hl4⟩:∃l,l=auW (auV es q) (L++[x]):=⟨_,rfl⟩
       have hlen:l1.length≤12∧l2.length≤12∧l3.length≤12∧l4.length≤12:=by
        rw[hl1,hl2,hl3,hl4]
        refine⟨Nat.le_trans auBy_len g1,Nat.le_trans auBy_len g4,Nat.le_trans auW_len g1,Nat.le_trans auW_len g4⟩
       rw[←hl1]at d2 d4 r2
       rw[←hl2]at f2 f4 r2
       rw[←hl3]at d3 d5 r3
       rw[←hl4]at f3 f5 r3
       obtain⟨nm,hnm⟩:∃nm,nm=P.nm:=⟨_,rfl⟩
       rw[←hnm]at r2 r3
       obtain⟨W4,hW4⟩:∃W,W=w4.alloc (.cells #[.bool a1,.slice p21 n21 c21,.slice p22 n22 c22] 33):=⟨_,rfl⟩
       have hb44:Below w4.heap.size w4 W4:=by rw[hW4];exact kqx
       have hbW4:Below V2.heap.size V2 W4:=kqt hb4 hb44
       have hB2:Blk W4 w4.heap.size #[.bool a1,.slice p21 n21 c21,.slice p22 n22 c22] 33:=by rw[hW4];exact Blk.new _ _ _ rfl
       have hB1:Blk W4 w3.heap.size #[.bool a1,.slice p11 n11 c11,.slice p12 n12 c12] 33:=HB1.out.up (kqt hb4' hb44)
       have HS3:Hid (∀w',Below W4.heap.size W4 w'→w'.cell? ⟨w3.heap.size,0,none⟩=some (.bool a1)∧w'.cell? ⟨w3.heap.size,1,none⟩=some (.slice p11 n11 c11)∧w'.cell? ⟨w3.heap.size,2,none⟩=some (.slice p12 n12 c12)∧w'.cell? ⟨w4.heap.size,0,none⟩=some (.bool a1)∧w'.cell? ⟨w4.heap.size,1,none⟩=some (.slice p21 n21 c21)∧w'.cell? ⟨w4.heap.size,2,none⟩=some (.slice p22 n22 c22)∧w'.cell? ⟨b,off+k*15,none⟩=some (.string nm)):=fun w' hW=>⟨(hB1.up hW).cell 0,(hB1.up hW).cell 1,(hB1.up hW).cell 2,(hB2.up hW).cell 0,(hB2.up hW).cell 1,(hB2.up hW).cell 2,by rw[hnm];exact HNC.out w' (kqt hbW4 hW)⟩
       obtain⟨mb,hmb⟩:∃mb,mb=amT nm l1:=⟨_,rfl⟩
       obtain⟨mw,hmw⟩:∃mw,mw=amT nm l3:=⟨_,rfl⟩
       have hmb2:amT s l2=mb:=by rw[hmb,Bool.eq_iff_iff,amT_iff,amT_iff,r2,HXN.out]
       have hmw2:amT s l4=mw:=by rw[hmw,Bool.eq_iff_iff,amT_iff,amT_iff,r3,HXN.out]
       subst d2 d3 f2 f3
       have HM1:=fun W (hW:Below W4.heap.size W4 W)=>among_any nm l1 p11 c11 W (d4.up (kqt hb33 (kqt hb4' (kqt hb44 hW)))) (by omega)
       have HM2:=fun W (hW:Below W4.heap.size W4 W)=>among_any s l2 p21 c21 W (f4.up (kqt hb44 hW)) (by omega)
       have HM3:=fun W (hW:Below W4.heap.size W4 W)=>among_any nm l3 p12 c12 W (d5.up (kqt hb33 (kqt hb4' (kqt hb44 hW)))) (by omega)
       have HM4:=fun W (hW:Below W4.heap.size W4 W)=>among_any s l4 p22 c22 W (f5.up (kqt hb44 hW)) (by omega)
       rw[←hmb]at HM1
       rw[hmb2]at HM2
       rw[←hmw]at HM3
       rw[hmw2]at HM4
       clear h1 h2 HN1 HN2 HB1 hB1 hB2 d1 d4 d5 f1 f4 f5 z2 z4 g1 g3 g4 g6 r2 r3 hl1 hl2 hl3 hl4 hlen hmb hmw hmb2 hmw2 hnm
       go_wp2_with fail
       rw[←hW4]
       clear hW4
       go_region_held3 (fun w'=>w'.cell? ⟨w3.heap.size,0,none⟩=some (.bool a1)∧w'.cell? ⟨w3.heap.size,1,none⟩=some (.slice p11 l1.length c11)∧w'.cell? ⟨w3.heap.size,2,none⟩=some (.slice p12 l3.length c12)∧w'.cell? ⟨w4.heap.size,0,none⟩=some (.bool a1)∧w'.cell? ⟨w4.heap.size,1,none⟩=some (.slice p21 l2.length c21)∧w'.cell? ⟨w4.heap.size,2,none⟩=some (.slice p22 l4.length c22)∧w'.cell? ⟨b,off+k*15,none⟩=some (.string nm)) (first | exact HS3.out _ h9 | exact HS3.out _ h8 | exact HS3.out _ h7 | exact HS3.out _ h6 | exact HS3.out _ kqx) (first
        | (go_at_call_of 16 p11
           refine(HM1 _ (by first | exact h7 | exact kqx)).mono ?_
           rintro _ w6 ⟨rfl,qh6⟩
           have h6:Below W4.heap.size W4 w6:=kqt (by first | exact h7 | exact kqx) qh6)
        | (go_at_call_of 16 p21
           refine(HM2 _ (by first | exact h6 | exact kqx)).mono ?_
           rintro _ w7 ⟨rfl,qh7⟩
           have h7:Below W4.heap.size W4 w7:=kqt (by first | exact h6 | exact kqx) qh7)
        | (go_at_call_of 16 p12
           refine(HM3 _ (by first | exact h9 | exact h7 | exact h6 | exact kqx)).mono ?_
           rintro _ w8 ⟨rfl,qh8⟩
           have h8:Below W4.heap.size W4 w8:=kqt (by first | exact h9 | exact h7 | exact h6 | exact kqx) qh8)
        | (go_at_call_of 16 p22
           refine(HM4 _ (by first | exact h8 | exact h7 | exact h6 | exact kqx)).mono ?_
           rintro _ w9 ⟨rfl,qh9⟩
           have h9:Below W4.heap.size W4 w9:=kqt (by first | exact h8 | exact h7 | exact h6 | exact kqx) qh9))
       all_goals
        go_wp2_with fail
        go_ret
        first
         | exact⟨by simp,kqt hbW (kqt hbW4 h9)⟩
         | exact⟨by simp,kqt hbW (kqt hbW4 h8)⟩
     · obtain⟨e2,he2⟩:=ev_nn h2
       rw[he2]
       clear h1 h2 HN1 HN2 he2
       go_wp2_with fail
       go_ret
       exact⟨rfl,kqt hbW (kqt hb4 kqx)⟩
   · obtain⟨e1,he1⟩:=ev_nn h1
     rw[he1]
     obtain⟨e2,he2⟩:∃e2,e2=eV (auE es q (L++[x])):=⟨_,rfl⟩
     rw[←he2]
     clear h1 HN1 HN2 he1 he2
     go_wp2_with fail
     go_ret
     exact⟨rfl,kqt hbW (kqt hb4 kqx)⟩
end Go.Proofs.YtipcngglmebiiaaGreatDoor
