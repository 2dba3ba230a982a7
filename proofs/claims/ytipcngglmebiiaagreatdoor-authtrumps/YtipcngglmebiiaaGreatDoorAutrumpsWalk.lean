import Derived.Test.YtipcngglmebiiaaGreatDoorA37
import Derived.Test.YtipcngglmebiiaaGreatDoorA26
import Derived.Test.YtipcngglmebiiaaGreatDoorA12
import Derived.Test.YtipcngglmebiiaaGreatDoorA24
import Derived.Test.YtipcngglmebiiaaGreatDoorA21
import Derived.Deep.RegionHeld
set_option linter.unusedVariables false
set_option maxHeartbeats 12000000
namespace Go.Proofs.YtipcngglmebiiaaGreatDoor
open Go.RowKit Go.Deep
set_option linter.unusedSimpArgs false
set_option maxRecDepth 100000
theorem autrumps_walk (es:List En)(ps:Option Addr)(cs:Nat)(L:List Po)(pl:Option Addr)(cl:Nat)(q:Rq)(pq:Option Addr)(cq:Nat)(w:World)(ha:EvArg w es ps q pq cq)(hP:PArg w L L.length pl cl):
 Calls Tryz.prog 4 #[.slice ps es.length cs,.slice pl L.length cl,reqV q pq cq] w fun e w'=>e= .returned (.bool true)∧Below w.heap.size w w':=by
 obtain⟨V,hV⟩:∃V,V=w.alloc (.cells #[.string q.who.t,.string q.who.i,.string q.act.t,.string q.act.i,.string q.what.t,.string q.what.i,.slice pq q.cx.length cq] 28):=⟨_,rfl⟩
 have hbV:Below w.heap.size w V:=by rw[hV];exact kqx
 have HA:Hid (∀W,Below V.heap.size V W→QB W w.heap.size q pq cq):=fun W hW=>by
  have h1:QB V w.heap.size q pq cq:=by rw[hV];exact QB.new w q pq cq
  exact h1.up hW
 have HEA:Hid (∀W,Below V.heap.size V W→EvArg W es ps q pq cq):=fun W hW=>ha.up (kqt hbV hW)
 have HPA:Hid (∀W,Below V.heap.size V W→PArg W L L.length pl cl):=fun W hW=>hP.up (kqt hbV hW)
 obtain⟨n,hn⟩:∃n,n=L.length:=⟨_,rfl⟩
 have hPM:=permitted_any V (HEA.out V (Below.refl _ _)).er
 have HK:=fun L' n' pl cl W ha hp=>ask_pols es ps cs L' n' pl cl q pq cq W ha hp
 have H64:Hid (∀x∈L,P64 x):=hP.num
 have hcm:=hP.cm
 unfold maxLen at hcm
 have hle:=hP.le
 rw[←hn]at HPA hle ⊢
 have HN:Hid (n=L.length):=hn
 clear hn ha hP
 unfold reqV at *
 go_enter Tryz.func4,Tryz.ntmps4
 go_wp2_with fail
 rw[←hV]
 clear hV
 refine hPM.mono ?_
 rintro _ w2 ⟨rfl,hb2⟩
 clear hPM
 obtain⟨y0,y1,y2,y3,y4,y5,y6⟩:=(HA.out w2 hb2).cells
 have lq:w.heap.size<w2.heap.size:=(HA.out w2 hb2).lt
 go_wp2_with fail
 refine(HK L n pl cl _ (HEA.out _ hb2) (HPA.out _ hb2)).mono ?_
 rintro _ w3 ⟨hr3,hb3'⟩
 have hb3:Below V.heap.size V w3:=kqt hb2 hb3'
 obtain⟨a1,p11,n11,c11,p12,n12,c12,rfl,han1⟩:=hr3.any
 clear hr3 y0 y1 y2 y3 y4 y5 y6 lq hb3'
 obtain⟨G,hG⟩:∃W,W=w3.alloc (.cells #[.bool a1,.slice p11 n11 c11,.slice p12 n12 c12] 33):=⟨_,rfl⟩
 have hb3G:Below w3.heap.size w3 G:=by rw[hG];exact kqx
 have hbVG:Below V.heap.size V G:=kqt hb3 hb3G
 have HB1:Hid (∀W,Below G.heap.size G W→Blk W w3.heap.size #[.bool a1,.slice p11 n11 c11,.slice p12 n12 c12] 33):=fun W hW=>by
  have:Blk G w3.heap.size #[.bool a1,.slice p11 n11 c11,.slice p12 n12 c12] 33:=by rw[hG];exact Blk.new _ _ _ rfl
  exact this.up hW
 by_cases h1:auE es q L=0
 · rw[eV_nil h1]
   obtain⟨hal,hn1,hn2,ht1,ht2⟩:=han1 h1
   obtain⟨f,hf⟩:∃f,f=auV es q:=⟨_,rfl⟩
   obtain⟨By,hBy⟩:∃By,By=auBy f L:=⟨_,rfl⟩
   obtain⟨Wr,hWr⟩:∃Wr,Wr=auW f L:=⟨_,rfl⟩
   rw[←hf,←hBy]at hn1 ht1
   rw[←hf,←hWr]at hn2 ht2
   rw[←hf]at hal
   subst hn1 hn2
   obtain⟨z1,z2,z3⟩:=auE_zero.1 h1
   obtain⟨g1,g2,g3⟩:=auC_zero.1 z2
   have HOK:Hid (∀p∈L,auOk p):=g2
   have HST:Hid (stf es=0∧askf q=0):=⟨z1,z3⟩
   have HWN:Hid (∀p∈L,amT p.nm Wr=decide (f p= -1)):=fun p hp=>by
    rw[Bool.eq_iff_iff,amT_iff,decide_eq_true_iff,hWr]
    exact auW_nm g3 hp
   have HBN:Hid (∀p∈L,amT p.nm By=true→f p=1):=fun p hp h=>by
    rw[amT_iff,hBy]at h
    exact auBy_nm g3 hp h
   have hbl:Wr.length≤12:=by rw[hWr];exact Nat.le_trans auW_len g1
   have hbm:By.length≤12:=by rw[hBy];exact Nat.le_trans auBy_len g1
   have HBE:Hid (By.isEmpty=true↔∀p∈L,f p≠1):=by rw[hBy];exact auBy_no
   have HAM:=fun s W (hW:Below G.heap.size G W)=>among_any s Wr p12 c12 W (ht2.up (kqt hb3G hW)) (by omega)
   have HAN:=fun s W (hW:Below G.heap.size G W)=>among_any s By p11 c11 W (ht1.up (kqt hb3G hW)) (by omega)
   have hn12:n≤12:=by rw[HN.out];exact g1
   have HFE:Hid (f=auV es q):=hf
   have HAL:Hid (a1=auAl f L):=hal
   clear han1 hal ht1 ht2 h1 z1 z2 z3 g1 g2 g3 hf hWr hBy
   go_wp2_with fail
   rw[←hG]
   clear hG
   go_loopw [10,11,12] (fun u v i wr=>∃(k:Nat) (pb fb:Bool),k≤n∧i= .int .i64 k∧u= .bool pb∧v= .bool fb∧Hid (Below G.heap.size G wr)∧Hid ((pb=true↔∃p∈L.take k,p.fb=false∧f p=1)∧(fb=true↔∃p∈L.take k,p.fb=true∧f p=1))) (fun _ _ i _=>n-(intOf i).toNat)
   case atStart=>exact⟨0,false,false,Nat.zero_le _,rfl,rfl,rfl,Below.refl _ _,by simp[Hid]⟩
   case round=>
    obtain⟨k,pb,fb,hk,rfl,rfl,rfl,HB,HD⟩:=hrel
    have hbr:Below V.heap.size V wr:=kqt hbVG HB.out
    by_cases hlt:k<n
    · have i1:(k:Int)<(n:Int):=by omega
      have hkl:k<L.length:=by have:=HN.out;omega
      have HTK:Hid (L.take (k+1)=L.take k++[L[k]]):=List.take_succ_eq_append_getElem hkl
      have HYM:Hid (L[k]∈L):=List.getElem_mem hkl
      obtain⟨b,off,pc,cc,e0,hbw,hpo,k0,k1,k2,k3,k4,k5,k6,k7,k8,k9,k10,k11,k12,k13,k14⟩:=(HPA.out wr hbr).pl.at hkl
      subst e0
      generalize L[k]=y at *
      have hok:=HOK.out y HYM.out
      have HEX:=expr_good hpo hok.1 hok.2.1
      have HVA:=fun W (hW:Below wr.heap.size wr W) q2 c2 (hA:AK0 W (poE y) q2 c2)=>auval_any cs hok HST.out.1 HST.out.2 (H64.out y HYM.out) W (HEA.out W (kqt hbr hW)) hA
      obtain⟨ne,hne⟩:∃n,n=(poE y).length:=⟨_,rfl⟩
      obtain⟨pv,hpv⟩:∃pv,pv=pvL es q y:=⟨_,rfl⟩
      obtain⟨mw,hmw⟩:∃mw,mw=amT y.nm Wr:=⟨_,rfl⟩
      obtain⟨mb,hmb⟩:∃mb,mb=amT y.nm By:=⟨_,rfl⟩
      have hmw2:=HWN.out y HYM.out
      have hmb2:=HBN.out y HYM.out
      rw[←hmw]at hmw2
      rw[←hmb]at hmb2
      have hfy:f y=votE pv:=by rw[HFE.out,hpv];exact auV_vote es q y
      obtain⟨nm,hnm⟩:∃nm,nm=y.nm:=⟨_,rfl⟩
      have HM2:=HAM nm
      have HM1:=HAN nm
      rw[hnm,←hmw]at HM2
      rw[hnm,←hmb]at HM1
      rw[←hnm]at HM1 HM2
      rw[←hne]at HEX HVA
      rw[←hpv]at HVA
      obtain⟨fbv,hfv⟩:∃fbv,fbv=y.fb:=⟨_,rfl⟩
      have HYC:Hid (∀W,Below wr.heap.size wr W→W.cell? ⟨b,off+k*15,none⟩=some (.string nm)∧W.cell? ⟨b,off+k*15+1,none⟩=some (.bool fbv)):=fun W hW=>by
       rw[hnm,hfv]
       exact⟨(hW.cell (p:=⟨b,off+k*15,none⟩) hbw).trans k0,(hW.cell (p:=⟨b,off+k*15+1,none⟩) hbw).trans k1⟩
      have HNX:Hid (_∧_):=al_step (y:=y) HD.out
      have HFV:Hid (y.fb=fbv):=hfv.symm
      unfold poV at HEX
      clear hpo hok hne hpv hmw hmb hnm hfv hbw
      go_wp2_with fail
      refine HEX.mono ?_
      rintro _ w4 ⟨⟨q2,c2,rfl,hak⟩,hb4⟩
      clear k0 k1 k2 k3 k4 k5 k6 k7 k8 k9 k10 k11 k12 k13 k14 HEX
      have hbr4:=kqt hbr hb4
      obtain⟨y0,y1,y2,y3,y4,y5,y6⟩:=(HA.out w4 hbr4).cells
      have lq:w.heap.size<w4.heap.size:=(HA.out w4 hbr4).lt
      go_wp2_with fail
      refine(HVA _ hb4 q2 c2 hak).mono ?_
      rintro _ w5 ⟨⟨v,fe,rfl,hans⟩,hb5⟩
      clear hak HVA y0 y1 y2 y3 y4 y5 y6 lq
      have hbw5:=kqt hb4 hb5
      have HTR:=refTruth_any
      have HVX:Hid (∃(va:List Nd) (qv:Option Addr) (cv:Nat),v= .slice qv va.length cv∧NL w5 qv va∧va.length≤1∧((fe= .nilIface∧∃bb,pv= .ok bb∧va=tN bb)∨((∃x,fe= .iface 71 x)∧va=[]∧∃m,pv= .error m))):=by
       cases pv with
       | error m=>obtain⟨rfl,rfl⟩:=hans;exact⟨[],none,0,rfl,.inl rfl,by simp,.inr ⟨⟨_,rfl⟩,rfl,m,rfl⟩⟩
       | ok bb=>obtain⟨qv,cv,rfl,rfl,hva⟩:=hans;exact⟨tN bb,qv,cv,rfl,hva.nl,by simp[tN],.inl ⟨rfl,bb,rfl,rfl⟩⟩
      clear hans
      obtain⟨va,qv,cv,rfl,hnv,hvl,hway⟩:=HVX.out
      clear HVX
      obtain⟨nv,hnv2⟩:∃nv,nv=va.length:=⟨_,rfl⟩
      rw[←hnv2]at hvl ⊢
      have HWAY:Hid (_∨_):=hway
      have HNV:Hid (nv=va.length):=hnv2
      clear hway hnv2
      go_wp2_with fail
      refine(HTR _ true).mono ?_
      rintro _ w6 ⟨⟨qt,ct,rfl,hvt⟩,hb6⟩
      have HSN:=sameNodes_any va (tN true) qv qt cv ct w6 (hnv.up hb6) hvt.nl (by unfold maxLen;have:=HNV.out;omega) (by unfold maxLen;simp[tN])
      rw[←HNV.out,show(tN true).length=1 from rfl]at HSN
      clear hvt HTR
      go_wp2_with fail
      refine HSN.mono ?_
      rintro _ wz ⟨rfl,nz,hz⟩
      have hb7z:Below w6.heap.size w6 wz:=by rw[hz];exact⟨rfl,rfl,rfl,Nat.le_refl _,fun _ _=>rfl⟩
      have hb5z:=kqt hb6 hb7z
      have hbwz:=kqt hbw5 hb5z
      have hbz:Below G.heap.size G wz:=kqt HB.out hbwz
      have hnz:=hnv.up hb5z
      clear HSN hz hnv hb6 hb7z hb5z
      obtain⟨u0,u1⟩:=HYC.out wz hbwz
      rcases HWAY.out with⟨rfl,bb,rfl,rfl⟩ | ⟨⟨x,rfl⟩,rfl,m,rfl⟩
      · have h1v:nv=1:=HNV.out
        subst h1v
        cases bb
        · obtain⟨bv,ov,e1,hbv,hcv⟩:=hnz.at (i:=0) (by simp[tN])
          subst e1
          have c0:wz.cell? ⟨bv,ov,none⟩=some (.int .i64 1):=by simpa[tN]using hcv.1
          have hs:sameNd (tN false) (tN true)=false:=sameNd_no (by simp[tN])
          rw[hs]
          have hf1:f y=0:=hfy
          have hmw3:mw=false:=by rw[hmw2,hf1];rfl
          have hmb3:mb=false:=by
           cases h:mb with
           | false=>rfl
           | true=>have:=hmb2 h;omega
          subst hmw3 hmb3
          have HF1:Hid (¬f y=1):=by show ¬_;omega
          clear hmw2 hmb2 hfy hf1 hs hcv hnz
          go_wp2_with fail
          obtain⟨S3,hS3⟩:∃S3:World→Prop,S3=fun w'=>w'.cell? ⟨b,off+k*15,none⟩=some (.string nm)∧w'.cell? ⟨w3.heap.size,1,none⟩=some (.slice p11 By.length c11)∧w'.cell? ⟨w3.heap.size,2,none⟩=some (.slice p12 Wr.length c12):=⟨_,rfl⟩
          have HS3:Hid (∀w',Below wz.heap.size wz w'→S3 w'):=fun w' hW=>by
           rw[hS3]
           have h1:=HB1.out w' (kqt hbz hW)
           exact⟨(HYC.out w' (kqt hbwz hW)).1,h1.cell 1,h1.cell 2⟩
          obtain⟨Z3,hZ3⟩:∃Z3,Z3=wz.drew:=⟨_,rfl⟩
          have hb3:Below wz.heap.size wz Z3:=by rw[hZ3];exact kqx
          have hbG3:Below G.heap.size G Z3:=kqt hbz hb3
          go_wp2_with fail
          refine wp_region_held_drew (S:=S3) (by kernel_rfl) (by rw[←hZ3];exact HS3.out _ hb3) (fun hHeld=>?_)
          rw[←hZ3]at hHeld ⊢
          clear hZ3
          refine wpAnyH_take (i:=0) (v:=?_) rfl (by kernel_rfl) (by kernel_rfl) (by kernel_rfl) (fun _ _ _ h=>h) (Or.inl ⟨by kernel_rfl,?_⟩) (by assumption) ?_
          rotate_left
          · intro w hSw
            rw[hS3]at hSw
            obtain⟨q0,q1,q2⟩:=hSw
            go_simp
            all_goals with_reducible rfl
          try simp only[Act.put,List.getElem_toArray,List.getElem_cons_succ,List.getElem_cons_zero,List.setIfInBounds_toArray,List.set_cons_zero,List.set_cons_succ]
          refine wpAnyH_take (i:=1) (v:=?_) rfl (by kernel_rfl) (by kernel_rfl) (by kernel_rfl) (fun _ _ _ h=>h) (Or.inl ⟨by kernel_rfl,?_⟩) (by assumption) ?_
          rotate_left
          · intro w hSw
            rw[hS3]at hSw
            obtain⟨q0,q1,q2⟩:=hSw
            go_simp
            all_goals with_reducible rfl
          try simp only[Act.put,List.getElem_toArray,List.getElem_cons_succ,List.getElem_cons_zero,List.setIfInBounds_toArray,List.set_cons_zero,List.set_cons_succ]
          refine wpAnyH_take (i:=2) (v:=?_) rfl (by kernel_rfl) (by kernel_rfl) (by kernel_rfl) (fun _ _ _ h=>h) (Or.inl ⟨by kernel_rfl,?_⟩) (by assumption) ?_
          rotate_left
          · intro w hSw
            rw[hS3]at hSw
            obtain⟨q0,q1,q2⟩:=hSw
            go_simp
            all_goals with_reducible rfl
          try simp only[Act.put,List.getElem_toArray,List.getElem_cons_succ,List.getElem_cons_zero,List.setIfInBounds_toArray,List.set_cons_zero,List.set_cons_succ]
          refine wpAnyH_take (i:=3) (v:=?_) rfl (by kernel_rfl) (by kernel_rfl) (by kernel_rfl) (fun _ _ _ h=>h) (Or.inl ⟨by kernel_rfl,?_⟩) (by assumption) ?_
          rotate_left
          · intro w hSw
            rw[hS3]at hSw
            obtain⟨q0,q1,q2⟩:=hSw
            go_simp
            all_goals with_reducible rfl
          try simp only[Act.put,List.getElem_toArray,List.getElem_cons_succ,List.getElem_cons_zero,List.setIfInBounds_toArray,List.set_cons_zero,List.set_cons_succ]
          refine wpAnyH_take (i:=4) (v:=?_) rfl (by kernel_rfl) (by kernel_rfl) (by kernel_rfl) (fun _ _ _ h=>h) (Or.inl ⟨by kernel_rfl,?_⟩) (by assumption) ?_
          rotate_left
          · intro w hSw
            rw[hS3]at hSw
            obtain⟨q0,q1,q2⟩:=hSw
            go_simp
            all_goals with_reducible rfl
          try simp only[Act.put,List.getElem_toArray,List.getElem_cons_succ,List.getElem_cons_zero,List.setIfInBounds_toArray,List.set_cons_zero,List.set_cons_succ]
          refine wpAnyH_take (i:=5) (v:=?_) rfl (by kernel_rfl) (by kernel_rfl) (by kernel_rfl) (fun _ _ _ h=>h) (Or.inl ⟨by kernel_rfl,?_⟩) (by assumption) ?_
          rotate_left
          · intro w hSw
            rw[hS3]at hSw
            obtain⟨q0,q1,q2⟩:=hSw
            go_simp
            all_goals with_reducible rfl
          try simp only[Act.put,List.getElem_toArray,List.getElem_cons_succ,List.getElem_cons_zero,List.setIfInBounds_toArray,List.set_cons_zero,List.set_cons_succ]
          refine wpAnyH_take (i:=6) (v:=?_) rfl (by kernel_rfl) (by kernel_rfl) (by kernel_rfl) (fun _ _ _ h=>h) (Or.inl ⟨by kernel_rfl,?_⟩) (by assumption) ?_
          rotate_left
          · intro w hSw
            rw[hS3]at hSw
            obtain⟨q0,q1,q2⟩:=hSw
            go_simp
            all_goals with_reducible rfl
          try simp only[Act.put,List.getElem_toArray,List.getElem_cons_succ,List.getElem_cons_zero,List.setIfInBounds_toArray,List.set_cons_zero,List.set_cons_succ]
          refine wpAnyH_take (i:=8) (v:=?_) rfl (by kernel_rfl) (by kernel_rfl) (by kernel_rfl) (fun _ _ _ h=>h) (Or.inl ⟨by kernel_rfl,?_⟩) (by assumption) ?_
          rotate_left
          · intro w hSw
            rw[hS3]at hSw
            obtain⟨q0,q1,q2⟩:=hSw
            go_simp
            all_goals with_reducible rfl
          try simp only[Act.put,List.getElem_toArray,List.getElem_cons_succ,List.getElem_cons_zero,List.setIfInBounds_toArray,List.set_cons_zero,List.set_cons_succ]
          refine wpAnyH_ready (rs:=[7]) (by kernel_rfl) (by simp) ?_
          refine AllReadyH.cons rfl (fun K hK=>?_) (AllReadyH.nil)
          rw[if_pos (by rfl)]
          go_simp
          go_wp2_with fail
          refine(HM2 _ hbG3).mono ?_
          rintro _ w7 ⟨rfl,h7'⟩
          have h7:Below G.heap.size G w7:=kqt hbG3 h7'
          have h7x:Below wz.heap.size wz w7:=kqt hb3 h7'
          refine hK.out _ _ (HS3.out _ h7x) (fun hHeld=>?_)
          clear hK K
          try simp only[Act.put,List.getElem_toArray,List.getElem_cons_succ,List.getElem_cons_zero,List.setIfInBounds_toArray,List.set_cons_zero,List.set_cons_succ]
          refine wpAnyH_take (i:=9) (v:=?_) rfl (by kernel_rfl) (by kernel_rfl) (by kernel_rfl) (fun _ _ _ h=>h) (Or.inl ⟨by kernel_rfl,?_⟩) (by assumption) ?_
          rotate_left
          · intro w hSw
            rw[hS3]at hSw
            obtain⟨q0,q1,q2⟩:=hSw
            go_simp
            all_goals with_reducible rfl
          try simp only[Act.put,List.getElem_toArray,List.getElem_cons_succ,List.getElem_cons_zero,List.setIfInBounds_toArray,List.set_cons_zero,List.set_cons_succ]
          refine wpAnyH_take (i:=10) (v:=?_) rfl (by kernel_rfl) (by kernel_rfl) (by kernel_rfl) (fun _ _ _ h=>h) (Or.inl ⟨by kernel_rfl,?_⟩) (by assumption) ?_
          rotate_left
          · intro w hSw
            rw[hS3]at hSw
            obtain⟨q0,q1,q2⟩:=hSw
            go_simp
            all_goals with_reducible rfl
          try simp only[Act.put,List.getElem_toArray,List.getElem_cons_succ,List.getElem_cons_zero,List.setIfInBounds_toArray,List.set_cons_zero,List.set_cons_succ]
          refine wpAnyH_take (i:=11) (v:=?_) rfl (by kernel_rfl) (by kernel_rfl) (by kernel_rfl) (fun _ _ _ h=>h) (Or.inl ⟨by kernel_rfl,?_⟩) (by assumption) ?_
          rotate_left
          · intro w hSw
            rw[hS3]at hSw
            obtain⟨q0,q1,q2⟩:=hSw
            go_simp
            all_goals with_reducible rfl
          try simp only[Act.put,List.getElem_toArray,List.getElem_cons_succ,List.getElem_cons_zero,List.setIfInBounds_toArray,List.set_cons_zero,List.set_cons_succ]
          refine wpAnyH_take (i:=12) (v:=?_) rfl (by kernel_rfl) (by kernel_rfl) (by kernel_rfl) (fun _ _ _ h=>h) (Or.inl ⟨by kernel_rfl,?_⟩) (by assumption) ?_
          rotate_left
          · intro w hSw
            rw[hS3]at hSw
            obtain⟨q0,q1,q2⟩:=hSw
            go_simp
            all_goals with_reducible rfl
          try simp only[Act.put,List.getElem_toArray,List.getElem_cons_succ,List.getElem_cons_zero,List.setIfInBounds_toArray,List.set_cons_zero,List.set_cons_succ]
          refine wpAnyH_take (i:=13) (v:=?_) rfl (by kernel_rfl) (by kernel_rfl) (by kernel_rfl) (fun _ _ _ h=>h) (Or.inl ⟨by kernel_rfl,?_⟩) (by assumption) ?_
          rotate_left
          · intro w hSw
            rw[hS3]at hSw
            obtain⟨q0,q1,q2⟩:=hSw
            go_simp
            all_goals with_reducible rfl
          try simp only[Act.put,List.getElem_toArray,List.getElem_cons_succ,List.getElem_cons_zero,List.setIfInBounds_toArray,List.set_cons_zero,List.set_cons_succ]
          refine wpAnyH_take (i:=14) (v:=?_) rfl (by kernel_rfl) (by kernel_rfl) (by kernel_rfl) (fun _ _ _ h=>h) (Or.inl ⟨by kernel_rfl,?_⟩) (by assumption) ?_
          rotate_left
          · intro w hSw
            rw[hS3]at hSw
            obtain⟨q0,q1,q2⟩:=hSw
            go_simp
            all_goals with_reducible rfl
          try simp only[Act.put,List.getElem_toArray,List.getElem_cons_succ,List.getElem_cons_zero,List.setIfInBounds_toArray,List.set_cons_zero,List.set_cons_succ]
          refine wpAnyH_take (i:=15) (v:=?_) rfl (by kernel_rfl) (by kernel_rfl) (by kernel_rfl) (fun _ _ _ h=>h) (Or.inl ⟨by kernel_rfl,?_⟩) (by assumption) ?_
          rotate_left
          · intro w hSw
            rw[hS3]at hSw
            obtain⟨q0,q1,q2⟩:=hSw
            go_simp
            all_goals with_reducible rfl
          try simp only[Act.put,List.getElem_toArray,List.getElem_cons_succ,List.getElem_cons_zero,List.setIfInBounds_toArray,List.set_cons_zero,List.set_cons_succ]
          refine wpAnyH_take (i:=16) (v:=?_) rfl (by kernel_rfl) (by kernel_rfl) (by kernel_rfl) (fun _ _ _ h=>h) (Or.inl ⟨by kernel_rfl,?_⟩) (by assumption) ?_
          rotate_left
          · intro w hSw
            rw[hS3]at hSw
            obtain⟨q0,q1,q2⟩:=hSw
            go_simp
            all_goals with_reducible rfl
          try simp only[Act.put,List.getElem_toArray,List.getElem_cons_succ,List.getElem_cons_zero,List.setIfInBounds_toArray,List.set_cons_zero,List.set_cons_succ]
          refine wpAnyH_take (i:=17) (v:=?_) rfl (by kernel_rfl) (by kernel_rfl) (by kernel_rfl) (fun _ _ _ h=>h) (Or.inl ⟨by kernel_rfl,?_⟩) (by assumption) ?_
          rotate_left
          · intro w hSw
            rw[hS3]at hSw
            obtain⟨q0,q1,q2⟩:=hSw
            go_simp
            all_goals with_reducible rfl
          try simp only[Act.put,List.getElem_toArray,List.getElem_cons_succ,List.getElem_cons_zero,List.setIfInBounds_toArray,List.set_cons_zero,List.set_cons_succ]
          refine wpAnyH_ready (rs:=[18]) (by kernel_rfl) (by simp) ?_
          refine AllReadyH.cons rfl (fun K hK=>?_) (AllReadyH.nil)
          rw[if_pos (by rfl)]
          go_simp
          go_wp2_with fail
          refine(HM1 _ h7).mono ?_
          rintro _ w8 ⟨rfl,h8'⟩
          have h8:Below G.heap.size G w8:=kqt h7 h8'
          have h8x:Below wz.heap.size wz w8:=kqt h7x h8'
          refine hK.out _ _ (HS3.out _ h8x) (fun hHeld=>?_)
          clear hK K
          try simp only[Act.put,List.getElem_toArray,List.getElem_cons_succ,List.getElem_cons_zero,List.setIfInBounds_toArray,List.set_cons_zero,List.set_cons_succ]
          refine wpAnyH_take (i:=19) (v:=?_) rfl (by kernel_rfl) (by kernel_rfl) (by kernel_rfl) (fun _ _ _ h=>h) (Or.inl ⟨by kernel_rfl,?_⟩) (by assumption) ?_
          rotate_left
          · intro w hSw
            rw[hS3]at hSw
            obtain⟨q0,q1,q2⟩:=hSw
            go_simp
            all_goals with_reducible rfl
          try simp only[Act.put,List.getElem_toArray,List.getElem_cons_succ,List.getElem_cons_zero,List.setIfInBounds_toArray,List.set_cons_zero,List.set_cons_succ]
          first
           | (refine wpAnyH_take (i:=20) (v:=undef) rfl (by kernel_rfl) (by kernel_rfl) (by kernel_rfl) (fun _ _ _ h=>h) (Or.inr ⟨by rfl,rfl⟩) (by assumption) ?_)
           | (refine wpAnyH_take (i:=20) (v:=?_) rfl (by kernel_rfl) (by kernel_rfl) (by kernel_rfl) (fun _ _ _ h=>h) (Or.inl ⟨by kernel_rfl,?_⟩) (by assumption) ?_
              rotate_left
              · intro w hSw
                rw[hS3]at hSw
                obtain⟨q0,q1,q2⟩:=hSw
                go_simp
                all_goals with_reducible rfl)
          try simp only[Act.put,List.getElem_toArray,List.getElem_cons_succ,List.getElem_cons_zero,List.setIfInBounds_toArray,List.set_cons_zero,List.set_cons_succ]
          first
           | (refine wpAnyH_take (i:=21) (v:=undef) rfl (by kernel_rfl) (by kernel_rfl) (by kernel_rfl) (fun _ _ _ h=>h) (Or.inr ⟨by rfl,rfl⟩) (by assumption) ?_)
           | (refine wpAnyH_take (i:=21) (v:=?_) rfl (by kernel_rfl) (by kernel_rfl) (by kernel_rfl) (fun _ _ _ h=>h) (Or.inl ⟨by kernel_rfl,?_⟩) (by assumption) ?_
              rotate_left
              · intro w hSw
                rw[hS3]at hSw
                obtain⟨q0,q1,q2⟩:=hSw
                go_simp
                all_goals with_reducible rfl)
          try simp only[Act.put,List.getElem_toArray,List.getElem_cons_succ,List.getElem_cons_zero,List.setIfInBounds_toArray,List.set_cons_zero,List.set_cons_succ]
          refine wpAnyH_take (i:=22) (v:=?_) rfl (by kernel_rfl) (by kernel_rfl) (by kernel_rfl) (fun _ _ _ h=>h) (Or.inl ⟨by kernel_rfl,?_⟩) (by assumption) ?_
          rotate_left
          · intro w hSw
            rw[hS3]at hSw
            obtain⟨q0,q1,q2⟩:=hSw
            go_simp
            all_goals with_reducible rfl
          try simp only[Act.put,List.getElem_toArray,List.getElem_cons_succ,List.getElem_cons_zero,List.setIfInBounds_toArray,List.set_cons_zero,List.set_cons_succ]
          refine wpAnyH_take (i:=23) (v:=?_) rfl (by kernel_rfl) (by kernel_rfl) (by kernel_rfl) (fun _ _ _ h=>h) (Or.inl ⟨by kernel_rfl,?_⟩) (by assumption) ?_
          rotate_left
          · intro w hSw
            rw[hS3]at hSw
            obtain⟨q0,q1,q2⟩:=hSw
            go_simp
            all_goals with_reducible rfl
          try simp only[Act.put,List.getElem_toArray,List.getElem_cons_succ,List.getElem_cons_zero,List.setIfInBounds_toArray,List.set_cons_zero,List.set_cons_succ]
          refine wpAnyH_done (by kernel_rfl) ?_ _
          clear hHeld hS3 HS3
          have h:=HNX.out
          have HNY:Hid (_∧_):=h
          clear h
          go_wp2_with fail
          go_roundw
          case rel=>
           refine⟨k+1,_,_,by omega,by go_num,rfl,rfl,h8,?_⟩
           show _∧_
           rw[HTK.out]
           have h:=HNY.out
           have hf1:=HF1.out
           simpa[hf1]using h
          case measure=>simp[intOf];omega
        · obtain⟨bv,ov,e1,hbv,hcv⟩:=hnz.at (i:=0) (by simp[tN])
          subst e1
          have c0:wz.cell? ⟨bv,ov,none⟩=some (.int .i64 1):=by simpa[tN]using hcv.1
          have hs:sameNd (tN true) (tN true)=true:=(sameNd_iff _ _).2 rfl
          rw[hs]
          have hf1:f y=1:=hfy
          have hmw3:mw=false:=by rw[hmw2,hf1];rfl
          subst hmw3
          clear hmw2 hmb2 hfy hs hcv hnz
          have HFQ:Hid (f y=1):=hf1
          clear hf1
          cases fbv<;>cases mb
          all_goals
           have HF1:Hid (f y=1∧y.fb=_):=⟨HFQ.out,HFV.out⟩
           go_wp2_with fail
           obtain⟨S3,hS3⟩:∃S3:World→Prop,S3=fun w'=>w'.cell? ⟨b,off+k*15,none⟩=some (.string nm)∧w'.cell? ⟨w3.heap.size,1,none⟩=some (.slice p11 By.length c11)∧w'.cell? ⟨w3.heap.size,2,none⟩=some (.slice p12 Wr.length c12):=⟨_,rfl⟩
           have HS3:Hid (∀w',Below wz.heap.size wz w'→S3 w'):=fun w' hW=>by
            rw[hS3]
            have h1:=HB1.out w' (kqt hbz hW)
            exact⟨(HYC.out w' (kqt hbwz hW)).1,h1.cell 1,h1.cell 2⟩
           obtain⟨Z3,hZ3⟩:∃Z3,Z3=wz.drew:=⟨_,rfl⟩
           have hb3:Below wz.heap.size wz Z3:=by rw[hZ3];exact kqx
           have hbG3:Below G.heap.size G Z3:=kqt hbz hb3
           go_wp2_with fail
           refine wp_region_held_drew (S:=S3) (by kernel_rfl) (by rw[←hZ3];exact HS3.out _ hb3) (fun hHeld=>?_)
           rw[←hZ3]at hHeld ⊢
           clear hZ3
           refine wpAnyH_take (i:=0) (v:=?_) rfl (by kernel_rfl) (by kernel_rfl) (by kernel_rfl) (fun _ _ _ h=>h) (Or.inl ⟨by kernel_rfl,?_⟩) (by assumption) ?_
           rotate_left
           · intro w hSw
             rw[hS3]at hSw
             obtain⟨q0,q1,q2⟩:=hSw
             go_simp
             all_goals with_reducible rfl
           try simp only[Act.put,List.getElem_toArray,List.getElem_cons_succ,List.getElem_cons_zero,List.setIfInBounds_toArray,List.set_cons_zero,List.set_cons_succ]
           refine wpAnyH_take (i:=1) (v:=?_) rfl (by kernel_rfl) (by kernel_rfl) (by kernel_rfl) (fun _ _ _ h=>h) (Or.inl ⟨by kernel_rfl,?_⟩) (by assumption) ?_
           rotate_left
           · intro w hSw
             rw[hS3]at hSw
             obtain⟨q0,q1,q2⟩:=hSw
             go_simp
             all_goals with_reducible rfl
           try simp only[Act.put,List.getElem_toArray,List.getElem_cons_succ,List.getElem_cons_zero,List.setIfInBounds_toArray,List.set_cons_zero,List.set_cons_succ]
           refine wpAnyH_take (i:=2) (v:=?_) rfl (by kernel_rfl) (by kernel_rfl) (by kernel_rfl) (fun _ _ _ h=>h) (Or.inl ⟨by kernel_rfl,?_⟩) (by assumption) ?_
           rotate_left
           · intro w hSw
             rw[hS3]at hSw
             obtain⟨q0,q1,q2⟩:=hSw
             go_simp
             all_goals with_reducible rfl
           try simp only[Act.put,List.getElem_toArray,List.getElem_cons_succ,List.getElem_cons_zero,List.setIfInBounds_toArray,List.set_cons_zero,List.set_cons_succ]
           refine wpAnyH_take (i:=3) (v:=?_) rfl (by kernel_rfl) (by kernel_rfl) (by kernel_rfl) (fun _ _ _ h=>h) (Or.inl ⟨by kernel_rfl,?_⟩) (by assumption) ?_
           rotate_left
           · intro w hSw
             rw[hS3]at hSw
             obtain⟨q0,q1,q2⟩:=hSw
             go_simp
             all_goals with_reducible rfl
           try simp only[Act.put,List.getElem_toArray,List.getElem_cons_succ,List.getElem_cons_zero,List.setIfInBounds_toArray,List.set_cons_zero,List.set_cons_succ]
           refine wpAnyH_take (i:=4) (v:=?_) rfl (by kernel_rfl) (by kernel_rfl) (by kernel_rfl) (fun _ _ _ h=>h) (Or.inl ⟨by kernel_rfl,?_⟩) (by assumption) ?_
           rotate_left
           · intro w hSw
             rw[hS3]at hSw
             obtain⟨q0,q1,q2⟩:=hSw
             go_simp
             all_goals with_reducible rfl
           try simp only[Act.put,List.getElem_toArray,List.getElem_cons_succ,List.getElem_cons_zero,List.setIfInBounds_toArray,List.set_cons_zero,List.set_cons_succ]
           refine wpAnyH_take (i:=5) (v:=?_) rfl (by kernel_rfl) (by kernel_rfl) (by kernel_rfl) (fun _ _ _ h=>h) (Or.inl ⟨by kernel_rfl,?_⟩) (by assumption) ?_
           rotate_left
           · intro w hSw
             rw[hS3]at hSw
             obtain⟨q0,q1,q2⟩:=hSw
             go_simp
             all_goals with_reducible rfl
           try simp only[Act.put,List.getElem_toArray,List.getElem_cons_succ,List.getElem_cons_zero,List.setIfInBounds_toArray,List.set_cons_zero,List.set_cons_succ]
           refine wpAnyH_take (i:=6) (v:=?_) rfl (by kernel_rfl) (by kernel_rfl) (by kernel_rfl) (fun _ _ _ h=>h) (Or.inl ⟨by kernel_rfl,?_⟩) (by assumption) ?_
           rotate_left
           · intro w hSw
             rw[hS3]at hSw
             obtain⟨q0,q1,q2⟩:=hSw
             go_simp
             all_goals with_reducible rfl
           try simp only[Act.put,List.getElem_toArray,List.getElem_cons_succ,List.getElem_cons_zero,List.setIfInBounds_toArray,List.set_cons_zero,List.set_cons_succ]
           refine wpAnyH_take (i:=8) (v:=?_) rfl (by kernel_rfl) (by kernel_rfl) (by kernel_rfl) (fun _ _ _ h=>h) (Or.inl ⟨by kernel_rfl,?_⟩) (by assumption) ?_
           rotate_left
           · intro w hSw
             rw[hS3]at hSw
             obtain⟨q0,q1,q2⟩:=hSw
             go_simp
             all_goals with_reducible rfl
           try simp only[Act.put,List.getElem_toArray,List.getElem_cons_succ,List.getElem_cons_zero,List.setIfInBounds_toArray,List.set_cons_zero,List.set_cons_succ]
           refine wpAnyH_ready (rs:=[7]) (by kernel_rfl) (by simp) ?_
           refine AllReadyH.cons rfl (fun K hK=>?_) (AllReadyH.nil)
           rw[if_pos (by rfl)]
           go_simp
           go_wp2_with fail
           refine(HM2 _ hbG3).mono ?_
           rintro _ w7 ⟨rfl,h7'⟩
           have h7:Below G.heap.size G w7:=kqt hbG3 h7'
           have h7x:Below wz.heap.size wz w7:=kqt hb3 h7'
           refine hK.out _ _ (HS3.out _ h7x) (fun hHeld=>?_)
           clear hK K
           try simp only[Act.put,List.getElem_toArray,List.getElem_cons_succ,List.getElem_cons_zero,List.setIfInBounds_toArray,List.set_cons_zero,List.set_cons_succ]
           refine wpAnyH_take (i:=9) (v:=?_) rfl (by kernel_rfl) (by kernel_rfl) (by kernel_rfl) (fun _ _ _ h=>h) (Or.inl ⟨by kernel_rfl,?_⟩) (by assumption) ?_
           rotate_left
           · intro w hSw
             rw[hS3]at hSw
             obtain⟨q0,q1,q2⟩:=hSw
             go_simp
             all_goals with_reducible rfl
           try simp only[Act.put,List.getElem_toArray,List.getElem_cons_succ,List.getElem_cons_zero,List.setIfInBounds_toArray,List.set_cons_zero,List.set_cons_succ]
           refine wpAnyH_take (i:=10) (v:=?_) rfl (by kernel_rfl) (by kernel_rfl) (by kernel_rfl) (fun _ _ _ h=>h) (Or.inl ⟨by kernel_rfl,?_⟩) (by assumption) ?_
           rotate_left
           · intro w hSw
             rw[hS3]at hSw
             obtain⟨q0,q1,q2⟩:=hSw
             go_simp
             all_goals with_reducible rfl
           try simp only[Act.put,List.getElem_toArray,List.getElem_cons_succ,List.getElem_cons_zero,List.setIfInBounds_toArray,List.set_cons_zero,List.set_cons_succ]
           refine wpAnyH_take (i:=11) (v:=?_) rfl (by kernel_rfl) (by kernel_rfl) (by kernel_rfl) (fun _ _ _ h=>h) (Or.inl ⟨by kernel_rfl,?_⟩) (by assumption) ?_
           rotate_left
           · intro w hSw
             rw[hS3]at hSw
             obtain⟨q0,q1,q2⟩:=hSw
             go_simp
             all_goals with_reducible rfl
           try simp only[Act.put,List.getElem_toArray,List.getElem_cons_succ,List.getElem_cons_zero,List.setIfInBounds_toArray,List.set_cons_zero,List.set_cons_succ]
           refine wpAnyH_take (i:=12) (v:=?_) rfl (by kernel_rfl) (by kernel_rfl) (by kernel_rfl) (fun _ _ _ h=>h) (Or.inl ⟨by kernel_rfl,?_⟩) (by assumption) ?_
           rotate_left
           · intro w hSw
             rw[hS3]at hSw
             obtain⟨q0,q1,q2⟩:=hSw
             go_simp
             all_goals with_reducible rfl
           try simp only[Act.put,List.getElem_toArray,List.getElem_cons_succ,List.getElem_cons_zero,List.setIfInBounds_toArray,List.set_cons_zero,List.set_cons_succ]
           refine wpAnyH_take (i:=13) (v:=?_) rfl (by kernel_rfl) (by kernel_rfl) (by kernel_rfl) (fun _ _ _ h=>h) (Or.inl ⟨by kernel_rfl,?_⟩) (by assumption) ?_
           rotate_left
           · intro w hSw
             rw[hS3]at hSw
             obtain⟨q0,q1,q2⟩:=hSw
             go_simp
             all_goals with_reducible rfl
           try simp only[Act.put,List.getElem_toArray,List.getElem_cons_succ,List.getElem_cons_zero,List.setIfInBounds_toArray,List.set_cons_zero,List.set_cons_succ]
           refine wpAnyH_take (i:=14) (v:=?_) rfl (by kernel_rfl) (by kernel_rfl) (by kernel_rfl) (fun _ _ _ h=>h) (Or.inl ⟨by kernel_rfl,?_⟩) (by assumption) ?_
           rotate_left
           · intro w hSw
             rw[hS3]at hSw
             obtain⟨q0,q1,q2⟩:=hSw
             go_simp
             all_goals with_reducible rfl
           try simp only[Act.put,List.getElem_toArray,List.getElem_cons_succ,List.getElem_cons_zero,List.setIfInBounds_toArray,List.set_cons_zero,List.set_cons_succ]
           refine wpAnyH_take (i:=15) (v:=?_) rfl (by kernel_rfl) (by kernel_rfl) (by kernel_rfl) (fun _ _ _ h=>h) (Or.inl ⟨by kernel_rfl,?_⟩) (by assumption) ?_
           rotate_left
           · intro w hSw
             rw[hS3]at hSw
             obtain⟨q0,q1,q2⟩:=hSw
             go_simp
             all_goals with_reducible rfl
           try simp only[Act.put,List.getElem_toArray,List.getElem_cons_succ,List.getElem_cons_zero,List.setIfInBounds_toArray,List.set_cons_zero,List.set_cons_succ]
           refine wpAnyH_take (i:=16) (v:=?_) rfl (by kernel_rfl) (by kernel_rfl) (by kernel_rfl) (fun _ _ _ h=>h) (Or.inl ⟨by kernel_rfl,?_⟩) (by assumption) ?_
           rotate_left
           · intro w hSw
             rw[hS3]at hSw
             obtain⟨q0,q1,q2⟩:=hSw
             go_simp
             all_goals with_reducible rfl
           try simp only[Act.put,List.getElem_toArray,List.getElem_cons_succ,List.getElem_cons_zero,List.setIfInBounds_toArray,List.set_cons_zero,List.set_cons_succ]
           refine wpAnyH_take (i:=17) (v:=?_) rfl (by kernel_rfl) (by kernel_rfl) (by kernel_rfl) (fun _ _ _ h=>h) (Or.inl ⟨by kernel_rfl,?_⟩) (by assumption) ?_
           rotate_left
           · intro w hSw
             rw[hS3]at hSw
             obtain⟨q0,q1,q2⟩:=hSw
             go_simp
             all_goals with_reducible rfl
           try simp only[Act.put,List.getElem_toArray,List.getElem_cons_succ,List.getElem_cons_zero,List.setIfInBounds_toArray,List.set_cons_zero,List.set_cons_succ]
           refine wpAnyH_ready (rs:=[18]) (by kernel_rfl) (by simp) ?_
           refine AllReadyH.cons rfl (fun K hK=>?_) (AllReadyH.nil)
           rw[if_pos (by rfl)]
           go_simp
           go_wp2_with fail
           refine(HM1 _ h7).mono ?_
           rintro _ w8 ⟨rfl,h8'⟩
           have h8:Below G.heap.size G w8:=kqt h7 h8'
           have h8x:Below wz.heap.size wz w8:=kqt h7x h8'
           refine hK.out _ _ (HS3.out _ h8x) (fun hHeld=>?_)
           clear hK K
           try simp only[Act.put,List.getElem_toArray,List.getElem_cons_succ,List.getElem_cons_zero,List.setIfInBounds_toArray,List.set_cons_zero,List.set_cons_succ]
           refine wpAnyH_take (i:=19) (v:=?_) rfl (by kernel_rfl) (by kernel_rfl) (by kernel_rfl) (fun _ _ _ h=>h) (Or.inl ⟨by kernel_rfl,?_⟩) (by assumption) ?_
           rotate_left
           · intro w hSw
             rw[hS3]at hSw
             obtain⟨q0,q1,q2⟩:=hSw
             go_simp
             all_goals with_reducible rfl
           try simp only[Act.put,List.getElem_toArray,List.getElem_cons_succ,List.getElem_cons_zero,List.setIfInBounds_toArray,List.set_cons_zero,List.set_cons_succ]
           first
            | (refine wpAnyH_take (i:=20) (v:=undef) rfl (by kernel_rfl) (by kernel_rfl) (by kernel_rfl) (fun _ _ _ h=>h) (Or.inr ⟨by rfl,rfl⟩) (by assumption) ?_)
            | (refine wpAnyH_take (i:=20) (v:=?_) rfl (by kernel_rfl) (by kernel_rfl) (by kernel_rfl) (fun _ _ _ h=>h) (Or.inl ⟨by kernel_rfl,?_⟩) (by assumption) ?_
               rotate_left
               · intro w hSw
                 rw[hS3]at hSw
                 obtain⟨q0,q1,q2⟩:=hSw
                 go_simp
                 all_goals with_reducible rfl)
           try simp only[Act.put,List.getElem_toArray,List.getElem_cons_succ,List.getElem_cons_zero,List.setIfInBounds_toArray,List.set_cons_zero,List.set_cons_succ]
           first
            | (refine wpAnyH_take (i:=21) (v:=undef) rfl (by kernel_rfl) (by kernel_rfl) (by kernel_rfl) (fun _ _ _ h=>h) (Or.inr ⟨by rfl,rfl⟩) (by assumption) ?_)
            | (refine wpAnyH_take (i:=21) (v:=?_) rfl (by kernel_rfl) (by kernel_rfl) (by kernel_rfl) (fun _ _ _ h=>h) (Or.inl ⟨by kernel_rfl,?_⟩) (by assumption) ?_
               rotate_left
               · intro w hSw
                 rw[hS3]at hSw
                 obtain⟨q0,q1,q2⟩:=hSw
                 go_simp
                 all_goals with_reducible rfl)
           try simp only[Act.put,List.getElem_toArray,List.getElem_cons_succ,List.getElem_cons_zero,List.setIfInBounds_toArray,List.set_cons_zero,List.set_cons_succ]
           refine wpAnyH_take (i:=22) (v:=?_) rfl (by kernel_rfl) (by kernel_rfl) (by kernel_rfl) (fun _ _ _ h=>h) (Or.inl ⟨by kernel_rfl,?_⟩) (by assumption) ?_
           rotate_left
           · intro w hSw
             rw[hS3]at hSw
             obtain⟨q0,q1,q2⟩:=hSw
             go_simp
             all_goals with_reducible rfl
           try simp only[Act.put,List.getElem_toArray,List.getElem_cons_succ,List.getElem_cons_zero,List.setIfInBounds_toArray,List.set_cons_zero,List.set_cons_succ]
           refine wpAnyH_take (i:=23) (v:=?_) rfl (by kernel_rfl) (by kernel_rfl) (by kernel_rfl) (fun _ _ _ h=>h) (Or.inl ⟨by kernel_rfl,?_⟩) (by assumption) ?_
           rotate_left
           · intro w hSw
             rw[hS3]at hSw
             obtain⟨q0,q1,q2⟩:=hSw
             go_simp
             all_goals with_reducible rfl
           try simp only[Act.put,List.getElem_toArray,List.getElem_cons_succ,List.getElem_cons_zero,List.setIfInBounds_toArray,List.set_cons_zero,List.set_cons_succ]
           refine wpAnyH_done (by kernel_rfl) ?_ _
           clear hHeld hS3 HS3
           have h:=HNX.out
           have HNY:Hid (_∧_):=h
           clear h
           go_wp2_with fail
           go_roundw
           case rel=>
            refine⟨k+1,_,_,by omega,by go_num,rfl,rfl,h8,?_⟩
            show _∧_
            rw[HTK.out]
            have h:=HNY.out
            have hf1:=HF1.out
            simpa[hf1]using h
           case measure=>simp[intOf];omega
      · have h1v:nv=0:=HNV.out
        subst h1v
        have hs:sameNd [] (tN true)=false:=sameNd_no (by simp[tN])
        rw[hs]
        have hf1:f y= -1:=hfy
        have hmw3:mw=true:=by rw[hmw2,hf1];rfl
        have hmb3:mb=false:=by
         cases h:mb with
         | false=>rfl
         | true=>have:=hmb2 h;omega
        subst hmw3 hmb3
        have HF1:Hid (¬f y=1):=by show ¬_;omega
        clear hmw2 hmb2 hfy hf1 hs
        go_wp2_with fail
        obtain⟨S3,hS3⟩:∃S3:World→Prop,S3=fun w'=>w'.cell? ⟨b,off+k*15,none⟩=some (.string nm)∧w'.cell? ⟨w3.heap.size,1,none⟩=some (.slice p11 By.length c11)∧w'.cell? ⟨w3.heap.size,2,none⟩=some (.slice p12 Wr.length c12):=⟨_,rfl⟩
        have HS3:Hid (∀w',Below wz.heap.size wz w'→S3 w'):=fun w' hW=>by
         rw[hS3]
         have h1:=HB1.out w' (kqt hbz hW)
         exact⟨(HYC.out w' (kqt hbwz hW)).1,h1.cell 1,h1.cell 2⟩
        obtain⟨Z3,hZ3⟩:∃Z3,Z3=wz.drew:=⟨_,rfl⟩
        have hb3:Below wz.heap.size wz Z3:=by rw[hZ3];exact kqx
        have hbG3:Below G.heap.size G Z3:=kqt hbz hb3
        go_wp2_with fail
        refine wp_region_held_drew (S:=S3) (by kernel_rfl) (by rw[←hZ3];exact HS3.out _ hb3) (fun hHeld=>?_)
        rw[←hZ3]at hHeld ⊢
        clear hZ3
        refine wpAnyH_take (i:=0) (v:=?_) rfl (by kernel_rfl) (by kernel_rfl) (by kernel_rfl) (fun _ _ _ h=>h) (Or.inl ⟨by kernel_rfl,?_⟩) (by assumption) ?_
        rotate_left
        · intro w hSw
          rw[hS3]at hSw
          obtain⟨q0,q1,q2⟩:=hSw
          go_simp
          all_goals with_reducible rfl
        try simp only[Act.put,List.getElem_toArray,List.getElem_cons_succ,List.getElem_cons_zero,List.setIfInBounds_toArray,List.set_cons_zero,List.set_cons_succ]
        refine wpAnyH_take (i:=1) (v:=?_) rfl (by kernel_rfl) (by kernel_rfl) (by kernel_rfl) (fun _ _ _ h=>h) (Or.inl ⟨by kernel_rfl,?_⟩) (by assumption) ?_
        rotate_left
        · intro w hSw
          rw[hS3]at hSw
          obtain⟨q0,q1,q2⟩:=hSw
          go_simp
          all_goals with_reducible rfl
        try simp only[Act.put,List.getElem_toArray,List.getElem_cons_succ,List.getElem_cons_zero,List.setIfInBounds_toArray,List.set_cons_zero,List.set_cons_succ]
        refine wpAnyH_take (i:=2) (v:=?_) rfl (by kernel_rfl) (by kernel_rfl) (by kernel_rfl) (fun _ _ _ h=>h) (Or.inl ⟨by kernel_rfl,?_⟩) (by assumption) ?_
        rotate_left
        · intro w hSw
          rw[hS3]at hSw
          obtain⟨q0,q1,q2⟩:=hSw
          go_simp
          all_goals with_reducible rfl
        try simp only[Act.put,List.getElem_toArray,List.getElem_cons_succ,List.getElem_cons_zero,List.setIfInBounds_toArray,List.set_cons_zero,List.set_cons_succ]
        refine wpAnyH_take (i:=3) (v:=?_) rfl (by kernel_rfl) (by kernel_rfl) (by kernel_rfl) (fun _ _ _ h=>h) (Or.inl ⟨by kernel_rfl,?_⟩) (by assumption) ?_
        rotate_left
        · intro w hSw
          rw[hS3]at hSw
          obtain⟨q0,q1,q2⟩:=hSw
          go_simp
          all_goals with_reducible rfl
        try simp only[Act.put,List.getElem_toArray,List.getElem_cons_succ,List.getElem_cons_zero,List.setIfInBounds_toArray,List.set_cons_zero,List.set_cons_succ]
        refine wpAnyH_take (i:=4) (v:=?_) rfl (by kernel_rfl) (by kernel_rfl) (by kernel_rfl) (fun _ _ _ h=>h) (Or.inl ⟨by kernel_rfl,?_⟩) (by assumption) ?_
        rotate_left
        · intro w hSw
          rw[hS3]at hSw
          obtain⟨q0,q1,q2⟩:=hSw
          go_simp
          all_goals with_reducible rfl
        try simp only[Act.put,List.getElem_toArray,List.getElem_cons_succ,List.getElem_cons_zero,List.setIfInBounds_toArray,List.set_cons_zero,List.set_cons_succ]
        refine wpAnyH_take (i:=5) (v:=?_) rfl (by kernel_rfl) (by kernel_rfl) (by kernel_rfl) (fun _ _ _ h=>h) (Or.inl ⟨by kernel_rfl,?_⟩) (by assumption) ?_
        rotate_left
        · intro w hSw
          rw[hS3]at hSw
          obtain⟨q0,q1,q2⟩:=hSw
          go_simp
          all_goals with_reducible rfl
        try simp only[Act.put,List.getElem_toArray,List.getElem_cons_succ,List.getElem_cons_zero,List.setIfInBounds_toArray,List.set_cons_zero,List.set_cons_succ]
        refine wpAnyH_take (i:=6) (v:=?_) rfl (by kernel_rfl) (by kernel_rfl) (by kernel_rfl) (fun _ _ _ h=>h) (Or.inl ⟨by kernel_rfl,?_⟩) (by assumption) ?_
        rotate_left
        · intro w hSw
          rw[hS3]at hSw
          obtain⟨q0,q1,q2⟩:=hSw
          go_simp
          all_goals with_reducible rfl
        try simp only[Act.put,List.getElem_toArray,List.getElem_cons_succ,List.getElem_cons_zero,List.setIfInBounds_toArray,List.set_cons_zero,List.set_cons_succ]
        refine wpAnyH_take (i:=8) (v:=?_) rfl (by kernel_rfl) (by kernel_rfl) (by kernel_rfl) (fun _ _ _ h=>h) (Or.inl ⟨by kernel_rfl,?_⟩) (by assumption) ?_
        rotate_left
        · intro w hSw
          rw[hS3]at hSw
          obtain⟨q0,q1,q2⟩:=hSw
          go_simp
          all_goals with_reducible rfl
        try simp only[Act.put,List.getElem_toArray,List.getElem_cons_succ,List.getElem_cons_zero,List.setIfInBounds_toArray,List.set_cons_zero,List.set_cons_succ]
        refine wpAnyH_ready (rs:=[7]) (by kernel_rfl) (by simp) ?_
        refine AllReadyH.cons rfl (fun K hK=>?_) (AllReadyH.nil)
        rw[if_pos (by rfl)]
        go_simp
        go_wp2_with fail
        refine(HM2 _ hbG3).mono ?_
        rintro _ w7 ⟨rfl,h7'⟩
        have h7:Below G.heap.size G w7:=kqt hbG3 h7'
        have h7x:Below wz.heap.size wz w7:=kqt hb3 h7'
        refine hK.out _ _ (HS3.out _ h7x) (fun hHeld=>?_)
        clear hK K
        try simp only[Act.put,List.getElem_toArray,List.getElem_cons_succ,List.getElem_cons_zero,List.setIfInBounds_toArray,List.set_cons_zero,List.set_cons_succ]
        refine wpAnyH_take (i:=9) (v:=?_) rfl (by kernel_rfl) (by kernel_rfl) (by kernel_rfl) (fun _ _ _ h=>h) (Or.inl ⟨by kernel_rfl,?_⟩) (by assumption) ?_
        rotate_left
        · intro w hSw
          rw[hS3]at hSw
          obtain⟨q0,q1,q2⟩:=hSw
          go_simp
          all_goals with_reducible rfl
        try simp only[Act.put,List.getElem_toArray,List.getElem_cons_succ,List.getElem_cons_zero,List.setIfInBounds_toArray,List.set_cons_zero,List.set_cons_succ]
        refine wpAnyH_take (i:=10) (v:=?_) rfl (by kernel_rfl) (by kernel_rfl) (by kernel_rfl) (fun _ _ _ h=>h) (Or.inl ⟨by kernel_rfl,?_⟩) (by assumption) ?_
        rotate_left
        · intro w hSw
          rw[hS3]at hSw
          obtain⟨q0,q1,q2⟩:=hSw
          go_simp
          all_goals with_reducible rfl
        try simp only[Act.put,List.getElem_toArray,List.getElem_cons_succ,List.getElem_cons_zero,List.setIfInBounds_toArray,List.set_cons_zero,List.set_cons_succ]
        refine wpAnyH_take (i:=11) (v:=?_) rfl (by kernel_rfl) (by kernel_rfl) (by kernel_rfl) (fun _ _ _ h=>h) (Or.inl ⟨by kernel_rfl,?_⟩) (by assumption) ?_
        rotate_left
        · intro w hSw
          rw[hS3]at hSw
          obtain⟨q0,q1,q2⟩:=hSw
          go_simp
          all_goals with_reducible rfl
        try simp only[Act.put,List.getElem_toArray,List.getElem_cons_succ,List.getElem_cons_zero,List.setIfInBounds_toArray,List.set_cons_zero,List.set_cons_succ]
        refine wpAnyH_take (i:=12) (v:=?_) rfl (by kernel_rfl) (by kernel_rfl) (by kernel_rfl) (fun _ _ _ h=>h) (Or.inl ⟨by kernel_rfl,?_⟩) (by assumption) ?_
        rotate_left
        · intro w hSw
          rw[hS3]at hSw
          obtain⟨q0,q1,q2⟩:=hSw
          go_simp
          all_goals with_reducible rfl
        try simp only[Act.put,List.getElem_toArray,List.getElem_cons_succ,List.getElem_cons_zero,List.setIfInBounds_toArray,List.set_cons_zero,List.set_cons_succ]
        refine wpAnyH_take (i:=13) (v:=?_) rfl (by kernel_rfl) (by kernel_rfl) (by kernel_rfl) (fun _ _ _ h=>h) (Or.inl ⟨by kernel_rfl,?_⟩) (by assumption) ?_
        rotate_left
        · intro w hSw
          rw[hS3]at hSw
          obtain⟨q0,q1,q2⟩:=hSw
          go_simp
          all_goals with_reducible rfl
        try simp only[Act.put,List.getElem_toArray,List.getElem_cons_succ,List.getElem_cons_zero,List.setIfInBounds_toArray,List.set_cons_zero,List.set_cons_succ]
        refine wpAnyH_take (i:=14) (v:=?_) rfl (by kernel_rfl) (by kernel_rfl) (by kernel_rfl) (fun _ _ _ h=>h) (Or.inl ⟨by kernel_rfl,?_⟩) (by assumption) ?_
        rotate_left
        · intro w hSw
          rw[hS3]at hSw
          obtain⟨q0,q1,q2⟩:=hSw
          go_simp
          all_goals with_reducible rfl
        try simp only[Act.put,List.getElem_toArray,List.getElem_cons_succ,List.getElem_cons_zero,List.setIfInBounds_toArray,List.set_cons_zero,List.set_cons_succ]
        refine wpAnyH_take (i:=15) (v:=?_) rfl (by kernel_rfl) (by kernel_rfl) (by kernel_rfl) (fun _ _ _ h=>h) (Or.inl ⟨by kernel_rfl,?_⟩) (by assumption) ?_
        rotate_left
        · intro w hSw
          rw[hS3]at hSw
          obtain⟨q0,q1,q2⟩:=hSw
          go_simp
          all_goals with_reducible rfl
        try simp only[Act.put,List.getElem_toArray,List.getElem_cons_succ,List.getElem_cons_zero,List.setIfInBounds_toArray,List.set_cons_zero,List.set_cons_succ]
        refine wpAnyH_take (i:=16) (v:=?_) rfl (by kernel_rfl) (by kernel_rfl) (by kernel_rfl) (fun _ _ _ h=>h) (Or.inl ⟨by kernel_rfl,?_⟩) (by assumption) ?_
        rotate_left
        · intro w hSw
          rw[hS3]at hSw
          obtain⟨q0,q1,q2⟩:=hSw
          go_simp
          all_goals with_reducible rfl
        try simp only[Act.put,List.getElem_toArray,List.getElem_cons_succ,List.getElem_cons_zero,List.setIfInBounds_toArray,List.set_cons_zero,List.set_cons_succ]
        refine wpAnyH_take (i:=17) (v:=?_) rfl (by kernel_rfl) (by kernel_rfl) (by kernel_rfl) (fun _ _ _ h=>h) (Or.inl ⟨by kernel_rfl,?_⟩) (by assumption) ?_
        rotate_left
        · intro w hSw
          rw[hS3]at hSw
          obtain⟨q0,q1,q2⟩:=hSw
          go_simp
          all_goals with_reducible rfl
        try simp only[Act.put,List.getElem_toArray,List.getElem_cons_succ,List.getElem_cons_zero,List.setIfInBounds_toArray,List.set_cons_zero,List.set_cons_succ]
        refine wpAnyH_ready (rs:=[18]) (by kernel_rfl) (by simp) ?_
        refine AllReadyH.cons rfl (fun K hK=>?_) (AllReadyH.nil)
        rw[if_pos (by rfl)]
        go_simp
        go_wp2_with fail
        refine(HM1 _ h7).mono ?_
        rintro _ w8 ⟨rfl,h8'⟩
        have h8:Below G.heap.size G w8:=kqt h7 h8'
        have h8x:Below wz.heap.size wz w8:=kqt h7x h8'
        refine hK.out _ _ (HS3.out _ h8x) (fun hHeld=>?_)
        clear hK K
        try simp only[Act.put,List.getElem_toArray,List.getElem_cons_succ,List.getElem_cons_zero,List.setIfInBounds_toArray,List.set_cons_zero,List.set_cons_succ]
        refine wpAnyH_take (i:=19) (v:=?_) rfl (by kernel_rfl) (by kernel_rfl) (by kernel_rfl) (fun _ _ _ h=>h) (Or.inl ⟨by kernel_rfl,?_⟩) (by assumption) ?_
        rotate_left
        · intro w hSw
          rw[hS3]at hSw
          obtain⟨q0,q1,q2⟩:=hSw
          go_simp
          all_goals with_reducible rfl
        try simp only[Act.put,List.getElem_toArray,List.getElem_cons_succ,List.getElem_cons_zero,List.setIfInBounds_toArray,List.set_cons_zero,List.set_cons_succ]
        first
         | (refine wpAnyH_take (i:=20) (v:=undef) rfl (by kernel_rfl) (by kernel_rfl) (by kernel_rfl) (fun _ _ _ h=>h) (Or.inr ⟨by rfl,rfl⟩) (by assumption) ?_)
         | (refine wpAnyH_take (i:=20) (v:=?_) rfl (by kernel_rfl) (by kernel_rfl) (by kernel_rfl) (fun _ _ _ h=>h) (Or.inl ⟨by kernel_rfl,?_⟩) (by assumption) ?_
            rotate_left
            · intro w hSw
              rw[hS3]at hSw
              obtain⟨q0,q1,q2⟩:=hSw
              go_simp
              all_goals with_reducible rfl)
        try simp only[Act.put,List.getElem_toArray,List.getElem_cons_succ,List.getElem_cons_zero,List.setIfInBounds_toArray,List.set_cons_zero,List.set_cons_succ]
        first
         | (refine wpAnyH_take (i:=21) (v:=undef) rfl (by kernel_rfl) (by kernel_rfl) (by kernel_rfl) (fun _ _ _ h=>h) (Or.inr ⟨by rfl,rfl⟩) (by assumption) ?_)
         | (refine wpAnyH_take (i:=21) (v:=?_) rfl (by kernel_rfl) (by kernel_rfl) (by kernel_rfl) (fun _ _ _ h=>h) (Or.inl ⟨by kernel_rfl,?_⟩) (by assumption) ?_
            rotate_left
            · intro w hSw
              rw[hS3]at hSw
              obtain⟨q0,q1,q2⟩:=hSw
              go_simp
              all_goals with_reducible rfl)
        try simp only[Act.put,List.getElem_toArray,List.getElem_cons_succ,List.getElem_cons_zero,List.setIfInBounds_toArray,List.set_cons_zero,List.set_cons_succ]
        refine wpAnyH_take (i:=22) (v:=?_) rfl (by kernel_rfl) (by kernel_rfl) (by kernel_rfl) (fun _ _ _ h=>h) (Or.inl ⟨by kernel_rfl,?_⟩) (by assumption) ?_
        rotate_left
        · intro w hSw
          rw[hS3]at hSw
          obtain⟨q0,q1,q2⟩:=hSw
          go_simp
          all_goals with_reducible rfl
        try simp only[Act.put,List.getElem_toArray,List.getElem_cons_succ,List.getElem_cons_zero,List.setIfInBounds_toArray,List.set_cons_zero,List.set_cons_succ]
        refine wpAnyH_take (i:=23) (v:=?_) rfl (by kernel_rfl) (by kernel_rfl) (by kernel_rfl) (fun _ _ _ h=>h) (Or.inl ⟨by kernel_rfl,?_⟩) (by assumption) ?_
        rotate_left
        · intro w hSw
          rw[hS3]at hSw
          obtain⟨q0,q1,q2⟩:=hSw
          go_simp
          all_goals with_reducible rfl
        try simp only[Act.put,List.getElem_toArray,List.getElem_cons_succ,List.getElem_cons_zero,List.setIfInBounds_toArray,List.set_cons_zero,List.set_cons_succ]
        refine wpAnyH_done (by kernel_rfl) ?_ _
        clear hHeld hS3 HS3
        have h:=HNX.out
        have HNY:Hid (_∧_):=h
        clear h
        go_wp2_with fail
        go_roundw
        case rel=>
         refine⟨k+1,_,_,by omega,by go_num,rfl,rfl,h8,?_⟩
         show _∧_
         rw[HTK.out]
         have h:=HNY.out
         have hf1:=HF1.out
         simpa[hf1]using h
        case measure=>simp[intOf];omega
    · have i1:¬(k:Int)<(n:Int):=by omega
      have hD:=HD.out
      rw[List.take_of_length_le (by have:=HN.out;omega)]at hD
      have ha1:a1=(pb && !fb):=by
       rw[HAL.out,Bool.eq_iff_iff,auAl_iff,Bool.and_eq_true,hD.1,Bool.not_eq_true',←Bool.not_eq_true,hD.2]
       constructor
       · rintro⟨h1,h2⟩;exact⟨h2,fun⟨p,hp,h3⟩=>h1 p hp h3⟩
       · rintro⟨h1,h2⟩;exact⟨fun p hp h3=>h2 ⟨p,hp,h3⟩,h1⟩
      have hbe:0<By.length↔(pb || fb)=true:=by
       rw[Bool.or_eq_true,hD.1,hD.2]
       have hE:=HBE.out
       have hl:By.isEmpty=true↔By.length=0:=by rw[List.isEmpty_iff,List.length_eq_zero_iff]
       constructor
       · intro h
         by_cases hx:∃p∈L,f p=1
         · obtain⟨p,hp,h3⟩:=hx
           cases hb:p.fb with
           | false=>exact .inl ⟨p,hp,hb,h3⟩
           | true=>exact .inr ⟨p,hp,hb,h3⟩
         · have:=hl.1 (hE.2 fun p hp h3=>hx ⟨p,hp,h3⟩)
           omega
       · intro h
         by_cases h0:By.length=0
         · have hall:=hE.1 (hl.2 h0)
           rcases h with⟨p,hp,_,h3⟩ | ⟨p,hp,_,h3⟩<;>exact absurd h3 (hall p hp)
         · omega
      have z0:wr.cell? ⟨w3.heap.size,0,none⟩=some (.bool a1):=(HB1.out wr HB.out).cell 0
      have z9:wr.cell? ⟨w3.heap.size,1,none⟩=some (.slice p11 By.length c11):=(HB1.out wr HB.out).cell 1
      clear hD HD
      cases pb<;>cases fb
      all_goals
       simp only[Bool.true_and,Bool.false_and,Bool.not_true,Bool.not_false,Bool.and_false,Bool.and_true]at ha1
       simp only[Bool.or_true,Bool.true_or,Bool.or_false,Bool.false_eq_true,iff_true,iff_false]at hbe
       rw[ha1]at z0
       go_wp2_with fail
       go_ret
       exact⟨rfl,kqt hbV hbr⟩
 · obtain⟨e1,he1⟩:=ev_nn h1
   rw[he1]
   clear h1 he1
   go_wp2_with fail
   go_ret
   exact⟨rfl,kqt hbV (kqt hb3 kqx)⟩
end Go.Proofs.YtipcngglmebiiaaGreatDoor
