import Derived.Test.YtipcngglmebiiaaGreatDoorA37
import Derived.Test.YtipcngglmebiiaaGreatDoorA26
import Derived.Test.YtipcngglmebiiaaGreatDoorA12
import Derived.Test.YtipcngglmebiiaaGreatDoorA24
import Derived.Test.YtipcngglmebiiaaGreatDoorA10
set_option linter.unusedVariables false
set_option maxHeartbeats 12000000
namespace Go.Proofs.YtipcngglmebiiaaGreatDoor
open Go.RowKit Go.Deep
set_option linter.unusedSimpArgs false
set_option maxRecDepth 100000
theorem auorder_walk (es:List En)(ps:Option Addr)(cs:Nat)(L:List Po)(pl:Option Addr)(cl:Nat)(q:Rq)(pq:Option Addr)(cq:Nat)(w:World)(ha:EvArg w es ps q pq cq)(hP:PArg w L L.length pl cl)(ord:List Int)(po:Option Addr)(co:Nat)(ho:IL w po ord)(hol:ord.length≤9223372036854775807):
 Calls Tryz.prog 3 #[.slice ps es.length cs,.slice pl L.length cl,reqV q pq cq,.slice po ord.length co] w fun e w'=>e= .returned (.bool true)∧Below w.heap.size w w':=by
 obtain⟨V,hV⟩:∃V,V=w.alloc (.cells #[.string q.who.t,.string q.who.i,.string q.act.t,.string q.act.i,.string q.what.t,.string q.what.i,.slice pq q.cx.length cq] 28):=⟨_,rfl⟩
 have hbV:Below w.heap.size w V:=by rw[hV];exact kqx
 have HA:Hid (∀W,Below V.heap.size V W→QB W w.heap.size q pq cq):=fun W hW=>by
  have h1:QB V w.heap.size q pq cq:=by rw[hV];exact QB.new w q pq cq
  exact h1.up hW
 have HEA:Hid (∀W,Below V.heap.size V W→EvArg W es ps q pq cq):=fun W hW=>ha.up (kqt hbV hW)
 have HPA:Hid (∀W,Below V.heap.size V W→PArg W L L.length pl cl):=fun W hW=>hP.up (kqt hbV hW)
 obtain⟨n,hn⟩:∃n,n=L.length:=⟨_,rfl⟩
 have hPM:=permitted_any V (HEA.out V (Below.refl _ _)).er
 have HK:=fun L' n' pl cl W ha hp=>ask_pols es ps cs L' n' pl cl q pq cq W ha hp
 obtain⟨xs,hxs,hxp⟩:=hP.pl.parts
 have HXL:Hid (xs.length=n):=by show _=_;rw[hn,←hxs];simp
 have HXP:Hid (∀w',Below V.heap.size V w'→PAL w' pl xs):=fun w' hb=>hxp.up (kqt hbV hb)
 have HXS:Hid (xs.map (·.p)=L):=hxs
 have H64:Hid (∀x∈L,P64 x):=hP.num
 have hcm:=hP.cm
 unfold maxLen at hcm
 have hle:=hP.le
 rw[←hn]at HPA hle ⊢
 have HN:Hid (n=L.length):=hn
 have HIO:Hid (∀W,Below V.heap.size V W→IL W po ord):=fun W hW=>ho.up (kqt hbV hW)
 clear hxs hxp hn ha hP ho
 unfold reqV at *
 go_enter Tryz.func3,Tryz.ntmps3
 go_wp2_with fail
 rw[←hV]
 clear hV
 refine hPM.mono ?_
 rintro _ w2 ⟨rfl,hb2⟩
 clear hPM
 obtain⟨y0,y1,y2,y3,y4,y5,y6⟩:=(HA.out w2 hb2).cells
 have lq:w.heap.size<w2.heap.size:=(HA.out w2 hb2).lt
 go_wp2_with fail
 refine(HK L n pl cl _ (HEA.out _ hb2) (HPA.out _ hb2)).mono ?_
 rintro _ w3 ⟨hr3,hb3'⟩
 have hb3:Below V.heap.size V w3:=kqt hb2 hb3'
 obtain⟨a1,p11,n11,c11,p12,n12,c12,rfl,han1⟩:=hr3.any
 clear hr3 y0 y1 y2 y3 y4 y5 y6 lq hb3'
 obtain⟨G,hG⟩:∃W,W=w3.alloc (.cells #[.bool a1,.slice p11 n11 c11,.slice p12 n12 c12] 33):=⟨_,rfl⟩
 have hb3G:Below w3.heap.size w3 G:=by rw[hG];exact kqx
 have hbVG:Below V.heap.size V G:=kqt hb3 hb3G
 have HB1:Hid (∀W,Below G.heap.size G W→Blk W w3.heap.size #[.bool a1,.slice p11 n11 c11,.slice p12 n12 c12] 33):=fun W hW=>by
  have:Blk G w3.heap.size #[.bool a1,.slice p11 n11 c11,.slice p12 n12 c12] 33:=by rw[hG];exact Blk.new _ _ _ rfl
  exact this.up hW
 by_cases h1:auE es q L=0
 · rw[eV_nil h1]
   by_cases hlo:ord.length=n
   · obtain⟨hal,hn1,hn2,ht1,ht2⟩:=han1 h1
     obtain⟨By,hBy⟩:∃By,By=auBy (auV es q) L:=⟨_,rfl⟩
     obtain⟨Wr,hWr⟩:∃Wr,Wr=auW (auV es q) L:=⟨_,rfl⟩
     rw[←hBy]at hn1 ht1
     rw[←hWr]at hn2 ht2
     subst hn1 hn2
     obtain⟨z1,z2,z3⟩:=auE_zero.1 h1
     obtain⟨g1,g2,g3⟩:=auC_zero.1 z2
     have HPE:Hid (∀M:List Po,M.Perm L→auE es q M=0∧auAl (auV es q) M=a1∧(auBy (auV es q) M).Perm By∧(auW (auV es q) M).Perm Wr):=fun M hM=>⟨auE_zero.2 ⟨z1,auC_perm hM.symm z2,z3⟩,by rw[hal];exact auAl_perm hM,by rw[hBy];exact auBy_perm hM,by rw[hWr];exact auW_perm hM⟩
     have hbl:By.length≤12∧Wr.length≤12:=by rw[hBy,hWr];exact⟨Nat.le_trans auBy_len g1,Nat.le_trans auW_len g1⟩
     have HT1:Hid (∀W,Below G.heap.size G W→TL W p11 By∧TL W p12 Wr):=fun W hW=>⟨ht1.up (kqt hb3G hW),ht2.up (kqt hb3G hW)⟩
     have hn12:n≤12:=by rw[HN.out];exact g1
     have HIL:Hid (∀W,Below G.heap.size G W→IL W po ord):=fun W hW=>HIO.out W (kqt hbVG hW)
     have j0:((ord.length:Int) != (n:Int))=false:=by simp[hlo]
     clear han1 hal ht1 ht2 h1 z1 z2 z3 g1 g2 g3 hBy hWr
     go_wp2_with fail
     rw[←hG]
     clear hG
     obtain⟨PX,hPX⟩:∃PX:Int→PA,PX=fun z=>xs.getD z.toNat default:=⟨_,rfl⟩
     have HPX0:Hid (PX=fun z=>xs.getD z.toNat default):=hPX
     have HPXM:Hid (∀z:Int,0≤z→z<(n:Int)→PX z∈xs):=fun z h0 hn=>by
      rw[hPX]
      have hz:z.toNat<xs.length:=by have:=HXL.out;omega
      simp only[List.getD_eq_getElem?_getD,List.getElem?_eq_getElem hz,Option.getD_some]
      exact List.getElem_mem hz
     clear hPX
     have HLO:Hid (ord.length=n):=hlo
     clear hlo j0
     go_loopw [12,13] (fun v i wr=>∃k:Nat,k≤n∧i= .int .i64 k∧Hid (Below G.heap.size G wr)∧Hid (OPs wr G.heap.size v ((ord.take k).map PX))∧Hid ((∀z∈ord.take k,0≤z∧z<n)∧(ord.take k).Nodup)) (fun _ i _=>n-(intOf i).toNat)
     case atStart=>exact⟨0,Nat.zero_le _,rfl,Below.refl _ _,by show OPs _ _ _ _;exact OPs.nil _ _,by simp[Hid]⟩
     case round=>
      obtain⟨k,hk,rfl,HB,HO,HI⟩:=hrel
      have hbr:Below V.heap.size V wr:=kqt hbVG HB.out
      have hlo:=HLO.out
      by_cases hlt:k<n
      · have i1:(k:Int)<(ord.length:Int):=by omega
        have hkl:k<ord.length:=by omega
        have HTK:Hid (ord.take (k+1)=ord.take k++[ord[k]]):=List.take_succ_eq_append_getElem hkl
        obtain⟨bo,oo,rfl,hbo,o0,o1,o2⟩:=(HIL.out wr HB.out).at hkl
        have HO0:Hid (∀W,Below wr.heap.size wr W→W.cell? ⟨bo,oo+k,none⟩=some (.int .i64 ord[k])):=fun W hW=>(hW.cell (p:=⟨bo,oo+k,none⟩) hbo).trans o0
        have HOJ:Hid (∀W,Below wr.heap.size wr W→∀j (hj:j<ord.length),W.cell? ⟨bo,oo+j,none⟩=some (.int .i64 ord[j])):=fun W hW j hj=>by
         obtain⟨b2,o2,e,_,h,_⟩:=(HIL.out W (kqt HB.out hW)).at hj
         cases e
         exact h
        obtain⟨z,hz⟩:∃z,z=ord[k]:=⟨_,rfl⟩
        rw[←hz]at HTK HO0 o0 o1 o2
        have HZ:Hid (z=ord[k]):=hz
        clear hz hlo
        by_cases hz0:z<0
        · go_wp2_with fail
          go_ret
          exact⟨rfl,kqt hbV hbr⟩
        by_cases hzn:(n:Int)≤z
        · go_wp2_with fail
          go_ret
          exact⟨rfl,kqt hbV hbr⟩
        go_wp2_with fail
        clear o0
        generalize wr=wo at *
        go_loopw [14] (fun j w'=>∃J:Nat,J≤k∧j= .int .i64 J∧Hid (Below wo.heap.size wo w')∧Hid (∀u∈ord.take J,u≠z)) (fun j _=>k-(intOf j).toNat)
        case atStart=>exact⟨0,Nat.zero_le _,rfl,Below.refl _ _,by simp[Hid]⟩
        case round=>
         obtain⟨J,hJ,rfl,HBJ,HNJ⟩:=hrel
         by_cases hJk:J<k
         · have i2:(J:Int)<(k:Int):=by omega
           have i3:(J:Int)<(ord.length:Int):=by omega
           have hJl:J<ord.length:=by omega
           have d0:=HO0.out wr HBJ.out
           have d1:=HOJ.out wr HBJ.out J hJl
           have HTJ:Hid (ord.take (J+1)=ord.take J++[ord[J]]):=List.take_succ_eq_append_getElem hJl
           generalize ord[J]=u at d1 HTJ
           by_cases huz:u=z
           · subst huz
             go_wp2_with fail
             go_quiet (fail)
             go_wp2_with fail
             go_ret
             exact⟨rfl,kqt hbV (kqt hbr (kqt HBJ.out ⟨rfl,rfl,rfl,Nat.le_refl _,fun _ _=>rfl⟩))⟩
           · have HN2:Hid (∀v∈ord.take (J+1),v≠z):=fun v hv=>by
              rw[HTJ.out]at hv
              rcases List.mem_append.1 hv with hv | hv
              · exact HNJ.out v hv
              · rw[List.mem_singleton.1 hv];exact huz
             go_wp2_with fail
             go_quiet (fail)
             go_wp2_with fail
             go_roundw
             case rel=>exact⟨J+1,by omega,by go_num,kqt HBJ.out ⟨rfl,rfl,rfl,Nat.le_refl _,fun _ _=>rfl⟩,HN2⟩
             case measure=>simp[intOf];omega
         · have i2:¬(J:Int)<(k:Int):=by omega
           have HNZ:Hid (z∉ord.take k):=fun hm=>by
            have:=HNJ.out z (by rw[show J=k by omega];exact hm)
            exact this rfl
           clear HNJ
           have hbG:=kqt HB.out HBJ.out
           have hbV1:=kqt hbVG hbG
           have hK:∃K:Nat,z=K∧K<xs.length:=⟨z.toNat,by omega,by have:=HXL.out;omega⟩
           obtain⟨K,rfl,hKx⟩:=hK
           have i4:(K:Int)<(n:Int):=by omega
           have d0:=HO0.out wr HBJ.out
           have HPK:Hid (PX K=xs[K]):=by
            show _=_
            rw[HPX0.out]
            simp[List.getD_eq_getElem?_getD,List.getElem?_eq_getElem hKx]
           have HYM:Hid (xs[K]∈xs):=List.getElem_mem hKx
           obtain⟨b,off,e0,hbw,hpo,k0,k1,k2,k3,k4,k5,k6,k7,k8,k9,k10,k11,k12,k13,k14⟩:=(HXP.out wr hbV1).at hKx
           subst e0
           generalize xs[K]=y at *
           obtain⟨W5,hW5⟩:∃W,W=wr.alloc (.cells (poC y.p y.q y.c) 42):=⟨_,rfl⟩
           have hb55:Below wr.heap.size wr W5:=by rw[hW5];exact kqx
           have hbG55:Below G.heap.size G W5:=kqt hbG hb55
           have hBY:Blk W5 wr.heap.size (poC y.p y.q y.c) 42:=by rw[hW5];exact Blk.new _ _ _ rfl
           have HST:Hid (∀z∈xs,∀w',Below G.heap.size W5 w'→PoA w' z.p z.q z.c):=fun z hz w' hw=>(HXP.out w' (kqt hbVG (hbG55.trans hw))).parts z hz
           have HPX:Hid (∀z∈(ord.take k).map PX,∀w',Below G.heap.size W5 w'→PoA w' z.p z.q z.c):=fun z hz w' hw=>by
            obtain⟨t,ht,rfl⟩:=List.mem_map.1 hz
            exact HST.out _ (HPXM.out t (HI.out.1 t ht).1 (HI.out.1 t ht).2) w' hw
           have HPY:Hid (∀z∈[y],∀w',Below G.heap.size W5 w'→PoA w' z.p z.q z.c):=fun z hz w' hw=>by rw[List.mem_singleton.1 hz];exact HST.out y HYM.out w' hw
           have HYL:Hid (PAL W5 (some ⟨wr.heap.size,0,none⟩) [y]):=Blk.pal hBY (hpo.up hb55)
           have HOW:=HO.out.up (kqt HBJ.out hb55)
           obtain⟨S0,hS0⟩:∃S0,S0=(ord.take k).map PX:=⟨_,rfl⟩
           have hln:S0.length≤12:=by rw[hS0,List.length_map,List.length_take];omega
           have hGs:=hbG55.size
           have HLN:Hid (_≤12):=hln
           unfold poC at hW5
           rw[←hS0]at HPX HOW
           have HS0:Hid (S0=_):=hS0
           clear hBY hln HO HST hS0 hpo hbw HBJ HO0 HOJ HPX0 hb55
           go_wp2_with (at_builtin;rw[←hW5];refine append_pols W5 rfl (.tmp 71) (.tmp 79) rfl G.heap.size _ S0 rfl HOW HPX [y] 1 rfl (some ⟨wr.heap.size,0,none⟩) 1 HYL.out HPY.out (fun h=>by cases h) rfl (by have:=HLN.out;simp;omega) hGs ?_;intro v6 w6 hO6 hb6;have HO6:Hid (OPs w6 G.heap.size v6 (S0++[y])):=hO6;clear hO6)
           have HO7:Hid (OPs w6 G.heap.size v6 ((ord.take (k+1)).map PX)):=by
            show OPs _ _ _ _
            rw[HTK.out,List.map_append,List.map_singleton,HPK.out,←HS0.out]
            exact HO6.out
           have HB6:Hid (Below G.heap.size G w6):=hbG55.trans hb6
           have HI7:Hid ((∀z∈ord.take (k+1),0≤z∧z<n)∧(ord.take (k+1)).Nodup):=by
            show _∧_
            rw[HTK.out]
            refine⟨fun z hz=>?_,?_⟩
            · rcases List.mem_append.1 hz with hz | hz
              · exact HI.out.1 z hz
              · rw[List.mem_singleton.1 hz];omega
            · rw[List.nodup_append]
              refine⟨HI.out.2,List.nodup_cons.2 ⟨by simp,List.nodup_nil⟩,fun a ha b hb=>?_⟩
              rw[List.mem_singleton.1 hb]
              intro e
              exact HNZ.out (e▸ha)
           clear HO6 hb6
           go_wp2_with fail
           go_roundw
           case rel=>exact⟨k+1,by omega,by go_num,HB6,HO7,HI7⟩
           case measure=>simp[intOf];omega
      · have i1:¬(k:Int)<(ord.length:Int):=by omega
        have hO:=HO.out
        have hI:=HI.out
        rw[List.take_of_length_le (by omega)]at hO hI
        obtain⟨q5,c5,hv5,hPL,hle5,hcm5⟩:=hO.slice
        have hPS:=hPL.pols
        have hperm:((ord.map PX).map (·.p)).Perm L:=by
         rw[←HXS.out]
         refine List.Perm.map _ ?_
         have h1:(ord.map Int.toNat).Perm (List.range n):=perm_range (nodup_mapI hI.2 fun z hz=>(hI.1 z hz).1) (by rw[List.length_map];exact hlo) (fun x hx=>by
          obtain⟨a,ha,rfl⟩:=List.mem_map.1 hx
          have:=hI.1 a ha
          omega)
         have h2:=h1.map (fun j=>xs.getD j default)
         rw[List.map_map]at h2
         have h3:(List.range n).map (fun j=>xs.getD j default)=xs:=by
          refine List.ext_getElem ?_ (fun i h1 h2=>?_)
          · rw[List.length_map,List.length_range];exact HXL.out.symm
          · simp[List.getD_eq_getElem?_getD,List.getElem?_eq_getElem h2]
         rw[h3]at h2
         rw[HPX0.out]
         exact h2
        obtain⟨m,hm⟩:∃m,m=(ord.map PX).length:=⟨_,rfl⟩
        obtain⟨Y,hY⟩:∃Y,Y=(ord.map PX).map (·.p):=⟨_,rfl⟩
        rw[←hm]at hv5 hle5
        rw[←hY]at hPS hperm
        have HPS:Hid (PArg wr Y m q5 c5):=⟨by rw[hY,hm,List.length_map],hPS,hle5,hcm5,fun x hx=>H64.out x (hperm.mem_iff.1 hx)⟩
        have HB2:Hid (∀W,Below wr.heap.size wr W→W.cell? ⟨w3.heap.size,0,none⟩=some (.bool a1)∧W.cell? ⟨w3.heap.size,1,none⟩=some (.slice p11 By.length c11)∧W.cell? ⟨w3.heap.size,2,none⟩=some (.slice p12 Wr.length c12)∧w3.heap.size<W.heap.size∧TL W p11 By∧TL W p12 Wr):=fun W hW=>by
         have:=HB1.out W (kqt HB.out hW)
         exact⟨this.cell 0,this.cell 1,this.cell 2,this.lt,HT1.out W (kqt HB.out hW)⟩
        obtain⟨e1,e2,e3,e4⟩:=HPE.out Y hperm
        have HE2:Hid (auE es q Y=0):=e1
        have HE3:Hid (auAl (auV es q) Y=a1∧(auBy (auV es q) Y).Perm By∧(auW (auV es q) Y).Perm Wr):=⟨e2,e3,e4⟩
        subst hv5
        clear hO hI hPL hle5 hcm5 hPS hperm hm hY HO HI HB HB1 HT1 HXP HXS HXL HPE HPX0 HPXM HLO hlo HIL e1 e2 e3 e4
        obtain⟨y0,y1,y2,y3,y4,y5,y6⟩:=(HA.out wr hbr).cells
        have lq:w.heap.size<wr.heap.size:=(HA.out wr hbr).lt
        go_wp2_with fail
        refine(HK Y m q5 c5 _ (HEA.out _ hbr) HPS.out).mono ?_
        rintro _ w8 ⟨hr8,hb8⟩
        have hbV8:Below V.heap.size V w8:=kqt hbr hb8
        obtain⟨p21,c21,p22,c22,rfl,ht21,ht22⟩:=hr8.good HE2.out
        rw[HE3.out.1]
        have hpB:=HE3.out.2.1
        have hpW:=HE3.out.2.2
        obtain⟨B2,hB2⟩:∃B,B=auBy (auV es q) Y:=⟨_,rfl⟩
        obtain⟨R2,hR2⟩:∃B,B=auW (auV es q) Y:=⟨_,rfl⟩
        rw[←hB2]at ht21 hpB ⊢
        rw[←hR2]at ht22 hpW ⊢
        have q1:alkT By B2=true:=alkT_iff.2 ⟨fun x hx=>hpB.mem_iff.2 hx,hpB.length_eq.symm⟩
        have q2:alkT Wr R2=true:=alkT_iff.2 ⟨fun x hx=>hpW.mem_iff.2 hx,hpW.length_eq.symm⟩
        have l1:=hpB.length_eq
        have l2:=hpW.length_eq
        have HL12:Hid (By.length≤12∧Wr.length≤12∧B2.length≤12∧R2.length≤12):=⟨hbl.1,hbl.2,by omega,by omega⟩
        clear hr8 y0 y1 y2 y3 y4 y5 y6 lq HE2 HE3 HPS HK hpB hpW hB2 hR2 l1 l2 hbl
        obtain⟨z0,z1,z2,lz,ht1,ht2⟩:=HB2.out w8 hb8
        obtain⟨W8,hW8⟩:∃W,W=w8.alloc (.cells #[.bool a1,.slice p21 B2.length c21,.slice p22 R2.length c22] 33):=⟨_,rfl⟩
        have hb88:Below w8.heap.size w8 W8:=by rw[hW8];exact kqx
        have hBn:Blk W8 w8.heap.size #[.bool a1,.slice p21 B2.length c21,.slice p22 R2.length c22] 33:=by rw[hW8];exact Blk.new _ _ _ rfl
        have HCL:Hid (∀W,Below W8.heap.size W8 W→W.cell? ⟨w3.heap.size,0,none⟩=some (.bool a1)∧W.cell? ⟨w3.heap.size,1,none⟩=some (.slice p11 By.length c11)∧W.cell? ⟨w3.heap.size,2,none⟩=some (.slice p12 Wr.length c12)∧W.cell? ⟨w8.heap.size,0,none⟩=some (.bool a1)∧W.cell? ⟨w8.heap.size,1,none⟩=some (.slice p21 B2.length c21)∧W.cell? ⟨w8.heap.size,2,none⟩=some (.slice p22 R2.length c22)):=fun W hW=>by
         have h8:=kqt hb88 hW
         exact⟨(h8.cell (p:=⟨w3.heap.size,0,none⟩) lz).trans z0,(h8.cell (p:=⟨w3.heap.size,1,none⟩) lz).trans z1,(h8.cell (p:=⟨w3.heap.size,2,none⟩) lz).trans z2,(hBn.up hW).cell 0,(hBn.up hW).cell 1,(hBn.up hW).cell 2⟩
        have HA1:=fun W (hW:Below W8.heap.size W8 W)=>alike_any By B2 p11 p21 c11 c21 W (ht1.up (kqt hb88 hW)) (ht21.up (kqt hb88 hW)) (by have:=HL12.out;omega) (by have:=HL12.out;omega)
        have HA2:=fun W (hW:Below W8.heap.size W8 W)=>alike_any Wr R2 p12 p22 c12 c22 W (ht2.up (kqt hb88 hW)) (ht22.up (kqt hb88 hW)) (by have:=HL12.out;omega) (by have:=HL12.out;omega)
        rw[q1]at HA1
        rw[q2]at HA2
        obtain⟨x0,x1,x2,x3,x4,x5⟩:=HCL.out W8 (Below.refl _ _)
        clear ht1 ht2 ht21 ht22 q1 q2 HB2 hBn HL12
        go_wp2_with fail
        rw[←hW8]
        clear hW8 z0 z1 z2 lz
        refine(HA1 _ (Below.refl _ _)).mono ?_
        rintro _ w9 ⟨rfl,hb9⟩
        clear x0 x1 x2 x3 x4 x5 HA1
        obtain⟨x0,x1,x2,x3,x4,x5⟩:=HCL.out w9 hb9
        go_wp2_with fail
        refine(HA2 _ hb9).mono ?_
        rintro _ w10 ⟨rfl,hb10⟩
        clear x0 x1 x2 x3 x4 x5 HA2
        obtain⟨x0,x1,x2,x3,x4,x5⟩:=HCL.out w10 (kqt hb9 hb10)
        go_wp2_with fail
        go_ret
        exact⟨by simp,kqt hbV (kqt hbV8 (kqt hb88 (kqt hb9 hb10)))⟩
   · have j0:((ord.length:Int) != (n:Int))=true:=by simp;omega
     clear h1 han1
     go_wp2_with fail
     go_ret
     exact⟨rfl,kqt hbV (kqt hb3 kqx)⟩
 · obtain⟨e1,he1⟩:=ev_nn h1
   rw[he1]
   clear h1 he1
   go_wp2_with fail
   go_ret
   exact⟨rfl,kqt hbV (kqt hb3 kqx)⟩
end Go.Proofs.YtipcngglmebiiaaGreatDoor
