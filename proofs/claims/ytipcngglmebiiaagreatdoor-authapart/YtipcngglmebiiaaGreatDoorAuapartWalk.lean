import Derived.Test.YtipcngglmebiiaaGreatDoorA37
import Derived.Test.YtipcngglmebiiaaGreatDoorA26
import Derived.Test.YtipcngglmebiiaaGreatDoorA12
import Derived.Test.YtipcngglmebiiaaGreatDoorA24
import Derived.Deep.RegionHeld
set_option linter.unusedVariables false
set_option maxHeartbeats 12000000
namespace Go.Proofs.YtipcngglmebiiaaGreatDoor
open Go.RowKit Go.Deep
set_option linter.unusedSimpArgs false
set_option maxRecDepth 100000
theorem auapart_walk (es:List En)(ps:Option Addr)(cs:Nat)(L:List Po)(pl:Option Addr)(cl:Nat)(q:Rq)(pq:Option Addr)(cq:Nat)(w:World)(ha:EvArg w es ps q pq cq)(hP:PArg w L L.length pl cl):
 Calls Tryz.prog 7 #[.slice ps es.length cs,.slice pl L.length cl,reqV q pq cq] w fun e w'=>e= .returned (.bool true)∧Below w.heap.size w w':=by
 obtain⟨V,hV⟩:∃V,V=w.alloc (.cells #[.string q.who.t,.string q.who.i,.string q.act.t,.string q.act.i,.string q.what.t,.string q.what.i,.slice pq q.cx.length cq] 28):=⟨_,rfl⟩
 have hbV:Below w.heap.size w V:=by rw[hV];exact kqx
 have HA:Hid (∀W,Below V.heap.size V W→QB W w.heap.size q pq cq):=fun W hW=>by
  have h1:QB V w.heap.size q pq cq:=by rw[hV];exact QB.new w q pq cq
  exact h1.up hW
 have HEA:Hid (∀W,Below V.heap.size V W→EvArg W es ps q pq cq):=fun W hW=>ha.up (kqt hbV hW)
 have HPA:Hid (∀W,Below V.heap.size V W→PArg W L L.length pl cl):=fun W hW=>hP.up (kqt hbV hW)
 obtain⟨n,hn⟩:∃n,n=L.length:=⟨_,rfl⟩
 have hPM:=permitted_any V (HEA.out V (Below.refl _ _)).er
 have HK:=fun L' n' pl cl W ha hp=>ask_pols es ps cs L' n' pl cl q pq cq W ha hp
 obtain⟨xs,hxs,hxp⟩:=hP.pl.parts
 have HXL:Hid (xs.length=n):=by show _=_;rw[hn,←hxs];simp
 have HXP:Hid (∀w',Below V.heap.size V w'→PAL w' pl xs):=fun w' hb=>hxp.up (kqt hbV hb)
 have HXS:Hid (xs.map (·.p)=L):=hxs
 have H64:Hid (∀x∈L,P64 x):=hP.num
 have hcm:=hP.cm
 unfold maxLen at hcm
 have hle:=hP.le
 rw[←hn]at HPA hle ⊢
 have HN:Hid (n=L.length):=hn
 clear hxs hxp hn ha hP
 unfold reqV at *
 go_enter Tryz.func7,Tryz.ntmps7
 go_wp2_with fail
 rw[←hV]
 clear hV
 refine hPM.mono ?_
 rintro _ w2 ⟨rfl,hb2⟩
 clear hPM
 obtain⟨y0,y1,y2,y3,y4,y5,y6⟩:=(HA.out w2 hb2).cells
 have lq:w.heap.size<w2.heap.size:=(HA.out w2 hb2).lt
 go_wp2_with fail
 refine(HK L n pl cl _ (HEA.out _ hb2) (HPA.out _ hb2)).mono ?_
 rintro _ w3 ⟨hr3,hb3'⟩
 have hb3:Below V.heap.size V w3:=kqt hb2 hb3'
 obtain⟨a1,p11,n11,c11,p12,n12,c12,rfl,han1⟩:=hr3.any
 clear hr3 y0 y1 y2 y3 y4 y5 y6 lq hb3'
 obtain⟨G,hG⟩:∃W,W=w3.alloc (.cells #[.bool a1,.slice p11 n11 c11,.slice p12 n12 c12] 33):=⟨_,rfl⟩
 have hb3G:Below w3.heap.size w3 G:=by rw[hG];exact kqx
 have hbVG:Below V.heap.size V G:=kqt hb3 hb3G
 have HB1:Hid (∀W,Below G.heap.size G W→Blk W w3.heap.size #[.bool a1,.slice p11 n11 c11,.slice p12 n12 c12] 33):=fun W hW=>by
  have:Blk G w3.heap.size #[.bool a1,.slice p11 n11 c11,.slice p12 n12 c12] 33:=by rw[hG];exact Blk.new _ _ _ rfl
  exact this.up hW
 by_cases h1:auE es q L=0
 · rw[eV_nil h1]
   obtain⟨hal,hn1,hn2,ht1,ht2⟩:=han1 h1
   obtain⟨By,hBy⟩:∃By,By=auBy (auV es q) L:=⟨_,rfl⟩
   rw[←hBy]at hn1 ht1
   subst hn1
   obtain⟨z1,z2,z3⟩:=auE_zero.1 h1
   obtain⟨g1,g2,g3⟩:=auC_zero.1 z2
   have hap:=au_apart (f:=auV es q) g3
   rw[←hBy]at hap
   obtain⟨F,hF⟩:∃F:Po→Bool,F=fun p=>amT p.nm By:=⟨_,rfl⟩
   have hF2:(fun p:Po=>By.any (fun s=>decide (s=p.nm)))=F:=by rw[hF];rfl
   rw[hF2]at hap
   have HAP:Hid (auBy (auV es q) (L.filter F)=By∧auAl (auV es q) (L.filter F)=a1∧auW (auV es q) (L.filter F)=[]):=by rw[hal];exact hap
   have HE2:Hid (auE es q (L.filter F)=0):=auE_zero.2 ⟨z1,auC_sub List.filter_sublist z2,z3⟩
   have hbl:By.length≤12:=by
    rw[hBy]
    unfold auBy auB
    split<;>(rw[List.length_map];exact Nat.le_trans (List.length_filter_le _ _) g1)
   have HAM:=fun s W (hW:Below G.heap.size G W)=>among_any s By p11 c11 W (ht1.up (kqt hb3G hW)) (by omega)
   have HT1:Hid (∀W,Below G.heap.size G W→TL W p11 By):=fun W hW=>ht1.up (kqt hb3G hW)
   have hn12:n≤12:=by rw[HN.out];exact g1
   have HFX:Hid (∀p:Po,F p=amT p.nm By):=fun p=>by rw[hF]
   clear han1 hal hn2 ht1 ht2 h1 z1 z2 z3 g1 g2 g3 hap hF2 hF hBy
   go_wp2_with fail
   rw[←hG]
   clear hG
   go_loopw [10,11] (fun v i wr=>∃k:Nat,k≤n∧i= .int .i64 k∧Hid (Below G.heap.size G wr)∧Hid (OPs wr G.heap.size v ((xs.take k).filter fun y=>F y.p))) (fun _ i _=>n-(intOf i).toNat)
   case atStart=>exact⟨0,Nat.zero_le _,rfl,Below.refl _ _,by show OPs _ _ _ _;exact OPs.nil _ _⟩
   case round=>
    obtain⟨k,hk,rfl,HB,HO⟩:=hrel
    have hbr:Below V.heap.size V wr:=kqt hbVG HB.out
    by_cases hlt:k<n
    · have i1:(k:Int)<(n:Int):=by omega
      have hkx:k<xs.length:=by have:=HXL.out;omega
      have hFT:=filter_take (F:=fun y:PA=>F y.p) hkx
      have HYM:Hid (xs[k]∈xs):=List.getElem_mem hkx
      obtain⟨b,off,e0,hbw,hpo,k0,k1,k2,k3,k4,k5,k6,k7,k8,k9,k10,k11,k12,k13,k14⟩:=(HXP.out wr hbr).at hkx
      subst e0
      generalize xs[k]=y at *
      have HFT:Hid (_=_):=hFT
      have z1:wr.cell? ⟨w3.heap.size,1,none⟩=some (.slice p11 By.length c11):=(HB1.out wr HB.out).cell 1
      have lz:w3.heap.size<wr.heap.size:=(HB1.out wr HB.out).lt
      have HC:Hid (∀W,Below wr.heap.size wr W→PoA W y.p y.q y.c∧b<W.heap.size∧W.cell? ⟨b,off+k*15,none⟩=some (.string y.p.nm)∧(W.cell? ⟨b,off+k*15+1,none⟩=some (.bool y.p.fb)∧W.cell? ⟨b,off+k*15+2,none⟩=some (.int .i64 y.p.who.op)∧W.cell? ⟨b,off+k*15+3,none⟩=some (.string y.p.who.ty)∧W.cell? ⟨b,off+k*15+4,none⟩=some (.string y.p.who.u.t)∧W.cell? ⟨b,off+k*15+5,none⟩=some (.string y.p.who.u.i)∧W.cell? ⟨b,off+k*15+6,none⟩=some (.int .i64 y.p.act.op)∧W.cell? ⟨b,off+k*15+7,none⟩=some (.string y.p.act.ty)∧W.cell? ⟨b,off+k*15+8,none⟩=some (.string y.p.act.u.t)∧W.cell? ⟨b,off+k*15+9,none⟩=some (.string y.p.act.u.i)∧W.cell? ⟨b,off+k*15+10,none⟩=some (.int .i64 y.p.what.op)∧W.cell? ⟨b,off+k*15+11,none⟩=some (.string y.p.what.ty)∧W.cell? ⟨b,off+k*15+12,none⟩=some (.string y.p.what.u.t)∧W.cell? ⟨b,off+k*15+13,none⟩=some (.string y.p.what.u.i)∧W.cell? ⟨b,off+k*15+14,none⟩=some (.slice y.q y.p.cs.length y.c))):=fun W hW=>by
       have hc:∀j v,wr.cell? ⟨b,j,none⟩=some v→W.cell? ⟨b,j,none⟩=some v:=fun j v h=>(hW.cell (p:=⟨b,j,none⟩) hbw).trans h
       exact⟨hpo.up hW,Nat.lt_of_lt_of_le hbw hW.size,hc _ _ k0,hc _ _ k1,hc _ _ k2,hc _ _ k3,hc _ _ k4,hc _ _ k5,hc _ _ k6,hc _ _ k7,hc _ _ k8,hc _ _ k9,hc _ _ k10,hc _ _ k11,hc _ _ k12,hc _ _ k13,hc _ _ k14⟩
      clear hpo k1 k2 k3 k4 k5 k6 k7 k8 k9 k10 k11 k12 k13 k14 hFT
      have HAM1:=HAM y.p.nm
      rw[←HFX.out y.p]at HAM1
      have HSK:Hid (∀w',Below wr.heap.size wr w'→w'.cell? ⟨b,off+k*15,none⟩=some (.string y.p.nm)∧w'.cell? ⟨w3.heap.size,1,none⟩=some (.slice p11 By.length c11)):=fun w' hW=>⟨(hW.cell (p:=⟨b,off+k*15,none⟩) hbw).trans k0,(hW.cell (p:=⟨w3.heap.size,1,none⟩) lz).trans z1⟩
      clear hbw k0 z1 lz
      go_wp2_with fail
      go_region_held (fun w'=>w'.cell? ⟨b,off+k*15,none⟩=some (.string y.p.nm)∧w'.cell? ⟨w3.heap.size,1,none⟩=some (.slice p11 By.length c11)) (first | exact HSK.out _ hb5 | exact HSK.out _ kqx) (first
       | (go_at_call 16
          refine(HAM1 _ (kqt HB.out kqx)).mono ?_
          rintro _ w5 ⟨rfl,hb5'⟩
          have hb5:Below wr.heap.size wr w5:=kqt kqx hb5'))
      have hbG5:Below G.heap.size G w5:=kqt HB.out hb5
      clear HAM1 HSK
      cases hFy:F y.p with
      | false=>
        have HO2:Hid (OPs w5 G.heap.size u10 ((xs.take (k+1)).filter fun y=>F y.p)):=by
         show OPs _ _ _ _
         rw[HFT.out,hFy,if_neg (by simp),List.append_nil]
         exact HO.out.up hb5
        go_wp2_with fail
        go_roundw
        case rel=>exact⟨k+1,by omega,by go_num,hbG5,HO2⟩
        case measure=>simp[intOf];omega
      | true=>
        obtain⟨_,hbw,k0,k1,k2,k3,k4,k5,k6,k7,k8,k9,k10,k11,k12,k13,k14⟩:=HC.out w5 hb5
        obtain⟨W5,hW5⟩:∃W,W=w5.alloc (.cells (poC y.p y.q y.c) 42):=⟨_,rfl⟩
        have hb55:Below w5.heap.size w5 W5:=by rw[hW5];exact kqx
        have hs5:W5.heap.size=w5.heap.size+1:=by rw[hW5];simp
        have hbG55:Below G.heap.size G W5:=kqt hbG5 hb55
        have hBY:Blk W5 w5.heap.size (poC y.p y.q y.c) 42:=by rw[hW5];exact Blk.new _ _ _ rfl
        have HST:Hid (∀z∈xs,∀w',Below G.heap.size W5 w'→PoA w' z.p z.q z.c):=fun z hz w' hw=>(HXP.out w' (kqt hbVG (hbG55.trans hw))).parts z hz
        have HPX:Hid (∀z∈(xs.take k).filter (fun y=>F y.p),∀w',Below G.heap.size W5 w'→PoA w' z.p z.q z.c):=fun z hz w' hw=>HST.out z (List.mem_of_mem_take (List.mem_filter.1 hz).1) w' hw
        have HPY:Hid (∀z∈[y],∀w',Below G.heap.size W5 w'→PoA w' z.p z.q z.c):=fun z hz w' hw=>by rw[List.mem_singleton.1 hz];exact HST.out y HYM.out w' hw
        have HYL:Hid (PAL W5 (some ⟨w5.heap.size,0,none⟩) [y]):=Blk.pal hBY ((HC.out W5 (kqt hb5 hb55)).1)
        have HOW:=HO.out.up (kqt hb5 hb55)
        have hln:((xs.take k).filter (fun y=>F y.p)).length≤12:=Nat.le_trans (List.length_filter_le _ _) (by rw[List.length_take];have:=HXL.out;omega)
        have hGs:=hbG55.size
        have HLN:Hid (_≤12):=hln
        unfold poC at hW5
        clear hBY hb5 hln hb55 HO HAM HST
        obtain⟨S0,hS0⟩:∃S0,S0=(xs.take k).filter (fun y=>F y.p):=⟨_,rfl⟩
        rw[←hS0]at HPX HOW HLN
        have HS0:Hid (S0=_):=hS0
        clear hS0
        go_wp2_with (at_builtin;rw[←hW5];refine append_pols W5 rfl (.tmp 40) (.tmp 45) rfl G.heap.size _ S0 rfl HOW HPX [y] 1 rfl (some ⟨w5.heap.size,0,none⟩) 1 HYL.out HPY.out (fun h=>by cases h) rfl (by have:=HLN.out;simp;omega) hGs ?_;intro v6 w6 hO6 hb6;have HO6:Hid (OPs w6 G.heap.size v6 (S0++[y])):=hO6;clear hO6)
        have HO7:Hid (OPs w6 G.heap.size v6 ((xs.take (k+1)).filter fun y=>F y.p)):=by
         show OPs _ _ _ _
         rw[HFT.out,hFy,if_pos rfl,←HS0.out]
         exact HO6.out
        have HB6:Hid (Below G.heap.size G w6):=hbG55.trans hb6
        clear HO6 hb6
        go_wp2_with fail
        go_roundw
        case rel=>exact⟨k+1,by omega,by go_num,HB6,HO7⟩
        case measure=>simp[intOf];omega
    · have i1:¬(k:Int)<(n:Int):=by omega
      have hO:=HO.out
      rw[List.take_of_length_le (by have:=HXL.out;omega)]at hO
      obtain⟨q5,c5,hv5,hPL,hle5,hcm5⟩:=hO.slice
      have hPS:=hPL.pols
      have hmap:(xs.filter fun y=>F y.p).map (·.p)=L.filter F:=by
       rw[←HXS.out,List.filter_map];rfl
      rw[hmap]at hPS
      have hlen:(L.filter F).length=(xs.filter fun y=>F y.p).length:=by rw[←hmap,List.length_map]
      obtain⟨m,hm⟩:∃m,m=(L.filter F).length:=⟨_,rfl⟩
      rw[←hlen,←hm]at hv5 hle5
      have HPS:Hid (PArg wr (L.filter F) m q5 c5):=⟨hm.symm,hPS,hle5,hcm5,fun x hx=>H64.out x (List.mem_filter.1 hx).1⟩
      have hbr:Below V.heap.size V wr:=kqt hbVG HB.out
      obtain⟨Y,hY⟩:∃Y,Y=L.filter F:=⟨_,rfl⟩
      rw[←hY]at HAP HE2 HPS
      have HB2:Hid (∀W,Below wr.heap.size wr W→W.cell? ⟨w3.heap.size,0,none⟩=some (.bool a1)∧W.cell? ⟨w3.heap.size,1,none⟩=some (.slice p11 By.length c11)∧w3.heap.size<W.heap.size∧TL W p11 By):=fun W hW=>by
       have:=HB1.out W (kqt HB.out hW)
       exact⟨this.cell 0,this.cell 1,this.lt,HT1.out W (kqt HB.out hW)⟩
      subst hv5
      clear hO hPL hle5 hcm5 hPS hmap hlen hm hY HO HB HB1 HT1 HAM HFX HXP HXS HXL
      obtain⟨y0,y1,y2,y3,y4,y5,y6⟩:=(HA.out wr hbr).cells
      have lq:w.heap.size<wr.heap.size:=(HA.out wr hbr).lt
      go_wp2_with fail
      refine(HK Y m q5 c5 _ (HEA.out _ hbr) HPS.out).mono ?_
      rintro _ w8 ⟨hr8,hb8⟩
      have hbV8:Below V.heap.size V w8:=kqt hbr hb8
      obtain⟨p21,c21,p22,c22,rfl,ht21,_⟩:=hr8.good HE2.out
      obtain⟨e21,e22,e23⟩:=HAP.out
      rw[e21,e22,e23]
      rw[e21]at ht21
      clear hr8 y0 y1 y2 y3 y4 y5 y6 lq e21 e22 e23 HAP HE2 HPS HK
      obtain⟨z0,z1,lz,ht1⟩:=HB2.out w8 hb8
      obtain⟨W8,hW8⟩:∃W,W=w8.alloc (.cells #[.bool a1,.slice p21 By.length c21,.slice p22 0 c22] 33):=⟨_,rfl⟩
      have hb88:Below w8.heap.size w8 W8:=by rw[hW8];exact kqx
      have HT:=sameTexts_any By By p11 p21 c11 c21 W8 (ht1.up hb88) (ht21.up hb88) (by unfold maxLen;omega) (by unfold maxLen;omega)
      rw[decide_eq_true rfl]at HT
      have x0:W8.cell? ⟨w3.heap.size,0,none⟩=some (.bool a1):=(hb88.cell (p:=⟨w3.heap.size,0,none⟩) lz).trans z0
      have x1:W8.cell? ⟨w3.heap.size,1,none⟩=some (.slice p11 By.length c11):=(hb88.cell (p:=⟨w3.heap.size,1,none⟩) lz).trans z1
      have hBn:Blk W8 w8.heap.size #[.bool a1,.slice p21 By.length c21,.slice p22 0 c22] 33:=by rw[hW8];exact Blk.new _ _ _ rfl
      have x2:W8.cell? ⟨w8.heap.size,0,none⟩=some (.bool a1):=hBn.cell 0
      have x3:W8.cell? ⟨w8.heap.size,1,none⟩=some (.slice p21 By.length c21):=hBn.cell 1
      have x4:W8.cell? ⟨w8.heap.size,2,none⟩=some (.slice p22 0 c22):=hBn.cell 2
      clear hBn ht1 ht21 HB2
      go_wp2_with fail
      rw[←hW8]
      clear hW8
      refine HT.mono ?_
      rintro _ w9 ⟨rfl,nn,rfl⟩
      clear HT
      go_wp2_with fail
      go_ret
      exact⟨by simp,kqt hbV (kqt hbV8 (kqt hb88 ⟨rfl,rfl,rfl,Nat.le_refl _,fun _ _=>rfl⟩))⟩
 · obtain⟨e1,he1⟩:=ev_nn h1
   rw[he1]
   clear h1 he1
   go_wp2_with fail
   go_ret
   exact⟨rfl,kqt hbV (kqt hb3 kqx)⟩
end Go.Proofs.YtipcngglmebiiaaGreatDoor
