import Derived.Test.YtlnhaajjoplafaaGreatDoorT39
import Derived.Test.YtlnhaajjoplafaaGreatDoorT27
import Derived.Test.YtlnhaajjoplafaaGreatDoorT28
import Derived.Test.YtlnhaajjoplafaaGreatDoorT3
import Derived.Test.YtlnhaajjoplafaaGreatDoorT25
import Derived.Test.YtlnhaajjoplafaaGreatDoorT38
import Derived.Test.YtlnhaajjoplafaaGreatDoorT22
import Derived.Test.YtlnhaajjoplafaaGreatDoorT12
import Derived.Deep.RegionHeld
set_option linter.unusedVariables false
set_option maxHeartbeats 12000000
namespace Go.Proofs.YtlnhaajjoplafaaGreatDoor
open Go.RowKit Go.Deep
set_option linter.unusedSimpArgs false
set_option maxRecDepth 100000
theorem map_next {e:List Nd}{f:Nd→Nd}{k:Nat}(h:k<e.length):(e.take (k+1)).map f=(e.take k).map f++[f e[k]]:=by
 rw[List.take_succ_eq_append_getElem h,List.map_append];rfl
theorem au_len {es:List En}{q:Rq}{Y:Po}:(auBy (auV es q) [Y]).length=(if auV es q Y=1 then 1 else 0)∧(auW (auV es q) [Y]).length=(if auV es q Y= -1 then 1 else 0)∧auAl (auV es q) [Y]=(decide (auV es q Y=1) && !Y.fb):=by
 obtain⟨h1,h2,h3⟩:=au_one (f:=auV es q) Y
 refine⟨?_,?_,h3⟩
 · rw[h1];split<;>rfl
 · rw[h2];split<;>rfl
theorem tl_walk (es:List En)(ps:Option Addr)(cs:Nat)(p:Po)(pc:Option Addr)(cc:Nat)(a b:Ui)(q:Rq)(pq:Option Addr)(cq:Nat)(w:World)(ha:EvArg w es ps q pq cq)(h:PoA w p pc cc)(hN:P64 p)(hu:UOk a)(hv:UOk b):
 Calls Tryz.prog 3 #[.slice ps es.length cs,poV p pc cc,uiV a,uiV b,reqV q pq cq] w fun e w'=>e= .returned (.bool true)∧Below w.heap.size w w':=by
 obtain⟨V,hV⟩:∃V,V=(((w.alloc (.cells (poC p pc cc) 29)).alloc (.cells #[.string a.t,.string a.i] 24)).alloc (.cells #[.string b.t,.string b.i] 24)).alloc (.cells #[.string q.who.t,.string q.who.i,.string q.act.t,.string q.act.i,.string q.what.t,.string q.what.i,.slice pq q.cx.length cq] 32):=⟨_,rfl⟩
 have hbV:Below w.heap.size w V:=by rw[hV];exact kqx
 have HA:Hid (∀W,Below V.heap.size V W→Blk W w.heap.size (poC p pc cc) 29∧Blk W (w.heap.size+1) #[.string a.t,.string a.i] 24∧Blk W (w.heap.size+1+1) #[.string b.t,.string b.i] 24∧QB W (w.heap.size+1+1+1) q pq cq):=fun W hW=>by
  have h1:Blk V w.heap.size (poC p pc cc) 29:=by rw[hV];exact(((Blk.new w _ _ rfl).up kqx).up kqx).up kqx
  have h2:Blk V (w.heap.size+1) #[.string a.t,.string a.i] 24:=by rw[hV];refine((Blk.new (w.alloc _) _ _ ?_).up kqx).up kqx;simp
  have h3:Blk V (w.heap.size+1+1) #[.string b.t,.string b.i] 24:=by rw[hV];refine(Blk.new ((w.alloc _).alloc _) _ _ ?_).up kqx;simp
  have h4:QB V (w.heap.size+1+1+1) q pq cq:=by rw[hV];exact⟨new_at (by simp)⟩
  exact⟨h1.up hW,h2.up hW,h3.up hW,h4.up hW⟩
 have HPA:Hid (∀W,Below V.heap.size V W→PoA W p pc cc):=fun W hW=>h.up (kqt hbV hW)
 have HEA:Hid (∀W,Below V.heap.size V W→EvArg W es ps q pq cq):=fun W hW=>ha.up (kqt hbV hW)
 have hPM:=permitted_any V (HEA.out V (Below.refl _ _)).er
 have HUU:Hid (UOk a∧UOk b):=⟨hu,hv⟩
 have LG:=fun W hW (hl:lkf p a b=0)=>link_good (HPA.out W hW) hu hv hl
 have LW:=fun W hW (hl:lkf p a b≠0)=>link_wrong (HPA.out W hW) hu hv rfl hl
 obtain⟨Y,hY⟩:∃Y,Y=lkP p a b:=⟨_,rfl⟩
 have HY:Hid (Y=lkP p a b):=hY
 have HK:=fun n pl cl W hA hP=>ask_pols es ps cs [Y] n pl cl q pq cq W hA hP
 rw[←hY]at LG
 have HYF:Hid (Y.fb=p.fb):=by show _=_;rw[hY];rfl
 have HY64:Hid (P64 Y):=by show P64 _;rw[hY];exact hN
 have HTR:=refTruth_any
 clear hY ha h hN hu hv
 unfold poZ at LW
 unfold poC at hV
 unfold poV uiV at *
 unfold reqV at *
 go_enter Tryz.func3,Tryz.ntmps3
 go_wp2_with fail
 rw[←hV]
 clear hV
 generalize w.heap.size+1+1+1=B3 at *
 generalize w.heap.size+1+1=B2 at *
 generalize w.heap.size+1=B1 at *
 refine hPM.mono ?_
 rintro _ w1 ⟨rfl,hb1⟩
 clear hPM
 obtain⟨hB0,hB1,hB2,hB3⟩:=HA.out w1 hb1
 obtain⟨x0,x1,x2,x3,x4,x5,x6,x7,x8,x9,x10,x11,x12,x13,x14⟩:=po_cells hB0
 have l0:w.heap.size<w1.heap.size:=hB0.lt
 have u0:=hB1.cell 0
 have u1:=hB1.cell 1
 have t0:=hB2.cell 0
 have t1:=hB2.cell 1
 have l1:B1<w1.heap.size:=hB1.lt
 have l2:B2<w1.heap.size:=hB2.lt
 simp only[List.getElem?_toArray,List.getElem?_cons_zero,List.getElem?_cons_succ]at u0 u1 t0 t1
 clear hB0 hB1 hB2 hB3
 by_cases hl:lkf p a b=0
 · have E1:=fun W hW hg=>expr_good (HPA.out W hW) (lkf_ways hl).1 hg
   have HMP:Hid ((poE p).map (mpN a b)=poE Y):=by show _=_;rw[HY.out];exact mp_po a b (lkf_ways hl).1
   have HLE:Hid ((poE Y).length=(poE p).length):=by show _=_;rw[HY.out];exact poE_len p a b
   have LG:=fun W hW=>LG W hW hl
   clear LW hl HPA
   unfold poV at *
   go_wp2_with fail
   refine(LG _ hb1).mono ?_
   rintro _ w2 ⟨⟨q2,c2,rfl,hp2⟩,hb2'⟩
   have hb2:Below V.heap.size V w2:=kqt hb1 hb2'
   clear LG hb2' x0 x1 x2 x3 x4 x5 x6 x7 x8 x9 x10 x11 x12 x13 x14 l0 u0 u1 t0 t1 l1 l2
   obtain⟨V2,hV2⟩:∃V2,V2=w2.alloc (.cells (poC Y q2 c2) 29):=⟨_,rfl⟩
   have hb22:Below w2.heap.size w2 V2:=by rw[hV2];exact kqx
   have hbV2:Below V.heap.size V V2:=kqt hb2 hb22
   have hBY:Blk V2 w2.heap.size (poC Y q2 c2) 29:=by rw[hV2];exact Blk.new w2 _ _ rfl
   have hsz:V2.heap.size=w2.heap.size+1:=by rw[hV2];simp
   have hpY:PoA V2 Y q2 c2:=hp2.up hb22
   clear hp2
   have HPR:Hid (PArg (V2.alloc (.cells (poC Y q2 c2) 29)) [Y] 1 (some ⟨w2.heap.size+1,0,none⟩) 1):=by
    rw[←hsz]
    exact⟨rfl,(Blk.pal (x:=⟨Y,q2,c2⟩) (Blk.new V2 (poC Y q2 c2) _ rfl) (hpY.up kqx)).pols,Nat.le_refl _,by unfold maxLen;decide,fun x hx=>by rw[List.mem_singleton.1 hx];exact HY64.out⟩
   clear hpY hBY hsz
   obtain⟨hB0,hB1,hB2,hB3⟩:=HA.out w2 hb2
   obtain⟨y0,y1,y2,y3,y4,y5,y6⟩:=hB3.cells
   have l3:B3<w2.heap.size:=hB3.lt
   clear hB0 hB1 hB2 hB3
   have HEQ:Hid (∀W,Below V2.heap.size V2 W→EvArg W es ps q pq cq):=fun W hW=>HEA.out W (kqt hbV2 hW)
   unfold poC at hV2 HPR
   go_wp2_with fail
   rw[←hV2]
   clear hV2
   go_wp2_with fail
   refine(HK 1 _ _ _ (HEQ.out _ kqx) HPR.out).mono ?_
   rintro _ w3 ⟨hr3,hb3'⟩
   have hb3:Below V.heap.size V w3:=kqt hbV2 (kqt kqx hb3')
   obtain⟨al,p11,n11,c11,p12,n12,c12,rfl,han⟩:=hr3.any
   clear hr3 hb3' HPR HK y0 y1 y2 y3 y4 y5 y6 l3
   obtain⟨G,hG⟩:∃W,W=w3.alloc (.cells #[.bool al,.slice p11 n11 c11,.slice p12 n12 c12] 40):=⟨_,rfl⟩
   have hb3G:Below w3.heap.size w3 G:=by rw[hG];exact kqx
   have hbG:Below V.heap.size V G:=kqt hb3 hb3G
   have HBG:Hid (∀W,Below G.heap.size G W→Blk W w3.heap.size #[.bool al,.slice p11 n11 c11,.slice p12 n12 c12] 40):=fun W hW=>by
    have:Blk G w3.heap.size #[.bool al,.slice p11 n11 c11,.slice p12 n12 c12] 40:=by rw[hG];exact Blk.new _ _ _ rfl
    exact this.up hW
   by_cases h1:auE es q [Y]=0
   · rw[eV_nil h1]
     have hq3:=han h1
     obtain⟨z1,z2,z3⟩:=auE_zero.1 h1
     have hok:auOk Y:=(auC_zero.1 z2).2.1 Y (by simp)
     have hg:(poE p).length≤200:=by rw[←HLE.out];exact hok.2.1
     obtain⟨g1,g2,g3⟩:=au_len (es:=es) (q:=q) (Y:=Y)
     have HN1:Hid (n11=if auV es q Y=1 then 1 else 0):=by show _=_;rw[hq3.n1,g1]
     have HN2:Hid (n12=if auV es q Y= -1 then 1 else 0):=by show _=_;rw[hq3.n2,g2]
     have HAL:Hid (al=(decide (auV es q Y=1) && !p.fb)):=by show _=_;rw[hq3.al,g3,HYF.out]
     have E1:=fun W hW=>E1 W hW hg
     have HVA:=fun W q2 c2 hE hA=>auval_any (ps:=ps) cs (pq:=pq) (cq:=cq) hok z1 z3 HY64.out W hE (q2:=q2) (c2:=c2) hA
     unfold reqV at HVA
     obtain⟨n,hn⟩:∃n,n=(poE p).length:=⟨_,rfl⟩
     have HN:Hid (n=(poE p).length):=hn
     rw[HLE.out]at HVA
     rw[←hn]at E1 HVA hg
     clear hn z1 z2 z3 hok g1 g2 g3 hq3 han h1 HYF HY64 HLE
     obtain⟨hB0,hB1,hB2,hB3⟩:=HA.out w3 hb3
     obtain⟨x0,x1,x2,x3,x4,x5,x6,x7,x8,x9,x10,x11,x12,x13,x14⟩:=po_cells hB0
     have l0:w.heap.size<w3.heap.size:=hB0.lt
     clear hB0 hB1 hB2 hB3
     go_wp2_with fail
     rw[←hG]
     clear hG
     refine(E1 _ hbG).mono ?_
     rintro _ w5 ⟨⟨q5,c5,rfl,ha5⟩,hb5'⟩
     have hb5:Below V.heap.size V w5:=kqt hbG hb5'
     have hbG5:Below G.heap.size G w5:=hb5'
     have HE5:Hid (∀W,Below w5.heap.size w5 W→AK0 W (poE p) q5 c5):=fun W hW=>ha5.up hW
     obtain⟨E,hE⟩:∃E,E=poE p:=⟨_,rfl⟩
     rw[←hE]at HE5 HMP HN
     clear E1 ha5 hb5' hE x0 x1 x2 x3 x4 x5 x6 x7 x8 x9 x10 x11 x12 x13 x14 l0
     go_wp2
     go_loopw [18,19] (fun v i wr=>∃k:Nat,k≤n∧i= .int .i64 k∧Hid (Below w5.heap.size w5 wr)∧Hid (ON wr w5.heap.size v ((E.take k).map (mpN a b)))) (fun _ i _=>n-(intOf i).toNat)
     case atStart=>exact⟨0,Nat.zero_le _,rfl,Below.refl _ _,by show ON _ _ _ _;exact ON.emptyK _ _⟩
     case round=>
      obtain⟨k,hk,rfl,HB,HO⟩:=hrel
      have hbr:Below V.heap.size V wr:=kqt hb5 HB.out
      by_cases hlt:k<n
      · have i1:(k:Int)<(n:Int):=by omega
        have hkE:k<E.length:=by have:=HN.out;omega
        have HNX:Hid ((E.take (k+1)).map (mpN a b)=(E.take k).map (mpN a b)++[mpN a b E[k]]):=map_next hkE
        have hLn:((E.take k).map (mpN a b)).length≤200:=by rw[List.length_map,List.length_take];omega
        obtain⟨be,oe,e0,hbe,k0,k1,k2,k3,kw⟩:=(HE5.out wr HB.out).nl.at hkE
        subst e0
        generalize E[k]=x at *
        obtain⟨hB0,hB1,hB2,hB3⟩:=HA.out wr hbr
        have u0:=hB1.cell 0
        have u1:=hB1.cell 1
        have t0:=hB2.cell 0
        have t1:=hB2.cell 1
        have l1:B1<wr.heap.size:=hB1.lt
        have l2:B2<wr.heap.size:=hB2.lt
        simp only[List.getElem?_toArray,List.getElem?_cons_zero,List.getElem?_cons_succ]at u0 u1 t0 t1
        clear hB0 hB1 hB2 hB3
        have HUA:Hid (NL (wr.alloc (.cells #[.int .i64 4,.int .i64 0,.string a.t,.string a.i] 47)) (some ⟨wr.heap.size,0,none⟩) [nEn a]):=NL.lit wr [nEn a] _ (by intro z hz;rw[List.mem_singleton.1 hz];exact nEn_wf HUU.out.1) rfl (by show 1≤1000;decide)
        have HUB:Hid (NL (wr.alloc (.cells #[.int .i64 4,.int .i64 0,.string b.t,.string b.i] 47)) (some ⟨wr.heap.size,0,none⟩) [nEn b]):=NL.lit wr [nEn b] _ (by intro z hz;rw[List.mem_singleton.1 hz];exact nEn_wf HUU.out.2) rfl (by show 1≤1000;decide)
        have HUX:Hid (NL (wr.alloc (.cells #[.int .i64 x.op,.int .i64 x.n,.string x.s,.string x.t] 47)) (some ⟨wr.heap.size,0,none⟩) [x]):=NL.lit wr [x] _ (by intro z hz;rw[List.mem_singleton.1 hz];exact kw) rfl (by show 1≤1000;decide)
        have hws:=HB.out.size
        obtain⟨L0,hL0⟩:∃L0,L0=(E.take k).map (mpN a b):=⟨_,rfl⟩
        have HOW:Hid (∀ob,ON (wr.alloc ob) w5.heap.size u18 L0):=fun ob=>by
         have:=HO.out.below (kqx:Below wr.heap.size wr (wr.alloc ob))
         rw[←hL0]at this
         exact this
        rw[←hL0]at HNX hLn
        have HLN:Hid (L0.length≤200):=hLn
        clear hL0 HO hLn
        by_cases h8:x.op=8
        · have b8:(x.op == 8)=true:=by simpa using h8
          by_cases hs1:x.s=sQp
          · have b1:(x.s.toList == [63,112,114,105,110,99,105,112,97,108])=true:=by rw[hs1,ByteArray.toList_eq];rfl
            rw[mp_p h8 hs1]at HNX
            clear h8 hs1
            go_wp2_with (at_builtin;refine append_nodes _ rfl (.tmp 73) (.tmp 79) rfl w5.heap.size u18 L0 rfl (HOW.out _) [nEn a] 1 rfl wr.heap.size 0 1 HUA.out rfl (by have:=HLN.out;simp;omega) (by simp;omega) ?_;intro v6 w6 hon6 hk6;have HO6:Hid (ON w6 w5.heap.size v6 (L0++[nEn a])):=hon6;have HB6:Hid (Below w5.heap.size w5 w6):=(HB.out.trans ((kqx:Below wr.heap.size wr (wr.alloc _)).mono hws)).trans hk6.bel;clear hon6 hk6)
            go_roundw
            case rel=>exact⟨k+1,by omega,by go_num,HB6.out,by show ON _ _ _ _;rw[HNX.out];exact HO6.out⟩
            case measure=>simp[intOf];omega
          by_cases hs2:x.s=sQr
          · have b1:(x.s.toList == [63,112,114,105,110,99,105,112,97,108])=false:=by rw[hs2,ByteArray.toList_eq];rfl
            have b2:(x.s.toList == [63,114,101,115,111,117,114,99,101])=true:=by rw[hs2,ByteArray.toList_eq];rfl
            rw[mp_r h8 hs2]at HNX
            clear h8 hs1 hs2
            go_wp2_with (at_builtin;refine append_nodes _ rfl (.tmp 95) (.tmp 101) rfl w5.heap.size u18 L0 rfl (HOW.out _) [nEn b] 1 rfl wr.heap.size 0 1 HUB.out rfl (by have:=HLN.out;simp;omega) (by simp;omega) ?_;intro v6 w6 hon6 hk6;have HO6:Hid (ON w6 w5.heap.size v6 (L0++[nEn b])):=hon6;have HB6:Hid (Below w5.heap.size w5 w6):=(HB.out.trans ((kqx:Below wr.heap.size wr (wr.alloc _)).mono hws)).trans hk6.bel;clear hon6 hk6)
            go_roundw
            case rel=>exact⟨k+1,by omega,by go_num,HB6.out,by show ON _ _ _ _;rw[HNX.out];exact HO6.out⟩
            case measure=>simp[intOf];omega
          · have b1:(x.s.toList == [63,112,114,105,110,99,105,112,97,108])=false:=by
             rw[ByteArray.toList_eq,beq_eq_false_iff_ne];exact fun hh=>hs1 (bytes_inj (b:=sQp) hh)
            have b2:(x.s.toList == [63,114,101,115,111,117,114,99,101])=false:=by
             rw[ByteArray.toList_eq,beq_eq_false_iff_ne];exact fun hh=>hs2 (bytes_inj (b:=sQr) hh)
            rw[mp_o h8 hs1 hs2]at HNX
            clear h8 hs1 hs2
            go_wp2_with (at_builtin;refine append_nodes _ rfl (.tmp 103) (.tmp 108) rfl w5.heap.size u18 L0 rfl (HOW.out _) [x] 1 rfl wr.heap.size 0 1 HUX.out rfl (by have:=HLN.out;simp;omega) (by simp;omega) ?_;intro v6 w6 hon6 hk6;have HO6:Hid (ON w6 w5.heap.size v6 (L0++[x])):=hon6;have HB6:Hid (Below w5.heap.size w5 w6):=(HB.out.trans ((kqx:Below wr.heap.size wr (wr.alloc _)).mono hws)).trans hk6.bel;clear hon6 hk6)
            go_roundw
            case rel=>exact⟨k+1,by omega,by go_num,HB6.out,by show ON _ _ _ _;rw[HNX.out];exact HO6.out⟩
            case measure=>simp[intOf];omega
        · have b8:(x.op == 8)=false:=by simpa using h8
          rw[mp_no h8]at HNX
          clear h8
          go_wp2_with (at_builtin;refine append_nodes _ rfl (.tmp 103) (.tmp 108) rfl w5.heap.size u18 L0 rfl (HOW.out _) [x] 1 rfl wr.heap.size 0 1 HUX.out rfl (by have:=HLN.out;simp;omega) (by simp;omega) ?_;intro v6 w6 hon6 hk6;have HO6:Hid (ON w6 w5.heap.size v6 (L0++[x])):=hon6;have HB6:Hid (Below w5.heap.size w5 w6):=(HB.out.trans ((kqx:Below wr.heap.size wr (wr.alloc _)).mono hws)).trans hk6.bel;clear hon6 hk6)
          go_roundw
          case rel=>exact⟨k+1,by omega,by go_num,HB6.out,by show ON _ _ _ _;rw[HNX.out];exact HO6.out⟩
          case measure=>simp[intOf];omega
      · have i1:¬(k:Int)<(n:Int):=by omega
        have hO:=HO.out
        rw[List.take_of_length_le (by have:=HN.out;omega),HMP.out]at hO
        obtain⟨q6,c6,rfl⟩:=hO.any
        have hcp:=hO.cap
        have HA6:Hid (AK0 wr (poE Y) q6 c6):=⟨hO.nl,hcp.1,hcp.2⟩
        have hnY:(poE Y).length=n:=by rw[←HMP.out,List.length_map,HN.out]
        rw[hnY]
        clear hO hcp hnY HO HE5 HMP HN
        obtain⟨hB0,hB1,hB2,hB3⟩:=HA.out wr hbr
        obtain⟨y0,y1,y2,y3,y4,y5,y6⟩:=hB3.cells
        have l3:B3<wr.heap.size:=hB3.lt
        clear hB0 hB1 hB2 hB3
        go_wp2_with fail
        refine(HVA _ q6 c6 (HEA.out _ hbr) HA6.out).mono ?_
        rintro _ w7 ⟨⟨v,f,rfl,hans⟩,hb7'⟩
        have hb7:Below V.heap.size V w7:=kqt hbr hb7'
        have hbG7:Below G.heap.size G w7:=kqt (kqt hbG5 HB.out) hb7'
        have HVO:Hid (auV es q Y=votE (pvL es q Y)):=auV_vote es q Y
        clear HVA HA6 hb7' y0 y1 y2 y3 y4 y5 y6 l3
        have HLAST:Hid (∀W,Below w7.heap.size w7 W→(W.cell? ⟨w3.heap.size,0,none⟩=some (.bool al)∧W.cell? ⟨w3.heap.size,1,none⟩=some (.slice p11 n11 c11)∧W.cell? ⟨w3.heap.size,2,none⟩=some (.slice p12 n12 c12)∧w3.heap.size<W.heap.size)∧W.cell? ⟨w.heap.size,1,none⟩=some (.bool p.fb)∧w.heap.size<W.heap.size):=fun W hW=>by
         have g:=HBG.out W (kqt hbG7 hW)
         obtain⟨hB0,_,_,_⟩:=HA.out W (kqt hb7 hW)
         exact⟨⟨g.cell 0,g.cell 1,g.cell 2,g.lt⟩,(po_cells hB0).2.1,hB0.lt⟩
        cases hR:pvL es q Y with
        | error m=>
          rw[hR]at hans HVO
          obtain⟨rfl,rfl⟩:=hans
          have hvo:auV es q Y= -1:=HVO.out
          rw[hvo]at HN1 HN2 HAL
          have e1:n11=0:=HN1.out
          have e2:n12=1:=HN2.out
          have e3:al=false:=HAL.out
          subst e1 e2 e3
          clear HVO hvo HN1 HN2 HAL hR
          have HTRb:=HTR w7 true
          go_wp2_with fail
          refine HTRb.mono ?_
          rintro _ t1 ⟨⟨qt,ct,rfl,hvt⟩,ht1⟩
          have HSN:=sameNodes_any [] (tN true) none qt 0 ct t1 (.inl rfl) hvt.nl (by first | (unfold maxLen;decide) | (show 1≤maxLen;unfold maxLen;decide)) (by show 1≤maxLen;unfold maxLen;decide)
          rw[show sameNd [] (tN true)=false from rfl]at HSN
          simp only[show ∀b,(tN b).length=1 from fun _=>rfl,List.length_nil]at HSN
          clear hvt HTRb HTR
          go_wp2_with fail
          refine HSN.mono ?_
          rintro _ t2 ⟨rfl,nn,rfl⟩
          have hbq:Below w7.heap.size w7 (t1.drewN nn):=kqt ht1 ⟨rfl,rfl,rfl,Nat.le_refl _,fun _ _=>rfl⟩
          obtain⟨⟨s0,s1,s2,ls⟩,s3,lw⟩:=HLAST.out _ hbq
          clear HSN
          generalize t1.drewN nn=T at *
          cases hfb:p.fb
          all_goals
           rw[hfb]at s3
           clear hfb
           go_wp2
           go_ret
           exact⟨by simp,kqt hbV (kqt hb7 hbq)⟩
        | ok t=>
          rw[hR]at hans HVO
          obtain⟨qv,cv,rfl,rfl,hva⟩:=hans
          have HVV:Hid (VArg w7 (tN t) 1 qv cv):=hva
          simp only[show ∀b,(tN b).length=1 from fun _=>rfl]
          have hvo:auV es q Y=(if t=true then 1 else 0):=by rw[HVO.out];cases t<;>rfl
          rw[hvo]at HN1 HN2 HAL
          have e1:n11=(if t=true then 1 else 0):=by rw[HN1.out];cases t<;>rfl
          have e2:n12=0:=by rw[HN2.out];cases t<;>rfl
          have e3:al=(t && !p.fb):=by rw[HAL.out];cases t<;>rfl
          subst e2 e3
          have E1:Hid (n11=(if t=true then 1 else 0)):=e1
          clear e1
          clear HVO hvo HN1 HN2 HAL hR hva
          have HTRb:=HTR w7 true
          go_wp2_with fail
          refine HTRb.mono ?_
          rintro _ t1 ⟨⟨qt,ct,rfl,hvt⟩,ht1⟩
          have HSN:=sameNodes_any (tN t) (tN true) qv qt cv ct t1 (HVV.out.nl.up ht1) hvt.nl (by first | (unfold maxLen;decide) | (show 1≤maxLen;unfold maxLen;decide)) (by show 1≤maxLen;unfold maxLen;decide)
          rw[show sameNd (tN t) (tN true)=t from by cases t<;>rfl]at HSN
          simp only[show ∀b,(tN b).length=1 from fun _=>rfl]at HSN
          clear hvt HTRb HTR
          go_wp2_with fail
          refine HSN.mono ?_
          rintro _ t2 ⟨rfl,nn,rfl⟩
          have hbq:Below w7.heap.size w7 (t1.drewN nn):=kqt ht1 ⟨rfl,rfl,rfl,Nat.le_refl _,fun _ _=>rfl⟩
          obtain⟨⟨s0,s1,s2,ls⟩,s3,lw⟩:=HLAST.out _ hbq
          clear HSN
          obtain⟨bv,ov,rfl,hbv,v0,v1,v2,v3,_⟩:=(HVV.out.nl.up hbq).at (i:=0) (show 0<1 by decide)
          have hop:((tN t)[0]'(show 0<1 by decide)).op=1:=by cases t<;>rfl
          simp only[List.getElem_cons_zero,Nat.zero_mul,Nat.add_zero,hop]at v0
          clear hop v1 v2 v3
          generalize t1.drewN nn=T at *
          cases t<;>cases hfb:p.fb
          all_goals
           rw[hfb]at s0 s3
           have e1:=E1.out
           simp only[if_true,Bool.false_eq_true,if_false,if_pos]at e1
           subst e1
           simp only[if_true,if_false,Bool.false_eq_true,Bool.false_and,Bool.true_and,Bool.not_true,Bool.not_false,if_pos]at s0
           clear hfb
           go_wp2
           go_ret
           exact⟨by simp,kqt hbV (kqt hb7 hbq)⟩
   · obtain⟨z,hz⟩:=ev_nn h1
     rw[hz]
     clear hz h1 han E1 HBG
     go_wp2_with fail
     go_ret
     exact⟨rfl,kqt hbV (kqt hb3 kqx)⟩
 · have LW:=fun W hW=>LW W hW hl
   clear LG hl HPA
   go_wp2_with fail
   refine(LW _ hb1).mono ?_
   rintro _ w2 ⟨rfl,hb2'⟩
   clear LW
   go_wp2_with fail
   go_ret
   exact⟨rfl,kqt hbV (kqt hb1 (kqt hb2' kqx))⟩
end Go.Proofs.YtlnhaajjoplafaaGreatDoor
