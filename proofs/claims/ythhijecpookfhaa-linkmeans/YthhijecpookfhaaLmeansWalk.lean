import Derived.Test.YthhijecpookfhaaLmeansW1
import Derived.Deep.RegionHeld
set_option linter.unusedVariables false
set_option maxHeartbeats 12000000
namespace Go.Proofs.Ythhijecpookfhaa
open Go.RowKit
set_option linter.unusedSimpArgs false
set_option linter.unusedSectionVars false
set_option maxRecDepth 100000
section
variable (p:Po) (pc:Option Addr) (cc:Nat) (who what:Ui) (w:World) (h:PoA w p pc cc) (hu:UOk who) (hv:UOk what)
include h hu hv
theorem linkMeans_good (hl:lkf p who what=0)(hg:(poE p).length≤200):
 Calls Try.prog 3 #[poV p pc cc,uiV who,uiV what] w fun e w'=>e= .returned (.bool true)∧Below w.heap.size w w':=by
 obtain⟨V,hV⟩:∃V,V=((w.alloc (.cells (poC p pc cc) 28)).alloc (.cells #[.string who.t,.string who.i] 23)).alloc (.cells #[.string what.t,.string what.i] 23):=⟨_,rfl⟩
 have hbV:Below w.heap.size w V:=by rw[hV];exact kqx
 have HA:Hid (∀W,Below V.heap.size V W→Blk W w.heap.size (poC p pc cc) 28∧Blk W (w.heap.size+1) #[.string who.t,.string who.i] 23∧Blk W (w.heap.size+1+1) #[.string what.t,.string what.i] 23):=fun W hW=>by
  have h1:Blk V w.heap.size (poC p pc cc) 28:=by rw[hV];exact((Blk.new w _ _ rfl).up kqx).up kqx
  have h2:Blk V (w.heap.size+1) #[.string who.t,.string who.i] 23:=by rw[hV];refine(Blk.new (w.alloc _) _ _ ?_).up kqx;simp
  have h3:Blk V (w.heap.size+1+1) #[.string what.t,.string what.i] 23:=by rw[hV];refine Blk.new ((w.alloc _).alloc _) _ _ ?_;simp
  exact⟨h1.up hW,h2.up hW,h3.up hW⟩
 have HPA:Hid (∀W,Below V.heap.size V W→PoA W p pc cc):=fun W hW=>h.up (kqt hbV hW)
 have L0:=fun W=>link_good (pa0_po 5 W) (a:=⟨⟨#[65]⟩,eB⟩) (b:=eU) ⟨by unfold maxLen;show 1≤_;omega,Nat.zero_le _⟩ ⟨Nat.zero_le _,Nat.zero_le _⟩ (by kernel_rfl)
 rw[show lkP (pa0 5) ⟨⟨#[65]⟩,eB⟩ eU=⟨⟨#[97]⟩,false,⟨1,eB,⟨⟨#[65]⟩,eB⟩⟩,⟨0,eB,eU⟩,⟨0,eB,eU⟩,[]⟩ from rfl]at L0
 have L1:=fun W hW=>link_good (HPA.out W hW) hu hv hl
 have S1:=fun W hW=>slots_good (HPA.out W hW) (lkf_ways hl).1 rfl
 have S2:=fun W q c (hq:PoA W (lkP p who what) q c)=>slots_good hq (pof_lk hl) (slL_done p who what)
 have HL:Hid ((poE (lkP p who what)).length=(poE p).length):=poE_len p who what
 have E1:=fun W hW=>expr_good (HPA.out W hW) (lkf_ways hl).1 hg
 have E2:=fun W q c (hq:PoA W (lkP p who what) q c)=>expr_good hq (pof_lk hl) (by rw[HL.out];exact hg)
 have HK:Hid ((∀k (hk:k<(slL p).length),((slL p)[k]=sQp∨(slL p)[k]=sQr)∧pfault (putK p who what k) [nEn (usl who what (slL p)[k])] (slL p)[k]=0∧putK p who what (k+1)=putE (slL p)[k] [nEn (usl who what (slL p)[k])] (putK p who what k))∧putK p who what (slL p).length=poE (lkP p who what)):=putK_ok hl hg
 have HK0:Hid (putK p who what 0=poE p):=rfl
 have HUU:Hid (UOk who∧UOk what):=⟨hu,hv⟩
 have HSL:Hid ((slL p).length≤2):=by show _≤_;unfold slL;cases hsl p.who<;>cases hsl p.what<;>decide
 generalize lkP p who what=Q at *
 clear h hu hv hl hg HPA
 unfold poC at hV
 unfold poV uiV pa0 eU eB at *
 simp only[List.length_nil]at L0
 go_enter Try.func3,Try.ntmps3
 go_wp2_with fail
 rw[←hV]
 clear hV
 refine(L0 _).mono ?_
 rintro _ w1 ⟨⟨q1,c1,rfl,_⟩,hb1⟩
 clear L0
 obtain⟨hB0,hB1,hB2⟩:=HA.out w1 hb1
 obtain⟨x0,x1,x2,x3,x4,x5,x6,x7,x8,x9,x10,x11,x12,x13,x14⟩:=po_cells hB0
 have u0:=hB1.cell 0
 have u1:=hB1.cell 1
 have t0:=hB2.cell 0
 have t1:=hB2.cell 1
 have l0:w.heap.size<w1.heap.size:=hB0.lt
 have l1:w.heap.size+1<w1.heap.size:=hB1.lt
 have l2:w.heap.size+1+1<w1.heap.size:=hB2.lt
 simp only[List.getElem?_toArray,List.getElem?_cons_zero,List.getElem?_cons_succ]at u0 u1 t0 t1
 clear hB0 hB1 hB2
 go_wp2_with fail
 refine(L1 _ (kqt hb1 kqx)).mono ?_
 rintro _ w2 ⟨⟨q2,c2,rfl,hp2⟩,hb2'⟩
 have hb2:Below V.heap.size V w2:=kqt (kqt hb1 kqx) hb2'
 clear L1 hb2' u0 u1 t0 t1 l0 l1 l2 x0 x1 x2 x3 x4 x5 x6 x7 x8 x9 x10 x11 x12 x13 x14
 obtain⟨V2,hV2⟩:∃V2,V2=w2.alloc (.cells (poC Q q2 c2) 28):=⟨_,rfl⟩
 have hbV2:Below w2.heap.size w2 V2:=by rw[hV2];exact kqx
 have hb2V:Below V.heap.size V V2:=kqt hb2 hbV2
 have HQ:Hid (∀W,Below V2.heap.size V2 W→PoA W Q q2 c2):=fun W hW=>hp2.up (kqt hbV2 hW)
 have HBQ:Hid (∀W,Below V2.heap.size V2 W→Blk W w2.heap.size (poC Q q2 c2) 28):=fun W hW=>by
  have h1:Blk V2 w2.heap.size (poC Q q2 c2) 28:=by rw[hV2];exact Blk.new w2 _ _ rfl
  exact h1.up hW
 clear hp2
 unfold poC at hV2
 go_wp2_with fail
 rw[←hV2]
 clear hV2
 refine(S2 _ q2 c2 (HQ.out _ (Below.refl _ _))).mono ?_
 rintro _ w3 ⟨⟨q3,c3,rfl,_⟩,hb3⟩
 have hb3V:Below V.heap.size V w3:=kqt hb2V hb3
 obtain⟨hB0,_,_⟩:=HA.out w3 hb3V
 obtain⟨x0,x1,x2,x3,x4,x5,x6,x7,x8,x9,x10,x11,x12,x13,x14⟩:=po_cells hB0
 have l0:w.heap.size<w3.heap.size:=hB0.lt
 clear hB0 S2
 simp only[List.length_nil]
 go_wp2_with fail
 refine(S1 _ hb3V).mono ?_
 rintro _ w4 ⟨⟨qh,ch,rfl,htl⟩,hb4⟩
 have hb4V:Below V.heap.size V w4:=kqt hb3V hb4
 have HT4:Hid (TL w4 qh (slL p)):=htl
 clear htl S1 l0 x0 x1 x2 x3 x4 x5 x6 x7 x8 x9 x10 x11 x12 x13 x14
 obtain⟨hB0,_,_⟩:=HA.out w4 hb4V
 obtain⟨x0,x1,x2,x3,x4,x5,x6,x7,x8,x9,x10,x11,x12,x13,x14⟩:=po_cells hB0
 have l0:w.heap.size<w4.heap.size:=hB0.lt
 clear hB0
 go_wp2_with fail
 refine(E1 _ hb4V).mono ?_
 rintro _ w5 ⟨⟨q5,c5,rfl,ha5⟩,hb5⟩
 have hb5V:Below V.heap.size V w5:=kqt hb4V hb5
 have hb5Q:Below V2.heap.size V2 w5:=kqt (kqt hb3 hb4) hb5
 clear E1 l0 x0 x1 x2 x3 x4 x5 x6 x7 x8 x9 x10 x11 x12 x13 x14
 have hBQ:=HBQ.out w5 hb5Q
 obtain⟨x0,x1,x2,x3,x4,x5,x6,x7,x8,x9,x10,x11,x12,x13,x14⟩:=po_cells hBQ
 have l0:w2.heap.size<w5.heap.size:=hBQ.lt
 clear hBQ
 go_wp2_with fail
 refine(E2 _ q2 c2 (HQ.out _ hb5Q)).mono ?_
 rintro _ w6 ⟨⟨q6,c6,rfl,ha6⟩,hb6⟩
 have hb6V:Below V.heap.size V w6:=kqt hb5V hb6
 have HS6:Hid (AK0 w6 (poE Q) q6 c6∧AK0 w6 (putK p who what 0) q5 c5∧TL w6 qh (slL p)):=⟨ha6,by rw[HK0.out];exact ha5.up hb6,(HT4.out.up hb5).up hb6⟩
 obtain⟨n5,hn5⟩:∃n,n=(poE p).length:=⟨_,rfl⟩
 have HN5:Hid (n5=(putK p who what 0).length∧(poE Q).length=n5):=⟨by rw[HK0.out];exact hn5,by rw[hn5];exact HL.out⟩
 rw[HN5.out.2,←hn5]
 clear E2 l0 HQ HBQ hn5 HL HK0 HT4 ha5 ha6 x0 x1 x2 x3 x4 x5 x6 x7 x8 x9 x10 x11 x12 x13 x14
 go_wp2
 go_loopw [15,19] (fun ev i wr=>∃(k n:Nat) (q:Option Addr) (c:Nat),k≤(slL p).length∧i= .int .i64 k∧ev= .slice q n c∧n=(putK p who what k).length∧AK0 wr (putK p who what k) q c∧Below w6.heap.size w6 wr) (fun _ i _=>(slL p).length-(intOf i).toNat)
 case atStart=>exact⟨0,n5,q5,c5,Nat.zero_le _,rfl,rfl,HN5.out.1,HS6.out.2.1,Below.refl _ _⟩
 case round=>
  obtain⟨k,n,q,c,hk,rfl,rfl,hn,hA,hb⟩:=hrel
  have hbr:Below V.heap.size V wr:=kqt hb6V hb
  by_cases hlt:k<(slL p).length
  · have i1:(k:Int)<((slL p).length:Int):=by omega
    have hkm:(k:Int)≤9223372036854775806:=by have:=HSL.out;omega
    obtain⟨hs2,hpf,hnx⟩:=HK.out.1 k hlt
    obtain⟨bs,os,rfl,hbs,hcs⟩:=HS6.out.2.2.at hlt
    have v0:wr.cell? ⟨bs,os+k,none⟩=some (.string (slL p)[k]):=(hb.cell (p:=⟨bs,os+k,none⟩) hbs).trans hcs
    have lb:bs<wr.heap.size:=Nat.lt_of_lt_of_le hbs hb.size
    have HNX:Hid (putK p who what (k+1)=putE (slL p)[k] [nEn (usl who what (slL p)[k])] (putK p who what k)):=hnx
    have HPT:=fun W qv cv (hW:Below wr.heap.size wr W) (hv:AK0 W [nEn (usl who what (slL p)[k])] qv cv)=>tput_ok (putK p who what k) [nEn (usl who what (slL p)[k])] q qv c cv (slL p)[k] W (hA.up hW).nl hv.nl hpf
    rw[←hn]at HPT
    clear hn
    have hUo:UOk (usl who what (slL p)[k]):=by unfold usl;split;exact HUU.out.2;exact HUU.out.1
    obtain⟨hB0,hB1,hB2⟩:=HA.out wr hbr
    have u0:=hB1.cell 0
    have u1:=hB1.cell 1
    have t0:=hB2.cell 0
    have t1:=hB2.cell 1
    have l1:w.heap.size+1<wr.heap.size:=hB1.lt
    have l2:w.heap.size+1+1<wr.heap.size:=hB2.lt
    simp only[List.getElem?_toArray,List.getElem?_cons_zero,List.getElem?_cons_succ]at u0 u1 t0 t1
    have hq:((slL p)[k].toList == [63,114,101,115,111,117,114,99,101])=decide ((slL p)[k]=sQr):=slot_eq hs2
    have HU:Hid (usl who what (slL p)[k]=if (slL p)[k]=sQr then what else who):=rfl
    have HAk:Hid (AK0 wr (putK p who what k) q c):=hA
    generalize (slL p)[k]=s at *
    clear hB0 hB1 hB2 hcs hs2 hpf hnx hA
    generalize putE s [nEn (usl who what s)] (putK p who what k)=Y at *
    by_cases hr:s=sQr
    · rw[decide_eq_true hr]at hq
      rw[if_pos hr]at HU
      rw[HU.out]at HPT hUo
      simp only[List.length_cons,List.length_nil,Nat.zero_add]at HPT
      clear hr HU
      go_wp2_with fail
      obtain⟨X,hX⟩:∃X,X=wr.alloc (.cells #[.string what.t,.string what.i] 23):=⟨_,rfl⟩
      rw[←hX]
      have hbX:Below wr.heap.size wr X:=by rw[hX];exact kqx
      have HSX:Hid (∀W,Below X.heap.size X W→W.cell? ⟨bs,os+k,none⟩=some (.string s)∧W.cell? ⟨wr.heap.size,0,none⟩=some (.string what.t)∧W.cell? ⟨wr.heap.size,1,none⟩=some (.string what.i)):=fun W hW=>by
       have hk:Blk X wr.heap.size #[.string what.t,.string what.i] 23:=by rw[hX];exact Blk.new wr _ _ rfl
       exact⟨((kqt hbX hW).cell (p:=⟨bs,os+k,none⟩) lb).trans v0,(hk.up hW).cell 0,(hk.up hW).cell 1⟩
      clear hX u0 u1 t0 t1 v0 l1 l2
      go_region_held (fun w'=>w'.cell? ⟨bs,os+k,none⟩=some (.string s)∧w'.cell? ⟨wr.heap.size,0,none⟩=some (.string what.t)∧w'.cell? ⟨wr.heap.size,1,none⟩=some (.string what.i)) (first | exact HSX.out _ hb8 | exact HSX.out _ hb7 | exact HSX.out _ kqx) (first
       | (go_at_call 9
          refine(lk_entOf what _ hUo).mono ?_
          rintro _ w7 ⟨⟨qe,ce,rfl,he⟩,hb7'⟩
          have hb7:Below X.heap.size X w7:=kqt kqx hb7')
       | (go_at_call 8
          refine(HPT _ qe ce (kqt hbX hb7) he).mono ?_
          rintro _ w8 ⟨g,d,rfl,hy,hyd,hdm,hb8'⟩
          have hb8:Below X.heap.size X w8:=kqt hb7 hb8'))
      all_goals
       go_wp2
       go_roundw
       case rel=>exact⟨k+1,Y.length,g,d,by omega,by go_num,rfl,by rw[HNX.out],by rw[HNX.out];exact⟨hy,hyd,hdm⟩,kqt hb (kqt hbX hb8)⟩
       case measure=>simp[intOf];omega
    · rw[decide_eq_false hr]at hq
      rw[if_neg hr]at HU
      rw[HU.out]at HPT hUo
      simp only[List.length_cons,List.length_nil,Nat.zero_add]at HPT
      clear hr HU
      go_wp2_with fail
      obtain⟨X,hX⟩:∃X,X=wr.alloc (.cells #[.string who.t,.string who.i] 23):=⟨_,rfl⟩
      rw[←hX]
      have hbX:Below wr.heap.size wr X:=by rw[hX];exact kqx
      have HSX:Hid (∀W,Below X.heap.size X W→W.cell? ⟨bs,os+k,none⟩=some (.string s)∧W.cell? ⟨wr.heap.size,0,none⟩=some (.string who.t)∧W.cell? ⟨wr.heap.size,1,none⟩=some (.string who.i)):=fun W hW=>by
       have hk:Blk X wr.heap.size #[.string who.t,.string who.i] 23:=by rw[hX];exact Blk.new wr _ _ rfl
       exact⟨((kqt hbX hW).cell (p:=⟨bs,os+k,none⟩) lb).trans v0,(hk.up hW).cell 0,(hk.up hW).cell 1⟩
      clear hX u0 u1 t0 t1 v0 l1 l2
      go_region_held (fun w'=>w'.cell? ⟨bs,os+k,none⟩=some (.string s)∧w'.cell? ⟨wr.heap.size,0,none⟩=some (.string who.t)∧w'.cell? ⟨wr.heap.size,1,none⟩=some (.string who.i)) (first | exact HSX.out _ hb8 | exact HSX.out _ hb7 | exact HSX.out _ kqx) (first
       | (go_at_call 9
          refine(lk_entOf who _ hUo).mono ?_
          rintro _ w7 ⟨⟨qe,ce,rfl,he⟩,hb7'⟩
          have hb7:Below X.heap.size X w7:=kqt kqx hb7')
       | (go_at_call 8
          refine(HPT _ qe ce (kqt hbX hb7) he).mono ?_
          rintro _ w8 ⟨g,d,rfl,hy,hyd,hdm,hb8'⟩
          have hb8:Below X.heap.size X w8:=kqt hb7 hb8'))
      all_goals
       go_wp2
       go_roundw
       case rel=>exact⟨k+1,Y.length,g,d,by omega,by go_num,rfl,by rw[HNX.out],by rw[HNX.out];exact⟨hy,hyd,hdm⟩,kqt hb (kqt hbX hb8)⟩
       case measure=>simp[intOf];omega
  · have i1:¬(k:Int)<((slL p).length:Int):=by omega
    have hkk:k=(slL p).length:=by omega
    have HSN:=sameB (a:=poE Q) (w:=wr) (p:=q) (q:=q6) (c:=c) (d:=c6) (n:=n5) (by have:=hA.nl;rw[hkk,HK.out.2]at this;exact this) (HS6.out.1.up hb).nl (Nat.le_trans HS6.out.1.le HS6.out.1.cm) HN5.out.2
    have hnn:n=n5:=by rw[hn,hkk,HK.out.2];exact HN5.out.2
    subst hnn
    clear hn hA hkk
    go_wp2_with fail
    refine HSN.mono ?_
    rintro _ w7 ⟨rfl,hb7⟩
    go_wp2
    go_ret
    exact⟨rfl,kqt hbV (kqt hbr hb7)⟩
theorem linkMeans_walk:
 Calls Try.prog 3 #[poV p pc cc,uiV who,uiV what] w fun e w'=>e= .returned (.bool true)∧Below w.heap.size w w':=by
 by_cases hl:lkf p who what=0
 · by_cases hg:(poE p).length≤200
   · exact linkMeans_good p pc cc who what w h hu hv hl hg
   · exact linkMeans_great p pc cc who what w h hu hv hl hg
 · exact linkMeans_bad p pc cc who what w h hu hv hl
end
end Go.Proofs.Ythhijecpookfhaa
