import Derived.Test.YtlnhaajjoplafaaGreatDoorT35
import Derived.Test.YtlnhaajjoplafaaGreatDoorT36
import Derived.Test.YtlnhaajjoplafaaGreatDoorT30
import Derived.Test.YtlnhaajjoplafaaGreatDoorT24
set_option linter.unusedVariables false
set_option maxHeartbeats 12000000
namespace Go.Proofs.YtlnhaajjoplafaaGreatDoor
open Go.RowKit
set_option linter.unusedSimpArgs false
set_option linter.unusedSectionVars false
set_option maxRecDepth 100000
theorem BX.low {B N:Nat}{a w w':World}(h:BX B a w)(k:Below N w w')(hN:a.heap.size≤N):BX B a w':=
 ⟨k.os.trans h.os,k.tape.trans h.tape,k.output.trans h.output,Nat.le_trans h.size k.size,fun i hi hn=>(k.block i (Nat.lt_of_lt_of_le hi hN)).trans (h.block i hi hn)⟩
theorem AS.low {E:EvEnv}{w w':World}{B k N:Nat}(h:AS E w B k)(hb:Below N w w')(hN:B<N):AS E w' B k:=
 ⟨(hb.block B hN).trans h.blk,h.bel.trans (hb.mono (by have:=h.ge;omega)),h.ge,h.le⟩
theorem partsE_one {pv:List Nd→Option (List Nd)}{k:Nat}{v r:List Nd}(h:partsE pv (k+1) v=some r):∃s,pv v=some s∧partsE pv k s=some r:=by
 simp only[partsE]at h
 cases e:pv v with
 | none=>rw[e]at h;cases h
 | some s=>rw[e]at h;exact⟨s,rfl,h⟩
theorem partsE_end {pv:List Nd→Option (List Nd)}{v r:List Nd}(h:partsE pv 0 v=some r):v=r:=by simpa[partsE]using h
def accS (vs:List (List Nd))(R:Except Int (List (List Nd))):Except Int (List (List Nd)):=match R with | .error n=>.error n | .ok l=>.ok (vs++l)
section
variable {E:EvEnv} {B f:Nat} (ho:E.Ok) (hV:ValOk E B f) (w:World) (k:Nat) (m r:List Nd)
include ho hV
theorem set_any (N:Nat)(hN:N≤200)(hs:AS E w B k)(hm:E.e.drop k=m)(hp:partsE (pastE f) N m=some r):
 Calls Tryz.prog 55 #[.pointer (some ⟨B,0,none⟩),.int .i64 (N:Int)] w (VE E B (E.e.length-r.length) w (bindE (evS (evE E.es E.q f) (bh f) N m) setE)):=by
 have HR:Hid (∀R0,evS (evE E.es E.q f) (bh f) N m=R0→bindE (evS (evE E.es E.q f) (bh f) N m) setE=bindE R0 setE):=fun R0 h=>by rw[h]
 generalize hX:evS (evE E.es E.q f) (bh f) N m=X at *
 have HX:Hid (evS (evE E.es E.q f) (bh f) N m=X):=hX
 clear hX HR
 have hBw:=hs.lt
 go_enter Tryz.func55,Tryz.ntmps55
 go_wp2_with fail
 go_loopw [5,7] (fun v i wr=>∃(j kj:Nat) (mj:List Nd) (vs:List (List Nd)),j≤N∧i= .int .i64 j∧AS E wr B kj∧E.e.drop kj=mj∧partsE (pastE f) (N-j) mj=some r∧OV wr w.heap.size v vs∧vs.length=j∧Hid (∀v∈vs,IsV v)∧Hid (accS vs (evS (evE E.es E.q f) (bh f) (N-j) mj)=X)∧BX B w wr) (fun _ i _=>N-(intOf i).toNat)
 case atStart=>
  refine⟨0,k,m,[],Nat.zero_le _,rfl,hs,hm,by simpa using hp,OV.nil _ _,rfl,by simp[Hid],?_,BX.refl _ _⟩
  have:=HX.out
  show accS [] (evS _ _ (N-0) m)=X
  rw[Nat.sub_zero,this]
  cases X<;>rfl
 case round=>
  rename World=>wr
  obtain⟨j,kj,mj,vs,hj,rfl,hsj,hmj,hpj,hov,hvl,HI,HA,hbx⟩:=hrel
  by_cases hlt:j<N
  · have i1:(j:Int)<(N:Int):=by omega
    have eN:N-j=(N-(j+1))+1:=by omega
    rw[eN]at hpj HA
    obtain⟨s,p1,p2⟩:=partsE_one hpj
    have H1:=val_at hV wr kj mj s _ _ hsj hmj p1 rfl rfl
    have hms:E.e.drop (E.e.length-s.length)=s:=(nd_suffix (by rw[hmj];exact p1)).1
    cases hE:evE E.es E.q f mj with
    | error e=>
      rw[hE]at H1
      have HA2:Hid (X= .error e):=by
       have:=HA.out
       simp only[evS,hE]at this
       exact this.symm
      clear HA HI
      go_wp2_with (go_at_call 36;refine H1.mono ?_;rintro e' w1 ⟨rfl,hb1⟩)
      rw[HA2.out]
      exact⟨rfl,rfl,hbx.trans hb1⟩
    | ok a=>
      rw[hE]at H1
      have HA2:Hid (accS (vs++[a]) (evS (evE E.es E.q f) (bh f) (N-(j+1)) s)=X):=by
       have:=HA.out
       simp only[evS,hE,bh_of p1]at this
       show _=_
       rw[←this]
       cases evS (evE E.es E.q f) (bh f) (N-(j+1)) s<;>simp[accS]
      clear HA
      go_wp2_with (first
       | (go_at_call 36;refine H1.mono ?_;rintro e' w1 ⟨⟨q1,c1,rfl,hv1⟩,hs1,hb1⟩;have ho1:=hov.bx hsj hb1;have hz1:w.heap.size≤w1.heap.size:=Nat.le_trans hbx.size hb1.size)
       | (at_builtin;refine append_val w1 rfl (.tmp 9) (.tmp 12) rfl w.heap.size u5 vs rfl ho1 a q1 c1 hv1.nl hv1.le hv1.cm hv1.is.ne rfl (by omega) hz1 ?_;intro v' w2 ho2 hb2 _))
      go_roundw
      case rel=>
       refine⟨j+1,E.e.length-s.length,s,vs++[a],by omega,by go_num,hs1.low hb2 hBw,hms,p2,ho2,by simp[hvl],?_,HA2,(hbx.trans hb1).low hb2 (Nat.le_refl _)⟩
       intro v hv
       rcases List.mem_append.1 hv with hv | hv
       · exact HI.out v hv
       · simp only[List.mem_singleton]at hv;subst hv;exact hv1.is
      case measure=>simp[intOf];omega
  · have i1:¬(j:Int)<(N:Int):=by omega
    obtain rfl:j=N:=by omega
    rw[Nat.sub_self]at hpj HA
    have:=partsE_end hpj
    subst this
    have HX2:Hid (X= .ok vs):=by
     have:=HA.out
     simp only[evS,accS,List.append_nil]at this
     exact this.symm
    obtain⟨q3,c3,rfl,hll,hc1,hc2⟩:=hov.slice
    have hkj:E.e.length-mj.length=kj:=by
     rw[←hmj,List.length_drop]
     have:=hsj.le
     omega
    have hval:∀v∈vs,vfault v=0:=fun v hv=>(HI.out v hv).val
    have HIV:=HI
    clear HA
    by_cases hfit:(setN (setL vs)).length≤200
    · have HS:=setOf_fit vs _ rfl q3 c3 wr hll (by omega) hval hfit
      rw[hvl]at HS
      have HE:Hid (bindE X setE= .ok (setN (setL vs))):=by
       show _=_
       rw[HX2.out]
       unfold bindE setE
       simp only[if_pos hfit]
      have HV2:Hid (IsV (setN (setL vs))):=(setE_is (fun v hv=>HIV.out v hv) (by unfold setE;rw[if_pos hfit])).1
      clear hval hfit HI HIV
      generalize setN (setL vs)=S at *
      go_wp2_with fail
      refine HS.mono ?_
      rintro e w3 ⟨⟨q4,c4,rfl,hn4,hl4,hm4⟩,hb3⟩
      go_wp2_with fail
      refine(sureN_ok w3 q4 _ c4).mono ?_
      rintro e w4 ⟨rfl,rfl⟩
      go_wp2
      go_ret
      rw[HE.out,hkj]
      exact⟨⟨q4,c4,rfl,rfl,hn4,hl4,hm4,HV2.out⟩,hsj.up hb3,hbx.up hb3⟩
    · have HS:=setOf_over vs q3 c3 wr hll (by omega) hval hfit
      rw[eV_not (by decide),hvl]at HS
      have HE:Hid (bindE X setE= .error 4):=by
       show _=_
       rw[HX2.out]
       unfold bindE setE
       simp only[if_neg hfit]
      clear hval hfit HI HIV
      go_wp2_with fail
      refine HS.mono ?_
      rintro e w3 ⟨rfl,hb3⟩
      go_wp2_with fail
      refine(sureN_bad w3 none 0 0 4).mono ?_
      rintro e w4 ⟨rfl,rfl⟩
      rw[HE.out]
      exact⟨rfl,rfl,hbx.up hb3⟩
end
theorem recLoop_one {pv:List Nd→Option (List Nd)}{k:Nat}{last:ByteArray}{v r:List Nd}(h:recLoop pv (k+1) last v=some r):∃x m s,v=x::m∧pv m=some s∧recLoop pv k x.s s=some r:=by
 cases v with
 | nil=>simp[recLoop]at h
 | cons x m=>
   simp only[recLoop]at h
   split at h
   · cases e:pv m with
     | none=>rw[e]at h;cases h
     | some s=>rw[e]at h;exact⟨x,m,s,rfl,e,h⟩
   · cases h
theorem recLoop_end {pv:List Nd→Option (List Nd)}{last:ByteArray}{v r:List Nd}(h:recLoop pv 0 last v=some r):v=r:=by simpa[recLoop]using h
def accR (ps:List Fd)(R:Except Int (List Fd)):Except Int (List Fd):=match R with | .error n=>.error n | .ok l=>.ok (ps++l)
theorem zip_fd (ps:List Fd):(ps.map Prod.fst).zip (ps.map Prod.snd)=ps:=by
 induction ps with
 | nil=>rfl
 | cons p ps ih=>simp[ih]
section
variable {E:EvEnv} {B f:Nat} (ho:E.Ok) (hV:ValOk E B f) (w:World) (k:Nat) (m r:List Nd)
include ho hV
theorem rec_any (N:Nat)(hN:N≤200)(last:ByteArray)(hs:AS E w B k)(hm:E.e.drop k=m)(hp:recLoop (pastE f) N last m=some r):
 Calls Tryz.prog 56 #[.pointer (some ⟨B,0,none⟩),.int .i64 (N:Int)] w (VE E B (E.e.length-r.length) w (bindE (evR (evE E.es E.q f) (bh f) N m) recE)):=by
 generalize hX:evR (evE E.es E.q f) (bh f) N m=X at *
 have HX:Hid (evR (evE E.es E.q f) (bh f) N m=X):=hX
 clear hX
 have hBw:=hs.lt
 have hlen:=ho.len
 have mixed:Tryz.prog.follows Departure.mixedOrders=true:=by kernel_rfl
 go_enter Tryz.func56,Tryz.ntmps56
 go_wp2_with fail
 go_loopw [5,6,8] (fun nv pv i wr=>∃(j kj:Nat) (mj:List Nd) (ps:List Fd) (la:ByteArray),j≤N∧i= .int .i64 j∧AS E wr B kj∧E.e.drop kj=mj∧recLoop (pastE f) (N-j) la mj=some r∧OS wr w.heap.size nv (ps.map Prod.fst)∧OV wr w.heap.size pv (ps.map Prod.snd)∧ps.length=j∧Hid (∀p∈ps,IsV p.2∧p.1.size≤maxLen)∧Hid (accR ps (evR (evE E.es E.q f) (bh f) (N-j) mj)=X)∧BX B w wr) (fun _ _ i _=>N-(intOf i).toNat)
 case atStart=>
  refine⟨0,k,m,[],last,Nat.zero_le _,rfl,hs,hm,by simpa using hp,OS.nil _ _,OV.nil _ _,rfl,by simp[Hid],?_,BX.refl _ _⟩
  have:=HX.out
  show accR [] (evR _ _ (N-0) m)=X
  rw[Nat.sub_zero,this]
  cases X<;>rfl
 case round=>
  rename World=>wr
  obtain⟨j,kj,mj,ps,la,hj,rfl,hsj,hmj,hpj,hos,hov,hvl,HI,HA,hbx⟩:=hrel
  by_cases hlt:j<N
  · have i1:(j:Int)<(N:Int):=by omega
    have eN:N-j=(N-(j+1))+1:=by omega
    rw[eN]at hpj HA
    obtain⟨x,m1,s,rfl,p1,p2⟩:=recLoop_one hpj
    have hk:kj<E.e.length:=by
     have:=congrArg List.length hmj
     simp only[List.length_drop,List.length_cons]at this
     omega
    have hxk:E.e[kj]=x:=by
     have:=congrArg List.head? hmj
     rw[List.head?_drop,List.head?_cons,List.getElem?_eq_getElem hk]at this
     exact Option.some.inj this
    have hm1:E.e.drop (kj+1)=m1:=by
     have:=congrArg List.tail hmj
     rwa [List.tail_drop,List.tail_cons]at this
    have hms:E.e.drop (E.e.length-s.length)=s:=(nd_suffix (by rw[hm1];exact p1)).1
    have hbd:Below wr.heap.size wr wr.drew:=(Below.refl _ _).drew
    have hsd:=hsj.up hbd
    obtain⟨bq,oq,hpq,hbq,x0,x1,x2,x3,xw⟩:=(hsd.ne ho).at hk
    rw[hxk]at x0 x1 x2 x3 xw
    have c8:=hsd.c8
    have c9:=hsd.c9
    rw[hpq]at c8
    have i2:(kj:Int)<(E.e.length:Int):=by omega
    obtain⟨v2,w2,hr,ho2,hk2⟩:=append_str wr.drew w.heap.size u5 (ps.map Prod.fst) (hos.up hbd) x.s (by simp[hvl];omega) hbx.size
    have hs2:=hsd.low hk2.bel hBw
    have d9:=hs2.c9
    have f9:=hs2.fz 9
    have hs3:=hs2.setAt (j:=kj+1) (by omega)
    have hb3:BX B w2 (w2.setCell ⟨B,9,none⟩ (.int .i64 ((kj+1:Nat):Int))):=(BX.refl B w2).set 9 _
    have hov3:=((hov.up hbd).ks hk2).bx hs2 hb3
    have hos3:=ho2.bx hs2 hb3
    have hbx3:BX B w (w2.setCell ⟨B,9,none⟩ (.int .i64 ((kj+1:Nat):Int))):=((hbx.up hbd).low hk2.bel (Nat.le_refl _)).trans hb3
    have e9:((kj+1:Nat):Int)=(kj:Int)+1:=rfl
    have hw9:IntKind.i64.wrap ((kj:Int)+1)=(kj:Int)+1:=by rw[IntKind.wrap_i64];omega
    rw[e9]at hs3 hb3 hov3 hos3 hbx3
    have H1:=val_at hV _ (kj+1) m1 s _ _ hs3 hm1 p1 rfl rfl
    clear hsj hos hov
    cases hE:evE E.es E.q f m1 with
    | error e=>
      rw[hE]at H1
      have HA2:X= .error e:=by
       have:=HA.out
       simp only[evR,hE]at this
       exact this.symm
      clear HA HI
      subst HA2
      go_wp2_with fail
      go_region_law_o (refine step_append_runJ rfl _ _ 38 38 rfl _ _ (by simp[Act.eval]) (by simp[Act.eval]) (hr _) ?_)
      all_goals
       go_wp2_with fail
       refine H1.mono ?_
       rintro e' w4 ⟨rfl,hb4⟩
       exact⟨rfl,rfl,hbx3.trans hb4⟩
    | ok a=>
      rw[hE]at H1
      have HA2:Hid (accR (ps++[(x.s,a)]) (evR (evE E.es E.q f) (bh f) (N-(j+1)) s)=X):=by
       have:=HA.out
       simp only[evR,hE,bh_of p1]at this
       show _=_
       rw[←this]
       cases evR (evE E.es E.q f) (bh f) (N-(j+1)) s<;>simp[accR]
      clear HA
      have hz2:w.heap.size≤(w2.setCell ⟨B,9,none⟩ (.int .i64 ((kj:Int)+1))).heap.size:=hbx3.size
      go_wp2_with fail
      go_region_law_o (refine step_append_runJ rfl _ _ 38 38 rfl _ _ (by simp[Act.eval]) (by simp[Act.eval]) (hr _) ?_)
      all_goals
       go_wp2_with (first
        | (go_at_call 36;refine H1.mono ?_;rintro e' w4 ⟨⟨q4,c4,rfl,hv4⟩,hs4,hb4⟩;have hov4:=hov3.bx hs3 hb4;have hos4:=hos3.bx hs3 hb4;have hz4:w.heap.size≤w4.heap.size:=Nat.le_trans hz2 hb4.size)
        | (at_builtin;refine append_val w4 rfl (.tmp 31) (.tmp 34) rfl w.heap.size u6 _ rfl hov4 a q4 c4 hv4.nl hv4.le hv4.cm hv4.is.ne rfl (by simp[hvl];omega) hz4 ?_;intro v5 w5 ho5 hb5 ht5))
       go_roundw
       case rel=>
        have hos5:=hos4.keep (w':=w5) fun g cur hg=>ht5 g _ (by decide) ⟨cur,_,hg⟩
        refine⟨j+1,E.e.length-s.length,s,ps++[(x.s,a)],x.s,by omega,by go_num,hs4.low hb5 hBw,hms,p2,by simpa using hos5,by simpa using ho5,by simp[hvl],?_,HA2,(hbx3.trans hb4).low hb5 (Nat.le_refl _)⟩
        intro p hp
        rcases List.mem_append.1 hp with hp | hp
        · exact HI.out p hp
        · simp only[List.mem_singleton]at hp;subst hp;exact⟨hv4.is,xw.1⟩
       case measure=>simp[intOf];omega
  · have i1:¬(j:Int)<(N:Int):=by omega
    obtain rfl:j=N:=by omega
    rw[Nat.sub_self]at hpj HA
    have:=recLoop_end hpj
    subst this
    have HX2:Hid (X= .ok ps):=by
     have:=HA.out
     simp only[evR,accR,List.append_nil]at this
     exact this.symm
    obtain⟨q3,c3,rfl,htl,hc1,hc2⟩:=hos.slice
    obtain⟨q4,c4,rfl,hll,hc3,hc4⟩:=hov.slice
    have hkj:E.e.length-mj.length=kj:=by
     rw[←hmj,List.length_drop]
     have:=hsj.le
     omega
    have hsz:∀t∈ps.map Prod.fst,t.size≤maxLen:=by
     intro t ht
     obtain⟨p,hp,rfl⟩:=List.mem_map.1 ht
     exact(HI.out p hp).2
    have HIV:Hid (∀p∈ps,IsV p.2):=fun p hp=>(HI.out p hp).1
    clear HA HI
    have hl1:(ps.map Prod.fst).length=j:=by simpa using hvl
    have hl2:(ps.map Prod.snd).length=j:=by simpa using hvl
    have hz:=zip_fd ps
    by_cases hrf:rfault [] ps=0
    · have HS:=recOf_ok (ps.map Prod.fst) (ps.map Prod.snd) q3 q4 c3 c4 wr htl hll (by rw[hl1,hl2]) hsz (by rw[hl1];omega) (by rw[hz];exact hrf)
      rw[hz,hl1,hl2]at HS
      unfold RecRetV at HS
      rw[hl1,hl2]
      by_cases hfit:(recN (recS ps)).length≤200
      · simp only[if_pos hfit]at HS
        have HE:Hid (bindE X recE= .ok (recN (recS ps))):=by
         show _=_
         rw[HX2.out]
         unfold bindE recE
         simp only[if_pos hrf,if_pos hfit]
        have HV2:Hid (IsV (recN (recS ps))):=(recE_is (fun p hp=>HIV.out p hp) (by unfold recE;rw[if_pos hrf,if_pos hfit])).1
        clear hsz hfit HIV hrf hz hl1 hl2 htl hll hos hov
        generalize recN (recS ps)=S at *
        go_wp2_with fail
        refine HS.mono ?_
        rintro e w3 ⟨⟨q5,c5,rfl,hn4,hl4,hm4⟩,hb3⟩
        go_wp2_with fail
        refine(sureN_ok w3 q5 _ c5).mono ?_
        rintro e w4 ⟨rfl,rfl⟩
        go_wp2
        go_ret
        rw[HE.out,hkj]
        exact⟨⟨q5,c5,rfl,rfl,hn4,hl4,hm4,HV2.out⟩,hsj.up hb3,hbx.up hb3⟩
      · have e4:eV 4= .iface 70 (.int .i64 4):=eV_not (by decide)
        simp only[if_neg hfit,e4]at HS
        have HE:Hid (bindE X recE= .error 4):=by
         show _=_
         rw[HX2.out]
         unfold bindE recE
         simp only[if_pos hrf,if_neg hfit]
        clear hsz hfit HIV hrf hz hl1 hl2 htl hll hos hov
        go_wp2_with fail
        refine HS.mono ?_
        rintro e w3 ⟨rfl,hb3⟩
        go_wp2_with fail
        refine(sureN_bad w3 none 0 0 4).mono ?_
        rintro e w4 ⟨rfl,rfl⟩
        rw[HE.out]
        exact⟨rfl,rfl,hbx.up hb3⟩
    · have HS:=recOf_bad (ps.map Prod.fst) (ps.map Prod.snd) q3 q4 c3 c4 wr htl hll (by rw[hl1,hl2]) hsz (by rw[hl1];omega) (by rw[hz];exact hrf)
      rw[hz,hl1,hl2,eV_not hrf]at HS
      rw[hl1,hl2]
      have HE:Hid (bindE X recE= .error (rfault [] ps)):=by
       show _=_
       rw[HX2.out]
       unfold bindE recE
       simp only[if_neg hrf]
      clear hsz HIV hrf hz hl1 hl2 htl hll hos hov
      generalize rfault [] ps=n at *
      go_wp2_with fail
      refine HS.mono ?_
      rintro e w3 ⟨rfl,hb3⟩
      go_wp2_with fail
      refine(sureN_bad w3 none 0 0 n).mono ?_
      rintro e w4 ⟨rfl,rfl⟩
      rw[HE.out]
      exact⟨rfl,rfl,hbx.up hb3⟩
end
theorem partsE_count {f:Nat}:∀ {n:Nat} {m r:List Nd},partsE (pastE f) n m=some r→n+r.length≤m.length
 | 0,m,r,h=>by rw[partsE_end h];omega
 | n+1,m,r,h=>by
   obtain⟨s,h1,h2⟩:=partsE_one h
   have:=partsE_count h2
   have:=(pastE_shorter h1).1
   omega
theorem recLoop_count {f:Nat}:∀ {n:Nat} {nm:ByteArray} {m r:List Nd},recLoop (pastE f) n nm m=some r→n+r.length≤m.length
 | 0,_,m,r,h=>by rw[recLoop_end h];omega
 | n+1,_,m,r,h=>by
   obtain⟨x,m',s,e0,h1,h2⟩:=recLoop_one h
   have:=recLoop_count h2
   have:=(pastE_shorter h1).1
   rw[e0,List.length_cons]
   omega
theorem setc_size (w:World)(a:Addr)(u:Value):(w.setCell a u).heap.size=w.heap.size:=by simp
section
variable {E:EvEnv} {B f:Nat} (ho:E.Ok) (hf:f≤E.e.length+1) (hV:ValOk E B f) (w:World) (k:Nat) (x:Nd) (m r s t:List Nd)
include ho hf hV
theorem value_set (hs:AS E w B k)(hv:E.e.drop k=x::m)(hx:exOk x=true)(h5:x.op=5)(hp:partsE (pastE f) x.n.toNat m=some r):
 Calls Tryz.prog 36 #[.pointer (some ⟨B,0,none⟩)] w (VE E B (E.e.length-r.length) w (bindE (evS (evE E.es E.q f) (bh f) x.n.toNat m) setE)):=by
 have hk:k<E.e.length:=by
  have:=congrArg List.length hv
  simp only[List.length_drop,List.length_cons]at this
  omega
 have hxk:E.e[k]=x:=by
  have:=congrArg List.head? hv
  rw[List.head?_drop,List.head?_cons,List.getElem?_eq_getElem hk]at this
  exact Option.some.inj this
 have hm1:E.e.drop (k+1)=m:=by
  have:=congrArg List.tail hv
  rwa [List.tail_drop,List.tail_cons]at this
 have c8:=hs.c8
 have c9:=hs.c9
 obtain⟨bq,oq,hpq,hbq,x0,x1,x2,x3,xw⟩:=(hs.ne ho).at hk
 rw[hxk]at x0 x1 x2 x3 xw
 rw[hpq]at c8
 have i2:(k:Int)<(E.e.length:Int):=by omega
 have i3:(k:Int)≤200:=by have:=ho.len;omega
 have hlt:=hs.lt
 have hB2:¬B=w.heap.size:=by omega
 have hB3:¬w.heap.size=B:=by omega
 have hw9:IntKind.i64.wrap ((k:Int)+1)=(k:Int)+1:=by rw[IntKind.wrap_i64];omega
 have hn0:0≤x.n:=by
  unfold exOk at hx
  rw[if_pos (by omega)]at hx
  exact ndOk_n hx (.inl h5)
 have hcnt:=partsE_count hp
 have hml:m.length≤200:=by have:=congrArg List.length hm1;rw[List.length_drop]at this;have:=ho.len;omega
 obtain⟨op,nn,ss,tt⟩:=x
 dsimp only at *
 subst h5
 obtain⟨N,rfl⟩:∃N:Nat,nn=N:=⟨nn.toNat,by omega⟩
 rw[Int.toNat_natCast]at hp hcnt ⊢
 have HS:=fun w1 (h1:AS E w1 B (k+1))=>set_any ho hV w1 (k+1) m r N (by omega) h1 hm1 hp
 generalize bindE (evS (evE E.es E.q f) (bh f) N m) setE=R at *
 have hbV:Below w.heap.size w (w.alloc (.cells #[.int .i64 5,.int .i64 (N:Int),.string ss,.string tt] 47)).drew:=((Below.refl _ _).alloc (Nat.le_refl _) _).drew
 have hsz:w.heap.size<(w.alloc (.cells #[.int .i64 5,.int .i64 (N:Int),.string ss,.string tt] 47)).drew.heap.size:=by show w.heap.size<(w.alloc (.cells #[.int .i64 5,.int .i64 (N:Int),.string ss,.string tt] 47)).heap.size;simp
 have m0:(w.alloc (.cells #[.int .i64 5,.int .i64 (N:Int),.string ss,.string tt] 47)).drew.cell? ⟨w.heap.size,0,none⟩=some (.int .i64 5):=by show(w.alloc (.cells #[.int .i64 5,.int .i64 (N:Int),.string ss,.string tt] 47)).cell? _=_;simp
 have m1:(w.alloc (.cells #[.int .i64 5,.int .i64 (N:Int),.string ss,.string tt] 47)).drew.cell? ⟨w.heap.size,1,none⟩=some (.int .i64 (N:Int)):=by show(w.alloc (.cells #[.int .i64 5,.int .i64 (N:Int),.string ss,.string tt] 47)).cell? _=_;simp
 have m2:(w.alloc (.cells #[.int .i64 5,.int .i64 (N:Int),.string ss,.string tt] 47)).drew.cell? ⟨w.heap.size,2,none⟩=some (.string ss):=by show(w.alloc (.cells #[.int .i64 5,.int .i64 (N:Int),.string ss,.string tt] 47)).cell? _=_;simp
 have m3:(w.alloc (.cells #[.int .i64 5,.int .i64 (N:Int),.string ss,.string tt] 47)).drew.cell? ⟨w.heap.size,3,none⟩=some (.string tt):=by show(w.alloc (.cells #[.int .i64 5,.int .i64 (N:Int),.string ss,.string tt] 47)).cell? _=_;simp
 go_enter Tryz.func36,Tryz.ntmps36
 go_wp2
 go_region
 all_goals
  generalize (w.alloc (.cells #[.int .i64 5,.int .i64 (N:Int),.string ss,.string tt] 47)).drew=V at *
  have hsV:=hs.up hbV
  have d9:=hsV.c9
  have f9:=hsV.fz 9
  have hs2:=hsV.setAt (j:=k+1) (by omega)
  have hb2:BX B w (V.setCell ⟨B,9,none⟩ (.int .i64 ((k+1:Nat):Int))):=(BX.of_below hbV).set 9 _
  have e9:((k+1:Nat):Int)=(k:Int)+1:=rfl
  rw[e9]at hs2 hb2
  have n0:(V.setCell ⟨B,9,none⟩ (.int .i64 ((k:Int)+1))).cell? ⟨w.heap.size,0,none⟩=some (.int .i64 5):=(World.cell?_setCell_other _ _ _ _ (fun e=>hB2 (congrArg Addr.block e))).trans m0
  have n1:(V.setCell ⟨B,9,none⟩ (.int .i64 ((k:Int)+1))).cell? ⟨w.heap.size,1,none⟩=some (.int .i64 (N:Int)):=(World.cell?_setCell_other _ _ _ _ (fun e=>hB2 (congrArg Addr.block e))).trans m1
  have n2:(V.setCell ⟨B,9,none⟩ (.int .i64 ((k:Int)+1))).cell? ⟨w.heap.size,2,none⟩=some (.string ss):=(World.cell?_setCell_other _ _ _ _ (fun e=>hB2 (congrArg Addr.block e))).trans m2
  have n3:(V.setCell ⟨B,9,none⟩ (.int .i64 ((k:Int)+1))).cell? ⟨w.heap.size,3,none⟩=some (.string tt):=(World.cell?_setCell_other _ _ _ _ (fun e=>hB2 (congrArg Addr.block e))).trans m3
  go_wp2_with fail
  refine(HS _ hs2).mono ?_
  intro en w3 h3
  cases R with
  | ok v=>
    obtain⟨⟨q3,c3,rfl,hv3⟩,hs3,hb3⟩:=h3
    go_wp2
    go_ret
    exact⟨⟨q3,c3,rfl,hv3⟩,hs3,hb2.trans hb3⟩
  | error n=>
    obtain⟨rfl,hb3⟩:=h3
    exact⟨rfl,rfl,hb2.trans hb3⟩
theorem value_rec (hs:AS E w B k)(hv:E.e.drop k=x::m)(hx:exOk x=true)(h6:x.op=6)(hp:recLoop (pastE f) x.n.toNat ⟨#[]⟩ m=some r):
 Calls Tryz.prog 36 #[.pointer (some ⟨B,0,none⟩)] w (VE E B (E.e.length-r.length) w (bindE (evR (evE E.es E.q f) (bh f) x.n.toNat m) recE)):=by
 have hk:k<E.e.length:=by
  have:=congrArg List.length hv
  simp only[List.length_drop,List.length_cons]at this
  omega
 have hxk:E.e[k]=x:=by
  have:=congrArg List.head? hv
  rw[List.head?_drop,List.head?_cons,List.getElem?_eq_getElem hk]at this
  exact Option.some.inj this
 have hm1:E.e.drop (k+1)=m:=by
  have:=congrArg List.tail hv
  rwa [List.tail_drop,List.tail_cons]at this
 have c8:=hs.c8
 have c9:=hs.c9
 obtain⟨bq,oq,hpq,hbq,x0,x1,x2,x3,xw⟩:=(hs.ne ho).at hk
 rw[hxk]at x0 x1 x2 x3 xw
 rw[hpq]at c8
 have i2:(k:Int)<(E.e.length:Int):=by omega
 have i3:(k:Int)≤200:=by have:=ho.len;omega
 have hlt:=hs.lt
 have hB2:¬B=w.heap.size:=by omega
 have hB3:¬w.heap.size=B:=by omega
 have hw9:IntKind.i64.wrap ((k:Int)+1)=(k:Int)+1:=by rw[IntKind.wrap_i64];omega
 have hn0:0≤x.n:=by
  unfold exOk at hx
  rw[if_pos (by omega)]at hx
  exact ndOk_n hx (.inr h6)
 have hcnt:=recLoop_count hp
 have hml:m.length≤200:=by have:=congrArg List.length hm1;rw[List.length_drop]at this;have:=ho.len;omega
 obtain⟨op,nn,ss,tt⟩:=x
 dsimp only at *
 subst h6
 obtain⟨N,rfl⟩:∃N:Nat,nn=N:=⟨nn.toNat,by omega⟩
 rw[Int.toNat_natCast]at hp hcnt ⊢
 have HS:=fun w1 (h1:AS E w1 B (k+1))=>rec_any ho hV w1 (k+1) m r N (by omega) ⟨#[]⟩ h1 hm1 hp
 generalize bindE (evR (evE E.es E.q f) (bh f) N m) recE=R at *
 have hbV:Below w.heap.size w (w.alloc (.cells #[.int .i64 6,.int .i64 (N:Int),.string ss,.string tt] 47)).drew:=((Below.refl _ _).alloc (Nat.le_refl _) _).drew
 have hsz:w.heap.size<(w.alloc (.cells #[.int .i64 6,.int .i64 (N:Int),.string ss,.string tt] 47)).drew.heap.size:=by show w.heap.size<(w.alloc (.cells #[.int .i64 6,.int .i64 (N:Int),.string ss,.string tt] 47)).heap.size;simp
 have m0:(w.alloc (.cells #[.int .i64 6,.int .i64 (N:Int),.string ss,.string tt] 47)).drew.cell? ⟨w.heap.size,0,none⟩=some (.int .i64 6):=by show(w.alloc (.cells #[.int .i64 6,.int .i64 (N:Int),.string ss,.string tt] 47)).cell? _=_;simp
 have m1:(w.alloc (.cells #[.int .i64 6,.int .i64 (N:Int),.string ss,.string tt] 47)).drew.cell? ⟨w.heap.size,1,none⟩=some (.int .i64 (N:Int)):=by show(w.alloc (.cells #[.int .i64 6,.int .i64 (N:Int),.string ss,.string tt] 47)).cell? _=_;simp
 have m2:(w.alloc (.cells #[.int .i64 6,.int .i64 (N:Int),.string ss,.string tt] 47)).drew.cell? ⟨w.heap.size,2,none⟩=some (.string ss):=by show(w.alloc (.cells #[.int .i64 6,.int .i64 (N:Int),.string ss,.string tt] 47)).cell? _=_;simp
 have m3:(w.alloc (.cells #[.int .i64 6,.int .i64 (N:Int),.string ss,.string tt] 47)).drew.cell? ⟨w.heap.size,3,none⟩=some (.string tt):=by show(w.alloc (.cells #[.int .i64 6,.int .i64 (N:Int),.string ss,.string tt] 47)).cell? _=_;simp
 go_enter Tryz.func36,Tryz.ntmps36
 go_wp2
 go_region
 all_goals
  generalize (w.alloc (.cells #[.int .i64 6,.int .i64 (N:Int),.string ss,.string tt] 47)).drew=V at *
  have hsV:=hs.up hbV
  have d9:=hsV.c9
  have f9:=hsV.fz 9
  have hs2:=hsV.setAt (j:=k+1) (by omega)
  have hb2:BX B w (V.setCell ⟨B,9,none⟩ (.int .i64 ((k+1:Nat):Int))):=(BX.of_below hbV).set 9 _
  have e9:((k+1:Nat):Int)=(k:Int)+1:=rfl
  rw[e9]at hs2 hb2
  have n0:(V.setCell ⟨B,9,none⟩ (.int .i64 ((k:Int)+1))).cell? ⟨w.heap.size,0,none⟩=some (.int .i64 6):=(World.cell?_setCell_other _ _ _ _ (fun e=>hB2 (congrArg Addr.block e))).trans m0
  have n1:(V.setCell ⟨B,9,none⟩ (.int .i64 ((k:Int)+1))).cell? ⟨w.heap.size,1,none⟩=some (.int .i64 (N:Int)):=(World.cell?_setCell_other _ _ _ _ (fun e=>hB2 (congrArg Addr.block e))).trans m1
  have n2:(V.setCell ⟨B,9,none⟩ (.int .i64 ((k:Int)+1))).cell? ⟨w.heap.size,2,none⟩=some (.string ss):=(World.cell?_setCell_other _ _ _ _ (fun e=>hB2 (congrArg Addr.block e))).trans m2
  have n3:(V.setCell ⟨B,9,none⟩ (.int .i64 ((k:Int)+1))).cell? ⟨w.heap.size,3,none⟩=some (.string tt):=(World.cell?_setCell_other _ _ _ _ (fun e=>hB2 (congrArg Addr.block e))).trans m3
  go_wp2_with fail
  refine(HS _ hs2).mono ?_
  intro en w3 h3
  cases R with
  | ok v=>
    obtain⟨⟨q3,c3,rfl,hv3⟩,hs3,hb3⟩:=h3
    go_wp2
    go_ret
    exact⟨⟨q3,c3,rfl,hv3⟩,hs3,hb2.trans hb3⟩
  | error n=>
    obtain⟨rfl,hb3⟩:=h3
    exact⟨rfl,rfl,hb2.trans hb3⟩
theorem value_and (hs:AS E w B k)(hv:E.e.drop k=x::m)(hx:exOk x=true)(h11:x.op=11)(p1:pastE f m=some s)(p2:pastE f s=some r):
 Calls Tryz.prog 36 #[.pointer (some ⟨B,0,none⟩)] w (VE E B (E.e.length-r.length) w (lazyE false (evE E.es E.q f m) (evE E.es E.q f s))):=by
 have hk:k<E.e.length:=by
  have:=congrArg List.length hv
  simp only[List.length_drop,List.length_cons]at this
  omega
 have hxk:E.e[k]=x:=by
  have:=congrArg List.head? hv
  rw[List.head?_drop,List.head?_cons,List.getElem?_eq_getElem hk]at this
  exact Option.some.inj this
 have hm1:E.e.drop (k+1)=m:=by
  have:=congrArg List.tail hv
  rwa [List.tail_drop,List.tail_cons]at this
 have c8:=hs.c8
 have c9:=hs.c9
 obtain⟨bq,oq,hpq,hbq,x0,x1,x2,x3,xw⟩:=(hs.ne ho).at hk
 rw[hxk]at x0 x1 x2 x3 xw
 rw[hpq]at c8
 have i2:(k:Int)<(E.e.length:Int):=by omega
 have i3:(k:Int)≤200:=by have:=ho.len;omega
 have hlt:=hs.lt
 have hB2:¬B=w.heap.size:=by omega
 have hB3:¬w.heap.size=B:=by omega
 have hw9:IntKind.i64.wrap ((k:Int)+1)=(k:Int)+1:=by rw[IntKind.wrap_i64];omega
 obtain⟨op,nn,ss,tt⟩:=x
 dsimp only at *
 subst h11
 have HS:=fun w1 (h1:AS E w1 B (k+1))=>unless_any ho hf hV w1 (k+1) m s r false h1 hm1 p1 p2
 generalize lazyE false (evE E.es E.q f m) (evE E.es E.q f s)=R at *
 have hbV:Below w.heap.size w (w.alloc (.cells #[.int .i64 11,.int .i64 nn,.string ss,.string tt] 47)).drew:=((Below.refl _ _).alloc (Nat.le_refl _) _).drew
 have hsz:w.heap.size<(w.alloc (.cells #[.int .i64 11,.int .i64 nn,.string ss,.string tt] 47)).drew.heap.size:=by show w.heap.size<(w.alloc (.cells #[.int .i64 11,.int .i64 nn,.string ss,.string tt] 47)).heap.size;simp
 have m0:(w.alloc (.cells #[.int .i64 11,.int .i64 nn,.string ss,.string tt] 47)).drew.cell? ⟨w.heap.size,0,none⟩=some (.int .i64 11):=by show(w.alloc (.cells #[.int .i64 11,.int .i64 nn,.string ss,.string tt] 47)).cell? _=_;simp
 have m1:(w.alloc (.cells #[.int .i64 11,.int .i64 nn,.string ss,.string tt] 47)).drew.cell? ⟨w.heap.size,1,none⟩=some (.int .i64 nn):=by show(w.alloc (.cells #[.int .i64 11,.int .i64 nn,.string ss,.string tt] 47)).cell? _=_;simp
 have m2:(w.alloc (.cells #[.int .i64 11,.int .i64 nn,.string ss,.string tt] 47)).drew.cell? ⟨w.heap.size,2,none⟩=some (.string ss):=by show(w.alloc (.cells #[.int .i64 11,.int .i64 nn,.string ss,.string tt] 47)).cell? _=_;simp
 have m3:(w.alloc (.cells #[.int .i64 11,.int .i64 nn,.string ss,.string tt] 47)).drew.cell? ⟨w.heap.size,3,none⟩=some (.string tt):=by show(w.alloc (.cells #[.int .i64 11,.int .i64 nn,.string ss,.string tt] 47)).cell? _=_;simp
 go_enter Tryz.func36,Tryz.ntmps36
 go_wp2
 go_region
 all_goals
  generalize (w.alloc (.cells #[.int .i64 11,.int .i64 nn,.string ss,.string tt] 47)).drew=V at *
  have hsV:=hs.up hbV
  have d9:=hsV.c9
  have f9:=hsV.fz 9
  have hs2:=hsV.setAt (j:=k+1) (by omega)
  have hb2:BX B w (V.setCell ⟨B,9,none⟩ (.int .i64 ((k+1:Nat):Int))):=(BX.of_below hbV).set 9 _
  have e9:((k+1:Nat):Int)=(k:Int)+1:=rfl
  rw[e9]at hs2 hb2
  have n0:(V.setCell ⟨B,9,none⟩ (.int .i64 ((k:Int)+1))).cell? ⟨w.heap.size,0,none⟩=some (.int .i64 11):=(World.cell?_setCell_other _ _ _ _ (fun e=>hB2 (congrArg Addr.block e))).trans m0
  have n1:(V.setCell ⟨B,9,none⟩ (.int .i64 ((k:Int)+1))).cell? ⟨w.heap.size,1,none⟩=some (.int .i64 nn):=(World.cell?_setCell_other _ _ _ _ (fun e=>hB2 (congrArg Addr.block e))).trans m1
  have n2:(V.setCell ⟨B,9,none⟩ (.int .i64 ((k:Int)+1))).cell? ⟨w.heap.size,2,none⟩=some (.string ss):=(World.cell?_setCell_other _ _ _ _ (fun e=>hB2 (congrArg Addr.block e))).trans m2
  have n3:(V.setCell ⟨B,9,none⟩ (.int .i64 ((k:Int)+1))).cell? ⟨w.heap.size,3,none⟩=some (.string tt):=(World.cell?_setCell_other _ _ _ _ (fun e=>hB2 (congrArg Addr.block e))).trans m3
  go_wp2_with fail
  refine(HS _ hs2).mono ?_
  intro en w3 h3
  cases R with
  | ok v=>
    obtain⟨⟨q3,c3,rfl,hv3⟩,hs3,hb3⟩:=h3
    go_wp2
    go_ret
    exact⟨⟨q3,c3,rfl,hv3⟩,hs3,hb2.trans hb3⟩
  | error n=>
    obtain⟨rfl,hb3⟩:=h3
    exact⟨rfl,rfl,hb2.trans hb3⟩
theorem value_or (hs:AS E w B k)(hv:E.e.drop k=x::m)(hx:exOk x=true)(h11:x.op=12)(p1:pastE f m=some s)(p2:pastE f s=some r):
 Calls Tryz.prog 36 #[.pointer (some ⟨B,0,none⟩)] w (VE E B (E.e.length-r.length) w (lazyE true (evE E.es E.q f m) (evE E.es E.q f s))):=by
 have hk:k<E.e.length:=by
  have:=congrArg List.length hv
  simp only[List.length_drop,List.length_cons]at this
  omega
 have hxk:E.e[k]=x:=by
  have:=congrArg List.head? hv
  rw[List.head?_drop,List.head?_cons,List.getElem?_eq_getElem hk]at this
  exact Option.some.inj this
 have hm1:E.e.drop (k+1)=m:=by
  have:=congrArg List.tail hv
  rwa [List.tail_drop,List.tail_cons]at this
 have c8:=hs.c8
 have c9:=hs.c9
 obtain⟨bq,oq,hpq,hbq,x0,x1,x2,x3,xw⟩:=(hs.ne ho).at hk
 rw[hxk]at x0 x1 x2 x3 xw
 rw[hpq]at c8
 have i2:(k:Int)<(E.e.length:Int):=by omega
 have i3:(k:Int)≤200:=by have:=ho.len;omega
 have hlt:=hs.lt
 have hB2:¬B=w.heap.size:=by omega
 have hB3:¬w.heap.size=B:=by omega
 have hw9:IntKind.i64.wrap ((k:Int)+1)=(k:Int)+1:=by rw[IntKind.wrap_i64];omega
 obtain⟨op,nn,ss,tt⟩:=x
 dsimp only at *
 subst h11
 have HS:=fun w1 (h1:AS E w1 B (k+1))=>unless_any ho hf hV w1 (k+1) m s r true h1 hm1 p1 p2
 generalize lazyE true (evE E.es E.q f m) (evE E.es E.q f s)=R at *
 have hbV:Below w.heap.size w (w.alloc (.cells #[.int .i64 12,.int .i64 nn,.string ss,.string tt] 47)).drew:=((Below.refl _ _).alloc (Nat.le_refl _) _).drew
 have hsz:w.heap.size<(w.alloc (.cells #[.int .i64 12,.int .i64 nn,.string ss,.string tt] 47)).drew.heap.size:=by show w.heap.size<(w.alloc (.cells #[.int .i64 12,.int .i64 nn,.string ss,.string tt] 47)).heap.size;simp
 have m0:(w.alloc (.cells #[.int .i64 12,.int .i64 nn,.string ss,.string tt] 47)).drew.cell? ⟨w.heap.size,0,none⟩=some (.int .i64 12):=by show(w.alloc (.cells #[.int .i64 12,.int .i64 nn,.string ss,.string tt] 47)).cell? _=_;simp
 have m1:(w.alloc (.cells #[.int .i64 12,.int .i64 nn,.string ss,.string tt] 47)).drew.cell? ⟨w.heap.size,1,none⟩=some (.int .i64 nn):=by show(w.alloc (.cells #[.int .i64 12,.int .i64 nn,.string ss,.string tt] 47)).cell? _=_;simp
 have m2:(w.alloc (.cells #[.int .i64 12,.int .i64 nn,.string ss,.string tt] 47)).drew.cell? ⟨w.heap.size,2,none⟩=some (.string ss):=by show(w.alloc (.cells #[.int .i64 12,.int .i64 nn,.string ss,.string tt] 47)).cell? _=_;simp
 have m3:(w.alloc (.cells #[.int .i64 12,.int .i64 nn,.string ss,.string tt] 47)).drew.cell? ⟨w.heap.size,3,none⟩=some (.string tt):=by show(w.alloc (.cells #[.int .i64 12,.int .i64 nn,.string ss,.string tt] 47)).cell? _=_;simp
 go_enter Tryz.func36,Tryz.ntmps36
 go_wp2
 go_region
 all_goals
  generalize (w.alloc (.cells #[.int .i64 12,.int .i64 nn,.string ss,.string tt] 47)).drew=V at *
  have hsV:=hs.up hbV
  have d9:=hsV.c9
  have f9:=hsV.fz 9
  have hs2:=hsV.setAt (j:=k+1) (by omega)
  have hb2:BX B w (V.setCell ⟨B,9,none⟩ (.int .i64 ((k+1:Nat):Int))):=(BX.of_below hbV).set 9 _
  have e9:((k+1:Nat):Int)=(k:Int)+1:=rfl
  rw[e9]at hs2 hb2
  have n0:(V.setCell ⟨B,9,none⟩ (.int .i64 ((k:Int)+1))).cell? ⟨w.heap.size,0,none⟩=some (.int .i64 12):=(World.cell?_setCell_other _ _ _ _ (fun e=>hB2 (congrArg Addr.block e))).trans m0
  have n1:(V.setCell ⟨B,9,none⟩ (.int .i64 ((k:Int)+1))).cell? ⟨w.heap.size,1,none⟩=some (.int .i64 nn):=(World.cell?_setCell_other _ _ _ _ (fun e=>hB2 (congrArg Addr.block e))).trans m1
  have n2:(V.setCell ⟨B,9,none⟩ (.int .i64 ((k:Int)+1))).cell? ⟨w.heap.size,2,none⟩=some (.string ss):=(World.cell?_setCell_other _ _ _ _ (fun e=>hB2 (congrArg Addr.block e))).trans m2
  have n3:(V.setCell ⟨B,9,none⟩ (.int .i64 ((k:Int)+1))).cell? ⟨w.heap.size,3,none⟩=some (.string tt):=(World.cell?_setCell_other _ _ _ _ (fun e=>hB2 (congrArg Addr.block e))).trans m3
  go_wp2_with fail
  refine(HS _ hs2).mono ?_
  intro en w3 h3
  cases R with
  | ok v=>
    obtain⟨⟨q3,c3,rfl,hv3⟩,hs3,hb3⟩:=h3
    go_wp2
    go_ret
    exact⟨⟨q3,c3,rfl,hv3⟩,hs3,hb2.trans hb3⟩
  | error n=>
    obtain⟨rfl,hb3⟩:=h3
    exact⟨rfl,rfl,hb2.trans hb3⟩
theorem value_if (hs:AS E w B k)(hv:E.e.drop k=x::m)(hx:exOk x=true)(h13:x.op=13)(p1:pastE f m=some s)(p2:pastE f s=some t)(p3:pastE f t=some r):
 Calls Tryz.prog 36 #[.pointer (some ⟨B,0,none⟩)] w (VE E B (E.e.length-r.length) w (ifE (evE E.es E.q f m) (evE E.es E.q f s) (evE E.es E.q f t))):=by
 have hk:k<E.e.length:=by
  have:=congrArg List.length hv
  simp only[List.length_drop,List.length_cons]at this
  omega
 have hxk:E.e[k]=x:=by
  have:=congrArg List.head? hv
  rw[List.head?_drop,List.head?_cons,List.getElem?_eq_getElem hk]at this
  exact Option.some.inj this
 have hm1:E.e.drop (k+1)=m:=by
  have:=congrArg List.tail hv
  rwa [List.tail_drop,List.tail_cons]at this
 have c8:=hs.c8
 have c9:=hs.c9
 obtain⟨bq,oq,hpq,hbq,x0,x1,x2,x3,xw⟩:=(hs.ne ho).at hk
 rw[hxk]at x0 x1 x2 x3 xw
 rw[hpq]at c8
 have i2:(k:Int)<(E.e.length:Int):=by omega
 have i3:(k:Int)≤200:=by have:=ho.len;omega
 have hlt:=hs.lt
 have hB2:¬B=w.heap.size:=by omega
 have hB3:¬w.heap.size=B:=by omega
 have hw9:IntKind.i64.wrap ((k:Int)+1)=(k:Int)+1:=by rw[IntKind.wrap_i64];omega
 obtain⟨op,nn,ss,tt⟩:=x
 dsimp only at *
 subst h13
 have HS:=fun w1 (h1:AS E w1 B (k+1))=>either_any ho hf hV w1 (k+1) m s t r h1 hm1 p1 p2 p3
 generalize ifE (evE E.es E.q f m) (evE E.es E.q f s) (evE E.es E.q f t)=R at *
 have hbV:Below w.heap.size w (w.alloc (.cells #[.int .i64 13,.int .i64 nn,.string ss,.string tt] 47)).drew:=((Below.refl _ _).alloc (Nat.le_refl _) _).drew
 have hsz:w.heap.size<(w.alloc (.cells #[.int .i64 13,.int .i64 nn,.string ss,.string tt] 47)).drew.heap.size:=by show w.heap.size<(w.alloc (.cells #[.int .i64 13,.int .i64 nn,.string ss,.string tt] 47)).heap.size;simp
 have m0:(w.alloc (.cells #[.int .i64 13,.int .i64 nn,.string ss,.string tt] 47)).drew.cell? ⟨w.heap.size,0,none⟩=some (.int .i64 13):=by show(w.alloc (.cells #[.int .i64 13,.int .i64 nn,.string ss,.string tt] 47)).cell? _=_;simp
 have m1:(w.alloc (.cells #[.int .i64 13,.int .i64 nn,.string ss,.string tt] 47)).drew.cell? ⟨w.heap.size,1,none⟩=some (.int .i64 nn):=by show(w.alloc (.cells #[.int .i64 13,.int .i64 nn,.string ss,.string tt] 47)).cell? _=_;simp
 have m2:(w.alloc (.cells #[.int .i64 13,.int .i64 nn,.string ss,.string tt] 47)).drew.cell? ⟨w.heap.size,2,none⟩=some (.string ss):=by show(w.alloc (.cells #[.int .i64 13,.int .i64 nn,.string ss,.string tt] 47)).cell? _=_;simp
 have m3:(w.alloc (.cells #[.int .i64 13,.int .i64 nn,.string ss,.string tt] 47)).drew.cell? ⟨w.heap.size,3,none⟩=some (.string tt):=by show(w.alloc (.cells #[.int .i64 13,.int .i64 nn,.string ss,.string tt] 47)).cell? _=_;simp
 go_enter Tryz.func36,Tryz.ntmps36
 go_wp2
 go_region
 all_goals
  generalize (w.alloc (.cells #[.int .i64 13,.int .i64 nn,.string ss,.string tt] 47)).drew=V at *
  have hsV:=hs.up hbV
  have d9:=hsV.c9
  have f9:=hsV.fz 9
  have hs2:=hsV.setAt (j:=k+1) (by omega)
  have hb2:BX B w (V.setCell ⟨B,9,none⟩ (.int .i64 ((k+1:Nat):Int))):=(BX.of_below hbV).set 9 _
  have e9:((k+1:Nat):Int)=(k:Int)+1:=rfl
  rw[e9]at hs2 hb2
  have n0:(V.setCell ⟨B,9,none⟩ (.int .i64 ((k:Int)+1))).cell? ⟨w.heap.size,0,none⟩=some (.int .i64 13):=(World.cell?_setCell_other _ _ _ _ (fun e=>hB2 (congrArg Addr.block e))).trans m0
  have n1:(V.setCell ⟨B,9,none⟩ (.int .i64 ((k:Int)+1))).cell? ⟨w.heap.size,1,none⟩=some (.int .i64 nn):=(World.cell?_setCell_other _ _ _ _ (fun e=>hB2 (congrArg Addr.block e))).trans m1
  have n2:(V.setCell ⟨B,9,none⟩ (.int .i64 ((k:Int)+1))).cell? ⟨w.heap.size,2,none⟩=some (.string ss):=(World.cell?_setCell_other _ _ _ _ (fun e=>hB2 (congrArg Addr.block e))).trans m2
  have n3:(V.setCell ⟨B,9,none⟩ (.int .i64 ((k:Int)+1))).cell? ⟨w.heap.size,3,none⟩=some (.string tt):=(World.cell?_setCell_other _ _ _ _ (fun e=>hB2 (congrArg Addr.block e))).trans m3
  go_wp2_with fail
  refine(HS _ hs2).mono ?_
  intro en w3 h3
  cases R with
  | ok v=>
    obtain⟨⟨q3,c3,rfl,hv3⟩,hs3,hb3⟩:=h3
    go_wp2
    go_ret
    exact⟨⟨q3,c3,rfl,hv3⟩,hs3,hb2.trans hb3⟩
  | error n=>
    obtain⟨rfl,hb3⟩:=h3
    exact⟨rfl,rfl,hb2.trans hb3⟩
theorem value_var (hs:AS E w B k)(hv:E.e.drop k=x::m)(hx:exOk x=true)(h8:x.op=8):
 Calls Tryz.prog 36 #[.pointer (some ⟨B,0,none⟩)] w (VE E B (E.e.length-m.length) w (varE E.q x.s)):=by
 have hk:k<E.e.length:=by
  have:=congrArg List.length hv
  simp only[List.length_drop,List.length_cons]at this
  omega
 have hxk:E.e[k]=x:=by
  have:=congrArg List.head? hv
  rw[List.head?_drop,List.head?_cons,List.getElem?_eq_getElem hk]at this
  exact Option.some.inj this
 have hm1:E.e.drop (k+1)=m:=by
  have:=congrArg List.tail hv
  rwa [List.tail_drop,List.tail_cons]at this
 have c8:=hs.c8
 have c9:=hs.c9
 obtain⟨bq,oq,hpq,hbq,x0,x1,x2,x3,xw⟩:=(hs.ne ho).at hk
 rw[hxk]at x0 x1 x2 x3 xw
 rw[hpq]at c8
 have i2:(k:Int)<(E.e.length:Int):=by omega
 have i3:(k:Int)≤200:=by have:=ho.len;omega
 have hlt:=hs.lt
 have hB2:¬B=w.heap.size:=by omega
 have hB3:¬w.heap.size=B:=by omega
 have hw9:IntKind.i64.wrap ((k:Int)+1)=(k:Int)+1:=by rw[IntKind.wrap_i64];omega
 have hkm:E.e.length-m.length=k+1:=by rw[←hm1,List.length_drop];omega
 rw[hkm]
 obtain⟨op,nn,ss,tt⟩:=x
 dsimp only at *
 subst h8
 have HS:=fun w1 (h1:AS E w1 B (k+1))=>named_any w1 B (k+1) ho h1 ss
 generalize varE E.q ss=R at *
 have hbV:Below w.heap.size w (w.alloc (.cells #[.int .i64 8,.int .i64 nn,.string ss,.string tt] 47)).drew:=((Below.refl _ _).alloc (Nat.le_refl _) _).drew
 have hsz:w.heap.size<(w.alloc (.cells #[.int .i64 8,.int .i64 nn,.string ss,.string tt] 47)).drew.heap.size:=by show w.heap.size<(w.alloc (.cells #[.int .i64 8,.int .i64 nn,.string ss,.string tt] 47)).heap.size;simp
 have m0:(w.alloc (.cells #[.int .i64 8,.int .i64 nn,.string ss,.string tt] 47)).drew.cell? ⟨w.heap.size,0,none⟩=some (.int .i64 8):=by show(w.alloc (.cells #[.int .i64 8,.int .i64 nn,.string ss,.string tt] 47)).cell? _=_;simp
 have m1:(w.alloc (.cells #[.int .i64 8,.int .i64 nn,.string ss,.string tt] 47)).drew.cell? ⟨w.heap.size,1,none⟩=some (.int .i64 nn):=by show(w.alloc (.cells #[.int .i64 8,.int .i64 nn,.string ss,.string tt] 47)).cell? _=_;simp
 have m2:(w.alloc (.cells #[.int .i64 8,.int .i64 nn,.string ss,.string tt] 47)).drew.cell? ⟨w.heap.size,2,none⟩=some (.string ss):=by show(w.alloc (.cells #[.int .i64 8,.int .i64 nn,.string ss,.string tt] 47)).cell? _=_;simp
 have m3:(w.alloc (.cells #[.int .i64 8,.int .i64 nn,.string ss,.string tt] 47)).drew.cell? ⟨w.heap.size,3,none⟩=some (.string tt):=by show(w.alloc (.cells #[.int .i64 8,.int .i64 nn,.string ss,.string tt] 47)).cell? _=_;simp
 go_enter Tryz.func36,Tryz.ntmps36
 go_wp2
 go_region
 all_goals
  generalize (w.alloc (.cells #[.int .i64 8,.int .i64 nn,.string ss,.string tt] 47)).drew=V at *
  have hsV:=hs.up hbV
  have d9:=hsV.c9
  have f9:=hsV.fz 9
  have hs2:=hsV.setAt (j:=k+1) (by omega)
  have hb2:BX B w (V.setCell ⟨B,9,none⟩ (.int .i64 ((k+1:Nat):Int))):=(BX.of_below hbV).set 9 _
  have e9:((k+1:Nat):Int)=(k:Int)+1:=rfl
  rw[e9]at hs2 hb2
  have n0:(V.setCell ⟨B,9,none⟩ (.int .i64 ((k:Int)+1))).cell? ⟨w.heap.size,0,none⟩=some (.int .i64 8):=(World.cell?_setCell_other _ _ _ _ (fun e=>hB2 (congrArg Addr.block e))).trans m0
  have n1:(V.setCell ⟨B,9,none⟩ (.int .i64 ((k:Int)+1))).cell? ⟨w.heap.size,1,none⟩=some (.int .i64 nn):=(World.cell?_setCell_other _ _ _ _ (fun e=>hB2 (congrArg Addr.block e))).trans m1
  have n2:(V.setCell ⟨B,9,none⟩ (.int .i64 ((k:Int)+1))).cell? ⟨w.heap.size,2,none⟩=some (.string ss):=(World.cell?_setCell_other _ _ _ _ (fun e=>hB2 (congrArg Addr.block e))).trans m2
  have n3:(V.setCell ⟨B,9,none⟩ (.int .i64 ((k:Int)+1))).cell? ⟨w.heap.size,3,none⟩=some (.string tt):=(World.cell?_setCell_other _ _ _ _ (fun e=>hB2 (congrArg Addr.block e))).trans m3
  go_wp2_with fail
  refine(HS _ hs2).mono ?_
  rintro en w3 ⟨h3,hb3⟩
  cases R with
  | ok v=>
    obtain⟨q3,c3,rfl,hv3⟩:=h3
    go_wp2
    go_ret
    exact⟨⟨q3,c3,rfl,hv3⟩,hs2.up hb3,hb2.up hb3⟩
  | error n=>
    have h3':en= .panicked (thrownE n):=h3
    subst h3'
    exact⟨rfl,rfl,hb2.up hb3⟩
theorem value_atom1 (hs:AS E w B k)(hv:E.e.drop k=x::m)(hx:exOk x=true)(h4:x.op=1)(hn:x.op=2→Fit x.n):
 Calls Tryz.prog 36 #[.pointer (some ⟨B,0,none⟩)] w (VE E B (E.e.length-m.length) w (.ok [x])):=by
 have hk:k<E.e.length:=by
  have:=congrArg List.length hv
  simp only[List.length_drop,List.length_cons]at this
  omega
 have hxk:E.e[k]=x:=by
  have:=congrArg List.head? hv
  rw[List.head?_drop,List.head?_cons,List.getElem?_eq_getElem hk]at this
  exact Option.some.inj this
 have hm1:E.e.drop (k+1)=m:=by
  have:=congrArg List.tail hv
  rwa [List.tail_drop,List.tail_cons]at this
 have c8:=hs.c8
 have c9:=hs.c9
 obtain⟨bq,oq,hpq,hbq,x0,x1,x2,x3,xw⟩:=(hs.ne ho).at hk
 rw[hxk]at x0 x1 x2 x3 xw
 rw[hpq]at c8
 have i2:(k:Int)<(E.e.length:Int):=by omega
 have i3:(k:Int)≤200:=by have:=ho.len;omega
 have hlt:=hs.lt
 have hB2:¬B=w.heap.size:=by omega
 have hB3:¬w.heap.size=B:=by omega
 have hw9:IntKind.i64.wrap ((k:Int)+1)=(k:Int)+1:=by rw[IntKind.wrap_i64];omega
 have hkm:E.e.length-m.length=k+1:=by rw[←hm1,List.length_drop];omega
 rw[hkm]
 have hi:=atom_is hx (by omega) hn
 have hwf:∀y∈[x],y.wf:=by intro y hy;simp only[List.mem_singleton]at hy;subst hy;exact xw
 obtain⟨op,nn,ss,tt⟩:=x
 dsimp only at *
 subst h4
 have hbV:Below w.heap.size w (w.alloc (.cells #[.int .i64 1,.int .i64 nn,.string ss,.string tt] 47)).drew:=((Below.refl _ _).alloc (Nat.le_refl _) _).drew
 have hsz:w.heap.size<(w.alloc (.cells #[.int .i64 1,.int .i64 nn,.string ss,.string tt] 47)).drew.heap.size:=by show w.heap.size<(w.alloc (.cells #[.int .i64 1,.int .i64 nn,.string ss,.string tt] 47)).heap.size;simp
 have m0:(w.alloc (.cells #[.int .i64 1,.int .i64 nn,.string ss,.string tt] 47)).drew.cell? ⟨w.heap.size,0,none⟩=some (.int .i64 1):=by show(w.alloc (.cells #[.int .i64 1,.int .i64 nn,.string ss,.string tt] 47)).cell? _=_;simp
 have m1:(w.alloc (.cells #[.int .i64 1,.int .i64 nn,.string ss,.string tt] 47)).drew.cell? ⟨w.heap.size,1,none⟩=some (.int .i64 nn):=by show(w.alloc (.cells #[.int .i64 1,.int .i64 nn,.string ss,.string tt] 47)).cell? _=_;simp
 have m2:(w.alloc (.cells #[.int .i64 1,.int .i64 nn,.string ss,.string tt] 47)).drew.cell? ⟨w.heap.size,2,none⟩=some (.string ss):=by show(w.alloc (.cells #[.int .i64 1,.int .i64 nn,.string ss,.string tt] 47)).cell? _=_;simp
 have m3:(w.alloc (.cells #[.int .i64 1,.int .i64 nn,.string ss,.string tt] 47)).drew.cell? ⟨w.heap.size,3,none⟩=some (.string tt):=by show(w.alloc (.cells #[.int .i64 1,.int .i64 nn,.string ss,.string tt] 47)).cell? _=_;simp
 go_enter Tryz.func36,Tryz.ntmps36
 go_wp2
 go_region
 all_goals
  generalize (w.alloc (.cells #[.int .i64 1,.int .i64 nn,.string ss,.string tt] 47)).drew=V at *
  have hsV:=hs.up hbV
  have d9:=hsV.c9
  have f9:=hsV.fz 9
  have hs2:=hsV.setAt (j:=k+1) (by omega)
  have hb2:BX B w (V.setCell ⟨B,9,none⟩ (.int .i64 ((k+1:Nat):Int))):=(BX.of_below hbV).set 9 _
  have e9:((k+1:Nat):Int)=(k:Int)+1:=rfl
  rw[e9]at hs2 hb2
  have n0:(V.setCell ⟨B,9,none⟩ (.int .i64 ((k:Int)+1))).cell? ⟨w.heap.size,0,none⟩=some (.int .i64 1):=(World.cell?_setCell_other _ _ _ _ (fun e=>hB2 (congrArg Addr.block e))).trans m0
  have n1:(V.setCell ⟨B,9,none⟩ (.int .i64 ((k:Int)+1))).cell? ⟨w.heap.size,1,none⟩=some (.int .i64 nn):=(World.cell?_setCell_other _ _ _ _ (fun e=>hB2 (congrArg Addr.block e))).trans m1
  have n2:(V.setCell ⟨B,9,none⟩ (.int .i64 ((k:Int)+1))).cell? ⟨w.heap.size,2,none⟩=some (.string ss):=(World.cell?_setCell_other _ _ _ _ (fun e=>hB2 (congrArg Addr.block e))).trans m2
  have n3:(V.setCell ⟨B,9,none⟩ (.int .i64 ((k:Int)+1))).cell? ⟨w.heap.size,3,none⟩=some (.string tt):=(World.cell?_setCell_other _ _ _ _ (fun e=>hB2 (congrArg Addr.block e))).trans m3
  have hN:=NL.lit (V.setCell ⟨B,9,none⟩ (.int .i64 ((k:Int)+1))) [⟨1,nn,ss,tt⟩] #[.int .i64 1,.int .i64 nn,.string ss,.string tt] hwf rfl (by simp)
  have hbN:Below (V.setCell ⟨B,9,none⟩ (.int .i64 ((k:Int)+1))).heap.size (V.setCell ⟨B,9,none⟩ (.int .i64 ((k:Int)+1))) ((V.setCell ⟨B,9,none⟩ (.int .i64 ((k:Int)+1))).alloc (.cells #[.int .i64 1,.int .i64 nn,.string ss,.string tt] 47)):=(Below.refl _ _).alloc (Nat.le_refl _) _
  rw[setc_size]at hN
  have hsN:=hs2.up hbN
  have hbxN:=hb2.up hbN
  go_wp2
  go_ret
  exact⟨⟨_,_,rfl,rfl,hN,Nat.le_refl _,by unfold maxLen;decide,hi⟩,hsN,hbxN⟩
theorem value_atom2 (hs:AS E w B k)(hv:E.e.drop k=x::m)(hx:exOk x=true)(h4:x.op=2)(hn:x.op=2→Fit x.n):
 Calls Tryz.prog 36 #[.pointer (some ⟨B,0,none⟩)] w (VE E B (E.e.length-m.length) w (.ok [x])):=by
 have hk:k<E.e.length:=by
  have:=congrArg List.length hv
  simp only[List.length_drop,List.length_cons]at this
  omega
 have hxk:E.e[k]=x:=by
  have:=congrArg List.head? hv
  rw[List.head?_drop,List.head?_cons,List.getElem?_eq_getElem hk]at this
  exact Option.some.inj this
 have hm1:E.e.drop (k+1)=m:=by
  have:=congrArg List.tail hv
  rwa [List.tail_drop,List.tail_cons]at this
 have c8:=hs.c8
 have c9:=hs.c9
 obtain⟨bq,oq,hpq,hbq,x0,x1,x2,x3,xw⟩:=(hs.ne ho).at hk
 rw[hxk]at x0 x1 x2 x3 xw
 rw[hpq]at c8
 have i2:(k:Int)<(E.e.length:Int):=by omega
 have i3:(k:Int)≤200:=by have:=ho.len;omega
 have hlt:=hs.lt
 have hB2:¬B=w.heap.size:=by omega
 have hB3:¬w.heap.size=B:=by omega
 have hw9:IntKind.i64.wrap ((k:Int)+1)=(k:Int)+1:=by rw[IntKind.wrap_i64];omega
 have hkm:E.e.length-m.length=k+1:=by rw[←hm1,List.length_drop];omega
 rw[hkm]
 have hi:=atom_is hx (by omega) hn
 have hwf:∀y∈[x],y.wf:=by intro y hy;simp only[List.mem_singleton]at hy;subst hy;exact xw
 obtain⟨op,nn,ss,tt⟩:=x
 dsimp only at *
 subst h4
 have hbV:Below w.heap.size w (w.alloc (.cells #[.int .i64 2,.int .i64 nn,.string ss,.string tt] 47)).drew:=((Below.refl _ _).alloc (Nat.le_refl _) _).drew
 have hsz:w.heap.size<(w.alloc (.cells #[.int .i64 2,.int .i64 nn,.string ss,.string tt] 47)).drew.heap.size:=by show w.heap.size<(w.alloc (.cells #[.int .i64 2,.int .i64 nn,.string ss,.string tt] 47)).heap.size;simp
 have m0:(w.alloc (.cells #[.int .i64 2,.int .i64 nn,.string ss,.string tt] 47)).drew.cell? ⟨w.heap.size,0,none⟩=some (.int .i64 2):=by show(w.alloc (.cells #[.int .i64 2,.int .i64 nn,.string ss,.string tt] 47)).cell? _=_;simp
 have m1:(w.alloc (.cells #[.int .i64 2,.int .i64 nn,.string ss,.string tt] 47)).drew.cell? ⟨w.heap.size,1,none⟩=some (.int .i64 nn):=by show(w.alloc (.cells #[.int .i64 2,.int .i64 nn,.string ss,.string tt] 47)).cell? _=_;simp
 have m2:(w.alloc (.cells #[.int .i64 2,.int .i64 nn,.string ss,.string tt] 47)).drew.cell? ⟨w.heap.size,2,none⟩=some (.string ss):=by show(w.alloc (.cells #[.int .i64 2,.int .i64 nn,.string ss,.string tt] 47)).cell? _=_;simp
 have m3:(w.alloc (.cells #[.int .i64 2,.int .i64 nn,.string ss,.string tt] 47)).drew.cell? ⟨w.heap.size,3,none⟩=some (.string tt):=by show(w.alloc (.cells #[.int .i64 2,.int .i64 nn,.string ss,.string tt] 47)).cell? _=_;simp
 go_enter Tryz.func36,Tryz.ntmps36
 go_wp2
 go_region
 all_goals
  generalize (w.alloc (.cells #[.int .i64 2,.int .i64 nn,.string ss,.string tt] 47)).drew=V at *
  have hsV:=hs.up hbV
  have d9:=hsV.c9
  have f9:=hsV.fz 9
  have hs2:=hsV.setAt (j:=k+1) (by omega)
  have hb2:BX B w (V.setCell ⟨B,9,none⟩ (.int .i64 ((k+1:Nat):Int))):=(BX.of_below hbV).set 9 _
  have e9:((k+1:Nat):Int)=(k:Int)+1:=rfl
  rw[e9]at hs2 hb2
  have n0:(V.setCell ⟨B,9,none⟩ (.int .i64 ((k:Int)+1))).cell? ⟨w.heap.size,0,none⟩=some (.int .i64 2):=(World.cell?_setCell_other _ _ _ _ (fun e=>hB2 (congrArg Addr.block e))).trans m0
  have n1:(V.setCell ⟨B,9,none⟩ (.int .i64 ((k:Int)+1))).cell? ⟨w.heap.size,1,none⟩=some (.int .i64 nn):=(World.cell?_setCell_other _ _ _ _ (fun e=>hB2 (congrArg Addr.block e))).trans m1
  have n2:(V.setCell ⟨B,9,none⟩ (.int .i64 ((k:Int)+1))).cell? ⟨w.heap.size,2,none⟩=some (.string ss):=(World.cell?_setCell_other _ _ _ _ (fun e=>hB2 (congrArg Addr.block e))).trans m2
  have n3:(V.setCell ⟨B,9,none⟩ (.int .i64 ((k:Int)+1))).cell? ⟨w.heap.size,3,none⟩=some (.string tt):=(World.cell?_setCell_other _ _ _ _ (fun e=>hB2 (congrArg Addr.block e))).trans m3
  have hN:=NL.lit (V.setCell ⟨B,9,none⟩ (.int .i64 ((k:Int)+1))) [⟨2,nn,ss,tt⟩] #[.int .i64 2,.int .i64 nn,.string ss,.string tt] hwf rfl (by simp)
  have hbN:Below (V.setCell ⟨B,9,none⟩ (.int .i64 ((k:Int)+1))).heap.size (V.setCell ⟨B,9,none⟩ (.int .i64 ((k:Int)+1))) ((V.setCell ⟨B,9,none⟩ (.int .i64 ((k:Int)+1))).alloc (.cells #[.int .i64 2,.int .i64 nn,.string ss,.string tt] 47)):=(Below.refl _ _).alloc (Nat.le_refl _) _
  rw[setc_size]at hN
  have hsN:=hs2.up hbN
  have hbxN:=hb2.up hbN
  go_wp2
  go_ret
  exact⟨⟨_,_,rfl,rfl,hN,Nat.le_refl _,by unfold maxLen;decide,hi⟩,hsN,hbxN⟩
theorem value_atom3 (hs:AS E w B k)(hv:E.e.drop k=x::m)(hx:exOk x=true)(h4:x.op=3)(hn:x.op=2→Fit x.n):
 Calls Tryz.prog 36 #[.pointer (some ⟨B,0,none⟩)] w (VE E B (E.e.length-m.length) w (.ok [x])):=by
 have hk:k<E.e.length:=by
  have:=congrArg List.length hv
  simp only[List.length_drop,List.length_cons]at this
  omega
 have hxk:E.e[k]=x:=by
  have:=congrArg List.head? hv
  rw[List.head?_drop,List.head?_cons,List.getElem?_eq_getElem hk]at this
  exact Option.some.inj this
 have hm1:E.e.drop (k+1)=m:=by
  have:=congrArg List.tail hv
  rwa [List.tail_drop,List.tail_cons]at this
 have c8:=hs.c8
 have c9:=hs.c9
 obtain⟨bq,oq,hpq,hbq,x0,x1,x2,x3,xw⟩:=(hs.ne ho).at hk
 rw[hxk]at x0 x1 x2 x3 xw
 rw[hpq]at c8
 have i2:(k:Int)<(E.e.length:Int):=by omega
 have i3:(k:Int)≤200:=by have:=ho.len;omega
 have hlt:=hs.lt
 have hB2:¬B=w.heap.size:=by omega
 have hB3:¬w.heap.size=B:=by omega
 have hw9:IntKind.i64.wrap ((k:Int)+1)=(k:Int)+1:=by rw[IntKind.wrap_i64];omega
 have hkm:E.e.length-m.length=k+1:=by rw[←hm1,List.length_drop];omega
 rw[hkm]
 have hi:=atom_is hx (by omega) hn
 have hwf:∀y∈[x],y.wf:=by intro y hy;simp only[List.mem_singleton]at hy;subst hy;exact xw
 obtain⟨op,nn,ss,tt⟩:=x
 dsimp only at *
 subst h4
 have hbV:Below w.heap.size w (w.alloc (.cells #[.int .i64 3,.int .i64 nn,.string ss,.string tt] 47)).drew:=((Below.refl _ _).alloc (Nat.le_refl _) _).drew
 have hsz:w.heap.size<(w.alloc (.cells #[.int .i64 3,.int .i64 nn,.string ss,.string tt] 47)).drew.heap.size:=by show w.heap.size<(w.alloc (.cells #[.int .i64 3,.int .i64 nn,.string ss,.string tt] 47)).heap.size;simp
 have m0:(w.alloc (.cells #[.int .i64 3,.int .i64 nn,.string ss,.string tt] 47)).drew.cell? ⟨w.heap.size,0,none⟩=some (.int .i64 3):=by show(w.alloc (.cells #[.int .i64 3,.int .i64 nn,.string ss,.string tt] 47)).cell? _=_;simp
 have m1:(w.alloc (.cells #[.int .i64 3,.int .i64 nn,.string ss,.string tt] 47)).drew.cell? ⟨w.heap.size,1,none⟩=some (.int .i64 nn):=by show(w.alloc (.cells #[.int .i64 3,.int .i64 nn,.string ss,.string tt] 47)).cell? _=_;simp
 have m2:(w.alloc (.cells #[.int .i64 3,.int .i64 nn,.string ss,.string tt] 47)).drew.cell? ⟨w.heap.size,2,none⟩=some (.string ss):=by show(w.alloc (.cells #[.int .i64 3,.int .i64 nn,.string ss,.string tt] 47)).cell? _=_;simp
 have m3:(w.alloc (.cells #[.int .i64 3,.int .i64 nn,.string ss,.string tt] 47)).drew.cell? ⟨w.heap.size,3,none⟩=some (.string tt):=by show(w.alloc (.cells #[.int .i64 3,.int .i64 nn,.string ss,.string tt] 47)).cell? _=_;simp
 go_enter Tryz.func36,Tryz.ntmps36
 go_wp2
 go_region
 all_goals
  generalize (w.alloc (.cells #[.int .i64 3,.int .i64 nn,.string ss,.string tt] 47)).drew=V at *
  have hsV:=hs.up hbV
  have d9:=hsV.c9
  have f9:=hsV.fz 9
  have hs2:=hsV.setAt (j:=k+1) (by omega)
  have hb2:BX B w (V.setCell ⟨B,9,none⟩ (.int .i64 ((k+1:Nat):Int))):=(BX.of_below hbV).set 9 _
  have e9:((k+1:Nat):Int)=(k:Int)+1:=rfl
  rw[e9]at hs2 hb2
  have n0:(V.setCell ⟨B,9,none⟩ (.int .i64 ((k:Int)+1))).cell? ⟨w.heap.size,0,none⟩=some (.int .i64 3):=(World.cell?_setCell_other _ _ _ _ (fun e=>hB2 (congrArg Addr.block e))).trans m0
  have n1:(V.setCell ⟨B,9,none⟩ (.int .i64 ((k:Int)+1))).cell? ⟨w.heap.size,1,none⟩=some (.int .i64 nn):=(World.cell?_setCell_other _ _ _ _ (fun e=>hB2 (congrArg Addr.block e))).trans m1
  have n2:(V.setCell ⟨B,9,none⟩ (.int .i64 ((k:Int)+1))).cell? ⟨w.heap.size,2,none⟩=some (.string ss):=(World.cell?_setCell_other _ _ _ _ (fun e=>hB2 (congrArg Addr.block e))).trans m2
  have n3:(V.setCell ⟨B,9,none⟩ (.int .i64 ((k:Int)+1))).cell? ⟨w.heap.size,3,none⟩=some (.string tt):=(World.cell?_setCell_other _ _ _ _ (fun e=>hB2 (congrArg Addr.block e))).trans m3
  have hN:=NL.lit (V.setCell ⟨B,9,none⟩ (.int .i64 ((k:Int)+1))) [⟨3,nn,ss,tt⟩] #[.int .i64 3,.int .i64 nn,.string ss,.string tt] hwf rfl (by simp)
  have hbN:Below (V.setCell ⟨B,9,none⟩ (.int .i64 ((k:Int)+1))).heap.size (V.setCell ⟨B,9,none⟩ (.int .i64 ((k:Int)+1))) ((V.setCell ⟨B,9,none⟩ (.int .i64 ((k:Int)+1))).alloc (.cells #[.int .i64 3,.int .i64 nn,.string ss,.string tt] 47)):=(Below.refl _ _).alloc (Nat.le_refl _) _
  rw[setc_size]at hN
  have hsN:=hs2.up hbN
  have hbxN:=hb2.up hbN
  go_wp2
  go_ret
  exact⟨⟨_,_,rfl,rfl,hN,Nat.le_refl _,by unfold maxLen;decide,hi⟩,hsN,hbxN⟩
theorem value_atom4 (hs:AS E w B k)(hv:E.e.drop k=x::m)(hx:exOk x=true)(h4:x.op=4)(hn:x.op=2→Fit x.n):
 Calls Tryz.prog 36 #[.pointer (some ⟨B,0,none⟩)] w (VE E B (E.e.length-m.length) w (.ok [x])):=by
 have hk:k<E.e.length:=by
  have:=congrArg List.length hv
  simp only[List.length_drop,List.length_cons]at this
  omega
 have hxk:E.e[k]=x:=by
  have:=congrArg List.head? hv
  rw[List.head?_drop,List.head?_cons,List.getElem?_eq_getElem hk]at this
  exact Option.some.inj this
 have hm1:E.e.drop (k+1)=m:=by
  have:=congrArg List.tail hv
  rwa [List.tail_drop,List.tail_cons]at this
 have c8:=hs.c8
 have c9:=hs.c9
 obtain⟨bq,oq,hpq,hbq,x0,x1,x2,x3,xw⟩:=(hs.ne ho).at hk
 rw[hxk]at x0 x1 x2 x3 xw
 rw[hpq]at c8
 have i2:(k:Int)<(E.e.length:Int):=by omega
 have i3:(k:Int)≤200:=by have:=ho.len;omega
 have hlt:=hs.lt
 have hB2:¬B=w.heap.size:=by omega
 have hB3:¬w.heap.size=B:=by omega
 have hw9:IntKind.i64.wrap ((k:Int)+1)=(k:Int)+1:=by rw[IntKind.wrap_i64];omega
 have hkm:E.e.length-m.length=k+1:=by rw[←hm1,List.length_drop];omega
 rw[hkm]
 have hi:=atom_is hx (by omega) hn
 have hwf:∀y∈[x],y.wf:=by intro y hy;simp only[List.mem_singleton]at hy;subst hy;exact xw
 obtain⟨op,nn,ss,tt⟩:=x
 dsimp only at *
 subst h4
 have hbV:Below w.heap.size w (w.alloc (.cells #[.int .i64 4,.int .i64 nn,.string ss,.string tt] 47)).drew:=((Below.refl _ _).alloc (Nat.le_refl _) _).drew
 have hsz:w.heap.size<(w.alloc (.cells #[.int .i64 4,.int .i64 nn,.string ss,.string tt] 47)).drew.heap.size:=by show w.heap.size<(w.alloc (.cells #[.int .i64 4,.int .i64 nn,.string ss,.string tt] 47)).heap.size;simp
 have m0:(w.alloc (.cells #[.int .i64 4,.int .i64 nn,.string ss,.string tt] 47)).drew.cell? ⟨w.heap.size,0,none⟩=some (.int .i64 4):=by show(w.alloc (.cells #[.int .i64 4,.int .i64 nn,.string ss,.string tt] 47)).cell? _=_;simp
 have m1:(w.alloc (.cells #[.int .i64 4,.int .i64 nn,.string ss,.string tt] 47)).drew.cell? ⟨w.heap.size,1,none⟩=some (.int .i64 nn):=by show(w.alloc (.cells #[.int .i64 4,.int .i64 nn,.string ss,.string tt] 47)).cell? _=_;simp
 have m2:(w.alloc (.cells #[.int .i64 4,.int .i64 nn,.string ss,.string tt] 47)).drew.cell? ⟨w.heap.size,2,none⟩=some (.string ss):=by show(w.alloc (.cells #[.int .i64 4,.int .i64 nn,.string ss,.string tt] 47)).cell? _=_;simp
 have m3:(w.alloc (.cells #[.int .i64 4,.int .i64 nn,.string ss,.string tt] 47)).drew.cell? ⟨w.heap.size,3,none⟩=some (.string tt):=by show(w.alloc (.cells #[.int .i64 4,.int .i64 nn,.string ss,.string tt] 47)).cell? _=_;simp
 go_enter Tryz.func36,Tryz.ntmps36
 go_wp2
 go_region
 all_goals
  generalize (w.alloc (.cells #[.int .i64 4,.int .i64 nn,.string ss,.string tt] 47)).drew=V at *
  have hsV:=hs.up hbV
  have d9:=hsV.c9
  have f9:=hsV.fz 9
  have hs2:=hsV.setAt (j:=k+1) (by omega)
  have hb2:BX B w (V.setCell ⟨B,9,none⟩ (.int .i64 ((k+1:Nat):Int))):=(BX.of_below hbV).set 9 _
  have e9:((k+1:Nat):Int)=(k:Int)+1:=rfl
  rw[e9]at hs2 hb2
  have n0:(V.setCell ⟨B,9,none⟩ (.int .i64 ((k:Int)+1))).cell? ⟨w.heap.size,0,none⟩=some (.int .i64 4):=(World.cell?_setCell_other _ _ _ _ (fun e=>hB2 (congrArg Addr.block e))).trans m0
  have n1:(V.setCell ⟨B,9,none⟩ (.int .i64 ((k:Int)+1))).cell? ⟨w.heap.size,1,none⟩=some (.int .i64 nn):=(World.cell?_setCell_other _ _ _ _ (fun e=>hB2 (congrArg Addr.block e))).trans m1
  have n2:(V.setCell ⟨B,9,none⟩ (.int .i64 ((k:Int)+1))).cell? ⟨w.heap.size,2,none⟩=some (.string ss):=(World.cell?_setCell_other _ _ _ _ (fun e=>hB2 (congrArg Addr.block e))).trans m2
  have n3:(V.setCell ⟨B,9,none⟩ (.int .i64 ((k:Int)+1))).cell? ⟨w.heap.size,3,none⟩=some (.string tt):=(World.cell?_setCell_other _ _ _ _ (fun e=>hB2 (congrArg Addr.block e))).trans m3
  have hN:=NL.lit (V.setCell ⟨B,9,none⟩ (.int .i64 ((k:Int)+1))) [⟨4,nn,ss,tt⟩] #[.int .i64 4,.int .i64 nn,.string ss,.string tt] hwf rfl (by simp)
  have hbN:Below (V.setCell ⟨B,9,none⟩ (.int .i64 ((k:Int)+1))).heap.size (V.setCell ⟨B,9,none⟩ (.int .i64 ((k:Int)+1))) ((V.setCell ⟨B,9,none⟩ (.int .i64 ((k:Int)+1))).alloc (.cells #[.int .i64 4,.int .i64 nn,.string ss,.string tt] 47)):=(Below.refl _ _).alloc (Nat.le_refl _) _
  rw[setc_size]at hN
  have hsN:=hs2.up hbN
  have hbxN:=hb2.up hbN
  go_wp2
  go_ret
  exact⟨⟨_,_,rfl,rfl,hN,Nat.le_refl _,by unfold maxLen;decide,hi⟩,hsN,hbxN⟩
end
section
variable {E:EvEnv} {B f:Nat} (ho:E.Ok) (hf:f≤E.e.length+1) (hV:ValOk E B f) (w:World) (k:Nat) (x:Nd) (m r s t:List Nd)
include ho hf hV
theorem value_one (hs:AS E w B k)(hv:E.e.drop k=x::m)(hx:exOk x=true)(h9:x.op=9∨x.op=10∨21≤x.op∧x.op≤24)(p1:pastE f m=some r):
 Calls Tryz.prog 36 #[.pointer (some ⟨B,0,none⟩)] w (VE E B (E.e.length-r.length) w (bindE (evE E.es E.q f m) (oneE E.es x))):=by
 have hk:k<E.e.length:=by
  have:=congrArg List.length hv
  simp only[List.length_drop,List.length_cons]at this
  omega
 have hxk:E.e[k]=x:=by
  have:=congrArg List.head? hv
  rw[List.head?_drop,List.head?_cons,List.getElem?_eq_getElem hk]at this
  exact Option.some.inj this
 have hm1:E.e.drop (k+1)=m:=by
  have:=congrArg List.tail hv
  rwa [List.tail_drop,List.tail_cons]at this
 have c8:=hs.c8
 have c9:=hs.c9
 obtain⟨bq,oq,hpq,hbq,x0,x1,x2,x3,xw⟩:=(hs.ne ho).at hk
 rw[hxk]at x0 x1 x2 x3 xw
 rw[hpq]at c8
 have i2:(k:Int)<(E.e.length:Int):=by omega
 have i3:(k:Int)≤200:=by have:=ho.len;omega
 have hlt:=hs.lt
 have hB2:¬B=w.heap.size:=by omega
 have hB3:¬w.heap.size=B:=by omega
 have hw9:IntKind.i64.wrap ((k:Int)+1)=(k:Int)+1:=by rw[IntKind.wrap_i64];omega
 have HO:=fun w1 q1 c1 v (h1:AS E w1 B (E.e.length-r.length)) (hv1:VArg w1 v v.length q1 c1)=>ofOne_any w1 B _ v v.length q1 c1 x (by omega) hx ho h1 hv1
 have H1:=fun w1 (h1:AS E w1 B (k+1))=>val_at hV w1 (k+1) m r _ _ h1 hm1 p1 rfl rfl
 unfold nodeV at HO
 obtain⟨op,nn,ss,tt⟩:=x
 dsimp only at *
 have o1:(op == 1)=false:=by rw[beq_eq_false_iff_ne];omega
 have o2:(op == 2)=false:=by rw[beq_eq_false_iff_ne];omega
 have o3:(op == 3)=false:=by rw[beq_eq_false_iff_ne];omega
 have o4:(op == 4)=false:=by rw[beq_eq_false_iff_ne];omega
 have o5:(op == 5)=false:=by rw[beq_eq_false_iff_ne];omega
 have o6:(op == 6)=false:=by rw[beq_eq_false_iff_ne];omega
 have o8:(op == 8)=false:=by rw[beq_eq_false_iff_ne];omega
 have o11:(op == 11)=false:=by rw[beq_eq_false_iff_ne];omega
 have o12:(op == 12)=false:=by rw[beq_eq_false_iff_ne];omega
 have o13:(op == 13)=false:=by rw[beq_eq_false_iff_ne];omega
 have H9:Hid (op=9∨op=10∨21≤op∧op≤24):=h9
 clear h9
 cases hA:evE E.es E.q f m with
 | error n=>
   rw[hA]at H1
   have HE:Hid (bindE (.error n) (oneE E.es ⟨op,nn,ss,tt⟩)= .error n):=rfl
   rw[HE.out]
   clear HO HE
   have hbV:Below w.heap.size w (w.alloc (.cells #[.int .i64 op,.int .i64 nn,.string ss,.string tt] 47)).drew:=((Below.refl _ _).alloc (Nat.le_refl _) _).drew
   have hsz:w.heap.size<(w.alloc (.cells #[.int .i64 op,.int .i64 nn,.string ss,.string tt] 47)).drew.heap.size:=by show w.heap.size<(w.alloc (.cells #[.int .i64 op,.int .i64 nn,.string ss,.string tt] 47)).heap.size;simp
   have m0:(w.alloc (.cells #[.int .i64 op,.int .i64 nn,.string ss,.string tt] 47)).drew.cell? ⟨w.heap.size,0,none⟩=some (.int .i64 op):=by show(w.alloc (.cells #[.int .i64 op,.int .i64 nn,.string ss,.string tt] 47)).cell? _=_;simp
   have m1:(w.alloc (.cells #[.int .i64 op,.int .i64 nn,.string ss,.string tt] 47)).drew.cell? ⟨w.heap.size,1,none⟩=some (.int .i64 nn):=by show(w.alloc (.cells #[.int .i64 op,.int .i64 nn,.string ss,.string tt] 47)).cell? _=_;simp
   have m2:(w.alloc (.cells #[.int .i64 op,.int .i64 nn,.string ss,.string tt] 47)).drew.cell? ⟨w.heap.size,2,none⟩=some (.string ss):=by show(w.alloc (.cells #[.int .i64 op,.int .i64 nn,.string ss,.string tt] 47)).cell? _=_;simp
   have m3:(w.alloc (.cells #[.int .i64 op,.int .i64 nn,.string ss,.string tt] 47)).drew.cell? ⟨w.heap.size,3,none⟩=some (.string tt):=by show(w.alloc (.cells #[.int .i64 op,.int .i64 nn,.string ss,.string tt] 47)).cell? _=_;simp
   go_enter Tryz.func36,Tryz.ntmps36
   go_wp2
   go_region
   all_goals
    generalize (w.alloc (.cells #[.int .i64 op,.int .i64 nn,.string ss,.string tt] 47)).drew=V at *
    have hsV:=hs.up hbV
    have d9:=hsV.c9
    have f9:=hsV.fz 9
    have hs2:=hsV.setAt (j:=k+1) (by omega)
    have hb2:BX B w (V.setCell ⟨B,9,none⟩ (.int .i64 ((k+1:Nat):Int))):=(BX.of_below hbV).set 9 _
    have e9:((k+1:Nat):Int)=(k:Int)+1:=rfl
    rw[e9]at hs2 hb2
    have n0:(V.setCell ⟨B,9,none⟩ (.int .i64 ((k:Int)+1))).cell? ⟨w.heap.size,0,none⟩=some (.int .i64 op):=(World.cell?_setCell_other _ _ _ _ (fun e=>hB2 (congrArg Addr.block e))).trans m0
    have n1:(V.setCell ⟨B,9,none⟩ (.int .i64 ((k:Int)+1))).cell? ⟨w.heap.size,1,none⟩=some (.int .i64 nn):=(World.cell?_setCell_other _ _ _ _ (fun e=>hB2 (congrArg Addr.block e))).trans m1
    have n2:(V.setCell ⟨B,9,none⟩ (.int .i64 ((k:Int)+1))).cell? ⟨w.heap.size,2,none⟩=some (.string ss):=(World.cell?_setCell_other _ _ _ _ (fun e=>hB2 (congrArg Addr.block e))).trans m2
    have n3:(V.setCell ⟨B,9,none⟩ (.int .i64 ((k:Int)+1))).cell? ⟨w.heap.size,3,none⟩=some (.string tt):=(World.cell?_setCell_other _ _ _ _ (fun e=>hB2 (congrArg Addr.block e))).trans m3
    have hszU:w.heap.size<(V.setCell ⟨B,9,none⟩ (.int .i64 ((k:Int)+1))).heap.size:=by rw[setc_size];exact hsz
    go_wp2_with fail
    any_goals (exfalso;have h0:=H9.out;clear H9;simp only[beq_eq_false_iff_ne,beq_iff_eq]at *; omega)
    all_goals
     generalize V.setCell ⟨B,9,none⟩ (.int .i64 ((k:Int)+1))=U at *
     have hbdU:Below U.heap.size U U.drew:=(Below.refl _ _).drew
     have hsU:=hs2.up hbdU
     have hbU:=hb2.up hbdU
     refine wp_mono (Q:=fun e a w'=>e= .panic (thrownE n)∧a.defers=[]∧BX B w w') ?_ ?_
     rotate_left
     · rintro _ a w5 ⟨rfl,hd,hb5⟩
       go_wp2
       exact⟨hd,rfl,hb5⟩
     refine wp_region_any (by kernel_rfl) ?_
     refine wpAny_take (i:=0) (v:=?_) rfl (by kernel_rfl) (by kernel_rfl) (by kernel_rfl) (fun _ _ _ h=>h) (Or.inl ⟨by rfl,?_⟩) ?_
     rotate_left
     · intro w;go_simp;with_reducible rfl
     refine wpAny_take (i:=2) (v:=?_) rfl (by kernel_rfl) (by kernel_rfl) (by kernel_rfl) (fun _ _ _ h=>h) (Or.inl ⟨by rfl,?_⟩) ?_
     rotate_left
     · intro w;go_simp;with_reducible rfl
     refine wpAny_ready (rs:=[1,3]) (by kernel_rfl) (by simp) ?_
     refine AllReady.cons rfl (fun K hK=>?_) ?_
     · have y0:U.drew.cell? ⟨w.heap.size,0,none⟩=some (.int .i64 op):=n0
       have y1:U.drew.cell? ⟨w.heap.size,1,none⟩=some (.int .i64 nn):=n1
       have y2:U.drew.cell? ⟨w.heap.size,2,none⟩=some (.string ss):=n2
       have y3:U.drew.cell? ⟨w.heap.size,3,none⟩=some (.string tt):=n3
       go_simp
       refine hK _ _ ?_
       clear hK K y0 y1 y2 y3
       refine wpAny_ready (rs:=[3]) (by kernel_rfl) (by simp) ?_
       refine AllReady.cons rfl (fun K hK=>?_) AllReady.nil
       go_simp
       refine(H1 U.drew hsU).mono ?_
       rintro en w3 ⟨rfl,hb3⟩
       exact⟨rfl,hbU.trans hb3⟩
     refine AllReady.cons rfl (fun K hK=>?_) AllReady.nil
     go_simp
     refine(H1 U.drew hsU).mono ?_
     rintro en w3 ⟨rfl,hb3⟩
     exact⟨rfl,hbU.trans hb3⟩
 | ok v=>
   rw[hA]at H1
   have HO:=fun w1 q1 c1 h1 hv1=>HO w1 q1 c1 v h1 hv1
   have HE:Hid (bindE (.ok v) (oneE E.es ⟨op,nn,ss,tt⟩)=oneE E.es ⟨op,nn,ss,tt⟩ v):=rfl
   rw[HE.out]
   clear HE
   generalize oneE E.es ⟨op,nn,ss,tt⟩ v=R at *
   cases R with
   | error n=>
     have hbV:Below w.heap.size w (w.alloc (.cells #[.int .i64 op,.int .i64 nn,.string ss,.string tt] 47)).drew:=((Below.refl _ _).alloc (Nat.le_refl _) _).drew
     have hsz:w.heap.size<(w.alloc (.cells #[.int .i64 op,.int .i64 nn,.string ss,.string tt] 47)).drew.heap.size:=by show w.heap.size<(w.alloc (.cells #[.int .i64 op,.int .i64 nn,.string ss,.string tt] 47)).heap.size;simp
     have m0:(w.alloc (.cells #[.int .i64 op,.int .i64 nn,.string ss,.string tt] 47)).drew.cell? ⟨w.heap.size,0,none⟩=some (.int .i64 op):=by show(w.alloc (.cells #[.int .i64 op,.int .i64 nn,.string ss,.string tt] 47)).cell? _=_;simp
     have m1:(w.alloc (.cells #[.int .i64 op,.int .i64 nn,.string ss,.string tt] 47)).drew.cell? ⟨w.heap.size,1,none⟩=some (.int .i64 nn):=by show(w.alloc (.cells #[.int .i64 op,.int .i64 nn,.string ss,.string tt] 47)).cell? _=_;simp
     have m2:(w.alloc (.cells #[.int .i64 op,.int .i64 nn,.string ss,.string tt] 47)).drew.cell? ⟨w.heap.size,2,none⟩=some (.string ss):=by show(w.alloc (.cells #[.int .i64 op,.int .i64 nn,.string ss,.string tt] 47)).cell? _=_;simp
     have m3:(w.alloc (.cells #[.int .i64 op,.int .i64 nn,.string ss,.string tt] 47)).drew.cell? ⟨w.heap.size,3,none⟩=some (.string tt):=by show(w.alloc (.cells #[.int .i64 op,.int .i64 nn,.string ss,.string tt] 47)).cell? _=_;simp
     go_enter Tryz.func36,Tryz.ntmps36
     go_wp2
     go_region
     all_goals
      generalize (w.alloc (.cells #[.int .i64 op,.int .i64 nn,.string ss,.string tt] 47)).drew=V at *
      have hsV:=hs.up hbV
      have d9:=hsV.c9
      have f9:=hsV.fz 9
      have hs2:=hsV.setAt (j:=k+1) (by omega)
      have hb2:BX B w (V.setCell ⟨B,9,none⟩ (.int .i64 ((k+1:Nat):Int))):=(BX.of_below hbV).set 9 _
      have e9:((k+1:Nat):Int)=(k:Int)+1:=rfl
      rw[e9]at hs2 hb2
      have n0:(V.setCell ⟨B,9,none⟩ (.int .i64 ((k:Int)+1))).cell? ⟨w.heap.size,0,none⟩=some (.int .i64 op):=(World.cell?_setCell_other _ _ _ _ (fun e=>hB2 (congrArg Addr.block e))).trans m0
      have n1:(V.setCell ⟨B,9,none⟩ (.int .i64 ((k:Int)+1))).cell? ⟨w.heap.size,1,none⟩=some (.int .i64 nn):=(World.cell?_setCell_other _ _ _ _ (fun e=>hB2 (congrArg Addr.block e))).trans m1
      have n2:(V.setCell ⟨B,9,none⟩ (.int .i64 ((k:Int)+1))).cell? ⟨w.heap.size,2,none⟩=some (.string ss):=(World.cell?_setCell_other _ _ _ _ (fun e=>hB2 (congrArg Addr.block e))).trans m2
      have n3:(V.setCell ⟨B,9,none⟩ (.int .i64 ((k:Int)+1))).cell? ⟨w.heap.size,3,none⟩=some (.string tt):=(World.cell?_setCell_other _ _ _ _ (fun e=>hB2 (congrArg Addr.block e))).trans m3
      have hszU:w.heap.size<(V.setCell ⟨B,9,none⟩ (.int .i64 ((k:Int)+1))).heap.size:=by rw[setc_size];exact hsz
      go_wp2_with fail
      any_goals (exfalso;have h0:=H9.out;clear H9;simp only[beq_eq_false_iff_ne,beq_iff_eq]at *; omega)
      all_goals
       generalize V.setCell ⟨B,9,none⟩ (.int .i64 ((k:Int)+1))=U at *
       have hbdU:Below U.heap.size U U.drew:=(Below.refl _ _).drew
       have hsU:=hs2.up hbdU
       have hbU:=hb2.up hbdU
       refine wp_mono (Q:=fun e a w'=>e= .panic (thrownE n)∧a.defers=[]∧BX B w w') ?_ ?_
       rotate_left
       · rintro _ a w5 ⟨rfl,hd,hb5⟩
         go_wp2
         exact⟨hd,rfl,hb5⟩
       refine wp_region_any (by kernel_rfl) ?_
       refine wpAny_take (i:=0) (v:=?_) rfl (by kernel_rfl) (by kernel_rfl) (by kernel_rfl) (fun _ _ _ h=>h) (Or.inl ⟨by rfl,?_⟩) ?_
       rotate_left
       · intro w;go_simp;with_reducible rfl
       refine wpAny_take (i:=2) (v:=?_) rfl (by kernel_rfl) (by kernel_rfl) (by kernel_rfl) (fun _ _ _ h=>h) (Or.inl ⟨by rfl,?_⟩) ?_
       rotate_left
       · intro w;go_simp;with_reducible rfl
       refine wpAny_ready (rs:=[1,3]) (by kernel_rfl) (by simp) ?_
       refine AllReady.cons rfl (fun K hK=>?_) ?_
       · have y0:U.drew.cell? ⟨w.heap.size,0,none⟩=some (.int .i64 op):=n0
         have y1:U.drew.cell? ⟨w.heap.size,1,none⟩=some (.int .i64 nn):=n1
         have y2:U.drew.cell? ⟨w.heap.size,2,none⟩=some (.string ss):=n2
         have y3:U.drew.cell? ⟨w.heap.size,3,none⟩=some (.string tt):=n3
         go_simp
         refine hK _ _ ?_
         clear hK K y0 y1 y2 y3
         refine wpAny_ready (rs:=[3]) (by kernel_rfl) (by simp) ?_
         refine AllReady.cons rfl (fun K hK=>?_) AllReady.nil
         go_simp
         refine(H1 U.drew hsU).mono ?_
         rintro en w3 ⟨⟨q3,c3,rfl,hv3⟩,hs3,hb3⟩
         refine hK _ _ ?_
         clear hK K
         refine wpAny_ready (rs:=[4]) (by kernel_rfl) (by simp) ?_
         refine AllReady.cons rfl (fun K hK=>?_) AllReady.nil
         go_simp
         refine(HO w3 q3 c3 hs3 hv3).mono ?_
         rintro en w4 ⟨h4,hb4⟩
         have h4':en= .panicked (thrownE n):=h4
         subst h4'
         exact⟨rfl,(hbU.trans hb3).up hb4⟩
       refine AllReady.cons rfl (fun K hK=>?_) AllReady.nil
       go_simp
       refine(H1 U.drew hsU).mono ?_
       rintro en w3 ⟨⟨q3,c3,rfl,hv3⟩,hs3,hb3⟩
       refine hK _ _ ?_
       clear hK K
       refine wpAny_ready (rs:=[1]) (by kernel_rfl) (by simp) ?_
       refine AllReady.cons rfl (fun K hK=>?_) AllReady.nil
       have y0:w3.cell? ⟨w.heap.size,0,none⟩=some (.int .i64 op):=(hb3.cell (p:=⟨w.heap.size,0,none⟩) hszU hB3).trans n0
       have y1:w3.cell? ⟨w.heap.size,1,none⟩=some (.int .i64 nn):=(hb3.cell (p:=⟨w.heap.size,1,none⟩) hszU hB3).trans n1
       have y2:w3.cell? ⟨w.heap.size,2,none⟩=some (.string ss):=(hb3.cell (p:=⟨w.heap.size,2,none⟩) hszU hB3).trans n2
       have y3:w3.cell? ⟨w.heap.size,3,none⟩=some (.string tt):=(hb3.cell (p:=⟨w.heap.size,3,none⟩) hszU hB3).trans n3
       go_simp
       refine hK _ _ ?_
       clear hK K y0 y1 y2 y3
       refine wpAny_ready (rs:=[4]) (by kernel_rfl) (by simp) ?_
       refine AllReady.cons rfl (fun K hK=>?_) AllReady.nil
       go_simp
       refine(HO w3 q3 c3 hs3 hv3).mono ?_
       rintro en w4 ⟨h4,hb4⟩
       have h4':en= .panicked (thrownE n):=h4
       subst h4'
       exact⟨rfl,(hbU.trans hb3).up hb4⟩
   | ok u=>
     have hbV:Below w.heap.size w (w.alloc (.cells #[.int .i64 op,.int .i64 nn,.string ss,.string tt] 47)).drew:=((Below.refl _ _).alloc (Nat.le_refl _) _).drew
     have hsz:w.heap.size<(w.alloc (.cells #[.int .i64 op,.int .i64 nn,.string ss,.string tt] 47)).drew.heap.size:=by show w.heap.size<(w.alloc (.cells #[.int .i64 op,.int .i64 nn,.string ss,.string tt] 47)).heap.size;simp
     have m0:(w.alloc (.cells #[.int .i64 op,.int .i64 nn,.string ss,.string tt] 47)).drew.cell? ⟨w.heap.size,0,none⟩=some (.int .i64 op):=by show(w.alloc (.cells #[.int .i64 op,.int .i64 nn,.string ss,.string tt] 47)).cell? _=_;simp
     have m1:(w.alloc (.cells #[.int .i64 op,.int .i64 nn,.string ss,.string tt] 47)).drew.cell? ⟨w.heap.size,1,none⟩=some (.int .i64 nn):=by show(w.alloc (.cells #[.int .i64 op,.int .i64 nn,.string ss,.string tt] 47)).cell? _=_;simp
     have m2:(w.alloc (.cells #[.int .i64 op,.int .i64 nn,.string ss,.string tt] 47)).drew.cell? ⟨w.heap.size,2,none⟩=some (.string ss):=by show(w.alloc (.cells #[.int .i64 op,.int .i64 nn,.string ss,.string tt] 47)).cell? _=_;simp
     have m3:(w.alloc (.cells #[.int .i64 op,.int .i64 nn,.string ss,.string tt] 47)).drew.cell? ⟨w.heap.size,3,none⟩=some (.string tt):=by show(w.alloc (.cells #[.int .i64 op,.int .i64 nn,.string ss,.string tt] 47)).cell? _=_;simp
     go_enter Tryz.func36,Tryz.ntmps36
     go_wp2
     go_region
     all_goals
      generalize (w.alloc (.cells #[.int .i64 op,.int .i64 nn,.string ss,.string tt] 47)).drew=V at *
      have hsV:=hs.up hbV
      have d9:=hsV.c9
      have f9:=hsV.fz 9
      have hs2:=hsV.setAt (j:=k+1) (by omega)
      have hb2:BX B w (V.setCell ⟨B,9,none⟩ (.int .i64 ((k+1:Nat):Int))):=(BX.of_below hbV).set 9 _
      have e9:((k+1:Nat):Int)=(k:Int)+1:=rfl
      rw[e9]at hs2 hb2
      have n0:(V.setCell ⟨B,9,none⟩ (.int .i64 ((k:Int)+1))).cell? ⟨w.heap.size,0,none⟩=some (.int .i64 op):=(World.cell?_setCell_other _ _ _ _ (fun e=>hB2 (congrArg Addr.block e))).trans m0
      have n1:(V.setCell ⟨B,9,none⟩ (.int .i64 ((k:Int)+1))).cell? ⟨w.heap.size,1,none⟩=some (.int .i64 nn):=(World.cell?_setCell_other _ _ _ _ (fun e=>hB2 (congrArg Addr.block e))).trans m1
      have n2:(V.setCell ⟨B,9,none⟩ (.int .i64 ((k:Int)+1))).cell? ⟨w.heap.size,2,none⟩=some (.string ss):=(World.cell?_setCell_other _ _ _ _ (fun e=>hB2 (congrArg Addr.block e))).trans m2
      have n3:(V.setCell ⟨B,9,none⟩ (.int .i64 ((k:Int)+1))).cell? ⟨w.heap.size,3,none⟩=some (.string tt):=(World.cell?_setCell_other _ _ _ _ (fun e=>hB2 (congrArg Addr.block e))).trans m3
      have hszU:w.heap.size<(V.setCell ⟨B,9,none⟩ (.int .i64 ((k:Int)+1))).heap.size:=by rw[setc_size];exact hsz
      go_wp2_with fail
      any_goals (exfalso;have h0:=H9.out;clear H9;simp only[beq_eq_false_iff_ne,beq_iff_eq]at *; omega)
      all_goals
       generalize V.setCell ⟨B,9,none⟩ (.int .i64 ((k:Int)+1))=U at *
       have hbdU:Below U.heap.size U U.drew:=(Below.refl _ _).drew
       have hsU:=hs2.up hbdU
       have hbU:=hb2.up hbdU
       refine wp_mono (Q:=fun e a w'=>e= .normal∧a.defers=[]∧(∃q c,a.tmps[2]? =some (.slice q u.length c)∧VArg w' u u.length q c)∧AS E w' B (E.e.length-r.length)∧BX B w w') ?_ ?_
       rotate_left
       · rintro _ a w5 ⟨rfl,hd,⟨q5,c5,ht,hv5⟩,hs5,hb5⟩
         go_wp2
         exact bodyPost_ret (v:=.slice q5 u.length c5) (by simp[results,Tryz.results36,go_sem,ht]) hd ⟨⟨q5,c5,rfl,hv5⟩,hs5,hb5⟩
       refine wp_region_any (by kernel_rfl) ?_
       refine wpAny_take (i:=0) (v:=?_) rfl (by kernel_rfl) (by kernel_rfl) (by kernel_rfl) (fun _ _ _ h=>by cases h.1) (Or.inl ⟨by rfl,?_⟩) ?_
       rotate_left
       · intro w;go_simp;with_reducible rfl
       refine wpAny_take (i:=2) (v:=?_) rfl (by kernel_rfl) (by kernel_rfl) (by kernel_rfl) (fun _ _ _ h=>by cases h.1) (Or.inl ⟨by rfl,?_⟩) ?_
       rotate_left
       · intro w;go_simp;with_reducible rfl
       refine wpAny_ready (rs:=[1,3]) (by kernel_rfl) (by simp) ?_
       refine AllReady.cons rfl (fun K hK=>?_) ?_
       · have y0:U.drew.cell? ⟨w.heap.size,0,none⟩=some (.int .i64 op):=n0
         have y1:U.drew.cell? ⟨w.heap.size,1,none⟩=some (.int .i64 nn):=n1
         have y2:U.drew.cell? ⟨w.heap.size,2,none⟩=some (.string ss):=n2
         have y3:U.drew.cell? ⟨w.heap.size,3,none⟩=some (.string tt):=n3
         go_simp
         refine hK _ _ ?_
         clear hK K y0 y1 y2 y3
         refine wpAny_ready (rs:=[3]) (by kernel_rfl) (by simp) ?_
         refine AllReady.cons rfl (fun K hK=>?_) AllReady.nil
         go_simp
         refine(H1 U.drew hsU).mono ?_
         rintro en w3 ⟨⟨q3,c3,rfl,hv3⟩,hs3,hb3⟩
         refine hK _ _ ?_
         clear hK K
         refine wpAny_ready (rs:=[4]) (by kernel_rfl) (by simp) ?_
         refine AllReady.cons rfl (fun K hK=>?_) AllReady.nil
         go_simp
         refine(HO w3 q3 c3 hs3 hv3).mono ?_
         rintro en w4 ⟨⟨q4,c4,rfl,hv4⟩,hb4⟩
         refine hK _ _ ?_
         clear hK K
         refine wpAny_take (i:=5) (v:=?_) rfl (by kernel_rfl) (by kernel_rfl) (by kernel_rfl) (fun _ _ _ h=>by cases h.1) (Or.inl ⟨by rfl,?_⟩) ?_
         rotate_left
         · intro w;go_simp;with_reducible rfl
         refine wpAny_done (by kernel_rfl) ?_ _
         exact⟨rfl,rfl,⟨q4,c4,rfl,hv4⟩,hs3.up hb4,(hbU.trans hb3).up hb4⟩
       refine AllReady.cons rfl (fun K hK=>?_) AllReady.nil
       go_simp
       refine(H1 U.drew hsU).mono ?_
       rintro en w3 ⟨⟨q3,c3,rfl,hv3⟩,hs3,hb3⟩
       refine hK _ _ ?_
       clear hK K
       refine wpAny_ready (rs:=[1]) (by kernel_rfl) (by simp) ?_
       refine AllReady.cons rfl (fun K hK=>?_) AllReady.nil
       have y0:w3.cell? ⟨w.heap.size,0,none⟩=some (.int .i64 op):=(hb3.cell (p:=⟨w.heap.size,0,none⟩) hszU hB3).trans n0
       have y1:w3.cell? ⟨w.heap.size,1,none⟩=some (.int .i64 nn):=(hb3.cell (p:=⟨w.heap.size,1,none⟩) hszU hB3).trans n1
       have y2:w3.cell? ⟨w.heap.size,2,none⟩=some (.string ss):=(hb3.cell (p:=⟨w.heap.size,2,none⟩) hszU hB3).trans n2
       have y3:w3.cell? ⟨w.heap.size,3,none⟩=some (.string tt):=(hb3.cell (p:=⟨w.heap.size,3,none⟩) hszU hB3).trans n3
       go_simp
       refine hK _ _ ?_
       clear hK K y0 y1 y2 y3
       refine wpAny_ready (rs:=[4]) (by kernel_rfl) (by simp) ?_
       refine AllReady.cons rfl (fun K hK=>?_) AllReady.nil
       go_simp
       refine(HO w3 q3 c3 hs3 hv3).mono ?_
       rintro en w4 ⟨⟨q4,c4,rfl,hv4⟩,hb4⟩
       refine hK _ _ ?_
       clear hK K
       refine wpAny_take (i:=5) (v:=?_) rfl (by kernel_rfl) (by kernel_rfl) (by kernel_rfl) (fun _ _ _ h=>by cases h.1) (Or.inl ⟨by rfl,?_⟩) ?_
       rotate_left
       · intro w;go_simp;with_reducible rfl
       refine wpAny_done (by kernel_rfl) ?_ _
       exact⟨rfl,rfl,⟨q4,c4,rfl,hv4⟩,hs3.up hb4,(hbU.trans hb3).up hb4⟩
end
section
variable {E:EvEnv} {B f:Nat} (ho:E.Ok) (hf:f≤E.e.length+1) (hV:ValOk E B f) (w:World) (k:Nat) (x:Nd) (m r s t:List Nd)
include ho hf hV
theorem value_two (hs:AS E w B k)(hv:E.e.drop k=x::m)(hx:exOk x=true)(h9:14≤x.op∧x.op≤20∨25≤x.op∧x.op≤27)(p1:pastE f m=some s)(p2:pastE f s=some r):
 Calls Tryz.prog 36 #[.pointer (some ⟨B,0,none⟩)] w (VE E B (E.e.length-r.length) w (bindE (evE E.es E.q f m) fun a=>bindE (evE E.es E.q f s) fun b=>twoE E.es x.op a b)):=by
 have hk:k<E.e.length:=by
  have:=congrArg List.length hv
  simp only[List.length_drop,List.length_cons]at this
  omega
 have hxk:E.e[k]=x:=by
  have:=congrArg List.head? hv
  rw[List.head?_drop,List.head?_cons,List.getElem?_eq_getElem hk]at this
  exact Option.some.inj this
 have hm1:E.e.drop (k+1)=m:=by
  have:=congrArg List.tail hv
  rwa [List.tail_drop,List.tail_cons]at this
 have c8:=hs.c8
 have c9:=hs.c9
 obtain⟨bq,oq,hpq,hbq,x0,x1,x2,x3,xw⟩:=(hs.ne ho).at hk
 rw[hxk]at x0 x1 x2 x3 xw
 rw[hpq]at c8
 have i2:(k:Int)<(E.e.length:Int):=by omega
 have i3:(k:Int)≤200:=by have:=ho.len;omega
 have hlt:=hs.lt
 have hB2:¬B=w.heap.size:=by omega
 have hB3:¬w.heap.size=B:=by omega
 have hw9:IntKind.i64.wrap ((k:Int)+1)=(k:Int)+1:=by rw[IntKind.wrap_i64];omega
 have hm2:E.e.drop (E.e.length-s.length)=s:=(nd_suffix (by rw[hm1];exact p1)).1
 have HO:=fun w1 q1 c1 q2 c2 v u (h1:AS E w1 B (E.e.length-r.length)) (hv1:VArg w1 v v.length q1 c1) (hv2:VArg w1 u u.length q2 c2)=>ofTwo_any w1 B _ v u v.length u.length q1 q2 c1 c2 x.op (by omega) ho h1 hv1 hv2
 have H1:=fun w1 (h1:AS E w1 B (k+1))=>val_at hV w1 (k+1) m s _ _ h1 hm1 p1 rfl rfl
 have H2:=fun w1 (h1:AS E w1 B (E.e.length-s.length))=>val_at hV w1 _ s r _ _ h1 hm2 p2 rfl rfl
 obtain⟨op,nn,ss,tt⟩:=x
 dsimp only at *
 have o1:(op == 1)=false:=by rw[beq_eq_false_iff_ne];omega
 have o2:(op == 2)=false:=by rw[beq_eq_false_iff_ne];omega
 have o3:(op == 3)=false:=by rw[beq_eq_false_iff_ne];omega
 have o4:(op == 4)=false:=by rw[beq_eq_false_iff_ne];omega
 have o5:(op == 5)=false:=by rw[beq_eq_false_iff_ne];omega
 have o6:(op == 6)=false:=by rw[beq_eq_false_iff_ne];omega
 have o8:(op == 8)=false:=by rw[beq_eq_false_iff_ne];omega
 have o11:(op == 11)=false:=by rw[beq_eq_false_iff_ne];omega
 have o12:(op == 12)=false:=by rw[beq_eq_false_iff_ne];omega
 have o13:(op == 13)=false:=by rw[beq_eq_false_iff_ne];omega
 have o9:(op == 9)=false:=by rw[beq_eq_false_iff_ne];omega
 have o10:(op == 10)=false:=by rw[beq_eq_false_iff_ne];omega
 have o21:(op == 21)=false:=by rw[beq_eq_false_iff_ne];omega
 have o22:(op == 22)=false:=by rw[beq_eq_false_iff_ne];omega
 have o23:(op == 23)=false:=by rw[beq_eq_false_iff_ne];omega
 have o24:(op == 24)=false:=by rw[beq_eq_false_iff_ne];omega
 clear h9
 cases hA:evE E.es E.q f m with
 | error n=>
   rw[hA]at H1
   have HE:Hid (∀g:List Nd→Except Int (List Nd),bindE (.error n) g= .error n):=fun _=>rfl
   rw[HE.out]
   clear HO HE H2
   have hbV:Below w.heap.size w (w.alloc (.cells #[.int .i64 op,.int .i64 nn,.string ss,.string tt] 47)).drew:=((Below.refl _ _).alloc (Nat.le_refl _) _).drew
   have hsz:w.heap.size<(w.alloc (.cells #[.int .i64 op,.int .i64 nn,.string ss,.string tt] 47)).drew.heap.size:=by show w.heap.size<(w.alloc (.cells #[.int .i64 op,.int .i64 nn,.string ss,.string tt] 47)).heap.size;simp
   have m0:(w.alloc (.cells #[.int .i64 op,.int .i64 nn,.string ss,.string tt] 47)).drew.cell? ⟨w.heap.size,0,none⟩=some (.int .i64 op):=by show(w.alloc (.cells #[.int .i64 op,.int .i64 nn,.string ss,.string tt] 47)).cell? _=_;simp
   have m1:(w.alloc (.cells #[.int .i64 op,.int .i64 nn,.string ss,.string tt] 47)).drew.cell? ⟨w.heap.size,1,none⟩=some (.int .i64 nn):=by show(w.alloc (.cells #[.int .i64 op,.int .i64 nn,.string ss,.string tt] 47)).cell? _=_;simp
   have m2:(w.alloc (.cells #[.int .i64 op,.int .i64 nn,.string ss,.string tt] 47)).drew.cell? ⟨w.heap.size,2,none⟩=some (.string ss):=by show(w.alloc (.cells #[.int .i64 op,.int .i64 nn,.string ss,.string tt] 47)).cell? _=_;simp
   have m3:(w.alloc (.cells #[.int .i64 op,.int .i64 nn,.string ss,.string tt] 47)).drew.cell? ⟨w.heap.size,3,none⟩=some (.string tt):=by show(w.alloc (.cells #[.int .i64 op,.int .i64 nn,.string ss,.string tt] 47)).cell? _=_;simp
   go_enter Tryz.func36,Tryz.ntmps36
   go_wp2
   go_region
   all_goals
    generalize (w.alloc (.cells #[.int .i64 op,.int .i64 nn,.string ss,.string tt] 47)).drew=V at *
    have hsV:=hs.up hbV
    have d9:=hsV.c9
    have f9:=hsV.fz 9
    have hs2:=hsV.setAt (j:=k+1) (by omega)
    have hb2:BX B w (V.setCell ⟨B,9,none⟩ (.int .i64 ((k+1:Nat):Int))):=(BX.of_below hbV).set 9 _
    have e9:((k+1:Nat):Int)=(k:Int)+1:=rfl
    rw[e9]at hs2 hb2
    have n0:(V.setCell ⟨B,9,none⟩ (.int .i64 ((k:Int)+1))).cell? ⟨w.heap.size,0,none⟩=some (.int .i64 op):=(World.cell?_setCell_other _ _ _ _ (fun e=>hB2 (congrArg Addr.block e))).trans m0
    have n1:(V.setCell ⟨B,9,none⟩ (.int .i64 ((k:Int)+1))).cell? ⟨w.heap.size,1,none⟩=some (.int .i64 nn):=(World.cell?_setCell_other _ _ _ _ (fun e=>hB2 (congrArg Addr.block e))).trans m1
    have n2:(V.setCell ⟨B,9,none⟩ (.int .i64 ((k:Int)+1))).cell? ⟨w.heap.size,2,none⟩=some (.string ss):=(World.cell?_setCell_other _ _ _ _ (fun e=>hB2 (congrArg Addr.block e))).trans m2
    have n3:(V.setCell ⟨B,9,none⟩ (.int .i64 ((k:Int)+1))).cell? ⟨w.heap.size,3,none⟩=some (.string tt):=(World.cell?_setCell_other _ _ _ _ (fun e=>hB2 (congrArg Addr.block e))).trans m3
    have hszU:w.heap.size<(V.setCell ⟨B,9,none⟩ (.int .i64 ((k:Int)+1))).heap.size:=by rw[setc_size];exact hsz
    go_wp2_with fail
    refine(H1 _ hs2).mono ?_
    rintro en w3 ⟨rfl,hb3⟩
    exact⟨rfl,rfl,hb2.trans hb3⟩
 | ok v=>
   rw[hA]at H1
   cases hB:evE E.es E.q f s with
   | error n=>
     rw[hB]at H2
     have HE:Hid (∀g:List Nd→List Nd→Except Int (List Nd),(bindE (.ok v) fun a=>bindE (.error n) fun b=>g a b)= .error n):=fun _=>rfl
     rw[HE.out (fun a b=>twoE E.es op a b)]
     clear HO HE
     have hbV:Below w.heap.size w (w.alloc (.cells #[.int .i64 op,.int .i64 nn,.string ss,.string tt] 47)).drew:=((Below.refl _ _).alloc (Nat.le_refl _) _).drew
     have hsz:w.heap.size<(w.alloc (.cells #[.int .i64 op,.int .i64 nn,.string ss,.string tt] 47)).drew.heap.size:=by show w.heap.size<(w.alloc (.cells #[.int .i64 op,.int .i64 nn,.string ss,.string tt] 47)).heap.size;simp
     have m0:(w.alloc (.cells #[.int .i64 op,.int .i64 nn,.string ss,.string tt] 47)).drew.cell? ⟨w.heap.size,0,none⟩=some (.int .i64 op):=by show(w.alloc (.cells #[.int .i64 op,.int .i64 nn,.string ss,.string tt] 47)).cell? _=_;simp
     have m1:(w.alloc (.cells #[.int .i64 op,.int .i64 nn,.string ss,.string tt] 47)).drew.cell? ⟨w.heap.size,1,none⟩=some (.int .i64 nn):=by show(w.alloc (.cells #[.int .i64 op,.int .i64 nn,.string ss,.string tt] 47)).cell? _=_;simp
     have m2:(w.alloc (.cells #[.int .i64 op,.int .i64 nn,.string ss,.string tt] 47)).drew.cell? ⟨w.heap.size,2,none⟩=some (.string ss):=by show(w.alloc (.cells #[.int .i64 op,.int .i64 nn,.string ss,.string tt] 47)).cell? _=_;simp
     have m3:(w.alloc (.cells #[.int .i64 op,.int .i64 nn,.string ss,.string tt] 47)).drew.cell? ⟨w.heap.size,3,none⟩=some (.string tt):=by show(w.alloc (.cells #[.int .i64 op,.int .i64 nn,.string ss,.string tt] 47)).cell? _=_;simp
     go_enter Tryz.func36,Tryz.ntmps36
     go_wp2
     go_region
     all_goals
      generalize (w.alloc (.cells #[.int .i64 op,.int .i64 nn,.string ss,.string tt] 47)).drew=V at *
      have hsV:=hs.up hbV
      have d9:=hsV.c9
      have f9:=hsV.fz 9
      have hs2:=hsV.setAt (j:=k+1) (by omega)
      have hb2:BX B w (V.setCell ⟨B,9,none⟩ (.int .i64 ((k+1:Nat):Int))):=(BX.of_below hbV).set 9 _
      have e9:((k+1:Nat):Int)=(k:Int)+1:=rfl
      rw[e9]at hs2 hb2
      have n0:(V.setCell ⟨B,9,none⟩ (.int .i64 ((k:Int)+1))).cell? ⟨w.heap.size,0,none⟩=some (.int .i64 op):=(World.cell?_setCell_other _ _ _ _ (fun e=>hB2 (congrArg Addr.block e))).trans m0
      have n1:(V.setCell ⟨B,9,none⟩ (.int .i64 ((k:Int)+1))).cell? ⟨w.heap.size,1,none⟩=some (.int .i64 nn):=(World.cell?_setCell_other _ _ _ _ (fun e=>hB2 (congrArg Addr.block e))).trans m1
      have n2:(V.setCell ⟨B,9,none⟩ (.int .i64 ((k:Int)+1))).cell? ⟨w.heap.size,2,none⟩=some (.string ss):=(World.cell?_setCell_other _ _ _ _ (fun e=>hB2 (congrArg Addr.block e))).trans m2
      have n3:(V.setCell ⟨B,9,none⟩ (.int .i64 ((k:Int)+1))).cell? ⟨w.heap.size,3,none⟩=some (.string tt):=(World.cell?_setCell_other _ _ _ _ (fun e=>hB2 (congrArg Addr.block e))).trans m3
      have hszU:w.heap.size<(V.setCell ⟨B,9,none⟩ (.int .i64 ((k:Int)+1))).heap.size:=by rw[setc_size];exact hsz
      go_wp2_with fail
      refine(H1 _ hs2).mono ?_
      rintro en w3 ⟨⟨q3,c3,rfl,hv3⟩,hs3,hb3⟩
      have y0:=(hb3.cell (p:=⟨w.heap.size,0,none⟩) hszU hB3).trans n0
      have hz3:=Nat.lt_of_lt_of_le hszU hb3.size
      go_wp2_with fail
      refine(H2 w3 hs3).mono ?_
      rintro en w4 ⟨rfl,hb4⟩
      exact⟨rfl,rfl,(hb2.trans hb3).trans hb4⟩
   | ok u=>
     rw[hB]at H2
     have HO:=fun w1 q1 c1 q2 c2 h1 hv1 hv2=>HO w1 q1 c1 q2 c2 v u h1 hv1 hv2
     have HE:Hid (∀g:List Nd→List Nd→Except Int (List Nd),(bindE (.ok v) fun a=>bindE (.ok u) fun b=>g a b)=g v u):=fun _=>rfl
     rw[HE.out (fun a b=>twoE E.es op a b)]
     clear HE
     generalize twoE E.es op v u=R at *
     cases R with
     | error n=>
       have hbV:Below w.heap.size w (w.alloc (.cells #[.int .i64 op,.int .i64 nn,.string ss,.string tt] 47)).drew:=((Below.refl _ _).alloc (Nat.le_refl _) _).drew
       have hsz:w.heap.size<(w.alloc (.cells #[.int .i64 op,.int .i64 nn,.string ss,.string tt] 47)).drew.heap.size:=by show w.heap.size<(w.alloc (.cells #[.int .i64 op,.int .i64 nn,.string ss,.string tt] 47)).heap.size;simp
       have m0:(w.alloc (.cells #[.int .i64 op,.int .i64 nn,.string ss,.string tt] 47)).drew.cell? ⟨w.heap.size,0,none⟩=some (.int .i64 op):=by show(w.alloc (.cells #[.int .i64 op,.int .i64 nn,.string ss,.string tt] 47)).cell? _=_;simp
       have m1:(w.alloc (.cells #[.int .i64 op,.int .i64 nn,.string ss,.string tt] 47)).drew.cell? ⟨w.heap.size,1,none⟩=some (.int .i64 nn):=by show(w.alloc (.cells #[.int .i64 op,.int .i64 nn,.string ss,.string tt] 47)).cell? _=_;simp
       have m2:(w.alloc (.cells #[.int .i64 op,.int .i64 nn,.string ss,.string tt] 47)).drew.cell? ⟨w.heap.size,2,none⟩=some (.string ss):=by show(w.alloc (.cells #[.int .i64 op,.int .i64 nn,.string ss,.string tt] 47)).cell? _=_;simp
       have m3:(w.alloc (.cells #[.int .i64 op,.int .i64 nn,.string ss,.string tt] 47)).drew.cell? ⟨w.heap.size,3,none⟩=some (.string tt):=by show(w.alloc (.cells #[.int .i64 op,.int .i64 nn,.string ss,.string tt] 47)).cell? _=_;simp
       go_enter Tryz.func36,Tryz.ntmps36
       go_wp2
       go_region
       all_goals
        generalize (w.alloc (.cells #[.int .i64 op,.int .i64 nn,.string ss,.string tt] 47)).drew=V at *
        have hsV:=hs.up hbV
        have d9:=hsV.c9
        have f9:=hsV.fz 9
        have hs2:=hsV.setAt (j:=k+1) (by omega)
        have hb2:BX B w (V.setCell ⟨B,9,none⟩ (.int .i64 ((k+1:Nat):Int))):=(BX.of_below hbV).set 9 _
        have e9:((k+1:Nat):Int)=(k:Int)+1:=rfl
        rw[e9]at hs2 hb2
        have n0:(V.setCell ⟨B,9,none⟩ (.int .i64 ((k:Int)+1))).cell? ⟨w.heap.size,0,none⟩=some (.int .i64 op):=(World.cell?_setCell_other _ _ _ _ (fun e=>hB2 (congrArg Addr.block e))).trans m0
        have n1:(V.setCell ⟨B,9,none⟩ (.int .i64 ((k:Int)+1))).cell? ⟨w.heap.size,1,none⟩=some (.int .i64 nn):=(World.cell?_setCell_other _ _ _ _ (fun e=>hB2 (congrArg Addr.block e))).trans m1
        have n2:(V.setCell ⟨B,9,none⟩ (.int .i64 ((k:Int)+1))).cell? ⟨w.heap.size,2,none⟩=some (.string ss):=(World.cell?_setCell_other _ _ _ _ (fun e=>hB2 (congrArg Addr.block e))).trans m2
        have n3:(V.setCell ⟨B,9,none⟩ (.int .i64 ((k:Int)+1))).cell? ⟨w.heap.size,3,none⟩=some (.string tt):=(World.cell?_setCell_other _ _ _ _ (fun e=>hB2 (congrArg Addr.block e))).trans m3
        have hszU:w.heap.size<(V.setCell ⟨B,9,none⟩ (.int .i64 ((k:Int)+1))).heap.size:=by rw[setc_size];exact hsz
        go_wp2_with fail
        refine(H1 _ hs2).mono ?_
        rintro en w3 ⟨⟨q3,c3,rfl,hv3⟩,hs3,hb3⟩
        have y0:=(hb3.cell (p:=⟨w.heap.size,0,none⟩) hszU hB3).trans n0
        have hz3:=Nat.lt_of_lt_of_le hszU hb3.size
        go_wp2_with fail
        refine(H2 w3 hs3).mono ?_
        rintro en w4 ⟨⟨q4,c4,rfl,hv4⟩,hs4,hb4⟩
        have z0:=(hb4.cell (p:=⟨w.heap.size,0,none⟩) hz3 hB3).trans y0
        have hv34:=hv3.bx hs3 hb4
        go_wp2_with fail
        refine(HO w4 q3 c3 q4 c4 hs4 hv34 hv4).mono ?_
        rintro en w5 ⟨h5,hb5⟩
        have h5':en= .panicked (thrownE n):=h5
        subst h5'
        exact⟨rfl,rfl,((hb2.trans hb3).trans hb4).up hb5⟩
     | ok z=>
       have hbV:Below w.heap.size w (w.alloc (.cells #[.int .i64 op,.int .i64 nn,.string ss,.string tt] 47)).drew:=((Below.refl _ _).alloc (Nat.le_refl _) _).drew
       have hsz:w.heap.size<(w.alloc (.cells #[.int .i64 op,.int .i64 nn,.string ss,.string tt] 47)).drew.heap.size:=by show w.heap.size<(w.alloc (.cells #[.int .i64 op,.int .i64 nn,.string ss,.string tt] 47)).heap.size;simp
       have m0:(w.alloc (.cells #[.int .i64 op,.int .i64 nn,.string ss,.string tt] 47)).drew.cell? ⟨w.heap.size,0,none⟩=some (.int .i64 op):=by show(w.alloc (.cells #[.int .i64 op,.int .i64 nn,.string ss,.string tt] 47)).cell? _=_;simp
       have m1:(w.alloc (.cells #[.int .i64 op,.int .i64 nn,.string ss,.string tt] 47)).drew.cell? ⟨w.heap.size,1,none⟩=some (.int .i64 nn):=by show(w.alloc (.cells #[.int .i64 op,.int .i64 nn,.string ss,.string tt] 47)).cell? _=_;simp
       have m2:(w.alloc (.cells #[.int .i64 op,.int .i64 nn,.string ss,.string tt] 47)).drew.cell? ⟨w.heap.size,2,none⟩=some (.string ss):=by show(w.alloc (.cells #[.int .i64 op,.int .i64 nn,.string ss,.string tt] 47)).cell? _=_;simp
       have m3:(w.alloc (.cells #[.int .i64 op,.int .i64 nn,.string ss,.string tt] 47)).drew.cell? ⟨w.heap.size,3,none⟩=some (.string tt):=by show(w.alloc (.cells #[.int .i64 op,.int .i64 nn,.string ss,.string tt] 47)).cell? _=_;simp
       go_enter Tryz.func36,Tryz.ntmps36
       go_wp2
       go_region
       all_goals
        generalize (w.alloc (.cells #[.int .i64 op,.int .i64 nn,.string ss,.string tt] 47)).drew=V at *
        have hsV:=hs.up hbV
        have d9:=hsV.c9
        have f9:=hsV.fz 9
        have hs2:=hsV.setAt (j:=k+1) (by omega)
        have hb2:BX B w (V.setCell ⟨B,9,none⟩ (.int .i64 ((k+1:Nat):Int))):=(BX.of_below hbV).set 9 _
        have e9:((k+1:Nat):Int)=(k:Int)+1:=rfl
        rw[e9]at hs2 hb2
        have n0:(V.setCell ⟨B,9,none⟩ (.int .i64 ((k:Int)+1))).cell? ⟨w.heap.size,0,none⟩=some (.int .i64 op):=(World.cell?_setCell_other _ _ _ _ (fun e=>hB2 (congrArg Addr.block e))).trans m0
        have n1:(V.setCell ⟨B,9,none⟩ (.int .i64 ((k:Int)+1))).cell? ⟨w.heap.size,1,none⟩=some (.int .i64 nn):=(World.cell?_setCell_other _ _ _ _ (fun e=>hB2 (congrArg Addr.block e))).trans m1
        have n2:(V.setCell ⟨B,9,none⟩ (.int .i64 ((k:Int)+1))).cell? ⟨w.heap.size,2,none⟩=some (.string ss):=(World.cell?_setCell_other _ _ _ _ (fun e=>hB2 (congrArg Addr.block e))).trans m2
        have n3:(V.setCell ⟨B,9,none⟩ (.int .i64 ((k:Int)+1))).cell? ⟨w.heap.size,3,none⟩=some (.string tt):=(World.cell?_setCell_other _ _ _ _ (fun e=>hB2 (congrArg Addr.block e))).trans m3
        have hszU:w.heap.size<(V.setCell ⟨B,9,none⟩ (.int .i64 ((k:Int)+1))).heap.size:=by rw[setc_size];exact hsz
        go_wp2_with fail
        refine(H1 _ hs2).mono ?_
        rintro en w3 ⟨⟨q3,c3,rfl,hv3⟩,hs3,hb3⟩
        have y0:=(hb3.cell (p:=⟨w.heap.size,0,none⟩) hszU hB3).trans n0
        have hz3:=Nat.lt_of_lt_of_le hszU hb3.size
        go_wp2_with fail
        refine(H2 w3 hs3).mono ?_
        rintro en w4 ⟨⟨q4,c4,rfl,hv4⟩,hs4,hb4⟩
        have z0:=(hb4.cell (p:=⟨w.heap.size,0,none⟩) hz3 hB3).trans y0
        have hv34:=hv3.bx hs3 hb4
        go_wp2_with fail
        refine(HO w4 q3 c3 q4 c4 hs4 hv34 hv4).mono ?_
        rintro en w5 ⟨⟨q5,c5,rfl,hv5⟩,hb5⟩
        go_wp2
        go_ret
        exact⟨⟨q5,c5,rfl,hv5⟩,hs4.up hb5,((hb2.trans hb3).trans hb4).up hb5⟩
end
theorem value_ok {E:EvEnv}{B f:Nat}(ho:E.Ok)(hf:f≤E.e.length+1)(hV:ValOk E B f):ValOk E B (f+1):=by
 intro w k r hs hp
 obtain⟨g',x,m,e1,hv,h7,hx,hr⟩:=pastE_cons hp
 obtain rfl:f=g':=by omega
 have hmem:x∈E.e:=by
  have:x∈E.e.drop k:=by rw[hv];exact List.mem_cons_self
  exact List.mem_of_mem_drop this
 have hn:x.op=2→Fit x.n:=ho.n64 x hmem
 rw[hv]
 have one:1≤(prt x).toNat→x.op≠6→∃s1,pastE f m=some s1∧partsE (pastE f) ((prt x).toNat-1) s1=some r:=by
  intro h1 h6
  rcases hr with⟨h6',_⟩ | ⟨_,hp⟩
  · exact absurd h6' h6
  · cases hk:(prt x).toNat with
    | zero=>omega
    | succ d=>
      rw[hk]at hp
      obtain⟨s1,p1,hp⟩:=partsE_one hp
      exact⟨s1,p1,hp⟩
 have just0:(prt x).toNat=0→x.op≠6→m=r:=by
  intro h0 h6
  rcases hr with⟨h6',_⟩ | ⟨_,hp⟩
  · exact absurd h6' h6
  · rw[h0]at hp;exact partsE_end hp
 have just1:(prt x).toNat=1→x.op≠6→pastE f m=some r:=by
  intro h1 h6
  obtain⟨s1,p1,hp⟩:=one (by omega) h6
  rw[h1]at hp
  rw[p1,partsE_end hp]
 have just2:(prt x).toNat=2→x.op≠6→∃s1,pastE f m=some s1∧pastE f s1=some r:=by
  intro h1 h6
  obtain⟨s1,p1,hp⟩:=one (by omega) h6
  rw[h1]at hp
  obtain⟨s2,p2,hp⟩:=partsE_one hp
  exact⟨s1,p1,by rw[p2,partsE_end hp]⟩
 have hrng:1≤x.op∧x.op≤27:=by
  unfold exOk prt at hx
  repeat' split at hx
  all_goals first | omega | cases hx
 simp only[evE]
 by_cases c4:1≤x.op∧x.op≤4
 · rw[if_pos c4]
   have e0:(prt x).toNat=0:=by unfold prt;rw[if_neg (by omega),if_pos (by omega)];rfl
   obtain rfl:=just0 e0 (by omega)
   have c:x.op=1∨x.op=2∨x.op=3∨x.op=4:=by omega
   rcases c with c | c | c | c
   · exact value_atom1 ho hf hV w k x m hs hv hx c hn
   · exact value_atom2 ho hf hV w k x m hs hv hx c hn
   · exact value_atom3 ho hf hV w k x m hs hv hx c hn
   · exact value_atom4 ho hf hV w k x m hs hv hx c hn
 rw[if_neg c4]
 by_cases c5:x.op=5
 · rw[if_pos c5]
   rcases hr with⟨h6',_⟩ | ⟨_,hp⟩
   · omega
   · rw[show(prt x).toNat=x.n.toNat by unfold prt;rw[if_pos (Or.inl c5)]]at hp
     exact value_set ho hf hV w k x m r hs hv hx c5 hp
 rw[if_neg c5]
 by_cases c6:x.op=6
 · rw[if_pos c6]
   rcases hr with⟨_,hp⟩ | ⟨h6',_⟩
   · exact value_rec ho hf hV w k x m r hs hv hx c6 hp
   · exact absurd c6 h6'
 rw[if_neg c6]
 by_cases c8:x.op=8
 · rw[if_pos c8]
   have e0:(prt x).toNat=0:=by unfold prt;rw[if_neg (by omega),if_pos (by omega)];rfl
   obtain rfl:=just0 e0 (by omega)
   exact value_var ho hf hV w k x m hs hv hx c8
 rw[if_neg c8]
 by_cases c11:x.op=11
 · rw[if_pos c11]
   obtain⟨s1,p1,p2⟩:=just2 (by unfold prt;rw[c11];rfl) (by omega)
   rw[bh_of p1]
   exact value_and ho hf hV w k x m r s1 hs hv hx c11 p1 p2
 rw[if_neg c11]
 by_cases c12:x.op=12
 · rw[if_pos c12]
   obtain⟨s1,p1,p2⟩:=just2 (by unfold prt;rw[c12];rfl) (by omega)
   rw[bh_of p1]
   exact value_or ho hf hV w k x m r s1 hs hv hx c12 p1 p2
 rw[if_neg c12]
 by_cases c13:x.op=13
 · rw[if_pos c13]
   have e3:(prt x).toNat=3:=by unfold prt;rw[c13];rfl
   obtain⟨s1,p1,hp1⟩:=one (by omega) (by omega)
   rw[e3]at hp1
   obtain⟨s2,p2,hp2⟩:=partsE_one hp1
   obtain⟨s3,p3,hp3⟩:=partsE_one hp2
   have:=partsE_end hp3
   subst this
   rw[bh_of p1,bh_of p2]
   exact value_if ho hf hV w k x m s3 s1 s2 hs hv hx c13 p1 p2 p3
 rw[if_neg c13]
 by_cases c1:x.op=9∨x.op=10∨21≤x.op∧x.op≤24
 · rw[if_pos c1]
   have e1:(prt x).toNat=1:=by unfold prt;rw[if_neg (by omega),if_neg (by omega),if_pos (by omega)];rfl
   have p1:=just1 e1 (by omega)
   exact value_one ho hf hV w k x m r hs hv hx c1 p1
 rw[if_neg c1]
 have e2:(prt x).toNat=2:=by unfold prt;rw[if_neg (by omega),if_neg (by omega),if_neg (by omega),if_neg (by omega),if_pos (by omega)];rfl
 obtain⟨s1,p1,p2⟩:=just2 e2 (by omega)
 rw[bh_of p1]
 exact value_two ho hf hV w k x m r s1 hs hv hx (by omega) p1 p2
theorem all_value {E:EvEnv}{B:Nat}(ho:E.Ok):∀f,f≤E.e.length+2→ValOk E B f
 | 0,_=>fun w k r hs hp=>by simp[pastE]at hp
 | f+1,h=>value_ok ho (by omega) (all_value ho f (by omega))
end Go.Proofs.YtlnhaajjoplafaaGreatDoor
