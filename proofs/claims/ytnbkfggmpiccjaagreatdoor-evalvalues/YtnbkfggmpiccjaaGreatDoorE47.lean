import Derived.Test.YtnbkfggmpiccjaaGreatDoorE45
import Derived.Test.YtnbkfggmpiccjaaGreatDoorE46
import Derived.Test.YtnbkfggmpiccjaaGreatDoorE28
import Derived.Test.YtnbkfggmpiccjaaGreatDoorE44
import Derived.Test.YtnbkfggmpiccjaaGreatDoorE23
set_option linter.unusedVariables false
set_option maxHeartbeats 12000000
namespace Go.Proofs.YtnbkfggmpiccjaaGreatDoor
open Go.RowKit
set_option linter.unusedSectionVars false
set_option maxRecDepth 100000
theorem okAll_mem {ev:List Nd→Except Int (List Nd)}:∀ {ss vs:List (List Nd)},okAll ev ss= .ok vs→∀v∈vs,∃s∈ss,ev s= .ok v
 | [],vs,h,v,hv=>by injection h with h;subst h;cases hv
 | s::ss,vs,h,v,hv=>by
   simp only[okAll]at h
   cases e1:ev s with
   | error n=>rw[e1]at h;cases h
   | ok a=>
     rw[e1]at h
     simp only[bindE]at h
     cases e2:okAll ev ss with
     | error n=>rw[e2]at h;cases h
     | ok u=>
       rw[e2]at h
       injection h with h
       subst h
       rcases List.mem_cons.1 hv with rfl | hv
       · exact⟨s,by simp,e1⟩
       · obtain⟨t,ht,h2⟩:=okAll_mem e2 v hv
         exact⟨t,by simp[ht],h2⟩
theorem names_eq {f:Nat}{e:List Nd}:∀(k:Nat) (last:ByteArray) (m r:List Nd),e.drop (e.length-m.length)=m→m.length≤e.length→recLoop (pastE f) k last m=some r→(sfxR f k m).map (nmAt e)=nmsR f k m
 | 0,_,m,r,_,_,_=>rfl
 | k+1,last,[],r,_,_,h=>by simp[recLoop]at h
 | k+1,last,y::m,r,h0,hl,h=>by
   simp only[recLoop]at h
   split at h
   · cases e1:pastE f m with
     | none=>rw[e1]at h;cases h
     | some s=>
       rw[e1]at h
       have h1:=suf_tail h0 hl rfl
       have h2:=suf_past h1 (by simp at hl;omega) e1
       simp only[sfxR,nmsR,List.tail_cons,List.map_cons]
       rw[bh_of e1,names_eq k _ s r h2.1 (by have:=h2.2;simp at hl;omega) h]
       congr 1
       unfold nmAt pos
       simp only[List.length_cons]at h0 hl
       rw[show e.length-m.length-1=e.length-(m.length+1) by omega,h0]
   · cases h
section
variable {es:List En} {ps:Option Addr} {cs:Nat} {q:Rq} {pq:Option Addr} {cq:Nat} {e:List Nd} {pe:Option Addr} {ce:Nat}
variable (ho:EnvOk es q) (hN:N64 e) (hl:e.length≤200) {f:Nat} (hV:WkOk es ps cs q pq cq e pe ce f) (w:World) (hE0:WArg es ps q pq cq e pe w) (k:Nat) (x:Nd) (m r:List Nd) (hk:e.drop k=x::m) (hp:pastE (f+1) (x::m)=some r)
include ho hN hl hV hE0 hk hp
theorem wk_56 (c:x.op=5∨x.op=6):
 Calls Tryz.prog 12 #[.slice ps es.length cs,reqV q pq cq,.slice pe e.length ce,.int .i64 (k:Int)] w fun en w'=>GRet (evE es q (f+1) (x::m)) en w'∧Below w.heap.size w w':=by
 obtain⟨hi,hK⟩:=ss_in hk hp
 have hpos:∀s∈ssOf f x m,1≤pos e s∧pos e s<e.length:=fun s hs=>by
  obtain⟨_,h2,h3,r',h4⟩:=hi s hs
  have:=(pastE_shorter h4).1
  unfold pos
  omega
 have hE0n:∀s∈ssOf f x m,∀n,evE es q f s= .error n→n≠0:=fun s hs n hn=>by
  obtain⟨_,_,_,r',h2⟩:=hi s hs
  exact ev_err es q f s r' n h2 hn
 have his:∀vs,okAll (evE es q f) (ssOf f x m)= .ok vs→∀v∈vs,IsV v:=fun vs hvs v hv=>by
  obtain⟨s,hs,h⟩:=okAll_mem hvs v hv
  obtain⟨h1,_,_,r',h2⟩:=hi s hs
  exact ev_is ho f s r' v h2 (by rw[←h1];exact hN.drop _) h
 have hvl:∀vs,okAll (evE es q f) (ssOf f x m)= .ok vs→vs.length≤200:=fun vs hvs=>by
  rw[okAll_len hvs,ssOf_len];omega
 have hm1:e.drop (k+1)=m:=by rw[←List.drop_drop,hk];rfl
 have hlen:=congrArg List.length hk
 simp at hlen
 obtain⟨f',y,m',ef,ey,h7,hx,hr⟩:=pastE_cons hp
 obtain rfl:f=f':=by omega
 cases ey
 by_cases c5:x.op=5
 · have e1:evE es q (f+1) (x::m)=bindE (okAll (evE es q f) (ssOf f x m)) setE:=by
    simp only[evE]
    rw[if_neg (by omega),if_pos c5,evS_all]
    unfold ssOf
    rw[if_neg (by omega)]
    unfold prt
    rw[if_pos (.inl c5)]
   refine worth_set es ps cs q pq cq e pe ce k x m w hE0 hl hk f r hp (by omega) (by omega) (by omega) (by omega) (by omega) (by omega) (by omega) _ (fun n hn=>by rw[e1,hn];rfl) hE0n (fun s hs w1 h1=>wk_at hV hi hs w1 h1) c5 (by omega) hpos (fun vs hvs w1 q' c' hLL=>?_)
   have hR:evE es q (f+1) (x::m)=setE vs:=by rw[e1,hvs];rfl
   rw[hR]
   have hv:=his vs hvs
   have h200:=hvl vs hvs
   refine(refSet_full vs q' c' w1 hLL (by omega) ((ffault_zero vs).2 (fun v h=>(hv v h).val)) (fun v h=>(hv v h).ne) (fun v h=>(hv v h).len)).mono ?_
   rintro en w' ⟨h1,hb⟩
   refine⟨?_,hb⟩
   unfold SetRetT at h1
   by_cases hf:(setN (setL vs)).length≤200
   · rw[if_pos hf]at h1
     obtain⟨gq,gc,rfl,hnt,g1,g2⟩:=h1
     have hse:setE vs= .ok (setN (setL vs)):=by unfold setE;rw[if_pos hf]
     rw[hse]
     exact⟨gq,_,gc,0,rfl,gq,gc,rfl,rfl,hnt.1,g1,g2,(setE_is hv hse).1⟩
   · rw[if_neg hf]at h1
     have hse:setE vs= .error 4:=by unfold setE;rw[if_neg hf]
     rw[hse]
     exact⟨none,0,0,4,h1,rfl⟩
 · have c6:x.op=6:=by omega
   rcases hr with⟨_,hr⟩ | ⟨h6,_⟩
   · have e5:(prt x).toNat=x.n.toNat:=by unfold prt;rw[if_pos (Or.inr c6)]
     have hss:ssOf f x m=sfxR f x.n.toNat m:=by unfold ssOf;rw[if_pos c6,e5]
     have hnm:(ssOf f x m).map (nmAt e)=nmsR f x.n.toNat m:=by
      rw[hss]
      exact names_eq _ _ m r (by rw[show e.length-m.length=k+1 by omega];exact hm1) (by omega) hr
     have e1:evE es q (f+1) (x::m)=bindE (okAll (evE es q f) (ssOf f x m)) fun vs=>recE ((nmsR f x.n.toNat m).zip vs):=by
      simp only[evE]
      rw[if_neg (by omega),if_neg c5,if_pos c6,evR_all _ _ _ _ hr,hss]
      cases okAll (evE es q f) (sfxR f x.n.toNat m)<;>rfl
     have hsz:∀t∈(ssOf f x m).map (nmAt e),t.size≤maxLen:=fun t ht=>by
      obtain⟨s,hs,rfl⟩:=List.mem_map.1 ht
      have hp2:=hpos s hs
      have hlt:pos e s-1<e.length:=by omega
      obtain⟨_,_,_,_,_,_,_,_,hw⟩:=hE0.nl.at hlt
      unfold nmAt
      rw[List.drop_eq_getElem_cons hlt]
      exact hw.1
     refine worth_rec es ps cs q pq cq e pe ce k x m w hE0 hl hk f r hp (by omega) (by omega) (by omega) (by omega) (by omega) (by omega) (by omega) _ (fun n hn=>by rw[e1,hn];rfl) hE0n (fun s hs w1 h1=>wk_at hV hi hs w1 h1) c5 c6 hpos (fun vs hvs w1 p c' q' d hTL hLL=>?_)
     have hR:evE es q (f+1) (x::m)=recE (((ssOf f x m).map (nmAt e)).zip vs):=by rw[e1,hvs,hnm];rfl
     rw[hR]
     have hv:=his vs hvs
     have h200:=hvl vs hvs
     have hln:((ssOf f x m).map (nmAt e)).length=vs.length:=by rw[List.length_map,okAll_len hvs]
     generalize (ssOf f x m).map (nmAt e)=NM at *
     rw[←hln]at h200
     by_cases hz:rfault [] (NM.zip vs)=0
     · have HC:=refRec_full NM vs p q' c' d w1 hTL hLL hln hsz (by omega) hz
       rw[hln]at HC
       refine HC.mono ?_
       rintro en w' ⟨h1,hb⟩
       refine⟨?_,hb⟩
       unfold RecRetT at h1
       by_cases hf:(recN (recS (NM.zip vs))).length≤200
       · rw[if_pos hf]at h1
         obtain⟨gq,gc,rfl,hnt,g1,g2⟩:=h1
         have hse:recE (NM.zip vs)= .ok (recN (recS (NM.zip vs))):=by unfold recE;rw[if_pos hz,if_pos hf]
         rw[hse]
         exact⟨gq,_,gc,0,rfl,gq,gc,rfl,rfl,hnt,g1,g2,(recE_is (fun p hp=>hv _ (List.of_mem_zip hp).2) hse).1⟩
       · rw[if_neg hf]at h1
         have hse:recE (NM.zip vs)= .error 4:=by unfold recE;rw[if_pos hz,if_neg hf]
         rw[hse]
         exact⟨none,0,0,4,h1,rfl⟩
     · have HC:=refRec_bad NM vs p q' c' d w1 hTL hLL hln hsz (by omega) hz
       rw[hln]at HC
       refine HC.mono ?_
       rintro en w' ⟨h1,hb⟩
       refine⟨?_,hb⟩
       have hse:recE (NM.zip vs)= .error (rfault [] (NM.zip vs)):=by unfold recE;rw[if_neg hz]
       rw[hse]
       exact⟨none,0,0,_,h1,rfl⟩
   · exact absurd c6 h6
end
section
variable {es:List En} {ps:Option Addr} {cs:Nat} {q:Rq} {pq:Option Addr} {cq:Nat} {e:List Nd} {pe:Option Addr} {ce:Nat}
variable (ho:EnvOk es q) (hN:N64 e) (hl:e.length≤200)
include ho hN hl
theorem wk_all:∀f,WkOk es ps cs q pq cq e pe ce f
 | 0=>fun w k r hE hp=>by simp[pastE]at hp
 | f+1=>fun w k r hE hp=>by
   obtain⟨g,x,m,_,hk,_⟩:=pastE_cons hp
   rw[hk]at hp ⊢
   exact wk_step ho hN hl (wk_all f) w hE k x m r hk hp (fun c=>wk_56 ho hN hl (wk_all f) w hE k x m r hk hp c)
end
theorem valueL_err {es:List En}{q:Rq}{e:List Nd}{n:Int}(h:valueL es q e= .error n):n≠0:=by
 unfold valueL at h
 split at h
 · split at h
   · split at h
     · rename_i h3
       exact ev_err es q _ _ _ n (xfault_zero h3).2 h
     · rename_i h3;injection h with h;subst h;exact h3
   · rename_i h3;injection h with h;subst h;exact h3
 · rename_i h3;injection h with h;subst h;exact h3
section
variable (es:List En) (ps:Option Addr) (cs:Nat) (q:Rq) (pq:Option Addr) (cq:Nat) (e:List Nd) (pe:Option Addr) (ce:Nat) (w:World) (ha:WArg es ps q pq cq e pe w) (hl:e.length≤maxLen)
include ha hl
theorem refValue_st (h0:stf es≠0):
 Calls Tryz.prog 4 #[.slice ps es.length cs,reqV q pq cq,.slice pe e.length ce] w fun en w'=>GRet (.error (stf es)) en w'∧Below w.heap.size w w':=by
 have HS:=fun w1 hl1=>storeFault_any es ps cs w1 hl1
 have HA:=fun w1 h1=>askFault_any q pq cq w1 h1
 have HF:=fun w1 h1=>refFault_any e pe ce w1 h1 hl
 unfold reqV at *
 obtain⟨W,hW⟩:∃W,W=(w.alloc (.cells #[.string q.who.t,.string q.who.i,.string q.act.t,.string q.act.i,.string q.what.t,.string q.what.i,.slice pq q.cx.length cq] 27)).alloc (.cells #[.slice none 0 0,.int .i64 0] 30):=⟨_,rfl⟩
 have hb_0:Below w.heap.size w W:=by rw[hW];exact((Below.refl _ _).alloc (Nat.le_refl _) _).alloc (by simp) _
 have hQ_0:QR W w.heap.size q pq cq:=by rw[hW];exact(QR.new w q pq cq).up ((Below.refl _ _).alloc (Nat.le_refl _) _)
 have hR_0:GR W (w.heap.size+1):=by rw[hW];exact GR.new _ (by simp)
 have hE_0:=ha.up hb_0
 have hz:(stf es == 0)=false:=by simpa using h0
 have hy:(stf es != 0)=true:=by simpa using h0
 generalize stf es=a at *
 clear h0
 go_enter Tryz.func4,Tryz.ntmps4
 obtain⟨x0,x1,x2,x3,x4,x5,x6⟩:=hQ_0.cells
 obtain⟨r0,r1,f0,f1⟩:=hR_0.cells
 go_wp2_with fail
 rw[←hW]
 refine(HS _ hE_0.el).mono ?_
 rintro _ w1 ⟨rfl,hbb⟩
 clear x0 x1 x2 x3 x4 x5 x6 r0 r1 f0 f1
 have hb_1:=qbt hb_0 hbb
 have hQ_1:=hQ_0.up hbb
 have hR_1:=hR_0.up hbb
 have hE_1:=hE_0.up hbb
 clear hbb hb_0 hQ_0 hR_0 hE_0
 obtain⟨x0,x1,x2,x3,x4,x5,x6⟩:=hQ_1.cells
 obtain⟨r0,r1,f0,f1⟩:=hR_1.cells
 go_wp2_with fail
 refine(refBad_any _ a).mono ?_
 rintro _ w2 ⟨rfl,hbb⟩
 clear x0 x1 x2 x3 x4 x5 x6 r0 r1 f0 f1
 have hb_2:=qbt hb_1 hbb
 have hQ_2:=hQ_1.up hbb
 have hR_2:=hR_1.up hbb
 have hE_2:=hE_1.up hbb
 clear hbb hb_1 hQ_1 hR_1 hE_1
 obtain⟨x0,x1,x2,x3,x4,x5,x6⟩:=hQ_2.cells
 obtain⟨r0,r1,f0,f1⟩:=hR_2.cells
 go_wp2
 exact bodyPost_ret (v:=.agg #[.slice none 0 0,.int .i64 a]) (by simp[results,Tryz.results4,go_sem,(hR_2.told _ _).1,(hR_2.told _ _).2]) rfl (hR_2.ret (by omega) hb_2 (rfl))
theorem refValue_ask (h0:stf es=0)(h1:askf q≠0):
 Calls Tryz.prog 4 #[.slice ps es.length cs,reqV q pq cq,.slice pe e.length ce] w fun en w'=>GRet (.error (askf q)) en w'∧Below w.heap.size w w':=by
 have HS:=fun w1 hl1=>storeFault_any es ps cs w1 hl1
 have HA:=fun w1 h1=>askFault_any q pq cq w1 h1
 have HF:=fun w1 h1=>refFault_any e pe ce w1 h1 hl
 unfold reqV at *
 obtain⟨W,hW⟩:∃W,W=(w.alloc (.cells #[.string q.who.t,.string q.who.i,.string q.act.t,.string q.act.i,.string q.what.t,.string q.what.i,.slice pq q.cx.length cq] 27)).alloc (.cells #[.slice none 0 0,.int .i64 0] 30):=⟨_,rfl⟩
 have hb_0:Below w.heap.size w W:=by rw[hW];exact((Below.refl _ _).alloc (Nat.le_refl _) _).alloc (by simp) _
 have hQ_0:QR W w.heap.size q pq cq:=by rw[hW];exact(QR.new w q pq cq).up ((Below.refl _ _).alloc (Nat.le_refl _) _)
 have hR_0:GR W (w.heap.size+1):=by rw[hW];exact GR.new _ (by simp)
 have hE_0:=ha.up hb_0
 rw[h0]at HS
 have hz:(askf q == 0)=false:=by simpa using h1
 have hy:(askf q != 0)=true:=by simpa using h1
 generalize askf q=a at *
 clear h0 h1
 go_enter Tryz.func4,Tryz.ntmps4
 obtain⟨x0,x1,x2,x3,x4,x5,x6⟩:=hQ_0.cells
 obtain⟨r0,r1,f0,f1⟩:=hR_0.cells
 go_wp2_with fail
 rw[←hW]
 refine(HS _ hE_0.el).mono ?_
 rintro _ w1 ⟨rfl,hbb⟩
 clear x0 x1 x2 x3 x4 x5 x6 r0 r1 f0 f1
 have hb_1:=qbt hb_0 hbb
 have hQ_1:=hQ_0.up hbb
 have hR_1:=hR_0.up hbb
 have hE_1:=hE_0.up hbb
 clear hbb hb_0 hQ_0 hR_0 hE_0
 obtain⟨x0,x1,x2,x3,x4,x5,x6⟩:=hQ_1.cells
 obtain⟨r0,r1,f0,f1⟩:=hR_1.cells
 go_wp2_with fail
 refine(HA _ hE_1.rq).mono ?_
 rintro _ w2 ⟨rfl,hbb⟩
 clear x0 x1 x2 x3 x4 x5 x6 r0 r1 f0 f1
 have hb_2:=qbt hb_1 hbb
 have hQ_2:=hQ_1.up hbb
 have hR_2:=hR_1.up hbb
 have hE_2:=hE_1.up hbb
 clear hbb hb_1 hQ_1 hR_1 hE_1
 obtain⟨x0,x1,x2,x3,x4,x5,x6⟩:=hQ_2.cells
 obtain⟨r0,r1,f0,f1⟩:=hR_2.cells
 go_wp2_with fail
 refine(refBad_any _ a).mono ?_
 rintro _ w3 ⟨rfl,hbb⟩
 clear x0 x1 x2 x3 x4 x5 x6 r0 r1 f0 f1
 have hb_3:=qbt hb_2 hbb
 have hQ_3:=hQ_2.up hbb
 have hR_3:=hR_2.up hbb
 have hE_3:=hE_2.up hbb
 clear hbb hb_2 hQ_2 hR_2 hE_2
 obtain⟨x0,x1,x2,x3,x4,x5,x6⟩:=hQ_3.cells
 obtain⟨r0,r1,f0,f1⟩:=hR_3.cells
 go_wp2
 exact bodyPost_ret (v:=.agg #[.slice none 0 0,.int .i64 a]) (by simp[results,Tryz.results4,go_sem,(hR_3.told _ _).1,(hR_3.told _ _).2]) rfl (hR_3.ret (by omega) hb_3 (rfl))
theorem refValue_ex (h0:stf es=0)(h1:askf q=0)(h2:xfault e≠0):
 Calls Tryz.prog 4 #[.slice ps es.length cs,reqV q pq cq,.slice pe e.length ce] w fun en w'=>GRet (.error (xfault e)) en w'∧Below w.heap.size w w':=by
 have HS:=fun w1 hl1=>storeFault_any es ps cs w1 hl1
 have HA:=fun w1 h1=>askFault_any q pq cq w1 h1
 have HF:=fun w1 h1=>refFault_any e pe ce w1 h1 hl
 unfold reqV at *
 obtain⟨W,hW⟩:∃W,W=(w.alloc (.cells #[.string q.who.t,.string q.who.i,.string q.act.t,.string q.act.i,.string q.what.t,.string q.what.i,.slice pq q.cx.length cq] 27)).alloc (.cells #[.slice none 0 0,.int .i64 0] 30):=⟨_,rfl⟩
 have hb_0:Below w.heap.size w W:=by rw[hW];exact((Below.refl _ _).alloc (Nat.le_refl _) _).alloc (by simp) _
 have hQ_0:QR W w.heap.size q pq cq:=by rw[hW];exact(QR.new w q pq cq).up ((Below.refl _ _).alloc (Nat.le_refl _) _)
 have hR_0:GR W (w.heap.size+1):=by rw[hW];exact GR.new _ (by simp)
 have hE_0:=ha.up hb_0
 rw[h0]at HS
 rw[h1]at HA
 have hz:(xfault e == 0)=false:=by simpa using h2
 have hy:(xfault e != 0)=true:=by simpa using h2
 generalize xfault e=a at *
 clear h0 h1 h2
 go_enter Tryz.func4,Tryz.ntmps4
 obtain⟨x0,x1,x2,x3,x4,x5,x6⟩:=hQ_0.cells
 obtain⟨r0,r1,f0,f1⟩:=hR_0.cells
 go_wp2_with fail
 rw[←hW]
 refine(HS _ hE_0.el).mono ?_
 rintro _ w1 ⟨rfl,hbb⟩
 clear x0 x1 x2 x3 x4 x5 x6 r0 r1 f0 f1
 have hb_1:=qbt hb_0 hbb
 have hQ_1:=hQ_0.up hbb
 have hR_1:=hR_0.up hbb
 have hE_1:=hE_0.up hbb
 clear hbb hb_0 hQ_0 hR_0 hE_0
 obtain⟨x0,x1,x2,x3,x4,x5,x6⟩:=hQ_1.cells
 obtain⟨r0,r1,f0,f1⟩:=hR_1.cells
 go_wp2_with fail
 refine(HA _ hE_1.rq).mono ?_
 rintro _ w2 ⟨rfl,hbb⟩
 clear x0 x1 x2 x3 x4 x5 x6 r0 r1 f0 f1
 have hb_2:=qbt hb_1 hbb
 have hQ_2:=hQ_1.up hbb
 have hR_2:=hR_1.up hbb
 have hE_2:=hE_1.up hbb
 clear hbb hb_1 hQ_1 hR_1 hE_1
 obtain⟨x0,x1,x2,x3,x4,x5,x6⟩:=hQ_2.cells
 obtain⟨r0,r1,f0,f1⟩:=hR_2.cells
 go_wp2_with fail
 refine(HF _ hE_2.nl).mono ?_
 rintro _ w3 ⟨rfl,hbb⟩
 clear x0 x1 x2 x3 x4 x5 x6 r0 r1 f0 f1
 have hb_3:=qbt hb_2 hbb
 have hQ_3:=hQ_2.up hbb
 have hR_3:=hR_2.up hbb
 have hE_3:=hE_2.up hbb
 clear hbb hb_2 hQ_2 hR_2 hE_2
 obtain⟨x0,x1,x2,x3,x4,x5,x6⟩:=hQ_3.cells
 obtain⟨r0,r1,f0,f1⟩:=hR_3.cells
 go_wp2_with fail
 refine(refBad_any _ a).mono ?_
 rintro _ w4 ⟨rfl,hbb⟩
 clear x0 x1 x2 x3 x4 x5 x6 r0 r1 f0 f1
 have hb_4:=qbt hb_3 hbb
 have hQ_4:=hQ_3.up hbb
 have hR_4:=hR_3.up hbb
 have hE_4:=hE_3.up hbb
 clear hbb hb_3 hQ_3 hR_3 hE_3
 obtain⟨x0,x1,x2,x3,x4,x5,x6⟩:=hQ_4.cells
 obtain⟨r0,r1,f0,f1⟩:=hR_4.cells
 go_wp2
 exact bodyPost_ret (v:=.agg #[.slice none 0 0,.int .i64 a]) (by simp[results,Tryz.results4,go_sem,(hR_4.told _ _).1,(hR_4.told _ _).2]) rfl (hR_4.ret (by omega) hb_4 (rfl))
theorem refValue_good (h0:stf es=0)(h1:askf q=0)(h2:xfault e=0)(ho:EnvOk es q)(hN:N64 e):
 Calls Tryz.prog 4 #[.slice ps es.length cs,reqV q pq cq,.slice pe e.length ce] w fun en w'=>GRet (evE es q (e.length+1) e) en w'∧Below w.heap.size w w':=by
 have HW:=fun w1 (h1:WArg es ps q pq cq e pe w1)=>wk_all (es:=es) (ps:=ps) (cs:=cs) (pq:=pq) (cq:=cq) (pe:=pe) (ce:=ce) ho hN (xfault_zero h2).1 (e.length+1) w1 0 [] h1 (by rw[List.drop_zero];exact(xfault_zero h2).2)
 rw[List.drop_zero]at HW
 generalize evE es q (e.length+1) e=R at *
 have HS:=fun w1 hl1=>storeFault_any es ps cs w1 hl1
 have HA:=fun w1 h1=>askFault_any q pq cq w1 h1
 have HF:=fun w1 h1=>refFault_any e pe ce w1 h1 hl
 unfold reqV at *
 obtain⟨W,hW⟩:∃W,W=(w.alloc (.cells #[.string q.who.t,.string q.who.i,.string q.act.t,.string q.act.i,.string q.what.t,.string q.what.i,.slice pq q.cx.length cq] 27)).alloc (.cells #[.slice none 0 0,.int .i64 0] 30):=⟨_,rfl⟩
 have hb_0:Below w.heap.size w W:=by rw[hW];exact((Below.refl _ _).alloc (Nat.le_refl _) _).alloc (by simp) _
 have hQ_0:QR W w.heap.size q pq cq:=by rw[hW];exact(QR.new w q pq cq).up ((Below.refl _ _).alloc (Nat.le_refl _) _)
 have hR_0:GR W (w.heap.size+1):=by rw[hW];exact GR.new _ (by simp)
 have hE_0:=ha.up hb_0
 rw[h0]at HS
 rw[h1]at HA
 rw[h2]at HF
 clear h0 h1 h2
 go_enter Tryz.func4,Tryz.ntmps4
 obtain⟨x0,x1,x2,x3,x4,x5,x6⟩:=hQ_0.cells
 obtain⟨r0,r1,f0,f1⟩:=hR_0.cells
 go_wp2_with fail
 rw[←hW]
 refine(HS _ hE_0.el).mono ?_
 rintro _ w1 ⟨rfl,hbb⟩
 clear x0 x1 x2 x3 x4 x5 x6 r0 r1 f0 f1
 have hb_1:=qbt hb_0 hbb
 have hQ_1:=hQ_0.up hbb
 have hR_1:=hR_0.up hbb
 have hE_1:=hE_0.up hbb
 clear hbb hb_0 hQ_0 hR_0 hE_0
 obtain⟨x0,x1,x2,x3,x4,x5,x6⟩:=hQ_1.cells
 obtain⟨r0,r1,f0,f1⟩:=hR_1.cells
 go_wp2_with fail
 refine(HA _ hE_1.rq).mono ?_
 rintro _ w2 ⟨rfl,hbb⟩
 clear x0 x1 x2 x3 x4 x5 x6 r0 r1 f0 f1
 have hb_2:=qbt hb_1 hbb
 have hQ_2:=hQ_1.up hbb
 have hR_2:=hR_1.up hbb
 have hE_2:=hE_1.up hbb
 clear hbb hb_1 hQ_1 hR_1 hE_1
 obtain⟨x0,x1,x2,x3,x4,x5,x6⟩:=hQ_2.cells
 obtain⟨r0,r1,f0,f1⟩:=hR_2.cells
 go_wp2_with fail
 refine(HF _ hE_2.nl).mono ?_
 rintro _ w3 ⟨rfl,hbb⟩
 clear x0 x1 x2 x3 x4 x5 x6 r0 r1 f0 f1
 have hb_3:=qbt hb_2 hbb
 have hQ_3:=hQ_2.up hbb
 have hR_3:=hR_2.up hbb
 have hE_3:=hE_2.up hbb
 clear hbb hb_2 hQ_2 hR_2 hE_2
 obtain⟨x0,x1,x2,x3,x4,x5,x6⟩:=hQ_3.cells
 obtain⟨r0,r1,f0,f1⟩:=hR_3.cells
 go_wp2_with fail
 refine(HW _ hE_3).mono ?_
 rintro _ w4 ⟨hG,hbb⟩
 obtain⟨gq,gn,gc,gk,rfl⟩:=hG.shape
 have hb_4:=qbt hb_3 hbb
 have hR_4:=hR_3.up hbb
 clear x0 x1 x2 x3 x4 x5 x6 r0 r1 f0 f1
 obtain⟨r0,r1,f0,f1⟩:=hR_4.cells
 go_wp2
 exact bodyPost_ret (v:=.agg #[.slice gq gn gc,.int .i64 gk]) (by simp[results,Tryz.results4,go_sem,(hR_4.told _ _).1,(hR_4.told _ _).2]) rfl (hR_4.ret (by omega) hb_4 (hG))
theorem refValue_any (esN:∀e∈es,N64 e.nd)(cxN:N64 q.cx)(hN:N64 e):
 Calls Tryz.prog 4 #[.slice ps es.length cs,reqV q pq cq,.slice pe e.length ce] w fun en w'=>GRet (valueL es q e) en w'∧Below w.heap.size w w':=by
 unfold valueL
 by_cases h0:stf es=0
 · rw[if_pos h0]
   by_cases h1:askf q=0
   · rw[if_pos h1]
     by_cases h2:xfault e=0
     · rw[if_pos h2]
       exact refValue_good es ps cs q pq cq e pe ce w ha hl h0 h1 h2 ⟨h0,h1,esN,cxN⟩ hN
     · rw[if_neg h2]
       exact refValue_ex es ps cs q pq cq e pe ce w ha hl h0 h1 h2
   · rw[if_neg h1]
     exact refValue_ask es ps cs q pq cq e pe ce w ha hl h0 h1
 · rw[if_neg h0]
   exact refValue_st es ps cs q pq cq e pe ce w ha hl h0
end
end Go.Proofs.YtnbkfggmpiccjaaGreatDoor
