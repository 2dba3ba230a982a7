import Derived.Test.YtnbkfggmpiccjaaGreatDoorE45
import Derived.Test.YtnbkfggmpiccjaaGreatDoorE27
import Derived.Test.YtnbkfggmpiccjaaGreatDoorE37
set_option linter.unusedVariables false
set_option maxHeartbeats 12000000
namespace Go.Proofs.YtnbkfggmpiccjaaGreatDoor
open Go.RowKit
set_option linter.unusedSectionVars false
set_option linter.unusedSimpArgs false
set_option maxRecDepth 100000
def nmAt (e s:List Nd):ByteArray:=sV (e.drop (pos e s-1))
theorem GRet.up {R:Except Int (List Nd)}{u v:Value}{w w':World}(h:GRet R (.returned (.agg #[u,v])) w)(k:Below w.heap.size w w'):GRet R (.returned (.agg #[u,v])) w':=by
 cases R with
 | ok a=>obtain⟨q,c,e,hv⟩:=h;exact⟨q,c,e,hv.up k⟩
 | error n=>exact h
def GTup (R:Except Int (List Nd))(en:Ending)(w:World):Prop:=∃gq gn gc gk,en= .returned (.tuple #[.slice gq gn gc,.int .i64 gk])∧GRet R (.returned (.agg #[.slice gq gn gc,.int .i64 gk])) w
section
variable (es:List En) (ps:Option Addr) (cs:Nat) (q:Rq) (pq:Option Addr) (cq:Nat) (e:List Nd) (pe:Option Addr) (ce:Nat) (k:Nat) (x:Nd) (m:List Nd) (w:World) (hE0:WArg es ps q pq cq e pe w) (hl:e.length≤200) (hk:e.drop k=x::m)
include hE0 hl hk
theorem worth_set (f:Nat)(r:List Nd)(hp:pastE (f+1) (x::m)=some r)(hK200:(prt x).toNat≤200)(ho1:1≤x.op)(ho4:¬x.op≤4)(ho8:x.op≠8)(ho11:x.op≠11)(ho12:x.op≠12)(ho13:x.op≠13)(R:Except Int (List Nd))(HRe:∀n,okAll (evE es q f) (ssOf f x m)= .error n→R= .error n)(hE0n:∀s∈ssOf f x m,∀n,evE es q f s= .error n→n≠0)(IH:∀s∈ssOf f x m,∀w1,WArg es ps q pq cq e pe w1→Calls Tryz.prog 12 #[.slice ps es.length cs,reqV q pq cq,.slice pe e.length ce,.int .i64 (pos e s:Int)] w1 fun en w'=>GRet (evE es q f s) en w'∧Below w1.heap.size w1 w')(ho5:x.op=5)(ho6:x.op≠6)(hpos:∀s∈ssOf f x m,1≤pos e s∧pos e s<e.length)(HT:∀vs,okAll (evE es q f) (ssOf f x m)= .ok vs→∀w1 q c,LL w1 q vs→Calls Tryz.prog 28 #[.slice q vs.length c] w1 fun en w'=>GTup R en w'∧Below w1.heap.size w1 w'):
 Calls Tryz.prog 12 #[.slice ps es.length cs,reqV q pq cq,.slice pe e.length ce,.int .i64 (k:Int)] w fun en w'=>GRet (R) en w'∧Below w.heap.size w w':=by
 obtain⟨bq,oq,hpq,hbq,hkl,e0,e1,e2,e3,xw⟩:=node_at hE0.nl hk
 have i1:(k:Int)<(e.length:Int):=by omega
 have HPO:=fun w1 (h1:NL w1 pe e)=>refPartsOf_any f e pe ce k x m r w1 h1 hl hk hp
 have hsl:=ssOf_len (f:=f) (x:=x) (m:=m)
 have HKl:Hid ((prt x).toNat≤200):=hK200
 have e11:(x.op == 11)=false:=by simpa using ho11
 have e12:(x.op == 12)=false:=by simpa using ho12
 have e13:(x.op == 13)=false:=by simpa using ho13
 have e5:(x.op == 5)=true:=by simp[ho5]
 have e6:(x.op == 6)=false:=by simpa using ho6
 have HPOS:Hid (∀s∈ssOf f x m,1≤pos e s∧pos e s<e.length):=hpos
 clear hpos
 generalize (prt x).toNat=K at *
 generalize ssOf f x m=ss at *
 obtain⟨xo,xn,xs,xt⟩:=x
 dsimp only[Nd.val]at e0 e1 e2 e3 ho1 ho4 ho8 e11 e12 e13 e5 e6
 subst hpq
 obtain⟨W,hW⟩:∃W,W=((w.alloc (.cells #[.string q.who.t,.string q.who.i,.string q.act.t,.string q.act.i,.string q.what.t,.string q.what.i,.slice pq q.cx.length cq] 27)).alloc (.cells #[.slice none 0 0,.int .i64 0] 30)).alloc (.cells #[.int .i64 xo,.int .i64 xn,.string xs,.string xt] 53):=⟨_,rfl⟩
 have hb_0:Below w.heap.size w W:=by rw[hW];exact(((Below.refl _ _).alloc (Nat.le_refl _) _).alloc (by simp) _).alloc (by simp;omega) _
 have hQ_0:QR W w.heap.size q pq cq:=by rw[hW];exact((QR.new w q pq cq).up ((Below.refl _ _).alloc (Nat.le_refl _) _)).up ((Below.refl _ _).alloc (Nat.le_refl _) _)
 have hR_0:GR W (w.heap.size+1):=by rw[hW];exact(GR.new _ (by simp)).up ((Below.refl _ _).alloc (Nat.le_refl _) _)
 have hn_0:NB W (w.heap.size+1+1) xo xn xs xt:=by rw[hW];exact NB.new _ _ _ _ _ (by simp)
 have hWs:W.heap.size=w.heap.size+1+1+1:=by rw[hW];simp
 have hE_0:=hE0.up hb_0
 unfold reqV
 go_enter Tryz.func12,Tryz.ntmps12
 have HE0:Hid (WArg es ps q pq cq e (some ⟨bq,oq,none⟩) w):=hE0
 have HREr:Hid (∀n,okAll (evE es q f) ss= .error n→R= .error n):=HRe
 have HNZ:Hid (∀s∈ss,∀n,evE es q f s= .error n→n≠0):=hE0n
 unfold reqV at IH
 have HIH:Hid (∀s∈ss,∀w1,WArg es ps q pq cq e (some ⟨bq,oq,none⟩) w1→Calls Tryz.prog 12 #[.slice ps es.length cs,.agg #[.string q.who.t,.string q.who.i,.string q.act.t,.string q.act.i,.string q.what.t,.string q.what.i,.slice pq q.cx.length cq],.slice (some ⟨bq,oq,none⟩) e.length ce,.int .i64 (pos e s:Int)] w1 fun en w'=>GRet (evE es q f s) en w'∧Below w1.heap.size w1 w'):=IH
 have HSL:Hid (ss.length=K):=hsl
 clear hE0 hk hp ho11 ho12 ho13 ho5 ho6 HRe hE0n IH hsl
 obtain⟨x0,x1,x2,x3,x4,x5,x6⟩:=hQ_0.cells
 obtain⟨r0,r1,f0,f1⟩:=hR_0.cells
 obtain⟨n0,n1,n2,n3⟩:=hn_0.cells
 go_wp2_with fail
 rw[←hW]
 refine(HPO _ hE_0.nl).mono ?_
 rintro _ w1 ⟨⟨q3,c3,rfl,hil_1⟩,hbb⟩
 clear x0 x1 x2 x3 x4 x5 x6 r0 r1 f0 f1 n0 n1 n2 n3
 have hb_1:=qbt hb_0 hbb
 have hQ_1:=hQ_0.up hbb
 have hR_1:=hR_0.up hbb
 have hE_1:=hE_0.up hbb
 have hn_1:=hn_0.up hbb
 clear hbb hb_0 hQ_0 hR_0 hE_0 hn_0
 obtain⟨bp,op,rfl⟩:∃b o,q3=some ⟨b,o,none⟩:=by
  rcases hil_1 with h | ⟨b,o,h,_⟩
  · simp at h
  · exact⟨b,o,h⟩
 obtain⟨x0,x1,x2,x3,x4,x5,x6⟩:=hQ_1.cells
 obtain⟨r0,r1,f0,f1⟩:=hR_1.cells
 obtain⟨n0,n1,n2,n3⟩:=hn_1.cells
 have hKi:((K:Int)+1)-1=(K:Int):=by omega
 go_wp2_with fail
 clear e0 e1 e2 e3 HPO hW x0 x1 x2 x3 x4 x5 x6 r0 r1 f0 f1 n0 n1 n2 n3
 have hlow:w.heap.size+1+1<w1.heap.size:=hn_1.lt
 have hbp:bp<w1.heap.size:=by
  rcases hil_1 with h | ⟨b,o,h,hb,_⟩
  · simp at h
  · cases h;exact hb
 go_loopw [11,12] (fun ov i wr=>∃(j:Nat) (done todo vs:List (List Nd)),i= .int .i64 j∧j≤K∧Hid (done++todo=ss)∧done.length=j∧Hid (okAll (evE es q f) done= .ok vs)∧OG wr w1.heap.size ov vs∧QR wr w.heap.size q pq cq∧GR wr (w.heap.size+1)∧NB wr (w.heap.size+1+1) xo xn xs xt∧IL wr (some ⟨bp,op,none⟩) (ss.map (pos e)++[pos e r])∧Below w.heap.size w wr∧w1.heap.size≤wr.heap.size) (fun _ i _=>K-(intOf i).toNat)
 case atStart=>exact⟨0,[],ss,[],rfl,Nat.zero_le _,rfl,rfl,rfl,OG.nil _ _,hQ_1,hR_1,hn_1,hil_1,hb_1,Nat.le_refl _⟩
 case round=>
  rename World=>w5
  obtain⟨j,done,todo,vs,rfl,hj,HD,hdl,HK,hO_5,hQ_5,hR_5,hn_5,hil_5,hb_5,hbase⟩:=hrel
  have hE_5:=HE0.out.up hb_5
  by_cases hlt:j<K
  · have i2:(j:Int)<(K:Int)+1-1:=by omega
    have i3:(j:Int)<(K:Int)+1:=by omega
    obtain⟨s,todo,rfl⟩:∃a l,todo=a::l:=by
     cases todo with
     | nil=>exfalso;have:=congrArg List.length HD.out;have h2:=HSL.out;simp at this;omega
     | cons a l=>exact⟨a,l,rfl⟩
    have hsm:s∈ss:=by rw[←HD.out];simp
    have HW0:=HIH.out s hsm
    obtain⟨kj,hkj⟩:∃n,n=pos e s:=⟨_,rfl⟩
    rw[←hkj]at HW0
    have hP_5:P1 w5 bp (op+j) (.int .i64 (kj:Int)):=by
     rcases hil_5 with h | ⟨b,o,h,hb,h2⟩
     · simp at h
     · cases h
       refine⟨hb,h2 j kj ?_⟩
       rw[hkj,←HD.out,←hdl]
       simp
    have hPlt:=hP_5.lt
    have hKb:K≤200:=HKl.out
    have HV0:Hid (∀n,evE es q f s= .error n→n≠0):=HNZ.out s hsm
    cases hev:evE es q f s with
    | error nz=>
      have HRn:Hid (R= .error nz):=HREr.out nz (by rw[←HD.out];exact okAll_stop HK.out hev)
      have hnz:nz≠0:=HV0.out nz hev
      rw[hev]at HW0
      replace HW0:=fun w1 h1=>(HW0 w1 h1).mono (R':=fun en w'=>en= .returned (.agg #[.slice none 0 0,.int .i64 nz])∧Below w1.heap.size w1 w') fun en w' g=>⟨g.1,g.2⟩
      clear HV0 hev HNZ HIH HREr hsm hkj hj hlt
      obtain⟨x0,x1,x2,x3,x4,x5,x6⟩:=hQ_5.cells
      obtain⟨r0,r1,f0,f1⟩:=hR_5.cells
      obtain⟨n0,n1,n2,n3⟩:=hn_5.cells
      obtain p0:=hP_5.cells
      go_wp2_with fail
      have HL:w.heap.size<w5.heap.size∧bp<w5.heap.size:=⟨by have:=hR_5.lt;have:=hPlt;have:=hb_5.size;omega,by have:=hR_5.lt;have:=hPlt;have:=hb_5.size;omega⟩
      go_region_held (HQ1 w.heap.size q pq cq bp (op+j) (.int .i64 (kj:Int))) (first | exact QP1.b hQ_6 hP_6 (GR.bel (Nat.le_refl w5.heap.size) _ _) HL.1 HL.2 | exact QP1.b hQ_6 hP_6 ((Below.refl _ _).setCell (p:=⟨w5.heap.size,0,none⟩) (Nat.le_refl _) _) HL.1 HL.2 | exact QP1.u hQ_6 hP_6 zbx | exact QP1.u hQ_5 hP_5 zbx) (first
       | (go_at_call 12
          refine(HW0 _ (WArg.up hE_5 zbx)).mono ?_
          rintro _ w6 ⟨rfl,hbb_6⟩
          have hbk_6:Below w5.heap.size w5 w6:=qbt zbx hbb_6
          have hb_6:=qbt hb_5 hbk_6
          have hQ_6:=hQ_5.up hbk_6
          have hR_6:=hR_5.up hbk_6
          have hn_6:=hn_5.up hbk_6
          have hE_6:=hE_5.up hbk_6
          have hP_6:=hP_5.up hbk_6
          have hO_6:=hO_5.up hbk_6
          have hil_6:=hil_5.up hbk_6
          first | (have hC0:GR w6 (w5.heap.size):=GR.up (GR.up (GR.new w5 rfl) (zbD (Below.refl _ _))) hbb_6;obtain⟨cc0,cc1,cf0,cf1⟩:=hC0.cells) | skip))
      all_goals
       first
       | (obtain⟨w7,hV⟩:∃V,V=w6.alloc (.cells #[.slice none 0 0,.int .i64 nz] 30):=⟨_,rfl⟩
          obtain⟨Bgc,hBc⟩:∃V,V=w6.heap.size:=⟨_,rfl⟩
          have hEd:Ended w6 w5.heap.size (.slice none 0 0) (.int .i64 nz) w7 Bgc:=.inl ⟨hV,hBc⟩
          rw[←hV,←hBc]
          clear hV hBc)
       | (obtain⟨w7,hV⟩:∃V,V=(w6.setCell ⟨w5.heap.size,0,none⟩ (.slice none 0 0)).setCell ⟨w5.heap.size,1,none⟩ (.int .i64 nz):=⟨_,rfl⟩
          obtain⟨Bgc,hBc⟩:∃V,V=w5.heap.size:=⟨_,rfl⟩
          have hEd:Ended w6 w5.heap.size (.slice none 0 0) (.int .i64 nz) w7 Bgc:=.inr ⟨hC0,hV,hBc⟩
          rw[←hV,←hBc]
          clear hV hBc hC0 cc0 cc1 cf0 cf1)
       have hbV:=hEd.below hbk_6 (Nat.le_refl _)
       have hb_7:=qbt hb_5 hbV
       have gc_7:=hEd.g2
       have hQ_7:=hQ_5.up hbV
       have hR_7:=hR_5.up hbV
       have hn_7:=hn_5.up hbV
       have hE_7:=hE_5.up hbV
       have hP_7:=hP_5.up hbV
       have hO_7:=hO_5.up hbV
       have hil_7:=hil_5.up hbV
       clear hEd
       obtain⟨x0,x1,x2,x3,x4,x5,x6⟩:=hQ_7.cells
       obtain⟨r0,r1,f0,f1⟩:=hR_7.cells
       obtain⟨n0,n1,n2,n3⟩:=hn_7.cells
       obtain p0:=hP_7.cells
       obtain⟨gca,gcb⟩:=gc_7.cells
       go_wp2
       rw[HRn.out]
       exact bodyPost_ret (v:=.agg #[.slice none 0 0,.int .i64 nz]) (by simp[results,Tryz.results12,go_sem,(hR_7.told _ _).1,(hR_7.told _ _).2]) rfl (hR_7.ret (by omega) hb_7 rfl)
    | ok a0=>
      have HK2:Hid (okAll (evE es q f) (done++[s])= .ok (vs++[a0])):=okAll_snoc HK.out hev
      rw[hev]at HW0
      replace HW0:=fun w1 h1=>(HW0 w1 h1).mono (R':=fun en w'=>(∃b off c,en= .returned (.agg #[.slice (some ⟨b,off,none⟩) a0.length c,.int .i64 0])∧VArg w' a0 a0.length (some ⟨b,off,none⟩) c)∧Below w1.heap.size w1 w') fun en w' g=>⟨gret_ok g.1,g.2⟩
      clear HV0 hev HNZ HIH HREr hsm hkj
      obtain⟨x0,x1,x2,x3,x4,x5,x6⟩:=hQ_5.cells
      obtain⟨r0,r1,f0,f1⟩:=hR_5.cells
      obtain⟨n0,n1,n2,n3⟩:=hn_5.cells
      obtain p0:=hP_5.cells
      go_wp2_with fail
      have HL:w.heap.size<w5.heap.size∧bp<w5.heap.size:=⟨by have:=hR_5.lt;have:=hPlt;have:=hb_5.size;omega,by have:=hR_5.lt;have:=hPlt;have:=hb_5.size;omega⟩
      go_region_held (HQ1 w.heap.size q pq cq bp (op+j) (.int .i64 (kj:Int))) (first | exact QP1.b hQ_6 hP_6 (GR.bel (Nat.le_refl w5.heap.size) _ _) HL.1 HL.2 | exact QP1.b hQ_6 hP_6 ((Below.refl _ _).setCell (p:=⟨w5.heap.size,0,none⟩) (Nat.le_refl _) _) HL.1 HL.2 | exact QP1.u hQ_6 hP_6 zbx | exact QP1.u hQ_5 hP_5 zbx) (first
       | (go_at_call 12
          refine(HW0 _ (WArg.up hE_5 zbx)).mono ?_
          rintro _ w6 ⟨⟨bhv,ohv,chv,rfl,hv_6⟩,hbb_6⟩
          have hbk_6:Below w5.heap.size w5 w6:=qbt zbx hbb_6
          have hb_6:=qbt hb_5 hbk_6
          have hQ_6:=hQ_5.up hbk_6
          have hR_6:=hR_5.up hbk_6
          have hn_6:=hn_5.up hbk_6
          have hE_6:=hE_5.up hbk_6
          have hP_6:=hP_5.up hbk_6
          have hO_6:=hO_5.up hbk_6
          have hil_6:=hil_5.up hbk_6
          first | (have hC0:GR w6 (w5.heap.size):=GR.up (GR.up (GR.new w5 rfl) (zbD (Below.refl _ _))) hbb_6;obtain⟨cc0,cc1,cf0,cf1⟩:=hC0.cells) | skip))
      all_goals
       first
       | (obtain⟨w7,hV⟩:∃V,V=w6.alloc (.cells #[.slice (some ⟨bhv,ohv,none⟩) a0.length chv,.int .i64 0] 30):=⟨_,rfl⟩
          obtain⟨Bgc,hBc⟩:∃V,V=w6.heap.size:=⟨_,rfl⟩
          have hEd:Ended w6 w5.heap.size (.slice (some ⟨bhv,ohv,none⟩) a0.length chv) (.int .i64 0) w7 Bgc:=.inl ⟨hV,hBc⟩
          rw[←hV,←hBc]
          clear hV hBc)
       | (obtain⟨w7,hV⟩:∃V,V=(w6.setCell ⟨w5.heap.size,0,none⟩ (.slice (some ⟨bhv,ohv,none⟩) a0.length chv)).setCell ⟨w5.heap.size,1,none⟩ (.int .i64 0):=⟨_,rfl⟩
          obtain⟨Bgc,hBc⟩:∃V,V=w5.heap.size:=⟨_,rfl⟩
          have hEd:Ended w6 w5.heap.size (.slice (some ⟨bhv,ohv,none⟩) a0.length chv) (.int .i64 0) w7 Bgc:=.inr ⟨hC0,hV,hBc⟩
          rw[←hV,←hBc]
          clear hV hBc hC0 cc0 cc1 cf0 cf1)
       have hbV:=hEd.below hbk_6 (Nat.le_refl _)
       have hb_7:=qbt hb_5 hbV
       have gc_7:=hEd.g2
       have hQ_7:=hQ_5.up hbV
       have hR_7:=hR_5.up hbV
       have hn_7:=hn_5.up hbV
       have hE_7:=hE_5.up hbV
       have hP_7:=hP_5.up hbV
       have hO_7:=hO_5.up hbV
       have hil_7:=hil_5.up hbV
       have hv_7:=hEd.val hv_6
       clear hEd
       have hvl:vs.length+1≤1000000:=by
        have h1:=okAll_len HK.out
        have h2:=HKl.out
        omega
       have hbs:w1.heap.size≤w7.heap.size:=Nat.le_trans hbase hbV.size
       obtain⟨x0,x1,x2,x3,x4,x5,x6⟩:=hQ_7.cells
       obtain⟨r0,r1,f0,f1⟩:=hR_7.cells
       obtain⟨n0,n1,n2,n3⟩:=hn_7.cells
       obtain p0:=hP_7.cells
       obtain⟨gca,gcb⟩:=gc_7.cells
       go_wp2_with (first | (at_builtin;refine append_got w7 rfl (.tmp 81) (.tmp 83) rfl w1.heap.size u11 vs rfl hO_7 a0 _ _ _ hv_7 rfl hvl hbs ?_;intro v2 w9 hO_9 hb9))
       go_roundw
       case rel=>exact⟨j+1,done++[s],todo,vs++[a0],by go_num,by omega,by rw[←HD.out];show _=_;simp,by simp[hdl],HK2,hO_9,hQ_7.bel hb9 (by omega),hR_7.belk hb9 (by omega),hn_7.bel hb9 (by omega),IL.bel hil_7 hb9 (hbp),hb_7.trans (hb9.mono (by omega)),Nat.le_trans hbs hb9.size⟩
       case measure=>simp[intOf];omega
  · have i2:¬(j:Int)<(K:Int)+1-1:=by omega
    obtain rfl:j=K:=by omega
    have ht:todo=[]:=by
     cases todo with
     | nil=>rfl
     | cons a l=>exfalso;have:=congrArg List.length HD.out;have h2:=HSL.out;simp at this;omega
    subst ht
    have HKs:Hid (okAll (evE es q f) ss= .ok vs):=by
     have:=HK.out
     rw[←HD.out,List.append_nil]
     exact this
    obtain⟨qv,cv,rfl⟩:=hO_5.len
    have hvK:vs.length=j:=(okAll_len HKs.out).trans HSL.out
    obtain⟨NM,hNM⟩:∃N,N=ss.map (nmAt e):=⟨_,rfl⟩
    have HNM:Hid (NM=ss.map (nmAt e)):=hNM
    have hnl:NM.length=vs.length:=by rw[hNM,List.length_map,HSL.out,hvK]
    have HC:=HT vs HKs.out
    clear HT hNM
    have hK2:vs.length≤200:=by rw[hvK];exact HKl.out
    have HLS:Hid (ss.length=vs.length):=HSL.out.trans hvK.symm
    subst hvK
    obtain⟨x0,x1,x2,x3,x4,x5,x6⟩:=hQ_5.cells
    obtain⟨r0,r1,f0,f1⟩:=hR_5.cells
    obtain⟨n0,n1,n2,n3⟩:=hn_5.cells
    go_wp2_with fail
    clear x0 x1 x2 x3 x4 x5 x6 r0 r1 f0 f1 n0 n1 n2 n3
    go_loopw [14,15,16] (fun lv nv i wr=>∃j:Nat,i= .int .i64 j∧j≤vs.length∧OL wr w5.heap.size lv (vs.take j)∧OT wr w5.heap.size nv (NM.take j)∧Below w5.heap.size w5 wr) (fun _ _ i _=>vs.length-(intOf i).toNat)
    case atStart=>exact⟨0,rfl,Nat.zero_le _,OL.nil _ _,Row1.nil _ _ _,Below.refl _ _⟩
    case round=>
     rename World=>w6
     obtain⟨j,rfl,hj2,hL_6,hT_6,hbk⟩:=hrel
     by_cases hlt:j<vs.length
     · have i2:(j:Int)<(vs.length:Int):=by omega
       have i3:(j:Int)<(vs.length:Int)+1:=by omega
       have hls:j<ss.length:=by rw[HLS.out];exact hlt
       obtain⟨g,cap,q1,c1,hu,hg,v0,_,hv⟩:=hO_5.at hlt
       cases hu
       have v06:=(hbk.cell (p:=⟨g,j*2,none⟩) hg).trans v0
       clear v0
       obtain⟨_,_,b1,o1,hvy,rfl,hb1,hvz⟩:=hv.head
       clear hvy hvz
       have hNT:NT w6 w5.heap.size (some ⟨b1,o1,none⟩) vs[j]:=⟨hv.nl.up hbk,.inr ⟨b1,o1,rfl,.inl hb1⟩⟩
       have hle1:=hv.le
       have hcm1:=hv.cm
       clear hv
       obtain⟨hk1,hk2⟩:=HPOS.out ss[j] (List.getElem_mem _)
       obtain⟨kk,hkk⟩:∃kk,pos e ss[j]=kk+1:=⟨pos e ss[j]-1,by omega⟩
       have hp6:bp<w5.heap.size∧w6.cell? ⟨bp,op+j,none⟩=some (.int .i64 ((kk:Int)+1)):=by
        rcases hil_5 with h | ⟨b,o,h,hb,h2⟩
        · simp at h
        · cases h
          refine⟨hb,(hbk.cell (p:=⟨bp,op+j,none⟩) hb).trans ?_⟩
          have:=h2 j (kk+1) (by rw[←hkk,List.getElem?_append_left (by simpa using hls)];simp[hls])
          rw[this]
          rfl
       obtain⟨hbp5,p6⟩:=hp6
       obtain⟨y,my,hy⟩:∃y my,e.drop kk=y::my:=⟨_,_,List.drop_eq_getElem_cons (by omega)⟩
       obtain⟨bq2,oq2,hq2,hbq2,hkl2,_,_,a2,_⟩:=node_at hE_5.nl hy
       cases hq2
       have a26:=(hbk.cell (p:=⟨bq,oq+kk*4+2,none⟩) hbq2).trans a2
       have HNj:Hid (NM.take (j+1)=NM.take j++[y.s]):=by
        show _=_
        have h1:j<NM.length:=by omega
        have h2:NM[j]=y.s:=by
         have:=HNM.out
         subst this
         rw[List.getElem_map]
         unfold nmAt
         rw[hkk,Nat.add_sub_cancel,hy]
         rfl
        rw[List.take_succ_eq_append_getElem h1,h2]
       have hk3:(kk:Int)+1-1=(kk:Int):=by omega
       have hk4:(kk:Int)<(e.length:Int):=by omega
       have htl:(vs.take j).length+1≤1099511627776:=by rw[List.length_take];omega
       have htn:(NM.take j).length+1≤1099511627776:=by rw[List.length_take];omega
       clear a2 hkk hk1 hk2 hy hkl2
       have hVL:Hid (vs.take (j+1)=vs.take j++[vs[j]]):=List.take_succ_eq_append_getElem hlt
       generalize vs[j]=vj at *
       generalize y.s=ys at *
       go_wp2_with (first
        | (at_builtin;refine append_listN w6 rfl (.tmp 99) (.tmp 105) rfl w5.heap.size u14 (vs.take j) rfl hL_6 vj vj.length rfl (some ⟨b1,o1,none⟩) c1 hNT hle1 hcm1 rfl htl hbk.size ?_;intro v1 w7 hL_7 hk7;have hT_7:OT w7 w5.heap.size u15 (NM.take j):=Row1.kept hT_6 hk7 (by decide);have hb7:Below w5.heap.size w5 w7:=hbk.trans hk7.bel;have p7:=(hk7.bel.cell (p:=⟨bp,op+j,none⟩) hbp5).trans p6;have a27:=(hk7.bel.cell (p:=⟨bq,oq+kk*4+2,none⟩) hbq2).trans a26;clear p6 a26 v06)
        | (at_builtin;refine append_text w7 rfl (.tmp 107) (.tmp 117) rfl w5.heap.size u15 (NM.take j) rfl hT_7 ys rfl htn hb7.size ?_;intro v2 w8 hT_8 hk8))
       have hL_8:=hL_7.kept hk8 (by decide) (by decide)
       go_roundw
       case rel=>exact⟨j+1,by go_num,by omega,by rw[hVL.out];exact hL_8,by rw[HNj.out];exact hT_8,hb7.trans hk8.bel⟩
       case measure=>simp[intOf];omega
     · have i2:¬(j:Int)<(vs.length:Int):=by omega
       obtain rfl:j=vs.length:=by omega
       obtain⟨q7,c7,rfl,hLL,_⟩:=hL_6.lists
       obtain⟨q8,c8,rfl,hTL,_⟩:=hT_6.texts
       have hvt:vs.take vs.length=vs:=List.take_length
       have hnt:NM.take vs.length=NM:=by rw[←hnl,List.take_length]
       rw[hvt]at hLL
       rw[hnt]at hTL
       rw[hvt,hnt,hnl]
       clear hvt hnt hL_6 hT_6
       have hR_6:=hR_5.up hbk
       have hn_6:=hn_5.up hbk
       have hb_6:=qbt hb_5 hbk
       obtain⟨n0,n1,n2,n3⟩:=hn_6.cells
       obtain⟨r0,r1,f0,f1⟩:=hR_6.cells
       go_wp2_with fail
       refine(HC _ _ _ hLL).mono ?_
       rintro _ w7 ⟨⟨gq,gn,gc,gk,rfl,hG⟩,hbb⟩
       have hb_7:=qbt hb_6 hbb
       have hR_7:=hR_6.up hbb
       clear r0 r1 f0 f1 n0 n1 n2 n3
       obtain⟨r0,r1,f0,f1⟩:=hR_7.cells
       go_wp2_with fail
       refine(refMade_any _ gq gn gc gk).mono ?_
       rintro _ w8 ⟨rfl,hbb2⟩
       have hb_8:=qbt hb_7 hbb2
       have hR_8:=hR_7.up hbb2
       have hG_8:=hG.up hbb2
       clear r0 r1 f0 f1
       obtain⟨r0,r1,f0,f1⟩:=hR_8.cells
       go_wp2
       exact bodyPost_ret (v:=.agg #[.slice gq gn gc,.int .i64 gk]) (by simp[results,Tryz.results12,go_sem,(hR_8.told _ _).1,(hR_8.told _ _).2]) rfl (hR_8.ret (by omega) hb_8 (hG_8))
theorem worth_rec (f:Nat)(r:List Nd)(hp:pastE (f+1) (x::m)=some r)(hK200:(prt x).toNat≤200)(ho1:1≤x.op)(ho4:¬x.op≤4)(ho8:x.op≠8)(ho11:x.op≠11)(ho12:x.op≠12)(ho13:x.op≠13)(R:Except Int (List Nd))(HRe:∀n,okAll (evE es q f) (ssOf f x m)= .error n→R= .error n)(hE0n:∀s∈ssOf f x m,∀n,evE es q f s= .error n→n≠0)(IH:∀s∈ssOf f x m,∀w1,WArg es ps q pq cq e pe w1→Calls Tryz.prog 12 #[.slice ps es.length cs,reqV q pq cq,.slice pe e.length ce,.int .i64 (pos e s:Int)] w1 fun en w'=>GRet (evE es q f s) en w'∧Below w1.heap.size w1 w')(ho5:x.op≠5)(ho6:x.op=6)(hpos:∀s∈ssOf f x m,1≤pos e s∧pos e s<e.length)(HT:∀vs,okAll (evE es q f) (ssOf f x m)= .ok vs→∀w1 p c q d,TL w1 p ((ssOf f x m).map (nmAt e))→LL w1 q vs→Calls Tryz.prog 29 #[.slice p vs.length c,.slice q vs.length d] w1 fun en w'=>GTup R en w'∧Below w1.heap.size w1 w'):
 Calls Tryz.prog 12 #[.slice ps es.length cs,reqV q pq cq,.slice pe e.length ce,.int .i64 (k:Int)] w fun en w'=>GRet (R) en w'∧Below w.heap.size w w':=by
 obtain⟨bq,oq,hpq,hbq,hkl,e0,e1,e2,e3,xw⟩:=node_at hE0.nl hk
 have i1:(k:Int)<(e.length:Int):=by omega
 have HPO:=fun w1 (h1:NL w1 pe e)=>refPartsOf_any f e pe ce k x m r w1 h1 hl hk hp
 have hsl:=ssOf_len (f:=f) (x:=x) (m:=m)
 have HKl:Hid ((prt x).toNat≤200):=hK200
 have e11:(x.op == 11)=false:=by simpa using ho11
 have e12:(x.op == 12)=false:=by simpa using ho12
 have e13:(x.op == 13)=false:=by simpa using ho13
 have e5:(x.op == 5)=false:=by simpa using ho5
 have e6:(x.op == 6)=true:=by simp[ho6]
 have HPOS:Hid (∀s∈ssOf f x m,1≤pos e s∧pos e s<e.length):=hpos
 clear hpos
 generalize (prt x).toNat=K at *
 generalize ssOf f x m=ss at *
 obtain⟨xo,xn,xs,xt⟩:=x
 dsimp only[Nd.val]at e0 e1 e2 e3 ho1 ho4 ho8 e11 e12 e13 e5 e6
 subst hpq
 obtain⟨W,hW⟩:∃W,W=((w.alloc (.cells #[.string q.who.t,.string q.who.i,.string q.act.t,.string q.act.i,.string q.what.t,.string q.what.i,.slice pq q.cx.length cq] 27)).alloc (.cells #[.slice none 0 0,.int .i64 0] 30)).alloc (.cells #[.int .i64 xo,.int .i64 xn,.string xs,.string xt] 53):=⟨_,rfl⟩
 have hb_0:Below w.heap.size w W:=by rw[hW];exact(((Below.refl _ _).alloc (Nat.le_refl _) _).alloc (by simp) _).alloc (by simp;omega) _
 have hQ_0:QR W w.heap.size q pq cq:=by rw[hW];exact((QR.new w q pq cq).up ((Below.refl _ _).alloc (Nat.le_refl _) _)).up ((Below.refl _ _).alloc (Nat.le_refl _) _)
 have hR_0:GR W (w.heap.size+1):=by rw[hW];exact(GR.new _ (by simp)).up ((Below.refl _ _).alloc (Nat.le_refl _) _)
 have hn_0:NB W (w.heap.size+1+1) xo xn xs xt:=by rw[hW];exact NB.new _ _ _ _ _ (by simp)
 have hWs:W.heap.size=w.heap.size+1+1+1:=by rw[hW];simp
 have hE_0:=hE0.up hb_0
 unfold reqV
 go_enter Tryz.func12,Tryz.ntmps12
 have HE0:Hid (WArg es ps q pq cq e (some ⟨bq,oq,none⟩) w):=hE0
 have HREr:Hid (∀n,okAll (evE es q f) ss= .error n→R= .error n):=HRe
 have HNZ:Hid (∀s∈ss,∀n,evE es q f s= .error n→n≠0):=hE0n
 unfold reqV at IH
 have HIH:Hid (∀s∈ss,∀w1,WArg es ps q pq cq e (some ⟨bq,oq,none⟩) w1→Calls Tryz.prog 12 #[.slice ps es.length cs,.agg #[.string q.who.t,.string q.who.i,.string q.act.t,.string q.act.i,.string q.what.t,.string q.what.i,.slice pq q.cx.length cq],.slice (some ⟨bq,oq,none⟩) e.length ce,.int .i64 (pos e s:Int)] w1 fun en w'=>GRet (evE es q f s) en w'∧Below w1.heap.size w1 w'):=IH
 have HSL:Hid (ss.length=K):=hsl
 clear hE0 hk hp ho11 ho12 ho13 ho5 ho6 HRe hE0n IH hsl
 obtain⟨x0,x1,x2,x3,x4,x5,x6⟩:=hQ_0.cells
 obtain⟨r0,r1,f0,f1⟩:=hR_0.cells
 obtain⟨n0,n1,n2,n3⟩:=hn_0.cells
 go_wp2_with fail
 rw[←hW]
 refine(HPO _ hE_0.nl).mono ?_
 rintro _ w1 ⟨⟨q3,c3,rfl,hil_1⟩,hbb⟩
 clear x0 x1 x2 x3 x4 x5 x6 r0 r1 f0 f1 n0 n1 n2 n3
 have hb_1:=qbt hb_0 hbb
 have hQ_1:=hQ_0.up hbb
 have hR_1:=hR_0.up hbb
 have hE_1:=hE_0.up hbb
 have hn_1:=hn_0.up hbb
 clear hbb hb_0 hQ_0 hR_0 hE_0 hn_0
 obtain⟨bp,op,rfl⟩:∃b o,q3=some ⟨b,o,none⟩:=by
  rcases hil_1 with h | ⟨b,o,h,_⟩
  · simp at h
  · exact⟨b,o,h⟩
 obtain⟨x0,x1,x2,x3,x4,x5,x6⟩:=hQ_1.cells
 obtain⟨r0,r1,f0,f1⟩:=hR_1.cells
 obtain⟨n0,n1,n2,n3⟩:=hn_1.cells
 have hKi:((K:Int)+1)-1=(K:Int):=by omega
 go_wp2_with fail
 clear e0 e1 e2 e3 HPO hW x0 x1 x2 x3 x4 x5 x6 r0 r1 f0 f1 n0 n1 n2 n3
 have hlow:w.heap.size+1+1<w1.heap.size:=hn_1.lt
 have hbp:bp<w1.heap.size:=by
  rcases hil_1 with h | ⟨b,o,h,hb,_⟩
  · simp at h
  · cases h;exact hb
 go_loopw [11,12] (fun ov i wr=>∃(j:Nat) (done todo vs:List (List Nd)),i= .int .i64 j∧j≤K∧Hid (done++todo=ss)∧done.length=j∧Hid (okAll (evE es q f) done= .ok vs)∧OG wr w1.heap.size ov vs∧QR wr w.heap.size q pq cq∧GR wr (w.heap.size+1)∧NB wr (w.heap.size+1+1) xo xn xs xt∧IL wr (some ⟨bp,op,none⟩) (ss.map (pos e)++[pos e r])∧Below w.heap.size w wr∧w1.heap.size≤wr.heap.size) (fun _ i _=>K-(intOf i).toNat)
 case atStart=>exact⟨0,[],ss,[],rfl,Nat.zero_le _,rfl,rfl,rfl,OG.nil _ _,hQ_1,hR_1,hn_1,hil_1,hb_1,Nat.le_refl _⟩
 case round=>
  rename World=>w5
  obtain⟨j,done,todo,vs,rfl,hj,HD,hdl,HK,hO_5,hQ_5,hR_5,hn_5,hil_5,hb_5,hbase⟩:=hrel
  have hE_5:=HE0.out.up hb_5
  by_cases hlt:j<K
  · have i2:(j:Int)<(K:Int)+1-1:=by omega
    have i3:(j:Int)<(K:Int)+1:=by omega
    obtain⟨s,todo,rfl⟩:∃a l,todo=a::l:=by
     cases todo with
     | nil=>exfalso;have:=congrArg List.length HD.out;have h2:=HSL.out;simp at this;omega
     | cons a l=>exact⟨a,l,rfl⟩
    have hsm:s∈ss:=by rw[←HD.out];simp
    have HW0:=HIH.out s hsm
    obtain⟨kj,hkj⟩:∃n,n=pos e s:=⟨_,rfl⟩
    rw[←hkj]at HW0
    have hP_5:P1 w5 bp (op+j) (.int .i64 (kj:Int)):=by
     rcases hil_5 with h | ⟨b,o,h,hb,h2⟩
     · simp at h
     · cases h
       refine⟨hb,h2 j kj ?_⟩
       rw[hkj,←HD.out,←hdl]
       simp
    have hPlt:=hP_5.lt
    have hKb:K≤200:=HKl.out
    have HV0:Hid (∀n,evE es q f s= .error n→n≠0):=HNZ.out s hsm
    cases hev:evE es q f s with
    | error nz=>
      have HRn:Hid (R= .error nz):=HREr.out nz (by rw[←HD.out];exact okAll_stop HK.out hev)
      have hnz:nz≠0:=HV0.out nz hev
      rw[hev]at HW0
      replace HW0:=fun w1 h1=>(HW0 w1 h1).mono (R':=fun en w'=>en= .returned (.agg #[.slice none 0 0,.int .i64 nz])∧Below w1.heap.size w1 w') fun en w' g=>⟨g.1,g.2⟩
      clear HV0 hev HNZ HIH HREr hsm hkj hj hlt
      obtain⟨x0,x1,x2,x3,x4,x5,x6⟩:=hQ_5.cells
      obtain⟨r0,r1,f0,f1⟩:=hR_5.cells
      obtain⟨n0,n1,n2,n3⟩:=hn_5.cells
      obtain p0:=hP_5.cells
      go_wp2_with fail
      have HL:w.heap.size<w5.heap.size∧bp<w5.heap.size:=⟨by have:=hR_5.lt;have:=hPlt;have:=hb_5.size;omega,by have:=hR_5.lt;have:=hPlt;have:=hb_5.size;omega⟩
      go_region_held (HQ1 w.heap.size q pq cq bp (op+j) (.int .i64 (kj:Int))) (first | exact QP1.b hQ_6 hP_6 (GR.bel (Nat.le_refl w5.heap.size) _ _) HL.1 HL.2 | exact QP1.b hQ_6 hP_6 ((Below.refl _ _).setCell (p:=⟨w5.heap.size,0,none⟩) (Nat.le_refl _) _) HL.1 HL.2 | exact QP1.u hQ_6 hP_6 zbx | exact QP1.u hQ_5 hP_5 zbx) (first
       | (go_at_call 12
          refine(HW0 _ (WArg.up hE_5 zbx)).mono ?_
          rintro _ w6 ⟨rfl,hbb_6⟩
          have hbk_6:Below w5.heap.size w5 w6:=qbt zbx hbb_6
          have hb_6:=qbt hb_5 hbk_6
          have hQ_6:=hQ_5.up hbk_6
          have hR_6:=hR_5.up hbk_6
          have hn_6:=hn_5.up hbk_6
          have hE_6:=hE_5.up hbk_6
          have hP_6:=hP_5.up hbk_6
          have hO_6:=hO_5.up hbk_6
          have hil_6:=hil_5.up hbk_6
          first | (have hC0:GR w6 (w5.heap.size):=GR.up (GR.up (GR.new w5 rfl) (zbD (Below.refl _ _))) hbb_6;obtain⟨cc0,cc1,cf0,cf1⟩:=hC0.cells) | skip))
      all_goals
       first
       | (obtain⟨w7,hV⟩:∃V,V=w6.alloc (.cells #[.slice none 0 0,.int .i64 nz] 30):=⟨_,rfl⟩
          obtain⟨Bgc,hBc⟩:∃V,V=w6.heap.size:=⟨_,rfl⟩
          have hEd:Ended w6 w5.heap.size (.slice none 0 0) (.int .i64 nz) w7 Bgc:=.inl ⟨hV,hBc⟩
          rw[←hV,←hBc]
          clear hV hBc)
       | (obtain⟨w7,hV⟩:∃V,V=(w6.setCell ⟨w5.heap.size,0,none⟩ (.slice none 0 0)).setCell ⟨w5.heap.size,1,none⟩ (.int .i64 nz):=⟨_,rfl⟩
          obtain⟨Bgc,hBc⟩:∃V,V=w5.heap.size:=⟨_,rfl⟩
          have hEd:Ended w6 w5.heap.size (.slice none 0 0) (.int .i64 nz) w7 Bgc:=.inr ⟨hC0,hV,hBc⟩
          rw[←hV,←hBc]
          clear hV hBc hC0 cc0 cc1 cf0 cf1)
       have hbV:=hEd.below hbk_6 (Nat.le_refl _)
       have hb_7:=qbt hb_5 hbV
       have gc_7:=hEd.g2
       have hQ_7:=hQ_5.up hbV
       have hR_7:=hR_5.up hbV
       have hn_7:=hn_5.up hbV
       have hE_7:=hE_5.up hbV
       have hP_7:=hP_5.up hbV
       have hO_7:=hO_5.up hbV
       have hil_7:=hil_5.up hbV
       clear hEd
       obtain⟨x0,x1,x2,x3,x4,x5,x6⟩:=hQ_7.cells
       obtain⟨r0,r1,f0,f1⟩:=hR_7.cells
       obtain⟨n0,n1,n2,n3⟩:=hn_7.cells
       obtain p0:=hP_7.cells
       obtain⟨gca,gcb⟩:=gc_7.cells
       go_wp2
       rw[HRn.out]
       exact bodyPost_ret (v:=.agg #[.slice none 0 0,.int .i64 nz]) (by simp[results,Tryz.results12,go_sem,(hR_7.told _ _).1,(hR_7.told _ _).2]) rfl (hR_7.ret (by omega) hb_7 rfl)
    | ok a0=>
      have HK2:Hid (okAll (evE es q f) (done++[s])= .ok (vs++[a0])):=okAll_snoc HK.out hev
      rw[hev]at HW0
      replace HW0:=fun w1 h1=>(HW0 w1 h1).mono (R':=fun en w'=>(∃b off c,en= .returned (.agg #[.slice (some ⟨b,off,none⟩) a0.length c,.int .i64 0])∧VArg w' a0 a0.length (some ⟨b,off,none⟩) c)∧Below w1.heap.size w1 w') fun en w' g=>⟨gret_ok g.1,g.2⟩
      clear HV0 hev HNZ HIH HREr hsm hkj
      obtain⟨x0,x1,x2,x3,x4,x5,x6⟩:=hQ_5.cells
      obtain⟨r0,r1,f0,f1⟩:=hR_5.cells
      obtain⟨n0,n1,n2,n3⟩:=hn_5.cells
      obtain p0:=hP_5.cells
      go_wp2_with fail
      have HL:w.heap.size<w5.heap.size∧bp<w5.heap.size:=⟨by have:=hR_5.lt;have:=hPlt;have:=hb_5.size;omega,by have:=hR_5.lt;have:=hPlt;have:=hb_5.size;omega⟩
      go_region_held (HQ1 w.heap.size q pq cq bp (op+j) (.int .i64 (kj:Int))) (first | exact QP1.b hQ_6 hP_6 (GR.bel (Nat.le_refl w5.heap.size) _ _) HL.1 HL.2 | exact QP1.b hQ_6 hP_6 ((Below.refl _ _).setCell (p:=⟨w5.heap.size,0,none⟩) (Nat.le_refl _) _) HL.1 HL.2 | exact QP1.u hQ_6 hP_6 zbx | exact QP1.u hQ_5 hP_5 zbx) (first
       | (go_at_call 12
          refine(HW0 _ (WArg.up hE_5 zbx)).mono ?_
          rintro _ w6 ⟨⟨bhv,ohv,chv,rfl,hv_6⟩,hbb_6⟩
          have hbk_6:Below w5.heap.size w5 w6:=qbt zbx hbb_6
          have hb_6:=qbt hb_5 hbk_6
          have hQ_6:=hQ_5.up hbk_6
          have hR_6:=hR_5.up hbk_6
          have hn_6:=hn_5.up hbk_6
          have hE_6:=hE_5.up hbk_6
          have hP_6:=hP_5.up hbk_6
          have hO_6:=hO_5.up hbk_6
          have hil_6:=hil_5.up hbk_6
          first | (have hC0:GR w6 (w5.heap.size):=GR.up (GR.up (GR.new w5 rfl) (zbD (Below.refl _ _))) hbb_6;obtain⟨cc0,cc1,cf0,cf1⟩:=hC0.cells) | skip))
      all_goals
       first
       | (obtain⟨w7,hV⟩:∃V,V=w6.alloc (.cells #[.slice (some ⟨bhv,ohv,none⟩) a0.length chv,.int .i64 0] 30):=⟨_,rfl⟩
          obtain⟨Bgc,hBc⟩:∃V,V=w6.heap.size:=⟨_,rfl⟩
          have hEd:Ended w6 w5.heap.size (.slice (some ⟨bhv,ohv,none⟩) a0.length chv) (.int .i64 0) w7 Bgc:=.inl ⟨hV,hBc⟩
          rw[←hV,←hBc]
          clear hV hBc)
       | (obtain⟨w7,hV⟩:∃V,V=(w6.setCell ⟨w5.heap.size,0,none⟩ (.slice (some ⟨bhv,ohv,none⟩) a0.length chv)).setCell ⟨w5.heap.size,1,none⟩ (.int .i64 0):=⟨_,rfl⟩
          obtain⟨Bgc,hBc⟩:∃V,V=w5.heap.size:=⟨_,rfl⟩
          have hEd:Ended w6 w5.heap.size (.slice (some ⟨bhv,ohv,none⟩) a0.length chv) (.int .i64 0) w7 Bgc:=.inr ⟨hC0,hV,hBc⟩
          rw[←hV,←hBc]
          clear hV hBc hC0 cc0 cc1 cf0 cf1)
       have hbV:=hEd.below hbk_6 (Nat.le_refl _)
       have hb_7:=qbt hb_5 hbV
       have gc_7:=hEd.g2
       have hQ_7:=hQ_5.up hbV
       have hR_7:=hR_5.up hbV
       have hn_7:=hn_5.up hbV
       have hE_7:=hE_5.up hbV
       have hP_7:=hP_5.up hbV
       have hO_7:=hO_5.up hbV
       have hil_7:=hil_5.up hbV
       have hv_7:=hEd.val hv_6
       clear hEd
       have hvl:vs.length+1≤1000000:=by
        have h1:=okAll_len HK.out
        have h2:=HKl.out
        omega
       have hbs:w1.heap.size≤w7.heap.size:=Nat.le_trans hbase hbV.size
       obtain⟨x0,x1,x2,x3,x4,x5,x6⟩:=hQ_7.cells
       obtain⟨r0,r1,f0,f1⟩:=hR_7.cells
       obtain⟨n0,n1,n2,n3⟩:=hn_7.cells
       obtain p0:=hP_7.cells
       obtain⟨gca,gcb⟩:=gc_7.cells
       go_wp2_with (first | (at_builtin;refine append_got w7 rfl (.tmp 81) (.tmp 83) rfl w1.heap.size u11 vs rfl hO_7 a0 _ _ _ hv_7 rfl hvl hbs ?_;intro v2 w9 hO_9 hb9))
       go_roundw
       case rel=>exact⟨j+1,done++[s],todo,vs++[a0],by go_num,by omega,by rw[←HD.out];show _=_;simp,by simp[hdl],HK2,hO_9,hQ_7.bel hb9 (by omega),hR_7.belk hb9 (by omega),hn_7.bel hb9 (by omega),IL.bel hil_7 hb9 (hbp),hb_7.trans (hb9.mono (by omega)),Nat.le_trans hbs hb9.size⟩
       case measure=>simp[intOf];omega
  · have i2:¬(j:Int)<(K:Int)+1-1:=by omega
    obtain rfl:j=K:=by omega
    have ht:todo=[]:=by
     cases todo with
     | nil=>rfl
     | cons a l=>exfalso;have:=congrArg List.length HD.out;have h2:=HSL.out;simp at this;omega
    subst ht
    have HKs:Hid (okAll (evE es q f) ss= .ok vs):=by
     have:=HK.out
     rw[←HD.out,List.append_nil]
     exact this
    obtain⟨qv,cv,rfl⟩:=hO_5.len
    have hvK:vs.length=j:=(okAll_len HKs.out).trans HSL.out
    obtain⟨NM,hNM⟩:∃N,N=ss.map (nmAt e):=⟨_,rfl⟩
    have HNM:Hid (NM=ss.map (nmAt e)):=hNM
    have hnl:NM.length=vs.length:=by rw[hNM,List.length_map,HSL.out,hvK]
    have HC:=HT vs HKs.out
    rw[←hNM]at HC
    clear HT hNM
    have hK2:vs.length≤200:=by rw[hvK];exact HKl.out
    have HLS:Hid (ss.length=vs.length):=HSL.out.trans hvK.symm
    subst hvK
    obtain⟨x0,x1,x2,x3,x4,x5,x6⟩:=hQ_5.cells
    obtain⟨r0,r1,f0,f1⟩:=hR_5.cells
    obtain⟨n0,n1,n2,n3⟩:=hn_5.cells
    go_wp2_with fail
    clear x0 x1 x2 x3 x4 x5 x6 r0 r1 f0 f1 n0 n1 n2 n3
    go_loopw [14,15,16] (fun lv nv i wr=>∃j:Nat,i= .int .i64 j∧j≤vs.length∧OL wr w5.heap.size lv (vs.take j)∧OT wr w5.heap.size nv (NM.take j)∧Below w5.heap.size w5 wr) (fun _ _ i _=>vs.length-(intOf i).toNat)
    case atStart=>exact⟨0,rfl,Nat.zero_le _,OL.nil _ _,Row1.nil _ _ _,Below.refl _ _⟩
    case round=>
     rename World=>w6
     obtain⟨j,rfl,hj2,hL_6,hT_6,hbk⟩:=hrel
     by_cases hlt:j<vs.length
     · have i2:(j:Int)<(vs.length:Int):=by omega
       have i3:(j:Int)<(vs.length:Int)+1:=by omega
       have hls:j<ss.length:=by rw[HLS.out];exact hlt
       obtain⟨g,cap,q1,c1,hu,hg,v0,_,hv⟩:=hO_5.at hlt
       cases hu
       have v06:=(hbk.cell (p:=⟨g,j*2,none⟩) hg).trans v0
       clear v0
       obtain⟨_,_,b1,o1,hvy,rfl,hb1,hvz⟩:=hv.head
       clear hvy hvz
       have hNT:NT w6 w5.heap.size (some ⟨b1,o1,none⟩) vs[j]:=⟨hv.nl.up hbk,.inr ⟨b1,o1,rfl,.inl hb1⟩⟩
       have hle1:=hv.le
       have hcm1:=hv.cm
       clear hv
       obtain⟨hk1,hk2⟩:=HPOS.out ss[j] (List.getElem_mem _)
       obtain⟨kk,hkk⟩:∃kk,pos e ss[j]=kk+1:=⟨pos e ss[j]-1,by omega⟩
       have hp6:bp<w5.heap.size∧w6.cell? ⟨bp,op+j,none⟩=some (.int .i64 ((kk:Int)+1)):=by
        rcases hil_5 with h | ⟨b,o,h,hb,h2⟩
        · simp at h
        · cases h
          refine⟨hb,(hbk.cell (p:=⟨bp,op+j,none⟩) hb).trans ?_⟩
          have:=h2 j (kk+1) (by rw[←hkk,List.getElem?_append_left (by simpa using hls)];simp[hls])
          rw[this]
          rfl
       obtain⟨hbp5,p6⟩:=hp6
       obtain⟨y,my,hy⟩:∃y my,e.drop kk=y::my:=⟨_,_,List.drop_eq_getElem_cons (by omega)⟩
       obtain⟨bq2,oq2,hq2,hbq2,hkl2,_,_,a2,_⟩:=node_at hE_5.nl hy
       cases hq2
       have a26:=(hbk.cell (p:=⟨bq,oq+kk*4+2,none⟩) hbq2).trans a2
       have HNj:Hid (NM.take (j+1)=NM.take j++[y.s]):=by
        show _=_
        have h1:j<NM.length:=by omega
        have h2:NM[j]=y.s:=by
         have:=HNM.out
         subst this
         rw[List.getElem_map]
         unfold nmAt
         rw[hkk,Nat.add_sub_cancel,hy]
         rfl
        rw[List.take_succ_eq_append_getElem h1,h2]
       have hk3:(kk:Int)+1-1=(kk:Int):=by omega
       have hk4:(kk:Int)<(e.length:Int):=by omega
       have htl:(vs.take j).length+1≤1099511627776:=by rw[List.length_take];omega
       have htn:(NM.take j).length+1≤1099511627776:=by rw[List.length_take];omega
       clear a2 hkk hk1 hk2 hy hkl2
       have hVL:Hid (vs.take (j+1)=vs.take j++[vs[j]]):=List.take_succ_eq_append_getElem hlt
       generalize vs[j]=vj at *
       generalize y.s=ys at *
       go_wp2_with (first
        | (at_builtin;refine append_listN w6 rfl (.tmp 99) (.tmp 105) rfl w5.heap.size u14 (vs.take j) rfl hL_6 vj vj.length rfl (some ⟨b1,o1,none⟩) c1 hNT hle1 hcm1 rfl htl hbk.size ?_;intro v1 w7 hL_7 hk7;have hT_7:OT w7 w5.heap.size u15 (NM.take j):=Row1.kept hT_6 hk7 (by decide);have hb7:Below w5.heap.size w5 w7:=hbk.trans hk7.bel;have p7:=(hk7.bel.cell (p:=⟨bp,op+j,none⟩) hbp5).trans p6;have a27:=(hk7.bel.cell (p:=⟨bq,oq+kk*4+2,none⟩) hbq2).trans a26;clear p6 a26 v06)
        | (at_builtin;refine append_text w7 rfl (.tmp 107) (.tmp 117) rfl w5.heap.size u15 (NM.take j) rfl hT_7 ys rfl htn hb7.size ?_;intro v2 w8 hT_8 hk8))
       have hL_8:=hL_7.kept hk8 (by decide) (by decide)
       go_roundw
       case rel=>exact⟨j+1,by go_num,by omega,by rw[hVL.out];exact hL_8,by rw[HNj.out];exact hT_8,hb7.trans hk8.bel⟩
       case measure=>simp[intOf];omega
     · have i2:¬(j:Int)<(vs.length:Int):=by omega
       obtain rfl:j=vs.length:=by omega
       obtain⟨q7,c7,rfl,hLL,_⟩:=hL_6.lists
       obtain⟨q8,c8,rfl,hTL,_⟩:=hT_6.texts
       have hvt:vs.take vs.length=vs:=List.take_length
       have hnt:NM.take vs.length=NM:=by rw[←hnl,List.take_length]
       rw[hvt]at hLL
       rw[hnt]at hTL
       rw[hvt,hnt,hnl]
       clear hvt hnt hL_6 hT_6
       have hR_6:=hR_5.up hbk
       have hn_6:=hn_5.up hbk
       have hb_6:=qbt hb_5 hbk
       obtain⟨n0,n1,n2,n3⟩:=hn_6.cells
       obtain⟨r0,r1,f0,f1⟩:=hR_6.cells
       go_wp2_with fail
       refine(HC _ _ _ _ _ hTL hLL).mono ?_
       rintro _ w7 ⟨⟨gq,gn,gc,gk,rfl,hG⟩,hbb⟩
       have hb_7:=qbt hb_6 hbb
       have hR_7:=hR_6.up hbb
       clear r0 r1 f0 f1 n0 n1 n2 n3
       obtain⟨r0,r1,f0,f1⟩:=hR_7.cells
       go_wp2_with fail
       refine(refMade_any _ gq gn gc gk).mono ?_
       rintro _ w8 ⟨rfl,hbb2⟩
       have hb_8:=qbt hb_7 hbb2
       have hR_8:=hR_7.up hbb2
       have hG_8:=hG.up hbb2
       clear r0 r1 f0 f1
       obtain⟨r0,r1,f0,f1⟩:=hR_8.cells
       go_wp2
       exact bodyPost_ret (v:=.agg #[.slice gq gn gc,.int .i64 gk]) (by simp[results,Tryz.results12,go_sem,(hR_8.told _ _).1,(hR_8.told _ _).2]) rfl (hR_8.ret (by omega) hb_8 (hG_8))
end
end Go.Proofs.YtnbkfggmpiccjaaGreatDoor
