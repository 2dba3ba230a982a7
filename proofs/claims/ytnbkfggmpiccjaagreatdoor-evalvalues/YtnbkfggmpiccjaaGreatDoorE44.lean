import Derived.Test.YtnbkfggmpiccjaaGreatDoorE40
import Derived.Test.YtnbkfggmpiccjaaGreatDoorE43
import Derived.Test.YtnbkfggmpiccjaaGreatDoorE28
import Derived.Test.YtnbkfggmpiccjaaGreatDoorE27
import Derived.Test.YtnbkfggmpiccjaaGreatDoorE11
import Derived.Test.YtnbkfggmpiccjaaGreatDoorE23
import Derived.Deep.RegionHeld
import Derived.Test.YtnbkfggmpiccjaaGreatDoorE22
set_option linter.unusedVariables false
set_option maxHeartbeats 12000000
namespace Go.Proofs.YtnbkfggmpiccjaaGreatDoor
open Go.RowKit
set_option linter.unusedSimpArgs false
set_option maxRecDepth 100000
structure EvArg (w:World)(es:List En)(ps:Option Addr)(q:Rq)(pq:Option Addr)(cq:Nat):Prop where
 el:EL w ps es
 rq:RqArg w q pq cq
 er:ErrVar w
 esN:∀e∈es,N64 e.nd
 cxN:N64 q.cx
theorem EvArg.up {w w':World}{es:List En}{ps:Option Addr}{q:Rq}{pq:Option Addr}{cq:Nat}(h:EvArg w es ps q pq cq)(k:Below w.heap.size w w'):EvArg w' es ps q pq cq:=
 ⟨h.el.up k,⟨h.rq.u0,h.rq.u1,h.rq.u2,h.rq.nl.up k,h.rq.le,h.rq.cm⟩,errVar_below h.er k (Nat.le_refl _),h.esN,h.cxN⟩
theorem req_cells {w:World}{B:Nat}{a0 a1 a2 a3 a4 a5 a6:Value}{T:TypeId}(h:w.heap[B]? =some (.cells #[a0,a1,a2,a3,a4,a5,a6] T (0,0))):
 w.cell? ⟨B,0,none⟩=some a0∧w.cell? ⟨B,1,none⟩=some a1∧w.cell? ⟨B,2,none⟩=some a2∧w.cell? ⟨B,3,none⟩=some a3∧w.cell? ⟨B,4,none⟩=some a4∧w.cell? ⟨B,5,none⟩=some a5∧w.cell? ⟨B,6,none⟩=some a6:=by
 simp[World.cell?, h]
theorem evalue_any (es:List En)(ps:Option Addr)(cs:Nat)(q:Rq)(pq:Option Addr)(cq:Nat)(e:List Nd)(p:Option Addr)(c:Nat)(w:World)
 (ha:EvArg w es ps q pq cq) (he:NL w p e) (hl:e.length≤maxLen) (hN:N64 e):
 Calls Tryz.prog 5 #[.slice ps es.length cs,reqV q pq cq,.slice p e.length c] w fun r w'=>ValE (valueL es q e) r w'∧Below w.heap.size w w':=by
 have HE:=fun w1 hl1=>entCheck_any es ps cs w1 hl1
 have HA:=fun w1 h1=>ask_any q pq cq w1 h1
 have HT:=fun w1 h1=>tcheck_any e p c w1 h1 hl
 obtain⟨W,hW⟩:∃W,W=w.alloc (.cells #[.string q.who.t,.string q.who.i,.string q.act.t,.string q.act.i,.string q.what.t,.string q.what.i,.slice pq q.cx.length cq] 27):=⟨_,rfl⟩
 have hbW:Below w.heap.size w W:=by rw[hW];exact(Below.refl _ _).alloc (Nat.le_refl _) _
 have hWs:W.heap.size=w.heap.size+1:=by rw[hW];simp
 have hWc:W.heap[w.heap.size]? =some (.cells #[.string q.who.t,.string q.who.i,.string q.act.t,.string q.act.i,.string q.what.t,.string q.what.i,.slice pq q.cx.length cq] 27 (0,0)):=by rw[hW];exact new_at rfl
 have haW:=ha.up hbW
 have heW:=he.up hbW
 unfold reqV at *
 by_cases h1:stf es=0
 · rw[eV_nil h1]at HE
   by_cases h2:askf q=0
   · rw[eV_nil h2]at HA
     by_cases h3:xfault e=0
     · rw[eV_nil h3]at HT
       have HV:Hid (valueL es q e=evE es q (e.length+1) e):=by show _=_;unfold valueL;rw[if_pos h1,if_pos h2,if_pos h3]
       have hpe:pastE (e.length+1) e=some []:=(xfault_zero h3).2
       have hm:EnvOk es q:=⟨h1,h2,ha.esN,ha.cxN⟩
       have hcq:=ha.rq.le
       have hcm:=ha.rq.cm
       obtain⟨R,hR⟩:∃R,R=evE es q (e.length+1) e:=⟨_,rfl⟩
       rw[HV.out,←hR]
       go_enter Tryz.func5,Tryz.ntmps5
       go_wp2_with fail
       rw[←hW]
       refine(HE _ haW.el).mono ?_
       rintro _ w1 ⟨rfl,hb1⟩
       have ha1:=haW.up hb1
       have r0:=(hb1.block w.heap.size (by omega)).trans hWc
       obtain⟨x0,x1,x2,x3,x4,x5,x6⟩:=req_cells r0
       go_wp2_with fail
       refine(HA _ ha1.rq).mono ?_
       rintro _ w2 ⟨rfl,hb2⟩
       have ha2:=ha1.up hb2
       have he2:=(heW.up hb1).up hb2
       clear x0 x1 x2 x3 x4 x5 x6
       have r1:=(hb2.block w.heap.size (by have:=hb1.size;omega)).trans r0
       go_wp2_with fail
       refine(HT _ he2).mono ?_
       rintro _ w3 ⟨rfl,hb3⟩
       have ha3:=ha2.up hb3
       have he3:=he2.up hb3
       have r2:=(hb3.block w.heap.size (by have:=hb1.size;have:=hb2.size;omega)).trans r1
       obtain⟨x0,x1,x2,x3,x4,x5,x6⟩:=req_cells r2
       have hb03:=qbt hbW (qbt (qbt hb1 hb2) hb3)
       let E:EvEnv:=⟨w3,es,ps,cs,q,pq,cq,e,p,c⟩
       have ho:E.Ok:=⟨ha3.el,ha3.rq.nl,he3,hm,h3,hN,ha3.er,⟨hcq,hcm⟩⟩
       have hs:AS E (w3.alloc (.cells #[.slice ps es.length cs,.string q.who.t,.string q.who.i,.string q.act.t,.string q.act.i,.string q.what.t,.string q.what.i,.slice pq q.cx.length cq,.slice p e.length c,.int .i64 0] 50)) w3.heap.size 0:=
        ⟨new_at rfl,(Below.refl _ _).alloc (Nat.le_refl _) _,Nat.le_refl _,Nat.zero_le _⟩
       have HO:=valueOf_any (all_value (B:=w3.heap.size) ho (e.length+1) (by show e.length+1≤e.length+2;omega)) _ hs hpe
       have hb4:Below w3.heap.size w3 (w3.alloc (.cells #[.slice ps es.length cs,.string q.who.t,.string q.who.i,.string q.act.t,.string q.act.i,.string q.what.t,.string q.what.i,.slice pq q.cx.length cq,.slice p e.length c,.int .i64 0] 50)):=(Below.refl _ _).alloc (Nat.le_refl _) _
       have hlt:=hs.lt
       clear hs
       have e5:evE E.es E.q (e.length+1) E.e=evE es q (e.length+1) e:=rfl
       rw[e5,←hR]at HO
       clear HV hm ho h1 h2 h3 hpe hN e5 hR
       go_wp2_with fail
       refine HO.mono ?_
       intro e9 w9 h9
       obtain⟨hv,hx⟩:=h9
       have hb9:=qbt hb03 (hb4.trans (hx.below (Nat.le_refl _) hlt))
       cases R with
       | ok v=>
         obtain⟨q9,c9,rfl,h9⟩:=hv
         go_wp2
         go_ret2
         exact⟨⟨q9,c9,rfl,h9⟩,hb9⟩
       | error n=>
         obtain rfl:=hv
         go_wp2
         go_ret2
         exact⟨rfl,hb9⟩
     · rw[eV_not h3]at HT
       have HV:Hid (valueL es q e= .error (xfault e)):=by show _=_;unfold valueL;rw[if_pos h1,if_pos h2,if_neg h3]
       clear h1 h2 h3 hN
       rw[HV.out]
       clear HV
       generalize xfault e=n at *
       go_enter Tryz.func5,Tryz.ntmps5
       go_wp2_with fail
       rw[←hW]
       refine(HE _ haW.el).mono ?_
       rintro _ w1 ⟨rfl,hb1⟩
       have ha1:=haW.up hb1
       have r0:=(hb1.block w.heap.size (by omega)).trans hWc
       obtain⟨x0,x1,x2,x3,x4,x5,x6⟩:=req_cells r0
       go_wp2_with fail
       refine(HA _ ha1.rq).mono ?_
       rintro _ w2 ⟨rfl,hb2⟩
       have he2:=(heW.up hb1).up hb2
       clear x0 x1 x2 x3 x4 x5 x6
       go_wp2_with fail
       refine(HT _ he2).mono ?_
       rintro _ w3 ⟨rfl,hb3⟩
       have hb03:=qbt hbW (qbt (qbt hb1 hb2) hb3)
       go_wp2
       go_ret2
       exact⟨rfl,hb03⟩
   · rw[eV_not h2]at HA
     have HV:Hid (valueL es q e= .error (askf q)):=by show _=_;unfold valueL;rw[if_pos h1,if_neg h2]
     clear h1 h2 hN
     rw[HV.out]
     clear HV
     generalize askf q=n at *
     go_enter Tryz.func5,Tryz.ntmps5
     go_wp2_with fail
     rw[←hW]
     refine(HE _ haW.el).mono ?_
     rintro _ w1 ⟨rfl,hb1⟩
     have ha1:=haW.up hb1
     have r0:=(hb1.block w.heap.size (by omega)).trans hWc
     obtain⟨x0,x1,x2,x3,x4,x5,x6⟩:=req_cells r0
     go_wp2_with fail
     refine(HA _ ha1.rq).mono ?_
     rintro _ w2 ⟨rfl,hb2⟩
     clear x0 x1 x2 x3 x4 x5 x6
     have hb03:=qbt hbW (qbt hb1 hb2)
     go_wp2
     go_ret2
     exact⟨rfl,hb03⟩
 · rw[eV_not h1]at HE
   have HV:Hid (valueL es q e= .error (stf es)):=by show _=_;unfold valueL;rw[if_neg h1]
   clear h1 hN
   rw[HV.out]
   clear HV
   generalize stf es=n at *
   go_enter Tryz.func5,Tryz.ntmps5
   go_wp2_with fail
   rw[←hW]
   refine(HE _ haW.el).mono ?_
   rintro _ w1 ⟨rfl,hb1⟩
   have hb03:=qbt hbW hb1
   go_wp2
   go_ret2
   exact⟨rfl,hb03⟩
structure LArg (w:World)(a:List Nd)(n:Nat)(q:Option Addr)(c:Nat):Prop where
 len:a.length=n
 nl:NL w q a
 le:n≤c
 cm:c≤maxLen
 num:N64 a
def Ans (w:World)(R:Except Int (List Nd))(v e:Value):Prop:=
 match R with
 | .ok a=>∃q c,v= .slice q a.length c∧e= .nilIface∧VArg w a a.length q c
 | .error n=>v= .slice none 0 0∧e= .iface 28 (.int .i64 n)
theorem ValE.ans {R:Except Int (List Nd)}{e:Ending}{w':World}(h:ValE R e w'):∃v f,e= .returned (.tuple #[v,f])∧Ans w' R v f:=by
 cases R with
 | ok a=>obtain⟨q,c,rfl,h⟩:=h;exact⟨_,_,rfl,q,c,rfl,rfl,h⟩
 | error n=>exact⟨_,_,h,rfl,rfl⟩
theorem sameO {a:List Nd}{n:Nat}(hn:a.length=n){p q:Option Addr}(c1 c2:Nat)(w:World)(ha:NL w p a)(hb:NL w q a)(hl:n≤1000):
 Calls Tryz.prog 7 #[.slice p n c1,.slice q n c2] w fun e w'=>e= .returned (.bool true)∧Below w.heap.size w w':=by
 subst hn
 have h:=sameNodes_any a a p q c1 c2 w ha hb (by unfold maxLen;omega) (by unfold maxLen;omega)
 rw[(sameNd_iff _ _).2 rfl]at h
 refine h.mono ?_
 rintro e w' ⟨rfl,n,rfl⟩
 exact⟨rfl,⟨rfl,rfl,rfl,Nat.le_refl _,fun _ _=>rfl⟩⟩
def uA:Ui:=⟨⟨#[65]⟩,⟨#[]⟩⟩
def q0:Rq:=⟨uA,uA,uA,[⟨6,0,⟨#[]⟩,⟨#[]⟩⟩]⟩
def n5 (n:Int):Nd:=⟨2,n,⟨#[]⟩,⟨#[]⟩⟩
theorem evalue_arg {es:List En}{ps:Option Addr}(cs:Nat){q:Rq}{pq:Option Addr}{cq:Nat}{a:List Nd}{n:Nat}{p:Option Addr}{c:Nat}(w:World)(ha:EvArg w es ps q pq cq)(he:LArg w a n p c){R:Except Int (List Nd)}(hR:valueL es q a=R):
 Calls Tryz.prog 5 #[.slice ps es.length cs,reqV q pq cq,.slice p n c] w fun r w'=>(∃v f,r= .returned (.tuple #[v,f])∧Ans w' R v f)∧Below w.heap.size w w':=by
 subst hR
 obtain⟨rfl,h1,h2,h3,h4⟩:=he
 refine(evalue_any es ps cs q pq cq a p c w ha h1 (Nat.le_trans h2 h3) h4).mono ?_
 rintro e w' ⟨h,hb⟩
 exact⟨h.ans,hb⟩
structure QB (w:World)(B:Nat)(q:Rq)(pq:Option Addr)(cq:Nat):Prop where
 blk:w.heap[B]? =some (.cells #[.string q.who.t,.string q.who.i,.string q.act.t,.string q.act.i,.string q.what.t,.string q.what.i,.slice pq q.cx.length cq] 27 (0,0))
theorem QB.lt {w:World}{B:Nat}{q:Rq}{pq:Option Addr}{cq:Nat}(h:QB w B q pq cq):B<w.heap.size:=(Array.getElem?_eq_some_iff.1 h.blk).1
theorem QB.up {w w':World}{B:Nat}{q:Rq}{pq:Option Addr}{cq:Nat}(h:QB w B q pq cq)(hb:Below w.heap.size w w'):QB w' B q pq cq:=⟨(hb.block B h.lt).trans h.blk⟩
theorem QB.cells {w:World}{B:Nat}{q:Rq}{pq:Option Addr}{cq:Nat}(h:QB w B q pq cq):
 w.cell? ⟨B,0,none⟩=some (.string q.who.t)∧w.cell? ⟨B,1,none⟩=some (.string q.who.i)∧w.cell? ⟨B,2,none⟩=some (.string q.act.t)∧w.cell? ⟨B,3,none⟩=some (.string q.act.i)∧w.cell? ⟨B,4,none⟩=some (.string q.what.t)∧w.cell? ⟨B,5,none⟩=some (.string q.what.i)∧w.cell? ⟨B,6,none⟩=some (.slice pq q.cx.length cq):=req_cells h.blk
theorem QB.new (w:World)(q:Rq)(pq:Option Addr)(cq:Nat):QB (w.alloc (.cells #[.string q.who.t,.string q.who.i,.string q.act.t,.string q.act.i,.string q.what.t,.string q.what.i,.slice pq q.cx.length cq] 27)) w.heap.size q pq cq:=⟨new_at rfl⟩
theorem uidR_any (u:Ui)(w:World)(h:UOk u):Calls Tryz.prog 18 #[.agg #[.string u.t,.string u.i]] w fun e w'=>e= .returned (.int .i64 (uf u))∧Below w.heap.size w w':=uidFault_any u.t u.i w h.1 h.2
theorem nl_head {w:World}{b off:Nat}{v r:List Nd}{y:Nd}(h:NL w (some ⟨b,off,none⟩) v)(e:v=y::r):w.cell? ⟨b,off,none⟩=some (.int .i64 y.op):=by
 subst e
 obtain⟨b',off',e,_,x0,_⟩:=h.at (i:=0) (by simp)
 cases e
 simpa using x0
theorem askFault_any (q:Rq)(pq:Option Addr)(cq:Nat)(w:World)(h:RqArg w q pq cq):
 Calls Tryz.prog 9 #[reqV q pq cq] w fun e w'=>e= .returned (.int .i64 (askf q))∧Below w.heap.size w w':=by
 by_cases z0:uf q.who=0
 · by_cases z1:uf q.act=0
   · by_cases z2:uf q.what=0
     · by_cases zv:vfault q.cx=0
       · obtain⟨y,r,ex,_⟩:=value_head zv
         have HF:Hid (afault q.cx=if y.op=6 then 0 else 2):=by show _=_;unfold afault;rw[if_pos zv,ex]
         have i2:(0:Int)<(q.cx.length:Int):=by rw[ex];simp
         have HV:=fun w1 h1=>valueFault_any q.cx pq cq w1 h1 h.le h.cm
         rw[zv]at HV
         obtain⟨b0,off,hpq,hbb0,hjunk⟩:=h.nl.at (i:=0) (by rw[ex];simp)
         clear hjunk
         have HPQ:Hid (pq=some ⟨b0,off,none⟩):=hpq
         clear hpq
         have HEX:Hid (q.cx=y::r):=ex
         clear ex
         have hn:=h.nl
         have HU0:=fun w1=>uidR_any q.who w1 h.u0
         rw[z0]at HU0
         have HU1:=fun w1=>uidR_any q.act w1 h.u1
         rw[z1]at HU1
         have HU2:=fun w1=>uidR_any q.what w1 h.u2
         rw[z2]at HU2
         by_cases h6:y.op=6
         · have HA:Hid (askf q=0):=by show _=_;unfold askf;rw[if_pos z0,if_pos z1,if_pos z2,HF.out,if_pos h6]
           have e6:(y.op != 6)=false:=by simpa using h6
           clear z0 z1 z2 zv h6 HF h
           obtain⟨W,hW⟩:∃W,W=w.alloc (.cells #[.string q.who.t,.string q.who.i,.string q.act.t,.string q.act.i,.string q.what.t,.string q.what.i,.slice pq q.cx.length cq] 27):=⟨_,rfl⟩
           have hb_0:Below w.heap.size w W:=by rw[hW];exact(Below.refl _ _).alloc (Nat.le_refl _) _
           have hq_0:QB W w.heap.size q pq cq:=by rw[hW];exact QB.new w q pq cq
           have hn_0:=hn.up hb_0
           clear hn
           unfold reqV
           go_enter Tryz.func9,Tryz.ntmps9
           obtain⟨x0,x1,x2,x3,x4,x5,x6⟩:=hq_0.cells
           go_wp2_with fail
           rw[←hW]
           refine(HU0 _).mono ?_
           rintro _ w1 ⟨rfl,hbb⟩
           clear x0 x1 x2 x3 x4 x5 x6
           have hb_1:=qbt hb_0 hbb
           have hq_1:=hq_0.up hbb
           have hn_1:=hn_0.up hbb
           clear hbb hb_0 hq_0 hn_0
           obtain⟨x0,x1,x2,x3,x4,x5,x6⟩:=hq_1.cells
           go_wp2_with fail
           refine(HU1 _).mono ?_
           rintro _ w2 ⟨rfl,hbb⟩
           clear x0 x1 x2 x3 x4 x5 x6
           have hb_2:=qbt hb_1 hbb
           have hq_2:=hq_1.up hbb
           have hn_2:=hn_1.up hbb
           clear hbb hb_1 hq_1 hn_1
           obtain⟨x0,x1,x2,x3,x4,x5,x6⟩:=hq_2.cells
           go_wp2_with fail
           refine(HU2 _).mono ?_
           rintro _ w3 ⟨rfl,hbb⟩
           clear x0 x1 x2 x3 x4 x5 x6
           have hb_3:=qbt hb_2 hbb
           have hq_3:=hq_2.up hbb
           have hn_3:=hn_2.up hbb
           clear hbb hb_2 hq_2 hn_2
           obtain⟨x0,x1,x2,x3,x4,x5,x6⟩:=hq_3.cells
           go_wp2_with fail
           refine(HV _ hn_3).mono ?_
           rintro _ w4 ⟨rfl,hbb⟩
           clear x0 x1 x2 x3 x4 x5 x6
           have hb_4:=qbt hb_3 hbb
           have hq_4:=hq_3.up hbb
           have hn_4:=hn_3.up hbb
           clear hbb hb_3 hq_3 hn_3
           have hpq:=HPQ.out
           subst hpq
           have hbz:b0<w4.heap.size:=by rcases hn_4 with e | ⟨_,_,e,h,_⟩<;>first | (rw[HEX.out]at e;cases e) | (cases e;exact h)
           have hc0:w4.cell? ⟨b0,off,none⟩=some (.int .i64 y.op):=nl_head hn_4 HEX.out
           obtain⟨x0,x1,x2,x3,x4,x5,x6⟩:=hq_4.cells
           go_wp2_with fail
           go_ret
           rw[HA.out]
           exact⟨rfl,hb_4⟩
         · have HA:Hid (askf q=2):=by show _=_;unfold askf;rw[if_pos z0,if_pos z1,if_pos z2,HF.out,if_neg h6]
           have e6:(y.op != 6)=true:=by simpa using h6
           clear z0 z1 z2 zv h6 HF h
           obtain⟨W,hW⟩:∃W,W=w.alloc (.cells #[.string q.who.t,.string q.who.i,.string q.act.t,.string q.act.i,.string q.what.t,.string q.what.i,.slice pq q.cx.length cq] 27):=⟨_,rfl⟩
           have hb_0:Below w.heap.size w W:=by rw[hW];exact(Below.refl _ _).alloc (Nat.le_refl _) _
           have hq_0:QB W w.heap.size q pq cq:=by rw[hW];exact QB.new w q pq cq
           have hn_0:=hn.up hb_0
           clear hn
           unfold reqV
           go_enter Tryz.func9,Tryz.ntmps9
           obtain⟨x0,x1,x2,x3,x4,x5,x6⟩:=hq_0.cells
           go_wp2_with fail
           rw[←hW]
           refine(HU0 _).mono ?_
           rintro _ w1 ⟨rfl,hbb⟩
           clear x0 x1 x2 x3 x4 x5 x6
           have hb_1:=qbt hb_0 hbb
           have hq_1:=hq_0.up hbb
           have hn_1:=hn_0.up hbb
           clear hbb hb_0 hq_0 hn_0
           obtain⟨x0,x1,x2,x3,x4,x5,x6⟩:=hq_1.cells
           go_wp2_with fail
           refine(HU1 _).mono ?_
           rintro _ w2 ⟨rfl,hbb⟩
           clear x0 x1 x2 x3 x4 x5 x6
           have hb_2:=qbt hb_1 hbb
           have hq_2:=hq_1.up hbb
           have hn_2:=hn_1.up hbb
           clear hbb hb_1 hq_1 hn_1
           obtain⟨x0,x1,x2,x3,x4,x5,x6⟩:=hq_2.cells
           go_wp2_with fail
           refine(HU2 _).mono ?_
           rintro _ w3 ⟨rfl,hbb⟩
           clear x0 x1 x2 x3 x4 x5 x6
           have hb_3:=qbt hb_2 hbb
           have hq_3:=hq_2.up hbb
           have hn_3:=hn_2.up hbb
           clear hbb hb_2 hq_2 hn_2
           obtain⟨x0,x1,x2,x3,x4,x5,x6⟩:=hq_3.cells
           go_wp2_with fail
           refine(HV _ hn_3).mono ?_
           rintro _ w4 ⟨rfl,hbb⟩
           clear x0 x1 x2 x3 x4 x5 x6
           have hb_4:=qbt hb_3 hbb
           have hq_4:=hq_3.up hbb
           have hn_4:=hn_3.up hbb
           clear hbb hb_3 hq_3 hn_3
           have hpq:=HPQ.out
           subst hpq
           have hbz:b0<w4.heap.size:=by rcases hn_4 with e | ⟨_,_,e,h,_⟩<;>first | (rw[HEX.out]at e;cases e) | (cases e;exact h)
           have hc0:w4.cell? ⟨b0,off,none⟩=some (.int .i64 y.op):=nl_head hn_4 HEX.out
           obtain⟨x0,x1,x2,x3,x4,x5,x6⟩:=hq_4.cells
           go_wp2_with fail
           go_ret
           rw[HA.out]
           exact⟨rfl,hb_4⟩
       · have HV:=fun w1 h1=>valueFault_any q.cx pq cq w1 h1 h.le h.cm
         have hn:=h.nl
         have HU0:=fun w1=>uidR_any q.who w1 h.u0
         rw[z0]at HU0
         have HU1:=fun w1=>uidR_any q.act w1 h.u1
         rw[z1]at HU1
         have HU2:=fun w1=>uidR_any q.what w1 h.u2
         rw[z2]at HU2
         have HA:Hid (askf q=vfault q.cx):=by show _=_;unfold askf;rw[if_pos z0,if_pos z1,if_pos z2];unfold afault;rw[if_neg zv]
         have n0:(vfault q.cx == 0)=false:=by simpa using zv
         clear z0 z1 z2 zv h
         generalize vfault q.cx=n at *
         obtain⟨W,hW⟩:∃W,W=w.alloc (.cells #[.string q.who.t,.string q.who.i,.string q.act.t,.string q.act.i,.string q.what.t,.string q.what.i,.slice pq q.cx.length cq] 27):=⟨_,rfl⟩
         have hb_0:Below w.heap.size w W:=by rw[hW];exact(Below.refl _ _).alloc (Nat.le_refl _) _
         have hq_0:QB W w.heap.size q pq cq:=by rw[hW];exact QB.new w q pq cq
         have hn_0:=hn.up hb_0
         clear hn
         unfold reqV
         go_enter Tryz.func9,Tryz.ntmps9
         obtain⟨x0,x1,x2,x3,x4,x5,x6⟩:=hq_0.cells
         go_wp2_with fail
         rw[←hW]
         refine(HU0 _).mono ?_
         rintro _ w1 ⟨rfl,hbb⟩
         clear x0 x1 x2 x3 x4 x5 x6
         have hb_1:=qbt hb_0 hbb
         have hq_1:=hq_0.up hbb
         have hn_1:=hn_0.up hbb
         clear hbb hb_0 hq_0 hn_0
         obtain⟨x0,x1,x2,x3,x4,x5,x6⟩:=hq_1.cells
         go_wp2_with fail
         refine(HU1 _).mono ?_
         rintro _ w2 ⟨rfl,hbb⟩
         clear x0 x1 x2 x3 x4 x5 x6
         have hb_2:=qbt hb_1 hbb
         have hq_2:=hq_1.up hbb
         have hn_2:=hn_1.up hbb
         clear hbb hb_1 hq_1 hn_1
         obtain⟨x0,x1,x2,x3,x4,x5,x6⟩:=hq_2.cells
         go_wp2_with fail
         refine(HU2 _).mono ?_
         rintro _ w3 ⟨rfl,hbb⟩
         clear x0 x1 x2 x3 x4 x5 x6
         have hb_3:=qbt hb_2 hbb
         have hq_3:=hq_2.up hbb
         have hn_3:=hn_2.up hbb
         clear hbb hb_2 hq_2 hn_2
         obtain⟨x0,x1,x2,x3,x4,x5,x6⟩:=hq_3.cells
         go_wp2_with fail
         refine(HV _ hn_3).mono ?_
         rintro _ w4 ⟨rfl,hbb⟩
         clear x0 x1 x2 x3 x4 x5 x6
         have hb_4:=qbt hb_3 hbb
         have hq_4:=hq_3.up hbb
         have hn_4:=hn_3.up hbb
         clear hbb hb_3 hq_3 hn_3
         obtain⟨x0,x1,x2,x3,x4,x5,x6⟩:=hq_4.cells
         go_wp2_with fail
         go_ret
         rw[HA.out]
         exact⟨rfl,hb_4⟩
     · have HU0:=fun w1=>uidR_any q.who w1 h.u0
       rw[z0]at HU0
       have HU1:=fun w1=>uidR_any q.act w1 h.u1
       rw[z1]at HU1
       have HA:Hid (askf q=uf q.what):=by show _=_;unfold askf;rw[if_pos z0,if_pos z1,if_neg z2]
       have HU2:=fun w1=>uidR_any q.what w1 h.u2
       have n0:(uf q.what == 0)=false:=by simpa using z2
       clear z0 z1 z2 h
       generalize uf q.what=n at *
       obtain⟨W,hW⟩:∃W,W=w.alloc (.cells #[.string q.who.t,.string q.who.i,.string q.act.t,.string q.act.i,.string q.what.t,.string q.what.i,.slice pq q.cx.length cq] 27):=⟨_,rfl⟩
       have hb_0:Below w.heap.size w W:=by rw[hW];exact(Below.refl _ _).alloc (Nat.le_refl _) _
       have hq_0:QB W w.heap.size q pq cq:=by rw[hW];exact QB.new w q pq cq
       unfold reqV
       go_enter Tryz.func9,Tryz.ntmps9
       obtain⟨x0,x1,x2,x3,x4,x5,x6⟩:=hq_0.cells
       go_wp2_with fail
       rw[←hW]
       refine(HU0 _).mono ?_
       rintro _ w1 ⟨rfl,hbb⟩
       clear x0 x1 x2 x3 x4 x5 x6
       have hb_1:=qbt hb_0 hbb
       have hq_1:=hq_0.up hbb
       clear hbb hb_0 hq_0
       obtain⟨x0,x1,x2,x3,x4,x5,x6⟩:=hq_1.cells
       go_wp2_with fail
       refine(HU1 _).mono ?_
       rintro _ w2 ⟨rfl,hbb⟩
       clear x0 x1 x2 x3 x4 x5 x6
       have hb_2:=qbt hb_1 hbb
       have hq_2:=hq_1.up hbb
       clear hbb hb_1 hq_1
       obtain⟨x0,x1,x2,x3,x4,x5,x6⟩:=hq_2.cells
       go_wp2_with fail
       refine(HU2 _).mono ?_
       rintro _ w3 ⟨rfl,hbb⟩
       clear x0 x1 x2 x3 x4 x5 x6
       have hb_3:=qbt hb_2 hbb
       have hq_3:=hq_2.up hbb
       clear hbb hb_2 hq_2
       obtain⟨x0,x1,x2,x3,x4,x5,x6⟩:=hq_3.cells
       go_wp2_with fail
       go_ret
       rw[HA.out]
       exact⟨rfl,hb_3⟩
   · have HU0:=fun w1=>uidR_any q.who w1 h.u0
     rw[z0]at HU0
     have HA:Hid (askf q=uf q.act):=by show _=_;unfold askf;rw[if_pos z0,if_neg z1]
     have HU1:=fun w1=>uidR_any q.act w1 h.u1
     have n0:(uf q.act == 0)=false:=by simpa using z1
     clear z0 z1 h
     generalize uf q.act=n at *
     obtain⟨W,hW⟩:∃W,W=w.alloc (.cells #[.string q.who.t,.string q.who.i,.string q.act.t,.string q.act.i,.string q.what.t,.string q.what.i,.slice pq q.cx.length cq] 27):=⟨_,rfl⟩
     have hb_0:Below w.heap.size w W:=by rw[hW];exact(Below.refl _ _).alloc (Nat.le_refl _) _
     have hq_0:QB W w.heap.size q pq cq:=by rw[hW];exact QB.new w q pq cq
     unfold reqV
     go_enter Tryz.func9,Tryz.ntmps9
     obtain⟨x0,x1,x2,x3,x4,x5,x6⟩:=hq_0.cells
     go_wp2_with fail
     rw[←hW]
     refine(HU0 _).mono ?_
     rintro _ w1 ⟨rfl,hbb⟩
     clear x0 x1 x2 x3 x4 x5 x6
     have hb_1:=qbt hb_0 hbb
     have hq_1:=hq_0.up hbb
     clear hbb hb_0 hq_0
     obtain⟨x0,x1,x2,x3,x4,x5,x6⟩:=hq_1.cells
     go_wp2_with fail
     refine(HU1 _).mono ?_
     rintro _ w2 ⟨rfl,hbb⟩
     clear x0 x1 x2 x3 x4 x5 x6
     have hb_2:=qbt hb_1 hbb
     have hq_2:=hq_1.up hbb
     clear hbb hb_1 hq_1
     obtain⟨x0,x1,x2,x3,x4,x5,x6⟩:=hq_2.cells
     go_wp2_with fail
     go_ret
     rw[HA.out]
     exact⟨rfl,hb_2⟩
 · have HA:Hid (askf q=uf q.who):=by show _=_;unfold askf;rw[if_neg z0]
   have HU0:=fun w1=>uidR_any q.who w1 h.u0
   have n0:(uf q.who == 0)=false:=by simpa using z0
   clear z0 h
   generalize uf q.who=n at *
   obtain⟨W,hW⟩:∃W,W=w.alloc (.cells #[.string q.who.t,.string q.who.i,.string q.act.t,.string q.act.i,.string q.what.t,.string q.what.i,.slice pq q.cx.length cq] 27):=⟨_,rfl⟩
   have hb_0:Below w.heap.size w W:=by rw[hW];exact(Below.refl _ _).alloc (Nat.le_refl _) _
   have hq_0:QB W w.heap.size q pq cq:=by rw[hW];exact QB.new w q pq cq
   unfold reqV
   go_enter Tryz.func9,Tryz.ntmps9
   obtain⟨x0,x1,x2,x3,x4,x5,x6⟩:=hq_0.cells
   go_wp2_with fail
   rw[←hW]
   refine(HU0 _).mono ?_
   rintro _ w1 ⟨rfl,hbb⟩
   clear x0 x1 x2 x3 x4 x5 x6
   have hb_1:=qbt hb_0 hbb
   have hq_1:=hq_0.up hbb
   clear hbb hb_0 hq_0
   obtain⟨x0,x1,x2,x3,x4,x5,x6⟩:=hq_1.cells
   go_wp2_with fail
   go_ret
   rw[HA.out]
   exact⟨rfl,hb_1⟩
end Go.Proofs.YtnbkfggmpiccjaaGreatDoor
