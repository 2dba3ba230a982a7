import Derived.Test.YtklfhdjnpgbcfaaGreatDoorM39
import Derived.Test.YtklfhdjnpgbcfaaGreatDoorM43
import Derived.Test.YtklfhdjnpgbcfaaGreatDoorM22
import Derived.Test.YtklfhdjnpgbcfaaGreatDoorM17
import Derived.Test.YtklfhdjnpgbcfaaGreatDoorM9
import Derived.Test.YtklfhdjnpgbcfaaGreatDoorM16
import Derived.Deep.RegionHeld
set_option linter.unusedVariables false
set_option maxHeartbeats 12000000
namespace Go.Proofs.YtklfhdjnpgbcfaaGreatDoor
open Go.RowKit
set_option linter.unusedSimpArgs false
set_option maxRecDepth 100000
structure EvArg (w:World)(es:List En)(ps:Option Addr)(q:Rq)(pq:Option Addr)(cq:Nat):Prop where
 el:EL w ps es
 rq:RqArg w q pq cq
 er:ErrVar w
 esN:∀e∈es,N64 e.nd
 cxN:N64 q.cx
theorem EvArg.up {w w':World}{es:List En}{ps:Option Addr}{q:Rq}{pq:Option Addr}{cq:Nat}(h:EvArg w es ps q pq cq)(k:Below w.heap.size w w'):EvArg w' es ps q pq cq:=
 ⟨h.el.up k,⟨h.rq.u0,h.rq.u1,h.rq.u2,h.rq.nl.up k,h.rq.le,h.rq.cm⟩,errVar_below h.er k (Nat.le_refl _),h.esN,h.cxN⟩
theorem req_cells {w:World}{B:Nat}{a0 a1 a2 a3 a4 a5 a6:Value}{T:TypeId}(h:w.heap[B]? =some (.cells #[a0,a1,a2,a3,a4,a5,a6] T (0,0))):
 w.cell? ⟨B,0,none⟩=some a0∧w.cell? ⟨B,1,none⟩=some a1∧w.cell? ⟨B,2,none⟩=some a2∧w.cell? ⟨B,3,none⟩=some a3∧w.cell? ⟨B,4,none⟩=some a4∧w.cell? ⟨B,5,none⟩=some a5∧w.cell? ⟨B,6,none⟩=some a6:=by
 simp[World.cell?, h]
theorem evalue_any (es:List En)(ps:Option Addr)(cs:Nat)(q:Rq)(pq:Option Addr)(cq:Nat)(e:List Nd)(p:Option Addr)(c:Nat)(w:World)
 (ha:EvArg w es ps q pq cq) (he:NL w p e) (hl:e.length≤maxLen) (hN:N64 e):
 Calls Tryz.prog 7 #[.slice ps es.length cs,reqV q pq cq,.slice p e.length c] w fun r w'=>ValE (valueL es q e) r w'∧Below w.heap.size w w':=by
 have HE:=fun w1 hl1=>entCheck_any es ps cs w1 hl1
 have HA:=fun w1 h1=>ask_any q pq cq w1 h1
 have HT:=fun w1 h1=>tcheck_any e p c w1 h1 hl
 obtain⟨W,hW⟩:∃W,W=w.alloc (.cells #[.string q.who.t,.string q.who.i,.string q.act.t,.string q.act.i,.string q.what.t,.string q.what.i,.slice pq q.cx.length cq] 32):=⟨_,rfl⟩
 have hbW:Below w.heap.size w W:=by rw[hW];exact(Below.refl _ _).alloc (Nat.le_refl _) _
 have hWs:W.heap.size=w.heap.size+1:=by rw[hW];simp
 have hWc:W.heap[w.heap.size]? =some (.cells #[.string q.who.t,.string q.who.i,.string q.act.t,.string q.act.i,.string q.what.t,.string q.what.i,.slice pq q.cx.length cq] 32 (0,0)):=by rw[hW];exact new_at rfl
 have haW:=ha.up hbW
 have heW:=he.up hbW
 unfold reqV at *
 by_cases h1:stf es=0
 · rw[eV_nil h1]at HE
   by_cases h2:askf q=0
   · rw[eV_nil h2]at HA
     by_cases h3:xfault e=0
     · rw[eV_nil h3]at HT
       have HV:Hid (valueL es q e=evE es q (e.length+1) e):=by show _=_;unfold valueL;rw[if_pos h1,if_pos h2,if_pos h3]
       have hpe:pastE (e.length+1) e=some []:=(xfault_zero h3).2
       have hm:EnvOk es q:=⟨h1,h2,ha.esN,ha.cxN⟩
       have hcq:=ha.rq.le
       have hcm:=ha.rq.cm
       obtain⟨R,hR⟩:∃R,R=evE es q (e.length+1) e:=⟨_,rfl⟩
       rw[HV.out,←hR]
       go_enter Tryz.func7,Tryz.ntmps7
       go_wp2_with fail
       rw[←hW]
       refine(HE _ haW.el).mono ?_
       rintro _ w1 ⟨rfl,hb1⟩
       have ha1:=haW.up hb1
       have r0:=(hb1.block w.heap.size (by omega)).trans hWc
       obtain⟨x0,x1,x2,x3,x4,x5,x6⟩:=req_cells r0
       go_wp2_with fail
       refine(HA _ ha1.rq).mono ?_
       rintro _ w2 ⟨rfl,hb2⟩
       have ha2:=ha1.up hb2
       have he2:=(heW.up hb1).up hb2
       clear x0 x1 x2 x3 x4 x5 x6
       have r1:=(hb2.block w.heap.size (by have:=hb1.size;omega)).trans r0
       go_wp2_with fail
       refine(HT _ he2).mono ?_
       rintro _ w3 ⟨rfl,hb3⟩
       have ha3:=ha2.up hb3
       have he3:=he2.up hb3
       have r2:=(hb3.block w.heap.size (by have:=hb1.size;have:=hb2.size;omega)).trans r1
       obtain⟨x0,x1,x2,x3,x4,x5,x6⟩:=req_cells r2
       have hb03:=qbt hbW (qbt (qbt hb1 hb2) hb3)
       let E:EvEnv:=⟨w3,es,ps,cs,q,pq,cq,e,p,c⟩
       have ho:E.Ok:=⟨ha3.el,ha3.rq.nl,he3,hm,h3,hN,ha3.er,⟨hcq,hcm⟩⟩
       have hs:AS E (w3.alloc (.cells #[.slice ps es.length cs,.string q.who.t,.string q.who.i,.string q.act.t,.string q.act.i,.string q.what.t,.string q.what.i,.slice pq q.cx.length cq,.slice p e.length c,.int .i64 0] 69)) w3.heap.size 0:=
        ⟨new_at rfl,(Below.refl _ _).alloc (Nat.le_refl _) _,Nat.le_refl _,Nat.zero_le _⟩
       have HO:=valueOf_any (all_value (B:=w3.heap.size) ho (e.length+1) (by show e.length+1≤e.length+2;omega)) _ hs hpe
       have hb4:Below w3.heap.size w3 (w3.alloc (.cells #[.slice ps es.length cs,.string q.who.t,.string q.who.i,.string q.act.t,.string q.act.i,.string q.what.t,.string q.what.i,.slice pq q.cx.length cq,.slice p e.length c,.int .i64 0] 69)):=(Below.refl _ _).alloc (Nat.le_refl _) _
       have hlt:=hs.lt
       clear hs
       have e5:evE E.es E.q (e.length+1) E.e=evE es q (e.length+1) e:=rfl
       rw[e5,←hR]at HO
       clear HV hm ho h1 h2 h3 hpe hN e5 hR
       go_wp2_with fail
       refine HO.mono ?_
       intro e9 w9 h9
       obtain⟨hv,hx⟩:=h9
       have hb9:=qbt hb03 (hb4.trans (hx.below (Nat.le_refl _) hlt))
       cases R with
       | ok v=>
         obtain⟨q9,c9,rfl,h9⟩:=hv
         go_wp2
         go_ret2
         exact⟨⟨q9,c9,rfl,h9⟩,hb9⟩
       | error n=>
         obtain rfl:=hv
         go_wp2
         go_ret2
         exact⟨rfl,hb9⟩
     · rw[eV_not h3]at HT
       have HV:Hid (valueL es q e= .error (xfault e)):=by show _=_;unfold valueL;rw[if_pos h1,if_pos h2,if_neg h3]
       clear h1 h2 h3 hN
       rw[HV.out]
       clear HV
       generalize xfault e=n at *
       go_enter Tryz.func7,Tryz.ntmps7
       go_wp2_with fail
       rw[←hW]
       refine(HE _ haW.el).mono ?_
       rintro _ w1 ⟨rfl,hb1⟩
       have ha1:=haW.up hb1
       have r0:=(hb1.block w.heap.size (by omega)).trans hWc
       obtain⟨x0,x1,x2,x3,x4,x5,x6⟩:=req_cells r0
       go_wp2_with fail
       refine(HA _ ha1.rq).mono ?_
       rintro _ w2 ⟨rfl,hb2⟩
       have he2:=(heW.up hb1).up hb2
       clear x0 x1 x2 x3 x4 x5 x6
       go_wp2_with fail
       refine(HT _ he2).mono ?_
       rintro _ w3 ⟨rfl,hb3⟩
       have hb03:=qbt hbW (qbt (qbt hb1 hb2) hb3)
       go_wp2
       go_ret2
       exact⟨rfl,hb03⟩
   · rw[eV_not h2]at HA
     have HV:Hid (valueL es q e= .error (askf q)):=by show _=_;unfold valueL;rw[if_pos h1,if_neg h2]
     clear h1 h2 hN
     rw[HV.out]
     clear HV
     generalize askf q=n at *
     go_enter Tryz.func7,Tryz.ntmps7
     go_wp2_with fail
     rw[←hW]
     refine(HE _ haW.el).mono ?_
     rintro _ w1 ⟨rfl,hb1⟩
     have ha1:=haW.up hb1
     have r0:=(hb1.block w.heap.size (by omega)).trans hWc
     obtain⟨x0,x1,x2,x3,x4,x5,x6⟩:=req_cells r0
     go_wp2_with fail
     refine(HA _ ha1.rq).mono ?_
     rintro _ w2 ⟨rfl,hb2⟩
     clear x0 x1 x2 x3 x4 x5 x6
     have hb03:=qbt hbW (qbt hb1 hb2)
     go_wp2
     go_ret2
     exact⟨rfl,hb03⟩
 · rw[eV_not h1]at HE
   have HV:Hid (valueL es q e= .error (stf es)):=by show _=_;unfold valueL;rw[if_neg h1]
   clear h1 hN
   rw[HV.out]
   clear HV
   generalize stf es=n at *
   go_enter Tryz.func7,Tryz.ntmps7
   go_wp2_with fail
   rw[←hW]
   refine(HE _ haW.el).mono ?_
   rintro _ w1 ⟨rfl,hb1⟩
   have hb03:=qbt hbW hb1
   go_wp2
   go_ret2
   exact⟨rfl,hb03⟩
structure LArg (w:World)(a:List Nd)(n:Nat)(q:Option Addr)(c:Nat):Prop where
 len:a.length=n
 nl:NL w q a
 le:n≤c
 cm:c≤maxLen
 num:N64 a
def Ans (w:World)(R:Except Int (List Nd))(v e:Value):Prop:=
 match R with
 | .ok a=>∃q c,v= .slice q a.length c∧e= .nilIface∧VArg w a a.length q c
 | .error n=>v= .slice none 0 0∧e= .iface 57 (.int .i64 n)
theorem ValE.ans {R:Except Int (List Nd)}{e:Ending}{w':World}(h:ValE R e w'):∃v f,e= .returned (.tuple #[v,f])∧Ans w' R v f:=by
 cases R with
 | ok a=>obtain⟨q,c,rfl,h⟩:=h;exact⟨_,_,rfl,q,c,rfl,rfl,h⟩
 | error n=>exact⟨_,_,h,rfl,rfl⟩
theorem Ans.up {w w':World}{R:Except Int (List Nd)}{v e:Value}(h:Ans w R v e)(hb:Below w.heap.size w w'):Ans w' R v e:=by
 cases R with
 | ok a=>obtain⟨q,c,rfl,rfl,h⟩:=h;exact⟨q,c,rfl,rfl,h.up hb⟩
 | error n=>exact h
theorem sameO {a:List Nd}{n:Nat}(hn:a.length=n){p q:Option Addr}(c1 c2:Nat)(w:World)(ha:NL w p a)(hb:NL w q a)(hl:n≤1000):
 Calls Tryz.prog 9 #[.slice p n c1,.slice q n c2] w fun e w'=>e= .returned (.bool true)∧Below w.heap.size w w':=by
 subst hn
 have h:=sameNodes_any a a p q c1 c2 w ha hb (by unfold maxLen;omega) (by unfold maxLen;omega)
 rw[(sameNd_iff _ _).2 rfl]at h
 refine h.mono ?_
 rintro e w' ⟨rfl,n,rfl⟩
 exact⟨rfl,⟨rfl,rfl,rfl,Nat.le_refl _,fun _ _=>rfl⟩⟩
theorem evalue_arg {es:List En}{ps:Option Addr}(cs:Nat){q:Rq}{pq:Option Addr}{cq:Nat}{a:List Nd}{n:Nat}{p:Option Addr}{c:Nat}(w:World)(ha:EvArg w es ps q pq cq)(he:LArg w a n p c){R:Except Int (List Nd)}(hR:valueL es q a=R):
 Calls Tryz.prog 7 #[.slice ps es.length cs,reqV q pq cq,.slice p n c] w fun r w'=>(∃v f,r= .returned (.tuple #[v,f])∧Ans w' R v f)∧Below w.heap.size w w':=by
 subst hR
 obtain⟨rfl,h1,h2,h3,h4⟩:=he
 refine(evalue_any es ps cs q pq cq a p c w ha h1 (Nat.le_trans h2 h3) h4).mono ?_
 rintro e w' ⟨h,hb⟩
 exact⟨h.ans,hb⟩
structure QB (w:World)(B:Nat)(q:Rq)(pq:Option Addr)(cq:Nat):Prop where
 blk:w.heap[B]? =some (.cells #[.string q.who.t,.string q.who.i,.string q.act.t,.string q.act.i,.string q.what.t,.string q.what.i,.slice pq q.cx.length cq] 32 (0,0))
theorem QB.lt {w:World}{B:Nat}{q:Rq}{pq:Option Addr}{cq:Nat}(h:QB w B q pq cq):B<w.heap.size:=(Array.getElem?_eq_some_iff.1 h.blk).1
theorem QB.up {w w':World}{B:Nat}{q:Rq}{pq:Option Addr}{cq:Nat}(h:QB w B q pq cq)(hb:Below w.heap.size w w'):QB w' B q pq cq:=⟨(hb.block B h.lt).trans h.blk⟩
theorem QB.cells {w:World}{B:Nat}{q:Rq}{pq:Option Addr}{cq:Nat}(h:QB w B q pq cq):
 w.cell? ⟨B,0,none⟩=some (.string q.who.t)∧w.cell? ⟨B,1,none⟩=some (.string q.who.i)∧w.cell? ⟨B,2,none⟩=some (.string q.act.t)∧w.cell? ⟨B,3,none⟩=some (.string q.act.i)∧w.cell? ⟨B,4,none⟩=some (.string q.what.t)∧w.cell? ⟨B,5,none⟩=some (.string q.what.i)∧w.cell? ⟨B,6,none⟩=some (.slice pq q.cx.length cq):=req_cells h.blk
end Go.Proofs.YtklfhdjnpgbcfaaGreatDoor
