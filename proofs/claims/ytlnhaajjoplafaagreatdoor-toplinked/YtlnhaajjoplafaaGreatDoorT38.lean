import Derived.Test.YtlnhaajjoplafaaGreatDoorT25
import Derived.Test.YtlnhaajjoplafaaGreatDoorT35
import Derived.Test.YtlnhaajjoplafaaGreatDoorT36
import Derived.Test.YtlnhaajjoplafaaGreatDoorT21
import Derived.Test.YtlnhaajjoplafaaGreatDoorT37
import Derived.Test.YtlnhaajjoplafaaGreatDoorT22
import Derived.Test.YtlnhaajjoplafaaGreatDoorT9
import Derived.Test.YtlnhaajjoplafaaGreatDoorT11
import Derived.Deep.RegionHeld
set_option linter.unusedVariables false
set_option maxHeartbeats 12000000
namespace Go.Proofs.YtlnhaajjoplafaaGreatDoor
open Go.RowKit
set_option linter.unusedSimpArgs false
set_option maxRecDepth 100000
def ValE (R:Except Int (List Nd))(e:Ending)(w':World):Prop:=
 match R with
 | .ok v=>∃q c,e= .returned (.tuple #[.slice q v.length c,.nilIface])∧VArg w' v v.length q c
 | .error n=>e= .returned (.tuple #[.slice none 0 0,.iface 70 (.int .i64 n)])
theorem new_at {w:World}{cs:Array Value}{T:TypeId}{n:Nat}(h:n=w.heap.size):(w.alloc (.cells cs T)).heap[n]? =some (.cells cs T (0,0)):=by
 subst h;exact heap_alloc_new _ _
theorem old_at {w:World}{o:Obj}{n:Nat}(h:n<w.heap.size):(w.alloc o).heap[n]? =w.heap[n]? :=((Below.refl w.heap.size w).alloc (Nat.le_refl _) o).block n h
theorem cell_one {w:World}{N:Nat}{v:Value}{T:TypeId}(h:w.heap[N]? =some (.cells #[v] T (0,0))):w.cell? ⟨N,0,none⟩=some v∧w.frozen? ⟨N,0,none⟩=false:=by
 simp[World.cell?, World.frozen?, h]
theorem BX.keep {B N:Nat}{a w w':World}(h:BX B a w)(k:Below N w w')(hN:a.heap.size≤N):BX B a w':=
 ⟨k.os.trans h.os,k.tape.trans h.tape,k.output.trans h.output,Nat.le_trans h.size k.size,fun i hi hn=>(k.block i (Nat.lt_of_lt_of_le hi hN)).trans (h.block i hi hn)⟩
theorem NL.offG {w:World}{g:Nat}{cur:Array Value}{T:TypeId}{fr:Nat×Nat}(hg:w.heap[g]? =some (.cells cur T fr))(hs:∀c∈cur.toList,∀z,c≠ .int .i64 z){q:Option Addr}{L:List Nd}(h:NL w q L)(hne:L≠[]):∀d,q=some d→d.block≠g:=by
 rintro d rfl e
 rcases h with h | ⟨b,off,h1,h2,h3⟩
 · exact hne h
 · cases h1
   obtain⟨x,r,rfl⟩:=List.exists_cons_of_ne_nil hne
   obtain⟨d0,_⟩:=h3 0 x rfl
   have eb:b=g:=e
   subst eb
   simp only[World.cell?, hg]at d0
   have:cur[off+0*4]? =some (.int .i64 x.op):=by simpa using d0
   exact hs _ (Array.mem_toList_iff.2 (Array.mem_of_getElem? this)) _ rfl
theorem valueOf_any {E:EvEnv}{B f:Nat}(hV:ValOk E B f)(w:World)(hs:AS E w B 0)(hp:pastE f E.e=some []):
 Calls Tryz.prog 22 #[.pointer (some ⟨B,0,none⟩)] w fun e w'=>ValE (evE E.es E.q f E.e) e w'∧BX B w w':=by
 have hmf:∀(fn:Fn) (first cap:Array Value) (w:World),(Instr.makeFunc fn first cap).run Tryz.prog w= .ok (.func fn first cap) w:=fun _ _ _ _=>rfl
 obtain⟨w2,hw2⟩:∃w2,w2=(w.alloc (.cells #[.slice none 0 0] 30)).alloc (.cells #[.nilIface] 35):=⟨_,rfl⟩
 have hb2:Below w.heap.size w w2:=by
  rw[hw2]
  exact((Below.refl _ _).alloc (Nat.le_refl _) _).alloc (by simp) _
 have k0:w2.heap[w.heap.size]? =some (.cells #[.slice none 0 0] 30 (0,0)):=by
  rw[hw2,old_at (by simp)];exact new_at rfl
 have k1:w2.heap[w.heap.size+1]? =some (.cells #[.nilIface] 35 (0,0)):=by
  rw[hw2];exact new_at (by simp)
 have hs2:=hs.up hb2
 have hBw:=hs.lt
 have H1:=hV w2 0 [] hs2 (by rw[List.drop_zero];exact hp)
 rw[List.drop_zero]at H1
 generalize evE E.es E.q f E.e=R at *
 go_enter_defers Tryz.func22,Tryz.ntmps22
 go_wp2_with fail
 rw[←hw2]
 refine H1.mono ?_
 cases R with
 | error n=>
   rintro e w3 ⟨rfl,hx3⟩
   have j0:=(hx3.block w.heap.size (Array.getElem?_eq_some_iff.1 k0).1 (by omega)).trans k0
   have j1:=(hx3.block (w.heap.size+1) (Array.getElem?_eq_some_iff.1 k1).1 (by omega)).trans k1
   obtain⟨x0,z0⟩:=cell_one j0
   obtain⟨x1,z1⟩:=cell_one j1
   have hsz:w.heap.size+2≤w3.heap.size:=by have:=(Array.getElem?_eq_some_iff.1 j1).1;omega
   have hbx:BX B w w3:=(BX.of_below hb2).trans hx3
   clear H1 hw2
   go_wp2
   refine leaves_cons (f:=35) (args:= #[.pointer (some ⟨w.heap.size,0,none⟩),.pointer (some ⟨w.heap.size+1,0,none⟩)]) (by simp) (by simp[go_sem]) ?_
   refine(ecatch_thrown n w.heap.size _ _ _ x0 z0 x1 z1 hsz).mono ?_
   rintro e u' w7 ⟨rfl,rfl,c0,c1,hb7⟩
   have hb8:=hbx.keep hb7 (Nat.le_refl _)
   simp[Leaves,settle,results,Tryz.results22,go_sem,c0,c1]
   exact⟨rfl,hb8⟩
 | ok v=>
   rintro e w3 ⟨⟨q3,c3,rfl,hv3⟩,hs3,hx3⟩
   have j0:=(hx3.block w.heap.size (Array.getElem?_eq_some_iff.1 k0).1 (by omega)).trans k0
   have j1:=(hx3.block (w.heap.size+1) (Array.getElem?_eq_some_iff.1 k1).1 (by omega)).trans k1
   obtain⟨x0,z0⟩:=cell_one j0
   obtain⟨x1,z1⟩:=cell_one j1
   have hbx:BX B w w3:=(BX.of_below hb2).trans hx3
   clear H1 hw2
   have hq0:=hv3.nl.offG j0 (by intro c hc z;simp at hc;subst hc;simp) hv3.is.ne
   have hq1:=hv3.nl.offG j1 (by intro c hc z;simp at hc;subst hc;simp) hv3.is.ne
   have hnz:NL ((w3.setCell ⟨w.heap.size,0,none⟩ (.slice q3 v.length c3)).setCell ⟨w.heap.size+1,0,none⟩ .nilIface) q3 v:=(hv3.nl.setc hq0 _).setc hq1 _
   have hbz:BX B w ((w3.setCell ⟨w.heap.size,0,none⟩ (.slice q3 v.length c3)).setCell ⟨w.heap.size+1,0,none⟩ .nilIface):=
    hbx.keep (((Below.refl w.heap.size w3).setCell (p:=⟨w.heap.size,0,none⟩) (Nat.le_refl _) _).setCell (p:=⟨w.heap.size+1,0,none⟩) (by show w.heap.size≤w.heap.size+1;omega) _) (Nat.le_refl _)
   have g0:((w3.setCell ⟨w.heap.size,0,none⟩ (.slice q3 v.length c3)).setCell ⟨w.heap.size+1,0,none⟩ .nilIface).cell? ⟨w.heap.size,0,none⟩=some (.slice q3 v.length c3):=
    (World.cell?_setCell_other _ _ _ _ (by simp)).trans (World.cell?_setCell_same _ _ _ x0)
   have g1:((w3.setCell ⟨w.heap.size,0,none⟩ (.slice q3 v.length c3)).setCell ⟨w.heap.size+1,0,none⟩ .nilIface).cell? ⟨w.heap.size+1,0,none⟩=some .nilIface:=
    World.cell?_setCell_same _ _ _ ((World.cell?_setCell_other _ _ _ _ (by simp)).trans x1)
   go_wp2_with fail
   generalize (w3.setCell ⟨w.heap.size,0,none⟩ (.slice q3 v.length c3)).setCell ⟨w.heap.size+1,0,none⟩ .nilIface=wz at *
   unfold bodyPostD
   simp only[]
   refine leaves_cons (f:=35) (args:= #[.pointer (some ⟨w.heap.size,0,none⟩),.pointer (some ⟨w.heap.size+1,0,none⟩)]) (by simp) (by simp[go_sem]) ?_
   refine(ecatch_idle ⟨w.heap.size,0,none⟩ ⟨w.heap.size+1,0,none⟩ _).mono ?_
   rintro e u' w10 ⟨rfl,rfl,rfl⟩
   simp[Leaves,settle,results,Tryz.results22,go_sem,g0,g1]
   exact⟨⟨q3,c3,rfl,rfl,hnz,hv3.le,hv3.cm,hv3.is⟩,hbz⟩
end Go.Proofs.YtlnhaajjoplafaaGreatDoor
namespace Go.Proofs.YtlnhaajjoplafaaGreatDoor
end Go.Proofs.YtlnhaajjoplafaaGreatDoor
namespace Go.Proofs.YtlnhaajjoplafaaGreatDoor
open Go.RowKit
set_option linter.unusedSimpArgs false
set_option maxRecDepth 100000
theorem BX.bel {B:Nat}{w w':World}(h:BX B w w'):Below B w w'∨w.heap.size≤B:=by
 by_cases hB:B<w.heap.size
 · exact .inl (h.below (Nat.le_refl _) hB)
 · exact .inr (by omega)
theorem evalue_any (es:List En)(ps:Option Addr)(cs:Nat)(q:Rq)(pq:Option Addr)(cq:Nat)(e:List Nd)(p:Option Addr)(c:Nat)(w:World)
 (ha:EvArg w es ps q pq cq) (he:NL w p e) (hl:e.length≤maxLen) (hN:N64 e):
 Calls Tryz.prog 8 #[.slice ps es.length cs,reqV q pq cq,.slice p e.length c] w fun r w'=>ValE (valueL es q e) r w'∧Below w.heap.size w w':=by
 have HE:=fun w1 hl1=>entCheck_any es ps cs w1 hl1
 have HA:=fun w1 h1=>ask_any q pq cq w1 h1
 have HT:=fun w1 h1=>tcheck_any e p c w1 h1 hl
 obtain⟨W,hW⟩:∃W,W=w.alloc (.cells #[.string q.who.t,.string q.who.i,.string q.act.t,.string q.act.i,.string q.what.t,.string q.what.i,.slice pq q.cx.length cq] 32):=⟨_,rfl⟩
 have hbW:Below w.heap.size w W:=by rw[hW];exact(Below.refl _ _).alloc (Nat.le_refl _) _
 have hWs:W.heap.size=w.heap.size+1:=by rw[hW];simp
 have hWc:W.heap[w.heap.size]? =some (.cells #[.string q.who.t,.string q.who.i,.string q.act.t,.string q.act.i,.string q.what.t,.string q.what.i,.slice pq q.cx.length cq] 32 (0,0)):=by rw[hW];exact new_at rfl
 have haW:=ha.up hbW
 have heW:=he.up hbW
 unfold reqV at *
 by_cases h1:stf es=0
 · rw[eV_nil h1]at HE
   by_cases h2:askf q=0
   · rw[eV_nil h2]at HA
     by_cases h3:xfault e=0
     · rw[eV_nil h3]at HT
       have HV:Hid (valueL es q e=evE es q (e.length+1) e):=by show _=_;unfold valueL;rw[if_pos h1,if_pos h2,if_pos h3]
       have hpe:pastE (e.length+1) e=some []:=(xfault_zero h3).2
       have hm:EnvOk es q:=⟨h1,h2,ha.esN,ha.cxN⟩
       have hcq:=ha.rq.le
       have hcm:=ha.rq.cm
       obtain⟨R,hR⟩:∃R,R=evE es q (e.length+1) e:=⟨_,rfl⟩
       rw[HV.out,←hR]
       go_enter Tryz.func8,Tryz.ntmps8
       go_wp2_with fail
       rw[←hW]
       refine(HE _ haW.el).mono ?_
       rintro _ w1 ⟨rfl,hb1⟩
       have ha1:=haW.up hb1
       have r0:=(hb1.block w.heap.size (by omega)).trans hWc
       obtain⟨x0,x1,x2,x3,x4,x5,x6⟩:=req_cells r0
       go_wp2_with fail
       refine(HA _ ha1.rq).mono ?_
       rintro _ w2 ⟨rfl,hb2⟩
       have ha2:=ha1.up hb2
       have he2:=(heW.up hb1).up hb2
       clear x0 x1 x2 x3 x4 x5 x6
       have r1:=(hb2.block w.heap.size (by have:=hb1.size;omega)).trans r0
       go_wp2_with fail
       refine(HT _ he2).mono ?_
       rintro _ w3 ⟨rfl,hb3⟩
       have ha3:=ha2.up hb3
       have he3:=he2.up hb3
       have r2:=(hb3.block w.heap.size (by have:=hb1.size;have:=hb2.size;omega)).trans r1
       obtain⟨x0,x1,x2,x3,x4,x5,x6⟩:=req_cells r2
       have hb03:=qbt hbW (qbt (qbt hb1 hb2) hb3)
       let E:EvEnv:=⟨w3,es,ps,cs,q,pq,cq,e,p,c⟩
       have ho:E.Ok:=⟨ha3.el,ha3.rq.nl,he3,hm,h3,hN,ha3.er,⟨hcq,hcm⟩⟩
       have hs:AS E (w3.alloc (.cells #[.slice ps es.length cs,.string q.who.t,.string q.who.i,.string q.act.t,.string q.act.i,.string q.what.t,.string q.what.i,.slice pq q.cx.length cq,.slice p e.length c,.int .i64 0] 75)) w3.heap.size 0:=
        ⟨new_at rfl,(Below.refl _ _).alloc (Nat.le_refl _) _,Nat.le_refl _,Nat.zero_le _⟩
       have HO:=valueOf_any (all_value (B:=w3.heap.size) ho (e.length+1) (by show e.length+1≤e.length+2;omega)) _ hs hpe
       have hb4:Below w3.heap.size w3 (w3.alloc (.cells #[.slice ps es.length cs,.string q.who.t,.string q.who.i,.string q.act.t,.string q.act.i,.string q.what.t,.string q.what.i,.slice pq q.cx.length cq,.slice p e.length c,.int .i64 0] 75)):=(Below.refl _ _).alloc (Nat.le_refl _) _
       have hlt:=hs.lt
       clear hs
       have e5:evE E.es E.q (e.length+1) E.e=evE es q (e.length+1) e:=rfl
       rw[e5,←hR]at HO
       clear HV hm ho h1 h2 h3 hpe hN e5 hR
       go_wp2_with fail
       refine HO.mono ?_
       intro e9 w9 h9
       obtain⟨hv,hx⟩:=h9
       have hb9:=qbt hb03 (hb4.trans (hx.below (Nat.le_refl _) hlt))
       cases R with
       | ok v=>
         obtain⟨q9,c9,rfl,h9⟩:=hv
         go_wp2
         go_ret2
         exact⟨⟨q9,c9,rfl,h9⟩,hb9⟩
       | error n=>
         obtain rfl:=hv
         go_wp2
         go_ret2
         exact⟨rfl,hb9⟩
     · rw[eV_not h3]at HT
       have HV:Hid (valueL es q e= .error (xfault e)):=by show _=_;unfold valueL;rw[if_pos h1,if_pos h2,if_neg h3]
       clear h1 h2 h3 hN
       rw[HV.out]
       clear HV
       generalize xfault e=n at *
       go_enter Tryz.func8,Tryz.ntmps8
       go_wp2_with fail
       rw[←hW]
       refine(HE _ haW.el).mono ?_
       rintro _ w1 ⟨rfl,hb1⟩
       have ha1:=haW.up hb1
       have r0:=(hb1.block w.heap.size (by omega)).trans hWc
       obtain⟨x0,x1,x2,x3,x4,x5,x6⟩:=req_cells r0
       go_wp2_with fail
       refine(HA _ ha1.rq).mono ?_
       rintro _ w2 ⟨rfl,hb2⟩
       have he2:=(heW.up hb1).up hb2
       clear x0 x1 x2 x3 x4 x5 x6
       go_wp2_with fail
       refine(HT _ he2).mono ?_
       rintro _ w3 ⟨rfl,hb3⟩
       have hb03:=qbt hbW (qbt (qbt hb1 hb2) hb3)
       go_wp2
       go_ret2
       exact⟨rfl,hb03⟩
   · rw[eV_not h2]at HA
     have HV:Hid (valueL es q e= .error (askf q)):=by show _=_;unfold valueL;rw[if_pos h1,if_neg h2]
     clear h1 h2 hN
     rw[HV.out]
     clear HV
     generalize askf q=n at *
     go_enter Tryz.func8,Tryz.ntmps8
     go_wp2_with fail
     rw[←hW]
     refine(HE _ haW.el).mono ?_
     rintro _ w1 ⟨rfl,hb1⟩
     have ha1:=haW.up hb1
     have r0:=(hb1.block w.heap.size (by omega)).trans hWc
     obtain⟨x0,x1,x2,x3,x4,x5,x6⟩:=req_cells r0
     go_wp2_with fail
     refine(HA _ ha1.rq).mono ?_
     rintro _ w2 ⟨rfl,hb2⟩
     clear x0 x1 x2 x3 x4 x5 x6
     have hb03:=qbt hbW (qbt hb1 hb2)
     go_wp2
     go_ret2
     exact⟨rfl,hb03⟩
 · rw[eV_not h1]at HE
   have HV:Hid (valueL es q e= .error (stf es)):=by show _=_;unfold valueL;rw[if_neg h1]
   clear h1 hN
   rw[HV.out]
   clear HV
   generalize stf es=n at *
   go_enter Tryz.func8,Tryz.ntmps8
   go_wp2_with fail
   rw[←hW]
   refine(HE _ haW.el).mono ?_
   rintro _ w1 ⟨rfl,hb1⟩
   have hb03:=qbt hbW hb1
   go_wp2
   go_ret2
   exact⟨rfl,hb03⟩
theorem LL.layO (w:World)(T:TypeId)(cs:List Value)(vs:List (List Nd))(hl:cs.length=vs.length)(h:∀(i:Nat) (u:Value) (v:List Nd),cs[i]? =some u→vs[i]? =some v→∃q c,u= .slice q v.length c∧NL w q v∧v.length≤c∧c≤maxLen):
 LL (w.alloc (.cells cs.toArray T)) (some ⟨w.heap.size,0,none⟩) vs:=by
 refine .inr ⟨_,_,rfl,by simp,fun i v hv=>?_⟩
 have hi:i<cs.length:=by rw[hl];exact(List.getElem?_eq_some_iff.1 hv).1
 obtain⟨q,c,h1,h2,h3,h4⟩:=h i cs[i] v (List.getElem?_eq_getElem hi) hv
 refine⟨q,c,?_,h2.up ((Below.refl _ _).alloc (Nat.le_refl _) _),h3,h4⟩
 rw[←h1]
 have:(w.alloc (.cells cs.toArray T)).heap[w.heap.size]? =some (.cells cs.toArray T (0,0)):=heap_alloc_new _ _
 show(match (w.alloc (.cells cs.toArray T)).heap[w.heap.size]? with | some (.cells c _ _)=>c[0+i]? | _=>none)=_
 rw[this]
 simp[hi]
theorem oN_wf {o:Int}:(oN o).wf:=⟨Nat.zero_le _,Nat.zero_le _,by show(0:Int)≤_;decide⟩
structure LArg (w:World)(a:List Nd)(n:Nat)(q:Option Addr)(c:Nat):Prop where
 len:a.length=n
 nl:NL w q a
 le:n≤c
 cm:c≤maxLen
 num:N64 a
theorem LArg.up {w w':World}{a:List Nd}{n:Nat}{q:Option Addr}{c:Nat}(h:LArg w a n q c)(hb:Below w.heap.size w w'):LArg w' a n q c:=⟨h.len,h.nl.up hb,h.le,h.cm,h.num⟩
theorem oN_64 {o:Int}{a:List Nd}(h2:o≠2)(h:N64 a):N64 (oN o::a):=fun x hx he=>by
 rcases List.mem_cons.1 hx with rfl | hx
 · exact absurd he h2
 · exact h x hx he
theorem N64.append {a b:List Nd}(h:N64 a)(k:N64 b):N64 (a++b):=fun x hx=>(List.mem_append.1 hx).elim (h x) (k x)
def Ans (w:World)(R:Except Int (List Nd))(v e:Value):Prop:=
 match R with
 | .ok a=>∃q c,v= .slice q a.length c∧e= .nilIface∧VArg w a a.length q c
 | .error n=>v= .slice none 0 0∧e= .iface 70 (.int .i64 n)
theorem ValE.ans {R:Except Int (List Nd)}{e:Ending}{w':World}(h:ValE R e w'):∃v f,e= .returned (.tuple #[v,f])∧Ans w' R v f:=by
 cases R with
 | ok a=>obtain⟨q,c,rfl,h⟩:=h;exact⟨_,_,rfl,q,c,rfl,rfl,h⟩
 | error n=>exact⟨_,_,h,rfl,rfl⟩
theorem Ans.up {w w':World}{R:Except Int (List Nd)}{v e:Value}(h:Ans w R v e)(hb:Below w.heap.size w w'):Ans w' R v e:=by
 cases R with
 | ok a=>obtain⟨q,c,rfl,rfl,h⟩:=h;exact⟨q,c,rfl,rfl,h.up hb⟩
 | error n=>exact h
theorem sameO {a:List Nd}{n:Nat}(hn:a.length=n){p q:Option Addr}(c1 c2:Nat)(w:World)(ha:NL w p a)(hb:NL w q a)(hl:n≤1000):
 Calls Tryz.prog 9 #[.slice p n c1,.slice q n c2] w fun e w'=>e= .returned (.bool true)∧Below w.heap.size w w':=by
 subst hn
 have h:=sameNodes_any a a p q c1 c2 w ha hb (by unfold maxLen;omega) (by unfold maxLen;omega)
 rw[(sameNd_iff _ _).2 rfl]at h
 refine h.mono ?_
 rintro e w' ⟨rfl,n,rfl⟩
 exact⟨rfl,⟨rfl,rfl,rfl,Nat.le_refl _,fun _ _=>rfl⟩⟩
def uA:Ui:=⟨⟨#[65]⟩,⟨#[]⟩⟩
def q0:Rq:=⟨uA,uA,uA,[⟨6,0,⟨#[]⟩,⟨#[]⟩⟩]⟩
def n5 (n:Int):Nd:=⟨2,n,⟨#[]⟩,⟨#[]⟩⟩
theorem n5_wf {n:Int}(h:n≤9223372036854775807):(n5 n).wf:=⟨by unfold maxLen;show 0≤_;decide,by unfold maxLen;show 0≤_;decide,h⟩
theorem evalue_arg {es:List En}{ps:Option Addr}(cs:Nat){q:Rq}{pq:Option Addr}{cq:Nat}{a:List Nd}{n:Nat}{p:Option Addr}{c:Nat}(w:World)(ha:EvArg w es ps q pq cq)(he:LArg w a n p c){R:Except Int (List Nd)}(hR:valueL es q a=R):
 Calls Tryz.prog 8 #[.slice ps es.length cs,reqV q pq cq,.slice p n c] w fun r w'=>(∃v f,r= .returned (.tuple #[v,f])∧Ans w' R v f)∧Below w.heap.size w w':=by
 subst hR
 obtain⟨rfl,h1,h2,h3,h4⟩:=he
 refine(evalue_any es ps cs q pq cq a p c w ha h1 (Nat.le_trans h2 h3) h4).mono ?_
 rintro e w' ⟨h,hb⟩
 exact⟨h.ans,hb⟩
theorem vcheck_arg {a:List Nd}{n:Nat}{p:Option Addr}{c:Nat}(w:World)(he:LArg w a n p c):
 Calls Tryz.prog 32 #[.slice p n c] w fun e w'=>e= .returned (eV (vfault a))∧Below w.heap.size w w':=by
 obtain⟨rfl,h1,h2,h3,h4⟩:=he
 exact vcheck_any a p c w h1 h2 h3
theorem tcheck_arg {a:List Nd}{n:Nat}{p:Option Addr}{c:Nat}(w:World)(he:LArg w a n p c):
 Calls Tryz.prog 21 #[.slice p n c] w fun e w'=>e= .returned (eV (xfault a))∧Below w.heap.size w w':=by
 obtain⟨rfl,h1,h2,h3,h4⟩:=he
 exact tcheck_any a p c w h1 (Nat.le_trans h2 h3)
theorem value_val {es:List En}{q:Rq}{v:List Nd}(h:vfault v=0)(h1:stf es=0)(h2:askf q=0):valueL es q v= .ok v:=by
 rw[valueL_ex (value_ex h),if_pos h1,if_pos h2,const0 h]
theorem VArg.l {w:World}{a:List Nd}{n:Nat}{q:Option Addr}{c:Nat}(h:VArg w a n q c):LArg w a n q c:=⟨h.len,h.nl,h.le,h.cm,h.is.num⟩
theorem qbA {a b:World}(h:Below a.heap.size a b){o:Obj}:Below a.heap.size a (b.alloc o):=qbt h ((Below.refl _ _).alloc (Nat.le_refl _) o)
theorem qbD {a b:World}(h:Below a.heap.size a b):Below a.heap.size a b.drew:=⟨h.os,h.tape,h.output,h.size,h.block⟩
end Go.Proofs.YtlnhaajjoplafaaGreatDoor
