import Derived.Test.YtlnhaajjoplafaaGreatDoorT15
import Derived.Test.YtlnhaajjoplafaaGreatDoorT21
import Derived.Test.YtlnhaajjoplafaaGreatDoorT5
import Derived.Test.YtlnhaajjoplafaaGreatDoorT22
import Derived.Defers
import Derived.Recover
import Derived.Laws.Pointers
import Derived.Deep.RegionHeld
import Derived.Test.YtlnhaajjoplafaaGreatDoorT11
set_option linter.unusedVariables false
set_option maxHeartbeats 12000000
namespace Go.Proofs.YtlnhaajjoplafaaGreatDoor
open Go.RowKit
set_option maxRecDepth 100000
structure EvArg (w:World)(es:List En)(ps:Option Addr)(q:Rq)(pq:Option Addr)(cq:Nat):Prop where
 el:EL w ps es
 rq:RqArg w q pq cq
 er:ErrVar w
 esN:∀e∈es,N64 e.nd
 cxN:N64 q.cx
theorem EvArg.up {w w':World}{es:List En}{ps:Option Addr}{q:Rq}{pq:Option Addr}{cq:Nat}(h:EvArg w es ps q pq cq)(k:Below w.heap.size w w'):EvArg w' es ps q pq cq:=
 ⟨h.el.up k,⟨h.rq.u0,h.rq.u1,h.rq.u2,h.rq.nl.up k,h.rq.le,h.rq.cm⟩,errVar_below h.er k (Nat.le_refl _),h.esN,h.cxN⟩
theorem req_cells {w:World}{B:Nat}{a0 a1 a2 a3 a4 a5 a6:Value}{T:TypeId}(h:w.heap[B]? =some (.cells #[a0,a1,a2,a3,a4,a5,a6] T (0,0))):
 w.cell? ⟨B,0,none⟩=some a0∧w.cell? ⟨B,1,none⟩=some a1∧w.cell? ⟨B,2,none⟩=some a2∧w.cell? ⟨B,3,none⟩=some a3∧w.cell? ⟨B,4,none⟩=some a4∧w.cell? ⟨B,5,none⟩=some a5∧w.cell? ⟨B,6,none⟩=some a6:=by
 simp[World.cell?, h]
set_option linter.unusedSimpArgs false
theorem ecatch_idle (p q:Addr)(w:World):
 CallsD Tryz.prog 35 #[.pointer (some p),.pointer (some q)] .returning w fun e u' w'=>e= .returned (.tuple #[])∧u'= .returning∧w'=w:=by
 refine callsD_of_wpS Tryz.func35 rfl fun c₀ cs hu=>?_
 apply wpS_seq
 apply wpS_region
 simp[wpOpsS,go_sem,recoverD,hu,Tryz.ntmps35,Exit.thenS]
 have e:∀p q X:Value, #[p,q]++(Array.replicate 11 undef).setIfInBounds 3 X= #[p,q,undef,undef,undef,X,undef,undef,undef,undef,undef,undef,undef]:=fun _ _ _=>rfl
 rw[e]
 refine wpS_of_wp ?_
 go_wp2
 cases c₀
 simp_all [bodyPostS,results,Tryz.results35]
theorem ecatch_thrown (n:Int)(N:Nat)(w:World)(u0 u1:Value)(h0:w.cell? ⟨N,0,none⟩=some u0)(z0:w.frozen? ⟨N,0,none⟩=false)(h1:w.cell? ⟨N+1,0,none⟩=some u1)(z1:w.frozen? ⟨N+1,0,none⟩=false)(hs:N+2≤w.heap.size):
 CallsD Tryz.prog 35 #[.pointer (some ⟨N,0,none⟩),.pointer (some ⟨N+1,0,none⟩)] (.panicking (thrownE n)) w fun e u' w'=>e= .returned (.tuple #[])∧u'= .panicking [{ v:=.iface 92 (.agg #[.iface 70 (.int .i64 n)]),recovered:=true }]∧
  w'.cell? ⟨N,0,none⟩=some (.slice none 0 0)∧w'.cell? ⟨N+1,0,none⟩=some (.iface 70 (.int .i64 n))∧Below N w w':=by
 have hta:∀w:World,Sem.run Tryz.prog (Instr.typeAssert (.iface 92 (.agg #[.iface 70 (.int .i64 n)])) 20 92 true) w= .ok (.tuple #[.agg #[.iface 70 (.int .i64 n)],.bool true]) w:=fun _=>by kernel_rfl
 refine callsD_of_wpS Tryz.func35 rfl fun c₀ cs hu=>?_
 unfold thrownE at hu
 apply wpS_seq
 apply wpS_region
 simp[wpOpsS,go_sem,recoverD,hu,Tryz.ntmps35,Exit.thenS]
 have e:∀p q X:Value, #[p,q]++(Array.replicate 11 undef).setIfInBounds 3 X= #[p,q,undef,undef,undef,X,undef,undef,undef,undef,undef,undef,undef]:=fun _ _ _=>rfl
 rw[e]
 refine wpS_of_wp ?_
 go_wp2_with fail
 have hbA:Below w.heap.size w (w.alloc (.cells #[.iface 70 (.int .i64 n)] 92)):=(Below.refl _ _).alloc (Nat.le_refl _) _
 have a0:=(hbA.cell (p:=⟨N,0,none⟩) (by show N<_;omega)).trans h0
 have a1:=(hbA.cell (p:=⟨N+1,0,none⟩) (by show N+1<_;omega)).trans h1
 have y0:=(hbA.frozen (p:=⟨N,0,none⟩) (by show N<_;omega)).trans z0
 have y1:=(hbA.frozen (p:=⟨N+1,0,none⟩) (by show N+1<_;omega)).trans z1
 have a5:(w.alloc (.cells #[.iface 70 (.int .i64 n)] 92)).cell? ⟨w.heap.size,0,none⟩=some (.iface 70 (.int .i64 n)):=by simp[go_sem]
 have hbB:Below N w (w.alloc (.cells #[.iface 70 (.int .i64 n)] 92)):=hbA.mono (by omega)
 clear hbA
 generalize w.alloc (.cells #[.iface 70 (.int .i64 n)] 92)=w1 at *
 have n0:N≠w.heap.size:=by omega
 have n1:N+1≠w.heap.size:=by omega
 have n3:w.heap.size≠N:=by omega
 have n4:w.heap.size≠N+1:=by omega
 clear h0 h1 z0 z1 hta
 go_region_held (fun w'=>w'.cell? ⟨w.heap.size,0,none⟩=some (.iface 70 (.int .i64 n))) (go_keep) (fail)
 all_goals go_wp2
 have k0:((w1.setCell ⟨N,0,none⟩ (.slice none 0 0)).setCell ⟨N+1,0,none⟩ (.iface 70 (.int .i64 n))).drew.cell? ⟨N,0,none⟩=some (.slice none 0 0):=
  (World.cell?_setCell_other _ _ _ _ (by simp)).trans (World.cell?_setCell_same _ _ _ a0)
 have k1:((w1.setCell ⟨N,0,none⟩ (.slice none 0 0)).setCell ⟨N+1,0,none⟩ (.iface 70 (.int .i64 n))).drew.cell? ⟨N+1,0,none⟩=some (.iface 70 (.int .i64 n)):=
  World.cell?_setCell_same _ _ _ ((World.cell?_setCell_other _ _ _ _ (by simp)).trans a1)
 have k3:Below N w ((w1.setCell ⟨N,0,none⟩ (.slice none 0 0)).setCell ⟨N+1,0,none⟩ (.iface 70 (.int .i64 n))).drew:=
  ((hbB.setCell (Nat.le_refl _) _).setCell (by show N≤N+1;omega) _).drew
 clear hbB a0 a1 a5 y0 y1 n0 n1 n3 n4
 try clear hHeld
 generalize ((w1.setCell ⟨N,0,none⟩ (.slice none 0 0)).setCell ⟨N+1,0,none⟩ (.iface 70 (.int .i64 n))).drew=w9 at *
 cases c₀
 simp_all [bodyPostS,results,Tryz.results35]
structure QB (w:World)(B:Nat)(q:Rq)(pq:Option Addr)(cq:Nat):Prop where
 blk:w.heap[B]? =some (.cells #[.string q.who.t,.string q.who.i,.string q.act.t,.string q.act.i,.string q.what.t,.string q.what.i,.slice pq q.cx.length cq] 32 (0,0))
theorem QB.lt {w:World}{B:Nat}{q:Rq}{pq:Option Addr}{cq:Nat}(h:QB w B q pq cq):B<w.heap.size:=(Array.getElem?_eq_some_iff.1 h.blk).1
theorem QB.up {w w':World}{B:Nat}{q:Rq}{pq:Option Addr}{cq:Nat}(h:QB w B q pq cq)(hb:Below w.heap.size w w'):QB w' B q pq cq:=⟨(hb.block B h.lt).trans h.blk⟩
theorem QB.cells {w:World}{B:Nat}{q:Rq}{pq:Option Addr}{cq:Nat}(h:QB w B q pq cq):
 w.cell? ⟨B,0,none⟩=some (.string q.who.t)∧w.cell? ⟨B,1,none⟩=some (.string q.who.i)∧w.cell? ⟨B,2,none⟩=some (.string q.act.t)∧w.cell? ⟨B,3,none⟩=some (.string q.act.i)∧w.cell? ⟨B,4,none⟩=some (.string q.what.t)∧w.cell? ⟨B,5,none⟩=some (.string q.what.i)∧w.cell? ⟨B,6,none⟩=some (.slice pq q.cx.length cq):=req_cells h.blk
theorem QB.new (w:World)(q:Rq)(pq:Option Addr)(cq:Nat):QB (w.alloc (.cells #[.string q.who.t,.string q.who.i,.string q.act.t,.string q.act.i,.string q.what.t,.string q.what.i,.slice pq q.cx.length cq] 32)) w.heap.size q pq cq:=⟨fnew_at rfl⟩
end Go.Proofs.YtlnhaajjoplafaaGreatDoor
