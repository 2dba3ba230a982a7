import Derived.Test.YtklfhdjnpgbcfaaGreatDoorM28
import Derived.Test.YtklfhdjnpgbcfaaGreatDoorM27
import Derived.Test.YtklfhdjnpgbcfaaGreatDoorM38
import Derived.Test.YtklfhdjnpgbcfaaGreatDoorM17
set_option linter.unusedVariables false
set_option maxHeartbeats 12000000
namespace Go.Proofs.YtklfhdjnpgbcfaaGreatDoor
open Go.RowKit
set_option linter.unusedSimpArgs false
set_option maxRecDepth 100000
def ValE (R:Except Int (List Nd))(e:Ending)(w':World):Prop:=
 match R with
 | .ok v=>∃q c,e= .returned (.tuple #[.slice q v.length c,.nilIface])∧VArg w' v v.length q c
 | .error n=>e= .returned (.tuple #[.slice none 0 0,.iface 57 (.int .i64 n)])
theorem new_at {w:World}{cs:Array Value}{T:TypeId}{n:Nat}(h:n=w.heap.size):(w.alloc (.cells cs T)).heap[n]? =some (.cells cs T (0,0)):=by
 subst h;exact heap_alloc_new _ _
theorem old_at {w:World}{o:Obj}{n:Nat}(h:n<w.heap.size):(w.alloc o).heap[n]? =w.heap[n]? :=((Below.refl w.heap.size w).alloc (Nat.le_refl _) o).block n h
theorem cell_one {w:World}{N:Nat}{v:Value}{T:TypeId}(h:w.heap[N]? =some (.cells #[v] T (0,0))):w.cell? ⟨N,0,none⟩=some v∧w.frozen? ⟨N,0,none⟩=false:=by
 simp[World.cell?, World.frozen?, h]
theorem BX.keep {B N:Nat}{a w w':World}(h:BX B a w)(k:Below N w w')(hN:a.heap.size≤N):BX B a w':=
 ⟨k.os.trans h.os,k.tape.trans h.tape,k.output.trans h.output,Nat.le_trans h.size k.size,fun i hi hn=>(k.block i (Nat.lt_of_lt_of_le hi hN)).trans (h.block i hi hn)⟩
theorem NL.offG {w:World}{g:Nat}{cur:Array Value}{T:TypeId}{fr:Nat×Nat}(hg:w.heap[g]? =some (.cells cur T fr))(hs:∀c∈cur.toList,∀z,c≠ .int .i64 z){q:Option Addr}{L:List Nd}(h:NL w q L)(hne:L≠[]):∀d,q=some d→d.block≠g:=by
 rintro d rfl e
 rcases h with h | ⟨b,off,h1,h2,h3⟩
 · exact hne h
 · cases h1
   obtain⟨x,r,rfl⟩:=List.exists_cons_of_ne_nil hne
   obtain⟨d0,_⟩:=h3 0 x rfl
   have eb:b=g:=e
   subst eb
   simp only[World.cell?, hg]at d0
   have:cur[off+0*4]? =some (.int .i64 x.op):=by simpa using d0
   exact hs _ (Array.mem_toList_iff.2 (Array.mem_of_getElem? this)) _ rfl
theorem valueOf_any {E:EvEnv}{B f:Nat}(hV:ValOk E B f)(w:World)(hs:AS E w B 0)(hp:pastE f E.e=some []):
 Calls Tryz.prog 20 #[.pointer (some ⟨B,0,none⟩)] w fun e w'=>ValE (evE E.es E.q f E.e) e w'∧BX B w w':=by
 have hmf:∀(fn:Fn) (first cap:Array Value) (w:World),(Instr.makeFunc fn first cap).run Tryz.prog w= .ok (.func fn first cap) w:=fun _ _ _ _=>rfl
 obtain⟨w2,hw2⟩:∃w2,w2=(w.alloc (.cells #[.slice none 0 0] 30)).alloc (.cells #[.nilIface] 34):=⟨_,rfl⟩
 have hb2:Below w.heap.size w w2:=by
  rw[hw2]
  exact((Below.refl _ _).alloc (Nat.le_refl _) _).alloc (by simp) _
 have k0:w2.heap[w.heap.size]? =some (.cells #[.slice none 0 0] 30 (0,0)):=by
  rw[hw2,old_at (by simp)];exact new_at rfl
 have k1:w2.heap[w.heap.size+1]? =some (.cells #[.nilIface] 34 (0,0)):=by
  rw[hw2];exact new_at (by simp)
 have hs2:=hs.up hb2
 have hBw:=hs.lt
 have H1:=hV w2 0 [] hs2 (by rw[List.drop_zero];exact hp)
 rw[List.drop_zero]at H1
 generalize evE E.es E.q f E.e=R at *
 go_enter_defers Tryz.func20,Tryz.ntmps20
 go_wp2_with fail
 rw[←hw2]
 refine H1.mono ?_
 cases R with
 | error n=>
   rintro e w3 ⟨rfl,hx3⟩
   have j0:=(hx3.block w.heap.size (Array.getElem?_eq_some_iff.1 k0).1 (by omega)).trans k0
   have j1:=(hx3.block (w.heap.size+1) (Array.getElem?_eq_some_iff.1 k1).1 (by omega)).trans k1
   obtain⟨x0,z0⟩:=cell_one j0
   obtain⟨x1,z1⟩:=cell_one j1
   have hsz:w.heap.size+2≤w3.heap.size:=by have:=(Array.getElem?_eq_some_iff.1 j1).1;omega
   have hbx:BX B w w3:=(BX.of_below hb2).trans hx3
   clear H1 hw2
   go_wp2
   refine leaves_cons (f:=33) (args:= #[.pointer (some ⟨w.heap.size,0,none⟩),.pointer (some ⟨w.heap.size+1,0,none⟩)]) (by simp) (by simp[go_sem]) ?_
   refine(ecatch_thrown n w.heap.size _ _ _ x0 z0 x1 z1 hsz).mono ?_
   rintro e u' w7 ⟨rfl,rfl,c0,c1,hb7⟩
   have hb8:=hbx.keep hb7 (Nat.le_refl _)
   simp[Leaves,settle,results,Tryz.results20,go_sem,c0,c1]
   exact⟨rfl,hb8⟩
 | ok v=>
   rintro e w3 ⟨⟨q3,c3,rfl,hv3⟩,hs3,hx3⟩
   have j0:=(hx3.block w.heap.size (Array.getElem?_eq_some_iff.1 k0).1 (by omega)).trans k0
   have j1:=(hx3.block (w.heap.size+1) (Array.getElem?_eq_some_iff.1 k1).1 (by omega)).trans k1
   obtain⟨x0,z0⟩:=cell_one j0
   obtain⟨x1,z1⟩:=cell_one j1
   have hbx:BX B w w3:=(BX.of_below hb2).trans hx3
   clear H1 hw2
   have hq0:=hv3.nl.offG j0 (by intro c hc z;simp at hc;subst hc;simp) hv3.is.ne
   have hq1:=hv3.nl.offG j1 (by intro c hc z;simp at hc;subst hc;simp) hv3.is.ne
   have hnz:NL ((w3.setCell ⟨w.heap.size,0,none⟩ (.slice q3 v.length c3)).setCell ⟨w.heap.size+1,0,none⟩ .nilIface) q3 v:=(hv3.nl.setc hq0 _).setc hq1 _
   have hbz:BX B w ((w3.setCell ⟨w.heap.size,0,none⟩ (.slice q3 v.length c3)).setCell ⟨w.heap.size+1,0,none⟩ .nilIface):=
    hbx.keep (((Below.refl w.heap.size w3).setCell (p:=⟨w.heap.size,0,none⟩) (Nat.le_refl _) _).setCell (p:=⟨w.heap.size+1,0,none⟩) (by show w.heap.size≤w.heap.size+1;omega) _) (Nat.le_refl _)
   have g0:((w3.setCell ⟨w.heap.size,0,none⟩ (.slice q3 v.length c3)).setCell ⟨w.heap.size+1,0,none⟩ .nilIface).cell? ⟨w.heap.size,0,none⟩=some (.slice q3 v.length c3):=
    (World.cell?_setCell_other _ _ _ _ (by simp)).trans (World.cell?_setCell_same _ _ _ x0)
   have g1:((w3.setCell ⟨w.heap.size,0,none⟩ (.slice q3 v.length c3)).setCell ⟨w.heap.size+1,0,none⟩ .nilIface).cell? ⟨w.heap.size+1,0,none⟩=some .nilIface:=
    World.cell?_setCell_same _ _ _ ((World.cell?_setCell_other _ _ _ _ (by simp)).trans x1)
   go_wp2_with fail
   generalize (w3.setCell ⟨w.heap.size,0,none⟩ (.slice q3 v.length c3)).setCell ⟨w.heap.size+1,0,none⟩ .nilIface=wz at *
   unfold bodyPostD
   simp only[]
   refine leaves_cons (f:=33) (args:= #[.pointer (some ⟨w.heap.size,0,none⟩),.pointer (some ⟨w.heap.size+1,0,none⟩)]) (by simp) (by simp[go_sem]) ?_
   refine(ecatch_idle ⟨w.heap.size,0,none⟩ ⟨w.heap.size+1,0,none⟩ _).mono ?_
   rintro e u' w10 ⟨rfl,rfl,rfl⟩
   simp[Leaves,settle,results,Tryz.results20,go_sem,g0,g1]
   exact⟨⟨q3,c3,rfl,rfl,hnz,hv3.le,hv3.cm,hv3.is⟩,hbz⟩
end Go.Proofs.YtklfhdjnpgbcfaaGreatDoor
namespace Go.Proofs.YtklfhdjnpgbcfaaGreatDoor
end Go.Proofs.YtklfhdjnpgbcfaaGreatDoor
