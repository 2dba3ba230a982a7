import Derived.Test.YtnbkfggmpiccjaaGreatDoorE39
import Derived.Test.YtnbkfggmpiccjaaGreatDoorE35
import Derived.Test.YtnbkfggmpiccjaaGreatDoorE36
import Derived.Test.YtnbkfggmpiccjaaGreatDoorE27
import Derived.Test.YtnbkfggmpiccjaaGreatDoorE28
import Derived.Test.YtnbkfggmpiccjaaGreatDoorE9
import Derived.Test.YtnbkfggmpiccjaaGreatDoorE18
import Derived.Test.YtnbkfggmpiccjaaGreatDoorE23
import Derived.Lib.JoinLaws
import Derived.Lib.AppendZeros
import Derived.Deep.AppendSrc
import Derived.Laws.IdiomCopy
set_option linter.unusedVariables false
set_option maxHeartbeats 12000000
namespace Go.Proofs.YtnbkfggmpiccjaaGreatDoor
open Go.RowKit
set_option linter.unusedSimpArgs false
set_option maxRecDepth 100000
def ValE (R:Except Int (List Nd))(e:Ending)(w':World):Prop:=
 match R with
 | .ok v=>∃q c,e= .returned (.tuple #[.slice q v.length c,.nilIface])∧VArg w' v v.length q c
 | .error n=>e= .returned (.tuple #[.slice none 0 0,.iface 28 (.int .i64 n)])
theorem new_at {w:World}{cs:Array Value}{T:TypeId}{n:Nat}(h:n=w.heap.size):(w.alloc (.cells cs T)).heap[n]? =some (.cells cs T (0,0)):=by
 subst h;exact heap_alloc_new _ _
theorem old_at {w:World}{o:Obj}{n:Nat}(h:n<w.heap.size):(w.alloc o).heap[n]? =w.heap[n]? :=((Below.refl w.heap.size w).alloc (Nat.le_refl _) o).block n h
theorem cell_one {w:World}{N:Nat}{v:Value}{T:TypeId}(h:w.heap[N]? =some (.cells #[v] T (0,0))):w.cell? ⟨N,0,none⟩=some v∧w.frozen? ⟨N,0,none⟩=false:=by
 simp[World.cell?, World.frozen?, h]
theorem BX.keep {B N:Nat}{a w w':World}(h:BX B a w)(k:Below N w w')(hN:a.heap.size≤N):BX B a w':=
 ⟨k.os.trans h.os,k.tape.trans h.tape,k.output.trans h.output,Nat.le_trans h.size k.size,fun i hi hn=>(k.block i (Nat.lt_of_lt_of_le hi hN)).trans (h.block i hi hn)⟩
theorem NL.offG {w:World}{g:Nat}{cur:Array Value}{T:TypeId}{fr:Nat×Nat}(hg:w.heap[g]? =some (.cells cur T fr))(hs:∀c∈cur.toList,∀z,c≠ .int .i64 z){q:Option Addr}{L:List Nd}(h:NL w q L)(hne:L≠[]):∀d,q=some d→d.block≠g:=by
 rintro d rfl e
 rcases h with h | ⟨b,off,h1,h2,h3⟩
 · exact hne h
 · cases h1
   obtain⟨x,r,rfl⟩:=List.exists_cons_of_ne_nil hne
   obtain⟨d0,_⟩:=h3 0 x rfl
   have eb:b=g:=e
   subst eb
   simp only[World.cell?, hg]at d0
   have:cur[off+0*4]? =some (.int .i64 x.op):=by simpa using d0
   exact hs _ (Array.mem_toList_iff.2 (Array.mem_of_getElem? this)) _ rfl
theorem valueOf_any {E:EvEnv}{B f:Nat}(hV:ValOk E B f)(w:World)(hs:AS E w B 0)(hp:pastE f E.e=some []):
 Calls Tryz.prog 16 #[.pointer (some ⟨B,0,none⟩)] w fun e w'=>ValE (evE E.es E.q f E.e) e w'∧BX B w w':=by
 have hmf:∀(fn:Fn) (first cap:Array Value) (w:World),(Instr.makeFunc fn first cap).run Tryz.prog w= .ok (.func fn first cap) w:=fun _ _ _ _=>rfl
 obtain⟨w2,hw2⟩:∃w2,w2=(w.alloc (.cells #[.slice none 0 0] 25)).alloc (.cells #[.nilIface] 33):=⟨_,rfl⟩
 have hb2:Below w.heap.size w w2:=by
  rw[hw2]
  exact((Below.refl _ _).alloc (Nat.le_refl _) _).alloc (by simp) _
 have k0:w2.heap[w.heap.size]? =some (.cells #[.slice none 0 0] 25 (0,0)):=by
  rw[hw2,old_at (by simp)];exact new_at rfl
 have k1:w2.heap[w.heap.size+1]? =some (.cells #[.nilIface] 33 (0,0)):=by
  rw[hw2];exact new_at (by simp)
 have hs2:=hs.up hb2
 have hBw:=hs.lt
 have H1:=hV w2 0 [] hs2 (by rw[List.drop_zero];exact hp)
 rw[List.drop_zero]at H1
 generalize evE E.es E.q f E.e=R at *
 go_enter_defers Tryz.func16,Tryz.ntmps16
 go_wp2_with fail
 rw[←hw2]
 refine H1.mono ?_
 cases R with
 | error n=>
   rintro e w3 ⟨rfl,hx3⟩
   have j0:=(hx3.block w.heap.size (Array.getElem?_eq_some_iff.1 k0).1 (by omega)).trans k0
   have j1:=(hx3.block (w.heap.size+1) (Array.getElem?_eq_some_iff.1 k1).1 (by omega)).trans k1
   obtain⟨x0,z0⟩:=cell_one j0
   obtain⟨x1,z1⟩:=cell_one j1
   have hsz:w.heap.size+2≤w3.heap.size:=by have:=(Array.getElem?_eq_some_iff.1 j1).1;omega
   have hbx:BX B w w3:=(BX.of_below hb2).trans hx3
   clear H1 hw2
   go_wp2
   refine leaves_cons (f:=36) (args:= #[.pointer (some ⟨w.heap.size,0,none⟩),.pointer (some ⟨w.heap.size+1,0,none⟩)]) (by simp) (by simp[go_sem]) ?_
   refine(ecatch_thrown n w.heap.size _ _ _ x0 z0 x1 z1 hsz).mono ?_
   rintro e u' w7 ⟨rfl,rfl,c0,c1,hb7⟩
   have hb8:=hbx.keep hb7 (Nat.le_refl _)
   simp[Leaves,settle,results,Tryz.results16,go_sem,c0,c1]
   exact⟨rfl,hb8⟩
 | ok v=>
   rintro e w3 ⟨⟨q3,c3,rfl,hv3⟩,hs3,hx3⟩
   have j0:=(hx3.block w.heap.size (Array.getElem?_eq_some_iff.1 k0).1 (by omega)).trans k0
   have j1:=(hx3.block (w.heap.size+1) (Array.getElem?_eq_some_iff.1 k1).1 (by omega)).trans k1
   obtain⟨x0,z0⟩:=cell_one j0
   obtain⟨x1,z1⟩:=cell_one j1
   have hbx:BX B w w3:=(BX.of_below hb2).trans hx3
   clear H1 hw2
   have hq0:=hv3.nl.offG j0 (by intro c hc z;simp at hc;subst hc;simp) hv3.is.ne
   have hq1:=hv3.nl.offG j1 (by intro c hc z;simp at hc;subst hc;simp) hv3.is.ne
   have hnz:NL ((w3.setCell ⟨w.heap.size,0,none⟩ (.slice q3 v.length c3)).setCell ⟨w.heap.size+1,0,none⟩ .nilIface) q3 v:=(hv3.nl.setc hq0 _).setc hq1 _
   have hbz:BX B w ((w3.setCell ⟨w.heap.size,0,none⟩ (.slice q3 v.length c3)).setCell ⟨w.heap.size+1,0,none⟩ .nilIface):=
    hbx.keep (((Below.refl w.heap.size w3).setCell (p:=⟨w.heap.size,0,none⟩) (Nat.le_refl _) _).setCell (p:=⟨w.heap.size+1,0,none⟩) (by show w.heap.size≤w.heap.size+1;omega) _) (Nat.le_refl _)
   have g0:((w3.setCell ⟨w.heap.size,0,none⟩ (.slice q3 v.length c3)).setCell ⟨w.heap.size+1,0,none⟩ .nilIface).cell? ⟨w.heap.size,0,none⟩=some (.slice q3 v.length c3):=
    (World.cell?_setCell_other _ _ _ _ (by simp)).trans (World.cell?_setCell_same _ _ _ x0)
   have g1:((w3.setCell ⟨w.heap.size,0,none⟩ (.slice q3 v.length c3)).setCell ⟨w.heap.size+1,0,none⟩ .nilIface).cell? ⟨w.heap.size+1,0,none⟩=some .nilIface:=
    World.cell?_setCell_same _ _ _ ((World.cell?_setCell_other _ _ _ _ (by simp)).trans x1)
   go_wp2_with fail
   generalize (w3.setCell ⟨w.heap.size,0,none⟩ (.slice q3 v.length c3)).setCell ⟨w.heap.size+1,0,none⟩ .nilIface=wz at *
   unfold bodyPostD
   simp only[]
   refine leaves_cons (f:=36) (args:= #[.pointer (some ⟨w.heap.size,0,none⟩),.pointer (some ⟨w.heap.size+1,0,none⟩)]) (by simp) (by simp[go_sem]) ?_
   refine(ecatch_idle ⟨w.heap.size,0,none⟩ ⟨w.heap.size+1,0,none⟩ _).mono ?_
   rintro e u' w10 ⟨rfl,rfl,rfl⟩
   simp[Leaves,settle,results,Tryz.results16,go_sem,g0,g1]
   exact⟨⟨q3,c3,rfl,rfl,hnz,hv3.le,hv3.cm,hv3.is⟩,hbz⟩
end Go.Proofs.YtnbkfggmpiccjaaGreatDoor
namespace Go.Proofs.YtnbkfggmpiccjaaGreatDoor
end Go.Proofs.YtnbkfggmpiccjaaGreatDoor
namespace Go.Proofs.YtnbkfggmpiccjaaGreatDoor
open Go.RowKit
set_option maxRecDepth 100000
def GRet (R:Except Int (List Nd))(e:Ending)(w:World):Prop:=
 match R with
 | .ok a=>∃q c,e= .returned (.agg #[.slice q a.length c,.int .i64 0])∧VArg w a a.length q c
 | .error n=>e= .returned (.agg #[.slice none 0 0,.int .i64 n])
structure QR (w:World)(B:Nat)(q:Rq)(pq:Option Addr)(cq:Nat):Prop where
 blk:w.heap[B]? =some (.cells #[.string q.who.t,.string q.who.i,.string q.act.t,.string q.act.i,.string q.what.t,.string q.what.i,.slice pq q.cx.length cq] 27 (0,0))
theorem QR.lt {w:World}{B:Nat}{q:Rq}{pq:Option Addr}{cq:Nat}(h:QR w B q pq cq):B<w.heap.size:=(Array.getElem?_eq_some_iff.1 h.blk).1
theorem QR.up {w w':World}{B:Nat}{q:Rq}{pq:Option Addr}{cq:Nat}(h:QR w B q pq cq)(hb:Below w.heap.size w w'):QR w' B q pq cq:=⟨(hb.block B h.lt).trans h.blk⟩
theorem QR.cells {w:World}{B:Nat}{q:Rq}{pq:Option Addr}{cq:Nat}(h:QR w B q pq cq):
 w.cell? ⟨B,0,none⟩=some (.string q.who.t)∧w.cell? ⟨B,1,none⟩=some (.string q.who.i)∧w.cell? ⟨B,2,none⟩=some (.string q.act.t)∧w.cell? ⟨B,3,none⟩=some (.string q.act.i)∧w.cell? ⟨B,4,none⟩=some (.string q.what.t)∧w.cell? ⟨B,5,none⟩=some (.string q.what.i)∧w.cell? ⟨B,6,none⟩=some (.slice pq q.cx.length cq):=by
 have:=h.blk
 simp[World.cell?, this]
theorem QR.new (w:World)(q:Rq)(pq:Option Addr)(cq:Nat):QR (w.alloc (.cells #[.string q.who.t,.string q.who.i,.string q.act.t,.string q.act.i,.string q.what.t,.string q.what.i,.slice pq q.cx.length cq] 27)) w.heap.size q pq cq:=⟨new_at rfl⟩
structure GR (w:World)(B:Nat):Prop where
 blk:w.heap[B]? =some (.cells #[.slice none 0 0,.int .i64 0] 30 (0,0))
theorem GR.lt {w:World}{B:Nat}(h:GR w B):B<w.heap.size:=(Array.getElem?_eq_some_iff.1 h.blk).1
theorem GR.up {w w':World}{B:Nat}(h:GR w B)(hb:Below w.heap.size w w'):GR w' B:=⟨(hb.block B h.lt).trans h.blk⟩
theorem GR.new (w:World){N:Nat}(h:N=w.heap.size):GR (w.alloc (.cells #[.slice none 0 0,.int .i64 0] 30)) N:=⟨new_at h⟩
theorem GR.cells {w:World}{B:Nat}(h:GR w B):w.cell? ⟨B,0,none⟩=some (.slice none 0 0)∧w.cell? ⟨B,1,none⟩=some (.int .i64 0)∧w.frozen? ⟨B,0,none⟩=false∧w.frozen? ⟨B,1,none⟩=false:=by
 have:=h.blk
 simp[World.cell?, World.frozen?, this]
theorem GR.told {w:World}{B:Nat}(h:GR w B)(u v:Value):((w.setCell ⟨B,0,none⟩ u).setCell ⟨B,1,none⟩ v).cell? ⟨B,0,none⟩=some u∧((w.setCell ⟨B,0,none⟩ u).setCell ⟨B,1,none⟩ v).cell? ⟨B,1,none⟩=some v:=by
 obtain⟨h0,h1,_⟩:=h.cells
 constructor
 · rw[World.cell?_setCell_other _ _ _ _ (by simp)]
   exact World.cell?_setCell_same _ _ _ h0
 · exact World.cell?_setCell_same _ _ _ ((World.cell?_setCell_other _ _ _ _ (by simp)).trans h1)
theorem GR.bel {w:World}{B N:Nat}(hN:N≤B)(u v:Value):Below N w ((w.setCell ⟨B,0,none⟩ u).setCell ⟨B,1,none⟩ v):=((Below.refl _ _).setCell (p:=⟨B,0,none⟩) hN _).setCell (p:=⟨B,1,none⟩) hN _
def NoS (v:Value):Prop:=(∃q n c,v= .slice q n c)∨∃n,v= .int .i64 n
theorem VArg.offG {w:World}{g:Nat}{cur:Array Value}{T:TypeId}{fr:Nat×Nat}(hg:w.heap[g]? =some (.cells cur T fr))(hs:∀c∈cur.toList,NoS c){a:List Nd}{n:Nat}{q:Option Addr}{c:Nat}(h:VArg w a n q c):∀d,q=some d→d.block≠g:=by
 rintro d rfl e
 obtain⟨x,r,b,off,_,hq,_,_,_,h2,_⟩:=h.head
 cases hq
 have eb:b=g:=e
 subst eb
 simp only[World.cell?, hg]at h2
 have hm:Value.string x.s∈cur.toList:=Array.mem_toList_iff.2 (Array.mem_of_getElem? h2)
 rcases hs _ hm with⟨_,_,_,e⟩ | ⟨_,e⟩<;>cases e
theorem NL.setc2 {w:World}{q:Option Addr}{L:List Nd}(h:NL w q L){g i:Nat}(hn:∀d,q=some d→d.block≠g)(u:Value):NL (w.setCell ⟨g,i,none⟩ u) q L:=by
 rcases h with h | ⟨b,off,h1,h2,h3⟩
 · exact .inl h
 · refine .inr ⟨b,off,h1,by simpa using h2,fun j x hx=>?_⟩
   have hb:b≠g:=hn ⟨b,off,none⟩ h1
   have q:∀o,(w.setCell ⟨g,i,none⟩ u).cell? ⟨b,o,none⟩=w.cell? ⟨b,o,none⟩:=fun o=>World.cell?_setCell_other _ _ _ _ (fun e=>hb (congrArg Addr.block e).symm)
   simp only[q]
   exact h3 j x hx
theorem GR.keep {w:World}{B:Nat}(h:GR w B){a:List Nd}{n:Nat}{q:Option Addr}{c:Nat}(k:VArg w a n q c)(u v:Value):VArg ((w.setCell ⟨B,0,none⟩ u).setCell ⟨B,1,none⟩ v) a n q c:=by
 have ho:=k.offG h.blk (fun c hc=>by simp at hc;rcases hc with rfl | rfl;exact .inl ⟨_,_,_,rfl⟩;exact .inr ⟨_,rfl⟩)
 exact⟨k.len,(k.nl.setc2 ho _).setc2 ho _,k.le,k.cm,k.is⟩
theorem GR.ret {w w0:World}{B:Nat}(h:GR w B)(hN:w0.heap.size≤B)(hb:Below w0.heap.size w0 w){R:Except Int (List Nd)}{u v:Value}(hG:GRet R (.returned (.agg #[u,v])) w):
 GRet R (.returned (.agg #[u,v])) ((w.setCell ⟨B,0,none⟩ u).setCell ⟨B,1,none⟩ v)∧Below w0.heap.size w0 ((w.setCell ⟨B,0,none⟩ u).setCell ⟨B,1,none⟩ v):=by
 refine⟨?_,hb.trans (GR.bel hN u v)⟩
 cases R with
 | ok a=>obtain⟨q,c,e,k⟩:=hG;exact⟨q,c,e,h.keep k u v⟩
 | error n=>exact hG
section
variable (w:World)
theorem refUidOf_any (o n:Int)(s t:ByteArray):Calls Tryz.prog 86 #[.agg #[.int .i64 o,.int .i64 n,.string s,.string t]] w fun e w'=>e= .returned (.agg #[.string s,.string t])∧Below w.heap.size w w':=by
 go_enter Tryz.func86,Tryz.ntmps86
 go_wp2
 refine bodyPost_ret (v:=.agg #[.string s,.string t]) (by simp[results,Tryz.results86,go_sem]) rfl ⟨rfl,?_⟩
 exact((Below.refl _ _).alloc (Nat.le_refl _) _).alloc (by simp) _
theorem refBad_any (n:Int):Calls Tryz.prog 11 #[.int .i64 n] w fun e w'=>e= .returned (.agg #[.slice none 0 0,.int .i64 n])∧Below w.heap.size w w':=by
 go_enter Tryz.func11,Tryz.ntmps11
 go_wp2
 refine bodyPost_ret (v:=.agg #[.slice none 0 0,.int .i64 n]) (by simp[results,Tryz.results11,go_sem]) rfl ⟨rfl,?_⟩
 exact(Below.refl _ _).alloc (Nat.le_refl _) _
theorem refGood_any (q:Option Addr)(n c:Nat):Calls Tryz.prog 23 #[.slice q n c] w fun e w'=>e= .returned (.agg #[.slice q n c,.int .i64 0])∧Below w.heap.size w w':=by
 go_enter Tryz.func23,Tryz.ntmps23
 go_wp2
 refine bodyPost_ret (v:=.agg #[.slice q n c,.int .i64 0]) (by simp[results,Tryz.results23,go_sem]) rfl ⟨rfl,?_⟩
 exact(Below.refl _ _).alloc (Nat.le_refl _) _
theorem refMade_any (q:Option Addr)(n c:Nat)(k:Int):Calls Tryz.prog 27 #[.slice q n c,.int .i64 k] w fun e w'=>e= .returned (.agg #[.slice q n c,.int .i64 k])∧Below w.heap.size w w':=by
 go_enter Tryz.func27,Tryz.ntmps27
 go_wp2
 refine bodyPost_ret (v:=.agg #[.slice q n c,.int .i64 k]) (by simp[results,Tryz.results27,go_sem]) rfl ⟨rfl,?_⟩
 exact(Below.refl _ _).alloc (Nat.le_refl _) _
theorem refIs_any (a:List Nd)(n:Nat)(q:Option Addr)(c:Nat)(o:Int)(h:VArg w a n q c):
 Calls Tryz.prog 47 #[.agg #[.slice q n c,.int .i64 0],.int .i64 o] w fun e w'=>e= .returned (.bool (opV a == o))∧Below w.heap.size w w':=by
 obtain⟨x,r,b,off,rfl,rfl,hb,c0,c1,c2,c3,_,h1⟩:=h.head
 have i1:(0:Int)<(n:Int):=by omega
 clear h
 go_enter Tryz.func47,Tryz.ntmps47
 go_wp2
 go_ret
 exact⟨rfl,(Below.refl _ _).alloc (Nat.le_refl _) _⟩
theorem refNamed_any (es:List En)(q:Rq)(pq:Option Addr)(cq:Nat)(s:ByteArray)(ho:EnvOk es q)(hr:RqArg w q pq cq):
 Calls Tryz.prog 24 #[reqV q pq cq,.string s] w fun e w'=>GRet (varE q s) e w'∧Below w.heap.size w w':=by
 obtain⟨u1,u2,u3,_⟩:=askf_zero ho.ask
 have hcx:=ho.ctx.1
 obtain⟨W,hW⟩:∃W,W=(w.alloc (.cells #[.string q.who.t,.string q.who.i,.string q.act.t,.string q.act.i,.string q.what.t,.string q.what.i,.slice pq q.cx.length cq] 27)).alloc (.cells #[.slice none 0 0,.int .i64 0] 30):=⟨_,rfl⟩
 have hb0:Below w.heap.size w W:=by rw[hW];exact((Below.refl _ _).alloc (Nat.le_refl _) _).alloc (by simp) _
 have hq0:QR W w.heap.size q pq cq:=by rw[hW];exact(QR.new w q pq cq).up ((Below.refl _ _).alloc (Nat.le_refl _) _)
 have hR0:GR W (w.heap.size+1):=by rw[hW];exact GR.new _ (by simp)
 have hn:=hr.nl
 have hle:=hr.le
 have hcm:=hr.cm
 clear hr
 obtain⟨x0,x1,x2,x3,x4,x5,x6⟩:=hq0.cells
 unfold varE reqV
 by_cases h1:s=wPrin
 · rw[if_pos h1]
   subst h1
   unfold wPrin
   go_enter Tryz.func24,Tryz.ntmps24
   go_wp2_with fail
   rw[←hW]
   refine(refEntOf_any W q.who u1).mono ?_
   rintro e w1 ⟨⟨q1,d1,rfl,hv⟩,hb1⟩
   go_wp2_with fail
   refine(refGood_any w1 q1 1 d1).mono ?_
   rintro e w2 ⟨rfl,hb2⟩
   have hR2:=(hR0.up hb1).up hb2
   obtain⟨r0,r1,f0,f1⟩:=hR2.cells
   go_wp2
   exact bodyPost_ret (v:=.agg #[.slice q1 1 d1,.int .i64 0]) (by simp[results,Tryz.results24,go_sem,(hR2.told _ _).1,(hR2.told _ _).2]) rfl (hR2.ret (Nat.le_succ _) (qbt (qbt hb0 hb1) hb2) ⟨q1,d1,rfl,hv.up hb2⟩)
 rw[if_neg h1]
 have n1:=tl_beq (l:=[112,114,105,110,99,105,112,97,108]) h1
 by_cases h2:s=wAct
 · rw[if_pos h2]
   subst h2
   unfold wAct at n1 ⊢
   go_enter Tryz.func24,Tryz.ntmps24
   go_wp2_with fail
   rw[←hW]
   refine(refEntOf_any W q.act u2).mono ?_
   rintro e w1 ⟨⟨q1,d1,rfl,hv⟩,hb1⟩
   go_wp2_with fail
   refine(refGood_any w1 q1 1 d1).mono ?_
   rintro e w2 ⟨rfl,hb2⟩
   have hR2:=(hR0.up hb1).up hb2
   obtain⟨r0,r1,f0,f1⟩:=hR2.cells
   go_wp2
   exact bodyPost_ret (v:=.agg #[.slice q1 1 d1,.int .i64 0]) (by simp[results,Tryz.results24,go_sem,(hR2.told _ _).1,(hR2.told _ _).2]) rfl (hR2.ret (Nat.le_succ _) (qbt (qbt hb0 hb1) hb2) ⟨q1,d1,rfl,hv.up hb2⟩)
 rw[if_neg h2]
 have n2:=tl_beq (l:=[97,99,116,105,111,110]) h2
 by_cases h3:s=wRes
 · rw[if_pos h3]
   subst h3
   unfold wRes at n1 n2 ⊢
   go_enter Tryz.func24,Tryz.ntmps24
   go_wp2_with fail
   rw[←hW]
   refine(refEntOf_any W q.what u3).mono ?_
   rintro e w1 ⟨⟨q1,d1,rfl,hv⟩,hb1⟩
   go_wp2_with fail
   refine(refGood_any w1 q1 1 d1).mono ?_
   rintro e w2 ⟨rfl,hb2⟩
   have hR2:=(hR0.up hb1).up hb2
   obtain⟨r0,r1,f0,f1⟩:=hR2.cells
   go_wp2
   exact bodyPost_ret (v:=.agg #[.slice q1 1 d1,.int .i64 0]) (by simp[results,Tryz.results24,go_sem,(hR2.told _ _).1,(hR2.told _ _).2]) rfl (hR2.ret (Nat.le_succ _) (qbt (qbt hb0 hb1) hb2) ⟨q1,d1,rfl,hv.up hb2⟩)
 rw[if_neg h3]
 have n3:=tl_beq (l:=[114,101,115,111,117,114,99,101]) h3
 by_cases h4:s=wCtx
 · rw[if_pos h4]
   subst h4
   unfold wCtx at n1 n2 n3 ⊢
   go_enter Tryz.func24,Tryz.ntmps24
   go_wp2_with fail
   rw[←hW]
   refine(refGood_any W pq q.cx.length cq).mono ?_
   rintro e w2 ⟨rfl,hb2⟩
   have hR2:=hR0.up hb2
   obtain⟨r0,r1,f0,f1⟩:=hR2.cells
   go_wp2
   exact bodyPost_ret (v:=.agg #[.slice pq q.cx.length cq,.int .i64 0]) (by simp[results,Tryz.results24,go_sem,(hR2.told _ _).1,(hR2.told _ _).2]) rfl (hR2.ret (Nat.le_succ _) (qbt hb0 hb2) ⟨pq,cq,rfl,rfl,hn.up (qbt hb0 hb2),hle,hcm,hcx⟩)
 rw[if_neg h4]
 have n4:=tl_beq (l:=[99,111,110,116,101,120,116]) h4
 go_enter Tryz.func24,Tryz.ntmps24
 go_wp2_with fail
 rw[←hW]
 refine(refBad_any W 3).mono ?_
 rintro e w2 ⟨rfl,hb2⟩
 have hR2:=hR0.up hb2
 obtain⟨r0,r1,f0,f1⟩:=hR2.cells
 go_wp2
 exact bodyPost_ret (v:=.agg #[.slice none 0 0,.int .i64 3]) (by simp[results,Tryz.results24,go_sem,(hR2.told _ _).1,(hR2.told _ _).2]) rfl (hR2.ret (Nat.le_succ _) (qbt hb0 hb2) rfl)
end
def FldT (R:Option (List Nd))(e:Ending)(w:World):Prop:=
 match R with
 | some u=>∃q c,e= .returned (.tuple #[.slice q u.length c,.bool true])∧VArg w u u.length q c
 | none=>e= .returned (.tuple #[.slice none 0 0,.bool false])
theorem refField_any (a:List Nd)(n:Nat)(q:Option Addr)(c:Nat)(s:ByteArray)(w:World)(h:VArg w a n q c)(h6:opV a=6):
 Calls Tryz.prog 54 #[.slice q n c,.string s] w fun e w'=>FldT (fldV a s) e w'∧Below w.heap.size w w':=by
 obtain rfl:a.length=n:=h.len
 have hIs:=h.is
 have hnl:=h.nl
 have hle:=h.le
 have hcm:=h.cm
 obtain⟨x,r,b,off,rfl,rfl,hb,_⟩:=h.head
 have hx6:x.op=6:=h6
 obtain⟨ss,h1,h2⟩:=fldV_spec hIs.val hx6 s
 obtain⟨ss',k1,k2,k3⟩:=rec_items hIs.val hx6
 obtain rfl:ss=ss':=h1.unique k1
 have hh:=rising_item k3
 have hn0:0≤x.n:=by
  obtain⟨_,_,e,_,_,hok,_⟩:=value_head hIs.val
  cases e
  exact ok_count hok (.inr hx6)
 have hcnt:(ss.length:Int)=x.n:=by rw[k2];omega
 have HP:=refParts_rec x r ss h1 hh hcnt b off c w hnl hb hIs.len hle hcm hx6
 have HU:Hid (∀u,findS s ss=some u→IsV u):=fun u hu=>fldV_is hIs h6 (h2.trans hu)
 have hsl:ss.length≤200:=by
  have e1:=congrArg List.length h1.flat
  have e2:ss.length≤ss.flatten.length:=by
   clear h1 h2 k1 k2 k3 hcnt HP HU e1
   induction ss with
   | nil=>simp
   | cons y ss ih=>
     obtain⟨z,t,e,_⟩:=hh y List.mem_cons_self
     have:=ih (fun s hs=>hh s (List.mem_cons_of_mem _ hs))
     rw[List.flatten_cons,List.length_append,List.length_cons,e,List.length_cons]
     omega
  have:=hIs.len
  simp only[List.length_cons]at this
  omega
 rw[h2]
 generalize hR:findS s ss=R at *
 have HR:Hid (findS s ss=R):=hR
 have HH:Hid (∀s∈ss,∃x r,s=x::r∧x.op=7):=hh
 clear hR h1 h2 k1 k2 k3 hcnt hh hn0 hx6 h6 h hnl hIs
 go_enter Tryz.func54,Tryz.ntmps54
 go_wp2_with fail
 refine HP.mono ?_
 rintro e w1 ⟨⟨q1,c1,q2,c2,rfl,hL,hT⟩,hb1⟩
 go_wp2_with fail
 go_loopw [8] (fun i wr=>∃k:Nat,k≤ss.length∧i= .int .i64 k∧Hid (findS s (ss.drop k)=R)∧wr=w1) (fun i _=>ss.length-(intOf i).toNat)
 case atStart=>exact⟨0,Nat.zero_le _,rfl,HR.out,rfl⟩
 case round=>
  obtain⟨k,hk,rfl,HF,rfl⟩:=hrel
  by_cases hlt:k<ss.length
  · have i1:(k:Int)<(ss.length:Int):=by omega
    obtain⟨bL,oL,qv,cv,rfl,hbL,y0,ynl,yle,ycm⟩:=hL.at (i:=k) (by simpa using hlt)
    obtain⟨bT,oT,rfl,hbT,z0⟩:=hT.at (i:=k) (by simpa using hlt)
    simp only[List.getElem_map]at y0 ynl yle z0
    obtain⟨y,t,ey,y7⟩:=HH.out ss[k] (List.getElem_mem hlt)
    have HS:Hid (_=_):=findS_step s ss k y t (by rw[List.getElem?_eq_getElem hlt,ey])
    have e1:strip ss[k]=t:=by rw[ey];simp[strip,y7]
    have e2:nameOf ss[k]=y.s:=by rw[ey];simp[nameOf,y7]
    rw[e1]at y0 ynl yle
    rw[e2]at z0
    clear e1 e2 y7 ey
    by_cases hs:y.s=s
    · have HR2:Hid (R=some t):=by show _=_;rw[←HF.out,HS.out,if_pos hs]
      have HV:Hid (IsV t):=by
       have:=HR2.out
       exact HU.out t this
      subst hs
      clear HF HS
      go_wp2
      go_ret2
      rw[HR2.out]
      exact⟨⟨qv,cv,rfl,rfl,ynl,yle,ycm,HV.out⟩,hb1⟩
    · have HF2:Hid (findS s (ss.drop (k+1))=R):=by show _=_;rw[←HF.out,HS.out,if_neg hs]
      have n1:(y.s.toList == s.toList)=false:=by simpa using tl_ne hs
      clear HF HS hs
      go_wp2
      go_roundw
      case rel=>exact⟨k+1,by omega,by go_num,HF2,trivial⟩
      case measure=>simp[intOf];omega
  · have i1:¬(k:Int)<(ss.length:Int):=by omega
    have HR2:Hid (R=none):=by
     have:=HF.out
     rw[List.drop_eq_nil_of_le (by omega)]at this
     exact this.symm
    clear HF
    go_wp2
    go_ret2
    rw[HR2.out]
    exact⟨rfl,hb1⟩
theorem find_at {es:List En}{k:Nat}(h:k<es.length){p:En→Bool}(h1:(es.take k).find? p=none)(h2:p es[k]=true):es.find? p=some es[k]:=by
 conv=>lhs;rw[←List.take_append_drop k es]
 rw[List.find?_append,h1,List.drop_eq_getElem_cons h]
 simp only[Option.none_or,List.find?_cons,h2]
theorem find_next {es:List En}{k:Nat}(h:k<es.length){p:En→Bool}(h1:(es.take k).find? p=none)(h2:p es[k]=false):(es.take (k+1)).find? p=none:=by
 rw[List.take_succ_eq_append_getElem h,List.find?_append,h1]
 simp[h2]
def RecT (R:Except Int (List Nd))(e:Ending)(w:World):Prop:=
 match R with
 | .ok r=>∃q c,e= .returned (.tuple #[.slice q r.length c,.bool false])∧VArg w r r.length q c
 | .error _=>e= .returned (.tuple #[.slice none 0 0,.bool true])
theorem refRecord_any {es:List En}{q0:Rq}(ho:EnvOk es q0)(ps:Option Addr)(cs:Nat)(a:List Nd)(n:Nat)(q:Option Addr)(c:Nat)(w:World)(hl:EL w ps es)(h:VArg w a n q c)(h46:opV a=6∨opV a=4):
 Calls Tryz.prog 53 #[.slice ps es.length cs,.agg #[.slice q n c,.int .i64 0]] w fun e w'=>RecT (attE es a) e w'∧Below w.heap.size w w':=by
 obtain⟨W,hW⟩:∃W,W=w.alloc (.cells #[.slice q n c,.int .i64 0] 30):=⟨_,rfl⟩
 have hbW:Below w.heap.size w W:=by rw[hW];exact(Below.refl _ _).alloc (Nat.le_refl _) _
 have hWs:w.heap.size<W.heap.size:=by rw[hW];simp
 have g0:W.cell? ⟨w.heap.size,0,none⟩=some (.slice q n c):=by rw[hW];simp
 have g1:W.cell? ⟨w.heap.size,1,none⟩=some (.int .i64 0):=by rw[hW];simp
 have hV:=h.up hbW
 have hE:=hl.up hbW
 have hel:es.length≤16:=(stf_zero ho.st).few
 have HI:=refIs_any W a n q c 6 hV
 obtain⟨RR,hRR⟩:∃R,attE es a=R:=⟨_,rfl⟩
 rw[hRR]
 unfold attE at hRR
 by_cases h6:opV a=6
 · rw[if_pos h6]at hRR
   subst hRR
   have e6:(opV a == 6)=true:=by simpa using h6
   rw[e6]at HI
   obtain rfl:a.length=n:=h.len
   go_enter Tryz.func53,Tryz.ntmps53
   go_wp2_with fail
   rw[←hW]
   refine HI.mono ?_
   rintro e w1 ⟨rfl,hb1⟩
   have d0:=(hb1.cell (p:=⟨w.heap.size,0,none⟩) hWs).trans g0
   go_wp2
   go_ret2
   exact⟨⟨q,c,rfl,hV.up hb1⟩,qbt hbW hb1⟩
 · have h4:opV a=4:=h46.resolve_left h6
   rw[if_neg h6,if_pos h4]at hRR
   have e6:(opV a == 6)=false:=by simpa using h6
   rw[e6]at HI
   obtain⟨x,r,b,off,rfl,rfl,hb,c0,c1,c2,c3,_,hn1⟩:=hV.head
   have hu:uidV (x::r)=⟨x.s,x.t⟩:=rfl
   rw[hu]at hRR
   have i0:(0:Int)<(n:Int):=by omega
   have HE:Hid (∀e∈es,IsV e.nd):=fun e he=>(ho.ent he).1
   obtain⟨xo,xn,xs,xt⟩:=x
   dsimp only at c0 c1 c2 c3
   have HRR:Hid ((match es.find? (fun e=>decide (e.u=(⟨xs,xt⟩:Ui)))with | some e=>Except.ok e.nd | none=>Except.error 8)=RR):=hRR
   clear hRR
   clear h6 h4 h46 hV h hu
   go_enter Tryz.func53,Tryz.ntmps53
   go_wp2_with fail
   rw[←hW]
   refine HI.mono ?_
   rintro e w1 ⟨rfl,hb1⟩
   have hE1:=hE.up hb1
   have d0:=(hb1.cell (p:=⟨w.heap.size,0,none⟩) hWs).trans g0
   have hs1:w.heap.size<w1.heap.size:=Nat.lt_of_lt_of_le hWs hb1.size
   have hb':b<w1.heap.size:=Nat.lt_of_lt_of_le hb hb1.size
   replace c0:=(hb1.cell (p:=⟨b,off,none⟩) hb).trans c0
   replace c1:=(hb1.cell (p:=⟨b,off+1,none⟩) hb).trans c1
   replace c2:=(hb1.cell (p:=⟨b,off+2,none⟩) hb).trans c2
   replace c3:=(hb1.cell (p:=⟨b,off+3,none⟩) hb).trans c3
   have hb01:=qbt hbW hb1
   clear g0 g1 hbW hb1 hE hl HI
   go_wp2_with fail
   go_loopw [6] (fun i wr=>∃k:Nat,k≤es.length∧i= .int .i64 k∧Hid ((es.take k).find? (fun e=>decide (e.u=(⟨xs,xt⟩:Ui)))=none)∧Below w1.heap.size w1 wr) (fun i _=>es.length-(intOf i).toNat)
   case atStart=>exact⟨0,Nat.zero_le _,rfl,rfl,Below.refl _ _⟩
   case round=>
    rename World=>wr
    obtain⟨k,hk,rfl,HF,hbr⟩:=hrel
    by_cases hlt:k<es.length
    · have i1:(k:Int)<(es.length:Int):=by omega
      obtain⟨be,oe,pu,cu,pa,ca,rfl,hbe,hev,hul,hnl,huo,hups,l1,l2,l3,l4,y0,y1,y2,y3⟩:=(hE1.up hbr).at hlt
      have HV:Hid (IsV es[k].nd):=HE.out _ (List.getElem_mem hlt)
      have HT:Hid (es[k].u=(⟨xs,xt⟩:Ui)→es.find? (fun e=>decide (e.u=(⟨xs,xt⟩:Ui)))=some es[k]):=fun h=>find_at hlt HF.out (by simpa using h)
      have HN:Hid (es[k].u≠(⟨xs,xt⟩:Ui)→(es.take (k+1)).find? (fun e=>decide (e.u=(⟨xs,xt⟩:Ui)))=none):=fun h=>find_next hlt HF.out (by simpa using h)
      have z0:=(hbr.cell (p:=⟨w.heap.size,0,none⟩) hs1).trans d0
      have v0:=(hbr.cell (p:=⟨b,off,none⟩) hb').trans c0
      have v1:=(hbr.cell (p:=⟨b,off+1,none⟩) hb').trans c1
      have v2:=(hbr.cell (p:=⟨b,off+2,none⟩) hb').trans c2
      have v3:=(hbr.cell (p:=⟨b,off+3,none⟩) hb').trans c3
      have HU:=fun w2=>refUidOf_any w2 xo xn xs xt
      clear hev hul huo hups l1 l2 HF
      generalize es[k]=ek at *
      obtain⟨⟨et,ei⟩,eup,ent⟩:=ek
      dsimp only at y0 y1 y2 y3 hnl l3 l4
      by_cases ht:et=xs
      · by_cases hi:ei=xt
        · subst ht hi
          have HT2:Hid (RR= .ok ent):=by
           show _=_
           rw[←HRR.out,HT.out rfl]
          clear HT HN HRR
          go_wp2_with fail
          go_region_with (go_at_call 86;refine(HU _).mono ?_;rintro e w2 ⟨rfl,hb2'⟩;have hb2:Below wr.heap.size wr w2:=qbt (Below.refl _ _).drew hb2';have y0':=(hb2.cell (p:=⟨be,oe+k*4,none⟩) hbe).trans y0;have y1':=(hb2.cell (p:=⟨be,oe+k*4+1,none⟩) hbe).trans y1;have y3':=(hb2.cell (p:=⟨be,oe+k*4+3,none⟩) hbe).trans y3)
          all_goals
           go_wp2
           go_ret2
           rw[HT2.out]
           exact⟨⟨pa,ca,rfl,rfl,hnl.up hb2,l3,l4,HV.out⟩,qbt (qbt hb01 hbr) hb2⟩
        · subst ht
          have HN2:Hid (_=none):=HN.out (fun h=>hi (by cases h;rfl))
          have h1:=tl_ne hi
          clear HT HN hi
          go_wp2_with fail
          go_region_with (go_at_call 86;refine(HU _).mono ?_;rintro e w2 ⟨rfl,hb2'⟩;have hb2:Below wr.heap.size wr w2:=qbt (Below.refl _ _).drew hb2';have y0':=(hb2.cell (p:=⟨be,oe+k*4,none⟩) hbe).trans y0;have y1':=(hb2.cell (p:=⟨be,oe+k*4+1,none⟩) hbe).trans y1;have y3':=(hb2.cell (p:=⟨be,oe+k*4+3,none⟩) hbe).trans y3)
          all_goals
           go_wp2
           go_roundw
           case rel=>exact⟨k+1,by omega,by go_num,HN2,qbt hbr hb2⟩
           case measure=>simp[intOf];omega
      · have HN2:Hid (_=none):=HN.out (fun h=>ht (by cases h;rfl))
        have h1:=tl_ne ht
        clear HT HN ht
        go_wp2_with fail
        go_region_with (go_at_call 86;refine(HU _).mono ?_;rintro e w2 ⟨rfl,hb2'⟩;have hb2:Below wr.heap.size wr w2:=qbt (Below.refl _ _).drew hb2';have y0':=(hb2.cell (p:=⟨be,oe+k*4,none⟩) hbe).trans y0;have y1':=(hb2.cell (p:=⟨be,oe+k*4+1,none⟩) hbe).trans y1;have y3':=(hb2.cell (p:=⟨be,oe+k*4+3,none⟩) hbe).trans y3)
        all_goals
         go_wp2
         go_roundw
         case rel=>exact⟨k+1,by omega,by go_num,HN2,qbt hbr hb2⟩
         case measure=>simp[intOf];omega
    · have i1:¬(k:Int)<(es.length:Int):=by omega
      have HT2:Hid (RR= .error 8):=by
       show _=_
       have:=HF.out
       rw[List.take_of_length_le (by omega)]at this
       rw[←HRR.out,this]
      clear HF HRR
      go_wp2
      go_ret2
      rw[HT2.out]
      exact⟨rfl,qbt hb01 hbr⟩
structure NB (w:World)(B:Nat)(o n:Int)(s t:ByteArray):Prop where
 blk:w.heap[B]? =some (.cells #[.int .i64 o,.int .i64 n,.string s,.string t] 53 (0,0))
theorem NB.lt {w:World}{B:Nat}{o n:Int}{s t:ByteArray}(h:NB w B o n s t):B<w.heap.size:=(Array.getElem?_eq_some_iff.1 h.blk).1
theorem NB.up {w w':World}{B:Nat}{o n:Int}{s t:ByteArray}(h:NB w B o n s t)(hb:Below w.heap.size w w'):NB w' B o n s t:=⟨(hb.block B h.lt).trans h.blk⟩
theorem NB.new (w:World)(o n:Int)(s t:ByteArray){N:Nat}(h:N=w.heap.size):NB (w.alloc (.cells #[.int .i64 o,.int .i64 n,.string s,.string t] 53)) N o n s t:=⟨new_at h⟩
theorem NB.cells {w:World}{B:Nat}{o n:Int}{s t:ByteArray}(h:NB w B o n s t):w.cell? ⟨B,0,none⟩=some (.int .i64 o)∧w.cell? ⟨B,1,none⟩=some (.int .i64 n)∧w.cell? ⟨B,2,none⟩=some (.string s)∧w.cell? ⟨B,3,none⟩=some (.string t):=by
 have:=h.blk
 simp[World.cell?, this]
structure GB (w:World)(B:Nat)(q:Option Addr)(n c:Nat):Prop where
 blk:w.heap[B]? =some (.cells #[.slice q n c,.int .i64 0] 30 (0,0))
theorem GB.lt {w:World}{B:Nat}{q:Option Addr}{n c:Nat}(h:GB w B q n c):B<w.heap.size:=(Array.getElem?_eq_some_iff.1 h.blk).1
theorem GB.up {w w':World}{B:Nat}{q:Option Addr}{n c:Nat}(h:GB w B q n c)(hb:Below w.heap.size w w'):GB w' B q n c:=⟨(hb.block B h.lt).trans h.blk⟩
theorem GB.new (w:World)(q:Option Addr)(n c:Nat){N:Nat}(h:N=w.heap.size):GB (w.alloc (.cells #[.slice q n c,.int .i64 0] 30)) N q n c:=⟨new_at h⟩
theorem GB.cells {w:World}{B:Nat}{q:Option Addr}{n c:Nat}(h:GB w B q n c):w.cell? ⟨B,0,none⟩=some (.slice q n c)∧w.cell? ⟨B,1,none⟩=some (.int .i64 0):=by
 have:=h.blk
 simp[World.cell?, this]
theorem VArg.cells {w:World}{y:Nd}{r:List Nd}{n b off c:Nat}(h:VArg w (y::r) n (some ⟨b,off,none⟩) c):w.cell? ⟨b,off,none⟩=some (.int .i64 y.op)∧w.cell? ⟨b,off+1,none⟩=some (.int .i64 y.n)∧w.cell? ⟨b,off+2,none⟩=some (.string y.s)∧w.cell? ⟨b,off+3,none⟩=some (.string y.t):=by
 obtain⟨x,t,b',off',e1,e2,_,h0,h1,h2,h3,_⟩:=h.head
 cases e1
 cases e2
 exact⟨h0,h1,h2,h3⟩
theorem nv_not {y:Nd}{r:List Nd}(h:vfault (y::r)=0)(h1:opV (y::r)=1):(y.n == 0)= !(nV (y::r) == 1):=by
 have e:=truth_is h h1
 have e2:y.n=nV (y::r):=rfl
 rw[e2]
 cases hb:(nV (y::r) == 1)with
 | true=>simp only[beq_iff_eq]at hb;rw[hb];rfl
 | false=>
   rw[hb]at e
   have e3:nV (y::r)=nV (tN false):=congrArg nV e
   rw[e3];rfl
theorem zbA {a b:World}(h:Below a.heap.size a b){o:Obj}:Below a.heap.size a (b.alloc o):=qbt h ((Below.refl _ _).alloc (Nat.le_refl _) o)
theorem zbD {a b:World}(h:Below a.heap.size a b):Below a.heap.size a b.drew:=⟨h.os,h.tape,h.output,h.size,h.block⟩
theorem quietB {g:FuncId}{args:Array Value}{w:World}{v:Ending}(h:Calls Tryz.prog g args w fun e w'=>e=v∧w'=w):Calls Tryz.prog g args w fun e w'=>e=v∧Below w.heap.size w w':=
 h.mono (by rintro e w' ⟨rfl,rfl⟩;exact⟨rfl,Below.refl _ _⟩)
theorem text60 {s:ByteArray}(h:textOk s.data.toList=true):s.size≤60:=by
 unfold textOk at h
 simp only[Bool.and_eq_true,decide_eq_true_eq]at h
 have:=h.1
 simpa using this
theorem text_of_val {y:Nd}{r:List Nd}(h:vfault (y::r)=0)(h3:opV (y::r)=3):textOk y.s.data.toList=true:=by
 obtain⟨_,_,e,_,_,hok,_⟩:=value_head h
 cases e
 have y3:y.op=3:=h3
 unfold ndOk at hok
 rw[if_neg (by omega),if_neg (by omega),if_pos y3]at hok
 simp only[Bool.and_eq_true]at hok
 exact hok.2
theorem zbx {a b:World}(h:Below a.heap.size a b:=by repeat (first | exact Below.refl _ _ | apply zbA | apply zbD)):Below a.heap.size a b:=h
theorem isY {a:List Nd}{k:Int}(h:opV a=k)(n:Nat)(q:Option Addr)(c:Nat):∀w,VArg w a n q c→Calls Tryz.prog 47 #[.agg #[.slice q n c,.int .i64 0],.int .i64 k] w fun e w'=>e= .returned (.bool true)∧Below w.heap.size w w':=by
 intro w g
 have:=refIs_any w a n q c k g
 rwa [show(opV a == k)=true by simpa using h]at this
theorem isN {a:List Nd}{k:Int}(h:opV a≠k)(n:Nat)(q:Option Addr)(c:Nat):∀w,VArg w a n q c→Calls Tryz.prog 47 #[.agg #[.slice q n c,.int .i64 0],.int .i64 k] w fun e w'=>e= .returned (.bool false)∧Below w.heap.size w w':=by
 intro w g
 have:=refIs_any w a n q c k g
 rwa [show(opV a == k)=false by simpa using h]at this
theorem mN_lit {N:Int}(hf:Fit N)(w:World):NL (w.alloc (.cells #[.int .i64 2,.int .i64 N,.string ⟨#[]⟩,.string ⟨#[]⟩] 53)) (some ⟨w.heap.size,0,none⟩) (mN N):=by
 have hw:∀x∈mN N,x.wf:=by intro x hx;simp only[mN,List.mem_singleton]at hx;subst hx;exact⟨by unfold maxLen;show 0≤_;decide,by unfold maxLen;show 0≤_;decide,hf.2⟩
 exact NL.lit w (mN N) #[.int .i64 2,.int .i64 N,.string ⟨#[]⟩,.string ⟨#[]⟩] hw rfl (by simp[mN])
theorem hzB {w w':World}{o:Obj}(h:Below (w.alloc o).heap.size (w.alloc o) w'):Below w.heap.size w w':=qbt ((Below.refl _ _).alloc (Nat.le_refl _) _) h
theorem hzU {N:Int}(HZ:∀w:World,NL (w.alloc (.cells #[.int .i64 2,.int .i64 N,.string ⟨#[]⟩,.string ⟨#[]⟩] 53)) (some ⟨w.heap.size,0,none⟩) (mN N))(w:World){w':World}(HI:Hid (IsV (mN N)))(h:Below (w.alloc (.cells #[.int .i64 2,.int .i64 N,.string ⟨#[]⟩,.string ⟨#[]⟩] 53)).heap.size (w.alloc (.cells #[.int .i64 2,.int .i64 N,.string ⟨#[]⟩,.string ⟨#[]⟩] 53)) w'):VArg w' (mN N) 1 (some ⟨w.heap.size,0,none⟩) 1:=
 (VArg.mk rfl (HZ w) (Nat.le_refl _) (by unfold maxLen;decide) HI.out:VArg _ (mN N) 1 _ 1).up h
structure S1 (w W:World)(o xn:Int)(xs xt:ByteArray)(b off n c:Nat)(y:Nd)(r:List Nd)(ps:Option Addr)(es:List En):Prop where
 hb:Below w.heap.size w W
 hn:NB W w.heap.size o xn xs xt
 hg:GB W (w.heap.size+1) (some ⟨b,off,none⟩) n c
 v:VArg W (y::r) n (some ⟨b,off,none⟩) c
 R:GR W (w.heap.size+1+1)
 e:EL W ps es
section
variable {w W:World} {o xn:Int} {xs xt:ByteArray} {b off n c:Nat} {y:Nd} {r:List Nd} {ps:Option Addr} {es:List En} (h:S1 w W o xn xs xt b off n c y r ps es)
include h
theorem S1.up {W':World}(k:Below W.heap.size W W'):S1 w W' o xn xs xt b off n c y r ps es:=⟨qbt h.hb k,h.hn.up k,h.hg.up k,h.v.up k,h.R.up k,h.e.up k⟩
theorem S1.cells:W.cell? ⟨w.heap.size,0,none⟩=some (.int .i64 o)∧W.cell? ⟨w.heap.size,1,none⟩=some (.int .i64 xn)∧W.cell? ⟨w.heap.size,2,none⟩=some (.string xs)∧W.cell? ⟨w.heap.size,3,none⟩=some (.string xt)∧W.cell? ⟨w.heap.size+1,0,none⟩=some (.slice (some ⟨b,off,none⟩) n c)∧W.cell? ⟨w.heap.size+1,1,none⟩=some (.int .i64 0)∧W.cell? ⟨b,off,none⟩=some (.int .i64 y.op)∧W.cell? ⟨b,off+1,none⟩=some (.int .i64 y.n)∧W.cell? ⟨b,off+2,none⟩=some (.string y.s)∧W.cell? ⟨b,off+3,none⟩=some (.string y.t)∧W.cell? ⟨w.heap.size+1+1,0,none⟩=some (.slice none 0 0)∧W.cell? ⟨w.heap.size+1+1,1,none⟩=some (.int .i64 0)∧W.frozen? ⟨w.heap.size+1+1,0,none⟩=false∧W.frozen? ⟨w.heap.size+1+1,1,none⟩=false:=by
 obtain⟨n0,n1,n2,n3⟩:=h.hn.cells
 obtain⟨c0,c1,c2,c3⟩:=h.v.cells
 exact⟨n0,n1,n2,n3,h.hg.cells.1,h.hg.cells.2,c0,c1,c2,c3,h.R.cells⟩
theorem S1.ret {R:Except Int (List Nd)}{u v:Value}(hG:GRet R (.returned (.agg #[u,v])) W):GRet R (.returned (.agg #[u,v])) ((W.setCell ⟨w.heap.size+1+1,0,none⟩ u).setCell ⟨w.heap.size+1+1,1,none⟩ v)∧Below w.heap.size w ((W.setCell ⟨w.heap.size+1+1,0,none⟩ u).setCell ⟨w.heap.size+1+1,1,none⟩ v):=h.R.ret (by omega) h.hb hG
end
theorem S1.new {w:World}{a:List Nd}{n:Nat}{q:Option Addr}{c:Nat}{ps:Option Addr}{es:List En}(o xn:Int)(xs xt:ByteArray)(h:VArg w a n q c)(hl:EL w ps es):
 ∃y r b off,a=y::r∧q=some ⟨b,off,none⟩∧(0:Int)<(n:Int)∧∃W,W=((w.alloc (.cells #[.int .i64 o,.int .i64 xn,.string xs,.string xt] 53)).alloc (.cells #[.slice (some ⟨b,off,none⟩) n c,.int .i64 0] 30)).alloc (.cells #[.slice none 0 0,.int .i64 0] 30)∧S1 w W o xn xs xt b off n c y r ps es:=by
 obtain⟨y,r,b,off,rfl,rfl,_,_,_,_,_,_,hn1⟩:=h.head
 have hb:Below w.heap.size w (((w.alloc (.cells #[.int .i64 o,.int .i64 xn,.string xs,.string xt] 53)).alloc (.cells #[.slice (some ⟨b,off,none⟩) n c,.int .i64 0] 30)).alloc (.cells #[.slice none 0 0,.int .i64 0] 30)):=(((Below.refl _ _).alloc (Nat.le_refl _) _).alloc (by simp) _).alloc (by simp;omega) _
 exact⟨y,r,b,off,rfl,rfl,by omega,_,rfl,hb,((NB.new w _ _ _ _ rfl).up ((Below.refl _ _).alloc (Nat.le_refl _) _)).up ((Below.refl _ _).alloc (Nat.le_refl _) _),(GB.new _ _ _ _ (by simp)).up ((Below.refl _ _).alloc (Nat.le_refl _) _),h.up hb,GR.new _ (by simp),hl.up hb⟩
section
variable {es:List En} {q0:Rq} (ps:Option Addr) (cs:Nat) (xn:Int) (xs xt:ByteArray) (a:List Nd) (n:Nat) (q:Option Addr) (c:Nat) (w:World)
theorem ref1_bad (h:VArg w a n q c)(hl:EL w ps es)(o k:Int)(ho:o=9∧k=1∨o=10∧k=2∨o=23∧k=3∨o=24∧k=4)(hk:opV a≠k):
 Calls Tryz.prog 30 #[.slice ps es.length cs,.agg #[.int .i64 o,.int .i64 xn,.string xs,.string xt],.agg #[.slice q n c,.int .i64 0]] w fun e w'=>GRet (.error 2) e w'∧Below w.heap.size w w':=by
 obtain⟨y,r,b,off,rfl,rfl,i0,W,hW,S⟩:=S1.new o xn xs xt h hl
 have HI:=isN hk n (some ⟨b,off,none⟩) c
 clear hk h hl
 rcases ho with⟨rfl,rfl⟩ | ⟨rfl,rfl⟩ | ⟨rfl,rfl⟩ | ⟨rfl,rfl⟩
 all_goals
  go_enter Tryz.func30,Tryz.ntmps30
  obtain⟨n0,n1,n2,n3,g0,g1,c0,c1,c2,c3,r0,r1,f0,f1⟩:=S.cells
  go_wp2_with fail
  rw[←hW]
  refine(HI _ S.v).mono ?_
  rintro _ w1 ⟨rfl,hbb⟩
  clear n0 n1 n2 n3 g0 g1 c0 c1 c2 c3 r0 r1 f0 f1
  replace S:=S.up hbb
  obtain⟨n0,n1,n2,n3,g0,g1,c0,c1,c2,c3,r0,r1,f0,f1⟩:=S.cells
  go_wp2_with fail
  refine(refBad_any _ 2).mono ?_
  rintro _ w2 ⟨rfl,hbb⟩
  clear n0 n1 n2 n3 g0 g1 c0 c1 c2 c3 r0 r1 f0 f1
  replace S:=S.up hbb
  obtain⟨n0,n1,n2,n3,g0,g1,c0,c1,c2,c3,r0,r1,f0,f1⟩:=S.cells
  go_wp2
  exact bodyPost_ret (v:=.agg #[.slice none 0 0,.int .i64 2]) (by simp[results,Tryz.results30,go_sem,(S.R.told _ _).1,(S.R.told _ _).2]) rfl (S.ret rfl)
theorem ref1_not (h:VArg w a n q c)(hl:EL w ps es)(h1:opV a=1):
 Calls Tryz.prog 30 #[.slice ps es.length cs,.agg #[.int .i64 9,.int .i64 xn,.string xs,.string xt],.agg #[.slice q n c,.int .i64 0]] w fun e w'=>GRet (.ok (tN (!(nV a == 1)))) e w'∧Below w.heap.size w w':=by
 obtain⟨y,r,b,off,rfl,rfl,i0,W,hW,S⟩:=S1.new 9 xn xs xt h hl
 have HI:=isY h1 n (some ⟨b,off,none⟩) c
 have HB:(y.n == 0)= !(nV (y::r) == 1):=nv_not h.is.val h1
 clear h1 h hl
 go_enter Tryz.func30,Tryz.ntmps30
 obtain⟨n0,n1,n2,n3,g0,g1,c0,c1,c2,c3,r0,r1,f0,f1⟩:=S.cells
 go_wp2_with fail
 rw[←hW]
 refine(HI _ S.v).mono ?_
 rintro _ w1 ⟨rfl,hbb⟩
 clear n0 n1 n2 n3 g0 g1 c0 c1 c2 c3 r0 r1 f0 f1
 replace S:=S.up hbb
 obtain⟨n0,n1,n2,n3,g0,g1,c0,c1,c2,c3,r0,r1,f0,f1⟩:=S.cells
 go_wp2_with fail
 refine(refTruth_any _ _).mono ?_
 rintro _ w2 ⟨⟨q1,d1,rfl,hz⟩,hbb⟩
 clear n0 n1 n2 n3 g0 g1 c0 c1 c2 c3 r0 r1 f0 f1
 replace S:=S.up hbb
 obtain⟨n0,n1,n2,n3,g0,g1,c0,c1,c2,c3,r0,r1,f0,f1⟩:=S.cells
 go_wp2_with fail
 refine(refGood_any _ q1 1 d1).mono ?_
 rintro _ w3 ⟨rfl,hbb⟩
 clear n0 n1 n2 n3 g0 g1 c0 c1 c2 c3 r0 r1 f0 f1
 replace S:=S.up hbb
 replace hz:=hz.up hbb
 obtain⟨n0,n1,n2,n3,g0,g1,c0,c1,c2,c3,r0,r1,f0,f1⟩:=S.cells
 go_wp2
 exact bodyPost_ret (v:=.agg #[.slice q1 1 d1,.int .i64 0]) (by simp[results,Tryz.results30,go_sem,(S.R.told _ _).1,(S.R.told _ _).2]) rfl (S.ret ⟨q1,d1,rfl,hz⟩)
theorem ref1_neg (h:VArg w a n q c)(hl:EL w ps es)(h2:opV a=2)(hf:Fit (-nV a)):
 Calls Tryz.prog 30 #[.slice ps es.length cs,.agg #[.int .i64 10,.int .i64 xn,.string xs,.string xt],.agg #[.slice q n c,.int .i64 0]] w fun e w'=>GRet (.ok (mN (-nV a))) e w'∧Below w.heap.size w w':=by
 obtain⟨y,r,b,off,rfl,rfl,i0,W,hW,S⟩:=S1.new 10 xn xs xt h hl
 have HI:=isY h2 n (some ⟨b,off,none⟩) c
 have HD:=fun w1=>quietB (done_sub_good 0 (nV (y::r)) w1 (by unfold Fit;omega) (h.is.fit h2) (by rw[Int.zero_sub];exact hf))
 rw[Int.zero_sub]at HD
 have HZ:=mN_lit hf
 have HIM:Hid (IsV (mN (-nV (y::r)))):=mN_is hf
 have e1:nV (y::r)=y.n:=rfl
 rw[e1]at HD HZ HIM ⊢
 clear h2 h hl e1 hf
 go_enter Tryz.func30,Tryz.ntmps30
 obtain⟨n0,n1,n2,n3,g0,g1,c0,c1,c2,c3,r0,r1,f0,f1⟩:=S.cells
 go_wp2_with fail
 rw[←hW]
 refine(HI _ S.v).mono ?_
 rintro _ w1 ⟨rfl,hbb⟩
 clear n0 n1 n2 n3 g0 g1 c0 c1 c2 c3 r0 r1 f0 f1
 replace S:=S.up hbb
 obtain⟨n0,n1,n2,n3,g0,g1,c0,c1,c2,c3,r0,r1,f0,f1⟩:=S.cells
 go_wp2_with fail
 refine(HD _).mono ?_
 rintro _ w2 ⟨rfl,hbb⟩
 clear n0 n1 n2 n3 g0 g1 c0 c1 c2 c3 r0 r1 f0 f1
 replace S:=S.up hbb
 obtain⟨n0,n1,n2,n3,g0,g1,c0,c1,c2,c3,r0,r1,f0,f1⟩:=S.cells
 go_wp2_with fail
 refine(refGood_any _ _ _ _).mono ?_
 rintro _ w3 ⟨rfl,hbb⟩
 clear n0 n1 n2 n3 g0 g1 c0 c1 c2 c3 r0 r1 f0 f1
 have hz:=hzU HZ w2 HIM hbb
 replace hbb:=hzB hbb
 replace S:=S.up hbb
 obtain⟨n0,n1,n2,n3,g0,g1,c0,c1,c2,c3,r0,r1,f0,f1⟩:=S.cells
 go_wp2
 exact bodyPost_ret (v:=.agg #[.slice (some ⟨w2.heap.size,0,none⟩) 1 1,.int .i64 0]) (by simp[results,Tryz.results30,go_sem,(S.R.told _ _).1,(S.R.told _ _).2]) rfl (S.ret ⟨_,_,rfl,hz⟩)
theorem ref1_neg_over (h:VArg w a n q c)(hl:EL w ps es)(h2:opV a=2)(hf:¬Fit (-nV a)):
 Calls Tryz.prog 30 #[.slice ps es.length cs,.agg #[.int .i64 10,.int .i64 xn,.string xs,.string xt],.agg #[.slice q n c,.int .i64 0]] w fun e w'=>GRet (.error 5) e w'∧Below w.heap.size w w':=by
 obtain⟨y,r,b,off,rfl,rfl,i0,W,hW,S⟩:=S1.new 10 xn xs xt h hl
 have HI:=isY h2 n (some ⟨b,off,none⟩) c
 have HD:=fun w1=>quietB (done_sub_over 0 (nV (y::r)) w1 (by unfold Fit;omega) (h.is.fit h2) (by rw[Int.zero_sub];exact hf))
 have e1:nV (y::r)=y.n:=rfl
 rw[e1]at HD
 clear h2 h hl hf e1
 go_enter Tryz.func30,Tryz.ntmps30
 obtain⟨n0,n1,n2,n3,g0,g1,c0,c1,c2,c3,r0,r1,f0,f1⟩:=S.cells
 go_wp2_with fail
 rw[←hW]
 refine(HI _ S.v).mono ?_
 rintro _ w1 ⟨rfl,hbb⟩
 clear n0 n1 n2 n3 g0 g1 c0 c1 c2 c3 r0 r1 f0 f1
 replace S:=S.up hbb
 obtain⟨n0,n1,n2,n3,g0,g1,c0,c1,c2,c3,r0,r1,f0,f1⟩:=S.cells
 go_wp2_with fail
 refine(HD _).mono ?_
 rintro _ w2 ⟨rfl,hbb⟩
 clear n0 n1 n2 n3 g0 g1 c0 c1 c2 c3 r0 r1 f0 f1
 replace S:=S.up hbb
 obtain⟨n0,n1,n2,n3,g0,g1,c0,c1,c2,c3,r0,r1,f0,f1⟩:=S.cells
 go_wp2_with fail
 refine(refBad_any _ 5).mono ?_
 rintro _ w3 ⟨rfl,hbb⟩
 clear n0 n1 n2 n3 g0 g1 c0 c1 c2 c3 r0 r1 f0 f1
 replace S:=S.up hbb
 obtain⟨n0,n1,n2,n3,g0,g1,c0,c1,c2,c3,r0,r1,f0,f1⟩:=S.cells
 go_wp2
 exact bodyPost_ret (v:=.agg #[.slice none 0 0,.int .i64 5]) (by simp[results,Tryz.results30,go_sem,(S.R.told _ _).1,(S.R.told _ _).2]) rfl (S.ret rfl)
theorem ref1_like (h:VArg w a n q c)(hl:EL w ps es)(h3:opV a=3)(hx:textOk xs.data.toList=true):
 Calls Tryz.prog 30 #[.slice ps es.length cs,.agg #[.int .i64 23,.int .i64 xn,.string xs,.string xt],.agg #[.slice q n c,.int .i64 0]] w fun e w'=>GRet (.ok (tN (pM (pcs xs.data.toList) (sV a).data.toList))) e w'∧Below w.heap.size w w':=by
 obtain⟨y,r,b,off,rfl,rfl,i0,W,hW,S⟩:=S1.new 23 xn xs xt h hl
 have HI:=isY h3 n (some ⟨b,off,none⟩) c
 have HF:=fun w1=>refFits_any xs y.s w1 (text60 hx) (text60 (text_of_val h.is.val h3))
 have e1:sV (y::r)=y.s:=rfl
 rw[e1]
 clear h3 h hl hx e1
 go_enter Tryz.func30,Tryz.ntmps30
 obtain⟨n0,n1,n2,n3,g0,g1,c0,c1,c2,c3,r0,r1,f0,f1⟩:=S.cells
 go_wp2_with fail
 rw[←hW]
 refine(HI _ S.v).mono ?_
 rintro _ w1 ⟨rfl,hbb⟩
 clear n0 n1 n2 n3 g0 g1 c0 c1 c2 c3 r0 r1 f0 f1
 replace S:=S.up hbb
 obtain⟨n0,n1,n2,n3,g0,g1,c0,c1,c2,c3,r0,r1,f0,f1⟩:=S.cells
 go_wp2_with fail
 go_region_with (first
  | (go_at_call 52
     refine(HF _).mono ?_
     rintro _ w2 ⟨rfl,hbb⟩
     replace hbb:Below w1.heap.size w1 w2:=qbt zbx hbb
     replace S:=S.up hbb)
  | (go_at_call 50
     refine(refTruth_any _ _).mono ?_
     rintro _ w3 ⟨⟨q1,d1,rfl,hz⟩,hbb⟩
     replace hbb:Below w2.heap.size w2 w3:=qbt zbx hbb
     replace S:=S.up hbb)
  | (go_at_call 23
     refine(refGood_any _ q1 1 d1).mono ?_
     rintro _ w4 ⟨rfl,hbb⟩
     replace hbb:Below w3.heap.size w3 w4:=qbt zbx hbb
     replace S:=S.up hbb
     replace hz:=hz.up hbb
     obtain⟨r0z,r1z,f0z,f1z⟩:=S.R.cells))
 all_goals
  obtain⟨n0,n1,n2,n3,g0,g1,c0,c1,c2,c3,r0,r1,f0,f1⟩:=S.cells
  go_wp2
  exact bodyPost_ret (v:=.agg #[.slice q1 1 d1,.int .i64 0]) (by simp[results,Tryz.results30,go_sem,(S.R.told _ _).1,(S.R.told _ _).2]) rfl (S.ret ⟨q1,d1,rfl,hz⟩)
theorem ref1_is_yes (h:VArg w a n q c)(hl:EL w ps es)(h4:opV a=4)(hx:sV a=xs):
 Calls Tryz.prog 30 #[.slice ps es.length cs,.agg #[.int .i64 24,.int .i64 xn,.string xs,.string xt],.agg #[.slice q n c,.int .i64 0]] w fun e w'=>GRet (.ok (tN (decide (sV a=xs)))) e w'∧Below w.heap.size w w':=by
 obtain⟨y,r,b,off,rfl,rfl,i0,W,hW,S⟩:=S1.new 24 xn xs xt h hl
 have HI:=isY h4 n (some ⟨b,off,none⟩) c
 have e1:sV (y::r)=y.s:=rfl
 rw[e1]at hx ⊢
 clear h4 h hl e1
 subst hx
 rw[decide_eq_true rfl]
 go_enter Tryz.func30,Tryz.ntmps30
 obtain⟨n0,n1,n2,n3,g0,g1,c0,c1,c2,c3,r0,r1,f0,f1⟩:=S.cells
 go_wp2_with fail
 rw[←hW]
 refine(HI _ S.v).mono ?_
 rintro _ w1 ⟨rfl,hbb⟩
 clear n0 n1 n2 n3 g0 g1 c0 c1 c2 c3 r0 r1 f0 f1
 replace S:=S.up hbb
 obtain⟨n0,n1,n2,n3,g0,g1,c0,c1,c2,c3,r0,r1,f0,f1⟩:=S.cells
 go_wp2_with fail
 go_region_with (first
  | (go_at_call 50
     refine(refTruth_any _ _).mono ?_
     rintro _ w2 ⟨⟨q1,d1,rfl,hz⟩,hbb⟩
     replace hbb:Below w1.heap.size w1 w2:=qbt zbx hbb
     replace S:=S.up hbb)
  | (go_at_call 23
     refine(refGood_any _ q1 1 d1).mono ?_
     rintro _ w3 ⟨rfl,hbb⟩
     replace hbb:Below w2.heap.size w2 w3:=qbt zbx hbb
     replace S:=S.up hbb
     replace hz:=hz.up hbb
     obtain⟨r0z,r1z,f0z,f1z⟩:=S.R.cells))
 all_goals
  obtain⟨n0,n1,n2,n3,g0,g1,c0,c1,c2,c3,r0,r1,f0,f1⟩:=S.cells
  go_wp2
  exact bodyPost_ret (v:=.agg #[.slice q1 1 d1,.int .i64 0]) (by simp[results,Tryz.results30,go_sem,(S.R.told _ _).1,(S.R.told _ _).2]) rfl (S.ret ⟨q1,d1,rfl,hz⟩)
theorem ref1_is_no (h:VArg w a n q c)(hl:EL w ps es)(h4:opV a=4)(hx:sV a≠xs):
 Calls Tryz.prog 30 #[.slice ps es.length cs,.agg #[.int .i64 24,.int .i64 xn,.string xs,.string xt],.agg #[.slice q n c,.int .i64 0]] w fun e w'=>GRet (.ok (tN (decide (sV a=xs)))) e w'∧Below w.heap.size w w':=by
 obtain⟨y,r,b,off,rfl,rfl,i0,W,hW,S⟩:=S1.new 24 xn xs xt h hl
 have HI:=isY h4 n (some ⟨b,off,none⟩) c
 have e1:sV (y::r)=y.s:=rfl
 rw[e1]at hx ⊢
 clear h4 h hl e1
 rw[decide_eq_false hx]
 have nx:(y.s.toList == xs.toList)=false:=by simpa using tl_ne hx
 clear hx
 go_enter Tryz.func30,Tryz.ntmps30
 obtain⟨n0,n1,n2,n3,g0,g1,c0,c1,c2,c3,r0,r1,f0,f1⟩:=S.cells
 go_wp2_with fail
 rw[←hW]
 refine(HI _ S.v).mono ?_
 rintro _ w1 ⟨rfl,hbb⟩
 clear n0 n1 n2 n3 g0 g1 c0 c1 c2 c3 r0 r1 f0 f1
 replace S:=S.up hbb
 obtain⟨n0,n1,n2,n3,g0,g1,c0,c1,c2,c3,r0,r1,f0,f1⟩:=S.cells
 go_wp2_with fail
 go_region_with (first
  | (go_at_call 50
     refine(refTruth_any _ _).mono ?_
     rintro _ w2 ⟨⟨q1,d1,rfl,hz⟩,hbb⟩
     replace hbb:Below w1.heap.size w1 w2:=qbt zbx hbb
     replace S:=S.up hbb)
  | (go_at_call 23
     refine(refGood_any _ q1 1 d1).mono ?_
     rintro _ w3 ⟨rfl,hbb⟩
     replace hbb:Below w2.heap.size w2 w3:=qbt zbx hbb
     replace S:=S.up hbb
     replace hz:=hz.up hbb
     obtain⟨r0z,r1z,f0z,f1z⟩:=S.R.cells))
 all_goals
  obtain⟨n0,n1,n2,n3,g0,g1,c0,c1,c2,c3,r0,r1,f0,f1⟩:=S.cells
  go_wp2
  exact bodyPost_ret (v:=.agg #[.slice q1 1 d1,.int .i64 0]) (by simp[results,Tryz.results30,go_sem,(S.R.told _ _).1,(S.R.told _ _).2]) rfl (S.ret ⟨q1,d1,rfl,hz⟩)
theorem ref1_rec_bad (h:VArg w a n q c)(hl:EL w ps es)(op:Int)(hop:op=21∨op=22)(h6:opV a≠6)(h4:opV a≠4):
 Calls Tryz.prog 30 #[.slice ps es.length cs,.agg #[.int .i64 op,.int .i64 xn,.string xs,.string xt],.agg #[.slice q n c,.int .i64 0]] w fun e w'=>GRet (.error 2) e w'∧Below w.heap.size w w':=by
 obtain⟨y,r,b,off,rfl,rfl,i0,W,hW,S⟩:=S1.new op xn xs xt h hl
 have HI6:=isN h6 n (some ⟨b,off,none⟩) c
 have HI4:=isN h4 n (some ⟨b,off,none⟩) c
 clear h6 h4 h hl
 rcases hop with rfl | rfl
 all_goals
  go_enter Tryz.func30,Tryz.ntmps30
  obtain⟨n0,n1,n2,n3,g0,g1,c0,c1,c2,c3,r0,r1,f0,f1⟩:=S.cells
  go_wp2_with fail
  rw[←hW]
  refine(HI6 _ S.v).mono ?_
  rintro _ w1 ⟨rfl,hbb⟩
  clear n0 n1 n2 n3 g0 g1 c0 c1 c2 c3 r0 r1 f0 f1
  replace S:=S.up hbb
  obtain⟨n0,n1,n2,n3,g0,g1,c0,c1,c2,c3,r0,r1,f0,f1⟩:=S.cells
  go_wp2_with fail
  refine(HI4 _ S.v).mono ?_
  rintro _ w2 ⟨rfl,hbb⟩
  clear n0 n1 n2 n3 g0 g1 c0 c1 c2 c3 r0 r1 f0 f1
  replace S:=S.up hbb
  obtain⟨n0,n1,n2,n3,g0,g1,c0,c1,c2,c3,r0,r1,f0,f1⟩:=S.cells
  go_wp2_with fail
  refine(refBad_any _ 2).mono ?_
  rintro _ w3 ⟨rfl,hbb⟩
  clear n0 n1 n2 n3 g0 g1 c0 c1 c2 c3 r0 r1 f0 f1
  replace S:=S.up hbb
  obtain⟨n0,n1,n2,n3,g0,g1,c0,c1,c2,c3,r0,r1,f0,f1⟩:=S.cells
  go_wp2
  exact bodyPost_ret (v:=.agg #[.slice none 0 0,.int .i64 2]) (by simp[results,Tryz.results30,go_sem,(S.R.told _ _).1,(S.R.told _ _).2]) rfl (S.ret rfl)
theorem ref1_fld21_6 (h:VArg w a n q c)(hl:EL w ps es)(ho:EnvOk es q0)(h6:opV a=6)(rr:List Nd)(hA:attE es a= .ok rr)(h6r:opV rr=6):
 Calls Tryz.prog 30 #[.slice ps es.length cs,.agg #[.int .i64 21,.int .i64 xn,.string xs,.string xt],.agg #[.slice q n c,.int .i64 0]] w fun e w'=>GRet (.ok (tN (fldV rr xs).isSome)) e w'∧Below w.heap.size w w':=by
 obtain⟨y,r,b,off,rfl,rfl,i0,W,hW,S⟩:=S1.new 21 xn xs xt h hl
 have HI6:=isY h6 n (some ⟨b,off,none⟩) c
 have HRC:=fun w1 hl1 h1=>refRecord_any ho ps cs (y::r) n (some ⟨b,off,none⟩) c w1 hl1 h1 (.inl h6)
 rw[hA]at HRC
 have HFD:=fun w1 q1 d1 h1=>refField_any rr rr.length q1 d1 xs w1 h1 h6r
 generalize hF:fldV rr xs=FF at *
 clear hF h6r
 clear h6 h hl hA
 go_enter Tryz.func30,Tryz.ntmps30
 obtain⟨n0,n1,n2,n3,g0,g1,c0,c1,c2,c3,r0,r1,f0,f1⟩:=S.cells
 go_wp2_with fail
 rw[←hW]
 refine(HI6 _ S.v).mono ?_
 rintro _ w1 ⟨rfl,hbb⟩
 clear n0 n1 n2 n3 g0 g1 c0 c1 c2 c3 r0 r1 f0 f1
 replace S:=S.up hbb
 obtain⟨n0,n1,n2,n3,g0,g1,c0,c1,c2,c3,r0,r1,f0,f1⟩:=S.cells
 go_wp2_with fail
 refine(HRC _ S.e S.v).mono ?_
 rintro _ w2 ⟨⟨q3,d3,rfl,hr⟩,hbb⟩
 clear n0 n1 n2 n3 g0 g1 c0 c1 c2 c3 r0 r1 f0 f1
 replace S:=S.up hbb
 cases FF with
 | none=>
   obtain⟨n0,n1,n2,n3,g0,g1,c0,c1,c2,c3,r0,r1,f0,f1⟩:=S.cells
   go_wp2_with fail
   refine(HFD _ _ _ hr).mono ?_
   rintro _ w3 ⟨rfl,hbb⟩
   clear n0 n1 n2 n3 g0 g1 c0 c1 c2 c3 r0 r1 f0 f1
   replace S:=S.up hbb
   replace hr:=hr.up hbb
   obtain⟨n0,n1,n2,n3,g0,g1,c0,c1,c2,c3,r0,r1,f0,f1⟩:=S.cells
   go_wp2_with fail
   refine(refTruth_any _ _).mono ?_
   rintro _ w4 ⟨⟨q1,d1,rfl,hz⟩,hbb⟩
   clear n0 n1 n2 n3 g0 g1 c0 c1 c2 c3 r0 r1 f0 f1
   replace S:=S.up hbb
   replace hr:=hr.up hbb
   obtain⟨n0,n1,n2,n3,g0,g1,c0,c1,c2,c3,r0,r1,f0,f1⟩:=S.cells
   go_wp2_with fail
   refine(refGood_any _ q1 1 d1).mono ?_
   rintro _ w5 ⟨rfl,hbb⟩
   clear n0 n1 n2 n3 g0 g1 c0 c1 c2 c3 r0 r1 f0 f1
   replace S:=S.up hbb
   replace hr:=hr.up hbb
   replace hz:=hz.up hbb
   obtain⟨n0,n1,n2,n3,g0,g1,c0,c1,c2,c3,r0,r1,f0,f1⟩:=S.cells
   go_wp2
   exact bodyPost_ret (v:=.agg #[.slice q1 1 d1,.int .i64 0]) (by simp[results,Tryz.results30,go_sem,(S.R.told _ _).1,(S.R.told _ _).2]) rfl (S.ret ⟨q1,d1,rfl,hz⟩)
 | some u=>
   obtain⟨n0,n1,n2,n3,g0,g1,c0,c1,c2,c3,r0,r1,f0,f1⟩:=S.cells
   go_wp2_with fail
   refine(HFD _ _ _ hr).mono ?_
   rintro _ w3 ⟨⟨q4,d4,rfl,hu⟩,hbb⟩
   clear n0 n1 n2 n3 g0 g1 c0 c1 c2 c3 r0 r1 f0 f1
   replace S:=S.up hbb
   replace hr:=hr.up hbb
   obtain⟨n0,n1,n2,n3,g0,g1,c0,c1,c2,c3,r0,r1,f0,f1⟩:=S.cells
   go_wp2_with fail
   refine(refTruth_any _ _).mono ?_
   rintro _ w4 ⟨⟨q1,d1,rfl,hz⟩,hbb⟩
   clear n0 n1 n2 n3 g0 g1 c0 c1 c2 c3 r0 r1 f0 f1
   replace S:=S.up hbb
   replace hr:=hr.up hbb
   replace hu:=hu.up hbb
   obtain⟨n0,n1,n2,n3,g0,g1,c0,c1,c2,c3,r0,r1,f0,f1⟩:=S.cells
   go_wp2_with fail
   refine(refGood_any _ q1 1 d1).mono ?_
   rintro _ w5 ⟨rfl,hbb⟩
   clear n0 n1 n2 n3 g0 g1 c0 c1 c2 c3 r0 r1 f0 f1
   replace S:=S.up hbb
   replace hr:=hr.up hbb
   replace hu:=hu.up hbb
   replace hz:=hz.up hbb
   obtain⟨n0,n1,n2,n3,g0,g1,c0,c1,c2,c3,r0,r1,f0,f1⟩:=S.cells
   go_wp2
   exact bodyPost_ret (v:=.agg #[.slice q1 1 d1,.int .i64 0]) (by simp[results,Tryz.results30,go_sem,(S.R.told _ _).1,(S.R.told _ _).2]) rfl (S.ret ⟨q1,d1,rfl,hz⟩)
theorem ref1_lost21_4 (h:VArg w a n q c)(hl:EL w ps es)(ho:EnvOk es q0)(h4:opV a=4)(m:Int)(hA:attE es a= .error m):
 Calls Tryz.prog 30 #[.slice ps es.length cs,.agg #[.int .i64 21,.int .i64 xn,.string xs,.string xt],.agg #[.slice q n c,.int .i64 0]] w fun e w'=>GRet (.ok (tN false)) e w'∧Below w.heap.size w w':=by
 obtain⟨y,r,b,off,rfl,rfl,i0,W,hW,S⟩:=S1.new 21 xn xs xt h hl
 have h6:opV (y::r)≠6:=by omega
 have HI6:=isN h6 n (some ⟨b,off,none⟩) c
 have HI4:=isY h4 n (some ⟨b,off,none⟩) c
 have HRC:=fun w1 hl1 h1=>refRecord_any ho ps cs (y::r) n (some ⟨b,off,none⟩) c w1 hl1 h1 (.inr h4)
 rw[hA]at HRC
 clear h4 h hl hA h6
 go_enter Tryz.func30,Tryz.ntmps30
 obtain⟨n0,n1,n2,n3,g0,g1,c0,c1,c2,c3,r0,r1,f0,f1⟩:=S.cells
 go_wp2_with fail
 rw[←hW]
 refine(HI6 _ S.v).mono ?_
 rintro _ w1 ⟨rfl,hbb⟩
 clear n0 n1 n2 n3 g0 g1 c0 c1 c2 c3 r0 r1 f0 f1
 replace S:=S.up hbb
 obtain⟨n0,n1,n2,n3,g0,g1,c0,c1,c2,c3,r0,r1,f0,f1⟩:=S.cells
 go_wp2_with fail
 refine(HI4 _ S.v).mono ?_
 rintro _ w2 ⟨rfl,hbb⟩
 clear n0 n1 n2 n3 g0 g1 c0 c1 c2 c3 r0 r1 f0 f1
 replace S:=S.up hbb
 obtain⟨n0,n1,n2,n3,g0,g1,c0,c1,c2,c3,r0,r1,f0,f1⟩:=S.cells
 go_wp2_with fail
 refine(HRC _ S.e S.v).mono ?_
 rintro _ w3 ⟨rfl,hbb⟩
 clear n0 n1 n2 n3 g0 g1 c0 c1 c2 c3 r0 r1 f0 f1
 replace S:=S.up hbb
 obtain⟨n0,n1,n2,n3,g0,g1,c0,c1,c2,c3,r0,r1,f0,f1⟩:=S.cells
 go_wp2_with fail
 refine(refTruth_any _ _).mono ?_
 rintro _ w4 ⟨⟨q1,d1,rfl,hz⟩,hbb⟩
 clear n0 n1 n2 n3 g0 g1 c0 c1 c2 c3 r0 r1 f0 f1
 replace S:=S.up hbb
 obtain⟨n0,n1,n2,n3,g0,g1,c0,c1,c2,c3,r0,r1,f0,f1⟩:=S.cells
 go_wp2_with fail
 refine(refGood_any _ q1 1 d1).mono ?_
 rintro _ w5 ⟨rfl,hbb⟩
 clear n0 n1 n2 n3 g0 g1 c0 c1 c2 c3 r0 r1 f0 f1
 replace S:=S.up hbb
 replace hz:=hz.up hbb
 obtain⟨n0,n1,n2,n3,g0,g1,c0,c1,c2,c3,r0,r1,f0,f1⟩:=S.cells
 go_wp2
 exact bodyPost_ret (v:=.agg #[.slice q1 1 d1,.int .i64 0]) (by simp[results,Tryz.results30,go_sem,(S.R.told _ _).1,(S.R.told _ _).2]) rfl (S.ret ⟨q1,d1,rfl,hz⟩)
theorem ref1_fld21_4 (h:VArg w a n q c)(hl:EL w ps es)(ho:EnvOk es q0)(h4:opV a=4)(rr:List Nd)(hA:attE es a= .ok rr)(h6r:opV rr=6):
 Calls Tryz.prog 30 #[.slice ps es.length cs,.agg #[.int .i64 21,.int .i64 xn,.string xs,.string xt],.agg #[.slice q n c,.int .i64 0]] w fun e w'=>GRet (.ok (tN (fldV rr xs).isSome)) e w'∧Below w.heap.size w w':=by
 obtain⟨y,r,b,off,rfl,rfl,i0,W,hW,S⟩:=S1.new 21 xn xs xt h hl
 have h6:opV (y::r)≠6:=by omega
 have HI6:=isN h6 n (some ⟨b,off,none⟩) c
 have HI4:=isY h4 n (some ⟨b,off,none⟩) c
 have HRC:=fun w1 hl1 h1=>refRecord_any ho ps cs (y::r) n (some ⟨b,off,none⟩) c w1 hl1 h1 (.inr h4)
 rw[hA]at HRC
 have HFD:=fun w1 q1 d1 h1=>refField_any rr rr.length q1 d1 xs w1 h1 h6r
 generalize hF:fldV rr xs=FF at *
 clear hF h6r
 clear h4 h hl hA h6
 go_enter Tryz.func30,Tryz.ntmps30
 obtain⟨n0,n1,n2,n3,g0,g1,c0,c1,c2,c3,r0,r1,f0,f1⟩:=S.cells
 go_wp2_with fail
 rw[←hW]
 refine(HI6 _ S.v).mono ?_
 rintro _ w1 ⟨rfl,hbb⟩
 clear n0 n1 n2 n3 g0 g1 c0 c1 c2 c3 r0 r1 f0 f1
 replace S:=S.up hbb
 obtain⟨n0,n1,n2,n3,g0,g1,c0,c1,c2,c3,r0,r1,f0,f1⟩:=S.cells
 go_wp2_with fail
 refine(HI4 _ S.v).mono ?_
 rintro _ w2 ⟨rfl,hbb⟩
 clear n0 n1 n2 n3 g0 g1 c0 c1 c2 c3 r0 r1 f0 f1
 replace S:=S.up hbb
 obtain⟨n0,n1,n2,n3,g0,g1,c0,c1,c2,c3,r0,r1,f0,f1⟩:=S.cells
 go_wp2_with fail
 refine(HRC _ S.e S.v).mono ?_
 rintro _ w3 ⟨⟨q3,d3,rfl,hr⟩,hbb⟩
 clear n0 n1 n2 n3 g0 g1 c0 c1 c2 c3 r0 r1 f0 f1
 replace S:=S.up hbb
 cases FF with
 | none=>
   obtain⟨n0,n1,n2,n3,g0,g1,c0,c1,c2,c3,r0,r1,f0,f1⟩:=S.cells
   go_wp2_with fail
   refine(HFD _ _ _ hr).mono ?_
   rintro _ w4 ⟨rfl,hbb⟩
   clear n0 n1 n2 n3 g0 g1 c0 c1 c2 c3 r0 r1 f0 f1
   replace S:=S.up hbb
   replace hr:=hr.up hbb
   obtain⟨n0,n1,n2,n3,g0,g1,c0,c1,c2,c3,r0,r1,f0,f1⟩:=S.cells
   go_wp2_with fail
   refine(refTruth_any _ _).mono ?_
   rintro _ w5 ⟨⟨q1,d1,rfl,hz⟩,hbb⟩
   clear n0 n1 n2 n3 g0 g1 c0 c1 c2 c3 r0 r1 f0 f1
   replace S:=S.up hbb
   replace hr:=hr.up hbb
   obtain⟨n0,n1,n2,n3,g0,g1,c0,c1,c2,c3,r0,r1,f0,f1⟩:=S.cells
   go_wp2_with fail
   refine(refGood_any _ q1 1 d1).mono ?_
   rintro _ w6 ⟨rfl,hbb⟩
   clear n0 n1 n2 n3 g0 g1 c0 c1 c2 c3 r0 r1 f0 f1
   replace S:=S.up hbb
   replace hr:=hr.up hbb
   replace hz:=hz.up hbb
   obtain⟨n0,n1,n2,n3,g0,g1,c0,c1,c2,c3,r0,r1,f0,f1⟩:=S.cells
   go_wp2
   exact bodyPost_ret (v:=.agg #[.slice q1 1 d1,.int .i64 0]) (by simp[results,Tryz.results30,go_sem,(S.R.told _ _).1,(S.R.told _ _).2]) rfl (S.ret ⟨q1,d1,rfl,hz⟩)
 | some u=>
   obtain⟨n0,n1,n2,n3,g0,g1,c0,c1,c2,c3,r0,r1,f0,f1⟩:=S.cells
   go_wp2_with fail
   refine(HFD _ _ _ hr).mono ?_
   rintro _ w4 ⟨⟨q4,d4,rfl,hu⟩,hbb⟩
   clear n0 n1 n2 n3 g0 g1 c0 c1 c2 c3 r0 r1 f0 f1
   replace S:=S.up hbb
   replace hr:=hr.up hbb
   obtain⟨n0,n1,n2,n3,g0,g1,c0,c1,c2,c3,r0,r1,f0,f1⟩:=S.cells
   go_wp2_with fail
   refine(refTruth_any _ _).mono ?_
   rintro _ w5 ⟨⟨q1,d1,rfl,hz⟩,hbb⟩
   clear n0 n1 n2 n3 g0 g1 c0 c1 c2 c3 r0 r1 f0 f1
   replace S:=S.up hbb
   replace hr:=hr.up hbb
   replace hu:=hu.up hbb
   obtain⟨n0,n1,n2,n3,g0,g1,c0,c1,c2,c3,r0,r1,f0,f1⟩:=S.cells
   go_wp2_with fail
   refine(refGood_any _ q1 1 d1).mono ?_
   rintro _ w6 ⟨rfl,hbb⟩
   clear n0 n1 n2 n3 g0 g1 c0 c1 c2 c3 r0 r1 f0 f1
   replace S:=S.up hbb
   replace hr:=hr.up hbb
   replace hu:=hu.up hbb
   replace hz:=hz.up hbb
   obtain⟨n0,n1,n2,n3,g0,g1,c0,c1,c2,c3,r0,r1,f0,f1⟩:=S.cells
   go_wp2
   exact bodyPost_ret (v:=.agg #[.slice q1 1 d1,.int .i64 0]) (by simp[results,Tryz.results30,go_sem,(S.R.told _ _).1,(S.R.told _ _).2]) rfl (S.ret ⟨q1,d1,rfl,hz⟩)
theorem ref1_fld22_6 (h:VArg w a n q c)(hl:EL w ps es)(ho:EnvOk es q0)(h6:opV a=6)(rr:List Nd)(hA:attE es a= .ok rr)(h6r:opV rr=6):
 Calls Tryz.prog 30 #[.slice ps es.length cs,.agg #[.int .i64 22,.int .i64 xn,.string xs,.string xt],.agg #[.slice q n c,.int .i64 0]] w fun e w'=>GRet (match fldV rr xs with | some u=>.ok u | none=>.error 3) e w'∧Below w.heap.size w w':=by
 obtain⟨y,r,b,off,rfl,rfl,i0,W,hW,S⟩:=S1.new 22 xn xs xt h hl
 have HI6:=isY h6 n (some ⟨b,off,none⟩) c
 have HRC:=fun w1 hl1 h1=>refRecord_any ho ps cs (y::r) n (some ⟨b,off,none⟩) c w1 hl1 h1 (.inl h6)
 rw[hA]at HRC
 have HFD:=fun w1 q1 d1 h1=>refField_any rr rr.length q1 d1 xs w1 h1 h6r
 generalize hF:fldV rr xs=FF at *
 clear hF h6r
 clear h6 h hl hA
 go_enter Tryz.func30,Tryz.ntmps30
 obtain⟨n0,n1,n2,n3,g0,g1,c0,c1,c2,c3,r0,r1,f0,f1⟩:=S.cells
 go_wp2_with fail
 rw[←hW]
 refine(HI6 _ S.v).mono ?_
 rintro _ w1 ⟨rfl,hbb⟩
 clear n0 n1 n2 n3 g0 g1 c0 c1 c2 c3 r0 r1 f0 f1
 replace S:=S.up hbb
 obtain⟨n0,n1,n2,n3,g0,g1,c0,c1,c2,c3,r0,r1,f0,f1⟩:=S.cells
 go_wp2_with fail
 refine(HRC _ S.e S.v).mono ?_
 rintro _ w2 ⟨⟨q3,d3,rfl,hr⟩,hbb⟩
 clear n0 n1 n2 n3 g0 g1 c0 c1 c2 c3 r0 r1 f0 f1
 replace S:=S.up hbb
 cases FF with
 | none=>
   obtain⟨n0,n1,n2,n3,g0,g1,c0,c1,c2,c3,r0,r1,f0,f1⟩:=S.cells
   go_wp2_with fail
   refine(HFD _ _ _ hr).mono ?_
   rintro _ w3 ⟨rfl,hbb⟩
   clear n0 n1 n2 n3 g0 g1 c0 c1 c2 c3 r0 r1 f0 f1
   replace S:=S.up hbb
   replace hr:=hr.up hbb
   obtain⟨n0,n1,n2,n3,g0,g1,c0,c1,c2,c3,r0,r1,f0,f1⟩:=S.cells
   go_wp2_with fail
   refine(refBad_any _ 3).mono ?_
   rintro _ w4 ⟨rfl,hbb⟩
   clear n0 n1 n2 n3 g0 g1 c0 c1 c2 c3 r0 r1 f0 f1
   replace S:=S.up hbb
   replace hr:=hr.up hbb
   obtain⟨n0,n1,n2,n3,g0,g1,c0,c1,c2,c3,r0,r1,f0,f1⟩:=S.cells
   go_wp2
   exact bodyPost_ret (v:=.agg #[.slice none 0 0,.int .i64 3]) (by simp[results,Tryz.results30,go_sem,(S.R.told _ _).1,(S.R.told _ _).2]) rfl (S.ret rfl)
 | some u=>
   obtain⟨n0,n1,n2,n3,g0,g1,c0,c1,c2,c3,r0,r1,f0,f1⟩:=S.cells
   go_wp2_with fail
   refine(HFD _ _ _ hr).mono ?_
   rintro _ w3 ⟨⟨q4,d4,rfl,hu⟩,hbb⟩
   clear n0 n1 n2 n3 g0 g1 c0 c1 c2 c3 r0 r1 f0 f1
   replace S:=S.up hbb
   replace hr:=hr.up hbb
   obtain⟨n0,n1,n2,n3,g0,g1,c0,c1,c2,c3,r0,r1,f0,f1⟩:=S.cells
   go_wp2_with fail
   refine(refGood_any _ _ _ _).mono ?_
   rintro _ w4 ⟨rfl,hbb⟩
   clear n0 n1 n2 n3 g0 g1 c0 c1 c2 c3 r0 r1 f0 f1
   replace S:=S.up hbb
   replace hr:=hr.up hbb
   replace hu:=hu.up hbb
   obtain⟨n0,n1,n2,n3,g0,g1,c0,c1,c2,c3,r0,r1,f0,f1⟩:=S.cells
   go_wp2
   exact bodyPost_ret (v:=.agg #[.slice q4 u.length d4,.int .i64 0]) (by simp[results,Tryz.results30,go_sem,(S.R.told _ _).1,(S.R.told _ _).2]) rfl (S.ret ⟨q4,d4,rfl,hu⟩)
theorem ref1_lost22_4 (h:VArg w a n q c)(hl:EL w ps es)(ho:EnvOk es q0)(h4:opV a=4)(m:Int)(hA:attE es a= .error m):
 Calls Tryz.prog 30 #[.slice ps es.length cs,.agg #[.int .i64 22,.int .i64 xn,.string xs,.string xt],.agg #[.slice q n c,.int .i64 0]] w fun e w'=>GRet (.error 8) e w'∧Below w.heap.size w w':=by
 obtain⟨y,r,b,off,rfl,rfl,i0,W,hW,S⟩:=S1.new 22 xn xs xt h hl
 have h6:opV (y::r)≠6:=by omega
 have HI6:=isN h6 n (some ⟨b,off,none⟩) c
 have HI4:=isY h4 n (some ⟨b,off,none⟩) c
 have HRC:=fun w1 hl1 h1=>refRecord_any ho ps cs (y::r) n (some ⟨b,off,none⟩) c w1 hl1 h1 (.inr h4)
 rw[hA]at HRC
 clear h4 h hl hA h6
 go_enter Tryz.func30,Tryz.ntmps30
 obtain⟨n0,n1,n2,n3,g0,g1,c0,c1,c2,c3,r0,r1,f0,f1⟩:=S.cells
 go_wp2_with fail
 rw[←hW]
 refine(HI6 _ S.v).mono ?_
 rintro _ w1 ⟨rfl,hbb⟩
 clear n0 n1 n2 n3 g0 g1 c0 c1 c2 c3 r0 r1 f0 f1
 replace S:=S.up hbb
 obtain⟨n0,n1,n2,n3,g0,g1,c0,c1,c2,c3,r0,r1,f0,f1⟩:=S.cells
 go_wp2_with fail
 refine(HI4 _ S.v).mono ?_
 rintro _ w2 ⟨rfl,hbb⟩
 clear n0 n1 n2 n3 g0 g1 c0 c1 c2 c3 r0 r1 f0 f1
 replace S:=S.up hbb
 obtain⟨n0,n1,n2,n3,g0,g1,c0,c1,c2,c3,r0,r1,f0,f1⟩:=S.cells
 go_wp2_with fail
 refine(HRC _ S.e S.v).mono ?_
 rintro _ w3 ⟨rfl,hbb⟩
 clear n0 n1 n2 n3 g0 g1 c0 c1 c2 c3 r0 r1 f0 f1
 replace S:=S.up hbb
 obtain⟨n0,n1,n2,n3,g0,g1,c0,c1,c2,c3,r0,r1,f0,f1⟩:=S.cells
 go_wp2_with fail
 refine(refBad_any _ 8).mono ?_
 rintro _ w4 ⟨rfl,hbb⟩
 clear n0 n1 n2 n3 g0 g1 c0 c1 c2 c3 r0 r1 f0 f1
 replace S:=S.up hbb
 obtain⟨n0,n1,n2,n3,g0,g1,c0,c1,c2,c3,r0,r1,f0,f1⟩:=S.cells
 go_wp2
 exact bodyPost_ret (v:=.agg #[.slice none 0 0,.int .i64 8]) (by simp[results,Tryz.results30,go_sem,(S.R.told _ _).1,(S.R.told _ _).2]) rfl (S.ret rfl)
theorem ref1_fld22_4 (h:VArg w a n q c)(hl:EL w ps es)(ho:EnvOk es q0)(h4:opV a=4)(rr:List Nd)(hA:attE es a= .ok rr)(h6r:opV rr=6):
 Calls Tryz.prog 30 #[.slice ps es.length cs,.agg #[.int .i64 22,.int .i64 xn,.string xs,.string xt],.agg #[.slice q n c,.int .i64 0]] w fun e w'=>GRet (match fldV rr xs with | some u=>.ok u | none=>.error 3) e w'∧Below w.heap.size w w':=by
 obtain⟨y,r,b,off,rfl,rfl,i0,W,hW,S⟩:=S1.new 22 xn xs xt h hl
 have h6:opV (y::r)≠6:=by omega
 have HI6:=isN h6 n (some ⟨b,off,none⟩) c
 have HI4:=isY h4 n (some ⟨b,off,none⟩) c
 have HRC:=fun w1 hl1 h1=>refRecord_any ho ps cs (y::r) n (some ⟨b,off,none⟩) c w1 hl1 h1 (.inr h4)
 rw[hA]at HRC
 have HFD:=fun w1 q1 d1 h1=>refField_any rr rr.length q1 d1 xs w1 h1 h6r
 generalize hF:fldV rr xs=FF at *
 clear hF h6r
 clear h4 h hl hA h6
 go_enter Tryz.func30,Tryz.ntmps30
 obtain⟨n0,n1,n2,n3,g0,g1,c0,c1,c2,c3,r0,r1,f0,f1⟩:=S.cells
 go_wp2_with fail
 rw[←hW]
 refine(HI6 _ S.v).mono ?_
 rintro _ w1 ⟨rfl,hbb⟩
 clear n0 n1 n2 n3 g0 g1 c0 c1 c2 c3 r0 r1 f0 f1
 replace S:=S.up hbb
 obtain⟨n0,n1,n2,n3,g0,g1,c0,c1,c2,c3,r0,r1,f0,f1⟩:=S.cells
 go_wp2_with fail
 refine(HI4 _ S.v).mono ?_
 rintro _ w2 ⟨rfl,hbb⟩
 clear n0 n1 n2 n3 g0 g1 c0 c1 c2 c3 r0 r1 f0 f1
 replace S:=S.up hbb
 obtain⟨n0,n1,n2,n3,g0,g1,c0,c1,c2,c3,r0,r1,f0,f1⟩:=S.cells
 go_wp2_with fail
 refine(HRC _ S.e S.v).mono ?_
 rintro _ w3 ⟨⟨q3,d3,rfl,hr⟩,hbb⟩
 clear n0 n1 n2 n3 g0 g1 c0 c1 c2 c3 r0 r1 f0 f1
 replace S:=S.up hbb
 cases FF with
 | none=>
   obtain⟨n0,n1,n2,n3,g0,g1,c0,c1,c2,c3,r0,r1,f0,f1⟩:=S.cells
   go_wp2_with fail
   refine(HFD _ _ _ hr).mono ?_
   rintro _ w4 ⟨rfl,hbb⟩
   clear n0 n1 n2 n3 g0 g1 c0 c1 c2 c3 r0 r1 f0 f1
   replace S:=S.up hbb
   replace hr:=hr.up hbb
   obtain⟨n0,n1,n2,n3,g0,g1,c0,c1,c2,c3,r0,r1,f0,f1⟩:=S.cells
   go_wp2_with fail
   refine(refBad_any _ 3).mono ?_
   rintro _ w5 ⟨rfl,hbb⟩
   clear n0 n1 n2 n3 g0 g1 c0 c1 c2 c3 r0 r1 f0 f1
   replace S:=S.up hbb
   replace hr:=hr.up hbb
   obtain⟨n0,n1,n2,n3,g0,g1,c0,c1,c2,c3,r0,r1,f0,f1⟩:=S.cells
   go_wp2
   exact bodyPost_ret (v:=.agg #[.slice none 0 0,.int .i64 3]) (by simp[results,Tryz.results30,go_sem,(S.R.told _ _).1,(S.R.told _ _).2]) rfl (S.ret rfl)
 | some u=>
   obtain⟨n0,n1,n2,n3,g0,g1,c0,c1,c2,c3,r0,r1,f0,f1⟩:=S.cells
   go_wp2_with fail
   refine(HFD _ _ _ hr).mono ?_
   rintro _ w4 ⟨⟨q4,d4,rfl,hu⟩,hbb⟩
   clear n0 n1 n2 n3 g0 g1 c0 c1 c2 c3 r0 r1 f0 f1
   replace S:=S.up hbb
   replace hr:=hr.up hbb
   obtain⟨n0,n1,n2,n3,g0,g1,c0,c1,c2,c3,r0,r1,f0,f1⟩:=S.cells
   go_wp2_with fail
   refine(refGood_any _ _ _ _).mono ?_
   rintro _ w5 ⟨rfl,hbb⟩
   clear n0 n1 n2 n3 g0 g1 c0 c1 c2 c3 r0 r1 f0 f1
   replace S:=S.up hbb
   replace hr:=hr.up hbb
   replace hu:=hu.up hbb
   obtain⟨n0,n1,n2,n3,g0,g1,c0,c1,c2,c3,r0,r1,f0,f1⟩:=S.cells
   go_wp2
   exact bodyPost_ret (v:=.agg #[.slice q4 u.length d4,.int .i64 0]) (by simp[results,Tryz.results30,go_sem,(S.R.told _ _).1,(S.R.told _ _).2]) rfl (S.ret ⟨q4,d4,rfl,hu⟩)
end
set_option linter.unusedSimpArgs false
def pos (e s:List Nd):Nat:=e.length-s.length
theorem behind_at {f:Nat}{e m r:List Nd}{p:Option Addr}{c k:Nat}(w:World)(hv:NL w p e)(hl:e.length≤200)(hk:k≤e.length)(hm:e.drop k=m)(hp:pastE f m=some r):
 Calls Tryz.prog 22 #[.slice p e.length c,.int .i64 (k:Int)] w fun en w'=>en= .returned (.int .i64 ((e.length-r.length:Nat):Int))∧Below w.heap.size w w':=by
 have h:=behind_any (e.length+1) e p c k w hk (by omega) hv (by unfold maxLen;omega)
 have hp2:pastE (e.length+1) (e.drop k)=some r:=by
  rw[hm]
  exact pastE_any hp (by rw[←hm,List.length_drop];omega)
 have hs:=(drop_suffix hp2).2
 rw[hp2,endI_some (by omega)]at h
 exact h
theorem OI.below {w w':World}{base:Nat}{v:Value}{l:List Nat}(h:OI w base v l)(k:Below w.heap.size w w'):OI w' base v l:=by
 refine⟨h.1,?_⟩
 rcases h.2 with hn | ⟨g,cap,cur,rfl,hb,hgg,rest⟩
 · exact .inl hn
 · exact .inr ⟨g,cap,cur,rfl,hb,(k.block g (Array.getElem?_eq_some_iff.1 hgg).1).trans hgg,rest⟩
theorem NB.low {w w':World}{B N:Nat}{o n:Int}{s t:ByteArray}(h:NB w B o n s t)(hb:Below N w w')(hN:B<N):NB w' B o n s t:=⟨(hb.block B hN).trans h.blk⟩
theorem recLoop_fst {pv:List Nd→Option (List Nd)}{k:Nat}{la:ByteArray}{v r:List Nd}(h:recLoop pv (k+1) la v=some r):∃z t s,v=z::t∧pv t=some s∧recLoop pv k z.s s=some r:=by
 cases v with
 | nil=>simp[recLoop]at h
 | cons z t=>
   simp only[recLoop]at h
   split at h
   · cases e:pv t with
     | none=>rw[e]at h;cases h
     | some s=>rw[e]at h;exact⟨z,t,s,rfl,e,h⟩
   · cases h
theorem parts_le {f:Nat}:∀(k:Nat) (m r:List Nd),partsE (pastE f) k m=some r→k+r.length≤m.length
 | 0,m,r,h=>by simp only[partsE,Option.some.injEq]at h;subst h;omega
 | k+1,m,r,h=>by
   obtain⟨s,h1,h2⟩:=partsE_fst h
   have:=parts_le k s r h2
   have:=(pastE_shorter h1).1
   omega
theorem fields_le {f:Nat}:∀(k:Nat) (la:ByteArray) (m r:List Nd),recLoop (pastE f) k la m=some r→k+r.length≤m.length
 | 0,la,m,r,h=>by simp only[recLoop,Option.some.injEq]at h;subst h;omega
 | k+1,la,m,r,h=>by
   obtain⟨z,t,s,rfl,h1,h2⟩:=recLoop_fst h
   have:=fields_le k _ s r h2
   have:=(pastE_shorter h1).1
   simp only[List.length_cons]
   omega
theorem partsOf_parts (f:Nat)(e:List Nd)(p:Option Addr)(c k:Nat)(x:Nd)(m r:List Nd)(w:World)(hv:NL w p e)(hl:e.length≤200)(hk:e.drop k=x::m)(hp:pastE (f+1) (x::m)=some r)(h6:x.op≠6):
 Calls Tryz.prog 25 #[.slice p e.length c,.int .i64 (k:Int)] w fun en w'=>(∃q c',en= .returned (.slice q ((prt x).toNat+1) c')∧IL w' q ((ssOf f x m).map (pos e)++[pos e r]))∧Below w.heap.size w w':=by
 have hkl:k<e.length:=by
  have:=congrArg List.length hk
  simp at this
  omega
 obtain⟨bq,oq,hpq,hbq,e0,e1,e2,e3,xw⟩:=hv.at hkl
 have hex:e[k]=x:=by
  have:=congrArg List.head? hk
  rw[List.drop_eq_getElem_cons hkl]at this
  simpa only[List.head?_cons,Option.some.injEq]using this
 rw[hex]at e0 e1 e2 e3 xw
 have i1:(k:Int)<(e.length:Int):=by omega
 have hm1:e.drop (k+1)=m:=by rw[←List.drop_drop,hk];rfl
 obtain⟨f',y,m',ef,ey,h7,hx,hr⟩:=pastE_cons hp
 obtain rfl:f=f':=by omega
 cases ey
 have hpp:partsE (pastE f) (prt x).toNat m=some r:=by
  rcases hr with⟨h,_⟩ | ⟨_,h⟩
  · exact absurd h h6
  · exact h
 have hss:ssOf f x m=sfx f (prt x).toNat m:=by unfold ssOf;rw[if_neg h6]
 have e6:(x.op == 6)=false:=by simpa using h6
 have hp0:0≤prt x:=by
  by_cases hq:0≤prt x
  · exact hq
  · exfalso
    unfold exOk at hx
    split at hx
    · rename_i h17
      have:x.op=5∨x.op=6∨(1≤x.op∧x.op≤4)∨x.op=7:=by omega
      unfold prt at hq
      rcases this with h | h | h | h
      · have:=ok_count hx (.inl h);rw[if_pos (Or.inl h)]at hq;omega
      · have:=ok_count hx (.inr h);rw[if_pos (Or.inr h)]at hq;omega
      · rw[if_neg (by omega),if_pos (by omega)]at hq;omega
      · exact absurd h h7
    · rw[if_pos (by omega)]at hx;cases hx
 have hK:(((prt x).toNat:Nat):Int)=prt x:=by omega
 have HPR:=fun w1=>refPrt_any x w1
 have HKl:Hid ((prt x).toNat≤200):=by
  show _≤_
  have h1:=parts_le _ _ _ hpp
  have h2:=congrArg List.length hk
  simp at h2
  omega
 rw[←hK]at HPR
 have HSS:Hid (ssOf f x m=sfx f (prt x).toNat m):=hss
 generalize (prt x).toNat=K at *
 clear hr hK hp0 hss hex xw
 obtain⟨xo,xn,xs,xt⟩:=x
 dsimp only[Nd.val]at e0 e1 e2 e3 e6 HPR
 have HE:Hid (∀w',Below w.heap.size w w'→NL w' p e):=fun w' hb=>hv.up hb
 subst hpq
 clear hv h6 hp h7 hx
 obtain⟨W,hW⟩:∃W,W=(w.alloc (.cells #[.int .i64 xo,.int .i64 xn,.string xs,.string xt] 53)).alloc (.cells #[] 3):=⟨_,rfl⟩
 have hbW:Below w.heap.size w W:=by rw[hW];exact((Below.refl _ _).alloc (Nat.le_refl _) _).alloc (by simp) _
 have hnW:NB W w.heap.size xo xn xs xt:=by rw[hW];exact(NB.new w _ _ _ _ rfl).up ((Below.refl _ _).alloc (Nat.le_refl _) _)
 have hoW:OI W (w.heap.size+1) (.slice (some ⟨w.heap.size+1,0,none⟩) 0 0) []:=by
  refine⟨rfl,.inr ⟨w.heap.size+1,0, #[],rfl,Nat.le_refl _,by rw[hW];exact new_at (by simp),Nat.le_refl _,Nat.zero_le _,rfl,rfl⟩⟩
 have hWs:w.heap.size+1≤W.heap.size:=by rw[hW];simp
 go_enter Tryz.func25,Tryz.ntmps25
 go_wp2_with fail
 rw[←hW]
 clear hW e0 e1 e2 e3
 go_loopw [1,6,7] (fun sa ov i wr=>∃(j kj:Nat) (mj:List Nd) (done:List (List Nd)),j≤K∧i= .int .i64 j∧sa= .int .i64 kj∧kj≤e.length∧Hid (e.drop kj=mj)∧Hid (partsE (pastE f) (K-j) mj=some r)∧Hid (done++sfx f (K-j) mj=ssOf f ⟨xo,xn,xs,xt⟩ m)∧done.length=j∧OI wr (w.heap.size+1) ov (done.map (pos e))∧NB wr w.heap.size xo xn xs xt∧Below w.heap.size w wr) (fun _ _ i _=>K-(intOf i).toNat)
 case atStart=>exact⟨0,k+1,m,[],Nat.zero_le _,rfl,by go_num,by omega,hm1,by rw[Nat.sub_zero];exact hpp,by rw[Nat.sub_zero,List.nil_append];exact HSS.out.symm,rfl,hoW,hnW,hbW⟩
 case round=>
  rename World=>wr
  obtain⟨j,kj,mj,done,hj,rfl,rfl,hkj,HM,HP,HD,hdl,hown,hnb,hbr⟩:=hrel
  obtain⟨n0,n1,n2,n3⟩:=hnb.cells
  have hKn:K≤200:=HKl.out
  by_cases hlt:j<K
  · have i2:(j:Int)<(K:Int):=by omega
    have eN:K-j=(K-(j+1))+1:=by omega
    have hP:=HP.out
    have hD:=HD.out
    rw[eN]at hP hD
    obtain⟨s,p1,p2⟩:=partsE_fst hP
    have H1:=fun w1 h1=>behind_at (p:=some ⟨bq,oq,none⟩) (c:=c) (k:=kj) w1 h1 hl hkj HM.out p1
    have hs:=drop_suffix (show pastE f (e.drop kj)=some s by rw[HM.out];exact p1)
    have HD2:Hid ((done++[mj])++sfx f (K-(j+1)) s=ssOf f ⟨xo,xn,xs,xt⟩ m):=by
     show _=_
     rw[←hD]
     simp only[sfx,bh_of p1,List.append_assoc,List.singleton_append]
    have HT:Hid (pos e mj=kj):=by show _=_;unfold pos;rw[←HM.out,List.length_drop];omega
    have HP2:Hid (partsE (pastE f) (K-(j+1)) s=some r):=p2
    have HO:Hid (OI wr (w.heap.size+1) u6 (done.map (pos e))):=hown
    clear HP HD hP hD hown p1 p2
    go_wp2_with (first
     | (go_at_call 44;refine(HPR _).mono ?_;rintro _ w1 ⟨rfl,hb1⟩;have hnb1:=hnb.up hb1;obtain⟨a0,a1,a2,a3⟩:=hnb1.cells;have ho1:=HO.out.below hb1)
     | (at_builtin;(refine append_int w1 rfl (.tmp 26) (.tmp 28) rfl (w.heap.size+1) u6 (done.map (pos e)) rfl ho1 (kj:Int) kj rfl rfl (by simp only[List.length_map];have:=HKl.out;omega) (by have:=hnb.lt;have:=hb1.size;omega) ?_);intro v2 w2 ho2 hb2)
     | (go_at_call 22;refine(H1 w2 (HE.out w2 (hbr.trans ((hb1.mono hbr.size).trans (hb2.mono (Nat.le_succ _)))))).mono ?_;rintro _ w3 ⟨rfl,hb3⟩))
    have hb02:Below w.heap.size w w2:=hbr.trans ((hb1.mono hbr.size).trans (hb2.mono (Nat.le_succ _)))
    have hs1:w1.heap.size≤w2.heap.size:=hb2.size
    have ho3:=ho2.below hb3
    have hnb3:=(hnb1.low hb2 (Nat.lt_succ_self _)).up hb3
    have HO3:Hid (OI w3 (w.heap.size+1) v2 ((done++[mj]).map (pos e))):=by
     show OI _ _ _ _
     rw[List.map_append,List.map_singleton,HT.out]
     exact ho3
    go_wp2_with fail
    go_roundw
    case rel=>exact⟨j+1,e.length-s.length,s,done++[mj],by omega,by go_num,by go_num,by omega,hs.1,HP2,HD2,by simp[hdl],HO3.out,hnb3,qbt hb02 hb3⟩
    case measure=>simp[intOf];omega
  · have i2:¬(j:Int)<(K:Int):=by omega
    obtain rfl:j=K:=by omega
    have hP:=HP.out
    have hD:=HD.out
    rw[Nat.sub_self]at hP hD
    have hmr:mj=r:=by simpa[partsE]using hP
    have HD2:Hid (done=ssOf f ⟨xo,xn,xs,xt⟩ m):=by
     show _=_
     rw[←hD]
     simp[sfx]
    have HT:Hid (pos e r=kj):=by show _=_;unfold pos;rw[←hmr,←HM.out,List.length_drop];omega
    have HO:Hid (OI wr (w.heap.size+1) u6 (done.map (pos e))):=hown
    clear HP HD hP hD hown hmr
    go_wp2_with (first
     | (go_at_call 44;refine(HPR _).mono ?_;rintro _ w1 ⟨rfl,hb1⟩;have ho1:=HO.out.below hb1)
     | (at_builtin;refine append_int w1 rfl (.tmp 33) (.tmp 35) rfl (w.heap.size+1) u6 (done.map (pos e)) rfl ho1 (kj:Int) kj rfl rfl (by simp only[List.length_map];have:=HKl.out;omega) (by have:=hnb.lt;have:=hb1.size;omega) ?_;intro v2 w2 ho2 hb2;obtain⟨q2,c2,rfl,hil,_,_⟩:=ho2.slice))
    go_ret
    rw[←HD2.out,HT.out]
    exact⟨⟨q2,c2,by simp[hdl],hil⟩,hbr.trans ((hb1.mono hbr.size).trans (hb2.mono (Nat.le_succ _)))⟩
theorem partsOf_rec (f:Nat)(e:List Nd)(p:Option Addr)(c k:Nat)(x:Nd)(m r:List Nd)(w:World)(hv:NL w p e)(hl:e.length≤200)(hk:e.drop k=x::m)(hp:pastE (f+1) (x::m)=some r)(h6:x.op=6):
 Calls Tryz.prog 25 #[.slice p e.length c,.int .i64 (k:Int)] w fun en w'=>(∃q c',en= .returned (.slice q ((prt x).toNat+1) c')∧IL w' q ((ssOf f x m).map (pos e)++[pos e r]))∧Below w.heap.size w w':=by
 have hkl:k<e.length:=by
  have:=congrArg List.length hk
  simp at this
  omega
 obtain⟨bq,oq,hpq,hbq,e0,e1,e2,e3,xw⟩:=hv.at hkl
 have hex:e[k]=x:=by
  have:=congrArg List.head? hk
  rw[List.drop_eq_getElem_cons hkl]at this
  simpa only[List.head?_cons,Option.some.injEq]using this
 rw[hex]at e0 e1 e2 e3 xw
 have i1:(k:Int)<(e.length:Int):=by omega
 have hm1:e.drop (k+1)=m:=by rw[←List.drop_drop,hk];rfl
 obtain⟨f',y,m',ef,ey,h7,hx,hr⟩:=pastE_cons hp
 obtain rfl:f=f':=by omega
 cases ey
 have hpp:recLoop (pastE f) (prt x).toNat ⟨#[]⟩ m=some r:=by
  rcases hr with⟨_,h⟩ | ⟨h,_⟩
  · have e5:(prt x).toNat=x.n.toNat:=by unfold prt;rw[if_pos (Or.inr h6)]
    rw[e5];exact h
  · exact absurd h6 h
 have hss:ssOf f x m=sfxR f (prt x).toNat m:=by unfold ssOf;rw[if_pos h6]
 have e6:(x.op == 6)=true:=by simpa using h6
 have hp0:0≤prt x:=by
  by_cases hq:0≤prt x
  · exact hq
  · exfalso
    unfold exOk at hx
    split at hx
    · rename_i h17
      have:x.op=5∨x.op=6∨(1≤x.op∧x.op≤4)∨x.op=7:=by omega
      unfold prt at hq
      rcases this with h | h | h | h
      · have:=ok_count hx (.inl h);rw[if_pos (Or.inl h)]at hq;omega
      · have:=ok_count hx (.inr h);rw[if_pos (Or.inr h)]at hq;omega
      · rw[if_neg (by omega),if_pos (by omega)]at hq;omega
      · exact absurd h h7
    · rw[if_pos (by omega)]at hx;cases hx
 have hK:(((prt x).toNat:Nat):Int)=prt x:=by omega
 have HPR:=fun w1=>refPrt_any x w1
 have HKl:Hid ((prt x).toNat≤200):=by
  show _≤_
  have h1:=fields_le _ _ _ _ hpp
  have h2:=congrArg List.length hk
  simp at h2
  omega
 rw[←hK]at HPR
 have HSS:Hid (ssOf f x m=sfxR f (prt x).toNat m):=hss
 generalize (prt x).toNat=K at *
 clear hr hK hp0 hss hex xw
 obtain⟨xo,xn,xs,xt⟩:=x
 dsimp only[Nd.val]at e0 e1 e2 e3 e6 HPR
 have HE:Hid (∀w',Below w.heap.size w w'→NL w' p e):=fun w' hb=>hv.up hb
 subst hpq
 clear hv h6 hp h7 hx
 obtain⟨W,hW⟩:∃W,W=(w.alloc (.cells #[.int .i64 xo,.int .i64 xn,.string xs,.string xt] 53)).alloc (.cells #[] 3):=⟨_,rfl⟩
 have hbW:Below w.heap.size w W:=by rw[hW];exact((Below.refl _ _).alloc (Nat.le_refl _) _).alloc (by simp) _
 have hnW:NB W w.heap.size xo xn xs xt:=by rw[hW];exact(NB.new w _ _ _ _ rfl).up ((Below.refl _ _).alloc (Nat.le_refl _) _)
 have hoW:OI W (w.heap.size+1) (.slice (some ⟨w.heap.size+1,0,none⟩) 0 0) []:=by
  refine⟨rfl,.inr ⟨w.heap.size+1,0, #[],rfl,Nat.le_refl _,by rw[hW];exact new_at (by simp),Nat.le_refl _,Nat.zero_le _,rfl,rfl⟩⟩
 have hWs:w.heap.size+1≤W.heap.size:=by rw[hW];simp
 go_enter Tryz.func25,Tryz.ntmps25
 go_wp2_with fail
 rw[←hW]
 clear hW e0 e1 e2 e3
 go_loopw [1,6,7] (fun sa ov i wr=>∃(j kj:Nat) (mj:List Nd) (la:ByteArray) (done:List (List Nd)),j≤K∧i= .int .i64 j∧sa= .int .i64 kj∧kj≤e.length∧Hid (e.drop kj=mj)∧Hid (recLoop (pastE f) (K-j) la mj=some r)∧Hid (done++sfxR f (K-j) mj=ssOf f ⟨xo,xn,xs,xt⟩ m)∧done.length=j∧OI wr (w.heap.size+1) ov (done.map (pos e))∧NB wr w.heap.size xo xn xs xt∧Below w.heap.size w wr) (fun _ _ i _=>K-(intOf i).toNat)
 case atStart=>exact⟨0,k+1,m,⟨#[]⟩,[],Nat.zero_le _,rfl,by go_num,by omega,hm1,by rw[Nat.sub_zero];exact hpp,by rw[Nat.sub_zero,List.nil_append];exact HSS.out.symm,rfl,hoW,hnW,hbW⟩
 case round=>
  rename World=>wr
  obtain⟨j,kj,mj,la,done,hj,rfl,rfl,hkj,HM,HP,HD,hdl,hown,hnb,hbr⟩:=hrel
  obtain⟨n0,n1,n2,n3⟩:=hnb.cells
  have hKn:K≤200:=HKl.out
  by_cases hlt:j<K
  · have i2:(j:Int)<(K:Int):=by omega
    have eN:K-j=(K-(j+1))+1:=by omega
    have hP:=HP.out
    have hD:=HD.out
    rw[eN]at hP hD
    obtain⟨z,t,s,hz,p1,p2⟩:=recLoop_fst hP
    subst hz
    have hm2:e.drop (kj+1)=t:=by rw[←List.drop_drop,HM.out];rfl
    have hkl2:kj<e.length:=by
     have:=congrArg List.length HM.out
     simp at this
     omega
    have i3:(kj:Int)+1≤9223372036854775807:=by omega
    have H1:=fun w1 h1=>behind_at (p:=some ⟨bq,oq,none⟩) (c:=c) (k:=kj+1) w1 h1 hl (by omega) hm2 p1
    have hs:=drop_suffix (show pastE f (e.drop (kj+1))=some s by rw[hm2];exact p1)
    have HD2:Hid ((done++[t])++sfxR f (K-(j+1)) s=ssOf f ⟨xo,xn,xs,xt⟩ m):=by
     show _=_
     rw[←hD]
     simp only[sfxR,List.tail_cons,bh_of p1,List.append_assoc,List.singleton_append]
    have HT:Hid (pos e t=kj+1):=by show _=_;unfold pos;rw[←hm2,List.length_drop];omega
    have HP2:Hid (recLoop (pastE f) (K-(j+1)) z.s s=some r):=p2
    have HO:Hid (OI wr (w.heap.size+1) u6 (done.map (pos e))):=hown
    clear HP HD hP hD hown p1 p2
    go_wp2_with (first
     | (go_at_call 44;refine(HPR _).mono ?_;rintro _ w1 ⟨rfl,hb1⟩;have hnb1:=hnb.up hb1;obtain⟨a0,a1,a2,a3⟩:=hnb1.cells;have ho1:=HO.out.below hb1)
     | (at_builtin;(refine append_int w1 rfl (.tmp 26) (.tmp 28) rfl (w.heap.size+1) u6 (done.map (pos e)) rfl ho1 ((kj:Int)+1) (kj+1) (by omega) rfl (by simp only[List.length_map];have:=HKl.out;omega) (by have:=hnb.lt;have:=hb1.size;omega) ?_);intro v2 w2 ho2 hb2)
     | (go_at_call 22;refine(H1 w2 (HE.out w2 (hbr.trans ((hb1.mono hbr.size).trans (hb2.mono (Nat.le_succ _)))))).mono ?_;rintro _ w3 ⟨rfl,hb3⟩))
    have hb02:Below w.heap.size w w2:=hbr.trans ((hb1.mono hbr.size).trans (hb2.mono (Nat.le_succ _)))
    have hs1:w1.heap.size≤w2.heap.size:=hb2.size
    have ho3:=ho2.below hb3
    have hnb3:=(hnb1.low hb2 (Nat.lt_succ_self _)).up hb3
    have HO3:Hid (OI w3 (w.heap.size+1) v2 ((done++[t]).map (pos e))):=by
     show OI _ _ _ _
     rw[List.map_append,List.map_singleton,HT.out]
     exact ho3
    go_wp2_with fail
    go_roundw
    case rel=>exact⟨j+1,e.length-s.length,s,z.s,done++[t],by omega,by go_num,by go_num,by omega,hs.1,HP2,HD2,by simp[hdl],HO3.out,hnb3,qbt hb02 hb3⟩
    case measure=>simp[intOf];omega
  · have i2:¬(j:Int)<(K:Int):=by omega
    obtain rfl:j=K:=by omega
    have hP:=HP.out
    have hD:=HD.out
    rw[Nat.sub_self]at hP hD
    have hmr:mj=r:=by simpa[recLoop]using hP
    have HD2:Hid (done=ssOf f ⟨xo,xn,xs,xt⟩ m):=by
     show _=_
     rw[←hD]
     simp[sfxR]
    have HT:Hid (pos e r=kj):=by show _=_;unfold pos;rw[←hmr,←HM.out,List.length_drop];omega
    have HO:Hid (OI wr (w.heap.size+1) u6 (done.map (pos e))):=hown
    clear HP HD hP hD hown hmr
    go_wp2_with (first
     | (go_at_call 44;refine(HPR _).mono ?_;rintro _ w1 ⟨rfl,hb1⟩;have ho1:=HO.out.below hb1)
     | (at_builtin;refine append_int w1 rfl (.tmp 33) (.tmp 35) rfl (w.heap.size+1) u6 (done.map (pos e)) rfl ho1 (kj:Int) kj rfl rfl (by simp only[List.length_map];have:=HKl.out;omega) (by have:=hnb.lt;have:=hb1.size;omega) ?_;intro v2 w2 ho2 hb2;obtain⟨q2,c2,rfl,hil,_,_⟩:=ho2.slice))
    go_ret
    rw[←HD2.out,HT.out]
    exact⟨⟨q2,c2,by simp[hdl],hil⟩,hbr.trans ((hb1.mono hbr.size).trans (hb2.mono (Nat.le_succ _)))⟩
theorem refPartsOf_any (f:Nat)(e:List Nd)(p:Option Addr)(c k:Nat)(x:Nd)(m r:List Nd)(w:World)(hv:NL w p e)(hl:e.length≤200)(hk:e.drop k=x::m)(hp:pastE (f+1) (x::m)=some r):
 Calls Tryz.prog 25 #[.slice p e.length c,.int .i64 (k:Int)] w fun en w'=>(∃q c',en= .returned (.slice q ((prt x).toNat+1) c')∧IL w' q ((ssOf f x m).map (pos e)++[pos e r]))∧Below w.heap.size w w':=by
 by_cases h6:x.op=6
 · exact partsOf_rec f e p c k x m r w hv hl hk hp h6
 · exact partsOf_parts f e p c k x m r w hv hl hk hp h6
theorem Tryz.infoGot:(Tryz.prog.info? 30).map (fun i=>(i.zero,i.size,i.bytes))=some (some (.agg #[.slice none 0 0,.int .i64 0]),2,32):=by kernel_rfl
def OG (w:World)(base:Nat)(v:Value)(vs:List (List Nd)):Prop:=
 (v= .slice none 0 0∧vs=[])∨∃(g cap:Nat) (cur:Array Value),v= .slice (some ⟨g,0,none⟩) vs.length cap∧base≤g∧w.heap[g]? =some (.cells cur 30 (0,0))∧vs.length≤cap∧cap≤maxLen∧cur.size=cap*2∧(∀c∈cur.toList,NoS c)∧
  ∀(i:Nat) (L:List Nd),vs[i]? =some L→∃(q:Option Addr) (c:Nat),cur[i*2]? =some (Value.slice q L.length c)∧cur[i*2+1]? =some (Value.int .i64 0)∧VArg w L L.length q c
theorem OG.nil (w:World)(base:Nat):OG w base (.slice none 0 0) []:=.inl ⟨rfl,rfl⟩
theorem OG.up {w w':World}{base:Nat}{v:Value}{vs:List (List Nd)}(h:OG w base v vs)(k:Below w.heap.size w w'):OG w' base v vs:=by
 rcases h with h | ⟨g,cap,cur,rfl,hb,hg,hl,hm,hz,hs,he⟩
 · exact .inl h
 · refine .inr ⟨g,cap,cur,rfl,hb,(k.block g (Array.getElem?_eq_some_iff.1 hg).1).trans hg,hl,hm,hz,hs,fun i L hL=>?_⟩
   obtain⟨q,c,h1,h2,h3⟩:=he i L hL
   exact⟨q,c,h1,h2,h3.up k⟩
theorem OG.at {w:World}{base:Nat}{v:Value}{vs:List (List Nd)}(h:OG w base v vs){i:Nat}(hi:i<vs.length):∃g cap q c,v= .slice (some ⟨g,0,none⟩) vs.length cap∧g<w.heap.size∧w.cell? ⟨g,i*2,none⟩=some (.slice q vs[i].length c)∧w.cell? ⟨g,i*2+1,none⟩=some (.int .i64 0)∧VArg w vs[i] vs[i].length q c:=by
 rcases h with⟨_,rfl⟩ | ⟨g,cap,cur,rfl,hb,hg,hl,hm,hz,hs,he⟩
 · simp at hi
 · obtain⟨q,c,h1,h2,h3⟩:=he i _ (List.getElem?_eq_getElem hi)
   exact⟨g,cap,q,c,rfl,(Array.getElem?_eq_some_iff.1 hg).1,by simp[World.cell?, hg,h1],by simp[World.cell?, hg,h2],h3⟩
theorem OG.len {w:World}{base:Nat}{v:Value}{vs:List (List Nd)}(h:OG w base v vs):∃q c,v= .slice q vs.length c:=by
 rcases h with⟨rfl,rfl⟩ | ⟨g,cap,cur,rfl,_⟩
 · exact⟨none,0,rfl⟩
 · exact⟨_,_,rfl⟩
theorem zero_got (k:Nat):∀c∈(Builtin.zeroCells (Value.agg #[.slice none 0 0,.int .i64 0]).cells k).toList,NoS c:=by
 intro c hc
 have hz:(Value.agg #[.slice none 0 0,.int .i64 0]).cells= #[.slice none 0 0,.int .i64 0]:=rfl
 rw[hz]at hc
 unfold Builtin.zeroCells at hc
 simp only[Array.toList_map,List.mem_map]at hc
 obtain⟨i,_,rfl⟩:=hc
 have:i % 2=0∨i % 2=1:=by omega
 rcases this with h | h
 · left;exact⟨none,0,0,by simp[h]⟩
 · right;exact⟨0,by simp[h]⟩
theorem append_got (w:World){ops:Array Oper}{rest:List Oper}{o:Oper}{a:Act}{Q:Exit→Act→World→Prop}(hgd:o.guard=none)(s x:Operand)
 (ho:o.op= .call { callee:=.builtin .append,args:= #[s,x],argTypes:= #[66,66] })
 (base:Nat) (v:Value) (vs:List (List Nd)) (hs:a.eval s=v) (hown:OG w base v vs) (L:List Nd) (n:Nat) (q:Option Addr) (c:Nat) (hV:VArg w L n q c)
 (hx:a.eval x= .slice (some ⟨w.heap.size,0,none⟩) 1 1) (hlen:vs.length+1≤1000000) (hbase:base≤w.heap.size)
 (h:∀v' w',OG w' base v' (vs++[L])→Below base w w'→wpList Tryz.prog ops Q rest (a.put o.dst v') w'):wpList Tryz.prog ops Q (o::rest) a (w.alloc (.cells #[.slice q n c,.int .i64 0] 30)):=by
 obtain rfl:L.length=n:=hV.len
 obtain⟨i0,hi0,hz0,hz1,hz2⟩:=info_parts Tryz.infoGot
 have hbA:Below w.heap.size w (w.alloc (.cells #[.slice q L.length c,.int .i64 0] 30)):=(Below.refl _ _).alloc (Nat.le_refl _) _
 have hAs:(w.alloc (.cells #[.slice q L.length c,.int .i64 0] 30)).heap.size=w.heap.size+1:=by simp
 have hx0:∀j u,([.slice q L.length c,.int .i64 0]:List Value)[j]? =some u→(w.alloc (.cells #[.slice q L.length c,.int .i64 0] 30)).cell? ((⟨w.heap.size,0,none⟩:Addr).add j)=some u:=by
  intro j u hj
  match j,hj with
  | 0,hj=>simp at hj;subst hj;simp[Addr.add]
  | 1,hj=>simp at hj;subst hj;simp[Addr.add]
 have hVA:=hV.up hbA
 have hoA:=hown.up hbA
 generalize w.alloc (.cells #[.slice q L.length c,.int .i64 0] 30)=W at *
 have hsrc:Src Tryz.prog 2 66 (.slice (some ⟨w.heap.size,0,none⟩) 1 1) 1 [.slice q L.length c,.int .i64 0] W:=Src.ofSlice W Tryz.underlying66 ⟨w.heap.size,0,none⟩ 1 1 [.slice q L.length c,.int .i64 0] rfl hx0 (by intro u hu;simp at hu;rcases hu with rfl | rfl<;>rfl)
 have hsrc2:Src Tryz.prog i0.size 66 (.slice (some ⟨w.heap.size,0,none⟩) 1 1) 1 [.slice q L.length c,.int .i64 0] W:=by rw[hz1];exact hsrc
 have hat:∀(i:Nat) M,(vs++[L])[i]? =some M→(i<vs.length∧vs[i]? =some M)∨(i=vs.length∧M=L):=by
  intro i M hM
  by_cases hi:i<vs.length
  · rw[List.getElem?_append_left hi]at hM;exact .inl ⟨hi,hM⟩
  · rw[List.getElem?_append_right (by omega)]at hM
    have h0:i-vs.length=0:=by
     have:=(List.getElem?_eq_some_iff.1 hM).1;simp at this;omega
    rw[h0]at hM
    simp at hM
    exact .inr ⟨by omega,hM.symm⟩
 have grow:∀(bs:Option Addr) (cap:Nat) (olds:List Value),v= .slice bs vs.length cap→cap<vs.length+1→olds.length=vs.length*2→(∀c∈olds,NoS c)→(∀(i:Nat) (M:List Nd),vs[i]? =some M→∃(q:Option Addr) (c:Nat),olds[i*2]? =some (Value.slice q M.length c)∧olds[i*2+1]? =some (Value.int .i64 0)∧VArg W M M.length q c)→
  (Builtin.firstCells i0.size vs.length (.slice bs vs.length cap)).run Tryz.prog W.drew= .ok olds.toArray W.drew→wpList Tryz.prog ops Q (o::rest) a W:=by
  intro bs cap olds hv hcap holn hols hat2 hold
  have hr:=fun ty=>run_append_grow_src (P:=Tryz.prog) W 66 66 ty 30 i0 _ Tryz.underlying66 hi0 hz0 bs vs.length cap olds hold _ 1 _ hsrc2 hcap (by omega) (by rw[hz2];exact growslice_fits hcap (by omega))
  refine Lib.wpList_append_run W hgd s x 66 66 ho _ _ (hs.trans hv) hx _ _ (hr _) ?_
  have hG1:=grownCap_ge W (vs.length+1) cap 30
  have hG2:=grownCap_le_maxLen W (vs.length+1) cap 30 (by unfold maxLen;omega)
  generalize grownCap W (vs.length+1) cap 30=G at *
  generalize hRow:(olds++[Value.slice q L.length c,.int .i64 0]).toArray++Builtin.zeroCells (Value.agg #[.slice none 0 0,.int .i64 0]).cells (G-(vs.length+1))=row
  have hb2:Below W.heap.size W (W.drew.alloc (.cells row 30)):=((Below.refl _ _).drew).alloc (Nat.le_refl _) _
  have hrs:row.size=G*2:=by
   rw[←hRow]
   have hz:(Value.agg #[.slice none 0 0,.int .i64 0]).cells= #[.slice none 0 0,.int .i64 0]:=rfl
   simp[Builtin.zeroCells,hz,holn]
   omega
  have hri:∀i,i<(vs.length+1)*2→row[i]? =(olds++[Value.slice q L.length c,.int .i64 0])[i]? :=by
   intro i hi
   rw[←hRow,Array.getElem?_append_left (by simp[holn];omega)]
   simp
  refine h _ _ (.inr ⟨W.heap.size,G,row,by simp,by rw[hAs];omega,heap_alloc_new W.drew _,by simpa using hG1,hG2,hrs,?_,fun i M hM=>?_⟩) ((hbA.trans (hb2.mono hbA.size)).mono hbase)
  · intro u hu
    rw[←hRow]at hu
    simp only[Array.toList_append,List.mem_append]at hu
    rcases hu with(hu | hu) | hu
    · exact hols u hu
    · simp at hu;rcases hu with rfl | rfl
      · exact .inl ⟨_,_,_,rfl⟩
      · exact .inr ⟨_,rfl⟩
    · exact zero_got _ u hu
  · rcases hat i M hM with⟨hi,hM⟩ | ⟨rfl,rfl⟩
    · obtain⟨q',c',h1,h2,h3⟩:=hat2 i M hM
      exact⟨q',c',by rw[hri _ (by omega),List.getElem?_append_left (by omega)];exact h1,by rw[hri _ (by omega),List.getElem?_append_left (by omega)];exact h2,h3.up hb2⟩
    · exact⟨q,c,by rw[hri _ (by omega),List.getElem?_append_right (by omega),holn];simp,by rw[hri _ (by omega),List.getElem?_append_right (by omega),holn];simp,hVA.up hb2⟩
 rcases hoA with⟨hv,hvs⟩ | ⟨g,cap,cur,hv,hb,hg,hl,hm,hz,hsl,he⟩
 · subst hvs
   refine grow none 0 [] hv (by simp) rfl (by simp) (by simp) ?_
   exact run_firstCells_none W.drew i0.size 0 0 0
 · by_cases hroom:vs.length+1≤cap
   · have hcell:∀j,j<cap*2→(W.cell? ⟨g,j,none⟩).isSome=true:=fun j hj=>by
      simp[World.cell?, hg,hz,hj]
     have hfz:∀j,W.frozen? ⟨g,j,none⟩=false:=fun j=>by simp[World.frozen?, hg]
     refine wpList_append_room_src W hgd s x 66 66 ho 30 i0 Tryz.underlying66 hi0 g 0 vs.length cap (hs.trans hv) _ hx 1 [.slice q L.length c,.int .i64 0] hsrc2 hroom (fun j hj=>by rw[hz1];simp at hj;exact hcell _ (by omega)) (fun j _=>hfz _) ?_
     have hsc:W.setCells g (0+vs.length*i0.size) [.slice q L.length c,.int .i64 0]=(W.setCell ⟨g,vs.length*2,none⟩ (.slice q L.length c)).setCell ⟨g,vs.length*2+1,none⟩ (.int .i64 0):=by
      rw[Nat.zero_add,hz1];rfl
     rw[hsc]
     have hgl:g<W.heap.size:=(Array.getElem?_eq_some_iff.1 hg).1
     have hg1:=heap_setCell_same W g (vs.length*2) _ _ (Value.slice q L.length c) hg
     have hg2:=heap_setCell_same _ g (vs.length*2+1) _ _ (Value.int .i64 0) hg1
     refine h _ _ (.inr ⟨g,cap,_,by simp,hb,hg2,by simpa using hroom,hm,by simpa using hz,?_,fun i M hM=>?_⟩) ?_
     · intro u hu
       rw[Array.toList_setIfInBounds,Array.toList_setIfInBounds]at hu
       rcases List.mem_or_eq_of_mem_set hu with hu | rfl
       · rcases List.mem_or_eq_of_mem_set hu with hu | rfl
         · exact hsl u hu
         · exact .inl ⟨_,_,_,rfl⟩
       · exact .inr ⟨_,rfl⟩
     · have hkeep:∀ {M:List Nd} {q':Option Addr} {c':Nat},VArg W M M.length q' c'→VArg ((W.setCell ⟨g,vs.length*2,none⟩ (.slice q L.length c)).setCell ⟨g,vs.length*2+1,none⟩ (.int .i64 0)) M M.length q' c':=fun k=>
        ⟨k.len,(k.nl.setc2 (k.offG hg hsl) _).setc2 (k.offG hg hsl) _,k.le,k.cm,k.is⟩
       rcases hat i M hM with⟨hi,hM⟩ | ⟨rfl,rfl⟩
       · obtain⟨q',c',h1,h2,h3⟩:=he i M hM
         refine⟨q',c',?_,?_,hkeep h3⟩
         · rw[Array.getElem?_setIfInBounds_ne (by omega),Array.getElem?_setIfInBounds_ne (by omega)]
           exact h1
         · rw[Array.getElem?_setIfInBounds_ne (by omega),Array.getElem?_setIfInBounds_ne (by omega)]
           exact h2
       · refine⟨q,c,?_,?_,hkeep hVA⟩
         · rw[Array.getElem?_setIfInBounds_ne (by omega),Array.getElem?_setIfInBounds_self]
           simp[hz]
           omega
         · rw[Array.getElem?_setIfInBounds_self]
           simp[hz]
           omega
     · exact(hbA.mono hbase).trans (((Below.refl base W).setCell hb _).setCell hb _)
   · refine grow (some ⟨g,0,none⟩) cap (cur.toList.take (vs.length*2)) hv (by omega) (by simp[hz];omega) (fun u hu=>hsl u (List.mem_of_mem_take hu)) (fun i M hM=>?_) ?_
     · obtain⟨q',c',h1,h2,h3⟩:=he i M hM
       have hi:i<vs.length:=(List.getElem?_eq_some_iff.1 hM).1
       refine⟨q',c',?_,?_,h3⟩
       · rw[List.getElem?_take_of_lt (by omega)]
         simpa using h1
       · rw[List.getElem?_take_of_lt (by omega)]
         simpa using h2
     · rw[hz1]
       refine run_firstCells_some W.drew 2 vs.length ⟨g,0,none⟩ vs.length cap (cur.toList.take (vs.length*2)) (by simp[hz];omega) (fun j u hj=>?_)
       rw[Addr.add_lit,Nat.zero_add]
       rw[List.getElem?_take]at hj
       split at hj
       · have hd:W.drew.cell? ⟨g,j,none⟩=W.cell? ⟨g,j,none⟩:=rfl
         rw[hd]
         simp[World.cell?, hg]
         simpa using hj
       · cases hj
end Go.Proofs.YtnbkfggmpiccjaaGreatDoor
