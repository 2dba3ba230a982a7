import Derived.Test.YtlnhaajjoplafaaGreatDoorT33
import Derived.Test.YtlnhaajjoplafaaGreatDoorT22
import Derived.Test.YtlnhaajjoplafaaGreatDoorT34
import Derived.Test.YtlnhaajjoplafaaGreatDoorT5
import Derived.Test.YtlnhaajjoplafaaGreatDoorT21
import Derived.Test.YtlnhaajjoplafaaGreatDoorT4
import Derived.Test.YtlnhaajjoplafaaGreatDoorT23
import Derived.Test.YtlnhaajjoplafaaGreatDoorT9
set_option linter.unusedVariables false
set_option maxHeartbeats 12000000
namespace Go.Proofs.YtlnhaajjoplafaaGreatDoor
open Go.RowKit
set_option maxRecDepth 100000
structure EvEnv where
 w0:World
 es:List En
 ps:Option Addr
 cs:Nat
 q:Rq
 pq:Option Addr
 cq:Nat
 e:List Nd
 p:Option Addr
 c:Nat
structure EvEnv.Ok (E:EvEnv):Prop where
 el:EL E.w0 E.ps E.es
 nq:NL E.w0 E.pq E.q.cx
 ne:NL E.w0 E.p E.e
 env:EnvOk E.es E.q
 xf:xfault E.e=0
 n64:N64 E.e
 er:ErrVar E.w0
 cqm:E.q.cx.length≤E.cq∧E.cq≤maxLen
theorem EvEnv.Ok.len {E:EvEnv}(h:E.Ok):E.e.length≤200:=(xfault_zero h.xf).1
structure AS (E:EvEnv)(w:World)(B k:Nat):Prop where
 blk:w.heap[B]? =some (.cells #[.slice E.ps E.es.length E.cs,.string E.q.who.t,.string E.q.who.i,.string E.q.act.t,.string E.q.act.i,.string E.q.what.t,.string E.q.what.i,.slice E.pq E.q.cx.length E.cq,.slice E.p E.e.length E.c,.int .i64 (k:Int)] 75 (0,0))
 bel:Below E.w0.heap.size E.w0 w
 ge:E.w0.heap.size≤B
 le:k≤E.e.length
section
variable {E:EvEnv} {w w':World} {B k:Nat}
theorem AS.lt (h:AS E w B k):B<w.heap.size:=(Array.getElem?_eq_some_iff.1 h.blk).1
theorem AS.c0 (h:AS E w B k):w.cell? ⟨B,0,none⟩=some (.slice E.ps E.es.length E.cs):=by simp[World.cell?, h.blk]
theorem AS.c1 (h:AS E w B k):w.cell? ⟨B,1,none⟩=some (.string E.q.who.t):=by simp[World.cell?, h.blk]
theorem AS.c2 (h:AS E w B k):w.cell? ⟨B,2,none⟩=some (.string E.q.who.i):=by simp[World.cell?, h.blk]
theorem AS.c3 (h:AS E w B k):w.cell? ⟨B,3,none⟩=some (.string E.q.act.t):=by simp[World.cell?, h.blk]
theorem AS.c4 (h:AS E w B k):w.cell? ⟨B,4,none⟩=some (.string E.q.act.i):=by simp[World.cell?, h.blk]
theorem AS.c5 (h:AS E w B k):w.cell? ⟨B,5,none⟩=some (.string E.q.what.t):=by simp[World.cell?, h.blk]
theorem AS.c6 (h:AS E w B k):w.cell? ⟨B,6,none⟩=some (.string E.q.what.i):=by simp[World.cell?, h.blk]
theorem AS.c7 (h:AS E w B k):w.cell? ⟨B,7,none⟩=some (.slice E.pq E.q.cx.length E.cq):=by simp[World.cell?, h.blk]
theorem AS.c8 (h:AS E w B k):w.cell? ⟨B,8,none⟩=some (.slice E.p E.e.length E.c):=by simp[World.cell?, h.blk]
theorem AS.c9 (h:AS E w B k):w.cell? ⟨B,9,none⟩=some (.int .i64 (k:Int)):=by simp[World.cell?, h.blk]
theorem AS.fz (h:AS E w B k)(i:Nat):w.frozen? ⟨B,i,none⟩=false:=by simp[World.frozen?, h.blk]
theorem AS.up (h:AS E w B k)(hb:Below w.heap.size w w'):AS E w' B k:=⟨(hb.block B h.lt).trans h.blk,h.bel.trans (hb.mono h.bel.size),h.ge,h.le⟩
theorem AS.setAt (h:AS E w B k){j:Nat}(hj:j≤E.e.length):AS E (w.setCell ⟨B,9,none⟩ (.int .i64 (j:Int))) B j:=
 ⟨heap_setCell_same w B 9 _ _ _ h.blk,h.bel.setCell h.ge _,h.ge,hj⟩
theorem AS.el (h:AS E w B k)(ho:E.Ok):EL w E.ps E.es:=ho.el.up h.bel
theorem AS.nq (h:AS E w B k)(ho:E.Ok):NL w E.pq E.q.cx:=ho.nq.up h.bel
theorem AS.ne (h:AS E w B k)(ho:E.Ok):NL w E.p E.e:=ho.ne.up h.bel
theorem AS.er (h:AS E w B k)(ho:E.Ok):ErrVar w:=errVar_below ho.er h.bel (Nat.le_refl _)
end
structure BX (B:Nat)(w w':World):Prop where
 os:w'.os=w.os
 tape:w'.tape=w.tape
 output:w'.output=w.output
 size:w.heap.size≤w'.heap.size
 block:∀k,k<w.heap.size→k≠B→w'.heap[k]? =w.heap[k]?
theorem BX.refl (B:Nat)(w:World):BX B w w:=⟨rfl,rfl,rfl,Nat.le_refl _,fun _ _ _=>rfl⟩
theorem BX.trans {B:Nat}{a b c:World}(h:BX B a b)(k:BX B b c):BX B a c:=
 ⟨k.os.trans h.os,k.tape.trans h.tape,k.output.trans h.output,Nat.le_trans h.size k.size,fun i hi hn=>(k.block i (Nat.lt_of_lt_of_le hi h.size) hn).trans (h.block i hi hn)⟩
theorem BX.of_below {B:Nat}{w w':World}(h:Below w.heap.size w w'):BX B w w':=⟨h.os,h.tape,h.output,h.size,fun i hi _=>h.block i hi⟩
theorem BX.up {B:Nat}{a w w':World}(h:BX B a w)(k:Below w.heap.size w w'):BX B a w':=h.trans (BX.of_below k)
theorem BX.set {B:Nat}{a w:World}(h:BX B a w)(i:Nat)(v:Value):BX B a (w.setCell ⟨B,i,none⟩ v):=
 h.trans ⟨rfl,rfl,rfl,by simp,fun k _ hn=>Below.heap_setCell w ⟨B,i,none⟩ v k hn⟩
theorem BX.below {B N:Nat}{w w':World}(h:BX B w w')(hN:N≤B)(hB:B<w.heap.size):Below N w w':=
 ⟨h.os,h.tape,h.output,h.size,fun k hk=>h.block k (by omega) (by omega)⟩
theorem BX.cell {B:Nat}{w w':World}(h:BX B w w'){p:Addr}(hp:p.block<w.heap.size)(hn:p.block≠B):w'.cell? p=w.cell? p:=by
 unfold World.cell?; rw[h.block p.block hp hn]
theorem AS.apart {E:EvEnv}{w:World}{B k:Nat}(h:AS E w B k){q:Option Addr}{a:List Nd}(hn:NL w q a)(hne:a≠[]):∀d,q=some d→d.block≠B:=by
 rintro d rfl e
 rcases hn with hn | ⟨b,off,h1,h2,h3⟩
 · exact hne hn
 · cases h1
   obtain⟨x,r,rfl⟩:=List.exists_cons_of_ne_nil hne
   obtain⟨d0,d1,_⟩:=h3 0 x rfl
   have eb:b=B:=e
   subst eb
   simp only[World.cell?, h.blk]at d0 d1
   match off,d0,d1 with
   | 0,d0,_=>simp at d0
   | 1,d0,_=>simp at d0
   | 2,d0,_=>simp at d0
   | 3,d0,_=>simp at d0
   | 4,d0,_=>simp at d0
   | 5,d0,_=>simp at d0
   | 6,d0,_=>simp at d0
   | 7,d0,_=>simp at d0
   | 8,d0,_=>simp at d0
   | 9,_,d1=>simp at d1
   | n+10,d0,_=>simp at d0
theorem NL.bx {B:Nat}{w w':World}{q:Option Addr}{a:List Nd}(h:NL w q a)(hn:∀d,q=some d→d.block≠B)(k:BX B w w'):NL w' q a:=by
 rcases h with h | ⟨b,off,h1,h2,h3⟩
 · exact .inl h
 · refine .inr ⟨b,off,h1,Nat.lt_of_lt_of_le h2 k.size,fun i x hx=>?_⟩
   have q:∀o,w'.cell? ⟨b,o,none⟩=w.cell? ⟨b,o,none⟩:=fun o=>k.cell (p:=⟨b,o,none⟩) h2 (hn ⟨b,off,none⟩ h1)
   simp only[q]
   exact h3 i x hx
theorem VArg.bx {E:EvEnv}{w w':World}{B k:Nat}{a:List Nd}{n:Nat}{q:Option Addr}{c:Nat}(h:VArg w a n q c)(hs:AS E w B k)(hx:BX B w w'):VArg w' a n q c:=
 ⟨h.len,h.nl.bx (hs.apart h.nl h.is.ne) hx,h.le,h.cm,h.is⟩
section
variable {E:EvEnv} (w:World) (B k:Nat) (a:List Nd) (n:Nat) (q:Option Addr) (c:Nat)
theorem record_self (hs:AS E w B k)(h:VArg w a n q c)(h6:opV a=6):
 Calls Tryz.prog 95 #[.pointer (some ⟨B,0,none⟩),.slice q n c] w fun e w'=>e= .returned (.tuple #[.slice q n c,.nilIface])∧w'=w:=by
 obtain⟨x,r,b,off,rfl,rfl,hb,c0,c1,c2,c3,_,h1⟩:=h.head
 have hx:x.op=6:=h6
 have e1:(x.op == 6)=true:=by simpa using hx
 have i1:(0:Int)<(n:Int):=by omega
 clear h6 hx h
 go_enter Tryz.func95,Tryz.ntmps95
 go_wp2
 go_ret2
 exact⟨rfl,rfl⟩
theorem record_found (ho:E.Ok)(hs:AS E w B k)(h:VArg w a n q c)(h4:opV a=4)(x:En)(hx:x∈E.es)(hu:x.u=uidV a):
 Calls Tryz.prog 95 #[.pointer (some ⟨B,0,none⟩),.slice q n c] w fun e w'=>(∃q' c',e= .returned (.tuple #[.slice q' x.nd.length c',.nilIface])∧VArg w' x.nd x.nd.length q' c')∧Below w.heap.size w w':=by
 have HU2:=fun w1 (hb:Below w.heap.size w w1)=>uidOf_ok w1 a n q c (h.up hb) h4
 have hv:=ho.env.ent hx
 have ha0:=hs.c0
 have hg:=(stf_zero ho.env.st).uids x hx
 have HA:=fun w1 (hb:Below w.heap.size w w1)=>attrs_full E.es E.ps E.cs x w1 ((hs.up hb).el ho) hx (uf_ok hg) ho.env.st
 rw[←hu]at HU2
 obtain⟨y,r,b,off,rfl,rfl,hb,c0,c1,c2,c3,_,h1⟩:=h.head
 have hy:y.op=4:=h4
 have e1:(y.op == 6)=false:=by simp[hy]
 have i1:(0:Int)<(n:Int):=by omega
 clear h4 hy h hu
 go_enter Tryz.func95,Tryz.ntmps95
 have hw1:Below w.heap.size w w.drew:=(Below.refl _ _).drew
 have ha1:=(hs.up hw1).c0
 go_wp2_with fail
 go_region_with (first
  | (go_at_call 99;refine(HU2 _ hw1).mono ?_;rintro e w1 ⟨rfl,hb1⟩;have ha2:=((hs.up hw1).up hb1).c0)
  | (go_at_call 128;refine(HA w1 (qbt hw1 hb1)).mono ?_;rintro e w2 ⟨⟨q2,c2,rfl,hn2,hl2,hm2⟩,hb2⟩))
 all_goals
  go_wp2
  go_ret2
  exact⟨⟨q2,c2,rfl,rfl,hn2,hl2,hm2,hv.1⟩,qbt (qbt hw1 hb1) hb2⟩
theorem record_lost (ho:E.Ok)(hs:AS E w B k)(h:VArg w a n q c)(h4:opV a=4)(hx:∀e∈E.es,e.u≠uidV a):
 Calls Tryz.prog 95 #[.pointer (some ⟨B,0,none⟩),.slice q n c] w fun e w'=>e= .returned (.tuple #[.slice none 0 0,.iface 70 (.int .i64 8)])∧Below w.heap.size w w':=by
 have HU2:=fun w1 (hb:Below w.heap.size w w1)=>uidOf_ok w1 a n q c (h.up hb) h4
 have ha0:=hs.c0
 have hok:UOk (uidV a):=by
  obtain⟨y,r,b,off,rfl,rfl,hb,c0,c1,c2,c3,hwf,h1⟩:=h.head
  exact⟨hwf.1,hwf.2.1⟩
 have HA:=fun w1 (hb:Below w.heap.size w w1)=>attrs_lost E.es E.ps E.cs (uidV a) w1 ((hs.up hb).el ho) hx hok ho.env.st
 rw[eV_not (by decide)]at HA
 generalize uidV a=u at *
 obtain⟨y,r,b,off,rfl,rfl,hb,c0,c1,c2,c3,_,h1⟩:=h.head
 have hy:y.op=4:=h4
 have e1:(y.op == 6)=false:=by simp[hy]
 have i1:(0:Int)<(n:Int):=by omega
 clear h4 hy h hx hok
 go_enter Tryz.func95,Tryz.ntmps95
 have hw1:Below w.heap.size w w.drew:=(Below.refl _ _).drew
 have ha1:=(hs.up hw1).c0
 go_wp2_with fail
 go_region_with (first
  | (go_at_call 99;refine(HU2 _ hw1).mono ?_;rintro e w1 ⟨rfl,hb1⟩;have ha2:=((hs.up hw1).up hb1).c0)
  | (go_at_call 128;refine(HA w1 (qbt hw1 hb1)).mono ?_;rintro e w2 ⟨rfl,hb2⟩))
 all_goals
  go_wp2
  go_ret2
  exact⟨rfl,qbt (qbt hw1 hb1) hb2⟩
theorem record_bad (hs:AS E w B k)(h:VArg w a n q c)(h6:opV a≠6)(h4:opV a≠4):
 Calls Tryz.prog 95 #[.pointer (some ⟨B,0,none⟩),.slice q n c] w fun e w'=>e= .panicked (thrownE 2)∧Below w.heap.size w w':=by
 have HU2:=fun w1 (hb:Below w.heap.size w w1)=>uidOf_bad w1 a n q c (h.up hb) h4
 have ha0:=hs.c0
 obtain⟨y,r,b,off,rfl,rfl,hb,c0,c1,c2,c3,_,h1⟩:=h.head
 have hy:y.op≠6:=h6
 have e1:(y.op == 6)=false:=by simpa using hy
 have i1:(0:Int)<(n:Int):=by omega
 clear h4 h6 hy h
 have hw1:Below w.heap.size w w.drew:=(Below.refl _ _).drew
 have ha1:w.drew.cell? ⟨B,0,none⟩=some (.slice E.ps E.es.length E.cs):=ha0
 go_enter Tryz.func95,Tryz.ntmps95
 go_wp2_with fail
 refine wp_mono (Q:=fun e a w'=>e= .panic (thrownE 2)∧a.defers=[]∧Below w.heap.size w w') ?_ ?_
 rotate_left
 · rintro _ a w5 ⟨rfl,hd,hb5⟩
   go_wp2
   exact⟨hd,rfl,hb5⟩
 refine wp_region_any (by kernel_rfl) ?_
 refine wpAny_take (i:=0) (v:=?_) rfl (by kernel_rfl) (by kernel_rfl) (by kernel_rfl) (fun _ _ _ h=>h) (Or.inl ⟨by rfl,?_⟩) ?_
 rotate_left
 · intro w;go_simp;with_reducible rfl
 refine wpAny_take (i:=1) (v:=?_) rfl (by kernel_rfl) (by kernel_rfl) (by kernel_rfl) (fun _ _ _ h=>h) (Or.inl ⟨by rfl,?_⟩) ?_
 rotate_left
 · intro w;go_simp;with_reducible rfl
 refine wpAny_take (i:=2) (v:=?_) rfl (by kernel_rfl) (by kernel_rfl) (by kernel_rfl) (fun _ _ _ h=>h) (Or.inl ⟨by rfl,?_⟩) ?_
 rotate_left
 · intro w;go_simp;with_reducible rfl
 refine wpAny_take (i:=4) (v:=?_) rfl (by kernel_rfl) (by kernel_rfl) (by kernel_rfl) (fun _ _ _ h=>h) (Or.inl ⟨by rfl,?_⟩) ?_
 rotate_left
 · intro w;go_simp;with_reducible rfl
 refine wpAny_ready (rs:=[3,5]) (by kernel_rfl) (by simp) ?_
 have HU3:=HU2 w.drew hw1
 refine AllReady.cons rfl (fun K hK=>?_) ?_
 · go_simp
   refine hK _ _ ?_
   clear hK K
   refine wpAny_ready (rs:=[5]) (by kernel_rfl) (by simp) ?_
   refine AllReady.cons rfl (fun K hK=>?_) AllReady.nil
   go_simp
   refine HU3.mono ?_
   rintro e w5 ⟨rfl,hb5⟩
   exact⟨rfl,qbt hw1 hb5⟩
 · refine AllReady.cons rfl (fun K hK=>?_) AllReady.nil
   go_simp
   refine HU3.mono ?_
   rintro e w5 ⟨rfl,hb5⟩
   exact⟨rfl,qbt hw1 hb5⟩
end
theorem as_nil (t:Addr)(w:World):Calls Tryz.prog 165 #[.nilIface,.iface 201 (.pointer (some t))] w fun e w'=>e= .returned (.bool false)∧w'=w:=by
 go_enter Tryz.func165,Tryz.ntmps165
 go_wp2
 go_ret
 exact⟨rfl,rfl⟩
theorem found_ok (q:Option Addr)(n c:Nat)(w:World):Calls Tryz.prog 126 #[.slice q n c,.nilIface] w fun e w'=>e= .returned (.tuple #[.slice q n c,.bool true])∧Below w.heap.size w w':=by
 have hb0:Below w.heap.size w (w.alloc (.cells #[.int .i64 0] 70)):=(Below.refl _ _).alloc (Nat.le_refl _) _
 go_enter Tryz.func126,Tryz.ntmps126
 go_wp2_with fail
 refine(as_nil ⟨w.heap.size,0,none⟩ _).mono ?_
 rintro e w1 ⟨rfl,rfl⟩
 go_wp2_with fail
 refine(sureN_ok _ q n c).mono ?_
 rintro e w2 ⟨rfl,rfl⟩
 go_wp2
 go_ret2
 exact⟨rfl,hb0⟩
theorem found_not (q:Option Addr)(n c:Nat)(k:Int)(hk:k=8∨k=3)(w:World)(hg:ErrVar w):Calls Tryz.prog 126 #[.slice q n c,.iface 70 (.int .i64 k)] w fun e w'=>e= .returned (.tuple #[.slice q n c,.bool false])∧Below w.heap.size w w':=by
 have Hg:Hid (ErrVar _):=errVar_alloc hg (.cells #[.int .i64 0] 70)
 have c0:(w.alloc (.cells #[.int .i64 0] 70)).cell? ⟨w.heap.size,0,none⟩=some (.int .i64 0):=by simp
 have f0:(w.alloc (.cells #[.int .i64 0] 70)).frozen? ⟨w.heap.size,0,none⟩=false:=by simp
 clear hg
 rcases hk with rfl | rfl
 · go_enter Tryz.func126,Tryz.ntmps126
   go_wp2_with fail
   refine(as_hit 8 ⟨w.heap.size,0,none⟩ (.int .i64 0) _ Hg.out c0 f0).mono ?_
   rintro e w' ⟨rfl,rfl⟩
   go_wp2
   go_ret2
   refine⟨rfl,?_⟩
   repeat (first | exact Below.refl _ _ | refine Below.setCell ?_ (by simp) _ | refine Below.alloc ?_ (by simp<;>omega) _)
 · go_enter Tryz.func126,Tryz.ntmps126
   go_wp2_with fail
   refine(as_hit 3 ⟨w.heap.size,0,none⟩ (.int .i64 0) _ Hg.out c0 f0).mono ?_
   rintro e w' ⟨rfl,rfl⟩
   go_wp2
   go_ret2
   refine⟨rfl,?_⟩
   repeat (first | exact Below.refl _ _ | refine Below.setCell ?_ (by simp) _ | refine Below.alloc ?_ (by simp<;>omega) _)
theorem get_field (r:List Nd)(n:Nat)(q:Option Addr)(c:Nat)(s:ByteArray)(w:World)(h:VArg w r n q c)(h6:opV r=6):
 Calls Tryz.prog 94 #[.slice q n c,.string s] w fun e w'=>(match fldV r s with | some u=>∃q' c',e= .returned (.tuple #[.slice q' u.length c',.nilIface])∧VArg w' u u.length q' c' | none=>∃q' c',e= .returned (.tuple #[.slice q' 0 c',.iface 70 (.int .i64 3)]))∧Below w.heap.size w w':=by
 have hi:=h.is
 have hl:=h.len
 have hn:=h.nl
 have hc:=h.le
 have hcm:=h.cm
 obtain⟨x,r',b,off,rfl,rfl,hb,_⟩:=h.head
 subst hl
 obtain⟨ss,hss,e⟩:=fldV_spec hi.val h6 s
 have HF:∀u,fldV (x::r') s=some u→IsV u:=fun u hu=>fldV_is hi h6 hu
 rw[e]at HF ⊢
 refine(get_ok _ x r' ss hss b off c s w hn hc hcm hi.val h6).mono ?_
 rintro en w' ⟨⟨q',c',rfl,h1,h2,h3⟩,hb'⟩
 refine⟨?_,hb'⟩
 cases hf:findS s ss with
 | none=>
   rw[hf]at h1 h2
   exact⟨q',c',rfl⟩
 | some u=>
   rw[hf]at h1 h2
   exact⟨q',c',rfl,rfl,h1,h2,h3,HF u hf⟩
def BoolEnd (R:Except Int Bool)(e:Ending)(w':World):Prop:=match R with | .ok b=>e= .returned (.bool b) | .error n=>e= .panicked (thrownE n)
def RecEnd (R:Except Int (List Nd))(e:Ending)(w':World):Prop:=
 match R with
 | .ok r=>∃q c,e= .returned (.tuple #[.slice q r.length c,.nilIface])∧VArg w' r r.length q c∧opV r=6
 | .error n=>(n=8∧e= .returned (.tuple #[.slice none 0 0,.iface 70 (.int .i64 8)]))∨(n=2∧e= .panicked (thrownE 2))
section
variable {E:EvEnv} (w:World) (B k:Nat) (a:List Nd) (n:Nat) (q:Option Addr) (c:Nat)
theorem record_any (ho:E.Ok)(hs:AS E w B k)(h:VArg w a n q c):
 Calls Tryz.prog 95 #[.pointer (some ⟨B,0,none⟩),.slice q n c] w fun e w'=>RecEnd (attE E.es a) e w'∧Below w.heap.size w w':=by
 unfold attE
 by_cases h6:opV a=6
 · rw[if_pos h6]
   refine(record_self w B k a n q c hs h h6).mono ?_
   rintro e w' ⟨rfl,rfl⟩
   have hl:=h.len
   subst hl
   exact⟨⟨q,c,rfl,h,h6⟩,Below.refl _ _⟩
 · rw[if_neg h6]
   by_cases h4:opV a=4
   · rw[if_pos h4]
     cases hf:E.es.find? (fun e=>decide (e.u=uidV a))with
     | none=>
       refine(record_lost w B k a n q c ho hs h h4 (fun e he hu=>?_)).mono ?_
       · have:=List.find?_eq_none.1 hf e he
         exact this (by simpa using hu)
       · rintro e w' ⟨rfl,hb⟩
         exact⟨.inl ⟨rfl,rfl⟩,hb⟩
     | some x=>
       have hx:=List.mem_of_find?_eq_some hf
       have hu:x.u=uidV a:=by simpa using List.find?_some hf
       refine(record_found w B k a n q c ho hs h h4 x hx hu).mono ?_
       rintro e w' ⟨⟨q',c',rfl,hv⟩,hb⟩
       exact⟨⟨q',c',rfl,hv,(ho.env.ent hx).2⟩,hb⟩
   · rw[if_neg h4]
     refine(record_bad w B k a n q c hs h h6 h4).mono ?_
     rintro e w' ⟨rfl,hb⟩
     exact⟨.inr ⟨rfl,rfl⟩,hb⟩
noncomputable def hasB (es:List En) (v:List Nd) (s:ByteArray):Except Int Bool:=
 match attE es v with
 | .ok r=>.ok (fldV r s).isSome
 | .error n=>if n=8 then .ok false else .error n
theorem ehas_any (ho:E.Ok)(hs:AS E w B k)(h:VArg w a n q c)(s:ByteArray):
 Calls Tryz.prog 93 #[.pointer (some ⟨B,0,none⟩),.slice q n c,.string s] w fun e w'=>BoolEnd (hasB E.es a s) e w'∧Below w.heap.size w w':=by
 have HR:=record_any w B k a n q c ho hs h
 have HG:=fun w1 (hb:Below w.heap.size w w1)=>(hs.up hb).er ho
 have HB:Hid (hasB E.es a s=match attE E.es a with | .ok r=>.ok (fldV r s).isSome | .error n=>if n=8 then .ok false else .error n):=rfl
 rw[HB.out]
 clear HB
 cases hR:attE E.es a with
 | error m=>
   rw[hR]at HR
   simp only
   go_enter Tryz.func93,Tryz.ntmps93
   go_wp2_with fail
   refine HR.mono ?_
   rintro e w1 ⟨⟨rfl,rfl⟩ | ⟨rfl,rfl⟩,hb1⟩
   · go_wp2_with fail
     refine(found_not none 0 0 8 (.inl rfl) w1 (HG w1 hb1)).mono ?_
     rintro e w2 ⟨rfl,hb2⟩
     go_wp2
     go_ret
     exact⟨rfl,qbt hb1 hb2⟩
   · exact⟨rfl,rfl,hb1⟩
 | ok r=>
   rw[hR]at HR
   simp only
   go_enter Tryz.func93,Tryz.ntmps93
   go_wp2_with fail
   refine HR.mono ?_
   rintro e w1 ⟨⟨q1,c1,rfl,hv1,h6⟩,hb1⟩
   go_wp2_with fail
   refine(found_ok q1 _ c1 w1).mono ?_
   rintro e w2 ⟨rfl,hb2'⟩
   have hb2:=qbt hb1 hb2'
   have HF:=get_field r _ q1 c1 s w2 (hv1.up hb2') h6
   cases hf:fldV r s with
   | some u=>
     rw[hf]at HF
     simp only at HF
     go_wp2_with fail
     refine HF.mono ?_
     rintro e w3 ⟨⟨q3,c3,rfl,_⟩,hb3'⟩
     have hb3:=qbt hb2 hb3'
     go_wp2_with fail
     refine(found_ok q3 _ c3 w3).mono ?_
     rintro e w4 ⟨rfl,hb4⟩
     go_wp2
     go_ret
     exact⟨by rw[hf];rfl,qbt hb3 hb4⟩
   | none=>
     rw[hf]at HF
     simp only at HF
     go_wp2_with fail
     refine HF.mono ?_
     rintro e w3 ⟨⟨q3,c3,rfl⟩,hb3'⟩
     have hb3:=qbt hb2 hb3'
     go_wp2_with fail
     refine(found_not q3 0 c3 3 (.inr rfl) w3 (HG w3 hb3)).mono ?_
     rintro e w4 ⟨rfl,hb4⟩
     go_wp2
     go_ret
     exact⟨by rw[hf];rfl,qbt hb3 hb4⟩
end
def VEndE (R:Except Int (List Nd))(e:Ending)(w':World):Prop:=match R with | .ok v=>VRet v v.length e w' | .error n=>e= .panicked (thrownE n)
theorem IsV.fit {a:List Nd}(h:IsV a)(h2:opV a=2):Fit (nV a):=by
 obtain⟨x,r,rfl,_⟩:=value_head h.val
 exact h.num x List.mem_cons_self h2
theorem isSetV_op (v:List Nd):isSetV v=true↔opV v=5:=by
 cases v with
 | nil=>simp[isSetV,opV]
 | cons x r=>simp[isSetV,opV]
section
variable {E:EvEnv} (w:World) (B k:Nat) (a b:List Nd) (n m:Nat) (p q:Option Addr) (c d:Nat)
theorem two_eq (ho:E.Ok)(hs:AS E w B k)(h:VArg w a n p c)(g:VArg w b m q d):
 Calls Tryz.prog 61 #[.pointer (some ⟨B,0,none⟩),.int .i64 14,.slice p n c,.slice q m d] w fun e w'=>VEndE (.ok (tN (decide (lsC a b=0)))) e w'∧Below w.heap.size w w':=by
 have HQ:=equalNodes_any a b p q c d w h.nl g.nl (by rw[h.len];exact Nat.le_trans h.le h.cm) (by rw[g.len];exact Nat.le_trans g.le g.cm)
 rw[h.len,g.len]at HQ
 have HS:Hid (sameNd a b=decide (lsC a b=0)):=by
  show _=_
  rw[Bool.eq_iff_iff,sameNd_iff,decide_eq_true_iff]
  exact(lsC_is.zero a b).symm
 rw[HS.out]at HQ
 clear HS
 generalize decide (lsC a b=0)=t at *
 go_enter Tryz.func61,Tryz.ntmps61
 go_wp2_with fail
 refine HQ.mono ?_
 rintro e w1 ⟨rfl,nq,rfl⟩
 have hb1:Below w.heap.size w (w.drewN nq):=qbn (Below.refl _ _) _
 generalize w.drewN nq=w1 at *
 go_wp2_with fail
 refine(truth_any w1 t).mono ?_
 rintro e w9 ⟨⟨q9,c9,rfl,hv9⟩,hb9⟩
 go_wp2
 go_ret
 exact⟨⟨q9,c9,rfl,hv9⟩,qbt hb1 hb9⟩
theorem two_lt (ho:E.Ok)(hs:AS E w B k)(h:VArg w a n p c)(g:VArg w b m q d)(h2:opV a=2)(g2:opV b=2):
 Calls Tryz.prog 61 #[.pointer (some ⟨B,0,none⟩),.int .i64 15,.slice p n c,.slice q m d] w fun e w'=>VEndE (.ok (tN (decide (nV a<nV b)))) e w'∧Below w.heap.size w w':=by
 have HX:=numberOf_ok w a n p c h h2
 have HY:=fun w1 (hb:Below w.heap.size w w1)=>numberOf_ok w1 b m q d (g.up hb) g2
 generalize nV a=x at *
 generalize nV b=y at *
 go_enter Tryz.func61,Tryz.ntmps61
 go_wp2_with fail
 refine HX.mono ?_
 rintro e w1 ⟨rfl,hb1⟩
 go_wp2_with fail
 refine(HY w1 hb1).mono ?_
 rintro e w2 ⟨rfl,hb2⟩
 go_wp2_with fail
 refine(truth_any w2 (decide (x<y))).mono ?_
 rintro e w9 ⟨⟨q9,c9,rfl,hv9⟩,hb9⟩
 go_wp2
 go_ret
 exact⟨⟨q9,c9,rfl,hv9⟩,qbt (qbt hb1 hb2) hb9⟩
theorem two_lt_bad (ho:E.Ok)(hs:AS E w B k)(h:VArg w a n p c)(g:VArg w b m q d)(hx:¬(opV a=2∧opV b=2)):
 Calls Tryz.prog 61 #[.pointer (some ⟨B,0,none⟩),.int .i64 15,.slice p n c,.slice q m d] w fun e w'=>e= .panicked (thrownE 2)∧Below w.heap.size w w':=by
 by_cases h2:opV a=2
 · have g2:opV b≠2:=fun e=>hx ⟨h2,e⟩
   have HX:=numberOf_ok w a n p c h h2
   have HY:=fun w1 (hb:Below w.heap.size w w1)=>numberOf_bad w1 b m q d (g.up hb) g2
   generalize nV a=x at *
   go_enter Tryz.func61,Tryz.ntmps61
   go_wp2_with fail
   refine HX.mono ?_
   rintro e w1 ⟨rfl,hb1⟩
   go_wp2_with fail
   refine(HY w1 hb1).mono ?_
   rintro e w2 ⟨rfl,hb2⟩
   exact⟨rfl,rfl,qbt hb1 hb2⟩
 · have HX:=numberOf_bad w a n p c h h2
   go_enter Tryz.func61,Tryz.ntmps61
   go_wp2_with fail
   refine HX.mono ?_
   rintro e w1 ⟨rfl,hb1⟩
   exact⟨rfl,rfl,hb1⟩
theorem two_le (ho:E.Ok)(hs:AS E w B k)(h:VArg w a n p c)(g:VArg w b m q d)(h2:opV a=2)(g2:opV b=2):
 Calls Tryz.prog 61 #[.pointer (some ⟨B,0,none⟩),.int .i64 16,.slice p n c,.slice q m d] w fun e w'=>VEndE (.ok (tN (decide (nV a≤nV b)))) e w'∧Below w.heap.size w w':=by
 have HX:=numberOf_ok w a n p c h h2
 have HY:=fun w1 (hb:Below w.heap.size w w1)=>numberOf_ok w1 b m q d (g.up hb) g2
 generalize nV a=x at *
 generalize nV b=y at *
 go_enter Tryz.func61,Tryz.ntmps61
 go_wp2_with fail
 refine HX.mono ?_
 rintro e w1 ⟨rfl,hb1⟩
 go_wp2_with fail
 refine(HY w1 hb1).mono ?_
 rintro e w2 ⟨rfl,hb2⟩
 go_wp2_with fail
 refine(truth_any w2 (decide (x≤y))).mono ?_
 rintro e w9 ⟨⟨q9,c9,rfl,hv9⟩,hb9⟩
 go_wp2
 go_ret
 exact⟨⟨q9,c9,rfl,hv9⟩,qbt (qbt hb1 hb2) hb9⟩
theorem two_le_bad (ho:E.Ok)(hs:AS E w B k)(h:VArg w a n p c)(g:VArg w b m q d)(hx:¬(opV a=2∧opV b=2)):
 Calls Tryz.prog 61 #[.pointer (some ⟨B,0,none⟩),.int .i64 16,.slice p n c,.slice q m d] w fun e w'=>e= .panicked (thrownE 2)∧Below w.heap.size w w':=by
 by_cases h2:opV a=2
 · have g2:opV b≠2:=fun e=>hx ⟨h2,e⟩
   have HX:=numberOf_ok w a n p c h h2
   have HY:=fun w1 (hb:Below w.heap.size w w1)=>numberOf_bad w1 b m q d (g.up hb) g2
   generalize nV a=x at *
   go_enter Tryz.func61,Tryz.ntmps61
   go_wp2_with fail
   refine HX.mono ?_
   rintro e w1 ⟨rfl,hb1⟩
   go_wp2_with fail
   refine(HY w1 hb1).mono ?_
   rintro e w2 ⟨rfl,hb2⟩
   exact⟨rfl,rfl,qbt hb1 hb2⟩
 · have HX:=numberOf_bad w a n p c h h2
   go_enter Tryz.func61,Tryz.ntmps61
   go_wp2_with fail
   refine HX.mono ?_
   rintro e w1 ⟨rfl,hb1⟩
   exact⟨rfl,rfl,hb1⟩
theorem two_num (op:Int)(ho:E.Ok)(hs:AS E w B k)(h:VArg w a n p c)(g:VArg w b m q d)(h17:op=17∨op=18∨op=19)(h2:opV a=2)(g2:opV b=2)(hf:nmf op (nV a) (nV b)=0):
 Calls Tryz.prog 61 #[.pointer (some ⟨B,0,none⟩),.int .i64 op,.slice p n c,.slice q m d] w fun e w'=>VEndE (.ok (mN (nx op (nV a) (nV b)))) e w'∧Below w.heap.size w w':=by
 have HX:=numberOf_ok w a n p c h h2
 have HY:=fun w1 (hb:Below w.heap.size w w1)=>numberOf_ok w1 b m q d (g.up hb) g2
 have HD:=fun w1=>do_good op (nV a) (nV b) w1 (h.is.fit h2) (g.is.fit g2) hf
 rw[nv_ok hf]at HD
 have HN:=nmf_fit hf
 generalize nx op (nV a) (nV b)=z at *
 generalize nV a=x at *
 generalize nV b=y at *
 have k14:(op == 14)=false:=by simp;omega
 have k15:(op == 15)=false:=by simp;omega
 have k16:(op == 16)=false:=by simp;omega
 have k20:(op == 20)=false:=by simp;omega
 have k25:(op == 25)=false:=by simp;omega
 have k26:(op == 26)=false:=by simp;omega
 have k27:(op == 27)=false:=by simp;omega
 clear h17 hf
 go_enter Tryz.func61,Tryz.ntmps61
 go_wp2_with fail
 refine HX.mono ?_
 rintro e w1 ⟨rfl,hb1⟩
 go_wp2_with fail
 refine(HY w1 hb1).mono ?_
 rintro e w2 ⟨rfl,hb2⟩
 go_wp2_with fail
 refine(HD w2).mono ?_
 rintro e w3 ⟨rfl,rfl⟩
 go_wp2_with fail
 refine(sureI_ok _ z).mono ?_
 rintro e w4 ⟨rfl,rfl⟩
 go_wp2_with fail
 refine(number_any _ z HN).mono ?_
 rintro e w9 ⟨⟨q9,c9,rfl,hv9⟩,hb9⟩
 go_wp2
 go_ret
 exact⟨⟨q9,c9,rfl,hv9⟩,qbt (qbt hb1 hb2) hb9⟩
theorem two_num_over (op:Int)(ho:E.Ok)(hs:AS E w B k)(h:VArg w a n p c)(g:VArg w b m q d)(h17:op=17∨op=18∨op=19)(h2:opV a=2)(g2:opV b=2)(hf:nmf op (nV a) (nV b)≠0):
 Calls Tryz.prog 61 #[.pointer (some ⟨B,0,none⟩),.int .i64 op,.slice p n c,.slice q m d] w fun e w'=>e= .panicked (thrownE (nmf op (nV a) (nV b)))∧Below w.heap.size w w':=by
 have HX:=numberOf_ok w a n p c h h2
 have HY:=fun w1 (hb:Below w.heap.size w w1)=>numberOf_ok w1 b m q d (g.up hb) g2
 have HD:=fun w1=>do_bad op (nV a) (nV b) w1 (h.is.fit h2) (g.is.fit g2) hf
 generalize nmf op (nV a) (nV b)=z at *
 generalize nV a=x at *
 generalize nV b=y at *
 have k14:(op == 14)=false:=by simp;omega
 have k15:(op == 15)=false:=by simp;omega
 have k16:(op == 16)=false:=by simp;omega
 have k20:(op == 20)=false:=by simp;omega
 have k25:(op == 25)=false:=by simp;omega
 have k26:(op == 26)=false:=by simp;omega
 have k27:(op == 27)=false:=by simp;omega
 clear h17 hf
 go_enter Tryz.func61,Tryz.ntmps61
 go_wp2_with fail
 refine HX.mono ?_
 rintro e w1 ⟨rfl,hb1⟩
 go_wp2_with fail
 refine(HY w1 hb1).mono ?_
 rintro e w2 ⟨rfl,hb2⟩
 go_wp2_with fail
 refine(HD w2).mono ?_
 rintro e w3 ⟨rfl,rfl⟩
 go_wp2_with fail
 refine(sureI_bad _ 0 z).mono ?_
 rintro e w4 ⟨rfl,rfl⟩
 exact⟨rfl,rfl,qbt hb1 hb2⟩
theorem two_num_bad (op:Int)(ho:E.Ok)(hs:AS E w B k)(h:VArg w a n p c)(g:VArg w b m q d)(h17:op=17∨op=18∨op=19)(hx:¬(opV a=2∧opV b=2)):
 Calls Tryz.prog 61 #[.pointer (some ⟨B,0,none⟩),.int .i64 op,.slice p n c,.slice q m d] w fun e w'=>e= .panicked (thrownE 2)∧Below w.heap.size w w':=by
 have k14:(op == 14)=false:=by simp;omega
 have k15:(op == 15)=false:=by simp;omega
 have k16:(op == 16)=false:=by simp;omega
 have k20:(op == 20)=false:=by simp;omega
 have k25:(op == 25)=false:=by simp;omega
 have k26:(op == 26)=false:=by simp;omega
 have k27:(op == 27)=false:=by simp;omega
 clear h17
 by_cases h2:opV a=2
 · have g2:opV b≠2:=fun e=>hx ⟨h2,e⟩
   have HX:=numberOf_ok w a n p c h h2
   have HY:=fun w1 (hb:Below w.heap.size w w1)=>numberOf_bad w1 b m q d (g.up hb) g2
   generalize nV a=x at *
   go_enter Tryz.func61,Tryz.ntmps61
   go_wp2_with fail
   refine HX.mono ?_
   rintro e w1 ⟨rfl,hb1⟩
   go_wp2_with fail
   refine(HY w1 hb1).mono ?_
   rintro e w2 ⟨rfl,hb2⟩
   exact⟨rfl,rfl,qbt hb1 hb2⟩
 · have HX:=numberOf_bad w a n p c h h2
   go_enter Tryz.func61,Tryz.ntmps61
   go_wp2_with fail
   refine HX.mono ?_
   rintro e w1 ⟨rfl,hb1⟩
   exact⟨rfl,rfl,hb1⟩
theorem two_one (ho:E.Ok)(hs:AS E w B k)(h:VArg w a n p c)(g:VArg w b m q d)(h5:opV a=5):
 Calls Tryz.prog 61 #[.pointer (some ⟨B,0,none⟩),.int .i64 25,.slice p n c,.slice q m d] w fun e w'=>VEndE (.ok (tN (inB (setR a) b))) e w'∧Below w.heap.size w w':=by
 have HQ:Calls Tryz.prog 103 #[.slice p n c,.slice q m d] w fun e w'=>e= .returned (.tuple #[.bool (inB (setR a) b),.nilIface])∧Below w.heap.size w w':=by
  obtain⟨hl,el⟩:=setR_spec h.is.val h5
  have h1:=h.len
  have h2:=g.len
  have hn:=h.nl
  have hle:=h.le
  subst h1 h2
  generalize setR a=l at *
  subst el
  exact has_ok l b p q c d w hn hle h.cm g.nl g.le g.cm hl g.is.val
 generalize inB (setR a) b=t at *
 go_enter Tryz.func61,Tryz.ntmps61
 go_wp2_with fail
 refine HQ.mono ?_
 rintro e w1 ⟨rfl,hb1⟩
 go_wp2_with fail
 refine(sureB_ok _ t).mono ?_
 rintro e w2 ⟨rfl,rfl⟩
 go_wp2_with fail
 refine(truth_any w2 t).mono ?_
 rintro e w9 ⟨⟨q9,c9,rfl,hv9⟩,hb9⟩
 go_wp2
 go_ret
 exact⟨⟨q9,c9,rfl,hv9⟩,qbt hb1 hb9⟩
theorem two_one_bad (ho:E.Ok)(hs:AS E w B k)(h:VArg w a n p c)(g:VArg w b m q d)(h5:opV a≠5):
 Calls Tryz.prog 61 #[.pointer (some ⟨B,0,none⟩),.int .i64 25,.slice p n c,.slice q m d] w fun e w'=>e= .panicked (thrownE 2)∧Below w.heap.size w w':=by
 have hh:hfault a b=2:=by unfold hfault cfault;rw[if_pos h.is.val,if_pos g.is.val,if_neg (fun e=>h5 ((isSetV_op a).1 e))]
 have HQ:=has_bad a b p q c d w h.nl (by rw[h.len];exact h.le) h.cm g.nl (by rw[g.len];exact g.le) g.cm (by rw[hh];decide)
 rw[h.len,g.len,hh,eV_not (by decide)]at HQ
 go_enter Tryz.func61,Tryz.ntmps61
 go_wp2_with fail
 refine HQ.mono ?_
 rintro e w1 ⟨rfl,hb1⟩
 go_wp2_with fail
 refine(sureB_bad _ false 2).mono ?_
 rintro e w2 ⟨rfl,rfl⟩
 exact⟨rfl,rfl,hb1⟩
theorem two_all (ho:E.Ok)(hs:AS E w B k)(h:VArg w a n p c)(g:VArg w b m q d)(h5:opV a=5)(g5:opV b=5):
 Calls Tryz.prog 61 #[.pointer (some ⟨B,0,none⟩),.int .i64 26,.slice p n c,.slice q m d] w fun e w'=>VEndE (.ok (tN (allB (setR a) (setR b)))) e w'∧Below w.heap.size w w':=by
 have HQ:Calls Tryz.prog 104 #[.slice p n c,.slice q m d] w fun e w'=>e= .returned (.tuple #[.bool (allB (setR a) (setR b)),.nilIface])∧Below w.heap.size w w':=by
  obtain⟨hl,el⟩:=setR_spec h.is.val h5
  obtain⟨gl,er⟩:=setR_spec g.is.val g5
  have h1:=h.len
  have h2:=g.len
  have hn:=h.nl
  have hle:=h.le
  have gn:=g.nl
  have gle:=g.le
  subst h1 h2
  generalize setR a=l at *
  generalize setR b=r at *
  subst el er
  exact all_ok l r p q c d w hn hle h.cm gn gle g.cm hl gl
 generalize allB (setR a) (setR b)=t at *
 go_enter Tryz.func61,Tryz.ntmps61
 go_wp2_with fail
 refine HQ.mono ?_
 rintro e w1 ⟨rfl,hb1⟩
 go_wp2_with fail
 refine(sureB_ok _ t).mono ?_
 rintro e w2 ⟨rfl,rfl⟩
 go_wp2_with fail
 refine(truth_any w2 t).mono ?_
 rintro e w9 ⟨⟨q9,c9,rfl,hv9⟩,hb9⟩
 go_wp2
 go_ret
 exact⟨⟨q9,c9,rfl,hv9⟩,qbt hb1 hb9⟩
theorem two_all_bad (ho:E.Ok)(hs:AS E w B k)(h:VArg w a n p c)(g:VArg w b m q d)(hx:¬(opV a=5∧opV b=5)):
 Calls Tryz.prog 61 #[.pointer (some ⟨B,0,none⟩),.int .i64 26,.slice p n c,.slice q m d] w fun e w'=>e= .panicked (thrownE 2)∧Below w.heap.size w w':=by
 have hh:sfault a b=2:=by
  unfold sfault
  rw[if_pos h.is.val,if_pos g.is.val,if_neg (fun e=>hx ⟨(isSetV_op a).1 e.1,(isSetV_op b).1 e.2⟩)]
 have HQ:=all_bad a b p q c d w h.nl (by rw[h.len];exact h.le) h.cm g.nl (by rw[g.len];exact g.le) g.cm (by rw[hh];decide)
 rw[h.len,g.len,hh,eV_not (by decide)]at HQ
 go_enter Tryz.func61,Tryz.ntmps61
 go_wp2_with fail
 refine HQ.mono ?_
 rintro e w1 ⟨rfl,hb1⟩
 go_wp2_with fail
 refine(sureB_bad _ false 2).mono ?_
 rintro e w2 ⟨rfl,rfl⟩
 exact⟨rfl,rfl,hb1⟩
theorem two_any (ho:E.Ok)(hs:AS E w B k)(h:VArg w a n p c)(g:VArg w b m q d)(h5:opV a=5)(g5:opV b=5):
 Calls Tryz.prog 61 #[.pointer (some ⟨B,0,none⟩),.int .i64 27,.slice p n c,.slice q m d] w fun e w'=>VEndE (.ok (tN (anyB (setR a) (setR b)))) e w'∧Below w.heap.size w w':=by
 have HQ:Calls Tryz.prog 105 #[.slice p n c,.slice q m d] w fun e w'=>e= .returned (.tuple #[.bool (anyB (setR a) (setR b)),.nilIface])∧Below w.heap.size w w':=by
  obtain⟨hl,el⟩:=setR_spec h.is.val h5
  obtain⟨gl,er⟩:=setR_spec g.is.val g5
  have h1:=h.len
  have h2:=g.len
  have hn:=h.nl
  have hle:=h.le
  have gn:=g.nl
  have gle:=g.le
  subst h1 h2
  generalize setR a=l at *
  generalize setR b=r at *
  subst el er
  exact any_ok l r p q c d w hn hle h.cm gn gle g.cm hl gl
 generalize anyB (setR a) (setR b)=t at *
 go_enter Tryz.func61,Tryz.ntmps61
 go_wp2_with fail
 refine HQ.mono ?_
 rintro e w1 ⟨rfl,hb1⟩
 go_wp2_with fail
 refine(sureB_ok _ t).mono ?_
 rintro e w2 ⟨rfl,rfl⟩
 go_wp2_with fail
 refine(truth_any w2 t).mono ?_
 rintro e w9 ⟨⟨q9,c9,rfl,hv9⟩,hb9⟩
 go_wp2
 go_ret
 exact⟨⟨q9,c9,rfl,hv9⟩,qbt hb1 hb9⟩
theorem two_any_bad (ho:E.Ok)(hs:AS E w B k)(h:VArg w a n p c)(g:VArg w b m q d)(hx:¬(opV a=5∧opV b=5)):
 Calls Tryz.prog 61 #[.pointer (some ⟨B,0,none⟩),.int .i64 27,.slice p n c,.slice q m d] w fun e w'=>e= .panicked (thrownE 2)∧Below w.heap.size w w':=by
 have hh:sfault a b=2:=by
  unfold sfault
  rw[if_pos h.is.val,if_pos g.is.val,if_neg (fun e=>hx ⟨(isSetV_op a).1 e.1,(isSetV_op b).1 e.2⟩)]
 have HQ:=any_bad a b p q c d w h.nl (by rw[h.len];exact h.le) h.cm g.nl (by rw[g.len];exact g.le) g.cm (by rw[hh];decide)
 rw[h.len,g.len,hh,eV_not (by decide)]at HQ
 go_enter Tryz.func61,Tryz.ntmps61
 go_wp2_with fail
 refine HQ.mono ?_
 rintro e w1 ⟨rfl,hb1⟩
 go_wp2_with fail
 refine(sureB_bad _ false 2).mono ?_
 rintro e w2 ⟨rfl,rfl⟩
 exact⟨rfl,rfl,hb1⟩
end
theorem tl_beq {a:ByteArray}{l:List UInt8}(h:a≠⟨l.toArray⟩):(a.toList == l)=false:=by
 rw[beq_eq_false_iff_ne,ByteArray.toList_eq]
 intro e
 exact h (bytes_inj (by simpa using e))
section
variable {E:EvEnv} (w:World) (B k:Nat)
theorem named_any (ho:E.Ok)(hs:AS E w B k)(s:ByteArray):
 Calls Tryz.prog 57 #[.pointer (some ⟨B,0,none⟩),.string s] w fun e w'=>VEndE (varE E.q s) e w'∧Below w.heap.size w w':=by
 obtain⟨u1,u2,u3,_⟩:=askf_zero ho.env.ask
 have c1:=hs.c1
 have c2:=hs.c2
 have c3:=hs.c3
 have c4:=hs.c4
 have c5:=hs.c5
 have c6:=hs.c6
 have c7:=hs.c7
 unfold varE
 by_cases h1:s=wPrin
 · rw[if_pos h1]
   subst h1
   unfold wPrin
   go_enter Tryz.func57,Tryz.ntmps57
   go_wp2_with fail
   refine(entity_any w E.q.who u1).mono ?_
   rintro e w1 ⟨⟨q1,d1,rfl,hv⟩,hb1⟩
   go_wp2
   go_ret
   exact⟨⟨q1,d1,rfl,hv⟩,hb1⟩
 rw[if_neg h1]
 have n1:=tl_beq (l:=[112,114,105,110,99,105,112,97,108]) h1
 by_cases h2:s=wAct
 · rw[if_pos h2]
   subst h2
   unfold wAct at n1 ⊢
   go_enter Tryz.func57,Tryz.ntmps57
   go_wp2_with fail
   refine(entity_any w E.q.act u2).mono ?_
   rintro e w1 ⟨⟨q1,d1,rfl,hv⟩,hb1⟩
   go_wp2
   go_ret
   exact⟨⟨q1,d1,rfl,hv⟩,hb1⟩
 rw[if_neg h2]
 have n2:=tl_beq (l:=[97,99,116,105,111,110]) h2
 by_cases h3:s=wRes
 · rw[if_pos h3]
   subst h3
   unfold wRes at n1 n2 ⊢
   go_enter Tryz.func57,Tryz.ntmps57
   go_wp2_with fail
   refine(entity_any w E.q.what u3).mono ?_
   rintro e w1 ⟨⟨q1,d1,rfl,hv⟩,hb1⟩
   go_wp2
   go_ret
   exact⟨⟨q1,d1,rfl,hv⟩,hb1⟩
 rw[if_neg h3]
 have n3:=tl_beq (l:=[114,101,115,111,117,114,99,101]) h3
 by_cases h4:s=wCtx
 · rw[if_pos h4]
   subst h4
   unfold wCtx at n1 n2 n3 ⊢
   have hcx:=ho.env.ctx.1
   obtain⟨bq,oq,hpq⟩:∃b o,E.pq=some ⟨b,o,none⟩:=by
    rcases ho.nq with h0 | ⟨b,o,h0,_⟩
    · exact absurd h0 hcx.ne
    · exact⟨b,o,h0⟩
   have hnq:=hs.nq ho
   rw[hpq]at hnq c7
   have HC:=cloneN_fn E.q.cx bq oq E.cq w hnq (by have:=hcx.len;omega)
   go_enter Tryz.func57,Tryz.ntmps57
   go_wp2_with fail
   refine HC.mono ?_
   rintro e w1 ⟨⟨q1,d1,rfl,hn1,hl1,hm1⟩,hb1⟩
   go_wp2
   go_ret
   exact⟨⟨q1,d1,rfl,rfl,hn1,hl1,hm1,hcx⟩,hb1⟩
 rw[if_neg h4]
 have n4:=tl_beq (l:=[99,111,110,116,101,120,116]) h4
 go_enter Tryz.func57,Tryz.ntmps57
 go_wp2
 exact⟨rfl,rfl,Below.refl _ _⟩
theorem skip_any (ho:E.Ok)(hs:AS E w B k)(r:List Nd)(f:Nat)(hf:f≤E.e.length+1)(hp:pastE f (E.e.drop k)=some r):
 Calls Tryz.prog 87 #[.pointer (some ⟨B,0,none⟩)] w fun e w'=>e= .returned (.tuple #[])∧AS E w' B (E.e.length-r.length)∧BX B w w':=by
 obtain⟨g,x,m,_,hv,h7,hx,_⟩:=pastE_cons hp
 have hk:k<E.e.length:=by
  have:=congrArg List.length hv
  simp only[List.length_drop,List.length_cons]at this
  omega
 have hxk:E.e[k]=x:=by
  have:=congrArg List.head? hv
  rw[List.head?_drop,List.head?_cons,List.getElem?_eq_getElem hk]at this
  exact Option.some.inj this
 have hp2:=pastE_any hp (g:=E.e.length+1) (by rw[List.length_drop];omega)
 have hl:=ho.len
 have hbd:Below w.heap.size w w.drew:=(Below.refl _ _).drew
 have hsd:=hs.up hbd
 go_enter Tryz.func87,Tryz.ntmps87
 go_wp2_with fail
 have HT:=tend_ok E.e E.p E.c k w.drew (hsd.ne ho) (by unfold maxLen;omega) ho.xf hk (by rw[hxk];exact h7) r hp2
 have c8:=hsd.c8
 have c9:=hsd.c9
 go_region_with (first
  | (go_at_call 124;refine HT.mono ?_;rintro e w1 ⟨rfl,hb1⟩;have hs1:=hsd.up hb1;have d9:=hs1.c9;have f9:=hs1.fz 9)
  | (go_at_call 90;refine(sureI_ok w1 _).mono ?_;rintro e w2 ⟨rfl,hw2⟩;have hw3:=hw2.symm;clear hw2;subst hw3))
 all_goals
  go_wp2
  go_end0
  exact⟨rfl,hs1.setAt (by omega),((BX.of_below hbd).up hb1).set 9 _⟩
end
def VE (E:EvEnv)(B k:Nat)(w:World)(R:Except Int (List Nd))(en:Ending)(w':World):Prop:=
 match R with
 | .ok v=>(∃q c,en= .returned (.slice q v.length c)∧VArg w' v v.length q c)∧AS E w' B k∧BX B w w'
 | .error n=>en= .panicked (thrownE n)∧BX B w w'
def ValOk (E:EvEnv)(B f:Nat):Prop:=∀(w:World) (k:Nat) (r:List Nd),AS E w B k→pastE f (E.e.drop k)=some r→
 Calls Tryz.prog 36 #[.pointer (some ⟨B,0,none⟩)] w (VE E B (E.e.length-r.length) w (evE E.es E.q f (E.e.drop k)))
theorem nd_suffix {e r:List Nd}{f k:Nat}(h:pastE f (e.drop k)=some r):e.drop (e.length-r.length)=r∧r.length<e.length-k:=by
 have h2:=(pastE_shorter h).1
 rw[List.length_drop]at h2
 obtain⟨a,ha,_⟩:=pastE_all f _ _ h
 refine⟨?_,h2⟩
 have hs:e=(e.take k++a)++r:=by rw[List.append_assoc,←ha,List.take_append_drop]
 have hl:=congrArg List.length hs
 rw[List.length_append]at hl
 have e0:e.length-r.length=(e.take k++a).length:=by omega
 rw[e0]
 generalize e.take k++a=m at *
 rw[hs]
 exact List.drop_left ..
theorem val_at {E:EvEnv}{B f:Nat}(hV:ValOk E B f)(w:World)(k:Nat)(m r:List Nd)(k1:Nat)(R:Except Int (List Nd))(hs:AS E w B k)(hm:E.e.drop k=m)(hp:pastE f m=some r)(hk:E.e.length-r.length=k1)(hR:evE E.es E.q f m=R):
 Calls Tryz.prog 36 #[.pointer (some ⟨B,0,none⟩)] w (VE E B k1 w R):=by
 subst hm hk hR
 exact hV w k r hs hp
section
variable {E:EvEnv} {B f:Nat} (ho:E.Ok) (hf:f≤E.e.length+1) (hV:ValOk E B f) (w:World) (k:Nat) (m s r:List Nd)
include ho hf hV
theorem unless_any (en:Bool)(hs:AS E w B k)(hm:E.e.drop k=m)(p1:pastE f m=some s)(p2:pastE f s=some r):
 Calls Tryz.prog 58 #[.pointer (some ⟨B,0,none⟩),.bool en] w (VE E B (E.e.length-r.length) w (lazyE en (evE E.es E.q f m) (evE E.es E.q f s))):=by
 have hm2:E.e.drop (E.e.length-s.length)=s:=(nd_suffix (by rw[hm];exact p1)).1
 have H1:=val_at hV w k m s _ _ hs hm p1 rfl rfl
 have H2:=fun w1 hs1=>val_at hV w1 _ s r _ _ hs1 hm2 p2 rfl rfl
 have HS:=fun w1 (hs1:AS E w1 B (E.e.length-s.length))=>skip_any w1 B _ ho hs1 r f hf (by rw[hm2];exact p2)
 cases hA:evE E.es E.q f m with
 | error n=>
   rw[hA]at H1
   have HE:Hid (lazyE en (.error n) (evE E.es E.q f s)= .error n):=rfl
   rw[HE.out]
   go_enter Tryz.func58,Tryz.ntmps58
   go_wp2_with fail
   refine H1.mono ?_
   rintro e w1 ⟨rfl,hb1⟩
   exact⟨rfl,rfl,hb1⟩
 | ok v=>
   rw[hA]at H1
   by_cases h1:opV v=1
   · have HB:Hid (lazyE en (.ok v) (evE E.es E.q f s)=if (nV v == 1)=en then .ok (tN en)else match boolE (evE E.es E.q f s)with | .error n=>.error n | .ok u=>.ok (tN u)):=by
      show _=_
      have hb:boolE (.ok v)= .ok (nV v == 1):=by unfold boolE;simp only[h1,if_true]
      unfold lazyE
      rw[hb]
      rfl
     rw[HB.out]
     clear HB
     by_cases ht:(nV v == 1)=en
     · rw[if_pos ht]
       go_enter Tryz.func58,Tryz.ntmps58
       go_wp2_with fail
       refine H1.mono ?_
       rintro e w1 ⟨⟨q1,c1,rfl,hv1⟩,hs1,hb1⟩
       have HI:=isTrue_ok w1 v _ q1 c1 hv1 h1
       rw[ht]at HI
       clear H1 ht
       go_wp2_with fail
       refine HI.mono ?_
       rintro e w2 ⟨rfl,hb2⟩
       have hs2:=hs1.up hb2
       have ee:(en == en)=true:=by simp
       go_wp2_with fail
       refine(HS w2 hs2).mono ?_
       rintro e w3 ⟨rfl,hs3,hb3⟩
       go_wp2_with fail
       refine(truth_any w3 en).mono ?_
       rintro e w4 ⟨⟨q4,c4,rfl,hv4⟩,hb4⟩
       go_wp2
       go_ret
       exact⟨⟨q4,c4,rfl,hv4⟩,hs3.up hb4,(((hb1.up hb2).trans hb3).up hb4)⟩
     · rw[if_neg ht]
       have ee:((nV v == 1) == en)=false:=by simpa using ht
       cases hB:evE E.es E.q f s with
       | error n=>
         rw[hB]at H2
         have HE:Hid ((match boolE (.error n)with | .error n=>.error n | .ok u=>.ok (tN u):Except Int (List Nd))= .error n):=rfl
         rw[HE.out]
         go_enter Tryz.func58,Tryz.ntmps58
         go_wp2_with fail
         refine H1.mono ?_
         rintro e w1 ⟨⟨q1,c1,rfl,hv1⟩,hs1,hb1⟩
         have HI:=isTrue_ok w1 v _ q1 c1 hv1 h1
         clear H1 ht
         generalize (nV v == 1)=t at *
         go_wp2_with fail
         refine HI.mono ?_
         rintro e w2 ⟨rfl,hb2⟩
         have hs2:=hs1.up hb2
         go_wp2_with fail
         refine(H2 w2 hs2).mono ?_
         rintro e w3 ⟨rfl,hb3⟩
         exact⟨rfl,rfl,(hb1.up hb2).trans hb3⟩
       | ok u=>
         rw[hB]at H2
         by_cases h2:opV u=1
         · have HE:Hid ((match boolE (.ok u)with | .error n=>.error n | .ok u=>.ok (tN u):Except Int (List Nd))= .ok (tN (nV u == 1))):=by
            show _=_
            unfold boolE
            simp only[h2,if_true]
           rw[HE.out]
           go_enter Tryz.func58,Tryz.ntmps58
           go_wp2_with fail
           refine H1.mono ?_
           rintro e w1 ⟨⟨q1,c1,rfl,hv1⟩,hs1,hb1⟩
           have HI:=isTrue_ok w1 v _ q1 c1 hv1 h1
           clear H1 ht
           generalize (nV v == 1)=t at *
           go_wp2_with fail
           refine HI.mono ?_
           rintro e w2 ⟨rfl,hb2⟩
           have hs2:=hs1.up hb2
           go_wp2_with fail
           refine(H2 w2 hs2).mono ?_
           rintro e w3 ⟨⟨q3,c3,rfl,hv3⟩,hs3,hb3⟩
           have HJ:=isTrue_ok w3 u _ q3 c3 hv3 h2
           generalize (nV u == 1)=t2 at *
           go_wp2_with fail
           refine HJ.mono ?_
           rintro e w4 ⟨rfl,hb4⟩
           go_wp2_with fail
           refine(truth_any w4 t2).mono ?_
           rintro e w5 ⟨⟨q5,c5,rfl,hv5⟩,hb5⟩
           go_wp2
           go_ret
           exact⟨⟨q5,c5,rfl,hv5⟩,(hs3.up hb4).up hb5,((((hb1.up hb2).trans hb3).up hb4).up hb5)⟩
         · have HE:Hid ((match boolE (.ok u)with | .error n=>.error n | .ok u=>.ok (tN u):Except Int (List Nd))= .error 2):=by
            show _=_
            unfold boolE
            simp only[h2,if_false]
           rw[HE.out]
           go_enter Tryz.func58,Tryz.ntmps58
           go_wp2_with fail
           refine H1.mono ?_
           rintro e w1 ⟨⟨q1,c1,rfl,hv1⟩,hs1,hb1⟩
           have HI:=isTrue_ok w1 v _ q1 c1 hv1 h1
           clear H1 ht
           generalize (nV v == 1)=t at *
           go_wp2_with fail
           refine HI.mono ?_
           rintro e w2 ⟨rfl,hb2⟩
           have hs2:=hs1.up hb2
           go_wp2_with fail
           refine(H2 w2 hs2).mono ?_
           rintro e w3 ⟨⟨q3,c3,rfl,hv3⟩,hs3,hb3⟩
           have HJ:=isTrue_bad w3 u _ q3 c3 hv3 h2
           go_wp2_with fail
           refine HJ.mono ?_
           rintro e w4 ⟨rfl,hb4⟩
           exact⟨rfl,rfl,((hb1.up hb2).trans hb3).up hb4⟩
   · have HE:Hid (lazyE en (.ok v) (evE E.es E.q f s)= .error 2):=by
      show _=_
      unfold lazyE boolE
      simp only[h1,if_false]
     rw[HE.out]
     go_enter Tryz.func58,Tryz.ntmps58
     go_wp2_with fail
     refine H1.mono ?_
     rintro e w1 ⟨⟨q1,c1,rfl,hv1⟩,hs1,hb1⟩
     have HI:=isTrue_bad w1 v _ q1 c1 hv1 h1
     go_wp2_with fail
     refine HI.mono ?_
     rintro e w2 ⟨rfl,hb2⟩
     exact⟨rfl,rfl,hb1.up hb2⟩
end
def nodeV (x:Nd):Value:=.agg #[.int .i64 x.op,.int .i64 x.n,.string x.s,.string x.t]
section
variable {E:EvEnv} (w:World) (B k:Nat) (a:List Nd) (n:Nat) (q:Option Addr) (c:Nat) (x:Nd)
theorem one_not (h:VArg w a n q c)(hx:x.op=9)(h1:opV a=1):
 Calls Tryz.prog 60 #[.pointer (some ⟨B,0,none⟩),nodeV x,.slice q n c] w fun e w'=>VEndE (.ok (tN (!(nV a == 1)))) e w'∧Below w.heap.size w w':=by
 obtain⟨op,nn,ss,tt⟩:=x
 unfold nodeV
 dsimp only at hx ⊢
 subst hx
 have hb0:Below w.heap.size w (w.alloc (.cells #[.int .i64 9,.int .i64 nn,.string ss,.string tt] 47)):=(Below.refl _ _).alloc (Nat.le_refl _) _
 have HI:=isTrue_ok _ a n q c (h.up hb0) h1
 generalize (nV a == 1)=t at *
 go_enter Tryz.func60,Tryz.ntmps60
 go_wp2_with fail
 refine HI.mono ?_
 rintro e w1 ⟨rfl,hb1⟩
 go_wp2_with fail
 refine(truth_any w1 (!t)).mono ?_
 rintro e w9 ⟨⟨q9,c9,rfl,hv9⟩,hb9⟩
 go_wp2
 go_ret
 exact⟨⟨q9,c9,rfl,hv9⟩,qbt (qbt hb0 hb1) hb9⟩
theorem one_not_bad (h:VArg w a n q c)(hx:x.op=9)(h1:opV a≠1):
 Calls Tryz.prog 60 #[.pointer (some ⟨B,0,none⟩),nodeV x,.slice q n c] w fun e w'=>e= .panicked (thrownE 2)∧Below w.heap.size w w':=by
 obtain⟨op,nn,ss,tt⟩:=x
 unfold nodeV
 dsimp only at hx ⊢
 subst hx
 have hb0:Below w.heap.size w (w.alloc (.cells #[.int .i64 9,.int .i64 nn,.string ss,.string tt] 47)):=(Below.refl _ _).alloc (Nat.le_refl _) _
 have HI:=isTrue_bad _ a n q c (h.up hb0) h1
 go_enter Tryz.func60,Tryz.ntmps60
 go_wp2_with fail
 refine HI.mono ?_
 rintro e w1 ⟨rfl,hb1⟩
 exact⟨rfl,rfl,qbt hb0 hb1⟩
theorem one_neg (h:VArg w a n q c)(hx:x.op=10)(h1:opV a=2)(hf:Fit (-nV a)):
 Calls Tryz.prog 60 #[.pointer (some ⟨B,0,none⟩),nodeV x,.slice q n c] w fun e w'=>VEndE (.ok (mN (-nV a))) e w'∧Below w.heap.size w w':=by
 obtain⟨op,nn,ss,tt⟩:=x
 unfold nodeV
 dsimp only at hx ⊢
 subst hx
 have hb0:Below w.heap.size w (w.alloc (.cells #[.int .i64 10,.int .i64 nn,.string ss,.string tt] 47)):=(Below.refl _ _).alloc (Nat.le_refl _) _
 have HI:=numberOf_ok _ a n q c (h.up hb0) h1
 have HN:=fun w=>neg_good (nV a) w (h.is.fit h1) hf
 have HF:Hid (Fit (-nV a)):=hf
 clear hf
 generalize nV a=t at *
 go_enter Tryz.func60,Tryz.ntmps60
 go_wp2_with fail
 refine HI.mono ?_
 rintro e w1 ⟨rfl,hb1⟩
 go_wp2_with fail
 refine(HN w1).mono ?_
 rintro e w2 ⟨rfl,rfl⟩
 go_wp2_with fail
 refine(sureI_ok _ (-t)).mono ?_
 rintro e w3 ⟨rfl,rfl⟩
 go_wp2_with fail
 refine(number_any _ (-t) HF.out).mono ?_
 rintro e w9 ⟨⟨q9,c9,rfl,hv9⟩,hb9⟩
 go_wp2
 go_ret
 exact⟨⟨q9,c9,rfl,hv9⟩,qbt (qbt hb0 hb1) hb9⟩
theorem one_neg_over (h:VArg w a n q c)(hx:x.op=10)(h1:opV a=2)(hf:¬Fit (-nV a)):
 Calls Tryz.prog 60 #[.pointer (some ⟨B,0,none⟩),nodeV x,.slice q n c] w fun e w'=>e= .panicked (thrownE 5)∧Below w.heap.size w w':=by
 obtain⟨op,nn,ss,tt⟩:=x
 unfold nodeV
 dsimp only at hx ⊢
 subst hx
 have hb0:Below w.heap.size w (w.alloc (.cells #[.int .i64 10,.int .i64 nn,.string ss,.string tt] 47)):=(Below.refl _ _).alloc (Nat.le_refl _) _
 have HI:=numberOf_ok _ a n q c (h.up hb0) h1
 have HN:=fun w=>neg_over (nV a) w (h.is.fit h1) hf
 clear hf
 generalize nV a=t at *
 go_enter Tryz.func60,Tryz.ntmps60
 go_wp2_with fail
 refine HI.mono ?_
 rintro e w1 ⟨rfl,hb1⟩
 go_wp2_with fail
 refine(HN w1).mono ?_
 rintro e w2 ⟨rfl,rfl⟩
 go_wp2_with fail
 refine(sureI_bad _ 0 5).mono ?_
 rintro e w3 ⟨rfl,rfl⟩
 exact⟨rfl,rfl,qbt hb0 hb1⟩
theorem one_neg_bad (h:VArg w a n q c)(hx:x.op=10)(h1:opV a≠2):
 Calls Tryz.prog 60 #[.pointer (some ⟨B,0,none⟩),nodeV x,.slice q n c] w fun e w'=>e= .panicked (thrownE 2)∧Below w.heap.size w w':=by
 obtain⟨op,nn,ss,tt⟩:=x
 unfold nodeV
 dsimp only at hx ⊢
 subst hx
 have hb0:Below w.heap.size w (w.alloc (.cells #[.int .i64 10,.int .i64 nn,.string ss,.string tt] 47)):=(Below.refl _ _).alloc (Nat.le_refl _) _
 have HI:=numberOf_bad _ a n q c (h.up hb0) h1
 go_enter Tryz.func60,Tryz.ntmps60
 go_wp2_with fail
 refine HI.mono ?_
 rintro e w1 ⟨rfl,hb1⟩
 exact⟨rfl,rfl,qbt hb0 hb1⟩
theorem one_has (ho:E.Ok)(hs:AS E w B k)(h:VArg w a n q c)(hx:x.op=21):
 Calls Tryz.prog 60 #[.pointer (some ⟨B,0,none⟩),nodeV x,.slice q n c] w fun e w'=>VEndE (hasE E.es a x.s) e w'∧Below w.heap.size w w':=by
 obtain⟨op,nn,ss,tt⟩:=x
 unfold nodeV
 dsimp only at hx ⊢
 subst hx
 have hb0:Below w.heap.size w (w.alloc (.cells #[.int .i64 21,.int .i64 nn,.string ss,.string tt] 47)):=(Below.refl _ _).alloc (Nat.le_refl _) _
 have HH:=ehas_any _ B k a n q c ho (hs.up hb0) (h.up hb0) ss
 have HE:Hid (hasE E.es a ss=match hasB E.es a ss with | .ok t=>.ok (tN t) | .error m=>.error m):=by
  show _=_
  unfold hasE hasB
  cases attE E.es a with
  | ok r=>rfl
  | error m=>by_cases h8:m=8<;>simp[h8]
 rw[HE.out]
 clear HE
 cases hR:hasB E.es a ss with
 | ok t=>
   rw[hR]at HH
   simp only
   go_enter Tryz.func60,Tryz.ntmps60
   go_wp2_with fail
   refine HH.mono ?_
   rintro e w1 ⟨h1,hb1⟩
   have h1':e= .returned (.bool t):=h1
   subst h1'
   go_wp2_with fail
   refine(truth_any w1 t).mono ?_
   rintro e w9 ⟨⟨q9,c9,rfl,hv9⟩,hb9⟩
   go_wp2
   go_ret
   exact⟨⟨q9,c9,rfl,hv9⟩,qbt (qbt hb0 hb1) hb9⟩
 | error m=>
   rw[hR]at HH
   simp only
   go_enter Tryz.func60,Tryz.ntmps60
   go_wp2_with fail
   refine HH.mono ?_
   rintro e w1 ⟨h1,hb1⟩
   have h1':e= .panicked (thrownE m):=h1
   subst h1'
   exact⟨rfl,rfl,qbt hb0 hb1⟩
end
theorem Tryz.fieldU0 (a b:ByteArray)(w:World):Sem.run Tryz.prog (Instr.field 24 (.agg #[.string a,.string b]) 0) w= .ok (.string a) w:=by kernel_rfl
section
variable {E:EvEnv} (w:World) (B k:Nat) (a:List Nd) (n:Nat) (q:Option Addr) (c:Nat) (x:Nd)
theorem one_is (h1:opV a=4)(h:VArg w a n q c)(hx:x.op=24):
 Calls Tryz.prog 60 #[.pointer (some ⟨B,0,none⟩),nodeV x,.slice q n c] w fun e w'=>VEndE (.ok (tN (decide (sV a=x.s)))) e w'∧Below w.heap.size w w':=by
 obtain⟨op,nn,ss,tt⟩:=x
 unfold nodeV
 dsimp only at *
 subst hx
 have hb0:Below w.heap.size w (w.alloc (.cells #[.int .i64 24,.int .i64 nn,.string ss,.string tt] 47)):=(Below.refl _ _).alloc (Nat.le_refl _) _
 have hz:w.heap.size<(w.alloc (.cells #[.int .i64 24,.int .i64 nn,.string ss,.string tt] 47)).heap.size:=by simp
 have m2:(w.alloc (.cells #[.int .i64 24,.int .i64 nn,.string ss,.string tt] 47)).cell? ⟨w.heap.size,2,none⟩=some (.string ss):=by simp
 have h0:=h.up hb0
 have hu:(uidV a).t=sV a:=by cases a<;>rfl
 have hf:=Tryz.fieldU0
 have HU:=fun w1 (hv:VArg w1 a n q c)=>uidOf_ok w1 a n q c hv h1
 rw[hu]at HU
 clear hu h1
 generalize (uidV a).i=ui at *
 by_cases he:sV a=ss
 · have HD:Hid (decide (sV a=ss)=true):=decide_eq_true he
   rw[HD.out]
   clear HD
   rw[he]at HU
   clear he
   go_enter Tryz.func60,Tryz.ntmps60
   go_wp2_with fail
   generalize w.alloc (.cells #[.int .i64 24,.int .i64 nn,.string ss,.string tt] 47)=W at *
   have hbd:Below W.heap.size W W.drew:=(Below.refl _ _).drew
   have hd:=h0.up hbd
   have hzd:w.heap.size<W.drew.heap.size:=hz
   have md:W.drew.cell? ⟨w.heap.size,2,none⟩=some (.string ss):=m2
   go_region_with (first
    | (go_at_call 99;refine(HU W.drew hd).mono ?_;rintro e w1 ⟨rfl,hb1⟩;have m3:=(hb1.cell (p:=⟨w.heap.size,2,none⟩) hzd).trans md)
    | (go_at_call 88;refine(truth_any w1 true).mono ?_;rintro e w9 ⟨⟨q9,c9,rfl,hv9⟩,hb9⟩))
   all_goals
    go_wp2
    go_ret
    exact⟨⟨q9,c9,rfl,hv9⟩,qbt (qbt (qbt hb0 hbd) hb1) hb9⟩
 · have HD:Hid (decide (sV a=ss)=false):=decide_eq_false he
   rw[HD.out]
   clear HD
   have hne:((sV a).toList == ss.toList)=false:=by simpa using tl_ne he
   generalize sV a=sa at *
   clear he
   go_enter Tryz.func60,Tryz.ntmps60
   go_wp2_with fail
   generalize w.alloc (.cells #[.int .i64 24,.int .i64 nn,.string ss,.string tt] 47)=W at *
   have hbd:Below W.heap.size W W.drew:=(Below.refl _ _).drew
   have hd:=h0.up hbd
   have hzd:w.heap.size<W.drew.heap.size:=hz
   have md:W.drew.cell? ⟨w.heap.size,2,none⟩=some (.string ss):=m2
   go_region_with (first
    | (go_at_call 99;refine(HU W.drew hd).mono ?_;rintro e w1 ⟨rfl,hb1⟩;have m3:=(hb1.cell (p:=⟨w.heap.size,2,none⟩) hzd).trans md)
    | (go_at_call 88;refine(truth_any w1 false).mono ?_;rintro e w9 ⟨⟨q9,c9,rfl,hv9⟩,hb9⟩))
   all_goals
    go_wp2
    go_ret
    exact⟨⟨q9,c9,rfl,hv9⟩,qbt (qbt (qbt hb0 hbd) hb1) hb9⟩
theorem one_is_bad (h1:opV a≠4)(h:VArg w a n q c)(hx:x.op=24):
 Calls Tryz.prog 60 #[.pointer (some ⟨B,0,none⟩),nodeV x,.slice q n c] w fun e w'=>e= .panicked (thrownE 2)∧Below w.heap.size w w':=by
 obtain⟨op,nn,ss,tt⟩:=x
 unfold nodeV
 dsimp only at *
 subst hx
 have hb0:Below w.heap.size w (w.alloc (.cells #[.int .i64 24,.int .i64 nn,.string ss,.string tt] 47)):=(Below.refl _ _).alloc (Nat.le_refl _) _
 have hz:w.heap.size<(w.alloc (.cells #[.int .i64 24,.int .i64 nn,.string ss,.string tt] 47)).heap.size:=by simp
 have m2:(w.alloc (.cells #[.int .i64 24,.int .i64 nn,.string ss,.string tt] 47)).cell? ⟨w.heap.size,2,none⟩=some (.string ss):=by simp
 have h0:=h.up hb0
 have HU:=fun w1 (hv:VArg w1 a n q c)=>uidOf_bad w1 a n q c hv h1
 clear h1
 go_enter Tryz.func60,Tryz.ntmps60
 go_wp2_with fail
 generalize w.alloc (.cells #[.int .i64 24,.int .i64 nn,.string ss,.string tt] 47)=W at *
 have hbd:Below W.heap.size W W.drew:=(Below.refl _ _).drew
 have hd:=h0.up hbd
 have hzd:w.heap.size<W.drew.heap.size:=hz
 have md:W.drew.cell? ⟨w.heap.size,2,none⟩=some (.string ss):=m2
 refine wp_mono (Q:=fun e a w'=>e= .panic (thrownE 2)∧a.defers=[]∧Below w.heap.size w w') ?_ ?_
 rotate_left
 · rintro _ a w5 ⟨rfl,hd,hb5⟩
   go_wp2
   exact⟨hd,rfl,hb5⟩
 refine wp_region_any (by kernel_rfl) ?_
 refine wpAny_take (i:=0) (v:=?_) rfl (by kernel_rfl) (by kernel_rfl) (by kernel_rfl) (fun _ _ _ h=>h) (Or.inl ⟨by rfl,?_⟩) ?_
 rotate_left
 · intro w;go_simp;with_reducible rfl
 refine wpAny_take (i:=3) (v:=?_) rfl (by kernel_rfl) (by kernel_rfl) (by kernel_rfl) (fun _ _ _ h=>h) (Or.inl ⟨by rfl,?_⟩) ?_
 rotate_left
 · intro w;go_simp;with_reducible rfl
 refine wpAny_ready (rs:=[1,4]) (by kernel_rfl) (by simp) ?_
 refine AllReady.cons rfl (fun K hK=>?_) ?_
 · go_simp
   refine(HU W.drew hd).mono ?_
   rintro e w9 ⟨rfl,hb9⟩
   exact⟨rfl,qbt (qbt hb0 hbd) hb9⟩
 refine AllReady.cons rfl (fun K hK=>?_) AllReady.nil
 have ml:W.drew.cell? ⟨w.heap.size,2,none⟩=some (.string ss):=md
 go_simp
 refine hK _ _ ?_
 clear hK K ml
 refine wpAny_ready (rs:=[1]) (by kernel_rfl) (by simp) ?_
 refine AllReady.cons rfl (fun K hK=>?_) AllReady.nil
 go_simp
 refine(HU W.drew hd).mono ?_
 rintro e w9 ⟨rfl,hb9⟩
 exact⟨rfl,qbt (qbt hb0 hbd) hb9⟩
theorem one_like (h1:opV a=3)(hp:textOk x.s.data.toList=true)(h:VArg w a n q c)(hx:x.op=23):
 Calls Tryz.prog 60 #[.pointer (some ⟨B,0,none⟩),nodeV x,.slice q n c] w fun e w'=>VEndE (.ok (tN (pM (pcs x.s.data.toList) (sV a).data.toList))) e w'∧Below w.heap.size w w':=by
 obtain⟨op,nn,ss,tt⟩:=x
 unfold nodeV
 dsimp only at *
 subst hx
 have hb0:Below w.heap.size w (w.alloc (.cells #[.int .i64 23,.int .i64 nn,.string ss,.string tt] 47)):=(Below.refl _ _).alloc (Nat.le_refl _) _
 have hz:w.heap.size<(w.alloc (.cells #[.int .i64 23,.int .i64 nn,.string ss,.string tt] 47)).heap.size:=by simp
 have m2:(w.alloc (.cells #[.int .i64 23,.int .i64 nn,.string ss,.string tt] 47)).cell? ⟨w.heap.size,2,none⟩=some (.string ss):=by simp
 have h0:=h.up hb0
 have HU:=fun w1 (hv:VArg w1 a n q c)=>only_ok w1 3 a n q c hv h1
 have hts:textOk (sV a).data.toList=true:=by
  obtain⟨y,r,rfl,_,_,hy,_⟩:=value_head h.is.val
  have h3:y.op=3:=h1
  unfold ndOk at hy
  rw[if_neg (by omega),if_neg (by omega),if_pos h3]at hy
  simp only[Bool.and_eq_true]at hy
  exact hy.2
 have HM:=fun w1=>match_ok ss (sV a) w1 hp hts
 have hf:=Tryz.fieldN2
 generalize pM (pcs ss.data.toList) (sV a).data.toList=t at *
 clear h1 hp hts
 go_enter Tryz.func60,Tryz.ntmps60
 go_wp2_with fail
 generalize w.alloc (.cells #[.int .i64 23,.int .i64 nn,.string ss,.string tt] 47)=W at *
 have hbd:Below W.heap.size W W.drew:=(Below.refl _ _).drew
 have hd:=h0.up hbd
 have hzd:w.heap.size<W.drew.heap.size:=hz
 have md:W.drew.cell? ⟨w.heap.size,2,none⟩=some (.string ss):=m2
 go_region_with (first
  | (go_at_call 98;refine(HU W.drew hd).mono ?_;rintro e w1 ⟨y,r,rfl,rfl,hb1⟩;have m3:=(hb1.cell (p:=⟨w.heap.size,2,none⟩) hzd).trans md)
  | (go_at_call 97;refine(HM w1).mono ?_;rintro e w2 ⟨rfl,hb2⟩)
  | (go_at_call 96;refine(sureB_ok w2 t).mono ?_;rintro e w3 ⟨rfl,hw2⟩;have hw3:=hw2.symm;clear hw2;subst hw3)
  | (go_at_call 88;refine(truth_any w2 t).mono ?_;rintro e w9 ⟨⟨q9,c9,rfl,hv9⟩,hb9⟩))
 all_goals
  go_wp2
  go_ret
  exact⟨⟨q9,c9,rfl,hv9⟩,qbt (qbt (qbt (qbt hb0 hbd) hb1) hb2) hb9⟩
theorem one_like_bad (h1:opV a≠3)(h:VArg w a n q c)(hx:x.op=23):
 Calls Tryz.prog 60 #[.pointer (some ⟨B,0,none⟩),nodeV x,.slice q n c] w fun e w'=>e= .panicked (thrownE 2)∧Below w.heap.size w w':=by
 obtain⟨op,nn,ss,tt⟩:=x
 unfold nodeV
 dsimp only at *
 subst hx
 have hb0:Below w.heap.size w (w.alloc (.cells #[.int .i64 23,.int .i64 nn,.string ss,.string tt] 47)):=(Below.refl _ _).alloc (Nat.le_refl _) _
 have hz:w.heap.size<(w.alloc (.cells #[.int .i64 23,.int .i64 nn,.string ss,.string tt] 47)).heap.size:=by simp
 have m2:(w.alloc (.cells #[.int .i64 23,.int .i64 nn,.string ss,.string tt] 47)).cell? ⟨w.heap.size,2,none⟩=some (.string ss):=by simp
 have h0:=h.up hb0
 have HU:=fun w1 (hv:VArg w1 a n q c)=>only_bad w1 3 a n q c hv h1
 clear h1
 go_enter Tryz.func60,Tryz.ntmps60
 go_wp2_with fail
 generalize w.alloc (.cells #[.int .i64 23,.int .i64 nn,.string ss,.string tt] 47)=W at *
 have hbd:Below W.heap.size W W.drew:=(Below.refl _ _).drew
 have hd:=h0.up hbd
 have hzd:w.heap.size<W.drew.heap.size:=hz
 have md:W.drew.cell? ⟨w.heap.size,2,none⟩=some (.string ss):=m2
 refine wp_mono (Q:=fun e a w'=>e= .panic (thrownE 2)∧a.defers=[]∧Below w.heap.size w w') ?_ ?_
 rotate_left
 · rintro _ a w5 ⟨rfl,hd,hb5⟩
   go_wp2
   exact⟨hd,rfl,hb5⟩
 refine wp_region_any (by kernel_rfl) ?_
 refine wpAny_take (i:=0) (v:=?_) rfl (by kernel_rfl) (by kernel_rfl) (by kernel_rfl) (fun _ _ _ h=>h) (Or.inl ⟨by rfl,?_⟩) ?_
 rotate_left
 · intro w;go_simp;with_reducible rfl
 refine wpAny_take (i:=2) (v:=?_) rfl (by kernel_rfl) (by kernel_rfl) (by kernel_rfl) (fun _ _ _ h=>h) (Or.inl ⟨by rfl,?_⟩) ?_
 rotate_left
 · intro w;go_simp;with_reducible rfl
 refine wpAny_ready (rs:=[1,3]) (by kernel_rfl) (by simp) ?_
 refine AllReady.cons rfl (fun K hK=>?_) ?_
 · have ml:W.drew.cell? ⟨w.heap.size,2,none⟩=some (.string ss):=md
   go_simp
   refine hK _ _ ?_
   clear hK K ml
   refine wpAny_ready (rs:=[3]) (by kernel_rfl) (by simp) ?_
   refine AllReady.cons rfl (fun K hK=>?_) AllReady.nil
   go_simp
   refine(HU W.drew hd).mono ?_
   rintro e w9 ⟨rfl,hb9⟩
   exact⟨rfl,qbt (qbt hb0 hbd) hb9⟩
 refine AllReady.cons rfl (fun K hK=>?_) AllReady.nil
 go_simp
 refine(HU W.drew hd).mono ?_
 rintro e w9 ⟨rfl,hb9⟩
 exact⟨rfl,qbt (qbt hb0 hbd) hb9⟩
theorem one_get_bad (ho:E.Ok)(hs:AS E w B k)(hR:attE E.es a= .error 2)(h:VArg w a n q c)(hx:x.op=22):
 Calls Tryz.prog 60 #[.pointer (some ⟨B,0,none⟩),nodeV x,.slice q n c] w fun e w'=>e= .panicked (thrownE 2)∧Below w.heap.size w w':=by
 obtain⟨op,nn,ss,tt⟩:=x
 unfold nodeV
 dsimp only at *
 subst hx
 have hb0:Below w.heap.size w (w.alloc (.cells #[.int .i64 22,.int .i64 nn,.string ss,.string tt] 47)):=(Below.refl _ _).alloc (Nat.le_refl _) _
 have hz:w.heap.size<(w.alloc (.cells #[.int .i64 22,.int .i64 nn,.string ss,.string tt] 47)).heap.size:=by simp
 have m2:(w.alloc (.cells #[.int .i64 22,.int .i64 nn,.string ss,.string tt] 47)).cell? ⟨w.heap.size,2,none⟩=some (.string ss):=by simp
 have h0:=h.up hb0
 have HR:∀w1,Below w.heap.size w w1→Calls Tryz.prog 95 #[.pointer (some ⟨B,0,none⟩),.slice q n c] w1 fun e w'=>e= .panicked (thrownE 2)∧Below w1.heap.size w1 w':=fun w1 hb=>by
  have HR:=record_any w1 B k a n q c ho (hs.up hb) (h.up hb)
  rw[hR]at HR
  refine HR.mono ?_
  rintro e w' ⟨⟨h8,_⟩ | ⟨_,h2⟩,hb'⟩
  · exact absurd h8 (by decide)
  · exact⟨h2,hb'⟩
 clear hR hs ho
 go_enter Tryz.func60,Tryz.ntmps60
 go_wp2_with fail
 generalize w.alloc (.cells #[.int .i64 22,.int .i64 nn,.string ss,.string tt] 47)=W at *
 have hbd:Below W.heap.size W W.drew:=(Below.refl _ _).drew
 have hd:=h0.up hbd
 have hzd:w.heap.size<W.drew.heap.size:=hz
 have md:W.drew.cell? ⟨w.heap.size,2,none⟩=some (.string ss):=m2
 refine wp_mono (Q:=fun e a w'=>e= .panic (thrownE 2)∧a.defers=[]∧Below w.heap.size w w') ?_ ?_
 rotate_left
 · rintro _ a w5 ⟨rfl,hd,hb5⟩
   go_wp2
   exact⟨hd,rfl,hb5⟩
 refine wp_region_any (by kernel_rfl) ?_
 refine wpAny_take (i:=0) (v:=?_) rfl (by kernel_rfl) (by kernel_rfl) (by kernel_rfl) (fun _ _ _ h=>h) (Or.inl ⟨by rfl,?_⟩) ?_
 rotate_left
 · intro w;go_simp;with_reducible rfl
 refine wpAny_take (i:=1) (v:=?_) rfl (by kernel_rfl) (by kernel_rfl) (by kernel_rfl) (fun _ _ _ h=>h) (Or.inl ⟨by rfl,?_⟩) ?_
 rotate_left
 · intro w;go_simp;with_reducible rfl
 refine wpAny_take (i:=6) (v:=?_) rfl (by kernel_rfl) (by kernel_rfl) (by kernel_rfl) (fun _ _ _ h=>h) (Or.inl ⟨by rfl,?_⟩) ?_
 rotate_left
 · intro w;go_simp;with_reducible rfl
 refine wpAny_ready (rs:=[2,7]) (by kernel_rfl) (by simp) ?_
 refine AllReady.cons rfl (fun K hK=>?_) ?_
 · go_simp
   refine(HR W.drew (qbt hb0 hbd)).mono ?_
   rintro e w9 ⟨rfl,hb9⟩
   exact⟨rfl,qbt (qbt hb0 hbd) hb9⟩
 refine AllReady.cons rfl (fun K hK=>?_) AllReady.nil
 have ml:W.drew.cell? ⟨w.heap.size,2,none⟩=some (.string ss):=md
 go_simp
 refine hK _ _ ?_
 clear hK K ml
 refine wpAny_ready (rs:=[2]) (by kernel_rfl) (by simp) ?_
 refine AllReady.cons rfl (fun K hK=>?_) AllReady.nil
 go_simp
 refine(HR W.drew (qbt hb0 hbd)).mono ?_
 rintro e w9 ⟨rfl,hb9⟩
 exact⟨rfl,qbt (qbt hb0 hbd) hb9⟩
theorem one_get_lost (ho:E.Ok)(hs:AS E w B k)(hR:attE E.es a= .error 8)(h:VArg w a n q c)(hx:x.op=22):
 Calls Tryz.prog 60 #[.pointer (some ⟨B,0,none⟩),nodeV x,.slice q n c] w fun e w'=>e= .panicked (thrownE 8)∧Below w.heap.size w w':=by
 obtain⟨op,nn,ss,tt⟩:=x
 unfold nodeV
 dsimp only at *
 subst hx
 have hb0:Below w.heap.size w (w.alloc (.cells #[.int .i64 22,.int .i64 nn,.string ss,.string tt] 47)):=(Below.refl _ _).alloc (Nat.le_refl _) _
 have hz:w.heap.size<(w.alloc (.cells #[.int .i64 22,.int .i64 nn,.string ss,.string tt] 47)).heap.size:=by simp
 have m2:(w.alloc (.cells #[.int .i64 22,.int .i64 nn,.string ss,.string tt] 47)).cell? ⟨w.heap.size,2,none⟩=some (.string ss):=by simp
 have h0:=h.up hb0
 have HR:∀w1,Below w.heap.size w w1→Calls Tryz.prog 95 #[.pointer (some ⟨B,0,none⟩),.slice q n c] w1 fun e w'=>e= .returned (.tuple #[.slice none 0 0,.iface 70 (.int .i64 8)])∧Below w1.heap.size w1 w':=fun w1 hb=>by
  have HR:=record_any w1 B k a n q c ho (hs.up hb) (h.up hb)
  rw[hR]at HR
  refine HR.mono ?_
  rintro e w' ⟨⟨_,h2⟩ | ⟨h8,_⟩,hb'⟩
  · exact⟨h2,hb'⟩
  · exact absurd h8 (by decide)
 have HS:∀w1,Calls Tryz.prog 82 #[.slice none 0 0,.iface 70 (.int .i64 8)] w1 fun e w'=>e= .panicked (thrownE 8)∧Below w1.heap.size w1 w':=fun w1=>(sureN_bad w1 none 0 0 8).mono fun e w' ⟨h1,h2⟩=>⟨h1,by rw[h2];exact Below.refl _ _⟩
 clear hR hs ho
 go_enter Tryz.func60,Tryz.ntmps60
 go_wp2_with fail
 generalize w.alloc (.cells #[.int .i64 22,.int .i64 nn,.string ss,.string tt] 47)=W at *
 have hbd:Below W.heap.size W W.drew:=(Below.refl _ _).drew
 have hd:=h0.up hbd
 have hzd:w.heap.size<W.drew.heap.size:=hz
 have md:W.drew.cell? ⟨w.heap.size,2,none⟩=some (.string ss):=m2
 refine wp_mono (Q:=fun e a w'=>e= .panic (thrownE 8)∧a.defers=[]∧Below w.heap.size w w') ?_ ?_
 rotate_left
 · rintro _ a w5 ⟨rfl,hd,hb5⟩
   go_wp2
   exact⟨hd,rfl,hb5⟩
 refine wp_region_any (by kernel_rfl) ?_
 refine wpAny_take (i:=0) (v:=?_) rfl (by kernel_rfl) (by kernel_rfl) (by kernel_rfl) (fun _ _ _ h=>h) (Or.inl ⟨by rfl,?_⟩) ?_
 rotate_left
 · intro w;go_simp;with_reducible rfl
 refine wpAny_take (i:=1) (v:=?_) rfl (by kernel_rfl) (by kernel_rfl) (by kernel_rfl) (fun _ _ _ h=>h) (Or.inl ⟨by rfl,?_⟩) ?_
 rotate_left
 · intro w;go_simp;with_reducible rfl
 refine wpAny_take (i:=6) (v:=?_) rfl (by kernel_rfl) (by kernel_rfl) (by kernel_rfl) (fun _ _ _ h=>h) (Or.inl ⟨by rfl,?_⟩) ?_
 rotate_left
 · intro w;go_simp;with_reducible rfl
 refine wpAny_ready (rs:=[2,7]) (by kernel_rfl) (by simp) ?_
 refine AllReady.cons rfl (fun K hK=>?_) ?_
 · go_simp
   refine(HR W.drew (qbt hb0 hbd)).mono ?_
   rintro e w1 ⟨rfl,hb1⟩
   refine hK _ _ ?_
   clear hK K
   refine wpAny_take (i:=3) (v:=?_) rfl (by kernel_rfl) (by kernel_rfl) (by kernel_rfl) (fun _ _ _ h=>h) (Or.inl ⟨by rfl,?_⟩) ?_
   rotate_left
   · intro w;go_simp;with_reducible rfl
   refine wpAny_take (i:=4) (v:=?_) rfl (by kernel_rfl) (by kernel_rfl) (by kernel_rfl) (fun _ _ _ h=>h) (Or.inl ⟨by rfl,?_⟩) ?_
   rotate_left
   · intro w;go_simp;with_reducible rfl
   refine wpAny_ready (rs:=[5,7]) (by kernel_rfl) (by simp) ?_
   refine AllReady.cons rfl (fun K hK=>?_) ?_
   · go_simp
     refine(HS w1).mono ?_
     rintro e w9 ⟨rfl,hb9⟩
     exact⟨rfl,qbt (qbt hb0 (qbt hbd hb1)) hb9⟩
   refine AllReady.cons rfl (fun K hK=>?_) AllReady.nil
   have ml:w1.cell? ⟨w.heap.size,2,none⟩=some (.string ss):=((qbt hbd hb1).cell (p:=⟨w.heap.size,2,none⟩) hz).trans m2
   go_simp
   refine hK _ _ ?_
   clear hK K ml
   refine wpAny_ready (rs:=[5]) (by kernel_rfl) (by simp) ?_
   refine AllReady.cons rfl (fun K hK=>?_) AllReady.nil
   go_simp
   refine(HS w1).mono ?_
   rintro e w9 ⟨rfl,hb9⟩
   exact⟨rfl,qbt (qbt hb0 (qbt hbd hb1)) hb9⟩
 refine AllReady.cons rfl (fun K hK=>?_) AllReady.nil
 have ml:W.drew.cell? ⟨w.heap.size,2,none⟩=some (.string ss):=md
 go_simp
 refine hK _ _ ?_
 clear hK K ml
 refine wpAny_ready (rs:=[2]) (by kernel_rfl) (by simp) ?_
 refine AllReady.cons rfl (fun K hK=>?_) AllReady.nil
 go_simp
 refine(HR W.drew (qbt hb0 hbd)).mono ?_
 rintro e w1 ⟨rfl,hb1⟩
 refine hK _ _ ?_
 clear hK K
 refine wpAny_take (i:=3) (v:=?_) rfl (by kernel_rfl) (by kernel_rfl) (by kernel_rfl) (fun _ _ _ h=>h) (Or.inl ⟨by rfl,?_⟩) ?_
 rotate_left
 · intro w;go_simp;with_reducible rfl
 refine wpAny_take (i:=4) (v:=?_) rfl (by kernel_rfl) (by kernel_rfl) (by kernel_rfl) (fun _ _ _ h=>h) (Or.inl ⟨by rfl,?_⟩) ?_
 rotate_left
 · intro w;go_simp;with_reducible rfl
 refine wpAny_ready (rs:=[5]) (by kernel_rfl) (by simp) ?_
 refine AllReady.cons rfl (fun K hK=>?_) AllReady.nil
 go_simp
 refine(HS w1).mono ?_
 rintro e w9 ⟨rfl,hb9⟩
 exact⟨rfl,qbt (qbt hb0 (qbt hbd hb1)) hb9⟩
theorem one_get_none (ho:E.Ok)(hs:AS E w B k)(r:List Nd)(hR:attE E.es a= .ok r)(hu:fldV r x.s=none)(h:VArg w a n q c)(hx:x.op=22):
 Calls Tryz.prog 60 #[.pointer (some ⟨B,0,none⟩),nodeV x,.slice q n c] w fun e w'=>e= .panicked (thrownE 3)∧Below w.heap.size w w':=by
 obtain⟨op,nn,ss,tt⟩:=x
 unfold nodeV
 dsimp only at *
 subst hx
 have hb0:Below w.heap.size w (w.alloc (.cells #[.int .i64 22,.int .i64 nn,.string ss,.string tt] 47)):=(Below.refl _ _).alloc (Nat.le_refl _) _
 have hz:w.heap.size<(w.alloc (.cells #[.int .i64 22,.int .i64 nn,.string ss,.string tt] 47)).heap.size:=by simp
 have m2:(w.alloc (.cells #[.int .i64 22,.int .i64 nn,.string ss,.string tt] 47)).cell? ⟨w.heap.size,2,none⟩=some (.string ss):=by simp
 have h0:=h.up hb0
 have HR:=fun w1 (hb:Below w.heap.size w w1)=>record_any w1 B k a n q c ho (hs.up hb) (h.up hb)
 rw[hR]at HR
 have HG:=fun w1 q1 c1 (hv:VArg w1 r r.length q1 c1) (h6:opV r=6)=>get_field r r.length q1 c1 ss w1 hv h6
 rw[hu]at HG
 simp only at HG
 have HS:∀w1 q1 c1,Calls Tryz.prog 82 #[.slice q1 0 c1,.iface 70 (.int .i64 3)] w1 fun e w'=>e= .panicked (thrownE 3)∧Below w1.heap.size w1 w':=fun w1 q1 c1=>(sureN_bad w1 q1 0 c1 3).mono fun e w' ⟨h1,h2⟩=>⟨h1,by rw[h2];exact Below.refl _ _⟩
 clear hR hu hs ho
 go_enter Tryz.func60,Tryz.ntmps60
 go_wp2_with fail
 generalize w.alloc (.cells #[.int .i64 22,.int .i64 nn,.string ss,.string tt] 47)=W at *
 have hbd:Below W.heap.size W W.drew:=(Below.refl _ _).drew
 have hd:=h0.up hbd
 have hzd:w.heap.size<W.drew.heap.size:=hz
 have md:W.drew.cell? ⟨w.heap.size,2,none⟩=some (.string ss):=m2
 refine wp_mono (Q:=fun e a w'=>e= .panic (thrownE 3)∧a.defers=[]∧Below w.heap.size w w') ?_ ?_
 rotate_left
 · rintro _ a w5 ⟨rfl,hd,hb5⟩
   go_wp2
   exact⟨hd,rfl,hb5⟩
 refine wp_region_any (by kernel_rfl) ?_
 refine wpAny_take (i:=0) (v:=?_) rfl (by kernel_rfl) (by kernel_rfl) (by kernel_rfl) (fun _ _ _ h=>h) (Or.inl ⟨by rfl,?_⟩) ?_
 rotate_left
 · intro w;go_simp;with_reducible rfl
 refine wpAny_take (i:=1) (v:=?_) rfl (by kernel_rfl) (by kernel_rfl) (by kernel_rfl) (fun _ _ _ h=>h) (Or.inl ⟨by rfl,?_⟩) ?_
 rotate_left
 · intro w;go_simp;with_reducible rfl
 refine wpAny_take (i:=6) (v:=?_) rfl (by kernel_rfl) (by kernel_rfl) (by kernel_rfl) (fun _ _ _ h=>h) (Or.inl ⟨by rfl,?_⟩) ?_
 rotate_left
 · intro w;go_simp;with_reducible rfl
 refine wpAny_ready (rs:=[2,7]) (by kernel_rfl) (by simp) ?_
 refine AllReady.cons rfl (fun K hK=>?_) ?_
 · go_simp
   refine(HR W.drew (qbt hb0 hbd)).mono ?_
   rintro e w1 ⟨⟨q1,c1,rfl,hv1,h6⟩,hb1⟩
   refine hK _ _ ?_
   clear hK K
   refine wpAny_take (i:=3) (v:=?_) rfl (by kernel_rfl) (by kernel_rfl) (by kernel_rfl) (fun _ _ _ h=>h) (Or.inl ⟨by rfl,?_⟩) ?_
   rotate_left
   · intro w;go_simp;with_reducible rfl
   refine wpAny_take (i:=4) (v:=?_) rfl (by kernel_rfl) (by kernel_rfl) (by kernel_rfl) (fun _ _ _ h=>h) (Or.inl ⟨by rfl,?_⟩) ?_
   rotate_left
   · intro w;go_simp;with_reducible rfl
   refine wpAny_ready (rs:=[5,7]) (by kernel_rfl) (by simp) ?_
   refine AllReady.cons rfl (fun K hK=>?_) ?_
   · go_simp
     refine(sureN_ok w1 q1 _ c1).mono ?_
     rintro e w2 ⟨rfl,hw2⟩
     have hw3:=hw2.symm
     clear hw2
     subst hw3
     refine hK _ _ ?_
     clear hK K
     refine wpAny_ready (rs:=[7]) (by kernel_rfl) (by simp) ?_
     refine AllReady.cons rfl (fun K hK=>?_) AllReady.nil
     have ml:w1.cell? ⟨w.heap.size,2,none⟩=some (.string ss):=((qbt hbd hb1).cell (p:=⟨w.heap.size,2,none⟩) hz).trans m2
     go_simp
     refine hK _ _ ?_
     clear hK K ml
     refine wpAny_ready (rs:=[8]) (by kernel_rfl) (by simp) ?_
     refine AllReady.cons rfl (fun K hK=>?_) AllReady.nil
     go_simp
     refine(HG w1 q1 c1 hv1 h6).mono ?_
     rintro e w3 ⟨⟨q3,c3,rfl⟩,hb3⟩
     refine hK _ _ ?_
     clear hK K
     refine wpAny_take (i:=9) (v:=?_) rfl (by kernel_rfl) (by kernel_rfl) (by kernel_rfl) (fun _ _ _ h=>h) (Or.inl ⟨by rfl,?_⟩) ?_
     rotate_left
     · intro w;go_simp;with_reducible rfl
     refine wpAny_take (i:=10) (v:=?_) rfl (by kernel_rfl) (by kernel_rfl) (by kernel_rfl) (fun _ _ _ h=>h) (Or.inl ⟨by rfl,?_⟩) ?_
     rotate_left
     · intro w;go_simp;with_reducible rfl
     refine wpAny_ready (rs:=[11]) (by kernel_rfl) (by simp) ?_
     refine AllReady.cons rfl (fun K hK=>?_) AllReady.nil
     go_simp
     refine(HS w3 q3 c3).mono ?_
     rintro e w9 ⟨rfl,hb9⟩
     exact⟨rfl,qbt (qbt hb0 (qbt (qbt hbd hb1) hb3)) hb9⟩
   refine AllReady.cons rfl (fun K hK=>?_) AllReady.nil
   have ml:w1.cell? ⟨w.heap.size,2,none⟩=some (.string ss):=((qbt hbd hb1).cell (p:=⟨w.heap.size,2,none⟩) hz).trans m2
   go_simp
   refine hK _ _ ?_
   clear hK K ml
   refine wpAny_ready (rs:=[5]) (by kernel_rfl) (by simp) ?_
   refine AllReady.cons rfl (fun K hK=>?_) AllReady.nil
   go_simp
   refine(sureN_ok w1 q1 _ c1).mono ?_
   rintro e w2 ⟨rfl,hw2⟩
   have hw3:=hw2.symm
   clear hw2
   subst hw3
   refine hK _ _ ?_
   clear hK K
   refine wpAny_ready (rs:=[8]) (by kernel_rfl) (by simp) ?_
   refine AllReady.cons rfl (fun K hK=>?_) AllReady.nil
   go_simp
   refine(HG w1 q1 c1 hv1 h6).mono ?_
   rintro e w3 ⟨⟨q3,c3,rfl⟩,hb3⟩
   refine hK _ _ ?_
   clear hK K
   refine wpAny_take (i:=9) (v:=?_) rfl (by kernel_rfl) (by kernel_rfl) (by kernel_rfl) (fun _ _ _ h=>h) (Or.inl ⟨by rfl,?_⟩) ?_
   rotate_left
   · intro w;go_simp;with_reducible rfl
   refine wpAny_take (i:=10) (v:=?_) rfl (by kernel_rfl) (by kernel_rfl) (by kernel_rfl) (fun _ _ _ h=>h) (Or.inl ⟨by rfl,?_⟩) ?_
   rotate_left
   · intro w;go_simp;with_reducible rfl
   refine wpAny_ready (rs:=[11]) (by kernel_rfl) (by simp) ?_
   refine AllReady.cons rfl (fun K hK=>?_) AllReady.nil
   go_simp
   refine(HS w3 q3 c3).mono ?_
   rintro e w9 ⟨rfl,hb9⟩
   exact⟨rfl,qbt (qbt hb0 (qbt (qbt hbd hb1) hb3)) hb9⟩
 refine AllReady.cons rfl (fun K hK=>?_) AllReady.nil
 have ml:W.drew.cell? ⟨w.heap.size,2,none⟩=some (.string ss):=md
 go_simp
 refine hK _ _ ?_
 clear hK K ml
 refine wpAny_ready (rs:=[2]) (by kernel_rfl) (by simp) ?_
 refine AllReady.cons rfl (fun K hK=>?_) AllReady.nil
 go_simp
 refine(HR W.drew (qbt hb0 hbd)).mono ?_
 rintro e w1 ⟨⟨q1,c1,rfl,hv1,h6⟩,hb1⟩
 refine hK _ _ ?_
 clear hK K
 refine wpAny_take (i:=3) (v:=?_) rfl (by kernel_rfl) (by kernel_rfl) (by kernel_rfl) (fun _ _ _ h=>h) (Or.inl ⟨by rfl,?_⟩) ?_
 rotate_left
 · intro w;go_simp;with_reducible rfl
 refine wpAny_take (i:=4) (v:=?_) rfl (by kernel_rfl) (by kernel_rfl) (by kernel_rfl) (fun _ _ _ h=>h) (Or.inl ⟨by rfl,?_⟩) ?_
 rotate_left
 · intro w;go_simp;with_reducible rfl
 refine wpAny_ready (rs:=[5]) (by kernel_rfl) (by simp) ?_
 refine AllReady.cons rfl (fun K hK=>?_) AllReady.nil
 go_simp
 refine(sureN_ok w1 q1 _ c1).mono ?_
 rintro e w2 ⟨rfl,hw2⟩
 have hw3:=hw2.symm
 clear hw2
 subst hw3
 refine hK _ _ ?_
 clear hK K
 refine wpAny_ready (rs:=[8]) (by kernel_rfl) (by simp) ?_
 refine AllReady.cons rfl (fun K hK=>?_) AllReady.nil
 go_simp
 refine(HG w1 q1 c1 hv1 h6).mono ?_
 rintro e w3 ⟨⟨q3,c3,rfl⟩,hb3⟩
 refine hK _ _ ?_
 clear hK K
 refine wpAny_take (i:=9) (v:=?_) rfl (by kernel_rfl) (by kernel_rfl) (by kernel_rfl) (fun _ _ _ h=>h) (Or.inl ⟨by rfl,?_⟩) ?_
 rotate_left
 · intro w;go_simp;with_reducible rfl
 refine wpAny_take (i:=10) (v:=?_) rfl (by kernel_rfl) (by kernel_rfl) (by kernel_rfl) (fun _ _ _ h=>h) (Or.inl ⟨by rfl,?_⟩) ?_
 rotate_left
 · intro w;go_simp;with_reducible rfl
 refine wpAny_ready (rs:=[11]) (by kernel_rfl) (by simp) ?_
 refine AllReady.cons rfl (fun K hK=>?_) AllReady.nil
 go_simp
 refine(HS w3 q3 c3).mono ?_
 rintro e w9 ⟨rfl,hb9⟩
 exact⟨rfl,qbt (qbt hb0 (qbt (qbt hbd hb1) hb3)) hb9⟩
end
section
variable {E:EvEnv} (w:World) (B k:Nat) (a:List Nd) (n:Nat) (q:Option Addr) (c:Nat) (x:Nd)
theorem one_get (ho:E.Ok)(hs:AS E w B k)(r:List Nd)(hR:attE E.es a= .ok r)(u:List Nd)(hu:fldV r x.s=some u)(h:VArg w a n q c)(hx:x.op=22):
 Calls Tryz.prog 60 #[.pointer (some ⟨B,0,none⟩),nodeV x,.slice q n c] w fun e w'=>VEndE (.ok u) e w'∧Below w.heap.size w w':=by
 obtain⟨op,nn,ss,tt⟩:=x
 unfold nodeV
 dsimp only at *
 subst hx
 have hb0:Below w.heap.size w (w.alloc (.cells #[.int .i64 22,.int .i64 nn,.string ss,.string tt] 47)):=(Below.refl _ _).alloc (Nat.le_refl _) _
 have hz:w.heap.size<(w.alloc (.cells #[.int .i64 22,.int .i64 nn,.string ss,.string tt] 47)).heap.size:=by simp
 have m2:(w.alloc (.cells #[.int .i64 22,.int .i64 nn,.string ss,.string tt] 47)).cell? ⟨w.heap.size,2,none⟩=some (.string ss):=by simp
 have h0:=h.up hb0
 have HR:=fun w1 (hb:Below w.heap.size w w1)=>record_any w1 B k a n q c ho (hs.up hb) (h.up hb)
 rw[hR]at HR
 have HG:=fun w1 q1 c1 (hv:VArg w1 r r.length q1 c1) (h6:opV r=6)=>get_field r r.length q1 c1 ss w1 hv h6
 rw[hu]at HG
 simp only at HG
 clear hR hu hs ho
 go_enter Tryz.func60,Tryz.ntmps60
 go_wp2_with fail
 generalize w.alloc (.cells #[.int .i64 22,.int .i64 nn,.string ss,.string tt] 47)=W at *
 have hbd:Below W.heap.size W W.drew:=(Below.refl _ _).drew
 have hd:=h0.up hbd
 have hzd:w.heap.size<W.drew.heap.size:=hz
 have md:W.drew.cell? ⟨w.heap.size,2,none⟩=some (.string ss):=m2
 refine wp_mono (Q:=fun e a w'=>e= .normal∧a.defers=[]∧(∃q3 c3,a.tmps[6]? =some (.slice q3 u.length c3)∧VArg w' u u.length q3 c3)∧Below w.heap.size w w') ?_ ?_
 rotate_left
 · rintro _ a w5 ⟨rfl,hd,⟨q3,c3,ht,hv3⟩,hb5⟩
   go_wp2
   have ht2:a.tmps.getD 6 undef= .slice q3 u.length c3:=by simp[Array.getD_eq_getD_getElem?, ht]
   refine bodyPost_ret (v:=.slice q3 u.length c3) (by simp[results,Tryz.results60,go_sem,ht]) hd ⟨⟨q3,c3,rfl,hv3⟩,hb5⟩
 refine wp_region_any (by kernel_rfl) ?_
 refine wpAny_take (i:=0) (v:=?_) rfl (by kernel_rfl) (by kernel_rfl) (by kernel_rfl) (fun _ _ _ h=>by cases h.1) (Or.inl ⟨by rfl,?_⟩) ?_
 rotate_left
 · intro w;go_simp;with_reducible rfl
 refine wpAny_take (i:=1) (v:=?_) rfl (by kernel_rfl) (by kernel_rfl) (by kernel_rfl) (fun _ _ _ h=>by cases h.1) (Or.inl ⟨by rfl,?_⟩) ?_
 rotate_left
 · intro w;go_simp;with_reducible rfl
 refine wpAny_take (i:=6) (v:=?_) rfl (by kernel_rfl) (by kernel_rfl) (by kernel_rfl) (fun _ _ _ h=>by cases h.1) (Or.inl ⟨by rfl,?_⟩) ?_
 rotate_left
 · intro w;go_simp;with_reducible rfl
 refine wpAny_ready (rs:=[2,7]) (by kernel_rfl) (by simp) ?_
 refine AllReady.cons rfl (fun K hK=>?_) ?_
 · go_simp
   refine(HR W.drew (qbt hb0 hbd)).mono ?_
   rintro e w1 ⟨⟨q1,c1,rfl,hv1,h6⟩,hb1⟩
   refine hK _ _ ?_
   clear hK K
   refine wpAny_take (i:=3) (v:=?_) rfl (by kernel_rfl) (by kernel_rfl) (by kernel_rfl) (fun _ _ _ h=>by cases h.1) (Or.inl ⟨by rfl,?_⟩) ?_
   rotate_left
   · intro w;go_simp;with_reducible rfl
   refine wpAny_take (i:=4) (v:=?_) rfl (by kernel_rfl) (by kernel_rfl) (by kernel_rfl) (fun _ _ _ h=>by cases h.1) (Or.inl ⟨by rfl,?_⟩) ?_
   rotate_left
   · intro w;go_simp;with_reducible rfl
   refine wpAny_ready (rs:=[5,7]) (by kernel_rfl) (by simp) ?_
   refine AllReady.cons rfl (fun K hK=>?_) ?_
   · go_simp
     refine(sureN_ok w1 q1 _ c1).mono ?_
     rintro e w2 ⟨rfl,hw2⟩
     have hw3:=hw2.symm
     clear hw2
     subst hw3
     refine hK _ _ ?_
     clear hK K
     refine wpAny_ready (rs:=[7]) (by kernel_rfl) (by simp) ?_
     refine AllReady.cons rfl (fun K hK=>?_) AllReady.nil
     have ml:w1.cell? ⟨w.heap.size,2,none⟩=some (.string ss):=((qbt hbd hb1).cell (p:=⟨w.heap.size,2,none⟩) hz).trans m2
     go_simp
     refine hK _ _ ?_
     clear hK K ml
     refine wpAny_ready (rs:=[8]) (by kernel_rfl) (by simp) ?_
     refine AllReady.cons rfl (fun K hK=>?_) AllReady.nil
     go_simp
     refine(HG w1 q1 c1 hv1 h6).mono ?_
     rintro e w3 ⟨⟨q3,c3,rfl,hv3⟩,hb3⟩
     refine hK _ _ ?_
     clear hK K
     refine wpAny_take (i:=9) (v:=?_) rfl (by kernel_rfl) (by kernel_rfl) (by kernel_rfl) (fun _ _ _ h=>by cases h.1) (Or.inl ⟨by rfl,?_⟩) ?_
     rotate_left
     · intro w;go_simp;with_reducible rfl
     refine wpAny_take (i:=10) (v:=?_) rfl (by kernel_rfl) (by kernel_rfl) (by kernel_rfl) (fun _ _ _ h=>by cases h.1) (Or.inl ⟨by rfl,?_⟩) ?_
     rotate_left
     · intro w;go_simp;with_reducible rfl
     refine wpAny_ready (rs:=[11]) (by kernel_rfl) (by simp) ?_
     refine AllReady.cons rfl (fun K hK=>?_) AllReady.nil
     go_simp
     refine(sureN_ok w3 q3 _ c3).mono ?_
     rintro e w4 ⟨rfl,hw4⟩
     have hw5:=hw4.symm
     clear hw4
     subst hw5
     refine hK _ _ ?_
     clear hK K
     refine wpAny_take (i:=12) (v:=?_) rfl (by kernel_rfl) (by kernel_rfl) (by kernel_rfl) (fun _ _ _ h=>by cases h.1) (Or.inl ⟨by rfl,?_⟩) ?_
     rotate_left
     · intro w;go_simp;with_reducible rfl
     refine wpAny_done (by kernel_rfl) ?_ _
     exact⟨rfl,rfl,⟨q3,c3,rfl,hv3⟩,qbt hb0 (qbt (qbt hbd hb1) hb3)⟩
   refine AllReady.cons rfl (fun K hK=>?_) AllReady.nil
   have ml:w1.cell? ⟨w.heap.size,2,none⟩=some (.string ss):=((qbt hbd hb1).cell (p:=⟨w.heap.size,2,none⟩) hz).trans m2
   go_simp
   refine hK _ _ ?_
   clear hK K ml
   refine wpAny_ready (rs:=[5]) (by kernel_rfl) (by simp) ?_
   refine AllReady.cons rfl (fun K hK=>?_) AllReady.nil
   go_simp
   refine(sureN_ok w1 q1 _ c1).mono ?_
   rintro e w2 ⟨rfl,hw2⟩
   have hw3:=hw2.symm
   clear hw2
   subst hw3
   refine hK _ _ ?_
   clear hK K
   refine wpAny_ready (rs:=[8]) (by kernel_rfl) (by simp) ?_
   refine AllReady.cons rfl (fun K hK=>?_) AllReady.nil
   go_simp
   refine(HG w1 q1 c1 hv1 h6).mono ?_
   rintro e w3 ⟨⟨q3,c3,rfl,hv3⟩,hb3⟩
   refine hK _ _ ?_
   clear hK K
   refine wpAny_take (i:=9) (v:=?_) rfl (by kernel_rfl) (by kernel_rfl) (by kernel_rfl) (fun _ _ _ h=>by cases h.1) (Or.inl ⟨by rfl,?_⟩) ?_
   rotate_left
   · intro w;go_simp;with_reducible rfl
   refine wpAny_take (i:=10) (v:=?_) rfl (by kernel_rfl) (by kernel_rfl) (by kernel_rfl) (fun _ _ _ h=>by cases h.1) (Or.inl ⟨by rfl,?_⟩) ?_
   rotate_left
   · intro w;go_simp;with_reducible rfl
   refine wpAny_ready (rs:=[11]) (by kernel_rfl) (by simp) ?_
   refine AllReady.cons rfl (fun K hK=>?_) AllReady.nil
   go_simp
   refine(sureN_ok w3 q3 _ c3).mono ?_
   rintro e w4 ⟨rfl,hw4⟩
   have hw5:=hw4.symm
   clear hw4
   subst hw5
   refine hK _ _ ?_
   clear hK K
   refine wpAny_take (i:=12) (v:=?_) rfl (by kernel_rfl) (by kernel_rfl) (by kernel_rfl) (fun _ _ _ h=>by cases h.1) (Or.inl ⟨by rfl,?_⟩) ?_
   rotate_left
   · intro w;go_simp;with_reducible rfl
   refine wpAny_done (by kernel_rfl) ?_ _
   exact⟨rfl,rfl,⟨q3,c3,rfl,hv3⟩,qbt hb0 (qbt (qbt hbd hb1) hb3)⟩
 refine AllReady.cons rfl (fun K hK=>?_) AllReady.nil
 have ml:W.drew.cell? ⟨w.heap.size,2,none⟩=some (.string ss):=md
 go_simp
 refine hK _ _ ?_
 clear hK K ml
 refine wpAny_ready (rs:=[2]) (by kernel_rfl) (by simp) ?_
 refine AllReady.cons rfl (fun K hK=>?_) AllReady.nil
 go_simp
 refine(HR W.drew (qbt hb0 hbd)).mono ?_
 rintro e w1 ⟨⟨q1,c1,rfl,hv1,h6⟩,hb1⟩
 refine hK _ _ ?_
 clear hK K
 refine wpAny_take (i:=3) (v:=?_) rfl (by kernel_rfl) (by kernel_rfl) (by kernel_rfl) (fun _ _ _ h=>by cases h.1) (Or.inl ⟨by rfl,?_⟩) ?_
 rotate_left
 · intro w;go_simp;with_reducible rfl
 refine wpAny_take (i:=4) (v:=?_) rfl (by kernel_rfl) (by kernel_rfl) (by kernel_rfl) (fun _ _ _ h=>by cases h.1) (Or.inl ⟨by rfl,?_⟩) ?_
 rotate_left
 · intro w;go_simp;with_reducible rfl
 refine wpAny_ready (rs:=[5]) (by kernel_rfl) (by simp) ?_
 refine AllReady.cons rfl (fun K hK=>?_) AllReady.nil
 go_simp
 refine(sureN_ok w1 q1 _ c1).mono ?_
 rintro e w2 ⟨rfl,hw2⟩
 have hw3:=hw2.symm
 clear hw2
 subst hw3
 refine hK _ _ ?_
 clear hK K
 refine wpAny_ready (rs:=[8]) (by kernel_rfl) (by simp) ?_
 refine AllReady.cons rfl (fun K hK=>?_) AllReady.nil
 go_simp
 refine(HG w1 q1 c1 hv1 h6).mono ?_
 rintro e w3 ⟨⟨q3,c3,rfl,hv3⟩,hb3⟩
 refine hK _ _ ?_
 clear hK K
 refine wpAny_take (i:=9) (v:=?_) rfl (by kernel_rfl) (by kernel_rfl) (by kernel_rfl) (fun _ _ _ h=>by cases h.1) (Or.inl ⟨by rfl,?_⟩) ?_
 rotate_left
 · intro w;go_simp;with_reducible rfl
 refine wpAny_take (i:=10) (v:=?_) rfl (by kernel_rfl) (by kernel_rfl) (by kernel_rfl) (fun _ _ _ h=>by cases h.1) (Or.inl ⟨by rfl,?_⟩) ?_
 rotate_left
 · intro w;go_simp;with_reducible rfl
 refine wpAny_ready (rs:=[11]) (by kernel_rfl) (by simp) ?_
 refine AllReady.cons rfl (fun K hK=>?_) AllReady.nil
 go_simp
 refine(sureN_ok w3 q3 _ c3).mono ?_
 rintro e w4 ⟨rfl,hw4⟩
 have hw5:=hw4.symm
 clear hw4
 subst hw5
 refine hK _ _ ?_
 clear hK K
 refine wpAny_take (i:=12) (v:=?_) rfl (by kernel_rfl) (by kernel_rfl) (by kernel_rfl) (fun _ _ _ h=>by cases h.1) (Or.inl ⟨by rfl,?_⟩) ?_
 rotate_left
 · intro w;go_simp;with_reducible rfl
 refine wpAny_done (by kernel_rfl) ?_ _
 exact⟨rfl,rfl,⟨q3,c3,rfl,hv3⟩,qbt hb0 (qbt (qbt hbd hb1) hb3)⟩
end
section
variable {E:EvEnv} (w:World) (B k:Nat) (a:List Nd) (n:Nat) (q:Option Addr) (c:Nat)
theorem UL.apart {w:World}{g:Nat}{q:Option Addr}{L:List Ui}(h:UL w q L)(hg:w.heap[g]? =some (.cells #[.slice none 0 0] 87 (0,0)))(v:Value):UL (w.setCell ⟨g,0,none⟩ v) q L:=by
 rcases h with h | ⟨b,off,h1,h2,h3⟩
 · exact .inl h
 · by_cases hL:L=[]
   · exact .inl hL
   · have hne:b≠g:=by
      rintro rfl
      obtain⟨x,r,rfl⟩:=List.exists_cons_of_ne_nil hL
      obtain⟨d0,_⟩:=h3 0 x rfl
      simp only[World.cell?, hg]at d0
      match off,d0 with
      | 0,d0=>simp at d0
      | n+1,d0=>simp at d0
     refine .inr ⟨b,off,h1,by simpa using h2,fun i x hx=>?_⟩
     rw[World.cell?_setCell_other _ _ _ _ (by intro e;exact hne (congrArg Addr.block e).symm),World.cell?_setCell_other _ _ _ _ (by intro e;exact hne (congrArg Addr.block e).symm)]
     exact h3 i x hx
open Classical in
theorem in_last (A g:Nat)(u:Ui)(qa:Option Addr)(la:List Ui)(ca:Nat)(V:World)(us:List Ui)(q:Option Addr)(c:Nat)(hA:A<V.heap.size)(hg:g<V.heap.size)(a0:V.cell? ⟨A,0,none⟩=some (.string u.t))(a1:V.cell? ⟨A,1,none⟩=some (.string u.i))(hc:V.cell? ⟨g,0,none⟩=some (.slice qa la.length ca))
 (hua:UL V qa la) (hia:IsAbove E.es u la) (hq:UL V q us) (hl:us.length≤1000) (hla:la.length≤maxLen):
 Calls Tryz.prog 134 #[.slice q us.length c,.func (.func 135) #[] #[.pointer (some ⟨A,0,none⟩),.pointer (some ⟨g,0,none⟩)]] V fun e w'=>e= .returned (.bool (decide (∃t∈us,t=u∨Abv E.es u t)))∧Below V.heap.size V w':=by
 refine(containsFuncU_any us _ rfl q c _ _ V hq (by unfold maxLen;omega) (in_asks A g u qa la ca V hA hg a0 a1 hc hua hla)).mono ?_
 rintro e w' ⟨rfl,hb⟩
 refine⟨?_,hb⟩
 congr 2
 rw[Bool.eq_iff_iff,List.any_eq_true,decide_eq_true_iff]
 constructor
 · rintro⟨t,ht,h⟩
   exact⟨t,ht,by have:=of_decide_eq_true h;rwa [hia.2]at this⟩
 · rintro⟨t,ht,h⟩
   exact⟨t,ht,decide_eq_true (by rwa [hia.2])⟩
open Classical in
theorem ein_any (ho:E.Ok)(hs:AS E w B k)(u:Ui)(hu:UOk u)(us:List Ui)(hq:UL w q us)(hl:us.length≤1000):
 Calls Tryz.prog 101 #[.pointer (some ⟨B,0,none⟩),.agg #[.string u.t,.string u.i],.slice q us.length c] w fun e w'=>e= .returned (.bool (decide (∃t∈us,t=u∨Abv E.es u t)))∧Below w.heap.size w w':=by
 have HA:=fun w1 (hb:Below w.heap.size w w1)=>entAbove_any E.es E.ps E.cs u w1 ((hs.up hb).el ho) hu
 have hst:=ho.env.st
 obtain⟨ut,ui⟩:=u
 have hbL:Below w.heap.size w (w.alloc (.cells #[.string ut,.string ui] 24)):=(Below.refl _ _).alloc (Nat.le_refl _) _
 have z0:(w.alloc (.cells #[.string ut,.string ui] 24)).cell? ⟨w.heap.size,0,none⟩=some (.string ut):=by simp
 have z1:(w.alloc (.cells #[.string ut,.string ui] 24)).cell? ⟨w.heap.size,1,none⟩=some (.string ui):=by simp
 have hsz:w.heap.size<(w.alloc (.cells #[.string ut,.string ui] 24)).heap.size:=by simp
 have ha0:=(hs.up hbL).c0
 have hB0:=(hs.up hbL).lt
 have hu0:=hq.up hbL
 go_enter Tryz.func101,Tryz.ntmps101
 go_wp2_with fail
 generalize w.alloc (.cells #[.string ut,.string ui] 24)=W at *
 have HA2:=fun w1 (hb:Below W.heap.size W w1)=>HA w1 (qbt hbL hb)
 clear HA hs hq
 go_region_with (first
  | (go_at_call 133
     refine(HA2 _ (by repeat (first | exact Below.refl _ _ | exact(Below.refl _ _).alloc (Nat.le_refl _) _ | apply Below.drew))).mono ?_
     rintro e w1 ⟨⟨_,qa,ca,la,rfl,hua,hia,hca,hcb⟩ | ⟨h0,_⟩,hb1⟩
     rotate_left
     exact absurd hst h0
     have hgg:=fun h=>hb1.cell (p:=⟨W.heap.size,0,none⟩) h
     have hgf:=fun h=>hb1.frozen (p:=⟨W.heap.size,0,none⟩) h
     dsimp only at hgg hgf)
  | (go_at_call 132;refine(sureU_ok _ qa _ ca).mono ?_;rintro e w2 ⟨rfl,hw2⟩;have hw3:=hw2.symm;clear hw2;subst hw3))
 all_goals
  have hbW:Below W.heap.size W w1:=Below.trans (by repeat (first | exact Below.refl _ _ | exact(Below.refl _ _).alloc (Nat.le_refl _) _ | apply Below.drew)) (hb1.mono (by simp))
  go_wp2_with fail
  first
   | (have hbV:=hbW.alloc hbW.size (.cells #[.slice qa la.length ca] 87)
      refine(in_last w.heap.size w1.heap.size ⟨ut,ui⟩ qa la ca _ us q c (Nat.lt_of_lt_of_le hsz hbV.size) (by simp) ((hbV.cell (p:=⟨w.heap.size,0,none⟩) hsz).trans z0) ((hbV.cell (p:=⟨w.heap.size,1,none⟩) hsz).trans z1) (by simp) (hua.up ((Below.refl _ _).alloc (Nat.le_refl _) _)) hia (hu0.up hbV) hl (Nat.le_trans hca hcb)).mono ?_
      rintro e w5 ⟨rfl,hb5⟩
      go_wp2
      go_ret
      exact⟨rfl,qbt (qbt hbL hbV) hb5⟩)
   | (have hgb:w1.heap[W.heap.size]? =some (.cells #[.slice none 0 0] 87 (0,0)):=(hb1.block W.heap.size (by simp)).trans (heap_alloc_new _ _)
      have hbV:=hbW.setCell (p:=⟨W.heap.size,0,none⟩) (Nat.le_refl _) (.slice qa la.length ca)
      have hg0:w1.cell? ⟨W.heap.size,0,none⟩=some (.slice none 0 0):=by simp[World.cell?, hgb]
      refine(in_last w.heap.size W.heap.size ⟨ut,ui⟩ qa la ca _ us q c (Nat.lt_of_lt_of_le hsz hbV.size) (by have:=(Array.getElem?_eq_some_iff.1 hgb).1;simpa using this) ((hbV.cell (p:=⟨w.heap.size,0,none⟩) hsz).trans z0) ((hbV.cell (p:=⟨w.heap.size,1,none⟩) hsz).trans z1) (World.cell?_setCell_same _ _ _ hg0) (hua.apart hgb _) hia (hu0.up hbV) hl (Nat.le_trans hca hcb)).mono ?_
      rintro e w5 ⟨rfl,hb5⟩
      go_wp2
      go_ret
      exact⟨rfl,qbt (qbt hbL hbV) hb5⟩)
end
set_option linter.unusedSimpArgs false
set_option linter.unusedSectionVars false
section
variable {E:EvEnv} (w:World) (B k:Nat) (a b:List Nd) (n m:Nat) (p q:Option Addr) (c d:Nat)
theorem VArg.uok {w:World}{a:List Nd}{n:Nat}{q:Option Addr}{c:Nat}(h:VArg w a n q c):UOk (uidV a):=by
 obtain⟨y,r,b,off,rfl,rfl,hb,c0,c1,c2,c3,hwf,h1⟩:=h.head
 exact⟨hwf.1,hwf.2.1⟩
theorem uidsE_len {b:List Nd}(h:IsV b){us:List Ui}(hu:uidsE b=some us):us.length≤1000:=by
 unfold uidsE at hu
 split at hu
 · rename_i h5
   split at hu
   · injection hu with hu;subst hu
     have:=(setR_parts h h5).2.2
     simp;omega
   · cases hu
 · split at hu
   · injection hu with hu;subst hu;simp
   · cases hu
theorem two_in (ho:E.Ok)(hs:AS E w B k)(h:VArg w a n p c)(g:VArg w b m q d):
 Calls Tryz.prog 61 #[.pointer (some ⟨B,0,none⟩),.int .i64 20,.slice p n c,.slice q m d] w fun e w'=>VEndE (inE E.es a b) e w'∧Below w.heap.size w w':=by
 by_cases h4:opV a=4
 · have HX:=uidOf_ok w a n p c h h4
   have HY:=fun w1 (hb:Below w.heap.size w w1)=>uidsOf_any b m q d w1 (g.up hb)
   cases hu:uidsE b with
   | none=>
     have HE:Hid (inE E.es a b= .error 2):=by show _=_;unfold inE;rw[if_pos h4,hu]
     rw[HE.out]
     generalize uidV a=u at *
     go_enter Tryz.func61,Tryz.ntmps61
     go_wp2_with fail
     refine HX.mono ?_
     rintro e w1 ⟨rfl,hb1⟩
     go_wp2_with fail
     refine(HY w1 hb1).mono ?_
     rintro e w2 ⟨h2,hb2⟩
     unfold UidsEnd at h2
     rw[hu]at h2
     subst h2
     exact⟨rfl,rfl,qbt hb1 hb2⟩
   | some us=>
     have hl:=uidsE_len g.is hu
     have HE:Hid (∀t,t=(open Classical in decide (∃t∈us,t=uidV a∨Abv E.es (uidV a) t))→inE E.es a b= .ok (tN t)):=by
      rintro t rfl
      unfold inE
      rw[if_pos h4,hu]
     have HI:=fun w1 (hb:Below w.heap.size w w1) q c (hq:UL w1 q us)=>ein_any w1 B k q c ho (hs.up hb) (uidV a) h.uok us hq hl
     generalize (open Classical in decide (∃t∈us,t=uidV a∨Abv E.es (uidV a) t))=t at *
     rw[HE.out t rfl]
     clear HE
     generalize uidV a=u at *
     go_enter Tryz.func61,Tryz.ntmps61
     go_wp2_with fail
     refine HX.mono ?_
     rintro e w1 ⟨rfl,hb1⟩
     go_wp2_with fail
     refine(HY w1 hb1).mono ?_
     rintro e w2 ⟨h2,hb2⟩
     unfold UidsEnd at h2
     rw[hu]at h2
     obtain⟨q2,c2,rfl,hq2,_,_⟩:=h2
     go_wp2_with fail
     refine(HI w2 (qbt hb1 hb2) q2 c2 hq2).mono ?_
     rintro e w3 ⟨rfl,hb3⟩
     go_wp2_with fail
     refine(truth_any w3 t).mono ?_
     rintro e w9 ⟨⟨q9,c9,rfl,hv9⟩,hb9⟩
     go_wp2
     go_ret
     exact⟨⟨q9,c9,rfl,hv9⟩,qbt (qbt (qbt hb1 hb2) hb3) hb9⟩
 · have HX:=uidOf_bad w a n p c h h4
   have HE:Hid (inE E.es a b= .error 2):=by show _=_;unfold inE;rw[if_neg h4]
   rw[HE.out]
   go_enter Tryz.func61,Tryz.ntmps61
   go_wp2_with fail
   refine HX.mono ?_
   rintro e w1 ⟨rfl,hb1⟩
   exact⟨rfl,rfl,hb1⟩
theorem ofTwo_any (op:Int)(hop:op=14∨op=15∨op=16∨op=17∨op=18∨op=19∨op=20∨op=25∨op=26∨op=27)(ho:E.Ok)(hs:AS E w B k)(h:VArg w a n p c)(g:VArg w b m q d):
 Calls Tryz.prog 61 #[.pointer (some ⟨B,0,none⟩),.int .i64 op,.slice p n c,.slice q m d] w fun e w'=>VEndE (twoE E.es op a b) e w'∧Below w.heap.size w w':=by
 have num:∀op,op=17∨op=18∨op=19→Calls Tryz.prog 61 #[.pointer (some ⟨B,0,none⟩),.int .i64 op,.slice p n c,.slice q m d] w fun e w'=>VEndE (twoE E.es op a b) e w'∧Below w.heap.size w w':=by
  intro op h17
  have e0:twoE E.es op a b=if opV a=2∧opV b=2 then(if nmf op (nV a) (nV b)=0 then .ok (mN (nx op (nV a) (nV b)))else .error (nmf op (nV a) (nV b)))else .error 2:=by
   unfold twoE
   rw[if_neg (by omega),if_neg (by omega),if_neg (by omega),if_neg (by omega),if_neg (by omega),if_neg (by omega),if_neg (by omega)]
  rw[e0]
  by_cases h2:opV a=2∧opV b=2
  · rw[if_pos h2]
    by_cases hf:nmf op (nV a) (nV b)=0
    · rw[if_pos hf];exact two_num w B k a b n m p q c d op ho hs h g h17 h2.1 h2.2 hf
    · rw[if_neg hf];exact two_num_over w B k a b n m p q c d op ho hs h g h17 h2.1 h2.2 hf
  · rw[if_neg h2];exact two_num_bad w B k a b n m p q c d op ho hs h g h17 h2
 rcases hop with rfl | rfl | rfl | rfl | rfl | rfl | rfl | rfl | rfl | rfl
 · exact two_eq w B k a b n m p q c d ho hs h g
 · have e0:twoE E.es 15 a b=if opV a=2∧opV b=2 then .ok (tN (decide (nV a<nV b)))else .error 2:=rfl
   rw[e0]
   by_cases h2:opV a=2∧opV b=2
   · rw[if_pos h2];exact two_lt w B k a b n m p q c d ho hs h g h2.1 h2.2
   · rw[if_neg h2];exact two_lt_bad w B k a b n m p q c d ho hs h g h2
 · have e0:twoE E.es 16 a b=if opV a=2∧opV b=2 then .ok (tN (decide (nV a≤nV b)))else .error 2:=rfl
   rw[e0]
   by_cases h2:opV a=2∧opV b=2
   · rw[if_pos h2];exact two_le w B k a b n m p q c d ho hs h g h2.1 h2.2
   · rw[if_neg h2];exact two_le_bad w B k a b n m p q c d ho hs h g h2
 · exact num 17 (by omega)
 · exact num 18 (by omega)
 · exact num 19 (by omega)
 · exact two_in w B k a b n m p q c d ho hs h g
 · have e0:twoE E.es 25 a b=if opV a=5 then .ok (tN (inB (setR a) b))else .error 2:=rfl
   rw[e0]
   by_cases h5:opV a=5
   · rw[if_pos h5];exact two_one w B k a b n m p q c d ho hs h g h5
   · rw[if_neg h5];exact two_one_bad w B k a b n m p q c d ho hs h g h5
 · have e0:twoE E.es 26 a b=if opV a=5∧opV b=5 then .ok (tN (allB (setR a) (setR b)))else .error 2:=rfl
   rw[e0]
   by_cases h5:opV a=5∧opV b=5
   · rw[if_pos h5];exact two_all w B k a b n m p q c d ho hs h g h5.1 h5.2
   · rw[if_neg h5];exact two_all_bad w B k a b n m p q c d ho hs h g h5
 · have e0:twoE E.es 27 a b=if opV a=5∧opV b=5 then .ok (tN (anyB (setR a) (setR b)))else .error 2:=rfl
   rw[e0]
   by_cases h5:opV a=5∧opV b=5
   · rw[if_pos h5];exact two_any w B k a b n m p q c d ho hs h g h5.1 h5.2
   · rw[if_neg h5];exact two_any_bad w B k a b n m p q c d ho hs h g h5
theorem ofOne_any (x:Nd)(hop:x.op=9∨x.op=10∨x.op=21∨x.op=22∨x.op=23∨x.op=24)(hx:exOk x=true)(ho:E.Ok)(hs:AS E w B k)(h:VArg w a n q c):
 Calls Tryz.prog 60 #[.pointer (some ⟨B,0,none⟩),nodeV x,.slice q n c] w fun e w'=>VEndE (oneE E.es x a) e w'∧Below w.heap.size w w':=by
 unfold oneE
 rcases hop with h9 | h9 | h9 | h9 | h9 | h9
 · rw[if_pos h9]
   by_cases h1:opV a=1
   · rw[if_pos h1];exact one_not w B a n q c x h h9 h1
   · rw[if_neg h1];exact one_not_bad w B a n q c x h h9 h1
 · rw[if_neg (by omega),if_pos h9]
   by_cases h1:opV a=2
   · rw[if_pos h1]
     by_cases hf:Fit (-nV a)
     · rw[if_pos hf];exact one_neg w B a n q c x h h9 h1 hf
     · rw[if_neg hf];exact one_neg_over w B a n q c x h h9 h1 hf
   · rw[if_neg h1];exact one_neg_bad w B a n q c x h h9 h1
 · rw[if_neg (by omega),if_neg (by omega),if_pos h9]
   exact one_has w B k a n q c x ho hs h h9
 · rw[if_neg (by omega),if_neg (by omega),if_neg (by omega),if_pos h9]
   unfold getV
   cases hR:attE E.es a with
   | ok r=>
     simp only
     cases hu:fldV r x.s with
     | some u=>exact one_get w B k a n q c x ho hs r hR u hu h h9
     | none=>exact one_get_none w B k a n q c x ho hs r hR hu h h9
   | error e=>
     simp only
     have he:e=2∨e=8:=by
      unfold attE at hR
      split at hR
      · cases hR
      · split at hR
        · split at hR
          · cases hR
          · injection hR with hR;exact .inr hR.symm
        · injection hR with hR;exact .inl hR.symm
     rcases he with rfl | rfl
     · exact one_get_bad w B k a n q c x ho hs hR h h9
     · exact one_get_lost w B k a n q c x ho hs hR h h9
 · rw[if_neg (by omega),if_neg (by omega),if_neg (by omega),if_neg (by omega),if_pos h9]
   by_cases h1:opV a=3
   · rw[if_pos h1]
     have hp:textOk x.s.data.toList=true:=by
      unfold exOk at hx
      rw[if_neg (by omega)]at hx
      split at hx
      · cases hx
      · rw[if_neg (by omega),if_neg (by omega)]at hx
        simp only[if_pos h9,Bool.and_eq_true]at hx
        exact hx.2
     exact one_like w B a n q c x h1 hp h h9
   · rw[if_neg h1];exact one_like_bad w B a n q c x h1 h h9
 · rw[if_neg (by omega),if_neg (by omega),if_neg (by omega),if_neg (by omega),if_neg (by omega)]
   by_cases h1:opV a=4
   · rw[if_pos h1];exact one_is w B a n q c x h1 h h9
   · rw[if_neg h1];exact one_is_bad w B a n q c x h1 h h9
end
section
variable {E:EvEnv} {B f:Nat} (ho:E.Ok) (hf:f≤E.e.length+1) (hV:ValOk E B f) (w:World) (k:Nat) (m s t r:List Nd)
include ho hf hV
theorem either_any (hs:AS E w B k)(hm:E.e.drop k=m)(p1:pastE f m=some s)(p2:pastE f s=some t)(p3:pastE f t=some r):
 Calls Tryz.prog 59 #[.pointer (some ⟨B,0,none⟩)] w (VE E B (E.e.length-r.length) w (ifE (evE E.es E.q f m) (evE E.es E.q f s) (evE E.es E.q f t))):=by
 have hm2:E.e.drop (E.e.length-s.length)=s:=(nd_suffix (by rw[hm];exact p1)).1
 have hm3:E.e.drop (E.e.length-t.length)=t:=(nd_suffix (k:=E.e.length-s.length) (by rw[hm2];exact p2)).1
 have H1:=val_at hV w k m s _ _ hs hm p1 rfl rfl
 have H2:=fun w1 hs1=>val_at hV w1 _ s t _ _ hs1 hm2 p2 rfl rfl
 have H3:=fun w1 hs1=>val_at hV w1 _ t r _ _ hs1 hm3 p3 rfl rfl
 have HS2:=fun w1 (hs1:AS E w1 B (E.e.length-s.length))=>skip_any w1 B _ ho hs1 t f hf (by rw[hm2];exact p2)
 have HS3:=fun w1 (hs1:AS E w1 B (E.e.length-t.length))=>skip_any w1 B _ ho hs1 r f hf (by rw[hm3];exact p3)
 cases hA:evE E.es E.q f m with
 | error n=>
   rw[hA]at H1
   have HE:Hid (ifE (.error n) (evE E.es E.q f s) (evE E.es E.q f t)= .error n):=rfl
   rw[HE.out]
   go_enter Tryz.func59,Tryz.ntmps59
   go_wp2_with fail
   refine H1.mono ?_
   rintro e w1 ⟨rfl,hb1⟩
   exact⟨rfl,rfl,hb1⟩
 | ok v=>
   rw[hA]at H1
   by_cases h1:opV v=1
   · have hb:boolE (.ok v)= .ok (nV v == 1):=by unfold boolE;simp only[h1,if_true]
     by_cases ht:(nV v == 1)=true
     · have HE:Hid (ifE (.ok v) (evE E.es E.q f s) (evE E.es E.q f t)=evE E.es E.q f s):=by
        show _=_
        unfold ifE
        rw[hb]
        simp only[ht,if_true]
       rw[HE.out]
       clear HE hb
       cases hB:evE E.es E.q f s with
       | error n=>
         rw[hB]at H2
         go_enter Tryz.func59,Tryz.ntmps59
         go_wp2_with fail
         refine H1.mono ?_
         rintro e w1 ⟨⟨q1,c1,rfl,hv1⟩,hs1,hb1⟩
         have HI:=isTrue_ok w1 v _ q1 c1 hv1 h1
         rw[ht]at HI
         clear H1 ht
         go_wp2_with fail
         refine HI.mono ?_
         rintro e w2 ⟨rfl,hb2⟩
         have hs2:=hs1.up hb2
         go_wp2_with fail
         refine(H2 w2 hs2).mono ?_
         rintro e w3 ⟨rfl,hb3⟩
         exact⟨rfl,rfl,(hb1.up hb2).trans hb3⟩
       | ok u=>
         rw[hB]at H2
         go_enter Tryz.func59,Tryz.ntmps59
         go_wp2_with fail
         refine H1.mono ?_
         rintro e w1 ⟨⟨q1,c1,rfl,hv1⟩,hs1,hb1⟩
         have HI:=isTrue_ok w1 v _ q1 c1 hv1 h1
         rw[ht]at HI
         clear H1 ht
         go_wp2_with fail
         refine HI.mono ?_
         rintro e w2 ⟨rfl,hb2⟩
         have hs2:=hs1.up hb2
         go_wp2_with fail
         refine(H2 w2 hs2).mono ?_
         rintro e w3 ⟨⟨q3,c3,rfl,hv3⟩,hs3,hb3⟩
         go_wp2_with fail
         refine(HS3 w3 hs3).mono ?_
         rintro e w4 ⟨rfl,hs4,hb4⟩
         have hv4:=hv3.bx hs3 hb4
         go_wp2
         go_ret
         exact⟨⟨q3,c3,rfl,hv4⟩,hs4,((hb1.up hb2).trans hb3).trans hb4⟩
     · have ht':(nV v == 1)=false:=by simpa using ht
       have HE:Hid (ifE (.ok v) (evE E.es E.q f s) (evE E.es E.q f t)=evE E.es E.q f t):=by
        show _=_
        unfold ifE
        rw[hb]
        simp only[ht']
        rfl
       rw[HE.out]
       clear HE hb ht
       cases hB:evE E.es E.q f t with
       | error n=>
         rw[hB]at H3
         go_enter Tryz.func59,Tryz.ntmps59
         go_wp2_with fail
         refine H1.mono ?_
         rintro e w1 ⟨⟨q1,c1,rfl,hv1⟩,hs1,hb1⟩
         have HI:=isTrue_ok w1 v _ q1 c1 hv1 h1
         rw[ht']at HI
         clear H1 ht'
         go_wp2_with fail
         refine HI.mono ?_
         rintro e w2 ⟨rfl,hb2⟩
         have hs2:=hs1.up hb2
         go_wp2_with fail
         refine(HS2 w2 hs2).mono ?_
         rintro e w3 ⟨rfl,hs3,hb3⟩
         go_wp2_with fail
         refine(H3 w3 hs3).mono ?_
         rintro e w4 ⟨rfl,hb4⟩
         exact⟨rfl,rfl,((hb1.up hb2).trans hb3).trans hb4⟩
       | ok u=>
         rw[hB]at H3
         go_enter Tryz.func59,Tryz.ntmps59
         go_wp2_with fail
         refine H1.mono ?_
         rintro e w1 ⟨⟨q1,c1,rfl,hv1⟩,hs1,hb1⟩
         have HI:=isTrue_ok w1 v _ q1 c1 hv1 h1
         rw[ht']at HI
         clear H1 ht'
         go_wp2_with fail
         refine HI.mono ?_
         rintro e w2 ⟨rfl,hb2⟩
         have hs2:=hs1.up hb2
         go_wp2_with fail
         refine(HS2 w2 hs2).mono ?_
         rintro e w3 ⟨rfl,hs3,hb3⟩
         go_wp2_with fail
         refine(H3 w3 hs3).mono ?_
         rintro e w4 ⟨⟨q4,c4,rfl,hv4⟩,hs4,hb4⟩
         go_wp2
         go_ret
         exact⟨⟨q4,c4,rfl,hv4⟩,hs4,((hb1.up hb2).trans hb3).trans hb4⟩
   · have HE:Hid (ifE (.ok v) (evE E.es E.q f s) (evE E.es E.q f t)= .error 2):=by
      show _=_
      have hb:boolE (.ok v)= .error 2:=by unfold boolE;simp only[h1,if_false]
      unfold ifE
      rw[hb]
     rw[HE.out]
     go_enter Tryz.func59,Tryz.ntmps59
     go_wp2_with fail
     refine H1.mono ?_
     rintro e w1 ⟨⟨q1,c1,rfl,hv1⟩,hs1,hb1⟩
     have HI:=isTrue_bad w1 v _ q1 c1 hv1 h1
     go_wp2_with fail
     refine HI.mono ?_
     rintro e w2 ⟨rfl,hb2⟩
     exact⟨rfl,rfl,hb1.up hb2⟩
end
end Go.Proofs.YtlnhaajjoplafaaGreatDoor
