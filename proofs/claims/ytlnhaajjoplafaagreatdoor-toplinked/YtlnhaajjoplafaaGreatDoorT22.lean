import Derived.Test.YtlnhaajjoplafaaGreatDoorT11
import Derived.Test.YtlnhaajjoplafaaGreatDoorT21
import Derived.Test.YtlnhaajjoplafaaGreatDoorT4
import Derived.Test.YtlnhaajjoplafaaGreatDoorT15
import Derived.StillTailTactics
import Derived.Deep.QuietTactic
import Derived.Test.YtlnhaajjoplafaaGreatDoorT16
import Derived.Deep.RegionWith
import Derived.Test.YtlnhaajjoplafaaGreatDoorT9
import Derived.Test.YtlnhaajjoplafaaGreatDoorT3
set_option linter.unusedVariables false
set_option maxHeartbeats 12000000
namespace Go.Proofs.YtlnhaajjoplafaaGreatDoor
open Go.RowKit
set_option maxRecDepth 100000
def thrownE (n:Int):List PanicEntry:=[{ v:=.iface 92 (.agg #[.iface 70 (.int .i64 n)]),recovered:=false }]
def erV (n:Int):Value:=.iface 70 (.int .i64 n)
theorem qbt {a b c:World}(h:Below a.heap.size a b)(k:Below b.heap.size b c):Below a.heap.size a c:=h.trans (k.mono h.size)
theorem qba {a b:World}(h:Below a.heap.size a b)(o:Obj):Below a.heap.size a (b.alloc o):=qbt h ((Below.refl _ _).alloc (Nat.le_refl _) o)
theorem qbn {a b:World}(h:Below a.heap.size a b)(n:Nat):Below a.heap.size a (b.drewN n):=⟨h.os,h.tape,h.output,h.size,h.block⟩
theorem alloc_size (w:World)(o:Obj):(w.alloc o).heap.size=w.heap.size+1:=by simp
structure VArg (w:World)(a:List Nd)(n:Nat)(q:Option Addr)(c:Nat):Prop where
 len:a.length=n
 nl:NL w q a
 le:n≤c
 cm:c≤maxLen
 is:IsV a
theorem VArg.up {w w':World}{a:List Nd}{n:Nat}{q:Option Addr}{c:Nat}(h:VArg w a n q c)(hb:Below w.heap.size w w'):VArg w' a n q c:=⟨h.len,h.nl.up hb,h.le,h.cm,h.is⟩
def VRet (a:List Nd)(n:Nat)(en:Ending)(w':World):Prop:=∃q c,en= .returned (.slice q n c)∧VArg w' a n q c
theorem VArg.head {w:World}{a:List Nd}{n:Nat}{q:Option Addr}{c:Nat}(h:VArg w a n q c):∃x r b off,a=x::r∧q=some ⟨b,off,none⟩∧b<w.heap.size∧w.cell? ⟨b,off,none⟩=some (.int .i64 x.op)∧w.cell? ⟨b,off+1,none⟩=some (.int .i64 x.n)∧w.cell? ⟨b,off+2,none⟩=some (.string x.s)∧w.cell? ⟨b,off+3,none⟩=some (.string x.t)∧x.wf∧1≤n:=by
 obtain⟨x,r,rfl,_⟩:=value_head h.is.val
 obtain⟨b,off,h1,h2,h3,h4,h5,h6,h7⟩:=h.nl.at (i:=0) (by simp)
 simp only[Nat.zero_mul,Nat.add_zero,List.getElem_cons_zero]at h3 h4 h5 h6 h7
 have hl:=h.len
 simp only[List.length_cons]at hl
 exact⟨x,r,b,off,rfl,h1,h2,h3,h4,h5,h6,h7,by omega⟩
section
variable (w:World)
theorem sureN_ok (q:Option Addr)(n c:Nat):Calls Tryz.prog 82 #[.slice q n c,.nilIface] w fun e w'=>e= .returned (.slice q n c)∧w'=w:=by
 go_enter Tryz.func82,Tryz.ntmps82
 go_wp2
 go_ret
 exact⟨rfl,rfl⟩
theorem sureN_bad (q:Option Addr)(n c:Nat)(k:Int):Calls Tryz.prog 82 #[.slice q n c,.iface 70 (.int .i64 k)] w fun e w'=>e= .panicked (thrownE k)∧w'=w:=by
 go_enter Tryz.func82,Tryz.ntmps82
 go_wp2
 exact⟨rfl,rfl,rfl⟩
theorem sureI_ok (n:Int):Calls Tryz.prog 90 #[.int .i64 n,.nilIface] w fun e w'=>e= .returned (.int .i64 n)∧w'=w:=by
 go_enter Tryz.func90,Tryz.ntmps90
 go_wp2
 go_ret
 exact⟨rfl,rfl⟩
theorem sureI_bad (n k:Int):Calls Tryz.prog 90 #[.int .i64 n,.iface 70 (.int .i64 k)] w fun e w'=>e= .panicked (thrownE k)∧w'=w:=by
 go_enter Tryz.func90,Tryz.ntmps90
 go_wp2
 exact⟨rfl,rfl,rfl⟩
theorem sureB_ok (b:Bool):Calls Tryz.prog 96 #[.bool b,.nilIface] w fun e w'=>e= .returned (.bool b)∧w'=w:=by
 go_enter Tryz.func96,Tryz.ntmps96
 go_wp2
 go_ret
 exact⟨rfl,rfl⟩
theorem sureB_bad (b:Bool)(k:Int):Calls Tryz.prog 96 #[.bool b,.iface 70 (.int .i64 k)] w fun e w'=>e= .panicked (thrownE k)∧w'=w:=by
 go_enter Tryz.func96,Tryz.ntmps96
 go_wp2
 exact⟨rfl,rfl,rfl⟩
theorem sureU_ok (q:Option Addr)(n c:Nat):Calls Tryz.prog 132 #[.slice q n c,.nilIface] w fun e w'=>e= .returned (.slice q n c)∧w'=w:=by
 go_enter Tryz.func132,Tryz.ntmps132
 go_wp2
 go_ret
 exact⟨rfl,rfl⟩
theorem sureL_ok (q:Option Addr)(n c:Nat):Calls Tryz.prog 137 #[.slice q n c,.nilIface] w fun e w'=>e= .returned (.slice q n c)∧w'=w:=by
 go_enter Tryz.func137,Tryz.ntmps137
 go_wp2
 go_ret
 exact⟨rfl,rfl⟩
theorem truth_any (b:Bool):Calls Tryz.prog 88 #[.bool b] w fun e w'=>VRet (tN b) 1 e w'∧Below w.heap.size w w':=by
 have hw:∀x∈tN b,x.wf:=by intro x hx;simp only[tN,List.mem_singleton]at hx;subst hx;exact⟨by unfold maxLen;show 0≤_;decide,by unfold maxLen;show 0≤_;decide,by cases b<;>simp⟩
 cases b
 · go_enter Tryz.func88,Tryz.ntmps88
   go_wp2
   go_ret
   exact⟨⟨_,_,rfl,rfl,NL.lit w (tN false) _ hw rfl (by decide),Nat.le_refl _,by unfold maxLen;decide,tN_is _⟩,(Below.refl _ _).alloc (Nat.le_refl _) _⟩
 · go_enter Tryz.func88,Tryz.ntmps88
   go_wp2
   go_ret
   exact⟨⟨_,_,rfl,rfl,NL.lit w (tN true) _ hw rfl (by decide),Nat.le_refl _,by unfold maxLen;decide,tN_is _⟩,(Below.refl _ _).alloc (Nat.le_refl _) _⟩
theorem number_any (n:Int)(hn:Fit n):Calls Tryz.prog 89 #[.int .i64 n] w fun e w'=>VRet (mN n) 1 e w'∧Below w.heap.size w w':=by
 have hw:∀x∈mN n,x.wf:=by intro x hx;simp only[mN,List.mem_singleton]at hx;subst hx;exact⟨by unfold maxLen;show 0≤_;decide,by unfold maxLen;show 0≤_;decide,hn.2⟩
 go_enter Tryz.func89,Tryz.ntmps89
 go_wp2
 go_ret
 exact⟨⟨_,_,rfl,rfl,NL.lit w (mN n) _ hw rfl (by simp[mN]),Nat.le_refl _,by unfold maxLen;decide,mN_is hn⟩,(Below.refl _ _).alloc (Nat.le_refl _) _⟩
theorem entity_any (u:Ui)(hu:uf u=0):Calls Tryz.prog 85 #[.agg #[.string u.t,.string u.i]] w fun e w'=>VRet (uN u) 1 e w'∧Below w.heap.size w w':=by
 have ho:=uf_ok hu
 have hw:∀x∈uN u,x.wf:=by intro x hx;simp only[uN,List.mem_singleton]at hx;subst hx;exact⟨ho.1,ho.2,by show(0:Int)≤_;decide⟩
 obtain⟨t,i⟩:=u
 go_enter Tryz.func85,Tryz.ntmps85
 go_wp2
 go_ret
 have hN:=NL.lit (w.alloc (.cells #[.string t,.string i] 24)) (uN ⟨t,i⟩) #[.int .i64 4,.int .i64 0,.string t,.string i] hw rfl (by simp[uN])
 rw[alloc_size]at hN
 exact⟨⟨_,_,rfl,rfl,hN,Nat.le_refl _,by unfold maxLen;decide,uN_is hu⟩,((Below.refl _ _).alloc (Nat.le_refl _) _).alloc (by simp) _⟩
theorem only_ok (kind:Int)(a:List Nd)(n:Nat)(q:Option Addr)(c:Nat)(h:VArg w a n q c)(hk:opV a=kind):
 Calls Tryz.prog 98 #[.int .i64 kind,.slice q n c] w fun e w'=>∃x r,a=x::r∧e= .returned (.agg #[.int .i64 x.op,.int .i64 x.n,.string x.s,.string x.t])∧Below w.heap.size w w':=by
 obtain⟨x,r,b,off,rfl,rfl,hb,c0,c1,c2,c3,_,h1⟩:=h.head
 have hx:x.op=kind:=hk
 have e1:(x.op != kind)=false:=by simpa using hx
 have i1:(0:Int)<(n:Int):=by omega
 clear hk hx h
 go_enter Tryz.func98,Tryz.ntmps98
 go_wp2
 refine bodyPost_ret (v:=.agg #[.int .i64 x.op,.int .i64 x.n,.string x.s,.string x.t]) (by simp[results,Tryz.results98,go_sem]) rfl ?_
 exact⟨x,r,rfl,rfl,(Below.refl _ _).alloc (Nat.le_refl _) _⟩
theorem only_bad (kind:Int)(a:List Nd)(n:Nat)(q:Option Addr)(c:Nat)(h:VArg w a n q c)(hk:opV a≠kind):
 Calls Tryz.prog 98 #[.int .i64 kind,.slice q n c] w fun e w'=>e= .panicked (thrownE 2)∧Below w.heap.size w w':=by
 obtain⟨x,r,b,off,rfl,rfl,hb,c0,c1,c2,c3,_,h1⟩:=h.head
 have hx:x.op≠kind:=hk
 have e1:(x.op != kind)=true:=by simpa using hx
 have i1:(0:Int)<(n:Int):=by omega
 clear hk hx h
 go_enter Tryz.func98,Tryz.ntmps98
 go_wp2
 exact⟨rfl,rfl,(Below.refl _ _).alloc (Nat.le_refl _) _⟩
theorem Tryz.fieldN0 (a b:Int)(c d:ByteArray)(w:World):Sem.run Tryz.prog (Instr.field 47 (.agg #[.int .i64 a,.int .i64 b,.string c,.string d]) 0) w= .ok (.int .i64 a) w:=by kernel_rfl
theorem Tryz.fieldN1 (a b:Int)(c d:ByteArray)(w:World):Sem.run Tryz.prog (Instr.field 47 (.agg #[.int .i64 a,.int .i64 b,.string c,.string d]) 1) w= .ok (.int .i64 b) w:=by kernel_rfl
theorem Tryz.fieldN2 (a b:Int)(c d:ByteArray)(w:World):Sem.run Tryz.prog (Instr.field 47 (.agg #[.int .i64 a,.int .i64 b,.string c,.string d]) 2) w= .ok (.string c) w:=by kernel_rfl
theorem isTrue_ok (a:List Nd)(n:Nat)(q:Option Addr)(c:Nat)(h:VArg w a n q c)(hk:opV a=1):
 Calls Tryz.prog 86 #[.slice q n c] w fun e w'=>e= .returned (.bool (nV a == 1))∧Below w.heap.size w w':=by
 have HO:=only_ok w 1 a n q c h hk
 have hf:=Tryz.fieldN1
 go_enter Tryz.func86,Tryz.ntmps86
 go_wp2_with fail
 refine HO.mono ?_
 rintro e w1 ⟨x,r,rfl,rfl,hb⟩
 go_wp2
 go_ret
 exact⟨rfl,hb⟩
theorem isTrue_bad (a:List Nd)(n:Nat)(q:Option Addr)(c:Nat)(h:VArg w a n q c)(hk:opV a≠1):
 Calls Tryz.prog 86 #[.slice q n c] w fun e w'=>e= .panicked (thrownE 2)∧Below w.heap.size w w':=by
 have HO:=only_bad w 1 a n q c h hk
 go_enter Tryz.func86,Tryz.ntmps86
 go_wp2_with fail
 refine HO.mono ?_
 rintro e w1 ⟨rfl,hb⟩
 exact⟨rfl,rfl,hb⟩
theorem numberOf_ok (a:List Nd)(n:Nat)(q:Option Addr)(c:Nat)(h:VArg w a n q c)(hk:opV a=2):
 Calls Tryz.prog 92 #[.slice q n c] w fun e w'=>e= .returned (.int .i64 (nV a))∧Below w.heap.size w w':=by
 have HO:=only_ok w 2 a n q c h hk
 have hf:=Tryz.fieldN1
 go_enter Tryz.func92,Tryz.ntmps92
 go_wp2_with fail
 refine HO.mono ?_
 rintro e w1 ⟨x,r,rfl,rfl,hb⟩
 go_wp2
 go_ret
 exact⟨rfl,hb⟩
theorem numberOf_bad (a:List Nd)(n:Nat)(q:Option Addr)(c:Nat)(h:VArg w a n q c)(hk:opV a≠2):
 Calls Tryz.prog 92 #[.slice q n c] w fun e w'=>e= .panicked (thrownE 2)∧Below w.heap.size w w':=by
 have HO:=only_bad w 2 a n q c h hk
 go_enter Tryz.func92,Tryz.ntmps92
 go_wp2_with fail
 refine HO.mono ?_
 rintro e w1 ⟨rfl,hb⟩
 exact⟨rfl,rfl,hb⟩
theorem uidOf_ok (a:List Nd)(n:Nat)(q:Option Addr)(c:Nat)(h:VArg w a n q c)(hk:opV a=4):
 Calls Tryz.prog 99 #[.slice q n c] w fun e w'=>e= .returned (.agg #[.string (uidV a).t,.string (uidV a).i])∧Below w.heap.size w w':=by
 have hb0:Below w.heap.size w (w.alloc (.cells #[.string ⟨#[]⟩,.string ⟨#[]⟩] 24)):=(Below.refl _ _).alloc (Nat.le_refl _) _
 have HO:=only_ok _ 4 a n q c (h.up hb0) hk
 go_enter Tryz.func99,Tryz.ntmps99
 go_wp2_with fail
 refine HO.mono ?_
 rintro e w1 ⟨x,r,rfl,rfl,hb⟩
 have hlt:w.heap.size<w1.heap.size:=by have:=hb.size;rw[alloc_size]at this;omega
 have d0:w1.cell? ⟨w.heap.size,0,none⟩=some (.string ⟨#[]⟩):=(hb.cell (p:=⟨w.heap.size,0,none⟩) (by simp)).trans (by simp)
 have d1:w1.cell? ⟨w.heap.size,1,none⟩=some (.string ⟨#[]⟩):=(hb.cell (p:=⟨w.heap.size,1,none⟩) (by simp)).trans (by simp)
 have f0:w1.frozen? ⟨w.heap.size,0,none⟩=false:=(hb.frozen (p:=⟨w.heap.size,0,none⟩) (by simp)).trans (by simp[go_sem])
 have f1:w1.frozen? ⟨w.heap.size,1,none⟩=false:=(hb.frozen (p:=⟨w.heap.size,1,none⟩) (by simp)).trans (by simp[go_sem])
 have hne:w.heap.size≠w1.heap.size:=by omega
 have hbA:=qbt hb0 hb
 go_wp2
 have hbZ:Below w.heap.size w (((w1.setCell ⟨w.heap.size,0,none⟩ (.string x.s)).setCell ⟨w.heap.size,1,none⟩ (.string x.t)).alloc (.cells #[.int .i64 x.op,.int .i64 x.n,.string x.s,.string x.t] 47)):=((hbA.setCell (p:=⟨w.heap.size,0,none⟩) (Nat.le_refl _) _).setCell (p:=⟨w.heap.size,1,none⟩) (Nat.le_refl _) _).alloc (by simp;omega) _
 have r0:(((w1.setCell ⟨w.heap.size,0,none⟩ (.string x.s)).setCell ⟨w.heap.size,1,none⟩ (.string x.t)).alloc (.cells #[.int .i64 x.op,.int .i64 x.n,.string x.s,.string x.t] 47)).cell? ⟨w.heap.size,0,none⟩=some (.string x.s):=by
  rw[((Below.refl _ ((w1.setCell ⟨w.heap.size,0,none⟩ (.string x.s)).setCell ⟨w.heap.size,1,none⟩ (.string x.t))).alloc (Nat.le_refl _) _).cell (p:=⟨w.heap.size,0,none⟩) (by simp;omega)]
  rw[World.cell?_setCell_other _ _ _ _ (by simp)]
  exact World.cell?_setCell_same _ _ _ d0
 have r1:(((w1.setCell ⟨w.heap.size,0,none⟩ (.string x.s)).setCell ⟨w.heap.size,1,none⟩ (.string x.t)).alloc (.cells #[.int .i64 x.op,.int .i64 x.n,.string x.s,.string x.t] 47)).cell? ⟨w.heap.size,1,none⟩=some (.string x.t):=by
  rw[((Below.refl _ ((w1.setCell ⟨w.heap.size,0,none⟩ (.string x.s)).setCell ⟨w.heap.size,1,none⟩ (.string x.t))).alloc (Nat.le_refl _) _).cell (p:=⟨w.heap.size,1,none⟩) (by simp;omega)]
  exact World.cell?_setCell_same _ _ _ ((World.cell?_setCell_other _ _ _ _ (by simp)).trans d1)
 generalize (((w1.setCell ⟨w.heap.size,0,none⟩ (.string x.s)).setCell ⟨w.heap.size,1,none⟩ (.string x.t)).alloc (.cells #[.int .i64 x.op,.int .i64 x.n,.string x.s,.string x.t] 47))=V at *
 exact bodyPost_ret (v:=.agg #[.string x.s,.string x.t]) (by simp[results,Tryz.results99,go_sem,r0,r1]) rfl ⟨rfl,hbZ⟩
theorem uidOf_bad (a:List Nd)(n:Nat)(q:Option Addr)(c:Nat)(h:VArg w a n q c)(hk:opV a≠4):
 Calls Tryz.prog 99 #[.slice q n c] w fun e w'=>e= .panicked (thrownE 2)∧Below w.heap.size w w':=by
 have hb0:Below w.heap.size w (w.alloc (.cells #[.string ⟨#[]⟩,.string ⟨#[]⟩] 24)):=(Below.refl _ _).alloc (Nat.le_refl _) _
 have HO:=only_bad _ 4 a n q c (h.up hb0) hk
 go_enter Tryz.func99,Tryz.ntmps99
 go_wp2_with fail
 refine HO.mono ?_
 rintro e w1 ⟨rfl,hb⟩
 exact⟨rfl,rfl,qbt hb0 hb⟩
end
end Go.Proofs.YtlnhaajjoplafaaGreatDoor
namespace Go.Proofs.YtlnhaajjoplafaaGreatDoor
open Go.RowKit Go.Maps Go.WideMaps
set_option linter.unusedSimpArgs false
def allUps (es:List En):List Ui:=es.flatMap (·.up)
theorem allUps_mem {es:List En}{u x:Ui}(h:x∈upsOf es u):x∈allUps es:=by
 obtain⟨e,he,_,h2⟩:=upsOf_mem h
 exact List.mem_flatMap.2 ⟨e,he,by rw[h2];exact h⟩
theorem allUps_len:∀(es:List En),(∀e∈es,e.up.length≤6)→(allUps es).length≤6*es.length
 | [],_=>by simp[allUps]
 | e::r,h=>by
   have h1:=h e (by simp)
   have h2:=allUps_len r (fun x hx=>h x (by simp[hx]))
   unfold allUps at h2 ⊢
   rw[List.flatMap_cons,List.length_append,List.length_cons]
   omega
theorem toCome_len (U L:List Ui):toCome U L≤U.length:=List.length_filter_le _ _
structure Few (es:List En):Prop where
 few:es.length≤16
 uniq:Uniq es
 ups:∀e∈es,e.up.length≤6
set_option maxRecDepth 100000 in
theorem above_any (es:List En)(w0:World)(sb:Nat)(hf:Few es)(u:Ui)(w:World)(hu:UOk u)(hm:EMap w0 w sb es)(hb:Below w0.heap.size w0 w):
 Calls Tryz.prog 71 #[.map (some sb),.agg #[.string u.t,.string u.i]] w fun e w'=>∃fb M,e= .returned (.map (some fb))∧USet w' fb M∧(∀v,v∈M↔Abv es u v)∧Below w.heap.size w w'∧M.length≤96:=by
 have hlt:=hm.lt
 have hn:toCome (allUps es) []≤96:=Nat.le_trans (toCome_len _ _) (Nat.le_trans (allUps_len es hf.ups) (by have:=hf.few;omega))
 have h96:toCome (allUps es) []≤96:=hn
 have hbs:=hb.size
 have HF:Hid (Few es):=hf
 have HM:Hid (EMap w0 w sb es):=hm
 clear hf hm
 have hmm:= @run_makeMap Tryz.prog
 go_enter Tryz.func71,Tryz.ntmps71
 go_wp2_with fail
 have hb1:Below w.heap.size w ((w.alloc (.cells #[.string u.t,.string u.i] 24)).alloc (.map #[] 0)):=((Below.refl _ _).alloc (Nat.le_refl _) _).alloc (by simp) _
 have hs1:USet ((w.alloc (.cells #[.string u.t,.string u.i] 24)).alloc (.map #[] 0)) (w.heap.size+1) []:=by simpa using USet.made (w.alloc (.cells #[.string u.t,.string u.i] 24))
 refine(climb_any es w0 sb (w.heap.size+1) (allUps es) (fun u x hx=>allUps_mem hx) HF.out.uniq (by omega) (by omega) _ [] u _ hu (HM.out.up hb1) hs1 (hb.trans (hb1.mono hb.size)) rfl (by simp;omega)).mono ?_
 rintro e w1 ⟨rfl,M,hcl,hset,hg,hcnt⟩
 have hcnt2:M.length≤96:=by simp at hcnt;omega
 clear hcnt
 go_wp2_with fail
 go_ret
 refine⟨w.heap.size+1,M,rfl,hset,fun v=>⟨fun hv=>?_,fun hv=>?_⟩,?_,hcnt2⟩
 · rcases hcl.frm v hv with h | h
   · cases h
   · exact h
 · exact abv_closed hcl.ups (fun v hv=>hcl.closed v hv (by simp)) hv
 · exact hb1.grown hg (by simp;omega) (fun j hj=>by cases hj;omega)
theorem EMap.uidOf {w0 w:World}{b:Nat}{es:List En}{D:DataW Value}(h2:∀kl,Maps.has D kl=true→∃e∈es,kl=klit e.u)(h3:∀e∈es,UOk e.u){u:Ui}(hu:UOk u)(h:Maps.has D (klit u)=true):∃e∈es,e.u=u:=by
 obtain⟨e,he,hk⟩:=h2 _ h
 exact⟨e,he,(klit_inj hu (h3 e he) hk).symm⟩
set_option maxRecDepth 100000 in
theorem hasCycle_any (es:List En)(w0:World)(sb:Nat)(hf:Few es)(w:World)(hm:EMap w0 w sb es)(hb:Below w0.heap.size w0 w):
 Calls Tryz.prog 47 #[.map (some sb)] w fun e w'=>∃c,e= .returned (.bool c)∧(c=true↔Cyc es)∧Below w.heap.size w w':=by
 have HM:Hid (EMap w0 w sb es):=hm
 obtain⟨D,h1,h2,h3⟩:=hm
 have H2:Hid (∀_,_):=h2
 have H3:Hid (∀_,_):=h3
 have hsb:=h1.lt
 clear h2 h3
 go_enter Tryz.func47,Tryz.ntmps47
 go_wp2_with (first
  | (at_range;refine wpList_range_own _ rfl _ 83 rfl 24 102 uid_law Tryz.underlying83 _ sb es.length D rfl h1 ?_;intro w1 hrg0 hg0 hs0)
  | go_in)
 go_frame
 go_loopw [3] (fun _ wr=>∃(left:Lit→Bool) (cnt:Nat),wr.ranges Tryz.prog 24 heldE sb w.heap.size es.length D left cnt∧w.grownBy wr none∧Hid (∀e∈es,left (klit e.u)=true∨¬Abv es e.u e.u)∧Hid (∀kl,left kl=true→Maps.has D kl=true)) (fun _ wr=>wr.rangeLeft sb w.heap.size)
 case atStart=>exact⟨_,_,hrg0,hg0,fun e he=>.inl (H3.out e he).1,fun kl h=>h⟩
 case round=>
  obtain⟨left,cnt,hrg,hgr,HI,HLH⟩:=hrel
  go_wp2_with (first
   | (at_next;refine wpList_next_ranges _ rfl _ rfl 24 uid_law heldE (fun x:Ui=>.agg #[.string x.t,.string x.i]) id (fun key kl hk=>by obtain⟨x,hx,_⟩:=keyOf_uid_inv hk;exact⟨x,hx⟩) (fun v _ _=>⟨v,rfl⟩) sb w.heap.size es.length D left cnt rfl hrg ?_ ?_)
   | go_in)
  · intro hc0 hl0
    go_wp2_with fail
    go_ret
    refine⟨false,rfl,⟨fun q=>(by cases q),fun⟨e,he,hc⟩=>?_⟩,⟨hgr.os,hgr.tape,hgr.output,hgr.size,fun i hi=>hgr.block i hi (by simp)⟩⟩
    rcases HI.out e he with h | h
    · rw[hl0]at h;cases h
    · exact absurd hc h
  · intro x c kl yd yp w2 cnt2 hkey hlk hv hat hrg2 hlt hg2 hs2 hen
    obtain⟨x',ex,hxok,rfl⟩:=keyOf_uid_inv hkey
    obtain rfl:x=x':=uV_inj ex
    have hgr2:w.grownBy w2 none:=hgr.andThen hg2 (fun j hj=>by cases hj;exact .inl (Nat.le_refl _))
    have HG2:Hid (w.grownBy w2 none):=hgr2
    have HM2:Hid (EMap w0 w2 sb es):=HM.out.kept hgr2 (by simp)
    have HB2:Hid (Below w0.heap.size w0 w2):=hb.grown hgr2 hb.size (fun j hj=>by cases hj)
    have HLK:Hid (_=_):=hlk
    clear hs2 hgr2 ex hkey hv hat hlk
    go_wp2_with fail
    go_region_with (first
     | (go_at_call 71
        refine(above_any es w0 sb hf x _ hxok ?_ ?_).mono ?_
        · exact HM2.out.up (by repeat (first | exact Below.refl _ _ | exact(Below.refl _ _).alloc (Nat.le_refl _) _ | apply Below.drew))
        · exact HB2.out.trans (Below.mono (by repeat (first | exact Below.refl _ _ | exact(Below.refl _ _).alloc (Nat.le_refl _) _ | apply Below.drew)) HB2.out.size)
        rintro e w3 ⟨fb,M,rfl,hset,hM,hb3,hM96⟩
        have hx0:w3.cell? ⟨w2.heap.size,0,none⟩=some (.string x.t):=(hb3.cell (p:=⟨w2.heap.size,0,none⟩) (by simp)).trans (by simp)
        have hx1:w3.cell? ⟨w2.heap.size,1,none⟩=some (.string x.i):=(hb3.cell (p:=⟨w2.heap.size,1,none⟩) (by simp)).trans (by simp))
     | (go_at_call 70
        refine(has_any fb M x _ hset hxok).mono ?_
        rintro e w4 ⟨rfl,hb4⟩
        generalize hdd:decide (x∈M)=d))
    all_goals
     have hb34:Below w2.heap.size w2 w4:=(Below.trans (by repeat (first | exact Below.refl _ _ | exact(Below.refl _ _).alloc (Nat.le_refl _) _ | apply Below.drew)) (hb3.mono (by simp))).trans (hb4.mono (by have:=hb3.size;simp at this;omega))
     have HDD:Hid (_=_):=hdd
     have HMM:Hid (∀_,_):=hM
     clear hdd hM
     cases d
     · have HI2:Hid (∀e∈es,(left (klit e.u) && !(klit e.u).sameKey (klit x))=true∨¬Abv es e.u e.u):=by
        intro e he
        by_cases hex:e.u=x
        · right
          intro hab
          rw[hex]at hab
          have:=(HMM.out x).2 hab
          have h0:=HDD.out
          rw[decide_eq_true this]at h0
          cases h0
        · rcases HI.out e he with h | h
          · left
            rw[h,sameKey_ne (fun q=>hex (klit_inj (H3.out e he).2.1 hxok q))]
            rfl
          · exact .inr h
       go_wp2_with fail
       go_roundw
       case rel=>exact⟨_,cnt2,hrg2.kept (gb_of hb34) (by simp) (by simp),HG2.out.andThen (gb_of hb34) (fun j hj=>by cases hj),HI2,fun kl hk=>HLH.out kl (by simp at hk;exact hk.1)⟩
       case measure=>rw[(hrg2.kept (gb_of hb34) (by simp) (by simp)).left_eq,hrg.left_eq];exact hlt
     · go_wp2_with fail
       go_ret
       have h34:=HG2.out.andThen (gb_of hb34) (fun j hj=>by cases hj)
       refine⟨true,rfl,⟨fun _=>?_,fun _=>rfl⟩,⟨h34.os,h34.tape,h34.output,h34.size,fun i hi=>h34.block i hi (by simp)⟩⟩
       obtain⟨e,he,hk⟩:=H2.out _ (HLH.out _ HLK.out)
       have hex:x=e.u:=klit_inj hxok (H3.out e he).2.1 hk
       have hx:=(HMM.out x).1 (of_decide_eq_true HDD.out)
       exact⟨e,he,by rw[←hex];exact hx⟩
theorem vfault_nil:vfault []≠0:=by decide
theorem checkAttrs_any (v:List Nd)(p:Option Addr)(c:Nat)(w:World)(hv:NL w p v)(hc:v.length≤c)(hcm:c≤maxLen):
 Calls Tryz.prog 46 #[.slice p v.length c] w fun e w'=>e= .returned (eV (afault v))∧Below w.heap.size w w':=by
 by_cases h0:vfault v=0
 · cases v with
   | nil=>exact absurd h0 vfault_nil
   | cons x r=>
     have HE:Hid (eV (vfault (x::r))= .nilIface):=eV_nil h0
     obtain⟨b,off,rfl,hbl,hc0,_⟩:=hv.at (i:=0) (by simp)
     have hcc:∀w',Below w.heap.size w w'→w'.cell? ⟨b,off,none⟩=some (.int .i64 x.op):=fun w' k=>(k.cell (p:=⟨b,off,none⟩) hbl).trans (by simpa using hc0)
     have HV:Hid (NL _ _ _):=hv
     have HC:Hid (∀w',_):=hcc
     have hl1:(0:Int)<((r.length+1:Nat):Int):=by omega
     by_cases h6:x.op=6
     · have HF:Hid (afault (x::r)=0):=by show _=_;unfold afault;rw[if_pos h0];simp[h6]
       have h6':(x.op != 6)=false:=by simp[h6]
       clear h0 hc0 hcc hv h6
       go_enter Tryz.func46,Tryz.ntmps46
       go_wp2_with fail
       refine(vcheck_any (x::r) _ c _ HV.out hc hcm).mono ?_
       rintro e w1 ⟨rfl,hb1⟩
       rw[HE.out]
       have hx:=HC.out w1 hb1
       go_wp2_with fail
       go_ret
       exact⟨by rw[HF.out];rfl,hb1⟩
     · have HF:Hid (afault (x::r)=2):=by show _=_;unfold afault;rw[if_pos h0];simp[h6]
       have h6':(x.op != 6)=true:=by simp[h6]
       clear h0 hc0 hcc hv h6
       go_enter Tryz.func46,Tryz.ntmps46
       go_wp2_with fail
       refine(vcheck_any (x::r) _ c _ HV.out hc hcm).mono ?_
       rintro e w1 ⟨rfl,hb1⟩
       rw[HE.out]
       have hx:=HC.out w1 hb1
       go_wp2_with fail
       go_ret
       exact⟨by rw[HF.out];rfl,hb1⟩
 · have HE:Hid (eV (vfault v)= .iface 70 (.int .i64 (vfault v))):=eV_not h0
   have HF:Hid (afault v=vfault v):=if_neg h0
   clear h0
   go_enter Tryz.func46,Tryz.ntmps46
   go_wp2_with fail
   refine(vcheck_any v _ c _ hv hc hcm).mono ?_
   rintro e w1 ⟨rfl,hb1⟩
   rw[HE.out]
   go_wp2_with fail
   go_ret
   exact⟨by rw[HF.out,HE.out];rfl,hb1⟩
theorem lfault_cons (seen:List Ui)(e:En)(r:List En):lfault seen (e::r)=if uqf seen e.u=0 then(if ffup e.up=0 then(if afault e.nd=0 then lfault (seen++[e.u]) r else afault e.nd)else ffup e.up)else uqf seen e.u:=by
 conv=>lhs;unfold lfault
 unfold uqf efault
 by_cases h0:uf e.u=0
 · rw[if_pos h0,if_pos h0]
   by_cases h1:e.u∈seen
   · rw[if_pos h1,if_pos h1];rfl
   · rw[if_neg h1,if_neg h1,if_pos rfl]
     by_cases h2:ffup e.up=0
     · rw[if_pos h2,if_pos h2]
     · rw[if_neg h2,if_neg h2,if_neg h2]
 · rw[if_neg h0,if_neg h0,if_neg h0]
theorem sfault_full {es:List En}(h:16<es.length):stf es=4:=by unfold stf;rw[if_pos h]
theorem sfault_list {es:List En}(h:¬ 16<es.length)(k:lfault [] es≠0):stf es=lfault [] es:=by unfold stf;rw[if_neg h,if_neg k]
theorem sfault_cyc {es:List En}(h:¬ 16<es.length)(k:lfault [] es=0)(c:Cyc es):stf es=7:=by unfold stf;rw[if_neg h,if_pos k,if_pos c]
theorem sfault_ok {es:List En}(h:¬ 16<es.length)(k:lfault [] es=0)(c:¬Cyc es):stf es=0:=by unfold stf;rw[if_neg h,if_pos k,if_neg c]
theorem few_of {es:List En}(h:¬ 16<es.length)(k:lfault [] es=0):Few es:=by
 obtain⟨i1,i2⟩:=lfault_zero _ _ k
 exact⟨by omega,i2,fun e he=>(ffup_zero (efault_zero (i1 e he).2.2).1).1⟩
def Stored (es:List En)(w:World)(e:Ending)(w':World):Prop:=
 (stf es=0∧∃sb,e= .returned (.tuple #[.map (some sb),.nilIface])∧EMap w w' sb es)∨(stf es≠0∧e= .returned (.tuple #[.map none,eV (stf es)]))
set_option maxRecDepth 100000 in
theorem storeOf_any (es:List En)(p:Option Addr)(c:Nat)(w:World)(hl:EL w p es):
 Calls Tryz.prog 30 #[.slice p es.length c] w fun e w'=>Stored es w e w'∧Below w.heap.size w w':=by
 by_cases h16:16<es.length
 · have h':(16:Int)<(es.length:Int):=by omega
   have HF:Hid (stf es=4):=sfault_full h16
   go_enter Tryz.func30,Tryz.ntmps30
   go_wp2_with fail
   go_ret2
   exact⟨.inr ⟨by rw[HF.out];decide,by rw[HF.out];rfl⟩,Below.refl _ _⟩
 · have h':¬(16:Int)<(es.length:Int):=by omega
   have HL:Hid (EL w p es):=hl
   have HB:Hid (lfault [] es≠0→stf es=lfault [] es):=sfault_list h16
   have HN:Hid (lfault [] es=0→Few es):=few_of h16
   have HO:Hid (lfault [] es=0→¬Cyc es→stf es=0):=sfault_ok h16
   have HY:Hid (lfault [] es=0→Cyc es→stf es=7):=sfault_cyc h16
   generalize hZ:lfault [] es=Z at HB HN HO HY
   have HZ:Hid (lfault ((es.take 0).map (·.u)) (es.drop 0)=Z):=hZ
   clear hl hZ
   have hmm:= @run_makeMap Tryz.prog
   go_enter Tryz.func30,Tryz.ntmps30
   go_wp2_with fail
   go_loopw [19] (fun i wr=>∃k:Nat,k≤es.length∧i= .int .i64 k∧EMap w wr w.heap.size (es.take k)∧USet wr (w.heap.size+1) ((es.take k).map (·.u))∧Below w.heap.size w wr∧Hid (lfault ((es.take k).map (·.u)) (es.drop k)=Z)) (fun i _=>es.length-(intOf i).toNat)
   case atStart=>exact⟨0,Nat.zero_le _,rfl,(EMap.made w w).up ((Below.refl _ _).alloc (Nat.le_refl _) _),by simpa using USet.made (w.alloc (.map #[] 0)),((Below.refl _ _).alloc (Nat.le_refl _) _).alloc (by simp) _,HZ⟩
   case round=>
    obtain⟨k,hk,rfl,hmap,hset,hnx,HR⟩:=hrel
    by_cases hlt:k<es.length
    · have i1:(k:Int)<(es.length:Int):=by omega
      obtain⟨b,off,pu,cu,pa,ca,rfl,hbl,HEV,HUL,HNL,hou,hoU,hu1,hu2,hn1,hn2,g0,g1,g2,g3⟩:=HL.out.at hlt
      have hq:∀o,wr.cell? ⟨b,o,none⟩=w.cell? ⟨b,o,none⟩:=fun o=>hnx.cell (p:=⟨b,o,none⟩) hbl
      have hc0:=(hq _).trans g0
      have hc1:=(hq _).trans g1
      have hc2:=(hq _).trans g2
      have hc3:=(hq _).trans g3
      have HD:Hid (es.drop k=es[k]::es.drop (k+1)):=List.drop_eq_getElem_cons hlt
      have HT:Hid (es.take (k+1)=es.take k++[es[k]]):=List.take_succ_eq_append_getElem hlt
      replace HEV:Hid (EV w _ _):=HEV
      replace HUL:Hid (UL w _ _):=HUL
      replace HNL:Hid (NL w _ _):=HNL
      have HOU:Hid (∀_,_):=hoU
      generalize es[k]=e at *
      have HR2:Hid ((if uqf ((es.take k).map (·.u)) e.u=0 then(if ffup e.up=0 then(if afault e.nd=0 then lfault (((es.take k).map (·.u))++[e.u]) (es.drop (k+1))else afault e.nd)else ffup e.up)else uqf ((es.take k).map (·.u)) e.u)=Z):=by have h:=HR.out;rw[HD.out,lfault_cons]at h;exact h
      have hnz:=hnx.size
      have hsl:=hset.lt
      clear g0 g1 g2 g3 hq hoU HR
      have hbx:=(Below.refl wr.heap.size wr).alloc (Nat.le_refl _) (.cells #[.string e.u.t,.string e.u.i,.slice pu e.up.length cu,.slice pa e.nd.length ca] 102)
      have htl:(es.take k).length=k:=by rw[List.length_take];omega
      by_cases hp:uqf ((es.take k).map (·.u)) e.u=0
      · have HP:Hid (_=_):=hp
        have HR3:Hid ((if ffup e.up=0 then(if afault e.nd=0 then lfault (((es.take k).map (·.u))++[e.u]) (es.drop (k+1))else afault e.nd)else ffup e.up)=Z):=by have h:=HR2.out;rw[if_pos hp]at h;exact h
        clear hp HR2
        go_wp2_with fail
        refine(put_ok (w.heap.size+1) ((es.take k).map (·.u)) e.u _ (hset.up hbx) hou HP.out (by simp;omega)).mono ?_
        rintro er w1 ⟨rfl,hset1,hg1⟩
        have hne1:some wr.heap.size≠some (w.heap.size+1):=fun q=>by simp at q;omega
        have hxc:∀o,w1.cell? ⟨wr.heap.size,o,none⟩=_:=fun o=>cell_grown2 hg1 (by simp) hne1 o
        have x0:w1.cell? ⟨wr.heap.size,0,none⟩=some (.string e.u.t):=by rw[hxc];simp
        have x1:w1.cell? ⟨wr.heap.size,1,none⟩=some (.string e.u.i):=by rw[hxc];simp
        have x2:w1.cell? ⟨wr.heap.size,2,none⟩=some (.slice pu e.up.length cu):=by rw[hxc];simp
        have x3:w1.cell? ⟨wr.heap.size,3,none⟩=some (.slice pa e.nd.length ca):=by rw[hxc];simp
        have hz1:wr.heap.size<w1.heap.size:=by have:=hg1.size;simp at this;omega
        have hb1:Below w.heap.size w w1:=(hnx.trans (hbx.mono hnz)).grown hg1 (by simp;omega) (fun j hj=>by cases hj;omega)
        have hmap1:EMap w w1 w.heap.size (es.take k):=(hmap.up hbx).kept hg1 (fun q=>by simp at q)
        clear hxc
        by_cases hfu:ffup e.up=0
        · have HE2:Hid (eV (ffup e.up)= .nilIface):=eV_nil hfu
          have HR4:Hid ((if afault e.nd=0 then lfault (((es.take k).map (·.u))++[e.u]) (es.drop (k+1))else afault e.nd)=Z):=by have h:=HR3.out;rw[if_pos hfu]at h;exact h
          clear hfu HR3
          go_wp2_with fail
          refine(checkUp_any e.up pu cu _ (HUL.out.up hb1) hu1 hu2 HOU.out).mono ?_
          rintro er w2 ⟨rfl,hb2⟩
          rw[HE2.out]
          have y:∀o,w2.cell? ⟨wr.heap.size,o,none⟩=w1.cell? ⟨wr.heap.size,o,none⟩:=fun o=>hb2.cell (p:=⟨wr.heap.size,o,none⟩) hz1
          have y0:=(y 0).trans x0
          have y1:=(y 1).trans x1
          have y2:=(y 2).trans x2
          have y3:=(y 3).trans x3
          have hb12:Below w.heap.size w w2:=hb1.trans (hb2.mono hb1.size)
          have hz2:wr.heap.size<w2.heap.size:=by have:=hb2.size;omega
          clear y x0 x1 x2 x3
          by_cases hfa:afault e.nd=0
          · have HE3:Hid (eV (afault e.nd)= .nilIface):=eV_nil hfa
            have HR5:Hid (lfault (((es.take k).map (·.u))++[e.u]) (es.drop (k+1))=Z):=by have h:=HR4.out;rw[if_pos hfa]at h;exact h
            clear hfa HR4
            go_wp2_with fail
            refine(checkAttrs_any e.nd pa ca _ (HNL.out.up hb12) hn1 hn2).mono ?_
            rintro er w3 ⟨rfl,hb3⟩
            rw[HE3.out]
            have y:∀o,w3.cell? ⟨wr.heap.size,o,none⟩=w2.cell? ⟨wr.heap.size,o,none⟩:=fun o=>hb3.cell (p:=⟨wr.heap.size,o,none⟩) hz2
            have v0:=(y 0).trans y0
            have v1:=(y 1).trans y1
            have v2:=(y 2).trans y2
            have v3:=(y 3).trans y3
            have hb13:Below w1.heap.size w1 w3:=hb2.trans (hb3.mono hb2.size)
            have hb03:Below w.heap.size w w3:=hb1.trans (hb13.mono hb1.size)
            obtain⟨D,h1,h2,h3⟩:=hmap1.up hb13
            have hNu:∀x∈es.take k,x.u≠e.u:=fun x hx q=>by
             have h:=HP.out
             unfold uqf at h
             by_cases h0:uf e.u=0
             · rw[if_pos h0,if_pos (List.mem_map.2 ⟨x,hx,q⟩)]at h;cases h
             · rw[if_neg h0]at h;exact absurd h h0
            have HT3:Hid (_∧_):=EMap.put h1.isMap h2 h3 hou hNu HEV.out
            have hkey:keyOf Tryz.prog 24 (.agg #[.string e.u.t,.string e.u.i])=some (klit e.u):=keyOf_uid hou
            have hml:(es.take k).length<maxLen:=by rw[htl];unfold maxLen;omega
            clear h2 h3 hNu y y0 y1 y2 y3
            go_wp2_with (at_mapUpdate;refine wpList_mapUpdate_own _ rfl _ _ _ 83 rfl 24 102 uid_law Tryz.underlying83 heldE w.heap.size (es.take k).length D rfl h1 hml _ _ (klit e.u) rfl rfl hkey (.held (.agg #[.string e.u.t,.string e.u.i,.slice pu e.up.length cu,.slice pa e.nd.length ca])) [] rfl ?_;intro w4 hown4 hg4)
            go_roundw
            case rel=>
             refine⟨k+1,by omega,by go_num,?_,?_,hb03.grown hg4 hb03.size (fun j hj=>by cases hj;exact Nat.le_refl _),?_⟩
             · rw[HT.out]
               exact⟨_,by simpa using hown4,HT3.out⟩
             · rw[HT.out,List.map_append]
               exact(hset1.up hb13).kept hg4 (fun q=>by simp at q)
             · show _=Z
               rw[HT.out,List.map_append]
               exact HR5.out
            case measure=>simp[intOf];omega
          · have HE3:Hid (eV (afault e.nd)= .iface 70 (.int .i64 (afault e.nd))):=eV_not hfa
            have HR5:Hid (afault e.nd=Z):=by have h:=HR4.out;rw[if_neg hfa]at h;exact h
            have HA:Hid (afault e.nd≠0):=hfa
            clear hfa HR4
            go_wp2_with fail
            refine(checkAttrs_any e.nd pa ca _ (HNL.out.up hb12) hn1 hn2).mono ?_
            rintro er w3 ⟨rfl,hb3⟩
            rw[HE3.out]
            go_wp2_with fail
            go_ret2
            have hz:Z≠0:=by rw[←HR5.out];exact HA.out
            exact⟨.inr ⟨by rw[HB.out hz];exact hz,by rw[HB.out hz,←HR5.out,HE3.out];rfl⟩,hb12.trans (hb3.mono hb12.size)⟩
        · have HE2:Hid (eV (ffup e.up)= .iface 70 (.int .i64 (ffup e.up))):=eV_not hfu
          have HR4:Hid (ffup e.up=Z):=by have h:=HR3.out;rw[if_neg hfu]at h;exact h
          have HA:Hid (ffup e.up≠0):=hfu
          clear hfu HR3
          go_wp2_with fail
          refine(checkUp_any e.up pu cu _ (HUL.out.up hb1) hu1 hu2 HOU.out).mono ?_
          rintro er w2 ⟨rfl,hb2⟩
          rw[HE2.out]
          go_wp2_with fail
          go_ret2
          have hz:Z≠0:=by rw[←HR4.out];exact HA.out
          exact⟨.inr ⟨by rw[HB.out hz];exact hz,by rw[HB.out hz,←HR4.out,HE2.out];rfl⟩,hb1.trans (hb2.mono hb1.size)⟩
      · have HP:Hid (_≠_):=hp
        have HR3:Hid (uqf ((es.take k).map (·.u)) e.u=Z):=by have h:=HR2.out;rw[if_neg hp]at h;exact h
        have HE1:Hid (eV (uqf ((es.take k).map (·.u)) e.u)= .iface 70 (.int .i64 Z)):=by
         show _=_
         rw[←HR3.out]
         exact eV_not hp
        clear hp HR2
        go_wp2_with fail
        refine(put_err (w.heap.size+1) ((es.take k).map (·.u)) e.u _ (hset.up hbx) hou HP.out).mono ?_
        rintro er w1 ⟨rfl,hb1⟩
        rw[HE1.out]
        go_wp2_with fail
        go_ret2
        have hz:Z≠0:=by rw[←HR3.out];exact HP.out
        exact⟨.inr ⟨by rw[HB.out hz];exact hz,by rw[HB.out hz,eV_not hz];rfl⟩,(hnx.trans (hbx.mono hnz)).trans (hb1.mono (by simp;omega))⟩
    · obtain rfl:k=es.length:=by omega
      have i1:¬(es.length:Int)<(es.length:Int):=by omega
      have HZ0:Hid (Z=0):=by have h:=HR.out;rw[List.drop_length]at h;exact h.symm
      have HF:Hid (Few es):=HN.out HZ0.out
      rw[List.take_length]at hmap
      clear hset
      go_wp2_with fail
      refine(hasCycle_any es w w.heap.size HF.out _ hmap hnx).mono ?_
      rintro er w1 ⟨cy,rfl,hcy,hb1⟩
      have hmap1:=hmap.up hb1
      cases cy
      · have HNC:Hid (¬Cyc es):=fun q=>by have:=hcy.2 q;cases this
        clear hcy
        go_wp2_with fail
        go_ret2
        exact⟨.inl ⟨HO.out HZ0.out HNC.out,w.heap.size,rfl,hmap1⟩,hnx.trans (hb1.mono hnx.size)⟩
      · have HCY:Hid (Cyc es):=hcy.1 rfl
        clear hcy
        go_wp2_with fail
        go_ret2
        have h7:=HY.out HZ0.out HCY.out
        exact⟨.inr ⟨by rw[h7];decide,by rw[h7];rfl⟩,hnx.trans (hb1.mono hnx.size)⟩
theorem sfault_list0 {es:List En}(h:stf es=0):lfault [] es=0:=by
 unfold stf at h
 by_cases h1:16<es.length
 · rw[if_pos h1]at h;cases h
 · rw[if_neg h1]at h
   by_cases h2:lfault [] es=0
   · exact h2
   · rw[if_neg h2]at h;exact h
theorem good_nodes {es:List En}(h:stf es=0){e:En}(he:e∈es):e.nd≠[]∧e.nd.length≤200:=by
 have h1:=(efault_zero ((lfault_zero _ _ (sfault_list0 h)).1 e he).2.2).2
 have h2:vfault e.nd=0:=by
  unfold afault at h1
  by_cases h2:vfault e.nd=0
  · exact h2
  · rw[if_neg h2]at h1;exact absurd h1 h2
 refine⟨fun e0=>vfault_nil (by rw[e0]at h2;exact h2),?_⟩
 unfold vfault at h2
 by_cases h3:200<e.nd.length
 · rw[if_pos h3]at h2;cases h2
 · omega
set_option maxRecDepth 100000 in
theorem EMap.found {w0 w:World}{b:Nat}{es:List En}(h:EMap w0 w b es){e:En}(he:e∈es):
 ∃(pu:Option Addr) (cu:Nat) (pa:Option Addr) (ca:Nat),(Instr.lookup 83 (.map (some b)) (.agg #[.string e.u.t,.string e.u.i]) true).run Tryz.prog w= .ok (.tuple #[.agg #[.string e.u.t,.string e.u.i,.slice pu e.up.length cu,.slice pa e.nd.length ca],.bool true]) w∧NL w0 pa e.nd:=by
 obtain⟨D,h1,h2,h3⟩:=h
 obtain⟨hh,hu,y,hy,hat⟩:=h3 e he
 obtain⟨v,ps,hrun,hv⟩:=h1.look_ok uid_law Tryz.underlying83 (zeroEnt w) (zd:=.held _) (zp:=[]) rfl (keyOf_uid hu)
 unfold heldE at hv
 simp only[Option.some.injEq,Prod.mk.injEq]at hv
 rw[hat]at hv
 obtain⟨pu,cu,pa,ca,rfl,k1,k2,_⟩:=hy
 obtain⟨e1,_⟩:=hv
 injection e1 with e1
 subst e1
 rw[hh]at hrun
 exact⟨pu,cu,pa,ca,hrun,k2⟩
set_option maxRecDepth 100000 in
theorem EMap.lost {w0 w:World}{b:Nat}{es:List En}(h:EMap w0 w b es){u:Ui}(hu:UOk u)(hn:∀e∈es,e.u≠u):
 (Instr.lookup 83 (.map (some b)) (.agg #[.string u.t,.string u.i]) true).run Tryz.prog w= .ok (.tuple #[.agg #[.string ⟨#[]⟩,.string ⟨#[]⟩,.slice none 0 0,.slice none 0 0],.bool false]) w:=by
 obtain⟨D,h1,h2,h3⟩:=h
 obtain⟨v,ps,hrun,hv⟩:=h1.look_ok uid_law Tryz.underlying83 (zeroEnt w) (zd:=.held _) (zp:=[]) rfl (keyOf_uid hu)
 have hno:=EMap.hasNot (w0:=w0) (w:=w) (b:=b) h2 (fun e he=>(h3 e he).2.1) hu hn
 unfold heldE at hv
 simp only[Option.some.injEq,Prod.mk.injEq]at hv
 rw[atKey_of_not_has hno]at hv
 obtain⟨e1,_⟩:=hv
 injection e1 with e1
 subst e1
 rw[hno]at hrun
 exact hrun
set_option maxRecDepth 100000 in
theorem attrs_full (es:List En)(p:Option Addr)(c:Nat)(x:En)(w:World)(hl:EL w p es)(hx:x∈es)(hux:UOk x.u)(h0:stf es=0):
 Calls Tryz.prog 128 #[.slice p es.length c,.agg #[.string x.u.t,.string x.u.i]] w fun e w'=>(∃q c',e= .returned (.tuple #[.slice q x.nd.length c',.nilIface])∧NL w' q x.nd∧x.nd.length≤c'∧c'≤maxLen)∧Below w.heap.size w w':=by
 have hbx:Below w.heap.size w (w.alloc (.cells #[.string x.u.t,.string x.u.i] 24)):=(Below.refl _ _).alloc (Nat.le_refl _) _
 have HL:Hid (EL _ p es):=hl.up hbx
 have HX:Hid (x∈es):=hx
 have H0:Hid (stf es=0):=h0
 clear hl hx h0
 go_enter Tryz.func128,Tryz.ntmps128
 go_wp2_with fail
 refine(storeOf_any es p c _ HL.out).mono ?_
 rintro e w1 ⟨⟨_,sb,rfl,hm⟩ | ⟨h0,_⟩,hb1⟩
 · have a0:w1.cell? ⟨w.heap.size,0,none⟩=some (.string x.u.t):=(hb1.cell (p:=⟨w.heap.size,0,none⟩) (by simp)).trans (by simp)
   have a1:w1.cell? ⟨w.heap.size,1,none⟩=some (.string x.u.i):=(hb1.cell (p:=⟨w.heap.size,1,none⟩) (by simp)).trans (by simp)
   obtain⟨pu,cu,pa,ca,hrun,hNL⟩:=hm.found HX.out
   obtain⟨hne,h200⟩:=good_nodes H0.out HX.out
   have hNL1:=hNL.up hb1
   rcases hNL1 with hN | ⟨b,off,rfl,hbl,hcells⟩
   · exact absurd hN hne
   have HNL:Hid (NL w1 (some ⟨b,off,none⟩) x.nd):=.inr ⟨b,off,rfl,hbl,hcells⟩
   have HB1:Hid (Below w.heap.size w w1):=hbx.trans (hb1.mono hbx.size)
   clear hm hNL hcells hb1 hbx hne
   go_wp2_with fail
   refine(cloneN_fn x.nd b off ca _ (HNL.out.up ((Below.refl _ _).alloc (Nat.le_refl _) _)) (by omega)).mono ?_
   rintro e w2 ⟨⟨q,c',rfl,hq,hq1,hq2⟩,hb2⟩
   have HQ:Hid (NL w2 q x.nd):=hq
   have HB2:Hid (Below w.heap.size w w2):=HB1.out.trans ((((Below.refl w1.heap.size w1).alloc (Nat.le_refl _) _).trans (hb2.mono (by simp))).mono HB1.out.size)
   clear hq hb2 hrun
   go_wp2_with fail
   go_ret2
   exact⟨⟨q,c',rfl,HQ.out,hq1,hq2⟩,HB2.out⟩
 · exact absurd H0.out h0
theorem attrs_found (es:List En)(p:Option Addr)(c:Nat)(x:En)(w:World)(hl:EL w p es)(hx:x∈es)(hux:UOk x.u)(h0:stf es=0):
 Calls Tryz.prog 128 #[.slice p es.length c,.agg #[.string x.u.t,.string x.u.i]] w fun e w'=>(∃q c',e= .returned (.tuple #[.slice q x.nd.length c',.nilIface])∧NL w' q x.nd)∧Below w.heap.size w w':=
 (attrs_full es p c x w hl hx hux h0).mono fun e w' ⟨⟨q,c',h1,h2,_,_⟩,h3⟩=>⟨⟨q,c',h1,h2⟩,h3⟩
set_option maxRecDepth 100000 in
theorem attrs_lost (es:List En)(p:Option Addr)(c:Nat)(a:Ui)(w:World)(hl:EL w p es)(hn:∀e∈es,e.u≠a)(ha:UOk a)(h0:stf es=0):
 Calls Tryz.prog 128 #[.slice p es.length c,.agg #[.string a.t,.string a.i]] w fun e w'=>e= .returned (.tuple #[.slice none 0 0,eV 8])∧Below w.heap.size w w':=by
 have hbx:Below w.heap.size w (w.alloc (.cells #[.string a.t,.string a.i] 24)):=(Below.refl _ _).alloc (Nat.le_refl _) _
 have HL:Hid (EL _ p es):=hl.up hbx
 have HN:Hid (∀_,_):=hn
 have H0:Hid (stf es=0):=h0
 clear hl hn h0
 go_enter Tryz.func128,Tryz.ntmps128
 go_wp2_with fail
 refine(storeOf_any es p c _ HL.out).mono ?_
 rintro e w1 ⟨⟨_,sb,rfl,hm⟩ | ⟨h0,_⟩,hb1⟩
 · have a0:w1.cell? ⟨w.heap.size,0,none⟩=some (.string a.t):=(hb1.cell (p:=⟨w.heap.size,0,none⟩) (by simp)).trans (by simp)
   have a1:w1.cell? ⟨w.heap.size,1,none⟩=some (.string a.i):=(hb1.cell (p:=⟨w.heap.size,1,none⟩) (by simp)).trans (by simp)
   have hrun:=hm.lost ha HN.out
   have HB1:Hid (Below w.heap.size w w1):=hbx.trans (hb1.mono hbx.size)
   clear hm hb1 hbx
   go_wp2_with fail
   go_ret2
   exact⟨rfl,HB1.out.alloc HB1.out.size _⟩
 · exact absurd H0.out h0
set_option maxRecDepth 100000 in
theorem attrs_err (es:List En)(p:Option Addr)(c:Nat)(a:Ui)(w:World)(hl:EL w p es)(h0:stf es≠0):
 Calls Tryz.prog 128 #[.slice p es.length c,.agg #[.string a.t,.string a.i]] w fun e w'=>e= .returned (.tuple #[.slice none 0 0,eV (stf es)])∧Below w.heap.size w w':=by
 have hbx:Below w.heap.size w (w.alloc (.cells #[.string a.t,.string a.i] 24)):=(Below.refl _ _).alloc (Nat.le_refl _) _
 have HL:Hid (EL _ p es):=hl.up hbx
 have H0:Hid (stf es≠0):=h0
 have HE:Hid (eV (stf es)= .iface 70 (.int .i64 (stf es))):=eV_not h0
 clear hl h0
 go_enter Tryz.func128,Tryz.ntmps128
 go_wp2_with fail
 refine(storeOf_any es p c _ HL.out).mono ?_
 rintro e w1 ⟨⟨h0,_⟩ | ⟨h0,rfl⟩,hb1⟩
 · exact absurd h0 H0.out
 · rw[HE.out]
   clear h0
   go_wp2_with fail
   go_ret2
   exact⟨by rw[HE.out];rfl,hbx.trans (hb1.mono hbx.size)⟩
end Go.Proofs.YtlnhaajjoplafaaGreatDoor
namespace Go.Proofs.YtlnhaajjoplafaaGreatDoor
def addU (M:List Ui)(y:Ui):List Ui:=if y∈M then M else M++[y]
theorem addU_in {M:List Ui}{y:Ui}(h:y∈M):addU M y=M:=if_pos h
theorem addU_new {M:List Ui}{y:Ui}(h:y∉M):addU M y=M++[y]:=if_neg h
theorem addU_mem (M:List Ui)(y:Ui):y∈addU M y:=by
 unfold addU
 by_cases h:y∈M
 · rw[if_pos h];exact h
 · rw[if_neg h];simp
theorem addU_sub {M:List Ui}{y v:Ui}(h:v∈M):v∈addU M y:=by
 unfold addU
 by_cases k:y∈M
 · rw[if_pos k];exact h
 · rw[if_neg k];simp[h]
theorem addU_at {M:List Ui}{u y x:Ui}{j:Nat}(h:(u::M)[j]? =some x):(u::addU M y)[j]? =some x:=by
 unfold addU
 by_cases k:y∈M
 · rw[if_pos k];exact h
 · rw[if_neg k,←List.cons_append,List.getElem?_append_left (List.getElem?_eq_some_iff.1 h).1];exact h
structure UpsI (es:List En)(u:Ui)(s i:Nat)(M:List Ui):Prop where
 nodup:M.Nodup
 abv:∀v∈M,Abv es u v
 steps:∀v,AbvN es s u v→v∈M
 done:∀(j:Nat) (x:Ui),j<i→(u::M)[j]? =some x→∀y∈upsOf es x,y∈M
 cnt:M.length+toCome (allUps es) M≤(allUps es).length
theorem UpsI.start (es:List En)(u:Ui):UpsI es u 0 0 []:=
 ⟨List.nodup_nil,fun v h=>by(cases h),fun v h=>h.elim,fun j x h=>absurd h (Nat.not_lt_zero _),by simpa using toCome_len _ _⟩
theorem UpsI.add {es:List En}{u:Ui}{s i:Nat}{M:List Ui}(h:UpsI es u s i M){x y:Ui}(hi:(u::M)[i]? =some x)(hy:y∈upsOf es x):UpsI es u s i (addU M y):=by
 by_cases k:y∈M
 · rw[addU_in k];exact h
 · have hil:=(List.getElem?_eq_some_iff.1 hi).1
   have hab:Abv es u y:=by
    rcases List.mem_cons.1 (List.mem_of_getElem? hi)with rfl | hx
    · exact .one hy
    · exact(h.abv x hx).trans (.one hy)
   rw[addU_new k]
   refine⟨?_,fun v hv=>?_,fun v hv=>by simp[h.steps v hv],fun j z hj hz w hw=>?_,?_⟩
   · rw[List.nodup_append]
     exact⟨h.nodup,by simp,fun a ha b hb e=>by rw[List.mem_singleton.1 hb]at e;rw[e]at ha;exact k ha⟩
   · rcases List.mem_append.1 hv with hv | hv
     · exact h.abv v hv
     · rw[List.mem_singleton.1 hv];exact hab
   · have hz':(u::M)[j]? =some z:=by
      rw[←List.cons_append,List.getElem?_append_left (by omega)]at hz;exact hz
     exact List.mem_append_left _ (h.done j z hj hz' w hw)
   · have:=toCome_lt (allUps_mem hy) k
     have:=h.cnt
     rw[List.length_append,List.length_singleton]
     omega
theorem UpsI.next {es:List En}{u:Ui}{s i:Nat}{M:List Ui}(h:UpsI es u s i M){x:Ui}(hi:(u::M)[i]? =some x)(hd:∀y∈upsOf es x,y∈M):UpsI es u s (i+1) M:=by
 refine⟨h.nodup,h.abv,h.steps,fun j z hj hz y hy=>?_,h.cnt⟩
 rcases Nat.lt_or_ge j i with hlt | hge
 · exact h.done j z hlt hz y hy
 · obtain rfl:j=i:=by omega
   rw[hi]at hz
   cases hz
   exact hd y hy
theorem UpsI.level {es:List En}{u:Ui}{s:Nat}{M0 M:List Ui}(h:UpsI es u s (M0.length+1) M)(hp:∀(j:Nat) (x:Ui),(u::M0)[j]? =some x→(u::M)[j]? =some x)(h0:∀v,AbvN es s u v→v∈M0):UpsI es u (s+1) (M0.length+1) M:=by
 refine⟨h.nodup,h.abv,fun v hv=>?_,h.done,h.cnt⟩
 obtain⟨x,hx,hv⟩:=hv
 have hm:x∈u::M0:=by
  rcases hx with rfl | hx
  · simp
  · simp[h0 x hx]
 obtain⟨j,hj⟩:=List.getElem?_of_mem hm
 have hl:=(List.getElem?_eq_some_iff.1 hj).1
 exact h.done j x (by simpa using hl) (hp j x hj) v hv
theorem UpsI.all {es:List En}{u:Ui}{i:Nat}{M:List Ui}(h:UpsI es u es.length i M)(v:Ui):v∈M↔Abv es u v:=
 ⟨h.abv v,fun hv=>h.steps v ((abv_iff es u v).1 hv)⟩
theorem UpsI.small {es:List En}{u:Ui}{s i:Nat}{M:List Ui}(h:UpsI es u s i M)(hf:Few es):M.length≤96:=by
 have h1:=h.cnt
 have h2:=allUps_len es hf.ups
 have h3:=hf.few
 omega
theorem uid_cases (x y:Ui):x=y∨(x≠y∧¬x.t.toList=y.t.toList)∨(x≠y∧∃i,x=⟨y.t,i⟩∧¬i.toList=y.i.toList):=by
 by_cases h:x=y
 · exact .inl h
 · by_cases ht:x.t=y.t
   · refine .inr (.inr ⟨h,x.i,Ui.ext' ht rfl,fun e=>h (Ui.ext' ht (bytes_inj (by simpa only[ByteArray.toList_eq]using e)))⟩)
   · exact .inr (.inl ⟨h,fun e=>ht (bytes_inj (by simpa only[ByteArray.toList_eq]using e))⟩)
end Go.Proofs.YtlnhaajjoplafaaGreatDoor
namespace Go.Proofs.YtlnhaajjoplafaaGreatDoor
open Go.RowKit Go.Maps Go.WideMaps
set_option linter.unusedSimpArgs false
theorem entCheck_any (es:List En)(p:Option Addr)(c:Nat)(w:World)(hl:EL w p es):
 Calls Tryz.prog 14 #[.slice p es.length c] w fun e w'=>e= .returned (eV (stf es))∧Below w.heap.size w w':=by
 go_enter Tryz.func14,Tryz.ntmps14
 go_wp2_with fail
 refine(storeOf_any es p c _ hl).mono ?_
 rintro e w1 ⟨⟨h0,sb,rfl,hm⟩ | ⟨h0,rfl⟩,hb1⟩
 · have HE:Hid (eV (stf es)= .nilIface):=eV_nil h0
   clear h0
   go_wp2_with fail
   go_ret
   exact⟨by rw[HE.out];rfl,hb1⟩
 · have HE:Hid (eV (stf es)= .iface 70 (.int .i64 (stf es))):=eV_not h0
   clear h0
   rw[HE.out]
   go_wp2_with fail
   go_ret
   exact⟨by rw[HE.out];rfl,hb1⟩
end Go.Proofs.YtlnhaajjoplafaaGreatDoor
namespace Go.Proofs.YtlnhaajjoplafaaGreatDoor
open Go.RowKit
set_option maxRecDepth 100000
section
variable (w:World)
theorem refTruth_any (b:Bool):Calls Tryz.prog 10 #[.bool b] w fun e w'=>VRet (tN b) 1 e w'∧Below w.heap.size w w':=by
 have hw:∀x∈tN b,x.wf:=by intro x hx;simp only[tN,List.mem_singleton]at hx;subst hx;exact⟨by unfold maxLen;show 0≤_;decide,by unfold maxLen;show 0≤_;decide,by cases b<;>simp⟩
 cases b
 · go_enter Tryz.func10,Tryz.ntmps10
   go_wp2
   go_ret
   exact⟨⟨_,_,rfl,rfl,NL.lit w (tN false) _ hw rfl (by decide),Nat.le_refl _,by unfold maxLen;decide,tN_is _⟩,(Below.refl _ _).alloc (Nat.le_refl _) _⟩
 · go_enter Tryz.func10,Tryz.ntmps10
   go_wp2
   go_ret
   exact⟨⟨_,_,rfl,rfl,NL.lit w (tN true) _ hw rfl (by decide),Nat.le_refl _,by unfold maxLen;decide,tN_is _⟩,(Below.refl _ _).alloc (Nat.le_refl _) _⟩
end
end Go.Proofs.YtlnhaajjoplafaaGreatDoor
