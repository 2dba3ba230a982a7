import Derived.Test.YtnbkfggmpiccjaaGreatDoorE40
import Derived.Test.YtnbkfggmpiccjaaGreatDoorE30
import Derived.Test.YtnbkfggmpiccjaaGreatDoorE23
import Derived.Test.YtnbkfggmpiccjaaGreatDoorE28
import Derived.Deep.RegionHeld
set_option linter.unusedVariables false
set_option maxHeartbeats 12000000
namespace Go.Proofs.YtnbkfggmpiccjaaGreatDoor
open Go.RowKit
set_option maxRecDepth 100000
structure S2 (w W:World)(b off n c b2 off2 m d:Nat)(y:Nd)(r:List Nd)(z:Nd)(t:List Nd):Prop where
 hb:Below w.heap.size w W
 hg:GB W w.heap.size (some ⟨b,off,none⟩) n c
 hk:GB W (w.heap.size+1) (some ⟨b2,off2,none⟩) m d
 v:VArg W (y::r) n (some ⟨b,off,none⟩) c
 u:VArg W (z::t) m (some ⟨b2,off2,none⟩) d
 R:GR W (w.heap.size+1+1)
section
variable {w W:World} {b off n c b2 off2 m d:Nat} {y:Nd} {r:List Nd} {z:Nd} {t:List Nd} (h:S2 w W b off n c b2 off2 m d y r z t)
include h
theorem S2.up {W':World}(k:Below W.heap.size W W'):S2 w W' b off n c b2 off2 m d y r z t:=⟨qbt h.hb k,h.hg.up k,h.hk.up k,h.v.up k,h.u.up k,h.R.up k⟩
theorem S2.cells:W.cell? ⟨w.heap.size,0,none⟩=some (.slice (some ⟨b,off,none⟩) n c)∧W.cell? ⟨w.heap.size,1,none⟩=some (.int .i64 0)∧W.cell? ⟨w.heap.size+1,0,none⟩=some (.slice (some ⟨b2,off2,none⟩) m d)∧W.cell? ⟨w.heap.size+1,1,none⟩=some (.int .i64 0)∧W.cell? ⟨b,off,none⟩=some (.int .i64 y.op)∧W.cell? ⟨b,off+1,none⟩=some (.int .i64 y.n)∧W.cell? ⟨b,off+2,none⟩=some (.string y.s)∧W.cell? ⟨b,off+3,none⟩=some (.string y.t)∧W.cell? ⟨b2,off2,none⟩=some (.int .i64 z.op)∧W.cell? ⟨b2,off2+1,none⟩=some (.int .i64 z.n)∧W.cell? ⟨b2,off2+2,none⟩=some (.string z.s)∧W.cell? ⟨b2,off2+3,none⟩=some (.string z.t)∧W.cell? ⟨w.heap.size+1+1,0,none⟩=some (.slice none 0 0)∧W.cell? ⟨w.heap.size+1+1,1,none⟩=some (.int .i64 0)∧W.frozen? ⟨w.heap.size+1+1,0,none⟩=false∧W.frozen? ⟨w.heap.size+1+1,1,none⟩=false:=by
 obtain⟨n0,n1,n2,n3⟩:=h.v.cells
 obtain⟨c0,c1,c2,c3⟩:=h.u.cells
 exact⟨h.hg.cells.1,h.hg.cells.2,h.hk.cells.1,h.hk.cells.2,n0,n1,n2,n3,c0,c1,c2,c3,h.R.cells⟩
theorem S2.ret {R:Except Int (List Nd)}{u v:Value}(hG:GRet R (.returned (.agg #[u,v])) W):GRet R (.returned (.agg #[u,v])) ((W.setCell ⟨w.heap.size+1+1,0,none⟩ u).setCell ⟨w.heap.size+1+1,1,none⟩ v)∧Below w.heap.size w ((W.setCell ⟨w.heap.size+1+1,0,none⟩ u).setCell ⟨w.heap.size+1+1,1,none⟩ v):=h.R.ret (by omega) h.hb hG
end
theorem S2.new {w:World}{a v:List Nd}{n m:Nat}{q p:Option Addr}{c d:Nat}(h:VArg w a n q c)(g:VArg w v m p d):
 ∃y r b off z t b2 off2,a=y::r∧q=some ⟨b,off,none⟩∧v=z::t∧p=some ⟨b2,off2,none⟩∧(0:Int)<(n:Int)∧(0:Int)<(m:Int)∧∃W,W=((w.alloc (.cells #[.slice (some ⟨b,off,none⟩) n c,.int .i64 0] 30)).alloc (.cells #[.slice (some ⟨b2,off2,none⟩) m d,.int .i64 0] 30)).alloc (.cells #[.slice none 0 0,.int .i64 0] 30)∧S2 w W b off n c b2 off2 m d y r z t:=by
 obtain⟨y,r,b,off,rfl,rfl,_,_,_,_,_,_,hn1⟩:=h.head
 obtain⟨z,t,b2,off2,rfl,rfl,_,_,_,_,_,_,hn2⟩:=g.head
 have hb:Below w.heap.size w (((w.alloc (.cells #[.slice (some ⟨b,off,none⟩) n c,.int .i64 0] 30)).alloc (.cells #[.slice (some ⟨b2,off2,none⟩) m d,.int .i64 0] 30)).alloc (.cells #[.slice none 0 0,.int .i64 0] 30)):=(((Below.refl _ _).alloc (Nat.le_refl _) _).alloc (by simp) _).alloc (by simp;omega) _
 exact⟨y,r,b,off,z,t,b2,off2,rfl,rfl,rfl,rfl,by omega,by omega,_,rfl,hb,((GB.new w _ _ _ rfl).up ((Below.refl _ _).alloc (Nat.le_refl _) _)).up ((Below.refl _ _).alloc (Nat.le_refl _) _),(GB.new _ _ _ _ (by simp)).up ((Below.refl _ _).alloc (Nat.le_refl _) _),h.up hb,g.up hb,GR.new _ (by simp)⟩
theorem nodes_arg {a v:List Nd}{n m c d:Nat}{q p:Option Addr}{w:World}(h:VArg w a n q c)(g:VArg w v m p d):Calls Tryz.prog 49 #[.slice q n c,.slice p m d] w fun e w'=>e= .returned (.int .i64 (lsC a v))∧Below w.heap.size w w':=by
 obtain rfl:a.length=n:=h.len
 obtain rfl:v.length=m:=g.len
 refine(refNodes_any a v q p c d w h.nl g.nl (Nat.le_trans h.le h.cm) (Nat.le_trans g.le g.cm)).mono ?_
 rintro e w' ⟨rfl,k,rfl⟩
 exact⟨rfl,⟨rfl,rfl,rfl,Nat.le_refl _,fun _ _=>rfl⟩⟩
theorem within_arg {l:List (List Nd)}{a v:List Nd}{n m c d:Nat}{q p:Option Addr}{w:World}(hS:IsSet l)(hE:a=setN l)(h:VArg w a n q c)(g:VArg w v m p d):Calls Tryz.prog 88 #[.slice q n c,.slice p m d] w fun e w'=>e= .returned (.bool (inB l v))∧Below w.heap.size w w':=by
 subst hE
 obtain rfl:(setN l).length=n:=h.len
 obtain rfl:v.length=m:=g.len
 exact within_any l v q p c d w h.nl h.le h.cm g.nl (Nat.le_trans g.le g.cm) hS
theorem chosen_arg {l k:List (List Nd)}{a v:List Nd}{n m c d:Nat}{q p:Option Addr}{w:World}(hS:IsSet l)(hE:a=setN l)(hS2:IsSet k)(hE2:v=setN k)(h:VArg w a n q c)(g:VArg w v m p d):Calls Tryz.prog 89 #[.slice p m d,.slice q n c,.bool true] w fun e w'=>(∃q' c',e= .returned (.slice q' (k.filter fun x=>inB l x).length c'))∧Below w.heap.size w w':=by
 subst hE hE2
 obtain rfl:(setN l).length=n:=h.len
 obtain rfl:(setN k).length=m:=g.len
 refine(chosen_any k l true p q d c w.heap.size w (Nat.le_refl _) (NT.old g.nl rfl) g.le g.cm h.nl h.le h.cm hS2 hS).mono ?_
 rintro e w' ⟨⟨x,rfl,ho⟩,hb⟩
 have e1:(k.filter fun x=>inB l x == true)=k.filter fun x=>inB l x:=by congr 1;funext x;cases inB l x<;>rfl
 rw[e1]at ho
 obtain⟨q',c',rfl,_⟩:=ho.lists
 exact⟨⟨q',c',rfl⟩,hb⟩
theorem all_count (l k:List (List Nd)):(((k.filter fun x=>inB l x).length:Int) == (k.length:Int))=allB l k:=by
 rw[Bool.eq_iff_iff,beq_iff_eq,allB_iff]
 constructor
 · intro h
   have h1:(k.filter fun x=>inB l x).length=k.length:=by omega
   have h2:=List.length_filter_eq_length_iff.1 h1
   exact fun x hx=>(inB_iff _ _).1 (h2 x hx)
 · intro h
   have h1:(k.filter fun x=>inB l x).length=k.length:=List.length_filter_eq_length_iff.2 (fun x hx=>(inB_iff _ _).2 (h x hx))
   omega
theorem any_count (l k:List (List Nd)):decide (0<(k.filter fun x=>inB l x).length)=anyB l k:=by
 rw[Bool.eq_iff_iff,decide_eq_true_iff,anyB_iff]
 constructor
 · intro h
   have h1:0<(k.filter fun x=>inB l x).length:=by omega
   obtain⟨x,hx⟩:=List.exists_mem_of_length_pos h1
   obtain⟨hx,h2⟩:=List.mem_filter.1 hx
   exact⟨x,hx,(inB_iff _ _).1 h2⟩
 · rintro⟨x,hx,h2⟩
   have h1:x∈k.filter fun x=>inB l x:=List.mem_filter.2 ⟨hx,(inB_iff _ _).2 h2⟩
   have:=List.length_pos_of_mem h1
   omega
section
variable {es:List En} (ps:Option Addr) (cs:Nat) (op:Int) (a v:List Nd) (n m:Nat) (q p:Option Addr) (c d:Nat) (w:World)
theorem ref_sets_bad1 (h:VArg w a n q c)(g:VArg w v m p d)(a5:opV a≠5):
 Calls Tryz.prog 55 #[.int .i64 op,.agg #[.slice q n c,.int .i64 0],.agg #[.slice p m d,.int .i64 0]] w fun e w'=>GRet (.error 2) e w'∧Below w.heap.size w w':=by
 obtain⟨y,r,b,off,z,t,b2,off2,rfl,rfl,rfl,rfl,i0,i9,W,hW,S⟩:=S2.new h g
 have HIA:=isN a5 n (some ⟨b,off,none⟩) c
 clear a5 h g
 go_enter Tryz.func55,Tryz.ntmps55
 obtain⟨g0,g1,k0,k1,c0,c1,c2,c3,m0,m1,m2,m3,r0,r1,f0,f1⟩:=S.cells
 go_wp2_with fail
 rw[←hW]
 refine(HIA _ S.v).mono ?_
 rintro _ w1 ⟨rfl,hbb⟩
 clear g0 g1 k0 k1 c0 c1 c2 c3 m0 m1 m2 m3 r0 r1 f0 f1
 replace S:=S.up hbb
 obtain⟨g0,g1,k0,k1,c0,c1,c2,c3,m0,m1,m2,m3,r0,r1,f0,f1⟩:=S.cells
 go_wp2_with fail
 refine(refBad_any _ 2).mono ?_
 rintro _ w2 ⟨rfl,hbb⟩
 clear g0 g1 k0 k1 c0 c1 c2 c3 m0 m1 m2 m3 r0 r1 f0 f1
 replace S:=S.up hbb
 obtain⟨g0,g1,k0,k1,c0,c1,c2,c3,m0,m1,m2,m3,r0,r1,f0,f1⟩:=S.cells
 go_wp2
 exact bodyPost_ret (v:=.agg #[.slice none 0 0,.int .i64 2]) (by simp[results,Tryz.results55,go_sem,(S.R.told _ _).1,(S.R.told _ _).2]) rfl (S.ret rfl)
theorem ref_sets_bad2 (h:VArg w a n q c)(g:VArg w v m p d)(a5:opV a=5)(v5:opV v≠5)(ho:op≠25):
 Calls Tryz.prog 55 #[.int .i64 op,.agg #[.slice q n c,.int .i64 0],.agg #[.slice p m d,.int .i64 0]] w fun e w'=>GRet (.error 2) e w'∧Below w.heap.size w w':=by
 obtain⟨y,r,b,off,z,t,b2,off2,rfl,rfl,rfl,rfl,i0,i9,W,hW,S⟩:=S2.new h g
 have HIA:=isY a5 n (some ⟨b,off,none⟩) c
 have HIB:=isN v5 m (some ⟨b2,off2,none⟩) d
 have e25:(op != 25)=true:=by simpa using ho
 clear a5 v5 h g ho
 go_enter Tryz.func55,Tryz.ntmps55
 obtain⟨g0,g1,k0,k1,c0,c1,c2,c3,m0,m1,m2,m3,r0,r1,f0,f1⟩:=S.cells
 go_wp2_with fail
 rw[←hW]
 refine(HIA _ S.v).mono ?_
 rintro _ w1 ⟨rfl,hbb⟩
 clear g0 g1 k0 k1 c0 c1 c2 c3 m0 m1 m2 m3 r0 r1 f0 f1
 replace S:=S.up hbb
 obtain⟨g0,g1,k0,k1,c0,c1,c2,c3,m0,m1,m2,m3,r0,r1,f0,f1⟩:=S.cells
 go_wp2_with fail
 refine(HIB _ S.u).mono ?_
 rintro _ w2 ⟨rfl,hbb⟩
 clear g0 g1 k0 k1 c0 c1 c2 c3 m0 m1 m2 m3 r0 r1 f0 f1
 replace S:=S.up hbb
 obtain⟨g0,g1,k0,k1,c0,c1,c2,c3,m0,m1,m2,m3,r0,r1,f0,f1⟩:=S.cells
 go_wp2_with fail
 refine(refBad_any _ 2).mono ?_
 rintro _ w3 ⟨rfl,hbb⟩
 clear g0 g1 k0 k1 c0 c1 c2 c3 m0 m1 m2 m3 r0 r1 f0 f1
 replace S:=S.up hbb
 obtain⟨g0,g1,k0,k1,c0,c1,c2,c3,m0,m1,m2,m3,r0,r1,f0,f1⟩:=S.cells
 go_wp2
 exact bodyPost_ret (v:=.agg #[.slice none 0 0,.int .i64 2]) (by simp[results,Tryz.results55,go_sem,(S.R.told _ _).1,(S.R.told _ _).2]) rfl (S.ret rfl)
theorem ref_sets_one (h:VArg w a n q c)(g:VArg w v m p d)(a5:opV a=5):
 Calls Tryz.prog 55 #[.int .i64 25,.agg #[.slice q n c,.int .i64 0],.agg #[.slice p m d,.int .i64 0]] w fun e w'=>GRet (.ok (tN (inB (setR a) v))) e w'∧Below w.heap.size w w':=by
 obtain⟨y,r,b,off,z,t,b2,off2,rfl,rfl,rfl,rfl,i0,i9,W,hW,S⟩:=S2.new h g
 have HIA:=isY a5 n (some ⟨b,off,none⟩) c
 obtain⟨hS,hE⟩:=setR_spec h.is.val a5
 have HWI:=fun w1 (h1:VArg w1 (y::r) n (some ⟨b,off,none⟩) c) (h2:VArg w1 (z::t) m (some ⟨b2,off2,none⟩) d)=>within_arg hS hE h1 h2
 clear a5 h g hE hS
 generalize inB (setR (y::r)) (z::t)=BB at *
 go_enter Tryz.func55,Tryz.ntmps55
 obtain⟨g0,g1,k0,k1,c0,c1,c2,c3,m0,m1,m2,m3,r0,r1,f0,f1⟩:=S.cells
 go_wp2_with fail
 rw[←hW]
 refine(HIA _ S.v).mono ?_
 rintro _ w1 ⟨rfl,hbb⟩
 clear g0 g1 k0 k1 c0 c1 c2 c3 m0 m1 m2 m3 r0 r1 f0 f1
 replace S:=S.up hbb
 obtain⟨g0,g1,k0,k1,c0,c1,c2,c3,m0,m1,m2,m3,r0,r1,f0,f1⟩:=S.cells
 go_wp2_with fail
 refine(HWI _ S.v S.u).mono ?_
 rintro _ w2 ⟨rfl,hbb⟩
 clear g0 g1 k0 k1 c0 c1 c2 c3 m0 m1 m2 m3 r0 r1 f0 f1
 replace S:=S.up hbb
 obtain⟨g0,g1,k0,k1,c0,c1,c2,c3,m0,m1,m2,m3,r0,r1,f0,f1⟩:=S.cells
 go_wp2_with fail
 refine(refTruth_any _ _).mono ?_
 rintro _ w3 ⟨⟨q1,d1,rfl,hz⟩,hbb⟩
 clear g0 g1 k0 k1 c0 c1 c2 c3 m0 m1 m2 m3 r0 r1 f0 f1
 replace S:=S.up hbb
 obtain⟨g0,g1,k0,k1,c0,c1,c2,c3,m0,m1,m2,m3,r0,r1,f0,f1⟩:=S.cells
 go_wp2_with fail
 refine(refGood_any _ q1 1 d1).mono ?_
 rintro _ w4 ⟨rfl,hbb⟩
 clear g0 g1 k0 k1 c0 c1 c2 c3 m0 m1 m2 m3 r0 r1 f0 f1
 replace S:=S.up hbb
 replace hz:=hz.up hbb
 obtain⟨g0,g1,k0,k1,c0,c1,c2,c3,m0,m1,m2,m3,r0,r1,f0,f1⟩:=S.cells
 go_wp2
 exact bodyPost_ret (v:=.agg #[.slice q1 1 d1,.int .i64 0]) (by simp[results,Tryz.results55,go_sem,(S.R.told _ _).1,(S.R.told _ _).2]) rfl (S.ret ⟨q1,d1,rfl,hz⟩)
theorem ref_sets_all (h:VArg w a n q c)(g:VArg w v m p d)(a5:opV a=5)(v5:opV v=5):
 Calls Tryz.prog 55 #[.int .i64 26,.agg #[.slice q n c,.int .i64 0],.agg #[.slice p m d,.int .i64 0]] w fun e w'=>GRet (.ok (tN (allB (setR a) (setR v)))) e w'∧Below w.heap.size w w':=by
 obtain⟨y,r,b,off,z,t,b2,off2,rfl,rfl,rfl,rfl,i0,i9,W,hW,S⟩:=S2.new h g
 have HIA:=isY a5 n (some ⟨b,off,none⟩) c
 have HIB:=isY v5 m (some ⟨b2,off2,none⟩) d
 obtain⟨hS,hE⟩:=setR_spec h.is.val a5
 obtain⟨hS2,hE2⟩:=setR_spec g.is.val v5
 have HCH:=fun w1 (h1:VArg w1 (y::r) n (some ⟨b,off,none⟩) c) (h2:VArg w1 (z::t) m (some ⟨b2,off2,none⟩) d)=>chosen_arg hS hE hS2 hE2 h1 h2
 have hzn:z.n=((setR (z::t)).length:Int):=by have:=congrArg nV hE2;exact this
 have HB:((((setR (z::t)).filter fun x=>inB (setR (y::r)) x).length:Int) == ((setR (z::t)).length:Int))=allB (setR (y::r)) (setR (z::t)):=all_count _ _
 rw[←HB]
 clear HB
 clear a5 v5 h g hE hS hE2 hS2
 generalize ((setR (z::t)).filter fun x=>inB (setR (y::r)) x).length=K at *
 rw[←hzn]
 clear hzn
 go_enter Tryz.func55,Tryz.ntmps55
 obtain⟨g0,g1,k0,k1,c0,c1,c2,c3,m0,m1,m2,m3,r0,r1,f0,f1⟩:=S.cells
 go_wp2_with fail
 rw[←hW]
 refine(HIA _ S.v).mono ?_
 rintro _ w1 ⟨rfl,hbb⟩
 clear g0 g1 k0 k1 c0 c1 c2 c3 m0 m1 m2 m3 r0 r1 f0 f1
 replace S:=S.up hbb
 obtain⟨g0,g1,k0,k1,c0,c1,c2,c3,m0,m1,m2,m3,r0,r1,f0,f1⟩:=S.cells
 go_wp2_with fail
 refine(HIB _ S.u).mono ?_
 rintro _ w2 ⟨rfl,hbb⟩
 clear g0 g1 k0 k1 c0 c1 c2 c3 m0 m1 m2 m3 r0 r1 f0 f1
 replace S:=S.up hbb
 obtain⟨g0,g1,k0,k1,c0,c1,c2,c3,m0,m1,m2,m3,r0,r1,f0,f1⟩:=S.cells
 go_wp2_with fail
 refine(HCH _ S.v S.u).mono ?_
 rintro _ w3 ⟨⟨qc,dc,rfl⟩,hbb⟩
 clear g0 g1 k0 k1 c0 c1 c2 c3 m0 m1 m2 m3 r0 r1 f0 f1
 replace S:=S.up hbb
 obtain⟨g0,g1,k0,k1,c0,c1,c2,c3,m0,m1,m2,m3,r0,r1,f0,f1⟩:=S.cells
 go_wp2_with fail
 refine(refTruth_any _ _).mono ?_
 rintro _ w4 ⟨⟨q1,d1,rfl,hz⟩,hbb⟩
 clear g0 g1 k0 k1 c0 c1 c2 c3 m0 m1 m2 m3 r0 r1 f0 f1
 replace S:=S.up hbb
 obtain⟨g0,g1,k0,k1,c0,c1,c2,c3,m0,m1,m2,m3,r0,r1,f0,f1⟩:=S.cells
 go_wp2_with fail
 refine(refGood_any _ q1 1 d1).mono ?_
 rintro _ w5 ⟨rfl,hbb⟩
 clear g0 g1 k0 k1 c0 c1 c2 c3 m0 m1 m2 m3 r0 r1 f0 f1
 replace S:=S.up hbb
 replace hz:=hz.up hbb
 obtain⟨g0,g1,k0,k1,c0,c1,c2,c3,m0,m1,m2,m3,r0,r1,f0,f1⟩:=S.cells
 go_wp2
 exact bodyPost_ret (v:=.agg #[.slice q1 1 d1,.int .i64 0]) (by simp[results,Tryz.results55,go_sem,(S.R.told _ _).1,(S.R.told _ _).2]) rfl (S.ret ⟨q1,d1,rfl,hz⟩)
theorem ref_sets_any (h:VArg w a n q c)(g:VArg w v m p d)(a5:opV a=5)(v5:opV v=5):
 Calls Tryz.prog 55 #[.int .i64 27,.agg #[.slice q n c,.int .i64 0],.agg #[.slice p m d,.int .i64 0]] w fun e w'=>GRet (.ok (tN (anyB (setR a) (setR v)))) e w'∧Below w.heap.size w w':=by
 obtain⟨y,r,b,off,z,t,b2,off2,rfl,rfl,rfl,rfl,i0,i9,W,hW,S⟩:=S2.new h g
 have HIA:=isY a5 n (some ⟨b,off,none⟩) c
 have HIB:=isY v5 m (some ⟨b2,off2,none⟩) d
 obtain⟨hS,hE⟩:=setR_spec h.is.val a5
 obtain⟨hS2,hE2⟩:=setR_spec g.is.val v5
 have HCH:=fun w1 (h1:VArg w1 (y::r) n (some ⟨b,off,none⟩) c) (h2:VArg w1 (z::t) m (some ⟨b2,off2,none⟩) d)=>chosen_arg hS hE hS2 hE2 h1 h2
 have HB:decide (0<((setR (z::t)).filter fun x=>inB (setR (y::r)) x).length)=anyB (setR (y::r)) (setR (z::t)):=any_count _ _
 rw[←HB]
 clear HB
 clear a5 v5 h g hE hS hE2 hS2
 generalize ((setR (z::t)).filter fun x=>inB (setR (y::r)) x).length=K at *
 go_enter Tryz.func55,Tryz.ntmps55
 obtain⟨g0,g1,k0,k1,c0,c1,c2,c3,m0,m1,m2,m3,r0,r1,f0,f1⟩:=S.cells
 go_wp2_with fail
 rw[←hW]
 refine(HIA _ S.v).mono ?_
 rintro _ w1 ⟨rfl,hbb⟩
 clear g0 g1 k0 k1 c0 c1 c2 c3 m0 m1 m2 m3 r0 r1 f0 f1
 replace S:=S.up hbb
 obtain⟨g0,g1,k0,k1,c0,c1,c2,c3,m0,m1,m2,m3,r0,r1,f0,f1⟩:=S.cells
 go_wp2_with fail
 refine(HIB _ S.u).mono ?_
 rintro _ w2 ⟨rfl,hbb⟩
 clear g0 g1 k0 k1 c0 c1 c2 c3 m0 m1 m2 m3 r0 r1 f0 f1
 replace S:=S.up hbb
 obtain⟨g0,g1,k0,k1,c0,c1,c2,c3,m0,m1,m2,m3,r0,r1,f0,f1⟩:=S.cells
 go_wp2_with fail
 refine(HCH _ S.v S.u).mono ?_
 rintro _ w3 ⟨⟨qc,dc,rfl⟩,hbb⟩
 clear g0 g1 k0 k1 c0 c1 c2 c3 m0 m1 m2 m3 r0 r1 f0 f1
 replace S:=S.up hbb
 obtain⟨g0,g1,k0,k1,c0,c1,c2,c3,m0,m1,m2,m3,r0,r1,f0,f1⟩:=S.cells
 go_wp2_with fail
 refine(refTruth_any _ _).mono ?_
 rintro _ w4 ⟨⟨q1,d1,rfl,hz⟩,hbb⟩
 clear g0 g1 k0 k1 c0 c1 c2 c3 m0 m1 m2 m3 r0 r1 f0 f1
 replace S:=S.up hbb
 obtain⟨g0,g1,k0,k1,c0,c1,c2,c3,m0,m1,m2,m3,r0,r1,f0,f1⟩:=S.cells
 go_wp2_with fail
 refine(refGood_any _ q1 1 d1).mono ?_
 rintro _ w5 ⟨rfl,hbb⟩
 clear g0 g1 k0 k1 c0 c1 c2 c3 m0 m1 m2 m3 r0 r1 f0 f1
 replace S:=S.up hbb
 replace hz:=hz.up hbb
 obtain⟨g0,g1,k0,k1,c0,c1,c2,c3,m0,m1,m2,m3,r0,r1,f0,f1⟩:=S.cells
 go_wp2
 exact bodyPost_ret (v:=.agg #[.slice q1 1 d1,.int .i64 0]) (by simp[results,Tryz.results55,go_sem,(S.R.told _ _).1,(S.R.told _ _).2]) rfl (S.ret ⟨q1,d1,rfl,hz⟩)
theorem ref_two_eq_yes (h:VArg w a n q c)(g:VArg w v m p d)(hl:EL w ps es)(heq:lsC a v=0):
 Calls Tryz.prog 31 #[.slice ps es.length cs,.int .i64 14,.agg #[.slice q n c,.int .i64 0],.agg #[.slice p m d,.int .i64 0]] w fun e w'=>GRet (.ok (tN (decide (lsC a v=0)))) e w'∧Below w.heap.size w w':=by
 obtain⟨y,r,b,off,z,t,b2,off2,rfl,rfl,rfl,rfl,i0,i9,W,hW,S⟩:=S2.new h g
 have HND:=fun w1 (h1:VArg w1 (y::r) n (some ⟨b,off,none⟩) c) (h2:VArg w1 (z::t) m (some ⟨b2,off2,none⟩) d)=>nodes_arg h1 h2
 rw[heq]at HND
 rw[decide_eq_true heq]
 clear h g hl heq
 go_enter Tryz.func31,Tryz.ntmps31
 obtain⟨g0,g1,k0,k1,c0,c1,c2,c3,m0,m1,m2,m3,r0,r1,f0,f1⟩:=S.cells
 go_wp2_with fail
 rw[←hW]
 refine(HND _ S.v S.u).mono ?_
 rintro _ w1 ⟨rfl,hbb⟩
 clear g0 g1 k0 k1 c0 c1 c2 c3 m0 m1 m2 m3 r0 r1 f0 f1
 replace S:=S.up hbb
 obtain⟨g0,g1,k0,k1,c0,c1,c2,c3,m0,m1,m2,m3,r0,r1,f0,f1⟩:=S.cells
 go_wp2_with fail
 refine(refTruth_any _ _).mono ?_
 rintro _ w2 ⟨⟨q1,d1,rfl,hz⟩,hbb⟩
 clear g0 g1 k0 k1 c0 c1 c2 c3 m0 m1 m2 m3 r0 r1 f0 f1
 replace S:=S.up hbb
 obtain⟨g0,g1,k0,k1,c0,c1,c2,c3,m0,m1,m2,m3,r0,r1,f0,f1⟩:=S.cells
 go_wp2_with fail
 refine(refGood_any _ q1 1 d1).mono ?_
 rintro _ w3 ⟨rfl,hbb⟩
 clear g0 g1 k0 k1 c0 c1 c2 c3 m0 m1 m2 m3 r0 r1 f0 f1
 replace S:=S.up hbb
 replace hz:=hz.up hbb
 obtain⟨g0,g1,k0,k1,c0,c1,c2,c3,m0,m1,m2,m3,r0,r1,f0,f1⟩:=S.cells
 go_wp2
 exact bodyPost_ret (v:=.agg #[.slice q1 1 d1,.int .i64 0]) (by simp[results,Tryz.results31,go_sem,(S.R.told _ _).1,(S.R.told _ _).2]) rfl (S.ret ⟨q1,d1,rfl,hz⟩)
theorem ref_two_eq_no (h:VArg w a n q c)(g:VArg w v m p d)(hl:EL w ps es)(heq:lsC a v≠0):
 Calls Tryz.prog 31 #[.slice ps es.length cs,.int .i64 14,.agg #[.slice q n c,.int .i64 0],.agg #[.slice p m d,.int .i64 0]] w fun e w'=>GRet (.ok (tN (decide (lsC a v=0)))) e w'∧Below w.heap.size w w':=by
 obtain⟨y,r,b,off,z,t,b2,off2,rfl,rfl,rfl,rfl,i0,i9,W,hW,S⟩:=S2.new h g
 have HND:=fun w1 (h1:VArg w1 (y::r) n (some ⟨b,off,none⟩) c) (h2:VArg w1 (z::t) m (some ⟨b2,off2,none⟩) d)=>nodes_arg h1 h2
 rw[decide_eq_false heq]
 have e0:(lsC (y::r) (z::t) == 0)=false:=by simpa using heq
 generalize lsC (y::r) (z::t)=N at *
 clear h g hl heq
 go_enter Tryz.func31,Tryz.ntmps31
 obtain⟨g0,g1,k0,k1,c0,c1,c2,c3,m0,m1,m2,m3,r0,r1,f0,f1⟩:=S.cells
 go_wp2_with fail
 rw[←hW]
 refine(HND _ S.v S.u).mono ?_
 rintro _ w1 ⟨rfl,hbb⟩
 clear g0 g1 k0 k1 c0 c1 c2 c3 m0 m1 m2 m3 r0 r1 f0 f1
 replace S:=S.up hbb
 obtain⟨g0,g1,k0,k1,c0,c1,c2,c3,m0,m1,m2,m3,r0,r1,f0,f1⟩:=S.cells
 go_wp2_with fail
 refine(refTruth_any _ _).mono ?_
 rintro _ w2 ⟨⟨q1,d1,rfl,hz⟩,hbb⟩
 clear g0 g1 k0 k1 c0 c1 c2 c3 m0 m1 m2 m3 r0 r1 f0 f1
 replace S:=S.up hbb
 obtain⟨g0,g1,k0,k1,c0,c1,c2,c3,m0,m1,m2,m3,r0,r1,f0,f1⟩:=S.cells
 go_wp2_with fail
 refine(refGood_any _ q1 1 d1).mono ?_
 rintro _ w3 ⟨rfl,hbb⟩
 clear g0 g1 k0 k1 c0 c1 c2 c3 m0 m1 m2 m3 r0 r1 f0 f1
 replace S:=S.up hbb
 replace hz:=hz.up hbb
 obtain⟨g0,g1,k0,k1,c0,c1,c2,c3,m0,m1,m2,m3,r0,r1,f0,f1⟩:=S.cells
 go_wp2
 exact bodyPost_ret (v:=.agg #[.slice q1 1 d1,.int .i64 0]) (by simp[results,Tryz.results31,go_sem,(S.R.told _ _).1,(S.R.told _ _).2]) rfl (S.ret ⟨q1,d1,rfl,hz⟩)
theorem ref_two_sets (h:VArg w a n q c)(g:VArg w v m p d)(hl:EL w ps es)(ho:op=25∨op=26∨op=27)(R:Except Int (List Nd))(HS:∀w1,VArg w1 a n q c→VArg w1 v m p d→Calls Tryz.prog 55 #[.int .i64 op,.agg #[.slice q n c,.int .i64 0],.agg #[.slice p m d,.int .i64 0]] w1 fun e w'=>GRet R e w'∧Below w1.heap.size w1 w'):
 Calls Tryz.prog 31 #[.slice ps es.length cs,.int .i64 op,.agg #[.slice q n c,.int .i64 0],.agg #[.slice p m d,.int .i64 0]] w fun e w'=>GRet (R) e w'∧Below w.heap.size w w':=by
 obtain⟨y,r,b,off,z,t,b2,off2,rfl,rfl,rfl,rfl,i0,i9,W,hW,S⟩:=S2.new h g
 clear hl h g
 rcases ho with rfl | rfl | rfl
 all_goals
  go_enter Tryz.func31,Tryz.ntmps31
  obtain⟨g0,g1,k0,k1,c0,c1,c2,c3,m0,m1,m2,m3,r0,r1,f0,f1⟩:=S.cells
  go_wp2_with fail
  rw[←hW]
  refine(HS _ S.v S.u).mono ?_
  rintro _ w1 ⟨hG,hbb⟩
  clear g0 g1 k0 k1 c0 c1 c2 c3 m0 m1 m2 m3 r0 r1 f0 f1
  replace S:=S.up hbb
  cases R with
  | ok x=>
    obtain⟨qz,cz,rfl,hz⟩:=hG
    obtain⟨g0,g1,k0,k1,c0,c1,c2,c3,m0,m1,m2,m3,r0,r1,f0,f1⟩:=S.cells
    go_wp2
    exact bodyPost_ret (v:=.agg #[.slice qz x.length cz,.int .i64 0]) (by simp[results,Tryz.results31,go_sem,(S.R.told _ _).1,(S.R.told _ _).2]) rfl (S.ret ⟨qz,cz,rfl,hz⟩)
  | error k=>
    have hG2:_=_:=hG
    subst hG2
    obtain⟨g0,g1,k0,k1,c0,c1,c2,c3,m0,m1,m2,m3,r0,r1,f0,f1⟩:=S.cells
    go_wp2
    exact bodyPost_ret (v:=.agg #[.slice none 0 0,.int .i64 k]) (by simp[results,Tryz.results31,go_sem,(S.R.told _ _).1,(S.R.told _ _).2]) rfl (S.ret rfl)
theorem ref_two_in (h:VArg w a n q c)(g:VArg w v m p d)(hl:EL w ps es)(R:Except Int (List Nd))(HS:∀w1,EL w1 ps es→VArg w1 a n q c→VArg w1 v m p d→Calls Tryz.prog 56 #[.slice ps es.length cs,.agg #[.slice q n c,.int .i64 0],.agg #[.slice p m d,.int .i64 0]] w1 fun e w'=>GRet R e w'∧Below w1.heap.size w1 w'):
 Calls Tryz.prog 31 #[.slice ps es.length cs,.int .i64 20,.agg #[.slice q n c,.int .i64 0],.agg #[.slice p m d,.int .i64 0]] w fun e w'=>GRet (R) e w'∧Below w.heap.size w w':=by
 obtain⟨y,r,b,off,z,t,b2,off2,rfl,rfl,rfl,rfl,i0,i9,W,hW,S⟩:=S2.new h g
 have he:=hl.up S.hb
 clear hl h g
 go_enter Tryz.func31,Tryz.ntmps31
 obtain⟨g0,g1,k0,k1,c0,c1,c2,c3,m0,m1,m2,m3,r0,r1,f0,f1⟩:=S.cells
 go_wp2_with fail
 rw[←hW]
 refine(HS _ he S.v S.u).mono ?_
 rintro _ w1 ⟨hG,hbb⟩
 clear g0 g1 k0 k1 c0 c1 c2 c3 m0 m1 m2 m3 r0 r1 f0 f1
 replace S:=S.up hbb
 replace he:=he.up hbb
 cases R with
 | ok x=>
   obtain⟨qz,cz,rfl,hz⟩:=hG
   obtain⟨g0,g1,k0,k1,c0,c1,c2,c3,m0,m1,m2,m3,r0,r1,f0,f1⟩:=S.cells
   go_wp2
   exact bodyPost_ret (v:=.agg #[.slice qz x.length cz,.int .i64 0]) (by simp[results,Tryz.results31,go_sem,(S.R.told _ _).1,(S.R.told _ _).2]) rfl (S.ret ⟨qz,cz,rfl,hz⟩)
 | error k=>
   have hG2:_=_:=hG
   subst hG2
   obtain⟨g0,g1,k0,k1,c0,c1,c2,c3,m0,m1,m2,m3,r0,r1,f0,f1⟩:=S.cells
   go_wp2
   exact bodyPost_ret (v:=.agg #[.slice none 0 0,.int .i64 k]) (by simp[results,Tryz.results31,go_sem,(S.R.told _ _).1,(S.R.told _ _).2]) rfl (S.ret rfl)
theorem ref_two_bad1 (h:VArg w a n q c)(g:VArg w v m p d)(hl:EL w ps es)(ho:op=15∨op=16∨op=17∨op=18∨op=19)(a2:opV a≠2):
 Calls Tryz.prog 31 #[.slice ps es.length cs,.int .i64 op,.agg #[.slice q n c,.int .i64 0],.agg #[.slice p m d,.int .i64 0]] w fun e w'=>GRet (.error 2) e w'∧Below w.heap.size w w':=by
 obtain⟨y,r,b,off,z,t,b2,off2,rfl,rfl,rfl,rfl,i0,i9,W,hW,S⟩:=S2.new h g
 have HIA:=isN a2 n (some ⟨b,off,none⟩) c
 have o14:(op == 14)=false∧(op == 25)=false∧(op == 26)=false∧(op == 27)=false∧(op == 20)=false:=by simp;omega
 obtain⟨o14,o25,o26,o27,o20⟩:=o14
 clear a2 h g hl ho
 go_enter Tryz.func31,Tryz.ntmps31
 obtain⟨g0,g1,k0,k1,c0,c1,c2,c3,m0,m1,m2,m3,r0,r1,f0,f1⟩:=S.cells
 go_wp2_with fail
 rw[←hW]
 refine(HIA _ S.v).mono ?_
 rintro _ w1 ⟨rfl,hbb⟩
 clear g0 g1 k0 k1 c0 c1 c2 c3 m0 m1 m2 m3 r0 r1 f0 f1
 replace S:=S.up hbb
 obtain⟨g0,g1,k0,k1,c0,c1,c2,c3,m0,m1,m2,m3,r0,r1,f0,f1⟩:=S.cells
 go_wp2_with fail
 refine(refBad_any _ 2).mono ?_
 rintro _ w2 ⟨rfl,hbb⟩
 clear g0 g1 k0 k1 c0 c1 c2 c3 m0 m1 m2 m3 r0 r1 f0 f1
 replace S:=S.up hbb
 obtain⟨g0,g1,k0,k1,c0,c1,c2,c3,m0,m1,m2,m3,r0,r1,f0,f1⟩:=S.cells
 go_wp2
 exact bodyPost_ret (v:=.agg #[.slice none 0 0,.int .i64 2]) (by simp[results,Tryz.results31,go_sem,(S.R.told _ _).1,(S.R.told _ _).2]) rfl (S.ret rfl)
theorem ref_two_bad2 (h:VArg w a n q c)(g:VArg w v m p d)(hl:EL w ps es)(ho:op=15∨op=16∨op=17∨op=18∨op=19)(a2:opV a=2)(v2:opV v≠2):
 Calls Tryz.prog 31 #[.slice ps es.length cs,.int .i64 op,.agg #[.slice q n c,.int .i64 0],.agg #[.slice p m d,.int .i64 0]] w fun e w'=>GRet (.error 2) e w'∧Below w.heap.size w w':=by
 obtain⟨y,r,b,off,z,t,b2,off2,rfl,rfl,rfl,rfl,i0,i9,W,hW,S⟩:=S2.new h g
 have HIA:=isY a2 n (some ⟨b,off,none⟩) c
 have HIB:=isN v2 m (some ⟨b2,off2,none⟩) d
 have o14:(op == 14)=false∧(op == 25)=false∧(op == 26)=false∧(op == 27)=false∧(op == 20)=false:=by simp;omega
 obtain⟨o14,o25,o26,o27,o20⟩:=o14
 clear a2 v2 h g hl ho
 go_enter Tryz.func31,Tryz.ntmps31
 obtain⟨g0,g1,k0,k1,c0,c1,c2,c3,m0,m1,m2,m3,r0,r1,f0,f1⟩:=S.cells
 go_wp2_with fail
 rw[←hW]
 refine(HIA _ S.v).mono ?_
 rintro _ w1 ⟨rfl,hbb⟩
 clear g0 g1 k0 k1 c0 c1 c2 c3 m0 m1 m2 m3 r0 r1 f0 f1
 replace S:=S.up hbb
 obtain⟨g0,g1,k0,k1,c0,c1,c2,c3,m0,m1,m2,m3,r0,r1,f0,f1⟩:=S.cells
 go_wp2_with fail
 refine(HIB _ S.u).mono ?_
 rintro _ w2 ⟨rfl,hbb⟩
 clear g0 g1 k0 k1 c0 c1 c2 c3 m0 m1 m2 m3 r0 r1 f0 f1
 replace S:=S.up hbb
 obtain⟨g0,g1,k0,k1,c0,c1,c2,c3,m0,m1,m2,m3,r0,r1,f0,f1⟩:=S.cells
 go_wp2_with fail
 refine(refBad_any _ 2).mono ?_
 rintro _ w3 ⟨rfl,hbb⟩
 clear g0 g1 k0 k1 c0 c1 c2 c3 m0 m1 m2 m3 r0 r1 f0 f1
 replace S:=S.up hbb
 obtain⟨g0,g1,k0,k1,c0,c1,c2,c3,m0,m1,m2,m3,r0,r1,f0,f1⟩:=S.cells
 go_wp2
 exact bodyPost_ret (v:=.agg #[.slice none 0 0,.int .i64 2]) (by simp[results,Tryz.results31,go_sem,(S.R.told _ _).1,(S.R.told _ _).2]) rfl (S.ret rfl)
theorem ref_two_lt (h:VArg w a n q c)(g:VArg w v m p d)(hl:EL w ps es)(a2:opV a=2)(v2:opV v=2):
 Calls Tryz.prog 31 #[.slice ps es.length cs,.int .i64 15,.agg #[.slice q n c,.int .i64 0],.agg #[.slice p m d,.int .i64 0]] w fun e w'=>GRet (.ok (tN (decide (nV a<nV v)))) e w'∧Below w.heap.size w w':=by
 obtain⟨y,r,b,off,z,t,b2,off2,rfl,rfl,rfl,rfl,i0,i9,W,hW,S⟩:=S2.new h g
 have HIA:=isY a2 n (some ⟨b,off,none⟩) c
 have HIB:=isY v2 m (some ⟨b2,off2,none⟩) d
 have e1:nV (y::r)=y.n:=rfl
 have e2:nV (z::t)=z.n:=rfl
 rw[e1,e2]
 clear a2 v2 h g hl e1 e2
 go_enter Tryz.func31,Tryz.ntmps31
 obtain⟨g0,g1,k0,k1,c0,c1,c2,c3,m0,m1,m2,m3,r0,r1,f0,f1⟩:=S.cells
 go_wp2_with fail
 rw[←hW]
 refine(HIA _ S.v).mono ?_
 rintro _ w1 ⟨rfl,hbb⟩
 clear g0 g1 k0 k1 c0 c1 c2 c3 m0 m1 m2 m3 r0 r1 f0 f1
 replace S:=S.up hbb
 obtain⟨g0,g1,k0,k1,c0,c1,c2,c3,m0,m1,m2,m3,r0,r1,f0,f1⟩:=S.cells
 go_wp2_with fail
 refine(HIB _ S.u).mono ?_
 rintro _ w2 ⟨rfl,hbb⟩
 clear g0 g1 k0 k1 c0 c1 c2 c3 m0 m1 m2 m3 r0 r1 f0 f1
 replace S:=S.up hbb
 obtain⟨g0,g1,k0,k1,c0,c1,c2,c3,m0,m1,m2,m3,r0,r1,f0,f1⟩:=S.cells
 go_wp2_with fail
 refine(refTruth_any _ _).mono ?_
 rintro _ w3 ⟨⟨q1,d1,rfl,hz⟩,hbb⟩
 clear g0 g1 k0 k1 c0 c1 c2 c3 m0 m1 m2 m3 r0 r1 f0 f1
 replace S:=S.up hbb
 obtain⟨g0,g1,k0,k1,c0,c1,c2,c3,m0,m1,m2,m3,r0,r1,f0,f1⟩:=S.cells
 go_wp2_with fail
 refine(refGood_any _ q1 1 d1).mono ?_
 rintro _ w4 ⟨rfl,hbb⟩
 clear g0 g1 k0 k1 c0 c1 c2 c3 m0 m1 m2 m3 r0 r1 f0 f1
 replace S:=S.up hbb
 replace hz:=hz.up hbb
 obtain⟨g0,g1,k0,k1,c0,c1,c2,c3,m0,m1,m2,m3,r0,r1,f0,f1⟩:=S.cells
 go_wp2
 exact bodyPost_ret (v:=.agg #[.slice q1 1 d1,.int .i64 0]) (by simp[results,Tryz.results31,go_sem,(S.R.told _ _).1,(S.R.told _ _).2]) rfl (S.ret ⟨q1,d1,rfl,hz⟩)
theorem ref_two_le (h:VArg w a n q c)(g:VArg w v m p d)(hl:EL w ps es)(a2:opV a=2)(v2:opV v=2):
 Calls Tryz.prog 31 #[.slice ps es.length cs,.int .i64 16,.agg #[.slice q n c,.int .i64 0],.agg #[.slice p m d,.int .i64 0]] w fun e w'=>GRet (.ok (tN (decide (nV a≤nV v)))) e w'∧Below w.heap.size w w':=by
 obtain⟨y,r,b,off,z,t,b2,off2,rfl,rfl,rfl,rfl,i0,i9,W,hW,S⟩:=S2.new h g
 have HIA:=isY a2 n (some ⟨b,off,none⟩) c
 have HIB:=isY v2 m (some ⟨b2,off2,none⟩) d
 have e1:nV (y::r)=y.n:=rfl
 have e2:nV (z::t)=z.n:=rfl
 rw[e1,e2]
 clear a2 v2 h g hl e1 e2
 go_enter Tryz.func31,Tryz.ntmps31
 obtain⟨g0,g1,k0,k1,c0,c1,c2,c3,m0,m1,m2,m3,r0,r1,f0,f1⟩:=S.cells
 go_wp2_with fail
 rw[←hW]
 refine(HIA _ S.v).mono ?_
 rintro _ w1 ⟨rfl,hbb⟩
 clear g0 g1 k0 k1 c0 c1 c2 c3 m0 m1 m2 m3 r0 r1 f0 f1
 replace S:=S.up hbb
 obtain⟨g0,g1,k0,k1,c0,c1,c2,c3,m0,m1,m2,m3,r0,r1,f0,f1⟩:=S.cells
 go_wp2_with fail
 refine(HIB _ S.u).mono ?_
 rintro _ w2 ⟨rfl,hbb⟩
 clear g0 g1 k0 k1 c0 c1 c2 c3 m0 m1 m2 m3 r0 r1 f0 f1
 replace S:=S.up hbb
 obtain⟨g0,g1,k0,k1,c0,c1,c2,c3,m0,m1,m2,m3,r0,r1,f0,f1⟩:=S.cells
 go_wp2_with fail
 refine(refTruth_any _ _).mono ?_
 rintro _ w3 ⟨⟨q1,d1,rfl,hz⟩,hbb⟩
 clear g0 g1 k0 k1 c0 c1 c2 c3 m0 m1 m2 m3 r0 r1 f0 f1
 replace S:=S.up hbb
 obtain⟨g0,g1,k0,k1,c0,c1,c2,c3,m0,m1,m2,m3,r0,r1,f0,f1⟩:=S.cells
 go_wp2_with fail
 refine(refGood_any _ q1 1 d1).mono ?_
 rintro _ w4 ⟨rfl,hbb⟩
 clear g0 g1 k0 k1 c0 c1 c2 c3 m0 m1 m2 m3 r0 r1 f0 f1
 replace S:=S.up hbb
 replace hz:=hz.up hbb
 obtain⟨g0,g1,k0,k1,c0,c1,c2,c3,m0,m1,m2,m3,r0,r1,f0,f1⟩:=S.cells
 go_wp2
 exact bodyPost_ret (v:=.agg #[.slice q1 1 d1,.int .i64 0]) (by simp[results,Tryz.results31,go_sem,(S.R.told _ _).1,(S.R.told _ _).2]) rfl (S.ret ⟨q1,d1,rfl,hz⟩)
theorem ref_two_num_ok (h:VArg w a n q c)(g:VArg w v m p d)(hl:EL w ps es)(ho:op=17∨op=18∨op=19)(a2:opV a=2)(v2:opV v=2)(hf:nmf op (nV a) (nV v)=0):
 Calls Tryz.prog 31 #[.slice ps es.length cs,.int .i64 op,.agg #[.slice q n c,.int .i64 0],.agg #[.slice p m d,.int .i64 0]] w fun e w'=>GRet (.ok (mN (nx op (nV a) (nV v)))) e w'∧Below w.heap.size w w':=by
 obtain⟨y,r,b,off,z,t,b2,off2,rfl,rfl,rfl,rfl,i0,i9,W,hW,S⟩:=S2.new h g
 have HIA:=isY a2 n (some ⟨b,off,none⟩) c
 have HIB:=isY v2 m (some ⟨b2,off2,none⟩) d
 have HDN:=fun w1=>quietB (done_any op (nV (y::r)) (nV (z::t)) w1 (h.is.fit a2) (g.is.fit v2))
 have e1:nV (y::r)=y.n:=rfl
 have e2:nV (z::t)=z.n:=rfl
 have ho5:op=15∨op=16∨op=17∨op=18∨op=19:=by omega
 have o15:(op == 15)=false:=by simp;omega
 have o16:(op == 16)=false:=by simp;omega
 have o14:(op == 14)=false∧(op == 25)=false∧(op == 26)=false∧(op == 27)=false∧(op == 20)=false:=by simp;omega
 obtain⟨o14,o25,o26,o27,o20⟩:=o14
 have hnv:nval op (nV (y::r)) (nV (z::t))=nx op (nV (y::r)) (nV (z::t)):=nv_ok hf
 have hfit:Fit (nx op (nV (y::r)) (nV (z::t))):=by rw[←hnv];exact nv_fit _ _ _
 rw[hf,hnv]at HDN
 generalize nx op (nV (y::r)) (nV (z::t))=N at *
 have HZ:=mN_lit hfit
 have HIM:Hid (IsV (mN N)):=mN_is hfit
 rw[e1,e2]at HDN
 clear a2 v2 h g hl e1 e2 hf hnv hfit ho ho5
 go_enter Tryz.func31,Tryz.ntmps31
 obtain⟨g0,g1,k0,k1,c0,c1,c2,c3,m0,m1,m2,m3,r0,r1,f0,f1⟩:=S.cells
 go_wp2_with fail
 rw[←hW]
 refine(HIA _ S.v).mono ?_
 rintro _ w1 ⟨rfl,hbb⟩
 clear g0 g1 k0 k1 c0 c1 c2 c3 m0 m1 m2 m3 r0 r1 f0 f1
 replace S:=S.up hbb
 obtain⟨g0,g1,k0,k1,c0,c1,c2,c3,m0,m1,m2,m3,r0,r1,f0,f1⟩:=S.cells
 go_wp2_with fail
 refine(HIB _ S.u).mono ?_
 rintro _ w2 ⟨rfl,hbb⟩
 clear g0 g1 k0 k1 c0 c1 c2 c3 m0 m1 m2 m3 r0 r1 f0 f1
 replace S:=S.up hbb
 obtain⟨g0,g1,k0,k1,c0,c1,c2,c3,m0,m1,m2,m3,r0,r1,f0,f1⟩:=S.cells
 go_wp2_with fail
 refine(HDN _).mono ?_
 rintro _ w3 ⟨rfl,hbb⟩
 clear g0 g1 k0 k1 c0 c1 c2 c3 m0 m1 m2 m3 r0 r1 f0 f1
 replace S:=S.up hbb
 obtain⟨g0,g1,k0,k1,c0,c1,c2,c3,m0,m1,m2,m3,r0,r1,f0,f1⟩:=S.cells
 go_wp2_with fail
 refine(refGood_any _ _ _ _).mono ?_
 rintro _ w4 ⟨rfl,hbb⟩
 clear g0 g1 k0 k1 c0 c1 c2 c3 m0 m1 m2 m3 r0 r1 f0 f1
 have hz:=hzU HZ w3 HIM hbb
 replace hbb:=hzB hbb
 replace S:=S.up hbb
 obtain⟨g0,g1,k0,k1,c0,c1,c2,c3,m0,m1,m2,m3,r0,r1,f0,f1⟩:=S.cells
 go_wp2
 exact bodyPost_ret (v:=.agg #[.slice (some ⟨w3.heap.size,0,none⟩) 1 1,.int .i64 0]) (by simp[results,Tryz.results31,go_sem,(S.R.told _ _).1,(S.R.told _ _).2]) rfl (S.ret ⟨_,_,rfl,hz⟩)
theorem ref_two_num_bad (h:VArg w a n q c)(g:VArg w v m p d)(hl:EL w ps es)(ho:op=17∨op=18∨op=19)(a2:opV a=2)(v2:opV v=2)(hf:nmf op (nV a) (nV v)≠0):
 Calls Tryz.prog 31 #[.slice ps es.length cs,.int .i64 op,.agg #[.slice q n c,.int .i64 0],.agg #[.slice p m d,.int .i64 0]] w fun e w'=>GRet (.error (nmf op (nV a) (nV v))) e w'∧Below w.heap.size w w':=by
 obtain⟨y,r,b,off,z,t,b2,off2,rfl,rfl,rfl,rfl,i0,i9,W,hW,S⟩:=S2.new h g
 have HIA:=isY a2 n (some ⟨b,off,none⟩) c
 have HIB:=isY v2 m (some ⟨b2,off2,none⟩) d
 have HDN:=fun w1=>quietB (done_any op (nV (y::r)) (nV (z::t)) w1 (h.is.fit a2) (g.is.fit v2))
 have e1:nV (y::r)=y.n:=rfl
 have e2:nV (z::t)=z.n:=rfl
 have o15:(op == 15)=false:=by simp;omega
 have o16:(op == 16)=false:=by simp;omega
 have o14:(op == 14)=false∧(op == 25)=false∧(op == 26)=false∧(op == 27)=false∧(op == 20)=false:=by simp;omega
 obtain⟨o14,o25,o26,o27,o20⟩:=o14
 have e0:(nmf op (nV (y::r)) (nV (z::t)) != 0)=true:=by simpa using hf
 rw[e1,e2]at HDN e0 ⊢
 generalize nmf op y.n z.n=N at *
 clear a2 v2 h g hl e1 e2 hf ho
 go_enter Tryz.func31,Tryz.ntmps31
 obtain⟨g0,g1,k0,k1,c0,c1,c2,c3,m0,m1,m2,m3,r0,r1,f0,f1⟩:=S.cells
 go_wp2_with fail
 rw[←hW]
 refine(HIA _ S.v).mono ?_
 rintro _ w1 ⟨rfl,hbb⟩
 clear g0 g1 k0 k1 c0 c1 c2 c3 m0 m1 m2 m3 r0 r1 f0 f1
 replace S:=S.up hbb
 obtain⟨g0,g1,k0,k1,c0,c1,c2,c3,m0,m1,m2,m3,r0,r1,f0,f1⟩:=S.cells
 go_wp2_with fail
 refine(HIB _ S.u).mono ?_
 rintro _ w2 ⟨rfl,hbb⟩
 clear g0 g1 k0 k1 c0 c1 c2 c3 m0 m1 m2 m3 r0 r1 f0 f1
 replace S:=S.up hbb
 obtain⟨g0,g1,k0,k1,c0,c1,c2,c3,m0,m1,m2,m3,r0,r1,f0,f1⟩:=S.cells
 go_wp2_with fail
 refine(HDN _).mono ?_
 rintro _ w3 ⟨rfl,hbb⟩
 clear g0 g1 k0 k1 c0 c1 c2 c3 m0 m1 m2 m3 r0 r1 f0 f1
 replace S:=S.up hbb
 obtain⟨g0,g1,k0,k1,c0,c1,c2,c3,m0,m1,m2,m3,r0,r1,f0,f1⟩:=S.cells
 go_wp2_with fail
 refine(refBad_any _ N).mono ?_
 rintro _ w4 ⟨rfl,hbb⟩
 clear g0 g1 k0 k1 c0 c1 c2 c3 m0 m1 m2 m3 r0 r1 f0 f1
 replace S:=S.up hbb
 obtain⟨g0,g1,k0,k1,c0,c1,c2,c3,m0,m1,m2,m3,r0,r1,f0,f1⟩:=S.cells
 go_wp2
 exact bodyPost_ret (v:=.agg #[.slice none 0 0,.int .i64 N]) (by simp[results,Tryz.results31,go_sem,(S.R.told _ _).1,(S.R.told _ _).2]) rfl (S.ret rfl)
end
end Go.Proofs.YtnbkfggmpiccjaaGreatDoor
namespace Go.Proofs.YtnbkfggmpiccjaaGreatDoor
open Go.RowKit
set_option maxRecDepth 100000
noncomputable def ltop (v:List Nd):List (List Nd):=if opV v=5 then setR v else[v]
theorem ltop_is {v:List Nd}(h:IsV v):∀x∈ltop v,IsV x:=by
 intro x hx
 unfold ltop at hx
 split at hx
 · rename_i h5
   obtain⟨hS,hE⟩:=setR_spec h.val h5
   refine⟨hS.vals x hx,fun y hy=>h.num y ?_⟩
   rw[hE]
   exact List.mem_cons_of_mem _ (List.mem_flatten.2 ⟨x,hx,hy⟩)
 · simp only[List.mem_singleton]at hx;subst hx;exact h
theorem ltop_len {v:List Nd}(h:IsV v):(ltop v).length≤200:=by
 have h1:∀x∈ltop v,x≠[]:=fun x hx=>(ltop_is h x hx).ne
 have h2:(ltop v).length≤(ltop v).flatten.length:=by
  revert h1
  generalize ltop v=l
  intro h1
  induction l with
  | nil=>simp
  | cons x l ih=>
    have:=ih (fun y hy=>h1 y (List.mem_cons_of_mem _ hy))
    have:=List.length_pos_iff.2 (h1 x List.mem_cons_self)
    rw[List.flatten_cons,List.length_append,List.length_cons]
    omega
 have h3:(ltop v).flatten.length≤v.length:=by
  unfold ltop
  split
  · rename_i h5
    obtain⟨hS,hE⟩:=setR_spec h.val h5
    have:=congrArg List.length hE
    have e:(setN (setR v)).length=(setR v).flatten.length+1:=rfl
    omega
  · simp
 have:=h.len
 omega
theorem uidsE_top (v:List Nd):uidsE v=if (∀x∈ltop v,opV x=4)then some ((ltop v).map uidV)else none:=by
 unfold uidsE ltop
 by_cases h5:opV v=5
 · rw[if_pos h5,if_pos h5]
 · rw[if_neg h5,if_neg h5]
   by_cases h4:opV v=4
   · rw[if_pos h4,if_pos (by simpa using h4)];rfl
   · rw[if_neg h4,if_neg (by simpa using h4)]
open Classical in
theorem in_yes {es:List En}{a v:List Nd}(h:opV a=4):inE es a v=if (∀x∈ltop v,opV x=4)then .ok (tN (decide (∃x∈ltop v,Inn es (uidV a) (uidV x))))else .error 2:=by
 unfold inE
 rw[if_pos h,uidsE_top]
 by_cases h4:∀x∈ltop v,opV x=4
 · rw[if_pos h4,if_pos h4]
   simp only
   congr 2
   rw[decide_eq_decide]
   constructor
   · rintro⟨t,ht,h⟩
     obtain⟨x,hx,rfl⟩:=List.mem_map.1 ht
     exact⟨x,hx,h.elim (fun e=>.inl e.symm) .inr⟩
   · rintro⟨x,hx,h⟩
     exact⟨uidV x,List.mem_map.2 ⟨x,hx,rfl⟩,h.elim (fun e=>.inl e.symm) .inr⟩
 · rw[if_neg h4,if_neg h4]
theorem in_no {es:List En}{a v:List Nd}(h:opV a≠4):inE es a v= .error 2:=by
 unfold inE
 rw[if_neg h]
open Classical in
theorem in_all (es:List En){a v:List Nd}:inE es a v=if opV a=4∧∀x∈ltop v,opV x=4 then .ok (tN (decide (∃x∈ltop v,Inn es (uidV a) (uidV x))))else .error 2:=by
 by_cases h:opV a=4
 · rw[in_yes h];simp only[h,true_and]
 · rw[in_no h,if_neg (fun g=>h g.1)]
structure UB2 (w:World)(B:Nat)(s t:ByteArray):Prop where
 blk:w.heap[B]? =some (.cells #[.string s,.string t] 24 (0,0))
theorem UB2.lt {w:World}{B:Nat}{s t:ByteArray}(h:UB2 w B s t):B<w.heap.size:=(Array.getElem?_eq_some_iff.1 h.blk).1
theorem UB2.up {w w':World}{B:Nat}{s t:ByteArray}(h:UB2 w B s t)(hb:Below w.heap.size w w'):UB2 w' B s t:=⟨(hb.block B h.lt).trans h.blk⟩
theorem UB2.cells {w:World}{B:Nat}{s t:ByteArray}(h:UB2 w B s t):w.cell? ⟨B,0,none⟩=some (.string s)∧w.cell? ⟨B,1,none⟩=some (.string t):=by
 have:=h.blk
 simp[World.cell?, this]
theorem parts_arg {l:List (List Nd)}{v:List Nd}{m d:Nat}{p:Option Addr}{w:World}(hS:IsSet l)(hE:v=setN l)(g:VArg w v m p d):Calls Tryz.prog 87 #[.slice p m d] w fun e w'=>(∃q1 c1 q2 c2,e= .returned (.tuple #[.slice q1 l.length c1,.slice q2 l.length c2])∧LL w' q1 l)∧Below w.heap.size w w':=by
 subst hE
 obtain rfl:(setN l).length=m:=g.len
 exact refParts_row l p d w g.nl g.le g.cm hS
theorem ll_one {w:World}{v:List Nd}{m d:Nat}{p:Option Addr}{T:TypeId}(g:VArg w v m p d):LL (w.alloc (.cells #[.slice p m d] T)) (some ⟨w.heap.size,0,none⟩) [v]:=by
 obtain rfl:v.length=m:=g.len
 refine .inr ⟨w.heap.size,0,rfl,by simp,fun i x hx=>?_⟩
 match i,hx with
 | 0,hx=>
   simp at hx
   subst hx
   exact⟨p,d,by simp,g.nl.up ((Below.refl _ _).alloc (Nat.le_refl _) _),g.le,g.cm⟩
section
open Classical
variable {es:List En} {q0:Rq} (ps:Option Addr) (cs:Nat) (a v:List Nd) (n m:Nat) (q p:Option Addr) (c d:Nat) (w:World)
theorem refIn_any (h:VArg w a n q c)(g:VArg w v m p d)(hl:EL w ps es)(ho:EnvOk es q0):
 Calls Tryz.prog 56 #[.slice ps es.length cs,.agg #[.slice q n c,.int .i64 0],.agg #[.slice p m d,.int .i64 0]] w fun e w'=>GRet (inE es a v) e w'∧Below w.heap.size w w':=by
 obtain⟨y,r,b,off,z,t,b2,off2,rfl,rfl,rfl,rfl,i0,i9,W,hW,S⟩:=S2.new h g
 have HI5:=fun w1 h1=>refIs_any w1 (z::t) m (some ⟨b2,off2,none⟩) d 5 h1
 obtain⟨o5,h5⟩:∃o,(opV (z::t) == 5)=o:=⟨_,rfl⟩
 rw[h5]at HI5
 have HI4:=fun w1 h1=>refIs_any w1 (y::r) n (some ⟨b,off,none⟩) c 4 h1
 obtain⟨ob,hob⟩:∃o,(opV (y::r) == 4)=o:=⟨_,rfl⟩
 rw[hob]at HI4
 have HOB:Hid (ob=true↔opV (y::r)=4):=by show _↔_;rw[←hob];simp
 have hlt:=ltop_is g.is
 have HLN:Hid ((ltop (z::t)).length≤200):=ltop_len g.is
 have V5:Hid (o5=true→opV (z::t)=5):=fun h=>by simpa[h]using h5
 have gv:=g.is.val
 have HPT:=fun h w1 (h2:VArg w1 (z::t) m (some ⟨b2,off2,none⟩) d)=>parts_arg (setR_spec gv (V5.out h)).1 (setR_spec gv (V5.out h)).2 h2
 have HLS:Hid (o5=true→ltop (z::t)=setR (z::t)):=fun h=>if_pos (V5.out h)
 have HLT:Hid (o5=false→ltop (z::t)=[z::t]):=fun h=>if_neg (by simpa[h]using h5)
 have HIN:Hid (inE es (y::r) (z::t)=if opV (y::r)=4∧∀x∈ltop (z::t),opV x=4 then .ok (tN (decide (∃x∈ltop (z::t),Inn es (uidV (y::r)) (uidV x))))else .error 2):=in_all es
 obtain⟨RR,hRR⟩:∃R,inE es (y::r) (z::t)=R:=⟨_,rfl⟩
 rw[hRR]
 rw[hRR]at HIN
 clear hRR
 have hWs:W.heap.size=w.heap.size+1+1+1:=by rw[hW];simp
 have he:=hl.up S.hb
 clear h g hl h5 hob V5 gv
 go_enter Tryz.func56,Tryz.ntmps56
 obtain⟨g0,g1,k0,k1,c0,c1,c2,c3,m0,m1,m2,m3,r0,r1,f0,f1⟩:=S.cells
 go_wp2_with fail
 rw[←hW]
 clear hW g0 g1 k0 k1 c0 c1 c2 c3 m0 m1 m2 m3 r0 r1 f0 f1
 obtain⟨w1,hw1⟩:∃V,V=W.alloc (.cells #[.slice (some ⟨b2,off2,none⟩) m d] 25):=⟨_,rfl⟩
 rw[←hw1]
 have hbb:Below W.heap.size W w1:=by rw[hw1];exact(Below.refl _ _).alloc (Nat.le_refl _) _
 have hl:LL w1 (some ⟨w.heap.size+1+1+1,0,none⟩) [z::t]:=by rw[hw1,←hWs];exact ll_one S.u
 clear hw1 hWs
 replace S:=S.up hbb
 replace he:=he.up hbb
 refine(HI5 _ S.u).mono ?_
 rintro _ w2 ⟨rfl,hbb⟩
 replace S:=S.up hbb
 replace he:=he.up hbb
 replace hl:=hl.up hbb
 rcases o5 with _ | _
 focus
  rw[←HLT.out (by trivial)]at hl
  obtain⟨g0,g1,k0,k1,c0,c1,c2,c3,m0,m1,m2,m3,r0,r1,f0,f1⟩:=S.cells
  go_wp2_with fail
  refine(HI4 _ S.v).mono ?_
  rintro _ w4 ⟨rfl,hbb⟩
  clear g0 g1 k0 k1 c0 c1 c2 c3 m0 m1 m2 m3 r0 r1 f0 f1
  replace S:=S.up hbb
  replace he:=he.up hbb
  replace hl:=hl.up hbb
  have hTV:Value.slice (some ⟨w.heap.size+1+1+1,0,none⟩) 1 1= .slice (some ⟨w.heap.size+1+1+1,0,none⟩) (ltop (z::t)).length 1:=by rw[HLT.out (by trivial)];rfl
  rw[hTV]
  clear hTV
  obtain⟨qt,hqt⟩:∃q:Option Addr,q=some ⟨w.heap.size+1+1+1,0,none⟩:=⟨_,rfl⟩
  rw[←hqt]at hl ⊢
  clear hqt
 rotate_left
 focus
  clear hl
  obtain⟨g0,g1,k0,k1,c0,c1,c2,c3,m0,m1,m2,m3,r0,r1,f0,f1⟩:=S.cells
  go_wp2_with fail
  refine(HPT (by trivial) _ S.u).mono ?_
  rintro _ w3 ⟨⟨qt,ct,qn,cn,rfl,hl⟩,hbb⟩
  clear g0 g1 k0 k1 c0 c1 c2 c3 m0 m1 m2 m3 r0 r1 f0 f1
  replace S:=S.up hbb
  replace he:=he.up hbb
  rw[←HLS.out (by trivial)]at hl
  obtain⟨g0,g1,k0,k1,c0,c1,c2,c3,m0,m1,m2,m3,r0,r1,f0,f1⟩:=S.cells
  go_wp2_with fail
  refine(HI4 _ S.v).mono ?_
  rintro _ w4 ⟨rfl,hbb⟩
  clear g0 g1 k0 k1 c0 c1 c2 c3 m0 m1 m2 m3 r0 r1 f0 f1
  replace S:=S.up hbb
  replace he:=he.up hbb
  replace hl:=hl.up hbb
  rw[←HLS.out (by trivial)]
 all_goals
  clear HLS HLT HPT HI4 HI5
  generalize ltop (z::t)=lt at *
  have HIV:Hid (∀x∈lt,IsV x):=hlt
  clear hlt
  obtain⟨g0,g1,k0,k1,c0,c1,c2,c3,m0,m1,m2,m3,r0,r1,f0,f1⟩:=S.cells
  go_wp2_with fail
  go_loopw [8,9] (fun ov i wr=>∃(k:Nat) (o:Bool),k≤lt.length∧i= .int .i64 k∧ov= .bool o∧Hid (o=true↔(opV (y::r)=4∧∀x∈lt.take k,opV x=4))∧wr=w4) (fun _ i _=>lt.length-(intOf i).toNat)
  case atStart=>exact⟨0,ob,Nat.zero_le _,rfl,rfl,by show _↔_;rw[HOB.out];simp,rfl⟩
  case round=>
   obtain⟨k,o,hk,rfl,rfl,HO,rfl⟩:=hrel
   have hln:lt.length≤200:=HLN.out
   by_cases hkl:k<lt.length
   · have i1:(k:Int)<(lt.length:Int):=by omega
     obtain⟨bl,ol,qx,cx,rfl,hbl,x0,xnl,xle,xcm⟩:=hl.at hkl
     have hxv:=HIV.out lt[k] (List.getElem_mem hkl)
     have HT:Hid (lt.take (k+1)=lt.take k++[lt[k]]):=List.take_succ_eq_append_getElem hkl
     obtain⟨xx,xr,bx,ox,ex,rfl,hbx,e0,_⟩:=(VArg.mk rfl xnl xle xcm hxv:VArg _ lt[k] lt[k].length _ _).head
     have i3:(0:Int)<(lt[k].length:Int):=by rw[ex];simp
     have HX:Hid (opV lt[k]=xx.op):=by show _=_;rw[ex];rfl
     generalize lt[k]=x at *
     clear ex hxv xnl
     by_cases h4:xx.op=4
     · have e4:(xx.op != 4)=false:=by simpa using h4
       have HO2:Hid (o=true↔(opV (y::r)=4∧∀y∈lt.take (k+1),opV y=4)):=by
        show _↔_
        rw[HO.out,HT.out]
        constructor
        · rintro⟨h1,h2⟩
          refine⟨h1,fun y hy=>?_⟩
          rcases List.mem_append.1 hy with hy | hy
          · exact h2 y hy
          · simp only[List.mem_singleton]at hy;subst hy;rw[HX.out];exact h4
        · exact fun⟨h1,h2⟩=>⟨h1,fun y hy=>h2 y (List.mem_append_left _ hy)⟩
       clear h4 HO HX
       go_wp2
       go_roundw
       case rel=>exact⟨k+1,o,by omega,by go_num,rfl,HO2,trivial⟩
       case measure=>simp[intOf];omega
     · have e4:(xx.op != 4)=true:=by simpa using h4
       have HO2:Hid (false=true↔(opV (y::r)=4∧∀y∈lt.take (k+1),opV y=4)):=by
        show _↔_
        rw[HT.out]
        refine⟨(fun h=>by cases h),fun⟨_,h2⟩=>?_⟩
        exact absurd (h2 x (List.mem_append_right _ (List.mem_singleton.2 rfl))) (by rw[HX.out];exact h4)
       clear h4 HO HX
       go_wp2
       go_roundw
       case rel=>exact⟨k+1,false,by omega,by go_num,rfl,HO2,trivial⟩
       case measure=>simp[intOf];omega
   · have i1:¬(k:Int)<(lt.length:Int):=by omega
     have HOA:Hid (o=true↔(opV (y::r)=4∧∀x∈lt,opV x=4)):=by have:=HO.out;rw[List.take_of_length_le (by omega)]at this;exact this
     clear HO
     cases o with
     | false=>
       have HR:Hid (RR= .error 2):=by show _=_;rw[HIN.out,if_neg (fun h=>absurd (HOA.out.2 h) (by decide))]
       clear HIN HOA
       obtain⟨g0,g1,k0,k1,c0,c1,c2,c3,m0,m1,m2,m3,r0,r1,f0,f1⟩:=S.cells
       go_wp2_with fail
       refine(refBad_any _ 2).mono ?_
       rintro _ w5 ⟨rfl,hbb⟩
       clear g0 g1 k0 k1 c0 c1 c2 c3 m0 m1 m2 m3 r0 r1 f0 f1
       replace S:=S.up hbb
       replace he:=he.up hbb
       replace hl:=hl.up hbb
       obtain⟨g0,g1,k0,k1,c0,c1,c2,c3,m0,m1,m2,m3,r0,r1,f0,f1⟩:=S.cells
       go_wp2
       exact bodyPost_ret (v:=.agg #[.slice none 0 0,.int .i64 2]) (by simp[results,Tryz.results56,go_sem,(S.R.told _ _).1,(S.R.told _ _).2]) rfl (S.ret (by rw[HR.out];exact rfl))
     | true=>
       have HR:Hid (RR= .ok (tN (decide (∃x∈lt,Inn es ⟨y.s,y.t⟩ (uidV x))))):=by show _=_;rw[HIN.out,if_pos (HOA.out.1 rfl)];rfl
       clear HIN HOA
       have HUO:=fun w1=>refUidOf_any w1 y.op y.n y.s y.t
       have hfew:=few_of (by have:=(stf_zero ho.st).few;omega) (stf_list ho.st)
       obtain⟨g0,g1,k0,k1,c0,c1,c2,c3,m0,m1,m2,m3,r0,r1,f0,f1⟩:=S.cells
       go_wp2_with fail
       refine(HUO _).mono ?_
       rintro _ w5 ⟨rfl,hbb⟩
       clear g0 g1 k0 k1 c0 c1 c2 c3 m0 m1 m2 m3 r0 r1 f0 f1
       replace S:=S.up hbb
       replace he:=he.up hbb
       replace hl:=hl.up hbb
       obtain⟨g0,g1,k0,k1,c0,c1,c2,c3,m0,m1,m2,m3,r0,r1,f0,f1⟩:=S.cells
       go_wp2_with fail
       obtain⟨w6,hw⟩:∃V,V=w5.alloc (.cells #[.string y.s,.string y.t] 24):=⟨_,rfl⟩
       rw[←hw]
       have hbb:Below w5.heap.size w5 w6:=by rw[hw];exact(Below.refl _ _).alloc (Nat.le_refl _) _
       have hU:UB2 w6 w5.heap.size y.s y.t:=by rw[hw];exact⟨new_at rfl⟩
       replace S:=S.up hbb
       replace he:=he.up hbb
       replace hl:=hl.up hbb
       clear hw hbb g0 g1 k0 k1 c0 c1 c2 c3 m0 m1 m2 m3 r0 r1 f0 f1
       have hb:=S.hb
       have hR:=S.R
       clear S
       generalize hys:y.s=us at *
       generalize hyt:y.t=ut at *
       clear hys hyt
       go_loopw [11] (fun i wr=>∃k:Nat,k≤lt.length∧i= .int .i64 k∧Hid (∀x∈lt.take k,¬Inn es ⟨us,ut⟩ (uidV x))∧Below w6.heap.size w6 wr) (fun i _=>lt.length-(intOf i).toNat)
       case atStart=>exact⟨0,Nat.zero_le _,rfl,by simp[Hid],Below.refl _ _⟩
       case round=>
        rename World=>wr
        obtain⟨k2,hk2,rfl,HA,hbr⟩:=hrel
        by_cases hkl:k2<lt.length
        · have i5:(k2:Int)<(lt.length:Int):=by omega
          obtain⟨bl,ol,qx,cx,rfl,hbl,x0,xnl,xle,xcm⟩:=(hl.up hbr).at hkl
          have hxv:=HIV.out lt[k2] (List.getElem_mem hkl)
          have HT:Hid (lt.take (k2+1)=lt.take k2++[lt[k2]]):=List.take_succ_eq_append_getElem hkl
          have HM:Hid (lt[k2]∈lt):=List.getElem_mem hkl
          obtain⟨xx,xr,bx,ox,ex,rfl,hbx,e0,e1,e2,e3,xwf,_⟩:=(VArg.mk rfl xnl xle xcm hxv:VArg _ lt[k2] lt[k2].length _ _).head
          have i6:(0:Int)<(lt[k2].length:Int):=by rw[ex];simp
          have HX:Hid (uidV lt[k2]=⟨xx.s,xx.t⟩):=by show _=_;rw[ex];rfl
          generalize lt[k2]=x at *
          clear ex hxv xnl
          have hUr:=hU.up hbr
          obtain⟨u0,u1⟩:=hUr.cells
          obtain⟨r0,r1,f0,f1⟩:=(hR.up hbr).cells
          have HUX:=fun w1=>refUidOf_any w1 xx.op xx.n xx.s xx.t
          have HOV:=fun w1 (h1:EL w1 ps es)=>overB_any es ps cs ⟨us,ut⟩ ⟨xx.s,xx.t⟩ w1 h1 hfew
          have HI:Hid (Inn es ⟨us,ut⟩ (uidV x)→RR= .ok (tN true)):=fun h=>by rw[HR.out,decide_eq_true ⟨x,HM.out,h⟩]
          rw[HX.out]at HI
          have hnext:Hid (¬Inn es ⟨us,ut⟩ ⟨xx.s,xx.t⟩→∀y∈lt.take (k2+1),¬Inn es ⟨us,ut⟩ (uidV y)):=by
           intro h y hy
           rw[HT.out]at hy
           rcases List.mem_append.1 hy with hy | hy
           · exact HA.out y hy
           · simp only[List.mem_singleton]at hy;subst hy;rw[HX.out];exact h
          obtain⟨xo,xn,xs,xt⟩:=xx
          dsimp only at e0 e1 e2 e3 HUX HOV HI hnext
          clear HX HA HT xwf
          by_cases hs:us=xs
          · by_cases ht:ut=xt
            · subst hs ht
              go_wp2_with fail
              refine(HUX _).mono ?_
              rintro _ w9 ⟨rfl,hb9⟩
              obtain⟨u0',u1'⟩:=(hUr.up hb9).cells
              have hlt9:w5.heap.size<w9.heap.size:=(hUr.up hb9).lt
              have hbV:Below w9.heap.size w9 (w9.alloc (.cells #[.string us,.string ut] 24)):=(Below.refl _ _).alloc (Nat.le_refl _) _
              go_wp2_with fail
              refine(refTruth_any _ true).mono ?_
              rintro _ wa ⟨⟨q1,d1,rfl,hz⟩,hba⟩
              go_wp2_with fail
              refine(refGood_any _ q1 1 d1).mono ?_
              rintro _ wb ⟨rfl,hbg⟩
              have hbz:Below wr.heap.size wr wb:=qbt (qbt (qbt hb9 hbV) hba) hbg
              have hRz:=(hR.up hbr).up hbz
              obtain⟨r0',r1',f0',f1'⟩:=hRz.cells
              go_wp2
              exact bodyPost_ret (v:=.agg #[.slice q1 1 d1,.int .i64 0]) (by simp[results,Tryz.results56,go_sem,(hRz.told _ _).1,(hRz.told _ _).2]) rfl (hRz.ret (by omega) (qbt (qbt hb hbr) hbz) (by rw[HI.out (.inl rfl)];exact⟨q1,d1,rfl,hz.up hbg⟩))
            · subst hs
              have n1:=tl_ne ht
              have HNE:Hid ((⟨us,ut⟩:Ui)≠⟨us,xt⟩):=fun e=>ht (by cases e;rfl)
              clear ht
              go_wp2_with fail
              refine(HUX _).mono ?_
              rintro _ w9 ⟨rfl,hb9⟩
              obtain⟨u0',u1'⟩:=(hUr.up hb9).cells
              have hlt9:w5.heap.size<w9.heap.size:=(hUr.up hb9).lt
              have hbV:Below w9.heap.size w9 (w9.alloc (.cells #[.string us,.string xt] 24)):=(Below.refl _ _).alloc (Nat.le_refl _) _
              go_wp2_with fail
              refine(HOV _ (((he.up hbr).up hb9).up hbV)).mono ?_
              rintro _ w10 ⟨rfl,hb10⟩
              cases hB:abvB es ⟨us,ut⟩ ⟨us,xt⟩with
              | true=>
                have HB:Hid (Abv es ⟨us,ut⟩ ⟨us,xt⟩):=(abvB_iff _ _ _).1 hB
                clear hB
                go_wp2_with fail
                refine(refTruth_any _ true).mono ?_
                rintro _ wa ⟨⟨q1,d1,rfl,hz⟩,hba⟩
                go_wp2_with fail
                refine(refGood_any _ q1 1 d1).mono ?_
                rintro _ wb ⟨rfl,hbg⟩
                have hbz:Below wr.heap.size wr wb:=qbt (qbt (qbt (qbt hb9 hbV) hb10) hba) hbg
                have hRz:=(hR.up hbr).up hbz
                obtain⟨r0',r1',f0',f1'⟩:=hRz.cells
                go_wp2
                exact bodyPost_ret (v:=.agg #[.slice q1 1 d1,.int .i64 0]) (by simp[results,Tryz.results56,go_sem,(hRz.told _ _).1,(hRz.told _ _).2]) rfl (hRz.ret (by omega) (qbt (qbt hb hbr) hbz) (by rw[HI.out (.inr HB.out)];exact⟨q1,d1,rfl,hz.up hbg⟩))
              | false=>
                have HB:Hid (¬Abv es ⟨us,ut⟩ ⟨us,xt⟩):=fun h=>by rw[(abvB_iff _ _ _).2 h]at hB;cases hB
                have HN:Hid (_):=hnext.out (fun h=>h.elim (fun e=>HNE.out e) HB.out)
                clear hB HNE HI hnext
                go_wp2_with fail
                go_roundw
                case rel=>exact⟨k2+1,by omega,by go_num,HN,qbt hbr (qbt (qbt hb9 hbV) hb10)⟩
                case measure=>simp[intOf];omega
          · have n1:=tl_ne hs
            have HNE:Hid ((⟨us,ut⟩:Ui)≠⟨xs,xt⟩):=fun e=>hs (by cases e;rfl)
            clear hs
            go_wp2_with fail
            refine(HUX _).mono ?_
            rintro _ w9 ⟨rfl,hb9⟩
            obtain⟨u0',u1'⟩:=(hUr.up hb9).cells
            have hlt9:w5.heap.size<w9.heap.size:=(hUr.up hb9).lt
            have hbV:Below w9.heap.size w9 (w9.alloc (.cells #[.string xs,.string xt] 24)):=(Below.refl _ _).alloc (Nat.le_refl _) _
            go_wp2_with fail
            refine(HOV _ (((he.up hbr).up hb9).up hbV)).mono ?_
            rintro _ w10 ⟨rfl,hb10⟩
            cases hB:abvB es ⟨us,ut⟩ ⟨xs,xt⟩with
            | true=>
              have HB:Hid (Abv es ⟨us,ut⟩ ⟨xs,xt⟩):=(abvB_iff _ _ _).1 hB
              clear hB
              go_wp2_with fail
              refine(refTruth_any _ true).mono ?_
              rintro _ wa ⟨⟨q1,d1,rfl,hz⟩,hba⟩
              go_wp2_with fail
              refine(refGood_any _ q1 1 d1).mono ?_
              rintro _ wb ⟨rfl,hbg⟩
              have hbz:Below wr.heap.size wr wb:=qbt (qbt (qbt (qbt hb9 hbV) hb10) hba) hbg
              have hRz:=(hR.up hbr).up hbz
              obtain⟨r0',r1',f0',f1'⟩:=hRz.cells
              go_wp2
              exact bodyPost_ret (v:=.agg #[.slice q1 1 d1,.int .i64 0]) (by simp[results,Tryz.results56,go_sem,(hRz.told _ _).1,(hRz.told _ _).2]) rfl (hRz.ret (by omega) (qbt (qbt hb hbr) hbz) (by rw[HI.out (.inr HB.out)];exact⟨q1,d1,rfl,hz.up hbg⟩))
            | false=>
              have HB:Hid (¬Abv es ⟨us,ut⟩ ⟨xs,xt⟩):=fun h=>by rw[(abvB_iff _ _ _).2 h]at hB;cases hB
              have HN:Hid (_):=hnext.out (fun h=>h.elim (fun e=>HNE.out e) HB.out)
              clear hB HNE HI hnext
              go_wp2_with fail
              go_roundw
              case rel=>exact⟨k2+1,by omega,by go_num,HN,qbt hbr (qbt (qbt hb9 hbV) hb10)⟩
              case measure=>simp[intOf];omega
        · have i5:¬(k2:Int)<(lt.length:Int):=by omega
          have HRF:Hid (RR= .ok (tN false)):=by
           show _=_
           have:=HA.out
           rw[List.take_of_length_le (by omega)]at this
           rw[HR.out,decide_eq_false (fun⟨x,hx,h⟩=>this x hx h)]
          clear HA HR
          obtain⟨r0,r1,f0,f1⟩:=(hR.up hbr).cells
          go_wp2_with fail
          refine(refTruth_any _ false).mono ?_
          rintro _ wa ⟨⟨q1,d1,rfl,hz⟩,hba⟩
          go_wp2_with fail
          refine(refGood_any _ q1 1 d1).mono ?_
          rintro _ wb ⟨rfl,hbg⟩
          have hbz:Below wr.heap.size wr wb:=qbt hba hbg
          have hRz:=(hR.up hbr).up hbz
          obtain⟨r0',r1',f0',f1'⟩:=hRz.cells
          go_wp2
          exact bodyPost_ret (v:=.agg #[.slice q1 1 d1,.int .i64 0]) (by simp[results,Tryz.results56,go_sem,(hRz.told _ _).1,(hRz.told _ _).2]) rfl (hRz.ret (by omega) (qbt (qbt hb hbr) hbz) (by rw[HRF.out];exact⟨q1,d1,rfl,hz.up hbg⟩))
end
end Go.Proofs.YtnbkfggmpiccjaaGreatDoor
namespace Go.Proofs.YtnbkfggmpiccjaaGreatDoor
open Go.RowKit
set_option maxRecDepth 100000
section
variable {es:List En} {q0:Rq} (ps:Option Addr) (cs:Nat) (w:World)
theorem refOne_any (ho:EnvOk es q0)(x:Nd)(hop:x.op=9∨x.op=10∨x.op=21∨x.op=22∨x.op=23∨x.op=24)(hx:exOk x=true)(a:List Nd)(n:Nat)(q:Option Addr)(c:Nat)(h:VArg w a n q c)(hl:EL w ps es):
 Calls Tryz.prog 30 #[.slice ps es.length cs,.agg #[.int .i64 x.op,.int .i64 x.n,.string x.s,.string x.t],.agg #[.slice q n c,.int .i64 0]] w fun e w'=>GRet (oneE es x a) e w'∧Below w.heap.size w w':=by
 have hatt:∀r,attE es a= .ok r→opV r=6:=fun r hr=>(attE_is ho h.is hr).2
 obtain⟨xo,xn,xs,xt⟩:=x
 dsimp only at hop ⊢
 rcases hop with rfl | rfl | rfl | rfl | rfl | rfl
 · by_cases h1:opV a=1
   · have e:oneE es ⟨9,xn,xs,xt⟩ a= .ok (tN (!(nV a == 1))):=if_pos h1
     rw[e];exact ref1_not ps cs xn xs xt a n q c w h hl h1
   · have e:oneE es ⟨9,xn,xs,xt⟩ a= .error 2:=if_neg h1
     rw[e];exact ref1_bad ps cs xn xs xt a n q c w h hl 9 1 (by simp) h1
 · by_cases h2:opV a=2
   · by_cases hf:Fit (-nV a)
     · have e:oneE es ⟨10,xn,xs,xt⟩ a= .ok (mN (-nV a)):=(if_pos h2).trans (if_pos hf)
       rw[e];exact ref1_neg ps cs xn xs xt a n q c w h hl h2 hf
     · have e:oneE es ⟨10,xn,xs,xt⟩ a= .error 5:=(if_pos h2).trans (if_neg hf)
       rw[e];exact ref1_neg_over ps cs xn xs xt a n q c w h hl h2 hf
   · have e:oneE es ⟨10,xn,xs,xt⟩ a= .error 2:=if_neg h2
     rw[e];exact ref1_bad ps cs xn xs xt a n q c w h hl 10 2 (by simp) h2
 · have e:oneE es ⟨21,xn,xs,xt⟩ a=hasE es a xs:=rfl
   rw[e]
   unfold hasE
   by_cases h6:opV a=6
   · have hA:attE es a= .ok a:=if_pos h6
     rw[hA]
     exact ref1_fld21_6 ps cs xn xs xt a n q c w h hl ho h6 a hA h6
   · by_cases h4:opV a=4
     · cases hA:attE es a with
       | ok r=>exact ref1_fld21_4 ps cs xn xs xt a n q c w h hl ho h4 r hA (hatt r hA)
       | error k=>
         have hk:k=8:=by
          unfold attE at hA
          rw[if_neg h6,if_pos h4]at hA
          split at hA
          · cases hA
          · injection hA with hA;exact hA.symm
         simp only
         rw[if_pos hk]
         exact ref1_lost21_4 ps cs xn xs xt a n q c w h hl ho h4 k hA
     · have hA:attE es a= .error 2:=by unfold attE;rw[if_neg h6,if_neg h4]
       rw[hA]
       simp only
       rw[if_neg (by decide)]
       exact ref1_rec_bad ps cs xn xs xt a n q c w h hl 21 (.inl rfl) h6 h4
 · have e:oneE es ⟨22,xn,xs,xt⟩ a=getV es a xs:=rfl
   rw[e]
   unfold getV
   by_cases h6:opV a=6
   · have hA:attE es a= .ok a:=if_pos h6
     rw[hA]
     exact ref1_fld22_6 ps cs xn xs xt a n q c w h hl ho h6 a hA h6
   · by_cases h4:opV a=4
     · cases hA:attE es a with
       | ok r=>exact ref1_fld22_4 ps cs xn xs xt a n q c w h hl ho h4 r hA (hatt r hA)
       | error k=>
         have hk:k=8:=by
          unfold attE at hA
          rw[if_neg h6,if_pos h4]at hA
          split at hA
          · cases hA
          · injection hA with hA;exact hA.symm
         simp only
         have:=ref1_lost22_4 ps cs xn xs xt a n q c w h hl ho h4 k hA
         rw[hk]
         exact this
     · have hA:attE es a= .error 2:=by unfold attE;rw[if_neg h6,if_neg h4]
       rw[hA]
       exact ref1_rec_bad ps cs xn xs xt a n q c w h hl 22 (.inr rfl) h6 h4
 · have htx:textOk xs.data.toList=true:=by
    unfold exOk at hx
    rw[if_neg (by show ¬((1:Int)≤23∧(23:Int)≤7);decide),if_neg (by show ¬((1:Int)<0);decide)]at hx
    simp only[Bool.and_eq_true]at hx
    exact hx.2
   by_cases h3:opV a=3
   · have e:oneE es ⟨23,xn,xs,xt⟩ a= .ok (tN (pM (pcs xs.data.toList) (sV a).data.toList)):=if_pos h3
     rw[e];exact ref1_like ps cs xn xs xt a n q c w h hl h3 htx
   · have e:oneE es ⟨23,xn,xs,xt⟩ a= .error 2:=if_neg h3
     rw[e];exact ref1_bad ps cs xn xs xt a n q c w h hl 23 3 (by simp) h3
 · by_cases h4:opV a=4
   · have e:oneE es ⟨24,xn,xs,xt⟩ a= .ok (tN (decide (sV a=xs))):=if_pos h4
     rw[e]
     by_cases hs:sV a=xs
     · exact ref1_is_yes ps cs xn xs xt a n q c w h hl h4 hs
     · exact ref1_is_no ps cs xn xs xt a n q c w h hl h4 hs
   · have e:oneE es ⟨24,xn,xs,xt⟩ a= .error 2:=if_neg h4
     rw[e];exact ref1_bad ps cs xn xs xt a n q c w h hl 24 4 (by simp) h4
theorem refTwo_any (ho:EnvOk es q0)(op:Int)(hop:op=14∨op=15∨op=16∨op=17∨op=18∨op=19∨op=20∨op=25∨op=26∨op=27)(a v:List Nd)(n m:Nat)(q p:Option Addr)(c d:Nat)(h:VArg w a n q c)(g:VArg w v m p d)(hl:EL w ps es):
 Calls Tryz.prog 31 #[.slice ps es.length cs,.int .i64 op,.agg #[.slice q n c,.int .i64 0],.agg #[.slice p m d,.int .i64 0]] w fun e w'=>GRet (twoE es op a v) e w'∧Below w.heap.size w w':=by
 have num:∀o:Int,o=17∨o=18∨o=19→twoE es o a v=(if opV a=2∧opV v=2 then(if nmf o (nV a) (nV v)=0 then .ok (mN (nx o (nV a) (nV v)))else .error (nmf o (nV a) (nV v)))else .error 2):=by
  intro o h
  unfold twoE
  rw[if_neg (by omega),if_neg (by omega),if_neg (by omega),if_neg (by omega),if_neg (by omega),if_neg (by omega),if_neg (by omega)]
 have cmp:∀o:Int,o=15∨o=16∨o=17∨o=18∨o=19→¬(opV a=2∧opV v=2)→Calls Tryz.prog 31 #[.slice ps es.length cs,.int .i64 o,.agg #[.slice q n c,.int .i64 0],.agg #[.slice p m d,.int .i64 0]] w fun e w'=>GRet (.error 2) e w'∧Below w.heap.size w w':=by
  intro o h5 hx
  by_cases a2:opV a=2
  · exact ref_two_bad2 ps cs o a v n m q p c d w h g hl h5 a2 (fun v2=>hx ⟨a2,v2⟩)
  · exact ref_two_bad1 ps cs o a v n m q p c d w h g hl h5 a2
 have numc:∀o:Int,o=17∨o=18∨o=19→Calls Tryz.prog 31 #[.slice ps es.length cs,.int .i64 o,.agg #[.slice q n c,.int .i64 0],.agg #[.slice p m d,.int .i64 0]] w fun e w'=>GRet (twoE es o a v) e w'∧Below w.heap.size w w':=by
  intro o h3
  rw[num o h3]
  by_cases hx:opV a=2∧opV v=2
  · rw[if_pos hx]
    by_cases hf:nmf o (nV a) (nV v)=0
    · rw[if_pos hf];exact ref_two_num_ok ps cs o a v n m q p c d w h g hl h3 hx.1 hx.2 hf
    · rw[if_neg hf];exact ref_two_num_bad ps cs o a v n m q p c d w h g hl h3 hx.1 hx.2 hf
  · rw[if_neg hx];exact cmp o (by omega) hx
 rcases hop with rfl | rfl | rfl | rfl | rfl | rfl | rfl | rfl | rfl | rfl
 · have e:twoE es 14 a v= .ok (tN (decide (lsC a v=0))):=rfl
   rw[e]
   by_cases hq:lsC a v=0
   · exact ref_two_eq_yes ps cs a v n m q p c d w h g hl hq
   · exact ref_two_eq_no ps cs a v n m q p c d w h g hl hq
 · by_cases hx:opV a=2∧opV v=2
   · have e:twoE es 15 a v= .ok (tN (decide (nV a<nV v))):=if_pos hx
     rw[e];exact ref_two_lt ps cs a v n m q p c d w h g hl hx.1 hx.2
   · have e:twoE es 15 a v= .error 2:=if_neg hx
     rw[e];exact cmp 15 (by omega) hx
 · by_cases hx:opV a=2∧opV v=2
   · have e:twoE es 16 a v= .ok (tN (decide (nV a≤nV v))):=if_pos hx
     rw[e];exact ref_two_le ps cs a v n m q p c d w h g hl hx.1 hx.2
   · have e:twoE es 16 a v= .error 2:=if_neg hx
     rw[e];exact cmp 16 (by omega) hx
 · exact numc 17 (by omega)
 · exact numc 18 (by omega)
 · exact numc 19 (by omega)
 · have e:twoE es 20 a v=inE es a v:=rfl
   rw[e]
   refine ref_two_in ps cs a v n m q p c d w h g hl _ (fun w1 hl1 h1 g1=>?_)
   exact refIn_any ps cs a v n m q p c d w1 h1 g1 hl1 ho
 · refine ref_two_sets ps cs 25 a v n m q p c d w h g hl (by simp) _ (fun w1 h1 g1=>?_)
   by_cases a5:opV a=5
   · have e:twoE es 25 a v= .ok (tN (inB (setR a) v)):=if_pos a5
     rw[e];exact ref_sets_one a v n m q p c d w1 h1 g1 a5
   · have e:twoE es 25 a v= .error 2:=if_neg a5
     rw[e];exact ref_sets_bad1 25 a v n m q p c d w1 h1 g1 a5
 · refine ref_two_sets ps cs 26 a v n m q p c d w h g hl (by simp) _ (fun w1 h1 g1=>?_)
   by_cases hx:opV a=5∧opV v=5
   · have e:twoE es 26 a v= .ok (tN (allB (setR a) (setR v))):=if_pos hx
     rw[e];exact ref_sets_all a v n m q p c d w1 h1 g1 hx.1 hx.2
   · have e:twoE es 26 a v= .error 2:=if_neg hx
     rw[e]
     by_cases a5:opV a=5
     · exact ref_sets_bad2 26 a v n m q p c d w1 h1 g1 a5 (fun v5=>hx ⟨a5,v5⟩) (by decide)
     · exact ref_sets_bad1 26 a v n m q p c d w1 h1 g1 a5
 · refine ref_two_sets ps cs 27 a v n m q p c d w h g hl (by simp) _ (fun w1 h1 g1=>?_)
   by_cases hx:opV a=5∧opV v=5
   · have e:twoE es 27 a v= .ok (tN (anyB (setR a) (setR v))):=if_pos hx
     rw[e];exact ref_sets_any a v n m q p c d w1 h1 g1 hx.1 hx.2
   · have e:twoE es 27 a v= .error 2:=if_neg hx
     rw[e]
     by_cases a5:opV a=5
     · exact ref_sets_bad2 27 a v n m q p c d w1 h1 g1 a5 (fun v5=>hx ⟨a5,v5⟩) (by decide)
     · exact ref_sets_bad1 27 a v n m q p c d w1 h1 g1 a5
end
structure WArg (es:List En)(ps:Option Addr)(q:Rq)(pq:Option Addr)(cq:Nat)(e:List Nd)(pe:Option Addr)(w:World):Prop where
 el:EL w ps es
 rq:RqArg w q pq cq
 nl:NL w pe e
theorem WArg.up {es:List En}{ps:Option Addr}{q:Rq}{pq:Option Addr}{cq:Nat}{e:List Nd}{pe:Option Addr}{w w':World}(h:WArg es ps q pq cq e pe w)(k:Below w.heap.size w w'):WArg es ps q pq cq e pe w':=
 ⟨h.el.up k,⟨h.rq.u0,h.rq.u1,h.rq.u2,h.rq.nl.up k,h.rq.le,h.rq.cm⟩,h.nl.up k⟩
structure P3 (w:World)(bp op:Nat)(k0 k1 k2:Int):Prop where
 cells:w.cell? ⟨bp,op,none⟩=some (.int .i64 k0)∧w.cell? ⟨bp,op+1,none⟩=some (.int .i64 k1)∧w.cell? ⟨bp,op+2,none⟩=some (.int .i64 k2)
 lt:bp<w.heap.size
theorem P3.bel {N:Nat}{w w':World}{bp op:Nat}{k0 k1 k2:Int}(h:P3 w bp op k0 k1 k2)(k:Below N w w')(hl:bp<N):P3 w' bp op k0 k1 k2:=
 ⟨⟨(k.cell (p:=⟨bp,op,none⟩) hl).trans h.cells.1,(k.cell (p:=⟨bp,op+1,none⟩) hl).trans h.cells.2.1,(k.cell (p:=⟨bp,op+2,none⟩) hl).trans h.cells.2.2⟩,Nat.lt_of_lt_of_le h.lt k.size⟩
theorem P3.up {w w':World}{bp op:Nat}{k0 k1 k2:Int}(h:P3 w bp op k0 k1 k2)(k:Below w.heap.size w w'):P3 w' bp op k0 k1 k2:=h.bel k h.lt
theorem QR.bel {N:Nat}{w w':World}{B:Nat}{q:Rq}{pq:Option Addr}{cq:Nat}(h:QR w B q pq cq)(k:Below N w w')(hl:B<N):QR w' B q pq cq:=⟨(k.block B hl).trans h.blk⟩
theorem GR.belk {N:Nat}{w w':World}{B:Nat}(h:GR w B)(k:Below N w w')(hl:B<N):GR w' B:=⟨(k.block B hl).trans h.blk⟩
abbrev HQ (B:Nat)(q:Rq)(pq:Option Addr)(cq:Nat)(bp op:Nat)(k0 k1 k2:Int)(w:World):Prop:=w.cell? ⟨B,0,none⟩=some (.string q.who.t)∧w.cell? ⟨B,1,none⟩=some (.string q.who.i)∧w.cell? ⟨B,2,none⟩=some (.string q.act.t)∧w.cell? ⟨B,3,none⟩=some (.string q.act.i)∧w.cell? ⟨B,4,none⟩=some (.string q.what.t)∧w.cell? ⟨B,5,none⟩=some (.string q.what.i)∧w.cell? ⟨B,6,none⟩=some (.slice pq q.cx.length cq)∧w.cell? ⟨bp,op,none⟩=some (.int .i64 k0)∧w.cell? ⟨bp,op+1,none⟩=some (.int .i64 k1)∧w.cell? ⟨bp,op+2,none⟩=some (.int .i64 k2)
section
variable {w w':World} {B N:Nat} {q:Rq} {pq:Option Addr} {cq:Nat} {bp op:Nat} {k0 k1 k2:Int} (h:QR w B q pq cq) (k:P3 w bp op k0 k1 k2)
include h k
theorem QP.cells:HQ B q pq cq bp op k0 k1 k2 w:=by
 obtain⟨h0,h1,h2,h3,h4,h5,h6⟩:=h.cells
 exact⟨h0,h1,h2,h3,h4,h5,h6,k.cells⟩
theorem QP.b (b:Below N w w')(h1:B<N)(h2:bp<N):HQ B q pq cq bp op k0 k1 k2 w':=QP.cells (h.bel b h1) (k.bel b h2)
theorem QP.u (b:Below w.heap.size w w'):HQ B q pq cq bp op k0 k1 k2 w':=QP.cells (h.up b) (k.up b)
end
structure G2 (w:World)(B:Nat)(u v:Value):Prop where
 lt:B<w.heap.size
 cells:w.cell? ⟨B,0,none⟩=some u∧w.cell? ⟨B,1,none⟩=some v
theorem G2.bel {N:Nat}{w w':World}{B:Nat}{u v:Value}(h:G2 w B u v)(k:Below N w w')(hl:B<N):G2 w' B u v:=
 ⟨Nat.lt_of_lt_of_le h.lt k.size,(k.cell (p:=⟨B,0,none⟩) hl).trans h.cells.1,(k.cell (p:=⟨B,1,none⟩) hl).trans h.cells.2⟩
theorem G2.up {w w':World}{B:Nat}{u v:Value}(h:G2 w B u v)(hb:Below w.heap.size w w'):G2 w' B u v:=h.bel hb h.lt
def Ended (w:World)(N:Nat)(u v:Value)(V:World)(B:Nat):Prop:=
 (V=w.alloc (.cells #[u,v] 30)∧B=w.heap.size)∨(GR w N∧V=(w.setCell ⟨N,0,none⟩ u).setCell ⟨N,1,none⟩ v∧B=N)
section
variable {w V:World} {N B:Nat} {u v:Value} (h:Ended w N u v V B)
include h
theorem Ended.g2:G2 V B u v:=by
 rcases h with⟨rfl,rfl⟩ | ⟨g,rfl,rfl⟩
 · have key:∀(X:World) n,X.heap[n]? =some (.cells #[u,v] 30 (0,0))→X.cell? ⟨n,0,none⟩=some u∧X.cell? ⟨n,1,none⟩=some v:=by
    intro X n h
    simp[World.cell?, h]
   exact⟨by simp,key _ _ (new_at rfl)⟩
 · exact⟨by simpa using g.lt,g.told u v⟩
theorem Ended.below {w0:World}(k:Below w0.heap.size w0 w)(hN:w0.heap.size≤N):Below w0.heap.size w0 V:=by
 rcases h with⟨rfl,rfl⟩ | ⟨g,rfl,rfl⟩
 · exact qbt k ((Below.refl _ _).alloc (Nat.le_refl _) _)
 · exact k.trans (GR.bel hN u v)
theorem Ended.hQ {C:Nat}{q:Rq}{pq:Option Addr}{cq:Nat}(k:QR w C q pq cq)(hN:C<N):QR V C q pq cq:=by
 rcases h with⟨rfl,rfl⟩ | ⟨g,rfl,rfl⟩
 · exact k.up ((Below.refl _ _).alloc (Nat.le_refl _) _)
 · exact k.bel (GR.bel (Nat.le_refl _) u v) hN
theorem Ended.hR {C:Nat}(k:GR w C)(hN:C<N):GR V C:=by
 rcases h with⟨rfl,rfl⟩ | ⟨g,rfl,rfl⟩
 · exact k.up ((Below.refl _ _).alloc (Nat.le_refl _) _)
 · exact k.belk (GR.bel (Nat.le_refl _) u v) hN
theorem Ended.g2k {C:Nat}{u' v':Value}(k:G2 w C u' v')(hN:C<N):G2 V C u' v':=by
 rcases h with⟨rfl,rfl⟩ | ⟨g,rfl,rfl⟩
 · exact k.up ((Below.refl _ _).alloc (Nat.le_refl _) _)
 · exact k.bel (GR.bel (Nat.le_refl _) u v) hN
theorem Ended.val {a:List Nd}{n:Nat}{q:Option Addr}{c:Nat}(k:VArg w a n q c):VArg V a n q c:=by
 rcases h with⟨rfl,rfl⟩ | ⟨g,rfl,rfl⟩
 · exact k.up ((Below.refl _ _).alloc (Nat.le_refl _) _)
 · exact g.keep k u v
end
def HOk (x:Nd)(r:List Nd)(m:Nat)(en:Ending)(w:World):Prop:=∃b off c,en= .returned (.agg #[.slice (some ⟨b,off,none⟩) m c,.int .i64 0])∧VArg w (x::r) m (some ⟨b,off,none⟩) c
def tT:Nd:=⟨1,1,⟨#[]⟩,⟨#[]⟩⟩
def tF:Nd:=⟨1,0,⟨#[]⟩,⟨#[]⟩⟩
theorem cellsT {w:World}{m b off c:Nat}(h:VArg w (tT::[]) m (some ⟨b,off,none⟩) c):w.cell? ⟨b,off,none⟩=some (.int .i64 1)∧w.cell? ⟨b,off+1,none⟩=some (.int .i64 1):=⟨h.cells.1,h.cells.2.1⟩
theorem cellsF {w:World}{m b off c:Nat}(h:VArg w (tF::[]) m (some ⟨b,off,none⟩) c):w.cell? ⟨b,off,none⟩=some (.int .i64 1)∧w.cell? ⟨b,off+1,none⟩=some (.int .i64 0):=⟨h.cells.1,h.cells.2.1⟩
theorem GRet.shape {R:Except Int (List Nd)}{en:Ending}{w:World}(h:GRet R en w):∃q n c k,en= .returned (.agg #[.slice q n c,.int .i64 k]):=by
 cases R with
 | error n=>exact⟨none,0,0,n,h⟩
 | ok a=>obtain⟨q,c,e,_⟩:=h;exact⟨q,a.length,c,0,e⟩
section
variable (es:List En) (ps:Option Addr) (cs:Nat) (q:Rq) (pq:Option Addr) (cq:Nat) (e:List Nd) (pe:Option Addr) (ce:Nat) (bp op lp cp:Nat) (k0 k1 k2:Int) (w:World) (hE0:WArg es ps q pq cq e pe w) (hP0:P3 w bp op k0 k1 k2) (hlp:3≤lp) (x0 x1:Nd) (r0 r1:List Nd) (m0 m1:Nat) (n0 n1:Int) (R:Except Int (List Nd))
include hE0 hP0 hlp
theorem lz_err (o:Int)(hn:n0≠0)(HW0:∀w1,WArg es ps q pq cq e pe w1→Calls Tryz.prog 12 #[.slice ps es.length cs,reqV q pq cq,.slice pe e.length ce,.int .i64 k0] w1 fun en w'=>en= .returned (.agg #[.slice none 0 0,.int .i64 n0])∧Below w1.heap.size w1 w'):
 Calls Tryz.prog 26 #[.slice ps es.length cs,reqV q pq cq,.slice pe e.length ce,.int .i64 o,.slice (some ⟨bp,op,none⟩) lp cp] w fun en w'=>GRet (.error n0) en w'∧Below w.heap.size w w':=by
 obtain⟨W,hW⟩:∃W,W=(w.alloc (.cells #[.string q.who.t,.string q.who.i,.string q.act.t,.string q.act.i,.string q.what.t,.string q.what.i,.slice pq q.cx.length cq] 27)).alloc (.cells #[.slice none 0 0,.int .i64 0] 30):=⟨_,rfl⟩
 have hb_0:Below w.heap.size w W:=by rw[hW];exact((Below.refl _ _).alloc (Nat.le_refl _) _).alloc (by simp) _
 have hQ_0:QR W w.heap.size q pq cq:=by rw[hW];exact(QR.new w q pq cq).up ((Below.refl _ _).alloc (Nat.le_refl _) _)
 have hR_0:GR W (w.heap.size+1):=by rw[hW];exact GR.new _ (by simp)
 have hWs:W.heap.size=w.heap.size+1+1:=by rw[hW];simp
 have hE_0:=hE0.up hb_0
 have hP_0:=hP0.up hb_0
 have hPlt:=hP0.lt
 have hQlt:w.heap.size+1<W.heap.size:=by omega
 unfold reqV at HW0 ⊢
 have i7:(0:Int)<(lp:Int):=by omega
 have i8:(1:Int)<(lp:Int):=by omega
 have i9:(2:Int)<(lp:Int):=by omega
 go_enter Tryz.func26,Tryz.ntmps26
 obtain⟨x0,x1,x2,x3,x4,x5,x6⟩:=hQ_0.cells
 obtain⟨r0,r1,f0,f1⟩:=hR_0.cells
 obtain⟨p0,p1,p2⟩:=hP_0.cells
 go_wp2_with fail
 rw[←hW]
 clear hW
 have HL:w.heap.size<(w.heap.size+1+1)∧bp<(w.heap.size+1+1):=⟨by have:=hR_0.lt;have:=hPlt;have:=hb_0.size;omega,by have:=hR_0.lt;have:=hPlt;have:=hb_0.size;omega⟩
 go_region_held (HQ w.heap.size q pq cq bp op k0 k1 k2) (first | exact QP.b hQ_1 hP_1 (GR.bel (Nat.le_refl (w.heap.size+1+1)) _ _) HL.1 HL.2 | exact QP.b hQ_1 hP_1 ((Below.refl _ _).setCell (p:=⟨(w.heap.size+1+1),0,none⟩) (Nat.le_refl _) _) HL.1 HL.2 | exact QP.u hQ_1 hP_1 zbx | exact QP.u hQ_0 hP_0 zbx) (first
  | (go_at_call 12
     refine(HW0 _ (WArg.up hE_0 zbx)).mono ?_
     rintro _ w1 ⟨rfl,hbb_1⟩
     have hbk_1:Below W.heap.size W w1:=qbt zbx hbb_1
     have hb_1:=qbt hb_0 hbk_1
     have hQ_1:=hQ_0.up hbk_1
     have hR_1:=hR_0.up hbk_1
     have hE_1:=hE_0.up hbk_1
     have hP_1:=hP_0.up hbk_1
     first | (have hC0:GR w1 ((w.heap.size+1+1)):=GR.up (GR.up (GR.new W hWs.symm) (zbD (Below.refl _ _))) hbb_1;obtain⟨cc0,cc1,cf0,cf1⟩:=hC0.cells) | skip))
 all_goals
  first
  | (obtain⟨w2,hV⟩:∃V,V=w1.alloc (.cells #[.slice none 0 0,.int .i64 n0] 30):=⟨_,rfl⟩
     obtain⟨Bgc,hBc⟩:∃V,V=w1.heap.size:=⟨_,rfl⟩
     have hEd:Ended w1 (w.heap.size+1+1) (.slice none 0 0) (.int .i64 n0) w2 Bgc:=.inl ⟨hV,hBc⟩
     rw[←hV,←hBc]
     clear hV hBc)
  | (obtain⟨w2,hV⟩:∃V,V=(w1.setCell ⟨(w.heap.size+1+1),0,none⟩ (.slice none 0 0)).setCell ⟨(w.heap.size+1+1),1,none⟩ (.int .i64 n0):=⟨_,rfl⟩
     obtain⟨Bgc,hBc⟩:∃V,V=(w.heap.size+1+1):=⟨_,rfl⟩
     have hEd:Ended w1 (w.heap.size+1+1) (.slice none 0 0) (.int .i64 n0) w2 Bgc:=.inr ⟨hC0,hV,hBc⟩
     rw[←hV,←hBc]
     clear hV hBc hC0 cc0 cc1 cf0 cf1)
  have hb_2:=hEd.below hb_1 (by have:=hR_0.lt;have:=hPlt;have:=hb_0.size;omega)
  have gc_2:=hEd.g2
  have hQ_2:=hEd.hQ hQ_1 (by have:=hR_0.lt;have:=hPlt;have:=hb_0.size;omega)
  have hR_2:=hEd.hR hR_1 (by have:=hR_0.lt;have:=hPlt;have:=hb_0.size;omega)
  have hE_2:=hE0.up hb_2
  have hP_2:=hP0.up hb_2
  clear hEd
  obtain⟨x0,x1,x2,x3,x4,x5,x6⟩:=hQ_2.cells
  obtain⟨r0,r1,f0,f1⟩:=hR_2.cells
  obtain⟨p0,p1,p2⟩:=hP_2.cells
  obtain⟨gca,gcb⟩:=gc_2.cells
  go_wp2
  exact bodyPost_ret (v:=.agg #[.slice none 0 0,.int .i64 n0]) (by simp[results,Tryz.results26,go_sem,(hR_2.told _ _).1,(hR_2.told _ _).2]) rfl (hR_2.ret (by omega) hb_2 (rfl))
theorem lz_bad (o:Int)(hx0:x0.op≠1)(HW0:∀w1,WArg es ps q pq cq e pe w1→Calls Tryz.prog 12 #[.slice ps es.length cs,reqV q pq cq,.slice pe e.length ce,.int .i64 k0] w1 fun en w'=>HOk x0 r0 m0 en w'∧Below w1.heap.size w1 w'):
 Calls Tryz.prog 26 #[.slice ps es.length cs,reqV q pq cq,.slice pe e.length ce,.int .i64 o,.slice (some ⟨bp,op,none⟩) lp cp] w fun en w'=>GRet (.error 2) en w'∧Below w.heap.size w w':=by
 have HI:=fun w1 b off c=>isN (a:=x0::r0) hx0 m0 (some ⟨b,off,none⟩) c w1
 obtain⟨W,hW⟩:∃W,W=(w.alloc (.cells #[.string q.who.t,.string q.who.i,.string q.act.t,.string q.act.i,.string q.what.t,.string q.what.i,.slice pq q.cx.length cq] 27)).alloc (.cells #[.slice none 0 0,.int .i64 0] 30):=⟨_,rfl⟩
 have hb_0:Below w.heap.size w W:=by rw[hW];exact((Below.refl _ _).alloc (Nat.le_refl _) _).alloc (by simp) _
 have hQ_0:QR W w.heap.size q pq cq:=by rw[hW];exact(QR.new w q pq cq).up ((Below.refl _ _).alloc (Nat.le_refl _) _)
 have hR_0:GR W (w.heap.size+1):=by rw[hW];exact GR.new _ (by simp)
 have hWs:W.heap.size=w.heap.size+1+1:=by rw[hW];simp
 have hE_0:=hE0.up hb_0
 have hP_0:=hP0.up hb_0
 have hPlt:=hP0.lt
 have hQlt:w.heap.size+1<W.heap.size:=by omega
 unfold reqV at HW0 ⊢
 have i7:(0:Int)<(lp:Int):=by omega
 have i8:(1:Int)<(lp:Int):=by omega
 have i9:(2:Int)<(lp:Int):=by omega
 go_enter Tryz.func26,Tryz.ntmps26
 obtain⟨x0,x1,x2,x3,x4,x5,x6⟩:=hQ_0.cells
 obtain⟨r0,r1,f0,f1⟩:=hR_0.cells
 obtain⟨p0,p1,p2⟩:=hP_0.cells
 go_wp2_with fail
 rw[←hW]
 clear hW
 have HL:w.heap.size<(w.heap.size+1+1)∧bp<(w.heap.size+1+1):=⟨by have:=hR_0.lt;have:=hPlt;have:=hb_0.size;omega,by have:=hR_0.lt;have:=hPlt;have:=hb_0.size;omega⟩
 go_region_held (HQ w.heap.size q pq cq bp op k0 k1 k2) (first | exact QP.b hQ_1 hP_1 (GR.bel (Nat.le_refl (w.heap.size+1+1)) _ _) HL.1 HL.2 | exact QP.b hQ_1 hP_1 ((Below.refl _ _).setCell (p:=⟨(w.heap.size+1+1),0,none⟩) (Nat.le_refl _) _) HL.1 HL.2 | exact QP.u hQ_1 hP_1 zbx | exact QP.u hQ_0 hP_0 zbx) (first
  | (go_at_call 12
     refine(HW0 _ (WArg.up hE_0 zbx)).mono ?_
     rintro _ w1 ⟨⟨bhv,ohv,chv,rfl,hv_1⟩,hbb_1⟩
     have hbk_1:Below W.heap.size W w1:=qbt zbx hbb_1
     have hb_1:=qbt hb_0 hbk_1
     have hQ_1:=hQ_0.up hbk_1
     have hR_1:=hR_0.up hbk_1
     have hE_1:=hE_0.up hbk_1
     have hP_1:=hP_0.up hbk_1
     first | (have hC0:GR w1 ((w.heap.size+1+1)):=GR.up (GR.up (GR.new W hWs.symm) (zbD (Below.refl _ _))) hbb_1;obtain⟨cc0,cc1,cf0,cf1⟩:=hC0.cells) | skip))
 all_goals
  first
  | (obtain⟨w2,hV⟩:∃V,V=w1.alloc (.cells #[.slice (some ⟨bhv,ohv,none⟩) m0 chv,.int .i64 0] 30):=⟨_,rfl⟩
     obtain⟨Bgc,hBc⟩:∃V,V=w1.heap.size:=⟨_,rfl⟩
     have hEd:Ended w1 (w.heap.size+1+1) (.slice (some ⟨bhv,ohv,none⟩) m0 chv) (.int .i64 0) w2 Bgc:=.inl ⟨hV,hBc⟩
     rw[←hV,←hBc]
     clear hV hBc)
  | (obtain⟨w2,hV⟩:∃V,V=(w1.setCell ⟨(w.heap.size+1+1),0,none⟩ (.slice (some ⟨bhv,ohv,none⟩) m0 chv)).setCell ⟨(w.heap.size+1+1),1,none⟩ (.int .i64 0):=⟨_,rfl⟩
     obtain⟨Bgc,hBc⟩:∃V,V=(w.heap.size+1+1):=⟨_,rfl⟩
     have hEd:Ended w1 (w.heap.size+1+1) (.slice (some ⟨bhv,ohv,none⟩) m0 chv) (.int .i64 0) w2 Bgc:=.inr ⟨hC0,hV,hBc⟩
     rw[←hV,←hBc]
     clear hV hBc hC0 cc0 cc1 cf0 cf1)
  have hb_2:=hEd.below hb_1 (by have:=hR_0.lt;have:=hPlt;have:=hb_0.size;omega)
  have gc_2:=hEd.g2
  have hQ_2:=hEd.hQ hQ_1 (by have:=hR_0.lt;have:=hPlt;have:=hb_0.size;omega)
  have hR_2:=hEd.hR hR_1 (by have:=hR_0.lt;have:=hPlt;have:=hb_0.size;omega)
  have hE_2:=hE0.up hb_2
  have hP_2:=hP0.up hb_2
  have hv_2:=hEd.val hv_1
  clear hEd
  obtain⟨x0,x1,x2,x3,x4,x5,x6⟩:=hQ_2.cells
  obtain⟨r0,r1,f0,f1⟩:=hR_2.cells
  obtain⟨p0,p1,p2⟩:=hP_2.cells
  obtain⟨gca,gcb⟩:=gc_2.cells
  go_wp2_with fail
  refine(HI _ _ _ _ hv_2).mono ?_
  rintro _ w3 ⟨rfl,hbb⟩
  clear x0 x1 x2 x3 x4 x5 x6 r0 r1 f0 f1 p0 p1 p2 gca gcb
  have hb_3:=qbt hb_2 hbb
  have hQ_3:=hQ_2.up hbb
  have hR_3:=hR_2.up hbb
  have hE_3:=hE_2.up hbb
  have hP_3:=hP_2.up hbb
  have hv_3:=hv_2.up hbb
  have gc_3:=gc_2.up hbb
  clear hbb hb_2 hQ_2 hR_2 hE_2 hP_2 hv_2 gc_2
  obtain⟨x0,x1,x2,x3,x4,x5,x6⟩:=hQ_3.cells
  obtain⟨r0,r1,f0,f1⟩:=hR_3.cells
  obtain⟨p0,p1,p2⟩:=hP_3.cells
  obtain⟨gca,gcb⟩:=gc_3.cells
  go_wp2_with fail
  refine(refBad_any _ 2).mono ?_
  rintro _ w4 ⟨rfl,hbb⟩
  clear x0 x1 x2 x3 x4 x5 x6 r0 r1 f0 f1 p0 p1 p2 gca gcb
  have hb_4:=qbt hb_3 hbb
  have hQ_4:=hQ_3.up hbb
  have hR_4:=hR_3.up hbb
  have hE_4:=hE_3.up hbb
  have hP_4:=hP_3.up hbb
  have hv_4:=hv_3.up hbb
  have gc_4:=gc_3.up hbb
  clear hbb hb_3 hQ_3 hR_3 hE_3 hP_3 hv_3 gc_3
  obtain⟨x0,x1,x2,x3,x4,x5,x6⟩:=hQ_4.cells
  obtain⟨r0,r1,f0,f1⟩:=hR_4.cells
  obtain⟨p0,p1,p2⟩:=hP_4.cells
  obtain⟨gca,gcb⟩:=gc_4.cells
  go_wp2
  exact bodyPost_ret (v:=.agg #[.slice none 0 0,.int .i64 2]) (by simp[results,Tryz.results26,go_sem,(hR_4.told _ _).1,(hR_4.told _ _).2]) rfl (hR_4.ret (by omega) hb_4 (rfl))
theorem lz_en (o:Int)(t0:Nd)(ho:o=11∧t0=tF∨o=12∧t0=tT)(HW0:∀w1,WArg es ps q pq cq e pe w1→Calls Tryz.prog 12 #[.slice ps es.length cs,reqV q pq cq,.slice pe e.length ce,.int .i64 k0] w1 fun en w'=>HOk t0 [] 1 en w'∧Below w1.heap.size w1 w'):
 Calls Tryz.prog 26 #[.slice ps es.length cs,reqV q pq cq,.slice pe e.length ce,.int .i64 o,.slice (some ⟨bp,op,none⟩) lp cp] w fun en w'=>GRet (.ok [t0]) en w'∧Below w.heap.size w w':=by
 have HI:=fun w1 b off c=>isY (a:=t0::[]) (k:=1) (by rcases ho with⟨_,rfl⟩ | ⟨_,rfl⟩<;>rfl) 1 (some ⟨b,off,none⟩) c w1
 obtain⟨W,hW⟩:∃W,W=(w.alloc (.cells #[.string q.who.t,.string q.who.i,.string q.act.t,.string q.act.i,.string q.what.t,.string q.what.i,.slice pq q.cx.length cq] 27)).alloc (.cells #[.slice none 0 0,.int .i64 0] 30):=⟨_,rfl⟩
 have hb_0:Below w.heap.size w W:=by rw[hW];exact((Below.refl _ _).alloc (Nat.le_refl _) _).alloc (by simp) _
 have hQ_0:QR W w.heap.size q pq cq:=by rw[hW];exact(QR.new w q pq cq).up ((Below.refl _ _).alloc (Nat.le_refl _) _)
 have hR_0:GR W (w.heap.size+1):=by rw[hW];exact GR.new _ (by simp)
 have hWs:W.heap.size=w.heap.size+1+1:=by rw[hW];simp
 have hE_0:=hE0.up hb_0
 have hP_0:=hP0.up hb_0
 have hPlt:=hP0.lt
 have hQlt:w.heap.size+1<W.heap.size:=by omega
 unfold reqV at HW0 ⊢
 have i7:(0:Int)<(lp:Int):=by omega
 have i8:(1:Int)<(lp:Int):=by omega
 have i9:(2:Int)<(lp:Int):=by omega
 rcases ho with⟨rfl,rfl⟩ | ⟨rfl,rfl⟩
 all_goals
  go_enter Tryz.func26,Tryz.ntmps26
  obtain⟨x0,x1,x2,x3,x4,x5,x6⟩:=hQ_0.cells
  obtain⟨r0,r1,f0,f1⟩:=hR_0.cells
  obtain⟨p0,p1,p2⟩:=hP_0.cells
  go_wp2_with fail
  rw[←hW]
  clear hW
  have HL:w.heap.size<(w.heap.size+1+1)∧bp<(w.heap.size+1+1):=⟨by have:=hR_0.lt;have:=hPlt;have:=hb_0.size;omega,by have:=hR_0.lt;have:=hPlt;have:=hb_0.size;omega⟩
  go_region_held (HQ w.heap.size q pq cq bp op k0 k1 k2) (first | exact QP.b hQ_1 hP_1 (GR.bel (Nat.le_refl (w.heap.size+1+1)) _ _) HL.1 HL.2 | exact QP.b hQ_1 hP_1 ((Below.refl _ _).setCell (p:=⟨(w.heap.size+1+1),0,none⟩) (Nat.le_refl _) _) HL.1 HL.2 | exact QP.u hQ_1 hP_1 zbx | exact QP.u hQ_0 hP_0 zbx) (first
   | (go_at_call 12
      refine(HW0 _ (WArg.up hE_0 zbx)).mono ?_
      rintro _ w1 ⟨⟨bhv,ohv,chv,rfl,hv_1⟩,hbb_1⟩
      have hbk_1:Below W.heap.size W w1:=qbt zbx hbb_1
      have hb_1:=qbt hb_0 hbk_1
      have hQ_1:=hQ_0.up hbk_1
      have hR_1:=hR_0.up hbk_1
      have hE_1:=hE_0.up hbk_1
      have hP_1:=hP_0.up hbk_1
      first | (have hC0:GR w1 ((w.heap.size+1+1)):=GR.up (GR.up (GR.new W hWs.symm) (zbD (Below.refl _ _))) hbb_1;obtain⟨cc0,cc1,cf0,cf1⟩:=hC0.cells) | skip))
  all_goals
   first
   | (obtain⟨w2,hV⟩:∃V,V=w1.alloc (.cells #[.slice (some ⟨bhv,ohv,none⟩) 1 chv,.int .i64 0] 30):=⟨_,rfl⟩
      obtain⟨Bgc,hBc⟩:∃V,V=w1.heap.size:=⟨_,rfl⟩
      have hEd:Ended w1 (w.heap.size+1+1) (.slice (some ⟨bhv,ohv,none⟩) 1 chv) (.int .i64 0) w2 Bgc:=.inl ⟨hV,hBc⟩
      rw[←hV,←hBc]
      clear hV hBc)
   | (obtain⟨w2,hV⟩:∃V,V=(w1.setCell ⟨(w.heap.size+1+1),0,none⟩ (.slice (some ⟨bhv,ohv,none⟩) 1 chv)).setCell ⟨(w.heap.size+1+1),1,none⟩ (.int .i64 0):=⟨_,rfl⟩
      obtain⟨Bgc,hBc⟩:∃V,V=(w.heap.size+1+1):=⟨_,rfl⟩
      have hEd:Ended w1 (w.heap.size+1+1) (.slice (some ⟨bhv,ohv,none⟩) 1 chv) (.int .i64 0) w2 Bgc:=.inr ⟨hC0,hV,hBc⟩
      rw[←hV,←hBc]
      clear hV hBc hC0 cc0 cc1 cf0 cf1)
   have hb_2:=hEd.below hb_1 (by have:=hR_0.lt;have:=hPlt;have:=hb_0.size;omega)
   have gc_2:=hEd.g2
   have hQ_2:=hEd.hQ hQ_1 (by have:=hR_0.lt;have:=hPlt;have:=hb_0.size;omega)
   have hR_2:=hEd.hR hR_1 (by have:=hR_0.lt;have:=hPlt;have:=hb_0.size;omega)
   have hE_2:=hE0.up hb_2
   have hP_2:=hP0.up hb_2
   have hv_2:=hEd.val hv_1
   clear hEd
   obtain⟨x0,x1,x2,x3,x4,x5,x6⟩:=hQ_2.cells
   obtain⟨r0,r1,f0,f1⟩:=hR_2.cells
   obtain⟨p0,p1,p2⟩:=hP_2.cells
   obtain⟨gca,gcb⟩:=gc_2.cells
   first | obtain⟨ca,cb⟩:=cellsT hv_2 | obtain⟨ca,cb⟩:=cellsF hv_2
   go_wp2_with fail
   refine(HI _ _ _ _ hv_2).mono ?_
   rintro _ w3 ⟨rfl,hbb⟩
   clear x0 x1 x2 x3 x4 x5 x6 r0 r1 f0 f1 p0 p1 p2 gca gcb
   have hb_3:=qbt hb_2 hbb
   have hQ_3:=hQ_2.up hbb
   have hR_3:=hR_2.up hbb
   have hE_3:=hE_2.up hbb
   have hP_3:=hP_2.up hbb
   have hv_3:=hv_2.up hbb
   have gc_3:=gc_2.up hbb
   clear hbb hb_2 hQ_2 hR_2 hE_2 hP_2 hv_2 gc_2
   obtain⟨x0,x1,x2,x3,x4,x5,x6⟩:=hQ_3.cells
   obtain⟨r0,r1,f0,f1⟩:=hR_3.cells
   obtain⟨p0,p1,p2⟩:=hP_3.cells
   obtain⟨gca,gcb⟩:=gc_3.cells
   first | obtain⟨ca,cb⟩:=cellsT hv_3 | obtain⟨ca,cb⟩:=cellsF hv_3
   go_wp2
   exact bodyPost_ret (v:=.agg #[.slice (some ⟨bhv,ohv,none⟩) 1 chv,.int .i64 0]) (by simp[results,Tryz.results26,go_sem,(hR_3.told _ _).1,(hR_3.told _ _).2]) rfl (hR_3.ret (by omega) hb_3 (⟨_,_,rfl,hv_3⟩))
theorem lz_if_T (HW0:∀w1,WArg es ps q pq cq e pe w1→Calls Tryz.prog 12 #[.slice ps es.length cs,reqV q pq cq,.slice pe e.length ce,.int .i64 k0] w1 fun en w'=>HOk tT [] 1 en w'∧Below w1.heap.size w1 w')(HW1:∀w1,WArg es ps q pq cq e pe w1→Calls Tryz.prog 12 #[.slice ps es.length cs,reqV q pq cq,.slice pe e.length ce,.int .i64 k1] w1 fun en w'=>GRet R en w'∧Below w1.heap.size w1 w'):
 Calls Tryz.prog 26 #[.slice ps es.length cs,reqV q pq cq,.slice pe e.length ce,.int .i64 13,.slice (some ⟨bp,op,none⟩) lp cp] w fun en w'=>GRet (R) en w'∧Below w.heap.size w w':=by
 have HI:=fun w1 b off c=>isY (a:=tT::[]) (k:=1) rfl 1 (some ⟨b,off,none⟩) c w1
 obtain⟨W,hW⟩:∃W,W=(w.alloc (.cells #[.string q.who.t,.string q.who.i,.string q.act.t,.string q.act.i,.string q.what.t,.string q.what.i,.slice pq q.cx.length cq] 27)).alloc (.cells #[.slice none 0 0,.int .i64 0] 30):=⟨_,rfl⟩
 have hb_0:Below w.heap.size w W:=by rw[hW];exact((Below.refl _ _).alloc (Nat.le_refl _) _).alloc (by simp) _
 have hQ_0:QR W w.heap.size q pq cq:=by rw[hW];exact(QR.new w q pq cq).up ((Below.refl _ _).alloc (Nat.le_refl _) _)
 have hR_0:GR W (w.heap.size+1):=by rw[hW];exact GR.new _ (by simp)
 have hWs:W.heap.size=w.heap.size+1+1:=by rw[hW];simp
 have hE_0:=hE0.up hb_0
 have hP_0:=hP0.up hb_0
 have hPlt:=hP0.lt
 have hQlt:w.heap.size+1<W.heap.size:=by omega
 unfold reqV at HW0 HW1 ⊢
 have i7:(0:Int)<(lp:Int):=by omega
 have i8:(1:Int)<(lp:Int):=by omega
 have i9:(2:Int)<(lp:Int):=by omega
 go_enter Tryz.func26,Tryz.ntmps26
 obtain⟨x0,x1,x2,x3,x4,x5,x6⟩:=hQ_0.cells
 obtain⟨r0,r1,f0,f1⟩:=hR_0.cells
 obtain⟨p0,p1,p2⟩:=hP_0.cells
 go_wp2_with fail
 rw[←hW]
 clear hW
 have HL:w.heap.size<(w.heap.size+1+1)∧bp<(w.heap.size+1+1):=⟨by have:=hR_0.lt;have:=hPlt;have:=hb_0.size;omega,by have:=hR_0.lt;have:=hPlt;have:=hb_0.size;omega⟩
 go_region_held (HQ w.heap.size q pq cq bp op k0 k1 k2) (first | exact QP.b hQ_1 hP_1 (GR.bel (Nat.le_refl (w.heap.size+1+1)) _ _) HL.1 HL.2 | exact QP.b hQ_1 hP_1 ((Below.refl _ _).setCell (p:=⟨(w.heap.size+1+1),0,none⟩) (Nat.le_refl _) _) HL.1 HL.2 | exact QP.u hQ_1 hP_1 zbx | exact QP.u hQ_0 hP_0 zbx) (first
  | (go_at_call 12
     refine(HW0 _ (WArg.up hE_0 zbx)).mono ?_
     rintro _ w1 ⟨⟨bhv,ohv,chv,rfl,hv_1⟩,hbb_1⟩
     have hbk_1:Below W.heap.size W w1:=qbt zbx hbb_1
     have hb_1:=qbt hb_0 hbk_1
     have hQ_1:=hQ_0.up hbk_1
     have hR_1:=hR_0.up hbk_1
     have hE_1:=hE_0.up hbk_1
     have hP_1:=hP_0.up hbk_1
     first | (have hC0:GR w1 ((w.heap.size+1+1)):=GR.up (GR.up (GR.new W hWs.symm) (zbD (Below.refl _ _))) hbb_1;obtain⟨cc0,cc1,cf0,cf1⟩:=hC0.cells) | skip))
 all_goals
  first
  | (obtain⟨w2,hV⟩:∃V,V=w1.alloc (.cells #[.slice (some ⟨bhv,ohv,none⟩) 1 chv,.int .i64 0] 30):=⟨_,rfl⟩
     obtain⟨Bgc,hBc⟩:∃V,V=w1.heap.size:=⟨_,rfl⟩
     have hEd:Ended w1 (w.heap.size+1+1) (.slice (some ⟨bhv,ohv,none⟩) 1 chv) (.int .i64 0) w2 Bgc:=.inl ⟨hV,hBc⟩
     rw[←hV,←hBc]
     clear hV hBc)
  | (obtain⟨w2,hV⟩:∃V,V=(w1.setCell ⟨(w.heap.size+1+1),0,none⟩ (.slice (some ⟨bhv,ohv,none⟩) 1 chv)).setCell ⟨(w.heap.size+1+1),1,none⟩ (.int .i64 0):=⟨_,rfl⟩
     obtain⟨Bgc,hBc⟩:∃V,V=(w.heap.size+1+1):=⟨_,rfl⟩
     have hEd:Ended w1 (w.heap.size+1+1) (.slice (some ⟨bhv,ohv,none⟩) 1 chv) (.int .i64 0) w2 Bgc:=.inr ⟨hC0,hV,hBc⟩
     rw[←hV,←hBc]
     clear hV hBc hC0 cc0 cc1 cf0 cf1)
  have hb_2:=hEd.below hb_1 (by have:=hR_0.lt;have:=hPlt;have:=hb_0.size;omega)
  have gc_2:=hEd.g2
  have hQ_2:=hEd.hQ hQ_1 (by have:=hR_0.lt;have:=hPlt;have:=hb_0.size;omega)
  have hR_2:=hEd.hR hR_1 (by have:=hR_0.lt;have:=hPlt;have:=hb_0.size;omega)
  have hE_2:=hE0.up hb_2
  have hP_2:=hP0.up hb_2
  have hv_2:=hEd.val hv_1
  clear hEd
  obtain⟨x0,x1,x2,x3,x4,x5,x6⟩:=hQ_2.cells
  obtain⟨r0,r1,f0,f1⟩:=hR_2.cells
  obtain⟨p0,p1,p2⟩:=hP_2.cells
  obtain⟨gca,gcb⟩:=gc_2.cells
  obtain⟨ca,cb⟩:=cellsT hv_2
  go_wp2_with fail
  refine(HI _ _ _ _ hv_2).mono ?_
  rintro _ w3 ⟨rfl,hbb⟩
  clear x0 x1 x2 x3 x4 x5 x6 r0 r1 f0 f1 p0 p1 p2 gca gcb
  have hb_3:=qbt hb_2 hbb
  have hQ_3:=hQ_2.up hbb
  have hR_3:=hR_2.up hbb
  have hE_3:=hE_2.up hbb
  have hP_3:=hP_2.up hbb
  have hv_3:=hv_2.up hbb
  have gc_3:=gc_2.up hbb
  clear hbb hb_2 hQ_2 hR_2 hE_2 hP_2 hv_2 gc_2
  obtain⟨x0,x1,x2,x3,x4,x5,x6⟩:=hQ_3.cells
  obtain⟨r0,r1,f0,f1⟩:=hR_3.cells
  obtain⟨p0,p1,p2⟩:=hP_3.cells
  obtain⟨gca,gcb⟩:=gc_3.cells
  obtain⟨ca,cb⟩:=cellsT hv_3
  go_wp2_with fail
  have HL:w.heap.size<(w.heap.size+1)∧bp<(w.heap.size+1):=⟨by have:=hR_3.lt;have:=hPlt;have:=hb_3.size;omega,by have:=hR_3.lt;have:=hPlt;have:=hb_3.size;omega⟩
  go_region_held (HQ w.heap.size q pq cq bp op k0 k1 k2) (first | exact QP.b hQ_4 hP_4 (GR.bel (Nat.le_refl (w.heap.size+1)) _ _) HL.1 HL.2 | exact QP.b hQ_4 hP_4 ((Below.refl _ _).setCell (p:=⟨(w.heap.size+1),0,none⟩) (Nat.le_refl _) _) HL.1 HL.2 | exact QP.u hQ_4 hP_4 zbx | exact QP.u hQ_3 hP_3 zbx) (first
   | (go_at_call 12
      refine(HW1 _ (WArg.up hE_3 zbx)).mono ?_
      rintro _ w4 ⟨hG,hbb_4⟩
      obtain⟨gq,gn,gc,gk,rfl⟩:=hG.shape
      have hbk_4:Below w3.heap.size w3 w4:=qbt zbx hbb_4
      have hb_4:=qbt hb_3 hbk_4
      have hQ_4:=hQ_3.up hbk_4
      have hR_4:=hR_3.up hbk_4
      have hE_4:=hE_3.up hbk_4
      have hP_4:=hP_3.up hbk_4
      have hv_4:=hv_3.up hbk_4
      have gc_4:=gc_3.up hbk_4
      obtain⟨cc0,cc1,cf0,cf1⟩:=hR_4.cells))
  all_goals
   obtain⟨x0,x1,x2,x3,x4,x5,x6⟩:=hQ_4.cells
   obtain⟨r0,r1,f0,f1⟩:=hR_4.cells
   obtain⟨p0,p1,p2⟩:=hP_4.cells
   obtain⟨gca,gcb⟩:=gc_4.cells
   obtain⟨ca,cb⟩:=cellsT hv_4
   go_wp2
   exact bodyPost_ret (v:=.agg #[.slice gq gn gc,.int .i64 gk]) (by simp[results,Tryz.results26,go_sem,(hR_4.told _ _).1,(hR_4.told _ _).2]) rfl (hR_4.ret (by omega) hb_4 (hG))
theorem lz_if_F (HW0:∀w1,WArg es ps q pq cq e pe w1→Calls Tryz.prog 12 #[.slice ps es.length cs,reqV q pq cq,.slice pe e.length ce,.int .i64 k0] w1 fun en w'=>HOk tF [] 1 en w'∧Below w1.heap.size w1 w')(HW2:∀w1,WArg es ps q pq cq e pe w1→Calls Tryz.prog 12 #[.slice ps es.length cs,reqV q pq cq,.slice pe e.length ce,.int .i64 k2] w1 fun en w'=>GRet R en w'∧Below w1.heap.size w1 w'):
 Calls Tryz.prog 26 #[.slice ps es.length cs,reqV q pq cq,.slice pe e.length ce,.int .i64 13,.slice (some ⟨bp,op,none⟩) lp cp] w fun en w'=>GRet (R) en w'∧Below w.heap.size w w':=by
 have HI:=fun w1 b off c=>isY (a:=tF::[]) (k:=1) rfl 1 (some ⟨b,off,none⟩) c w1
 obtain⟨W,hW⟩:∃W,W=(w.alloc (.cells #[.string q.who.t,.string q.who.i,.string q.act.t,.string q.act.i,.string q.what.t,.string q.what.i,.slice pq q.cx.length cq] 27)).alloc (.cells #[.slice none 0 0,.int .i64 0] 30):=⟨_,rfl⟩
 have hb_0:Below w.heap.size w W:=by rw[hW];exact((Below.refl _ _).alloc (Nat.le_refl _) _).alloc (by simp) _
 have hQ_0:QR W w.heap.size q pq cq:=by rw[hW];exact(QR.new w q pq cq).up ((Below.refl _ _).alloc (Nat.le_refl _) _)
 have hR_0:GR W (w.heap.size+1):=by rw[hW];exact GR.new _ (by simp)
 have hWs:W.heap.size=w.heap.size+1+1:=by rw[hW];simp
 have hE_0:=hE0.up hb_0
 have hP_0:=hP0.up hb_0
 have hPlt:=hP0.lt
 have hQlt:w.heap.size+1<W.heap.size:=by omega
 unfold reqV at HW0 HW2 ⊢
 have i7:(0:Int)<(lp:Int):=by omega
 have i8:(1:Int)<(lp:Int):=by omega
 have i9:(2:Int)<(lp:Int):=by omega
 go_enter Tryz.func26,Tryz.ntmps26
 obtain⟨x0,x1,x2,x3,x4,x5,x6⟩:=hQ_0.cells
 obtain⟨r0,r1,f0,f1⟩:=hR_0.cells
 obtain⟨p0,p1,p2⟩:=hP_0.cells
 go_wp2_with fail
 rw[←hW]
 clear hW
 have HL:w.heap.size<(w.heap.size+1+1)∧bp<(w.heap.size+1+1):=⟨by have:=hR_0.lt;have:=hPlt;have:=hb_0.size;omega,by have:=hR_0.lt;have:=hPlt;have:=hb_0.size;omega⟩
 go_region_held (HQ w.heap.size q pq cq bp op k0 k1 k2) (first | exact QP.b hQ_1 hP_1 (GR.bel (Nat.le_refl (w.heap.size+1+1)) _ _) HL.1 HL.2 | exact QP.b hQ_1 hP_1 ((Below.refl _ _).setCell (p:=⟨(w.heap.size+1+1),0,none⟩) (Nat.le_refl _) _) HL.1 HL.2 | exact QP.u hQ_1 hP_1 zbx | exact QP.u hQ_0 hP_0 zbx) (first
  | (go_at_call 12
     refine(HW0 _ (WArg.up hE_0 zbx)).mono ?_
     rintro _ w1 ⟨⟨bhv,ohv,chv,rfl,hv_1⟩,hbb_1⟩
     have hbk_1:Below W.heap.size W w1:=qbt zbx hbb_1
     have hb_1:=qbt hb_0 hbk_1
     have hQ_1:=hQ_0.up hbk_1
     have hR_1:=hR_0.up hbk_1
     have hE_1:=hE_0.up hbk_1
     have hP_1:=hP_0.up hbk_1
     first | (have hC0:GR w1 ((w.heap.size+1+1)):=GR.up (GR.up (GR.new W hWs.symm) (zbD (Below.refl _ _))) hbb_1;obtain⟨cc0,cc1,cf0,cf1⟩:=hC0.cells) | skip))
 all_goals
  first
  | (obtain⟨w2,hV⟩:∃V,V=w1.alloc (.cells #[.slice (some ⟨bhv,ohv,none⟩) 1 chv,.int .i64 0] 30):=⟨_,rfl⟩
     obtain⟨Bgc,hBc⟩:∃V,V=w1.heap.size:=⟨_,rfl⟩
     have hEd:Ended w1 (w.heap.size+1+1) (.slice (some ⟨bhv,ohv,none⟩) 1 chv) (.int .i64 0) w2 Bgc:=.inl ⟨hV,hBc⟩
     rw[←hV,←hBc]
     clear hV hBc)
  | (obtain⟨w2,hV⟩:∃V,V=(w1.setCell ⟨(w.heap.size+1+1),0,none⟩ (.slice (some ⟨bhv,ohv,none⟩) 1 chv)).setCell ⟨(w.heap.size+1+1),1,none⟩ (.int .i64 0):=⟨_,rfl⟩
     obtain⟨Bgc,hBc⟩:∃V,V=(w.heap.size+1+1):=⟨_,rfl⟩
     have hEd:Ended w1 (w.heap.size+1+1) (.slice (some ⟨bhv,ohv,none⟩) 1 chv) (.int .i64 0) w2 Bgc:=.inr ⟨hC0,hV,hBc⟩
     rw[←hV,←hBc]
     clear hV hBc hC0 cc0 cc1 cf0 cf1)
  have hb_2:=hEd.below hb_1 (by have:=hR_0.lt;have:=hPlt;have:=hb_0.size;omega)
  have gc_2:=hEd.g2
  have hQ_2:=hEd.hQ hQ_1 (by have:=hR_0.lt;have:=hPlt;have:=hb_0.size;omega)
  have hR_2:=hEd.hR hR_1 (by have:=hR_0.lt;have:=hPlt;have:=hb_0.size;omega)
  have hE_2:=hE0.up hb_2
  have hP_2:=hP0.up hb_2
  have hv_2:=hEd.val hv_1
  clear hEd
  obtain⟨x0,x1,x2,x3,x4,x5,x6⟩:=hQ_2.cells
  obtain⟨r0,r1,f0,f1⟩:=hR_2.cells
  obtain⟨p0,p1,p2⟩:=hP_2.cells
  obtain⟨gca,gcb⟩:=gc_2.cells
  obtain⟨ca,cb⟩:=cellsF hv_2
  go_wp2_with fail
  refine(HI _ _ _ _ hv_2).mono ?_
  rintro _ w3 ⟨rfl,hbb⟩
  clear x0 x1 x2 x3 x4 x5 x6 r0 r1 f0 f1 p0 p1 p2 gca gcb
  have hb_3:=qbt hb_2 hbb
  have hQ_3:=hQ_2.up hbb
  have hR_3:=hR_2.up hbb
  have hE_3:=hE_2.up hbb
  have hP_3:=hP_2.up hbb
  have hv_3:=hv_2.up hbb
  have gc_3:=gc_2.up hbb
  clear hbb hb_2 hQ_2 hR_2 hE_2 hP_2 hv_2 gc_2
  obtain⟨x0,x1,x2,x3,x4,x5,x6⟩:=hQ_3.cells
  obtain⟨r0,r1,f0,f1⟩:=hR_3.cells
  obtain⟨p0,p1,p2⟩:=hP_3.cells
  obtain⟨gca,gcb⟩:=gc_3.cells
  obtain⟨ca,cb⟩:=cellsF hv_3
  go_wp2_with fail
  have HL:w.heap.size<(w.heap.size+1)∧bp<(w.heap.size+1):=⟨by have:=hR_3.lt;have:=hPlt;have:=hb_3.size;omega,by have:=hR_3.lt;have:=hPlt;have:=hb_3.size;omega⟩
  go_region_held (HQ w.heap.size q pq cq bp op k0 k1 k2) (first | exact QP.b hQ_4 hP_4 (GR.bel (Nat.le_refl (w.heap.size+1)) _ _) HL.1 HL.2 | exact QP.b hQ_4 hP_4 ((Below.refl _ _).setCell (p:=⟨(w.heap.size+1),0,none⟩) (Nat.le_refl _) _) HL.1 HL.2 | exact QP.u hQ_4 hP_4 zbx | exact QP.u hQ_3 hP_3 zbx) (first
   | (go_at_call 12
      refine(HW2 _ (WArg.up hE_3 zbx)).mono ?_
      rintro _ w4 ⟨hG,hbb_4⟩
      obtain⟨gq,gn,gc,gk,rfl⟩:=hG.shape
      have hbk_4:Below w3.heap.size w3 w4:=qbt zbx hbb_4
      have hb_4:=qbt hb_3 hbk_4
      have hQ_4:=hQ_3.up hbk_4
      have hR_4:=hR_3.up hbk_4
      have hE_4:=hE_3.up hbk_4
      have hP_4:=hP_3.up hbk_4
      have hv_4:=hv_3.up hbk_4
      have gc_4:=gc_3.up hbk_4
      obtain⟨cc0,cc1,cf0,cf1⟩:=hR_4.cells))
  all_goals
   obtain⟨x0,x1,x2,x3,x4,x5,x6⟩:=hQ_4.cells
   obtain⟨r0,r1,f0,f1⟩:=hR_4.cells
   obtain⟨p0,p1,p2⟩:=hP_4.cells
   obtain⟨gca,gcb⟩:=gc_4.cells
   obtain⟨ca,cb⟩:=cellsF hv_4
   go_wp2
   exact bodyPost_ret (v:=.agg #[.slice gq gn gc,.int .i64 gk]) (by simp[results,Tryz.results26,go_sem,(hR_4.told _ _).1,(hR_4.told _ _).2]) rfl (hR_4.ret (by omega) hb_4 (hG))
end
section
variable (es:List En) (ps:Option Addr) (cs:Nat) (q:Rq) (pq:Option Addr) (cq:Nat) (e:List Nd) (pe:Option Addr) (ce:Nat) (bp op lp cp:Nat) (k0 k1 k2:Int) (w:World) (hE0:WArg es ps q pq cq e pe w) (hP0:P3 w bp op k0 k1 k2) (hlp:3≤lp) (x0 x1:Nd) (r0 r1:List Nd) (m0 m1:Nat) (n0 n1:Int) (R:Except Int (List Nd))
include hE0 hP0 hlp
theorem lz_goE (o:Int)(t0:Nd)(ho:o=11∧t0=tT∨o=12∧t0=tF)(hn:n1≠0)(HW0:∀w1,WArg es ps q pq cq e pe w1→Calls Tryz.prog 12 #[.slice ps es.length cs,reqV q pq cq,.slice pe e.length ce,.int .i64 k0] w1 fun en w'=>HOk t0 [] 1 en w'∧Below w1.heap.size w1 w')(HW1:∀w1,WArg es ps q pq cq e pe w1→Calls Tryz.prog 12 #[.slice ps es.length cs,reqV q pq cq,.slice pe e.length ce,.int .i64 k1] w1 fun en w'=>en= .returned (.agg #[.slice none 0 0,.int .i64 n1])∧Below w1.heap.size w1 w'):
 Calls Tryz.prog 26 #[.slice ps es.length cs,reqV q pq cq,.slice pe e.length ce,.int .i64 o,.slice (some ⟨bp,op,none⟩) lp cp] w fun en w'=>GRet (.error n1) en w'∧Below w.heap.size w w':=by
 have HI:=fun w1 b off c=>isY (a:=t0::[]) (k:=1) (by rcases ho with⟨_,rfl⟩ | ⟨_,rfl⟩<;>rfl) 1 (some ⟨b,off,none⟩) c w1
 obtain⟨W,hW⟩:∃W,W=(w.alloc (.cells #[.string q.who.t,.string q.who.i,.string q.act.t,.string q.act.i,.string q.what.t,.string q.what.i,.slice pq q.cx.length cq] 27)).alloc (.cells #[.slice none 0 0,.int .i64 0] 30):=⟨_,rfl⟩
 have hb_0:Below w.heap.size w W:=by rw[hW];exact((Below.refl _ _).alloc (Nat.le_refl _) _).alloc (by simp) _
 have hQ_0:QR W w.heap.size q pq cq:=by rw[hW];exact(QR.new w q pq cq).up ((Below.refl _ _).alloc (Nat.le_refl _) _)
 have hR_0:GR W (w.heap.size+1):=by rw[hW];exact GR.new _ (by simp)
 have hWs:W.heap.size=w.heap.size+1+1:=by rw[hW];simp
 have hE_0:=hE0.up hb_0
 have hP_0:=hP0.up hb_0
 have hPlt:=hP0.lt
 have hQlt:w.heap.size+1<W.heap.size:=by omega
 unfold reqV at HW0 HW1 ⊢
 have i7:(0:Int)<(lp:Int):=by omega
 have i8:(1:Int)<(lp:Int):=by omega
 have i9:(2:Int)<(lp:Int):=by omega
 rcases ho with⟨rfl,rfl⟩ | ⟨rfl,rfl⟩
 all_goals
  go_enter Tryz.func26,Tryz.ntmps26
  obtain⟨x0,x1,x2,x3,x4,x5,x6⟩:=hQ_0.cells
  obtain⟨r0,r1,f0,f1⟩:=hR_0.cells
  obtain⟨p0,p1,p2⟩:=hP_0.cells
  go_wp2_with fail
  rw[←hW]
  clear hW
  have HL:w.heap.size<(w.heap.size+1+1)∧bp<(w.heap.size+1+1):=⟨by have:=hR_0.lt;have:=hPlt;have:=hb_0.size;omega,by have:=hR_0.lt;have:=hPlt;have:=hb_0.size;omega⟩
  go_region_held (HQ w.heap.size q pq cq bp op k0 k1 k2) (first | exact QP.b hQ_1 hP_1 (GR.bel (Nat.le_refl (w.heap.size+1+1)) _ _) HL.1 HL.2 | exact QP.b hQ_1 hP_1 ((Below.refl _ _).setCell (p:=⟨(w.heap.size+1+1),0,none⟩) (Nat.le_refl _) _) HL.1 HL.2 | exact QP.u hQ_1 hP_1 zbx | exact QP.u hQ_0 hP_0 zbx) (first
   | (go_at_call 12
      refine(HW0 _ (WArg.up hE_0 zbx)).mono ?_
      rintro _ w1 ⟨⟨bhv,ohv,chv,rfl,hv_1⟩,hbb_1⟩
      have hbk_1:Below W.heap.size W w1:=qbt zbx hbb_1
      have hb_1:=qbt hb_0 hbk_1
      have hQ_1:=hQ_0.up hbk_1
      have hR_1:=hR_0.up hbk_1
      have hE_1:=hE_0.up hbk_1
      have hP_1:=hP_0.up hbk_1
      first | (have hC0:GR w1 ((w.heap.size+1+1)):=GR.up (GR.up (GR.new W hWs.symm) (zbD (Below.refl _ _))) hbb_1;obtain⟨cc0,cc1,cf0,cf1⟩:=hC0.cells) | skip))
  all_goals
   first
   | (obtain⟨w2,hV⟩:∃V,V=w1.alloc (.cells #[.slice (some ⟨bhv,ohv,none⟩) 1 chv,.int .i64 0] 30):=⟨_,rfl⟩
      obtain⟨Bgc,hBc⟩:∃V,V=w1.heap.size:=⟨_,rfl⟩
      have hEd:Ended w1 (w.heap.size+1+1) (.slice (some ⟨bhv,ohv,none⟩) 1 chv) (.int .i64 0) w2 Bgc:=.inl ⟨hV,hBc⟩
      rw[←hV,←hBc]
      clear hV hBc)
   | (obtain⟨w2,hV⟩:∃V,V=(w1.setCell ⟨(w.heap.size+1+1),0,none⟩ (.slice (some ⟨bhv,ohv,none⟩) 1 chv)).setCell ⟨(w.heap.size+1+1),1,none⟩ (.int .i64 0):=⟨_,rfl⟩
      obtain⟨Bgc,hBc⟩:∃V,V=(w.heap.size+1+1):=⟨_,rfl⟩
      have hEd:Ended w1 (w.heap.size+1+1) (.slice (some ⟨bhv,ohv,none⟩) 1 chv) (.int .i64 0) w2 Bgc:=.inr ⟨hC0,hV,hBc⟩
      rw[←hV,←hBc]
      clear hV hBc hC0 cc0 cc1 cf0 cf1)
   have hb_2:=hEd.below hb_1 (by have:=hR_0.lt;have:=hPlt;have:=hb_0.size;omega)
   have gc_2:=hEd.g2
   have hQ_2:=hEd.hQ hQ_1 (by have:=hR_0.lt;have:=hPlt;have:=hb_0.size;omega)
   have hR_2:=hEd.hR hR_1 (by have:=hR_0.lt;have:=hPlt;have:=hb_0.size;omega)
   have hE_2:=hE0.up hb_2
   have hP_2:=hP0.up hb_2
   have hv_2:=hEd.val hv_1
   clear hEd
   obtain⟨x0,x1,x2,x3,x4,x5,x6⟩:=hQ_2.cells
   obtain⟨r0,r1,f0,f1⟩:=hR_2.cells
   obtain⟨p0,p1,p2⟩:=hP_2.cells
   obtain⟨gca,gcb⟩:=gc_2.cells
   first | obtain⟨ca,cb⟩:=cellsT hv_2 | obtain⟨ca,cb⟩:=cellsF hv_2
   go_wp2_with fail
   refine(HI _ _ _ _ hv_2).mono ?_
   rintro _ w3 ⟨rfl,hbb⟩
   clear x0 x1 x2 x3 x4 x5 x6 r0 r1 f0 f1 p0 p1 p2 gca gcb
   have hb_3:=qbt hb_2 hbb
   have hQ_3:=hQ_2.up hbb
   have hR_3:=hR_2.up hbb
   have hE_3:=hE_2.up hbb
   have hP_3:=hP_2.up hbb
   have hv_3:=hv_2.up hbb
   have gc_3:=gc_2.up hbb
   clear hbb hb_2 hQ_2 hR_2 hE_2 hP_2 hv_2 gc_2
   obtain⟨x0,x1,x2,x3,x4,x5,x6⟩:=hQ_3.cells
   obtain⟨r0,r1,f0,f1⟩:=hR_3.cells
   obtain⟨p0,p1,p2⟩:=hP_3.cells
   obtain⟨gca,gcb⟩:=gc_3.cells
   first | obtain⟨ca,cb⟩:=cellsT hv_3 | obtain⟨ca,cb⟩:=cellsF hv_3
   go_wp2_with fail
   have HL:w.heap.size<w3.heap.size∧bp<w3.heap.size:=⟨by have:=hR_3.lt;have:=hPlt;have:=hb_3.size;omega,by have:=hR_3.lt;have:=hPlt;have:=hb_3.size;omega⟩
   go_region_held (HQ w.heap.size q pq cq bp op k0 k1 k2) (first | exact QP.b hQ_4 hP_4 (GR.bel (Nat.le_refl w3.heap.size) _ _) HL.1 HL.2 | exact QP.b hQ_4 hP_4 ((Below.refl _ _).setCell (p:=⟨w3.heap.size,0,none⟩) (Nat.le_refl _) _) HL.1 HL.2 | exact QP.u hQ_4 hP_4 zbx | exact QP.u hQ_3 hP_3 zbx) (first
    | (go_at_call 12
       refine(HW1 _ (WArg.up hE_3 zbx)).mono ?_
       rintro _ w4 ⟨rfl,hbb_4⟩
       have hbk_4:Below w3.heap.size w3 w4:=qbt zbx hbb_4
       have hb_4:=qbt hb_3 hbk_4
       have hQ_4:=hQ_3.up hbk_4
       have hR_4:=hR_3.up hbk_4
       have hE_4:=hE_3.up hbk_4
       have hP_4:=hP_3.up hbk_4
       have hv_4:=hv_3.up hbk_4
       have gc_4:=gc_3.up hbk_4
       first | (have hC0:GR w4 (w3.heap.size):=GR.up (GR.up (GR.new w3 rfl) (zbD (Below.refl _ _))) hbb_4;obtain⟨cc0,cc1,cf0,cf1⟩:=hC0.cells) | skip))
   all_goals
    first
    | (obtain⟨w5,hV⟩:∃V,V=w4.alloc (.cells #[.slice none 0 0,.int .i64 n1] 30):=⟨_,rfl⟩
       obtain⟨Bgd,hBc⟩:∃V,V=w4.heap.size:=⟨_,rfl⟩
       have hEd:Ended w4 w3.heap.size (.slice none 0 0) (.int .i64 n1) w5 Bgd:=.inl ⟨hV,hBc⟩
       rw[←hV,←hBc]
       clear hV hBc)
    | (obtain⟨w5,hV⟩:∃V,V=(w4.setCell ⟨w3.heap.size,0,none⟩ (.slice none 0 0)).setCell ⟨w3.heap.size,1,none⟩ (.int .i64 n1):=⟨_,rfl⟩
       obtain⟨Bgd,hBc⟩:∃V,V=w3.heap.size:=⟨_,rfl⟩
       have hEd:Ended w4 w3.heap.size (.slice none 0 0) (.int .i64 n1) w5 Bgd:=.inr ⟨hC0,hV,hBc⟩
       rw[←hV,←hBc]
       clear hV hBc hC0 cc0 cc1 cf0 cf1)
    have hb_5:=hEd.below hb_4 (by have:=hR_3.lt;have:=hPlt;have:=hb_3.size;have:=gc_3.lt;omega)
    have gd_5:=hEd.g2
    have hQ_5:=hEd.hQ hQ_4 (by have:=hR_3.lt;have:=hPlt;have:=hb_3.size;have:=gc_3.lt;omega)
    have hR_5:=hEd.hR hR_4 (by have:=hR_3.lt;have:=hPlt;have:=hb_3.size;have:=gc_3.lt;omega)
    have hE_5:=hE0.up hb_5
    have hP_5:=hP0.up hb_5
    have hv_5:=hEd.val hv_4
    have gc_5:=hEd.g2k gc_4 (by have:=hR_3.lt;have:=hPlt;have:=hb_3.size;have:=gc_3.lt;omega)
    clear hEd
    obtain⟨x0,x1,x2,x3,x4,x5,x6⟩:=hQ_5.cells
    obtain⟨r0,r1,f0,f1⟩:=hR_5.cells
    obtain⟨p0,p1,p2⟩:=hP_5.cells
    obtain⟨gca,gcb⟩:=gc_5.cells
    obtain⟨gda,gdb⟩:=gd_5.cells
    first | obtain⟨ca,cb⟩:=cellsT hv_5 | obtain⟨ca,cb⟩:=cellsF hv_5
    go_wp2
    exact bodyPost_ret (v:=.agg #[.slice none 0 0,.int .i64 n1]) (by simp[results,Tryz.results26,go_sem,(hR_5.told _ _).1,(hR_5.told _ _).2]) rfl (hR_5.ret (by omega) hb_5 (rfl))
end
section
variable (es:List En) (ps:Option Addr) (cs:Nat) (q:Rq) (pq:Option Addr) (cq:Nat) (e:List Nd) (pe:Option Addr) (ce:Nat) (bp op lp cp:Nat) (k0 k1 k2:Int) (w:World) (hE0:WArg es ps q pq cq e pe w) (hP0:P3 w bp op k0 k1 k2) (hlp:3≤lp) (x0 x1:Nd) (r0 r1:List Nd) (m0 m1:Nat) (n0 n1:Int) (R:Except Int (List Nd))
include hE0 hP0 hlp
theorem lz_goB (o:Int)(t0:Nd)(ho:o=11∧t0=tT∨o=12∧t0=tF)(hx1:x1.op≠1)(HW0:∀w1,WArg es ps q pq cq e pe w1→Calls Tryz.prog 12 #[.slice ps es.length cs,reqV q pq cq,.slice pe e.length ce,.int .i64 k0] w1 fun en w'=>HOk t0 [] 1 en w'∧Below w1.heap.size w1 w')(HW1:∀w1,WArg es ps q pq cq e pe w1→Calls Tryz.prog 12 #[.slice ps es.length cs,reqV q pq cq,.slice pe e.length ce,.int .i64 k1] w1 fun en w'=>HOk x1 r1 m1 en w'∧Below w1.heap.size w1 w'):
 Calls Tryz.prog 26 #[.slice ps es.length cs,reqV q pq cq,.slice pe e.length ce,.int .i64 o,.slice (some ⟨bp,op,none⟩) lp cp] w fun en w'=>GRet (.error 2) en w'∧Below w.heap.size w w':=by
 have HI:=fun w1 b off c=>isY (a:=t0::[]) (k:=1) (by rcases ho with⟨_,rfl⟩ | ⟨_,rfl⟩<;>rfl) 1 (some ⟨b,off,none⟩) c w1
 have HI1:=fun w1 b off c=>isN (a:=x1::r1) hx1 m1 (some ⟨b,off,none⟩) c w1
 obtain⟨W,hW⟩:∃W,W=(w.alloc (.cells #[.string q.who.t,.string q.who.i,.string q.act.t,.string q.act.i,.string q.what.t,.string q.what.i,.slice pq q.cx.length cq] 27)).alloc (.cells #[.slice none 0 0,.int .i64 0] 30):=⟨_,rfl⟩
 have hb_0:Below w.heap.size w W:=by rw[hW];exact((Below.refl _ _).alloc (Nat.le_refl _) _).alloc (by simp) _
 have hQ_0:QR W w.heap.size q pq cq:=by rw[hW];exact(QR.new w q pq cq).up ((Below.refl _ _).alloc (Nat.le_refl _) _)
 have hR_0:GR W (w.heap.size+1):=by rw[hW];exact GR.new _ (by simp)
 have hWs:W.heap.size=w.heap.size+1+1:=by rw[hW];simp
 have hE_0:=hE0.up hb_0
 have hP_0:=hP0.up hb_0
 have hPlt:=hP0.lt
 have hQlt:w.heap.size+1<W.heap.size:=by omega
 unfold reqV at HW0 HW1 ⊢
 have i7:(0:Int)<(lp:Int):=by omega
 have i8:(1:Int)<(lp:Int):=by omega
 have i9:(2:Int)<(lp:Int):=by omega
 rcases ho with⟨rfl,rfl⟩ | ⟨rfl,rfl⟩
 all_goals
  go_enter Tryz.func26,Tryz.ntmps26
  obtain⟨x0,x1,x2,x3,x4,x5,x6⟩:=hQ_0.cells
  obtain⟨r0,r1,f0,f1⟩:=hR_0.cells
  obtain⟨p0,p1,p2⟩:=hP_0.cells
  go_wp2_with fail
  rw[←hW]
  clear hW
  have HL:w.heap.size<(w.heap.size+1+1)∧bp<(w.heap.size+1+1):=⟨by have:=hR_0.lt;have:=hPlt;have:=hb_0.size;omega,by have:=hR_0.lt;have:=hPlt;have:=hb_0.size;omega⟩
  go_region_held (HQ w.heap.size q pq cq bp op k0 k1 k2) (first | exact QP.b hQ_1 hP_1 (GR.bel (Nat.le_refl (w.heap.size+1+1)) _ _) HL.1 HL.2 | exact QP.b hQ_1 hP_1 ((Below.refl _ _).setCell (p:=⟨(w.heap.size+1+1),0,none⟩) (Nat.le_refl _) _) HL.1 HL.2 | exact QP.u hQ_1 hP_1 zbx | exact QP.u hQ_0 hP_0 zbx) (first
   | (go_at_call 12
      refine(HW0 _ (WArg.up hE_0 zbx)).mono ?_
      rintro _ w1 ⟨⟨bhv,ohv,chv,rfl,hv_1⟩,hbb_1⟩
      have hbk_1:Below W.heap.size W w1:=qbt zbx hbb_1
      have hb_1:=qbt hb_0 hbk_1
      have hQ_1:=hQ_0.up hbk_1
      have hR_1:=hR_0.up hbk_1
      have hE_1:=hE_0.up hbk_1
      have hP_1:=hP_0.up hbk_1
      first | (have hC0:GR w1 ((w.heap.size+1+1)):=GR.up (GR.up (GR.new W hWs.symm) (zbD (Below.refl _ _))) hbb_1;obtain⟨cc0,cc1,cf0,cf1⟩:=hC0.cells) | skip))
  all_goals
   first
   | (obtain⟨w2,hV⟩:∃V,V=w1.alloc (.cells #[.slice (some ⟨bhv,ohv,none⟩) 1 chv,.int .i64 0] 30):=⟨_,rfl⟩
      obtain⟨Bgc,hBc⟩:∃V,V=w1.heap.size:=⟨_,rfl⟩
      have hEd:Ended w1 (w.heap.size+1+1) (.slice (some ⟨bhv,ohv,none⟩) 1 chv) (.int .i64 0) w2 Bgc:=.inl ⟨hV,hBc⟩
      rw[←hV,←hBc]
      clear hV hBc)
   | (obtain⟨w2,hV⟩:∃V,V=(w1.setCell ⟨(w.heap.size+1+1),0,none⟩ (.slice (some ⟨bhv,ohv,none⟩) 1 chv)).setCell ⟨(w.heap.size+1+1),1,none⟩ (.int .i64 0):=⟨_,rfl⟩
      obtain⟨Bgc,hBc⟩:∃V,V=(w.heap.size+1+1):=⟨_,rfl⟩
      have hEd:Ended w1 (w.heap.size+1+1) (.slice (some ⟨bhv,ohv,none⟩) 1 chv) (.int .i64 0) w2 Bgc:=.inr ⟨hC0,hV,hBc⟩
      rw[←hV,←hBc]
      clear hV hBc hC0 cc0 cc1 cf0 cf1)
   have hb_2:=hEd.below hb_1 (by have:=hR_0.lt;have:=hPlt;have:=hb_0.size;omega)
   have gc_2:=hEd.g2
   have hQ_2:=hEd.hQ hQ_1 (by have:=hR_0.lt;have:=hPlt;have:=hb_0.size;omega)
   have hR_2:=hEd.hR hR_1 (by have:=hR_0.lt;have:=hPlt;have:=hb_0.size;omega)
   have hE_2:=hE0.up hb_2
   have hP_2:=hP0.up hb_2
   have hv_2:=hEd.val hv_1
   clear hEd
   obtain⟨x0,x1,x2,x3,x4,x5,x6⟩:=hQ_2.cells
   obtain⟨r0,r1,f0,f1⟩:=hR_2.cells
   obtain⟨p0,p1,p2⟩:=hP_2.cells
   obtain⟨gca,gcb⟩:=gc_2.cells
   first | obtain⟨ca,cb⟩:=cellsT hv_2 | obtain⟨ca,cb⟩:=cellsF hv_2
   go_wp2_with fail
   refine(HI _ _ _ _ hv_2).mono ?_
   rintro _ w3 ⟨rfl,hbb⟩
   clear x0 x1 x2 x3 x4 x5 x6 r0 r1 f0 f1 p0 p1 p2 gca gcb
   have hb_3:=qbt hb_2 hbb
   have hQ_3:=hQ_2.up hbb
   have hR_3:=hR_2.up hbb
   have hE_3:=hE_2.up hbb
   have hP_3:=hP_2.up hbb
   have hv_3:=hv_2.up hbb
   have gc_3:=gc_2.up hbb
   clear hbb hb_2 hQ_2 hR_2 hE_2 hP_2 hv_2 gc_2
   obtain⟨x0,x1,x2,x3,x4,x5,x6⟩:=hQ_3.cells
   obtain⟨r0,r1,f0,f1⟩:=hR_3.cells
   obtain⟨p0,p1,p2⟩:=hP_3.cells
   obtain⟨gca,gcb⟩:=gc_3.cells
   first | obtain⟨ca,cb⟩:=cellsT hv_3 | obtain⟨ca,cb⟩:=cellsF hv_3
   go_wp2_with fail
   have HL:w.heap.size<w3.heap.size∧bp<w3.heap.size:=⟨by have:=hR_3.lt;have:=hPlt;have:=hb_3.size;omega,by have:=hR_3.lt;have:=hPlt;have:=hb_3.size;omega⟩
   go_region_held (HQ w.heap.size q pq cq bp op k0 k1 k2) (first | exact QP.b hQ_4 hP_4 (GR.bel (Nat.le_refl w3.heap.size) _ _) HL.1 HL.2 | exact QP.b hQ_4 hP_4 ((Below.refl _ _).setCell (p:=⟨w3.heap.size,0,none⟩) (Nat.le_refl _) _) HL.1 HL.2 | exact QP.u hQ_4 hP_4 zbx | exact QP.u hQ_3 hP_3 zbx) (first
    | (go_at_call 12
       refine(HW1 _ (WArg.up hE_3 zbx)).mono ?_
       rintro _ w4 ⟨⟨bhvd,ohvd,chvd,rfl,hvd_4⟩,hbb_4⟩
       have hbk_4:Below w3.heap.size w3 w4:=qbt zbx hbb_4
       have hb_4:=qbt hb_3 hbk_4
       have hQ_4:=hQ_3.up hbk_4
       have hR_4:=hR_3.up hbk_4
       have hE_4:=hE_3.up hbk_4
       have hP_4:=hP_3.up hbk_4
       have hv_4:=hv_3.up hbk_4
       have gc_4:=gc_3.up hbk_4
       first | (have hC0:GR w4 (w3.heap.size):=GR.up (GR.up (GR.new w3 rfl) (zbD (Below.refl _ _))) hbb_4;obtain⟨cc0,cc1,cf0,cf1⟩:=hC0.cells) | skip))
   all_goals
    first
    | (obtain⟨w5,hV⟩:∃V,V=w4.alloc (.cells #[.slice (some ⟨bhvd,ohvd,none⟩) m1 chvd,.int .i64 0] 30):=⟨_,rfl⟩
       obtain⟨Bgd,hBc⟩:∃V,V=w4.heap.size:=⟨_,rfl⟩
       have hEd:Ended w4 w3.heap.size (.slice (some ⟨bhvd,ohvd,none⟩) m1 chvd) (.int .i64 0) w5 Bgd:=.inl ⟨hV,hBc⟩
       rw[←hV,←hBc]
       clear hV hBc)
    | (obtain⟨w5,hV⟩:∃V,V=(w4.setCell ⟨w3.heap.size,0,none⟩ (.slice (some ⟨bhvd,ohvd,none⟩) m1 chvd)).setCell ⟨w3.heap.size,1,none⟩ (.int .i64 0):=⟨_,rfl⟩
       obtain⟨Bgd,hBc⟩:∃V,V=w3.heap.size:=⟨_,rfl⟩
       have hEd:Ended w4 w3.heap.size (.slice (some ⟨bhvd,ohvd,none⟩) m1 chvd) (.int .i64 0) w5 Bgd:=.inr ⟨hC0,hV,hBc⟩
       rw[←hV,←hBc]
       clear hV hBc hC0 cc0 cc1 cf0 cf1)
    have hb_5:=hEd.below hb_4 (by have:=hR_3.lt;have:=hPlt;have:=hb_3.size;have:=gc_3.lt;omega)
    have gd_5:=hEd.g2
    have hQ_5:=hEd.hQ hQ_4 (by have:=hR_3.lt;have:=hPlt;have:=hb_3.size;have:=gc_3.lt;omega)
    have hR_5:=hEd.hR hR_4 (by have:=hR_3.lt;have:=hPlt;have:=hb_3.size;have:=gc_3.lt;omega)
    have hE_5:=hE0.up hb_5
    have hP_5:=hP0.up hb_5
    have hv_5:=hEd.val hv_4
    have gc_5:=hEd.g2k gc_4 (by have:=hR_3.lt;have:=hPlt;have:=hb_3.size;have:=gc_3.lt;omega)
    have hvd_5:=hEd.val hvd_4
    clear hEd
    obtain⟨x0,x1,x2,x3,x4,x5,x6⟩:=hQ_5.cells
    obtain⟨r0,r1,f0,f1⟩:=hR_5.cells
    obtain⟨p0,p1,p2⟩:=hP_5.cells
    obtain⟨gca,gcb⟩:=gc_5.cells
    obtain⟨gda,gdb⟩:=gd_5.cells
    first | obtain⟨ca,cb⟩:=cellsT hv_5 | obtain⟨ca,cb⟩:=cellsF hv_5
    go_wp2_with fail
    refine(HI1 _ _ _ _ hvd_5).mono ?_
    rintro _ w6 ⟨rfl,hbb⟩
    clear x0 x1 x2 x3 x4 x5 x6 r0 r1 f0 f1 p0 p1 p2 gca gcb gda gdb
    have hb_6:=qbt hb_5 hbb
    have hQ_6:=hQ_5.up hbb
    have hR_6:=hR_5.up hbb
    have hE_6:=hE_5.up hbb
    have hP_6:=hP_5.up hbb
    have hv_6:=hv_5.up hbb
    have gc_6:=gc_5.up hbb
    have hvd_6:=hvd_5.up hbb
    have gd_6:=gd_5.up hbb
    clear hbb hb_5 hQ_5 hR_5 hE_5 hP_5 hv_5 gc_5 hvd_5 gd_5
    obtain⟨x0,x1,x2,x3,x4,x5,x6⟩:=hQ_6.cells
    obtain⟨r0,r1,f0,f1⟩:=hR_6.cells
    obtain⟨p0,p1,p2⟩:=hP_6.cells
    obtain⟨gca,gcb⟩:=gc_6.cells
    obtain⟨gda,gdb⟩:=gd_6.cells
    first | obtain⟨ca,cb⟩:=cellsT hv_6 | obtain⟨ca,cb⟩:=cellsF hv_6
    go_wp2_with fail
    refine(refBad_any _ 2).mono ?_
    rintro _ w7 ⟨rfl,hbb⟩
    clear x0 x1 x2 x3 x4 x5 x6 r0 r1 f0 f1 p0 p1 p2 gca gcb gda gdb
    have hb_7:=qbt hb_6 hbb
    have hQ_7:=hQ_6.up hbb
    have hR_7:=hR_6.up hbb
    have hE_7:=hE_6.up hbb
    have hP_7:=hP_6.up hbb
    have hv_7:=hv_6.up hbb
    have gc_7:=gc_6.up hbb
    have hvd_7:=hvd_6.up hbb
    have gd_7:=gd_6.up hbb
    clear hbb hb_6 hQ_6 hR_6 hE_6 hP_6 hv_6 gc_6 hvd_6 gd_6
    obtain⟨x0,x1,x2,x3,x4,x5,x6⟩:=hQ_7.cells
    obtain⟨r0,r1,f0,f1⟩:=hR_7.cells
    obtain⟨p0,p1,p2⟩:=hP_7.cells
    obtain⟨gca,gcb⟩:=gc_7.cells
    obtain⟨gda,gdb⟩:=gd_7.cells
    first | obtain⟨ca,cb⟩:=cellsT hv_7 | obtain⟨ca,cb⟩:=cellsF hv_7
    go_wp2
    exact bodyPost_ret (v:=.agg #[.slice none 0 0,.int .i64 2]) (by simp[results,Tryz.results26,go_sem,(hR_7.told _ _).1,(hR_7.told _ _).2]) rfl (hR_7.ret (by omega) hb_7 (rfl))
end
section
variable (es:List En) (ps:Option Addr) (cs:Nat) (q:Rq) (pq:Option Addr) (cq:Nat) (e:List Nd) (pe:Option Addr) (ce:Nat) (bp op lp cp:Nat) (k0 k1 k2:Int) (w:World) (hE0:WArg es ps q pq cq e pe w) (hP0:P3 w bp op k0 k1 k2) (hlp:3≤lp) (x0 x1:Nd) (r0 r1:List Nd) (m0 m1:Nat) (n0 n1:Int) (R:Except Int (List Nd))
include hE0 hP0 hlp
theorem lz_goK (o:Int)(t0:Nd)(ho:o=11∧t0=tT∨o=12∧t0=tF)(hx1:x1.op=1)(HW0:∀w1,WArg es ps q pq cq e pe w1→Calls Tryz.prog 12 #[.slice ps es.length cs,reqV q pq cq,.slice pe e.length ce,.int .i64 k0] w1 fun en w'=>HOk t0 [] 1 en w'∧Below w1.heap.size w1 w')(HW1:∀w1,WArg es ps q pq cq e pe w1→Calls Tryz.prog 12 #[.slice ps es.length cs,reqV q pq cq,.slice pe e.length ce,.int .i64 k1] w1 fun en w'=>HOk x1 r1 m1 en w'∧Below w1.heap.size w1 w'):
 Calls Tryz.prog 26 #[.slice ps es.length cs,reqV q pq cq,.slice pe e.length ce,.int .i64 o,.slice (some ⟨bp,op,none⟩) lp cp] w fun en w'=>GRet (.ok (x1::r1)) en w'∧Below w.heap.size w w':=by
 have HI:=fun w1 b off c=>isY (a:=t0::[]) (k:=1) (by rcases ho with⟨_,rfl⟩ | ⟨_,rfl⟩<;>rfl) 1 (some ⟨b,off,none⟩) c w1
 have HI1:=fun w1 b off c=>isY (a:=x1::r1) hx1 m1 (some ⟨b,off,none⟩) c w1
 obtain⟨W,hW⟩:∃W,W=(w.alloc (.cells #[.string q.who.t,.string q.who.i,.string q.act.t,.string q.act.i,.string q.what.t,.string q.what.i,.slice pq q.cx.length cq] 27)).alloc (.cells #[.slice none 0 0,.int .i64 0] 30):=⟨_,rfl⟩
 have hb_0:Below w.heap.size w W:=by rw[hW];exact((Below.refl _ _).alloc (Nat.le_refl _) _).alloc (by simp) _
 have hQ_0:QR W w.heap.size q pq cq:=by rw[hW];exact(QR.new w q pq cq).up ((Below.refl _ _).alloc (Nat.le_refl _) _)
 have hR_0:GR W (w.heap.size+1):=by rw[hW];exact GR.new _ (by simp)
 have hWs:W.heap.size=w.heap.size+1+1:=by rw[hW];simp
 have hE_0:=hE0.up hb_0
 have hP_0:=hP0.up hb_0
 have hPlt:=hP0.lt
 have hQlt:w.heap.size+1<W.heap.size:=by omega
 unfold reqV at HW0 HW1 ⊢
 have i7:(0:Int)<(lp:Int):=by omega
 have i8:(1:Int)<(lp:Int):=by omega
 have i9:(2:Int)<(lp:Int):=by omega
 rcases ho with⟨rfl,rfl⟩ | ⟨rfl,rfl⟩
 all_goals
  go_enter Tryz.func26,Tryz.ntmps26
  obtain⟨x0,x1,x2,x3,x4,x5,x6⟩:=hQ_0.cells
  obtain⟨r0,r1,f0,f1⟩:=hR_0.cells
  obtain⟨p0,p1,p2⟩:=hP_0.cells
  go_wp2_with fail
  rw[←hW]
  clear hW
  have HL:w.heap.size<(w.heap.size+1+1)∧bp<(w.heap.size+1+1):=⟨by have:=hR_0.lt;have:=hPlt;have:=hb_0.size;omega,by have:=hR_0.lt;have:=hPlt;have:=hb_0.size;omega⟩
  go_region_held (HQ w.heap.size q pq cq bp op k0 k1 k2) (first | exact QP.b hQ_1 hP_1 (GR.bel (Nat.le_refl (w.heap.size+1+1)) _ _) HL.1 HL.2 | exact QP.b hQ_1 hP_1 ((Below.refl _ _).setCell (p:=⟨(w.heap.size+1+1),0,none⟩) (Nat.le_refl _) _) HL.1 HL.2 | exact QP.u hQ_1 hP_1 zbx | exact QP.u hQ_0 hP_0 zbx) (first
   | (go_at_call 12
      refine(HW0 _ (WArg.up hE_0 zbx)).mono ?_
      rintro _ w1 ⟨⟨bhv,ohv,chv,rfl,hv_1⟩,hbb_1⟩
      have hbk_1:Below W.heap.size W w1:=qbt zbx hbb_1
      have hb_1:=qbt hb_0 hbk_1
      have hQ_1:=hQ_0.up hbk_1
      have hR_1:=hR_0.up hbk_1
      have hE_1:=hE_0.up hbk_1
      have hP_1:=hP_0.up hbk_1
      first | (have hC0:GR w1 ((w.heap.size+1+1)):=GR.up (GR.up (GR.new W hWs.symm) (zbD (Below.refl _ _))) hbb_1;obtain⟨cc0,cc1,cf0,cf1⟩:=hC0.cells) | skip))
  all_goals
   first
   | (obtain⟨w2,hV⟩:∃V,V=w1.alloc (.cells #[.slice (some ⟨bhv,ohv,none⟩) 1 chv,.int .i64 0] 30):=⟨_,rfl⟩
      obtain⟨Bgc,hBc⟩:∃V,V=w1.heap.size:=⟨_,rfl⟩
      have hEd:Ended w1 (w.heap.size+1+1) (.slice (some ⟨bhv,ohv,none⟩) 1 chv) (.int .i64 0) w2 Bgc:=.inl ⟨hV,hBc⟩
      rw[←hV,←hBc]
      clear hV hBc)
   | (obtain⟨w2,hV⟩:∃V,V=(w1.setCell ⟨(w.heap.size+1+1),0,none⟩ (.slice (some ⟨bhv,ohv,none⟩) 1 chv)).setCell ⟨(w.heap.size+1+1),1,none⟩ (.int .i64 0):=⟨_,rfl⟩
      obtain⟨Bgc,hBc⟩:∃V,V=(w.heap.size+1+1):=⟨_,rfl⟩
      have hEd:Ended w1 (w.heap.size+1+1) (.slice (some ⟨bhv,ohv,none⟩) 1 chv) (.int .i64 0) w2 Bgc:=.inr ⟨hC0,hV,hBc⟩
      rw[←hV,←hBc]
      clear hV hBc hC0 cc0 cc1 cf0 cf1)
   have hb_2:=hEd.below hb_1 (by have:=hR_0.lt;have:=hPlt;have:=hb_0.size;omega)
   have gc_2:=hEd.g2
   have hQ_2:=hEd.hQ hQ_1 (by have:=hR_0.lt;have:=hPlt;have:=hb_0.size;omega)
   have hR_2:=hEd.hR hR_1 (by have:=hR_0.lt;have:=hPlt;have:=hb_0.size;omega)
   have hE_2:=hE0.up hb_2
   have hP_2:=hP0.up hb_2
   have hv_2:=hEd.val hv_1
   clear hEd
   obtain⟨x0,x1,x2,x3,x4,x5,x6⟩:=hQ_2.cells
   obtain⟨r0,r1,f0,f1⟩:=hR_2.cells
   obtain⟨p0,p1,p2⟩:=hP_2.cells
   obtain⟨gca,gcb⟩:=gc_2.cells
   first | obtain⟨ca,cb⟩:=cellsT hv_2 | obtain⟨ca,cb⟩:=cellsF hv_2
   go_wp2_with fail
   refine(HI _ _ _ _ hv_2).mono ?_
   rintro _ w3 ⟨rfl,hbb⟩
   clear x0 x1 x2 x3 x4 x5 x6 r0 r1 f0 f1 p0 p1 p2 gca gcb
   have hb_3:=qbt hb_2 hbb
   have hQ_3:=hQ_2.up hbb
   have hR_3:=hR_2.up hbb
   have hE_3:=hE_2.up hbb
   have hP_3:=hP_2.up hbb
   have hv_3:=hv_2.up hbb
   have gc_3:=gc_2.up hbb
   clear hbb hb_2 hQ_2 hR_2 hE_2 hP_2 hv_2 gc_2
   obtain⟨x0,x1,x2,x3,x4,x5,x6⟩:=hQ_3.cells
   obtain⟨r0,r1,f0,f1⟩:=hR_3.cells
   obtain⟨p0,p1,p2⟩:=hP_3.cells
   obtain⟨gca,gcb⟩:=gc_3.cells
   first | obtain⟨ca,cb⟩:=cellsT hv_3 | obtain⟨ca,cb⟩:=cellsF hv_3
   go_wp2_with fail
   have HL:w.heap.size<w3.heap.size∧bp<w3.heap.size:=⟨by have:=hR_3.lt;have:=hPlt;have:=hb_3.size;omega,by have:=hR_3.lt;have:=hPlt;have:=hb_3.size;omega⟩
   go_region_held (HQ w.heap.size q pq cq bp op k0 k1 k2) (first | exact QP.b hQ_4 hP_4 (GR.bel (Nat.le_refl w3.heap.size) _ _) HL.1 HL.2 | exact QP.b hQ_4 hP_4 ((Below.refl _ _).setCell (p:=⟨w3.heap.size,0,none⟩) (Nat.le_refl _) _) HL.1 HL.2 | exact QP.u hQ_4 hP_4 zbx | exact QP.u hQ_3 hP_3 zbx) (first
    | (go_at_call 12
       refine(HW1 _ (WArg.up hE_3 zbx)).mono ?_
       rintro _ w4 ⟨⟨bhvd,ohvd,chvd,rfl,hvd_4⟩,hbb_4⟩
       have hbk_4:Below w3.heap.size w3 w4:=qbt zbx hbb_4
       have hb_4:=qbt hb_3 hbk_4
       have hQ_4:=hQ_3.up hbk_4
       have hR_4:=hR_3.up hbk_4
       have hE_4:=hE_3.up hbk_4
       have hP_4:=hP_3.up hbk_4
       have hv_4:=hv_3.up hbk_4
       have gc_4:=gc_3.up hbk_4
       first | (have hC0:GR w4 (w3.heap.size):=GR.up (GR.up (GR.new w3 rfl) (zbD (Below.refl _ _))) hbb_4;obtain⟨cc0,cc1,cf0,cf1⟩:=hC0.cells) | skip))
   all_goals
    first
    | (obtain⟨w5,hV⟩:∃V,V=w4.alloc (.cells #[.slice (some ⟨bhvd,ohvd,none⟩) m1 chvd,.int .i64 0] 30):=⟨_,rfl⟩
       obtain⟨Bgd,hBc⟩:∃V,V=w4.heap.size:=⟨_,rfl⟩
       have hEd:Ended w4 w3.heap.size (.slice (some ⟨bhvd,ohvd,none⟩) m1 chvd) (.int .i64 0) w5 Bgd:=.inl ⟨hV,hBc⟩
       rw[←hV,←hBc]
       clear hV hBc)
    | (obtain⟨w5,hV⟩:∃V,V=(w4.setCell ⟨w3.heap.size,0,none⟩ (.slice (some ⟨bhvd,ohvd,none⟩) m1 chvd)).setCell ⟨w3.heap.size,1,none⟩ (.int .i64 0):=⟨_,rfl⟩
       obtain⟨Bgd,hBc⟩:∃V,V=w3.heap.size:=⟨_,rfl⟩
       have hEd:Ended w4 w3.heap.size (.slice (some ⟨bhvd,ohvd,none⟩) m1 chvd) (.int .i64 0) w5 Bgd:=.inr ⟨hC0,hV,hBc⟩
       rw[←hV,←hBc]
       clear hV hBc hC0 cc0 cc1 cf0 cf1)
    have hb_5:=hEd.below hb_4 (by have:=hR_3.lt;have:=hPlt;have:=hb_3.size;have:=gc_3.lt;omega)
    have gd_5:=hEd.g2
    have hQ_5:=hEd.hQ hQ_4 (by have:=hR_3.lt;have:=hPlt;have:=hb_3.size;have:=gc_3.lt;omega)
    have hR_5:=hEd.hR hR_4 (by have:=hR_3.lt;have:=hPlt;have:=hb_3.size;have:=gc_3.lt;omega)
    have hE_5:=hE0.up hb_5
    have hP_5:=hP0.up hb_5
    have hv_5:=hEd.val hv_4
    have gc_5:=hEd.g2k gc_4 (by have:=hR_3.lt;have:=hPlt;have:=hb_3.size;have:=gc_3.lt;omega)
    have hvd_5:=hEd.val hvd_4
    clear hEd
    obtain⟨x0,x1,x2,x3,x4,x5,x6⟩:=hQ_5.cells
    obtain⟨r0,r1,f0,f1⟩:=hR_5.cells
    obtain⟨p0,p1,p2⟩:=hP_5.cells
    obtain⟨gca,gcb⟩:=gc_5.cells
    obtain⟨gda,gdb⟩:=gd_5.cells
    first | obtain⟨ca,cb⟩:=cellsT hv_5 | obtain⟨ca,cb⟩:=cellsF hv_5
    go_wp2_with fail
    refine(HI1 _ _ _ _ hvd_5).mono ?_
    rintro _ w6 ⟨rfl,hbb⟩
    clear x0 x1 x2 x3 x4 x5 x6 r0 r1 f0 f1 p0 p1 p2 gca gcb gda gdb
    have hb_6:=qbt hb_5 hbb
    have hQ_6:=hQ_5.up hbb
    have hR_6:=hR_5.up hbb
    have hE_6:=hE_5.up hbb
    have hP_6:=hP_5.up hbb
    have hv_6:=hv_5.up hbb
    have gc_6:=gc_5.up hbb
    have hvd_6:=hvd_5.up hbb
    have gd_6:=gd_5.up hbb
    clear hbb hb_5 hQ_5 hR_5 hE_5 hP_5 hv_5 gc_5 hvd_5 gd_5
    obtain⟨x0,x1,x2,x3,x4,x5,x6⟩:=hQ_6.cells
    obtain⟨r0,r1,f0,f1⟩:=hR_6.cells
    obtain⟨p0,p1,p2⟩:=hP_6.cells
    obtain⟨gca,gcb⟩:=gc_6.cells
    obtain⟨gda,gdb⟩:=gd_6.cells
    first | obtain⟨ca,cb⟩:=cellsT hv_6 | obtain⟨ca,cb⟩:=cellsF hv_6
    go_wp2
    exact bodyPost_ret (v:=.agg #[.slice (some ⟨bhvd,ohvd,none⟩) m1 chvd,.int .i64 0]) (by simp[results,Tryz.results26,go_sem,(hR_6.told _ _).1,(hR_6.told _ _).2]) rfl (hR_6.ret (by omega) hb_6 (⟨_,_,by rw[hvd_6.len],by rw[hvd_6.len];exact hvd_6⟩))
end
theorem GRet.hok {x:Nd}{r:List Nd}{en:Ending}{w:World}(h:GRet (.ok (x::r)) en w):HOk x r (r.length+1) en w:=by
 obtain⟨q,c,e,hv⟩:=h
 obtain⟨_,_,b,off,_,rfl,_⟩:=hv.head
 exact⟨b,off,c,e,hv⟩
section
variable (es:List En) (ps:Option Addr) (cs:Nat) (q:Rq) (pq:Option Addr) (cq:Nat) (e:List Nd) (pe:Option Addr) (ce:Nat) (bp op lp cp:Nat) (k0 k1 k2:Int) (w:World) (hE0:WArg es ps q pq cq e pe w) (hP0:P3 w bp op k0 k1 k2) (hlp:3≤lp)
 (A B C:Except Int (List Nd)) (hA0:∀n,A= .error n→n≠0) (hB0:∀n,B= .error n→n≠0) (hA:∀a,A= .ok a→IsV a) (hB:∀a,B= .ok a→IsV a)
 (HW0:∀w1,WArg es ps q pq cq e pe w1→Calls Tryz.prog 12 #[.slice ps es.length cs,reqV q pq cq,.slice pe e.length ce,.int .i64 k0] w1 fun en w'=>GRet A en w'∧Below w1.heap.size w1 w')
 (HW1:∀w1,WArg es ps q pq cq e pe w1→Calls Tryz.prog 12 #[.slice ps es.length cs,reqV q pq cq,.slice pe e.length ce,.int .i64 k1] w1 fun en w'=>GRet B en w'∧Below w1.heap.size w1 w')
 (HW2:∀w1,WArg es ps q pq cq e pe w1→Calls Tryz.prog 12 #[.slice ps es.length cs,reqV q pq cq,.slice pe e.length ce,.int .i64 k2] w1 fun en w'=>GRet C en w'∧Below w1.heap.size w1 w')
include hE0 hP0 hlp hA0 hA HW0
theorem lz_first (o:Int)(R:Except Int (List Nd))(h1:∀n,A= .error n→R= .error n)(h2:∀a,A= .ok a→opV a≠1→R= .error 2)
 (h3:∀t,A= .ok (tN t)→Calls Tryz.prog 26 #[.slice ps es.length cs,reqV q pq cq,.slice pe e.length ce,.int .i64 o,.slice (some ⟨bp,op,none⟩) lp cp] w fun en w'=>GRet R en w'∧Below w.heap.size w w'):
 Calls Tryz.prog 26 #[.slice ps es.length cs,reqV q pq cq,.slice pe e.length ce,.int .i64 o,.slice (some ⟨bp,op,none⟩) lp cp] w fun en w'=>GRet R en w'∧Below w.heap.size w w':=by
 cases A with
 | error n=>
   rw[h1 n rfl]
   exact lz_err es ps cs q pq cq e pe ce bp op lp cp k0 k1 k2 w hE0 hP0 hlp n o (hA0 n rfl) HW0
 | ok a=>
   obtain⟨x,r,rfl,_⟩:=value_head (hA a rfl).val
   by_cases hx:opV (x::r)=1
   · have ha:=truth_is (hA _ rfl).val hx
     exact h3 _ (congrArg Except.ok ha)
   · rw[h2 _ rfl hx]
     exact lz_bad es ps cs q pq cq e pe ce bp op lp cp k0 k1 k2 w hE0 hP0 hlp x r _ o hx (fun w1 h=>(HW0 w1 h).mono fun en w' g=>⟨g.1.hok,g.2⟩)
include hB0 hB HW1
theorem refLazy_and:Calls Tryz.prog 26 #[.slice ps es.length cs,reqV q pq cq,.slice pe e.length ce,.int .i64 11,.slice (some ⟨bp,op,none⟩) lp cp] w fun en w'=>GRet (lazyE false A B) en w'∧Below w.heap.size w w':=by
 refine lz_first es ps cs q pq cq e pe ce bp op lp cp k0 k1 k2 w hE0 hP0 hlp A hA0 hA HW0 11 _ (fun n h=>by rw[h];rfl) (fun a h h1=>by rw[h];simp[lazyE,boolE,h1]) (fun t h=>?_)
 subst h
 cases t with
 | false=>
   rw[show lazyE false (.ok (tN false)) B= .ok [tF] from rfl]
   exact lz_en es ps cs q pq cq e pe ce bp op lp cp k0 k1 k2 w hE0 hP0 hlp 11 tF (.inl ⟨rfl,rfl⟩) (fun w1 h=>(HW0 w1 h).mono fun en w' g=>⟨GRet.hok (x:=tF) (r:=[]) g.1,g.2⟩)
 | true=>
   have HT:=fun w1 (h:WArg es ps q pq cq e pe w1)=>(HW0 w1 h).mono (R':=fun en w'=>HOk tT [] 1 en w'∧Below w1.heap.size w1 w') fun en w' g=>⟨GRet.hok (x:=tT) (r:=[]) g.1,g.2⟩
   cases B with
   | error n=>
     rw[show lazyE false (.ok (tN true)) (.error n)= .error n from rfl]
     exact lz_goE es ps cs q pq cq e pe ce bp op lp cp k0 k1 k2 w hE0 hP0 hlp n 11 tT (.inl ⟨rfl,rfl⟩) (hB0 n rfl) HT HW1
   | ok b=>
     obtain⟨x,r,rfl,_⟩:=value_head (hB b rfl).val
     have HG:=fun w1 (h:WArg es ps q pq cq e pe w1)=>(HW1 w1 h).mono (R':=fun en w'=>HOk x r (r.length+1) en w'∧Below w1.heap.size w1 w') fun en w' g=>⟨g.1.hok,g.2⟩
     by_cases hx:x.op=1
     · have hb:=truth_is (hB _ rfl).val hx
       rw[show lazyE false (.ok (tN true)) (.ok (x::r))= .ok (x::r) from ?_]
       · exact lz_goK es ps cs q pq cq e pe ce bp op lp cp k0 k1 k2 w hE0 hP0 hlp x r _ 11 tT (.inl ⟨rfl,rfl⟩) hx HT HG
       · conv=>rhs;rw[hb]
         simp[lazyE,boolE,opV,hx,tN,nV]
     · rw[show lazyE false (.ok (tN true)) (.ok (x::r))= .error 2 by simp[lazyE,boolE,opV,hx,tN,nV]]
       exact lz_goB es ps cs q pq cq e pe ce bp op lp cp k0 k1 k2 w hE0 hP0 hlp x r _ 11 tT (.inl ⟨rfl,rfl⟩) hx HT HG
theorem refLazy_or:Calls Tryz.prog 26 #[.slice ps es.length cs,reqV q pq cq,.slice pe e.length ce,.int .i64 12,.slice (some ⟨bp,op,none⟩) lp cp] w fun en w'=>GRet (lazyE true A B) en w'∧Below w.heap.size w w':=by
 refine lz_first es ps cs q pq cq e pe ce bp op lp cp k0 k1 k2 w hE0 hP0 hlp A hA0 hA HW0 12 _ (fun n h=>by rw[h];rfl) (fun a h h1=>by rw[h];simp[lazyE,boolE,h1]) (fun t h=>?_)
 subst h
 cases t with
 | true=>
   rw[show lazyE true (.ok (tN true)) B= .ok [tT] from rfl]
   exact lz_en es ps cs q pq cq e pe ce bp op lp cp k0 k1 k2 w hE0 hP0 hlp 12 tT (.inr ⟨rfl,rfl⟩) (fun w1 h=>(HW0 w1 h).mono fun en w' g=>⟨GRet.hok (x:=tT) (r:=[]) g.1,g.2⟩)
 | false=>
   have HT:=fun w1 (h:WArg es ps q pq cq e pe w1)=>(HW0 w1 h).mono (R':=fun en w'=>HOk tF [] 1 en w'∧Below w1.heap.size w1 w') fun en w' g=>⟨GRet.hok (x:=tF) (r:=[]) g.1,g.2⟩
   cases B with
   | error n=>
     rw[show lazyE true (.ok (tN false)) (.error n)= .error n from rfl]
     exact lz_goE es ps cs q pq cq e pe ce bp op lp cp k0 k1 k2 w hE0 hP0 hlp n 12 tF (.inr ⟨rfl,rfl⟩) (hB0 n rfl) HT HW1
   | ok b=>
     obtain⟨x,r,rfl,_⟩:=value_head (hB b rfl).val
     have HG:=fun w1 (h:WArg es ps q pq cq e pe w1)=>(HW1 w1 h).mono (R':=fun en w'=>HOk x r (r.length+1) en w'∧Below w1.heap.size w1 w') fun en w' g=>⟨g.1.hok,g.2⟩
     by_cases hx:x.op=1
     · have hb:=truth_is (hB _ rfl).val hx
       rw[show lazyE true (.ok (tN false)) (.ok (x::r))= .ok (x::r) from ?_]
       · exact lz_goK es ps cs q pq cq e pe ce bp op lp cp k0 k1 k2 w hE0 hP0 hlp x r _ 12 tF (.inr ⟨rfl,rfl⟩) hx HT HG
       · conv=>rhs;rw[hb]
         simp[lazyE,boolE,opV,hx,tN,nV]
     · rw[show lazyE true (.ok (tN false)) (.ok (x::r))= .error 2 by simp[lazyE,boolE,opV,hx,tN,nV]]
       exact lz_goB es ps cs q pq cq e pe ce bp op lp cp k0 k1 k2 w hE0 hP0 hlp x r _ 12 tF (.inr ⟨rfl,rfl⟩) hx HT HG
omit hB0 hB
include HW2
theorem refLazy_if:Calls Tryz.prog 26 #[.slice ps es.length cs,reqV q pq cq,.slice pe e.length ce,.int .i64 13,.slice (some ⟨bp,op,none⟩) lp cp] w fun en w'=>GRet (ifE A B C) en w'∧Below w.heap.size w w':=by
 refine lz_first es ps cs q pq cq e pe ce bp op lp cp k0 k1 k2 w hE0 hP0 hlp A hA0 hA HW0 13 _ (fun n h=>by rw[h];rfl) (fun a h h1=>by rw[h];simp[ifE,boolE,h1]) (fun t h=>?_)
 subst h
 cases t with
 | true=>
   rw[show ifE (.ok (tN true)) B C=B from rfl]
   exact lz_if_T es ps cs q pq cq e pe ce bp op lp cp k0 k1 k2 w hE0 hP0 hlp B (fun w1 h=>(HW0 w1 h).mono fun en w' g=>⟨GRet.hok (x:=tT) (r:=[]) g.1,g.2⟩) HW1
 | false=>
   rw[show ifE (.ok (tN false)) B C=C from rfl]
   exact lz_if_F es ps cs q pq cq e pe ce bp op lp cp k0 k1 k2 w hE0 hP0 hlp C (fun w1 h=>(HW0 w1 h).mono fun en w' g=>⟨GRet.hok (x:=tF) (r:=[]) g.1,g.2⟩) HW2
end
set_option linter.unusedSectionVars false
theorem node_at {e:List Nd}{p:Option Addr}{k:Nat}{x:Nd}{m:List Nd}{w:World}(hv:NL w p e)(hk:e.drop k=x::m):
 ∃bq oq,p=some ⟨bq,oq,none⟩∧bq<w.heap.size∧k<e.length∧w.cell? ⟨bq,oq+k*4,none⟩=some (.int .i64 x.op)∧w.cell? ⟨bq,oq+k*4+1,none⟩=some (.int .i64 x.n)∧w.cell? ⟨bq,oq+k*4+2,none⟩=some (.string x.s)∧w.cell? ⟨bq,oq+k*4+3,none⟩=some (.string x.t)∧x.wf:=by
 have hkl:k<e.length:=by
  have:=congrArg List.length hk
  simp at this
  omega
 obtain⟨bq,oq,hpq,hbq,e0,e1,e2,e3,xw⟩:=hv.at hkl
 have hex:e[k]=x:=by
  have:=congrArg List.head? hk
  rw[List.drop_eq_getElem_cons hkl]at this
  simpa only[List.head?_cons,Option.some.injEq]using this
 rw[hex]at e0 e1 e2 e3 xw
 exact⟨bq,oq,hpq,hbq,hkl,e0,e1,e2,e3,xw⟩
section
variable (es:List En) (ps:Option Addr) (cs:Nat) (q:Rq) (pq:Option Addr) (cq:Nat) (e:List Nd) (pe:Option Addr) (ce:Nat) (k:Nat) (x:Nd) (m:List Nd) (w:World) (hE0:WArg es ps q pq cq e pe w) (hl:e.length≤200) (hk:e.drop k=x::m)
include hE0 hl hk
theorem worth_atom (h1:1≤x.op)(h4:x.op≤4)(hi:IsV [x]):
 Calls Tryz.prog 12 #[.slice ps es.length cs,reqV q pq cq,.slice pe e.length ce,.int .i64 (k:Int)] w fun en w'=>GRet (.ok [x]) en w'∧Below w.heap.size w w':=by
 obtain⟨bq,oq,hpq,hbq,hkl,e0,e1,e2,e3,xw⟩:=node_at hE0.nl hk
 have i1:(k:Int)<(e.length:Int):=by omega
 obtain⟨xo,xn,xs,xt⟩:=x
 dsimp only[Nd.val]at e0 e1 e2 e3 h1 h4
 subst hpq
 obtain⟨W,hW⟩:∃W,W=((w.alloc (.cells #[.string q.who.t,.string q.who.i,.string q.act.t,.string q.act.i,.string q.what.t,.string q.what.i,.slice pq q.cx.length cq] 27)).alloc (.cells #[.slice none 0 0,.int .i64 0] 30)).alloc (.cells #[.int .i64 xo,.int .i64 xn,.string xs,.string xt] 53):=⟨_,rfl⟩
 have hb_0:Below w.heap.size w W:=by rw[hW];exact(((Below.refl _ _).alloc (Nat.le_refl _) _).alloc (by simp) _).alloc (by simp;omega) _
 have hQ_0:QR W w.heap.size q pq cq:=by rw[hW];exact((QR.new w q pq cq).up ((Below.refl _ _).alloc (Nat.le_refl _) _)).up ((Below.refl _ _).alloc (Nat.le_refl _) _)
 have hR_0:GR W (w.heap.size+1):=by rw[hW];exact(GR.new _ (by simp)).up ((Below.refl _ _).alloc (Nat.le_refl _) _)
 have hn_0:NB W (w.heap.size+1+1) xo xn xs xt:=by rw[hW];exact NB.new _ _ _ _ _ (by simp)
 have hWs:W.heap.size=w.heap.size+1+1+1:=by rw[hW];simp
 have hE_0:=hE0.up hb_0
 unfold reqV
 go_enter Tryz.func12,Tryz.ntmps12
 have hbN:Below W.heap.size W (W.alloc (.cells #[.int .i64 xo,.int .i64 xn,.string xs,.string xt] 53)):=(Below.refl _ _).alloc (Nat.le_refl _) _
 have hvN:VArg (W.alloc (.cells #[.int .i64 xo,.int .i64 xn,.string xs,.string xt] 53)) [⟨xo,xn,xs,xt⟩] 1 (some ⟨w.heap.size+1+1+1,0,none⟩) 1:=by
  refine VArg.mk rfl ?_ (Nat.le_refl _) (by unfold maxLen;decide) hi
  exact NL.single W _ ⟨xo,xn,xs,xt⟩ xw hWs
 go_wp2_with fail
 rw[←hW]
 clear hW
 have hb_1:=qbt hb_0 hbN
 have hR_1:=hR_0.up hbN
 refine(refGood_any _ _ _ _).mono ?_
 rintro _ w2 ⟨rfl,hbb⟩
 have hb_2:=qbt hb_1 hbb
 have hR_2:=hR_1.up hbb
 have hv_2:=hvN.up hbb
 clear hb_0 hQ_0 hR_0 hn_0 hE_0 hb_1 hR_1 hvN hbN
 obtain⟨r0,r1,f0,f1⟩:=hR_2.cells
 go_wp2
 exact bodyPost_ret (v:=.agg #[.slice (some ⟨w.heap.size+1+1+1,0,none⟩) 1 1,.int .i64 0]) (by simp[results,Tryz.results12,go_sem,(hR_2.told _ _).1,(hR_2.told _ _).2]) rfl (hR_2.ret (by omega) hb_2 (⟨_,_,rfl,hv_2⟩))
theorem worth_var (h8:x.op=8)(ho:EnvOk es q):
 Calls Tryz.prog 12 #[.slice ps es.length cs,reqV q pq cq,.slice pe e.length ce,.int .i64 (k:Int)] w fun en w'=>GRet (varE q x.s) en w'∧Below w.heap.size w w':=by
 obtain⟨bq,oq,hpq,hbq,hkl,e0,e1,e2,e3,xw⟩:=node_at hE0.nl hk
 have i1:(k:Int)<(e.length:Int):=by omega
 obtain⟨xo,xn,xs,xt⟩:=x
 dsimp only[Nd.val]at e0 e1 e2 e3 h8
 subst hpq
 obtain⟨W,hW⟩:∃W,W=((w.alloc (.cells #[.string q.who.t,.string q.who.i,.string q.act.t,.string q.act.i,.string q.what.t,.string q.what.i,.slice pq q.cx.length cq] 27)).alloc (.cells #[.slice none 0 0,.int .i64 0] 30)).alloc (.cells #[.int .i64 xo,.int .i64 xn,.string xs,.string xt] 53):=⟨_,rfl⟩
 have hb_0:Below w.heap.size w W:=by rw[hW];exact(((Below.refl _ _).alloc (Nat.le_refl _) _).alloc (by simp) _).alloc (by simp;omega) _
 have hQ_0:QR W w.heap.size q pq cq:=by rw[hW];exact((QR.new w q pq cq).up ((Below.refl _ _).alloc (Nat.le_refl _) _)).up ((Below.refl _ _).alloc (Nat.le_refl _) _)
 have hR_0:GR W (w.heap.size+1):=by rw[hW];exact(GR.new _ (by simp)).up ((Below.refl _ _).alloc (Nat.le_refl _) _)
 have hn_0:NB W (w.heap.size+1+1) xo xn xs xt:=by rw[hW];exact NB.new _ _ _ _ _ (by simp)
 have hWs:W.heap.size=w.heap.size+1+1+1:=by rw[hW];simp
 have hE_0:=hE0.up hb_0
 unfold reqV
 go_enter Tryz.func12,Tryz.ntmps12
 subst h8
 obtain⟨x0,x1,x2,x3,x4,x5,x6⟩:=hQ_0.cells
 obtain⟨r0,r1,f0,f1⟩:=hR_0.cells
 obtain⟨n0,n1,n2,n3⟩:=hn_0.cells
 go_wp2_with fail
 rw[←hW]
 clear hW
 refine(refNamed_any _ es q pq cq _ ho hE_0.rq).mono ?_
 rintro _ w1 ⟨hG,hbb⟩
 obtain⟨gq,gn,gc,gk,rfl⟩:=hG.shape
 have hb_1:=qbt hb_0 hbb
 have hR_1:=hR_0.up hbb
 clear x0 x1 x2 x3 x4 x5 x6 r0 r1 f0 f1 n0 n1 n2 n3
 obtain⟨r0,r1,f0,f1⟩:=hR_1.cells
 go_wp2
 exact bodyPost_ret (v:=.agg #[.slice gq gn gc,.int .i64 gk]) (by simp[results,Tryz.results12,go_sem,(hR_1.told _ _).1,(hR_1.told _ _).2]) rfl (hR_1.ret (by omega) hb_1 (hG))
theorem worth_lazy_11 (f:Nat)(r:List Nd)(hp:pastE (f+1) (x::m)=some r)(h8:x.op=11)(R:Except Int (List Nd))(HL:∀w1 bp op cp,WArg es ps q pq cq e pe w1→IL w1 (some ⟨bp,op,none⟩) ((ssOf f x m).map (pos e)++[pos e r])→Calls Tryz.prog 26 #[.slice ps es.length cs,reqV q pq cq,.slice pe e.length ce,.int .i64 11,.slice (some ⟨bp,op,none⟩) 3 cp] w1 fun en w'=>GRet R en w'∧Below w1.heap.size w1 w'):
 Calls Tryz.prog 12 #[.slice ps es.length cs,reqV q pq cq,.slice pe e.length ce,.int .i64 (k:Int)] w fun en w'=>GRet (R) en w'∧Below w.heap.size w w':=by
 obtain⟨bq,oq,hpq,hbq,hkl,e0,e1,e2,e3,xw⟩:=node_at hE0.nl hk
 have i1:(k:Int)<(e.length:Int):=by omega
 have HPO:=fun w1 (h1:NL w1 pe e)=>refPartsOf_any f e pe ce k x m r w1 h1 hl hk hp
 rw[show(prt x).toNat+1=3 by unfold prt;rw[if_neg (by omega),if_neg (by omega)];simp[h8]]at HPO
 obtain⟨xo,xn,xs,xt⟩:=x
 dsimp only[Nd.val]at e0 e1 e2 e3 h8
 subst hpq
 obtain⟨W,hW⟩:∃W,W=((w.alloc (.cells #[.string q.who.t,.string q.who.i,.string q.act.t,.string q.act.i,.string q.what.t,.string q.what.i,.slice pq q.cx.length cq] 27)).alloc (.cells #[.slice none 0 0,.int .i64 0] 30)).alloc (.cells #[.int .i64 xo,.int .i64 xn,.string xs,.string xt] 53):=⟨_,rfl⟩
 have hb_0:Below w.heap.size w W:=by rw[hW];exact(((Below.refl _ _).alloc (Nat.le_refl _) _).alloc (by simp) _).alloc (by simp;omega) _
 have hQ_0:QR W w.heap.size q pq cq:=by rw[hW];exact((QR.new w q pq cq).up ((Below.refl _ _).alloc (Nat.le_refl _) _)).up ((Below.refl _ _).alloc (Nat.le_refl _) _)
 have hR_0:GR W (w.heap.size+1):=by rw[hW];exact(GR.new _ (by simp)).up ((Below.refl _ _).alloc (Nat.le_refl _) _)
 have hn_0:NB W (w.heap.size+1+1) xo xn xs xt:=by rw[hW];exact NB.new _ _ _ _ _ (by simp)
 have hWs:W.heap.size=w.heap.size+1+1+1:=by rw[hW];simp
 have hE_0:=hE0.up hb_0
 unfold reqV
 go_enter Tryz.func12,Tryz.ntmps12
 subst h8
 obtain⟨x0,x1,x2,x3,x4,x5,x6⟩:=hQ_0.cells
 obtain⟨r0,r1,f0,f1⟩:=hR_0.cells
 obtain⟨n0,n1,n2,n3⟩:=hn_0.cells
 go_wp2_with fail
 rw[←hW]
 refine(HPO _ hE_0.nl).mono ?_
 rintro _ w1 ⟨⟨q3,c3,rfl,hil_1⟩,hbb⟩
 clear x0 x1 x2 x3 x4 x5 x6 r0 r1 f0 f1 n0 n1 n2 n3
 have hb_1:=qbt hb_0 hbb
 have hQ_1:=hQ_0.up hbb
 have hR_1:=hR_0.up hbb
 have hE_1:=hE_0.up hbb
 have hn_1:=hn_0.up hbb
 clear hbb hb_0 hQ_0 hR_0 hE_0 hn_0
 obtain⟨bp,op,rfl⟩:∃b o,q3=some ⟨b,o,none⟩:=by
  rcases hil_1 with h | ⟨b,o,h,_⟩
  · simp at h
  · exact⟨b,o,h⟩
 obtain⟨x0,x1,x2,x3,x4,x5,x6⟩:=hQ_1.cells
 obtain⟨r0,r1,f0,f1⟩:=hR_1.cells
 obtain⟨n0,n1,n2,n3⟩:=hn_1.cells
 go_wp2_with fail
 refine(HL _ bp op c3 hE_1 hil_1).mono ?_
 rintro _ w2 ⟨hG,hbb⟩
 obtain⟨gq,gn,gc,gk,rfl⟩:=hG.shape
 have hb_2:=qbt hb_1 hbb
 have hR_2:=hR_1.up hbb
 clear x0 x1 x2 x3 x4 x5 x6 r0 r1 f0 f1 n0 n1 n2 n3
 obtain⟨r0,r1,f0,f1⟩:=hR_2.cells
 go_wp2
 exact bodyPost_ret (v:=.agg #[.slice gq gn gc,.int .i64 gk]) (by simp[results,Tryz.results12,go_sem,(hR_2.told _ _).1,(hR_2.told _ _).2]) rfl (hR_2.ret (by omega) hb_2 (hG))
theorem worth_lazy_12 (f:Nat)(r:List Nd)(hp:pastE (f+1) (x::m)=some r)(h8:x.op=12)(R:Except Int (List Nd))(HL:∀w1 bp op cp,WArg es ps q pq cq e pe w1→IL w1 (some ⟨bp,op,none⟩) ((ssOf f x m).map (pos e)++[pos e r])→Calls Tryz.prog 26 #[.slice ps es.length cs,reqV q pq cq,.slice pe e.length ce,.int .i64 12,.slice (some ⟨bp,op,none⟩) 3 cp] w1 fun en w'=>GRet R en w'∧Below w1.heap.size w1 w'):
 Calls Tryz.prog 12 #[.slice ps es.length cs,reqV q pq cq,.slice pe e.length ce,.int .i64 (k:Int)] w fun en w'=>GRet (R) en w'∧Below w.heap.size w w':=by
 obtain⟨bq,oq,hpq,hbq,hkl,e0,e1,e2,e3,xw⟩:=node_at hE0.nl hk
 have i1:(k:Int)<(e.length:Int):=by omega
 have HPO:=fun w1 (h1:NL w1 pe e)=>refPartsOf_any f e pe ce k x m r w1 h1 hl hk hp
 rw[show(prt x).toNat+1=3 by unfold prt;rw[if_neg (by omega),if_neg (by omega)];simp[h8]]at HPO
 obtain⟨xo,xn,xs,xt⟩:=x
 dsimp only[Nd.val]at e0 e1 e2 e3 h8
 subst hpq
 obtain⟨W,hW⟩:∃W,W=((w.alloc (.cells #[.string q.who.t,.string q.who.i,.string q.act.t,.string q.act.i,.string q.what.t,.string q.what.i,.slice pq q.cx.length cq] 27)).alloc (.cells #[.slice none 0 0,.int .i64 0] 30)).alloc (.cells #[.int .i64 xo,.int .i64 xn,.string xs,.string xt] 53):=⟨_,rfl⟩
 have hb_0:Below w.heap.size w W:=by rw[hW];exact(((Below.refl _ _).alloc (Nat.le_refl _) _).alloc (by simp) _).alloc (by simp;omega) _
 have hQ_0:QR W w.heap.size q pq cq:=by rw[hW];exact((QR.new w q pq cq).up ((Below.refl _ _).alloc (Nat.le_refl _) _)).up ((Below.refl _ _).alloc (Nat.le_refl _) _)
 have hR_0:GR W (w.heap.size+1):=by rw[hW];exact(GR.new _ (by simp)).up ((Below.refl _ _).alloc (Nat.le_refl _) _)
 have hn_0:NB W (w.heap.size+1+1) xo xn xs xt:=by rw[hW];exact NB.new _ _ _ _ _ (by simp)
 have hWs:W.heap.size=w.heap.size+1+1+1:=by rw[hW];simp
 have hE_0:=hE0.up hb_0
 unfold reqV
 go_enter Tryz.func12,Tryz.ntmps12
 subst h8
 obtain⟨x0,x1,x2,x3,x4,x5,x6⟩:=hQ_0.cells
 obtain⟨r0,r1,f0,f1⟩:=hR_0.cells
 obtain⟨n0,n1,n2,n3⟩:=hn_0.cells
 go_wp2_with fail
 rw[←hW]
 refine(HPO _ hE_0.nl).mono ?_
 rintro _ w1 ⟨⟨q3,c3,rfl,hil_1⟩,hbb⟩
 clear x0 x1 x2 x3 x4 x5 x6 r0 r1 f0 f1 n0 n1 n2 n3
 have hb_1:=qbt hb_0 hbb
 have hQ_1:=hQ_0.up hbb
 have hR_1:=hR_0.up hbb
 have hE_1:=hE_0.up hbb
 have hn_1:=hn_0.up hbb
 clear hbb hb_0 hQ_0 hR_0 hE_0 hn_0
 obtain⟨bp,op,rfl⟩:∃b o,q3=some ⟨b,o,none⟩:=by
  rcases hil_1 with h | ⟨b,o,h,_⟩
  · simp at h
  · exact⟨b,o,h⟩
 obtain⟨x0,x1,x2,x3,x4,x5,x6⟩:=hQ_1.cells
 obtain⟨r0,r1,f0,f1⟩:=hR_1.cells
 obtain⟨n0,n1,n2,n3⟩:=hn_1.cells
 go_wp2_with fail
 refine(HL _ bp op c3 hE_1 hil_1).mono ?_
 rintro _ w2 ⟨hG,hbb⟩
 obtain⟨gq,gn,gc,gk,rfl⟩:=hG.shape
 have hb_2:=qbt hb_1 hbb
 have hR_2:=hR_1.up hbb
 clear x0 x1 x2 x3 x4 x5 x6 r0 r1 f0 f1 n0 n1 n2 n3
 obtain⟨r0,r1,f0,f1⟩:=hR_2.cells
 go_wp2
 exact bodyPost_ret (v:=.agg #[.slice gq gn gc,.int .i64 gk]) (by simp[results,Tryz.results12,go_sem,(hR_2.told _ _).1,(hR_2.told _ _).2]) rfl (hR_2.ret (by omega) hb_2 (hG))
theorem worth_lazy_13 (f:Nat)(r:List Nd)(hp:pastE (f+1) (x::m)=some r)(h8:x.op=13)(R:Except Int (List Nd))(HL:∀w1 bp op cp,WArg es ps q pq cq e pe w1→IL w1 (some ⟨bp,op,none⟩) ((ssOf f x m).map (pos e)++[pos e r])→Calls Tryz.prog 26 #[.slice ps es.length cs,reqV q pq cq,.slice pe e.length ce,.int .i64 13,.slice (some ⟨bp,op,none⟩) 4 cp] w1 fun en w'=>GRet R en w'∧Below w1.heap.size w1 w'):
 Calls Tryz.prog 12 #[.slice ps es.length cs,reqV q pq cq,.slice pe e.length ce,.int .i64 (k:Int)] w fun en w'=>GRet (R) en w'∧Below w.heap.size w w':=by
 obtain⟨bq,oq,hpq,hbq,hkl,e0,e1,e2,e3,xw⟩:=node_at hE0.nl hk
 have i1:(k:Int)<(e.length:Int):=by omega
 have HPO:=fun w1 (h1:NL w1 pe e)=>refPartsOf_any f e pe ce k x m r w1 h1 hl hk hp
 rw[show(prt x).toNat+1=4 by unfold prt;rw[if_neg (by omega),if_neg (by omega)];simp[h8]]at HPO
 obtain⟨xo,xn,xs,xt⟩:=x
 dsimp only[Nd.val]at e0 e1 e2 e3 h8
 subst hpq
 obtain⟨W,hW⟩:∃W,W=((w.alloc (.cells #[.string q.who.t,.string q.who.i,.string q.act.t,.string q.act.i,.string q.what.t,.string q.what.i,.slice pq q.cx.length cq] 27)).alloc (.cells #[.slice none 0 0,.int .i64 0] 30)).alloc (.cells #[.int .i64 xo,.int .i64 xn,.string xs,.string xt] 53):=⟨_,rfl⟩
 have hb_0:Below w.heap.size w W:=by rw[hW];exact(((Below.refl _ _).alloc (Nat.le_refl _) _).alloc (by simp) _).alloc (by simp;omega) _
 have hQ_0:QR W w.heap.size q pq cq:=by rw[hW];exact((QR.new w q pq cq).up ((Below.refl _ _).alloc (Nat.le_refl _) _)).up ((Below.refl _ _).alloc (Nat.le_refl _) _)
 have hR_0:GR W (w.heap.size+1):=by rw[hW];exact(GR.new _ (by simp)).up ((Below.refl _ _).alloc (Nat.le_refl _) _)
 have hn_0:NB W (w.heap.size+1+1) xo xn xs xt:=by rw[hW];exact NB.new _ _ _ _ _ (by simp)
 have hWs:W.heap.size=w.heap.size+1+1+1:=by rw[hW];simp
 have hE_0:=hE0.up hb_0
 unfold reqV
 go_enter Tryz.func12,Tryz.ntmps12
 subst h8
 obtain⟨x0,x1,x2,x3,x4,x5,x6⟩:=hQ_0.cells
 obtain⟨r0,r1,f0,f1⟩:=hR_0.cells
 obtain⟨n0,n1,n2,n3⟩:=hn_0.cells
 go_wp2_with fail
 rw[←hW]
 refine(HPO _ hE_0.nl).mono ?_
 rintro _ w1 ⟨⟨q3,c3,rfl,hil_1⟩,hbb⟩
 clear x0 x1 x2 x3 x4 x5 x6 r0 r1 f0 f1 n0 n1 n2 n3
 have hb_1:=qbt hb_0 hbb
 have hQ_1:=hQ_0.up hbb
 have hR_1:=hR_0.up hbb
 have hE_1:=hE_0.up hbb
 have hn_1:=hn_0.up hbb
 clear hbb hb_0 hQ_0 hR_0 hE_0 hn_0
 obtain⟨bp,op,rfl⟩:∃b o,q3=some ⟨b,o,none⟩:=by
  rcases hil_1 with h | ⟨b,o,h,_⟩
  · simp at h
  · exact⟨b,o,h⟩
 obtain⟨x0,x1,x2,x3,x4,x5,x6⟩:=hQ_1.cells
 obtain⟨r0,r1,f0,f1⟩:=hR_1.cells
 obtain⟨n0,n1,n2,n3⟩:=hn_1.cells
 go_wp2_with fail
 refine(HL _ bp op c3 hE_1 hil_1).mono ?_
 rintro _ w2 ⟨hG,hbb⟩
 obtain⟨gq,gn,gc,gk,rfl⟩:=hG.shape
 have hb_2:=qbt hb_1 hbb
 have hR_2:=hR_1.up hbb
 clear x0 x1 x2 x3 x4 x5 x6 r0 r1 f0 f1 n0 n1 n2 n3
 obtain⟨r0,r1,f0,f1⟩:=hR_2.cells
 go_wp2
 exact bodyPost_ret (v:=.agg #[.slice gq gn gc,.int .i64 gk]) (by simp[results,Tryz.results12,go_sem,(hR_2.told _ _).1,(hR_2.told _ _).2]) rfl (hR_2.ret (by omega) hb_2 (hG))
end
set_option linter.unusedSimpArgs false
structure P1 (w:World)(bp o:Nat)(v:Value):Prop where
 lt:bp<w.heap.size
 cells:w.cell? ⟨bp,o,none⟩=some v
theorem P1.bel {N:Nat}{w w':World}{bp o:Nat}{v:Value}(h:P1 w bp o v)(k:Below N w w')(hl:bp<N):P1 w' bp o v:=⟨Nat.lt_of_lt_of_le h.lt k.size,(k.cell (p:=⟨bp,o,none⟩) hl).trans h.cells⟩
theorem P1.up {w w':World}{bp o:Nat}{v:Value}(h:P1 w bp o v)(k:Below w.heap.size w w'):P1 w' bp o v:=h.bel k h.lt
abbrev HQ1 (B:Nat)(q:Rq)(pq:Option Addr)(cq:Nat)(bp o:Nat)(v:Value)(w:World):Prop:=w.cell? ⟨B,0,none⟩=some (.string q.who.t)∧w.cell? ⟨B,1,none⟩=some (.string q.who.i)∧w.cell? ⟨B,2,none⟩=some (.string q.act.t)∧w.cell? ⟨B,3,none⟩=some (.string q.act.i)∧w.cell? ⟨B,4,none⟩=some (.string q.what.t)∧w.cell? ⟨B,5,none⟩=some (.string q.what.i)∧w.cell? ⟨B,6,none⟩=some (.slice pq q.cx.length cq)∧w.cell? ⟨bp,o,none⟩=some v
section
variable {w w':World} {B N:Nat} {q:Rq} {pq:Option Addr} {cq:Nat} {bp o:Nat} {v:Value} (h:QR w B q pq cq) (k:P1 w bp o v)
include h k
theorem QP1.cells:HQ1 B q pq cq bp o v w:=by
 obtain⟨h0,h1,h2,h3,h4,h5,h6⟩:=h.cells
 exact⟨h0,h1,h2,h3,h4,h5,h6,k.cells⟩
theorem QP1.b (b:Below N w w')(h1:B<N)(h2:bp<N):HQ1 B q pq cq bp o v w':=QP1.cells (h.bel b h1) (k.bel b h2)
theorem QP1.u (b:Below w.heap.size w w'):HQ1 B q pq cq bp o v w':=QP1.cells (h.up b) (k.up b)
end
theorem NB.bel {N:Nat}{w w':World}{B:Nat}{o n:Int}{s t:ByteArray}(h:NB w B o n s t)(k:Below N w w')(hl:B<N):NB w' B o n s t:=⟨(k.block B hl).trans h.blk⟩
theorem okAll_snoc {ev:List Nd→Except Int (List Nd)}{s a:List Nd}:∀ {l vs:List (List Nd)},okAll ev l= .ok vs→ev s= .ok a→okAll ev (l++[s])= .ok (vs++[a])
 | [],vs,h,hs=>by injection h with h;subst h;simp[okAll,hs,bindE]
 | b::l,vs,h,hs=>by
   simp only[okAll,List.cons_append]at h ⊢
   cases e1:ev b with
   | error n=>rw[e1]at h;cases h
   | ok v=>
     rw[e1]at h
     simp only[bindE]at h ⊢
     cases e2:okAll ev l with
     | error n=>rw[e2]at h;cases h
     | ok u=>
       rw[e2]at h
       injection h with h
       subst h
       rw[okAll_snoc e2 hs]
       rfl
theorem okAll_stop {ev:List Nd→Except Int (List Nd)}{s:List Nd}{n:Int}{t:List (List Nd)}:∀ {l vs:List (List Nd)},okAll ev l= .ok vs→ev s= .error n→okAll ev (l++s::t)= .error n
 | [],vs,h,hs=>by simp[okAll,hs,bindE]
 | b::l,vs,h,hs=>by
   simp only[okAll,List.cons_append]at h ⊢
   cases e1:ev b with
   | error n=>rw[e1]at h;cases h
   | ok v=>
     rw[e1]at h
     simp only[bindE]at h ⊢
     cases e2:okAll ev l with
     | error n=>rw[e2]at h;cases h
     | ok u=>rw[okAll_stop e2 hs]
theorem gret_ok {a:List Nd}{en:Ending}{w:World}(h:GRet (.ok a) en w):∃b off c,en= .returned (.agg #[.slice (some ⟨b,off,none⟩) a.length c,.int .i64 0])∧VArg w a a.length (some ⟨b,off,none⟩) c:=by
 obtain⟨q,c,e,hv⟩:=h
 obtain⟨_,_,b,off,_,rfl,_⟩:=hv.head
 exact⟨b,off,c,e,hv⟩
theorem IL.bel {N:Nat}{w w':World}{b o:Nat}{l:List Nat}(h:IL w (some ⟨b,o,none⟩) l)(k:Below N w w')(hb:b<N):IL w' (some ⟨b,o,none⟩) l:=by
 rcases h with h | ⟨b',o',h1,h2,h3⟩
 · exact .inl h
 · cases h1
   exact .inr ⟨b,o,rfl,Nat.lt_of_lt_of_le h2 k.size,fun i x hx=>(k.cell (p:=⟨b,o+i,none⟩) hb).trans (h3 i x hx)⟩
section
variable (es:List En) (ps:Option Addr) (cs:Nat) (q:Rq) (pq:Option Addr) (cq:Nat) (e:List Nd) (pe:Option Addr) (ce:Nat) (k:Nat) (x:Nd) (m:List Nd) (w:World) (hE0:WArg es ps q pq cq e pe w) (hl:e.length≤200) (hk:e.drop k=x::m)
include hE0 hl hk
theorem worth_one (f:Nat)(r:List Nd)(hp:pastE (f+1) (x::m)=some r)(hK200:(prt x).toNat≤200)(ho1:1≤x.op)(ho4:¬x.op≤4)(ho8:x.op≠8)(ho11:x.op≠11)(ho12:x.op≠12)(ho13:x.op≠13)(R:Except Int (List Nd))(HRe:∀n,okAll (evE es q f) (ssOf f x m)= .error n→R= .error n)(hE0n:∀s∈ssOf f x m,∀n,evE es q f s= .error n→n≠0)(IH:∀s∈ssOf f x m,∀w1,WArg es ps q pq cq e pe w1→Calls Tryz.prog 12 #[.slice ps es.length cs,reqV q pq cq,.slice pe e.length ce,.int .i64 (pos e s:Int)] w1 fun en w'=>GRet (evE es q f s) en w'∧Below w1.heap.size w1 w')(ho5:x.op≠5)(ho6:x.op≠6)(hK1:(prt x).toNat=1)(HT:∀a,okAll (evE es q f) (ssOf f x m)= .ok [a]→∀w1 n q c,VArg w1 a n q c→EL w1 ps es→Calls Tryz.prog 30 #[.slice ps es.length cs,.agg #[.int .i64 x.op,.int .i64 x.n,.string x.s,.string x.t],.agg #[.slice q n c,.int .i64 0]] w1 fun en w'=>GRet R en w'∧Below w1.heap.size w1 w'):
 Calls Tryz.prog 12 #[.slice ps es.length cs,reqV q pq cq,.slice pe e.length ce,.int .i64 (k:Int)] w fun en w'=>GRet (R) en w'∧Below w.heap.size w w':=by
 obtain⟨bq,oq,hpq,hbq,hkl,e0,e1,e2,e3,xw⟩:=node_at hE0.nl hk
 have i1:(k:Int)<(e.length:Int):=by omega
 have HPO:=fun w1 (h1:NL w1 pe e)=>refPartsOf_any f e pe ce k x m r w1 h1 hl hk hp
 have hsl:=ssOf_len (f:=f) (x:=x) (m:=m)
 have HKl:Hid ((prt x).toNat≤200):=hK200
 have e11:(x.op == 11)=false:=by simpa using ho11
 have e12:(x.op == 12)=false:=by simpa using ho12
 have e13:(x.op == 13)=false:=by simpa using ho13
 have e5:(x.op == 5)=false:=by simpa using ho5
 have e6:(x.op == 6)=false:=by simpa using ho6
 generalize (prt x).toNat=K at *
 generalize ssOf f x m=ss at *
 obtain⟨xo,xn,xs,xt⟩:=x
 dsimp only[Nd.val]at e0 e1 e2 e3 ho1 ho4 ho8 e11 e12 e13 e5 e6 HT
 subst hpq
 obtain⟨W,hW⟩:∃W,W=((w.alloc (.cells #[.string q.who.t,.string q.who.i,.string q.act.t,.string q.act.i,.string q.what.t,.string q.what.i,.slice pq q.cx.length cq] 27)).alloc (.cells #[.slice none 0 0,.int .i64 0] 30)).alloc (.cells #[.int .i64 xo,.int .i64 xn,.string xs,.string xt] 53):=⟨_,rfl⟩
 have hb_0:Below w.heap.size w W:=by rw[hW];exact(((Below.refl _ _).alloc (Nat.le_refl _) _).alloc (by simp) _).alloc (by simp;omega) _
 have hQ_0:QR W w.heap.size q pq cq:=by rw[hW];exact((QR.new w q pq cq).up ((Below.refl _ _).alloc (Nat.le_refl _) _)).up ((Below.refl _ _).alloc (Nat.le_refl _) _)
 have hR_0:GR W (w.heap.size+1):=by rw[hW];exact(GR.new _ (by simp)).up ((Below.refl _ _).alloc (Nat.le_refl _) _)
 have hn_0:NB W (w.heap.size+1+1) xo xn xs xt:=by rw[hW];exact NB.new _ _ _ _ _ (by simp)
 have hWs:W.heap.size=w.heap.size+1+1+1:=by rw[hW];simp
 have hE_0:=hE0.up hb_0
 unfold reqV
 go_enter Tryz.func12,Tryz.ntmps12
 have HE0:Hid (WArg es ps q pq cq e (some ⟨bq,oq,none⟩) w):=hE0
 have HREr:Hid (∀n,okAll (evE es q f) ss= .error n→R= .error n):=HRe
 have HNZ:Hid (∀s∈ss,∀n,evE es q f s= .error n→n≠0):=hE0n
 unfold reqV at IH
 have HIH:Hid (∀s∈ss,∀w1,WArg es ps q pq cq e (some ⟨bq,oq,none⟩) w1→Calls Tryz.prog 12 #[.slice ps es.length cs,.agg #[.string q.who.t,.string q.who.i,.string q.act.t,.string q.act.i,.string q.what.t,.string q.what.i,.slice pq q.cx.length cq],.slice (some ⟨bq,oq,none⟩) e.length ce,.int .i64 (pos e s:Int)] w1 fun en w'=>GRet (evE es q f s) en w'∧Below w1.heap.size w1 w'):=IH
 have HSL:Hid (ss.length=K):=hsl
 clear hE0 hk hp ho11 ho12 ho13 ho5 ho6 HRe hE0n IH hsl
 obtain⟨x0,x1,x2,x3,x4,x5,x6⟩:=hQ_0.cells
 obtain⟨r0,r1,f0,f1⟩:=hR_0.cells
 obtain⟨n0,n1,n2,n3⟩:=hn_0.cells
 go_wp2_with fail
 rw[←hW]
 refine(HPO _ hE_0.nl).mono ?_
 rintro _ w1 ⟨⟨q3,c3,rfl,hil_1⟩,hbb⟩
 clear x0 x1 x2 x3 x4 x5 x6 r0 r1 f0 f1 n0 n1 n2 n3
 have hb_1:=qbt hb_0 hbb
 have hQ_1:=hQ_0.up hbb
 have hR_1:=hR_0.up hbb
 have hE_1:=hE_0.up hbb
 have hn_1:=hn_0.up hbb
 clear hbb hb_0 hQ_0 hR_0 hE_0 hn_0
 obtain⟨bp,op,rfl⟩:∃b o,q3=some ⟨b,o,none⟩:=by
  rcases hil_1 with h | ⟨b,o,h,_⟩
  · simp at h
  · exact⟨b,o,h⟩
 obtain⟨x0,x1,x2,x3,x4,x5,x6⟩:=hQ_1.cells
 obtain⟨r0,r1,f0,f1⟩:=hR_1.cells
 obtain⟨n0,n1,n2,n3⟩:=hn_1.cells
 have hKi:((K:Int)+1)-1=(K:Int):=by omega
 go_wp2_with fail
 clear e0 e1 e2 e3 HPO hW x0 x1 x2 x3 x4 x5 x6 r0 r1 f0 f1 n0 n1 n2 n3
 have hlow:w.heap.size+1+1<w1.heap.size:=hn_1.lt
 have hbp:bp<w1.heap.size:=by
  rcases hil_1 with h | ⟨b,o,h,hb,_⟩
  · simp at h
  · cases h;exact hb
 go_loopw [11,12] (fun ov i wr=>∃(j:Nat) (done todo vs:List (List Nd)),i= .int .i64 j∧j≤K∧Hid (done++todo=ss)∧done.length=j∧Hid (okAll (evE es q f) done= .ok vs)∧OG wr w1.heap.size ov vs∧QR wr w.heap.size q pq cq∧GR wr (w.heap.size+1)∧NB wr (w.heap.size+1+1) xo xn xs xt∧IL wr (some ⟨bp,op,none⟩) (ss.map (pos e)++[pos e r])∧Below w.heap.size w wr∧w1.heap.size≤wr.heap.size) (fun _ i _=>K-(intOf i).toNat)
 case atStart=>exact⟨0,[],ss,[],rfl,Nat.zero_le _,rfl,rfl,rfl,OG.nil _ _,hQ_1,hR_1,hn_1,hil_1,hb_1,Nat.le_refl _⟩
 case round=>
  rename World=>w5
  obtain⟨j,done,todo,vs,rfl,hj,HD,hdl,HK,hO_5,hQ_5,hR_5,hn_5,hil_5,hb_5,hbase⟩:=hrel
  have hE_5:=HE0.out.up hb_5
  by_cases hlt:j<K
  · have i2:(j:Int)<(K:Int)+1-1:=by omega
    have i3:(j:Int)<(K:Int)+1:=by omega
    obtain⟨s,todo,rfl⟩:∃a l,todo=a::l:=by
     cases todo with
     | nil=>exfalso;have:=congrArg List.length HD.out;have h2:=HSL.out;simp at this;omega
     | cons a l=>exact⟨a,l,rfl⟩
    have hsm:s∈ss:=by rw[←HD.out];simp
    have HW0:=HIH.out s hsm
    obtain⟨kj,hkj⟩:∃n,n=pos e s:=⟨_,rfl⟩
    rw[←hkj]at HW0
    have hP_5:P1 w5 bp (op+j) (.int .i64 (kj:Int)):=by
     rcases hil_5 with h | ⟨b,o,h,hb,h2⟩
     · simp at h
     · cases h
       refine⟨hb,h2 j kj ?_⟩
       rw[hkj,←HD.out,←hdl]
       simp
    have hPlt:=hP_5.lt
    have hKb:K≤200:=HKl.out
    have HV0:Hid (∀n,evE es q f s= .error n→n≠0):=HNZ.out s hsm
    cases hev:evE es q f s with
    | error nz=>
      have HRn:Hid (R= .error nz):=HREr.out nz (by rw[←HD.out];exact okAll_stop HK.out hev)
      have hnz:nz≠0:=HV0.out nz hev
      rw[hev]at HW0
      replace HW0:=fun w1 h1=>(HW0 w1 h1).mono (R':=fun en w'=>en= .returned (.agg #[.slice none 0 0,.int .i64 nz])∧Below w1.heap.size w1 w') fun en w' g=>⟨g.1,g.2⟩
      clear HV0 hev HNZ HIH HREr hsm hkj hj hlt
      obtain⟨x0,x1,x2,x3,x4,x5,x6⟩:=hQ_5.cells
      obtain⟨r0,r1,f0,f1⟩:=hR_5.cells
      obtain⟨n0,n1,n2,n3⟩:=hn_5.cells
      obtain p0:=hP_5.cells
      go_wp2_with fail
      have HL:w.heap.size<w5.heap.size∧bp<w5.heap.size:=⟨by have:=hR_5.lt;have:=hPlt;have:=hb_5.size;omega,by have:=hR_5.lt;have:=hPlt;have:=hb_5.size;omega⟩
      go_region_held (HQ1 w.heap.size q pq cq bp (op+j) (.int .i64 (kj:Int))) (first | exact QP1.b hQ_6 hP_6 (GR.bel (Nat.le_refl w5.heap.size) _ _) HL.1 HL.2 | exact QP1.b hQ_6 hP_6 ((Below.refl _ _).setCell (p:=⟨w5.heap.size,0,none⟩) (Nat.le_refl _) _) HL.1 HL.2 | exact QP1.u hQ_6 hP_6 zbx | exact QP1.u hQ_5 hP_5 zbx) (first
       | (go_at_call 12
          refine(HW0 _ (WArg.up hE_5 zbx)).mono ?_
          rintro _ w6 ⟨rfl,hbb_6⟩
          have hbk_6:Below w5.heap.size w5 w6:=qbt zbx hbb_6
          have hb_6:=qbt hb_5 hbk_6
          have hQ_6:=hQ_5.up hbk_6
          have hR_6:=hR_5.up hbk_6
          have hn_6:=hn_5.up hbk_6
          have hE_6:=hE_5.up hbk_6
          have hP_6:=hP_5.up hbk_6
          have hO_6:=hO_5.up hbk_6
          have hil_6:=hil_5.up hbk_6
          first | (have hC0:GR w6 (w5.heap.size):=GR.up (GR.up (GR.new w5 rfl) (zbD (Below.refl _ _))) hbb_6;obtain⟨cc0,cc1,cf0,cf1⟩:=hC0.cells) | skip))
      all_goals
       first
       | (obtain⟨w7,hV⟩:∃V,V=w6.alloc (.cells #[.slice none 0 0,.int .i64 nz] 30):=⟨_,rfl⟩
          obtain⟨Bgc,hBc⟩:∃V,V=w6.heap.size:=⟨_,rfl⟩
          have hEd:Ended w6 w5.heap.size (.slice none 0 0) (.int .i64 nz) w7 Bgc:=.inl ⟨hV,hBc⟩
          rw[←hV,←hBc]
          clear hV hBc)
       | (obtain⟨w7,hV⟩:∃V,V=(w6.setCell ⟨w5.heap.size,0,none⟩ (.slice none 0 0)).setCell ⟨w5.heap.size,1,none⟩ (.int .i64 nz):=⟨_,rfl⟩
          obtain⟨Bgc,hBc⟩:∃V,V=w5.heap.size:=⟨_,rfl⟩
          have hEd:Ended w6 w5.heap.size (.slice none 0 0) (.int .i64 nz) w7 Bgc:=.inr ⟨hC0,hV,hBc⟩
          rw[←hV,←hBc]
          clear hV hBc hC0 cc0 cc1 cf0 cf1)
       have hbV:=hEd.below hbk_6 (Nat.le_refl _)
       have hb_7:=qbt hb_5 hbV
       have gc_7:=hEd.g2
       have hQ_7:=hQ_5.up hbV
       have hR_7:=hR_5.up hbV
       have hn_7:=hn_5.up hbV
       have hE_7:=hE_5.up hbV
       have hP_7:=hP_5.up hbV
       have hO_7:=hO_5.up hbV
       have hil_7:=hil_5.up hbV
       clear hEd
       obtain⟨x0,x1,x2,x3,x4,x5,x6⟩:=hQ_7.cells
       obtain⟨r0,r1,f0,f1⟩:=hR_7.cells
       obtain⟨n0,n1,n2,n3⟩:=hn_7.cells
       obtain p0:=hP_7.cells
       obtain⟨gca,gcb⟩:=gc_7.cells
       go_wp2
       rw[HRn.out]
       exact bodyPost_ret (v:=.agg #[.slice none 0 0,.int .i64 nz]) (by simp[results,Tryz.results12,go_sem,(hR_7.told _ _).1,(hR_7.told _ _).2]) rfl (hR_7.ret (by omega) hb_7 rfl)
    | ok a0=>
      have HK2:Hid (okAll (evE es q f) (done++[s])= .ok (vs++[a0])):=okAll_snoc HK.out hev
      rw[hev]at HW0
      replace HW0:=fun w1 h1=>(HW0 w1 h1).mono (R':=fun en w'=>(∃b off c,en= .returned (.agg #[.slice (some ⟨b,off,none⟩) a0.length c,.int .i64 0])∧VArg w' a0 a0.length (some ⟨b,off,none⟩) c)∧Below w1.heap.size w1 w') fun en w' g=>⟨gret_ok g.1,g.2⟩
      clear HV0 hev HNZ HIH HREr hsm hkj
      obtain⟨x0,x1,x2,x3,x4,x5,x6⟩:=hQ_5.cells
      obtain⟨r0,r1,f0,f1⟩:=hR_5.cells
      obtain⟨n0,n1,n2,n3⟩:=hn_5.cells
      obtain p0:=hP_5.cells
      go_wp2_with fail
      have HL:w.heap.size<w5.heap.size∧bp<w5.heap.size:=⟨by have:=hR_5.lt;have:=hPlt;have:=hb_5.size;omega,by have:=hR_5.lt;have:=hPlt;have:=hb_5.size;omega⟩
      go_region_held (HQ1 w.heap.size q pq cq bp (op+j) (.int .i64 (kj:Int))) (first | exact QP1.b hQ_6 hP_6 (GR.bel (Nat.le_refl w5.heap.size) _ _) HL.1 HL.2 | exact QP1.b hQ_6 hP_6 ((Below.refl _ _).setCell (p:=⟨w5.heap.size,0,none⟩) (Nat.le_refl _) _) HL.1 HL.2 | exact QP1.u hQ_6 hP_6 zbx | exact QP1.u hQ_5 hP_5 zbx) (first
       | (go_at_call 12
          refine(HW0 _ (WArg.up hE_5 zbx)).mono ?_
          rintro _ w6 ⟨⟨bhv,ohv,chv,rfl,hv_6⟩,hbb_6⟩
          have hbk_6:Below w5.heap.size w5 w6:=qbt zbx hbb_6
          have hb_6:=qbt hb_5 hbk_6
          have hQ_6:=hQ_5.up hbk_6
          have hR_6:=hR_5.up hbk_6
          have hn_6:=hn_5.up hbk_6
          have hE_6:=hE_5.up hbk_6
          have hP_6:=hP_5.up hbk_6
          have hO_6:=hO_5.up hbk_6
          have hil_6:=hil_5.up hbk_6
          first | (have hC0:GR w6 (w5.heap.size):=GR.up (GR.up (GR.new w5 rfl) (zbD (Below.refl _ _))) hbb_6;obtain⟨cc0,cc1,cf0,cf1⟩:=hC0.cells) | skip))
      all_goals
       first
       | (obtain⟨w7,hV⟩:∃V,V=w6.alloc (.cells #[.slice (some ⟨bhv,ohv,none⟩) a0.length chv,.int .i64 0] 30):=⟨_,rfl⟩
          obtain⟨Bgc,hBc⟩:∃V,V=w6.heap.size:=⟨_,rfl⟩
          have hEd:Ended w6 w5.heap.size (.slice (some ⟨bhv,ohv,none⟩) a0.length chv) (.int .i64 0) w7 Bgc:=.inl ⟨hV,hBc⟩
          rw[←hV,←hBc]
          clear hV hBc)
       | (obtain⟨w7,hV⟩:∃V,V=(w6.setCell ⟨w5.heap.size,0,none⟩ (.slice (some ⟨bhv,ohv,none⟩) a0.length chv)).setCell ⟨w5.heap.size,1,none⟩ (.int .i64 0):=⟨_,rfl⟩
          obtain⟨Bgc,hBc⟩:∃V,V=w5.heap.size:=⟨_,rfl⟩
          have hEd:Ended w6 w5.heap.size (.slice (some ⟨bhv,ohv,none⟩) a0.length chv) (.int .i64 0) w7 Bgc:=.inr ⟨hC0,hV,hBc⟩
          rw[←hV,←hBc]
          clear hV hBc hC0 cc0 cc1 cf0 cf1)
       have hbV:=hEd.below hbk_6 (Nat.le_refl _)
       have hb_7:=qbt hb_5 hbV
       have gc_7:=hEd.g2
       have hQ_7:=hQ_5.up hbV
       have hR_7:=hR_5.up hbV
       have hn_7:=hn_5.up hbV
       have hE_7:=hE_5.up hbV
       have hP_7:=hP_5.up hbV
       have hO_7:=hO_5.up hbV
       have hil_7:=hil_5.up hbV
       have hv_7:=hEd.val hv_6
       clear hEd
       have hvl:vs.length+1≤1000000:=by
        have h1:=okAll_len HK.out
        have h2:=HKl.out
        omega
       have hbs:w1.heap.size≤w7.heap.size:=Nat.le_trans hbase hbV.size
       obtain⟨x0,x1,x2,x3,x4,x5,x6⟩:=hQ_7.cells
       obtain⟨r0,r1,f0,f1⟩:=hR_7.cells
       obtain⟨n0,n1,n2,n3⟩:=hn_7.cells
       obtain p0:=hP_7.cells
       obtain⟨gca,gcb⟩:=gc_7.cells
       go_wp2_with (first | (at_builtin;refine append_got w7 rfl (.tmp 81) (.tmp 83) rfl w1.heap.size u11 vs rfl hO_7 a0 _ _ _ hv_7 rfl hvl hbs ?_;intro v2 w9 hO_9 hb9))
       go_roundw
       case rel=>exact⟨j+1,done++[s],todo,vs++[a0],by go_num,by omega,by rw[←HD.out];show _=_;simp,by simp[hdl],HK2,hO_9,hQ_7.bel hb9 (by omega),hR_7.belk hb9 (by omega),hn_7.bel hb9 (by omega),IL.bel hil_7 hb9 (hbp),hb_7.trans (hb9.mono (by omega)),Nat.le_trans hbs hb9.size⟩
       case measure=>simp[intOf];omega
  · have i2:¬(j:Int)<(K:Int)+1-1:=by omega
    obtain rfl:j=K:=by omega
    have ht:todo=[]:=by
     cases todo with
     | nil=>rfl
     | cons a l=>exfalso;have:=congrArg List.length HD.out;have h2:=HSL.out;simp at this;omega
    subst ht
    have HKs:Hid (okAll (evE es q f) ss= .ok vs):=by
     have:=HK.out
     rw[←HD.out,List.append_nil]
     exact this
    obtain⟨a,rfl⟩:∃a,vs=[a]:=by
     have:=okAll_len HKs.out
     have h2:=HSL.out
     rw[h2,hK1]at this
     match vs,this with
     | [a],_=>exact⟨a,rfl⟩
    have HC:=HT a HKs.out
    clear HT
    obtain⟨ga,capa,qa,ca,hua,hga,va0,va1,hva_5⟩:=hO_5.at (i:=0) (by simp)
    simp only[List.getElem_cons_zero,List.getElem_cons_succ,Nat.zero_mul,Nat.one_mul,Nat.zero_add,Nat.reduceAdd]at va0 va1 hva_5
    subst hua
    obtain⟨x0,x1,x2,x3,x4,x5,x6⟩:=hQ_5.cells
    obtain⟨r0,r1,f0,f1⟩:=hR_5.cells
    obtain⟨n0,n1,n2,n3⟩:=hn_5.cells
    go_wp2_with fail
    go_region_with (first
     | (go_at_call 30
        refine(HC _ _ _ _ (hva_5.up zbx) (hE_5.el.up zbx)).mono ?_
        rintro _ w6 ⟨hG,hbb⟩
        obtain⟨gq,gn,gc,gk,rfl⟩:=hG.shape
        have hbk:Below w5.heap.size w5 w6:=qbt zbx hbb
        have hb_6:=qbt hb_5 hbk
        have hR_6:=hR_5.up hbk
        obtain⟨cc0,cc1,cf0,cf1⟩:=hR_6.cells))
    all_goals
     go_wp2
     exact bodyPost_ret (v:=.agg #[.slice gq gn gc,.int .i64 gk]) (by simp[results,Tryz.results12,go_sem,(hR_6.told _ _).1,(hR_6.told _ _).2]) rfl (hR_6.ret (by omega) hb_6 (hG))
theorem worth_two (f:Nat)(r:List Nd)(hp:pastE (f+1) (x::m)=some r)(hK200:(prt x).toNat≤200)(ho1:1≤x.op)(ho4:¬x.op≤4)(ho8:x.op≠8)(ho11:x.op≠11)(ho12:x.op≠12)(ho13:x.op≠13)(R:Except Int (List Nd))(HRe:∀n,okAll (evE es q f) (ssOf f x m)= .error n→R= .error n)(hE0n:∀s∈ssOf f x m,∀n,evE es q f s= .error n→n≠0)(IH:∀s∈ssOf f x m,∀w1,WArg es ps q pq cq e pe w1→Calls Tryz.prog 12 #[.slice ps es.length cs,reqV q pq cq,.slice pe e.length ce,.int .i64 (pos e s:Int)] w1 fun en w'=>GRet (evE es q f s) en w'∧Below w1.heap.size w1 w')(ho5:x.op≠5)(ho6:x.op≠6)(hK1:(prt x).toNat=2)(HT:∀a b,okAll (evE es q f) (ssOf f x m)= .ok [a,b]→∀w1 n q c m p d,VArg w1 a n q c→VArg w1 b m p d→EL w1 ps es→Calls Tryz.prog 31 #[.slice ps es.length cs,.int .i64 x.op,.agg #[.slice q n c,.int .i64 0],.agg #[.slice p m d,.int .i64 0]] w1 fun en w'=>GRet R en w'∧Below w1.heap.size w1 w'):
 Calls Tryz.prog 12 #[.slice ps es.length cs,reqV q pq cq,.slice pe e.length ce,.int .i64 (k:Int)] w fun en w'=>GRet (R) en w'∧Below w.heap.size w w':=by
 obtain⟨bq,oq,hpq,hbq,hkl,e0,e1,e2,e3,xw⟩:=node_at hE0.nl hk
 have i1:(k:Int)<(e.length:Int):=by omega
 have HPO:=fun w1 (h1:NL w1 pe e)=>refPartsOf_any f e pe ce k x m r w1 h1 hl hk hp
 have hsl:=ssOf_len (f:=f) (x:=x) (m:=m)
 have HKl:Hid ((prt x).toNat≤200):=hK200
 have e11:(x.op == 11)=false:=by simpa using ho11
 have e12:(x.op == 12)=false:=by simpa using ho12
 have e13:(x.op == 13)=false:=by simpa using ho13
 have e5:(x.op == 5)=false:=by simpa using ho5
 have e6:(x.op == 6)=false:=by simpa using ho6
 generalize (prt x).toNat=K at *
 generalize ssOf f x m=ss at *
 obtain⟨xo,xn,xs,xt⟩:=x
 dsimp only[Nd.val]at e0 e1 e2 e3 ho1 ho4 ho8 e11 e12 e13 e5 e6 HT
 subst hpq
 obtain⟨W,hW⟩:∃W,W=((w.alloc (.cells #[.string q.who.t,.string q.who.i,.string q.act.t,.string q.act.i,.string q.what.t,.string q.what.i,.slice pq q.cx.length cq] 27)).alloc (.cells #[.slice none 0 0,.int .i64 0] 30)).alloc (.cells #[.int .i64 xo,.int .i64 xn,.string xs,.string xt] 53):=⟨_,rfl⟩
 have hb_0:Below w.heap.size w W:=by rw[hW];exact(((Below.refl _ _).alloc (Nat.le_refl _) _).alloc (by simp) _).alloc (by simp;omega) _
 have hQ_0:QR W w.heap.size q pq cq:=by rw[hW];exact((QR.new w q pq cq).up ((Below.refl _ _).alloc (Nat.le_refl _) _)).up ((Below.refl _ _).alloc (Nat.le_refl _) _)
 have hR_0:GR W (w.heap.size+1):=by rw[hW];exact(GR.new _ (by simp)).up ((Below.refl _ _).alloc (Nat.le_refl _) _)
 have hn_0:NB W (w.heap.size+1+1) xo xn xs xt:=by rw[hW];exact NB.new _ _ _ _ _ (by simp)
 have hWs:W.heap.size=w.heap.size+1+1+1:=by rw[hW];simp
 have hE_0:=hE0.up hb_0
 unfold reqV
 go_enter Tryz.func12,Tryz.ntmps12
 have HE0:Hid (WArg es ps q pq cq e (some ⟨bq,oq,none⟩) w):=hE0
 have HREr:Hid (∀n,okAll (evE es q f) ss= .error n→R= .error n):=HRe
 have HNZ:Hid (∀s∈ss,∀n,evE es q f s= .error n→n≠0):=hE0n
 unfold reqV at IH
 have HIH:Hid (∀s∈ss,∀w1,WArg es ps q pq cq e (some ⟨bq,oq,none⟩) w1→Calls Tryz.prog 12 #[.slice ps es.length cs,.agg #[.string q.who.t,.string q.who.i,.string q.act.t,.string q.act.i,.string q.what.t,.string q.what.i,.slice pq q.cx.length cq],.slice (some ⟨bq,oq,none⟩) e.length ce,.int .i64 (pos e s:Int)] w1 fun en w'=>GRet (evE es q f s) en w'∧Below w1.heap.size w1 w'):=IH
 have HSL:Hid (ss.length=K):=hsl
 clear hE0 hk hp ho11 ho12 ho13 ho5 ho6 HRe hE0n IH hsl
 obtain⟨x0,x1,x2,x3,x4,x5,x6⟩:=hQ_0.cells
 obtain⟨r0,r1,f0,f1⟩:=hR_0.cells
 obtain⟨n0,n1,n2,n3⟩:=hn_0.cells
 go_wp2_with fail
 rw[←hW]
 refine(HPO _ hE_0.nl).mono ?_
 rintro _ w1 ⟨⟨q3,c3,rfl,hil_1⟩,hbb⟩
 clear x0 x1 x2 x3 x4 x5 x6 r0 r1 f0 f1 n0 n1 n2 n3
 have hb_1:=qbt hb_0 hbb
 have hQ_1:=hQ_0.up hbb
 have hR_1:=hR_0.up hbb
 have hE_1:=hE_0.up hbb
 have hn_1:=hn_0.up hbb
 clear hbb hb_0 hQ_0 hR_0 hE_0 hn_0
 obtain⟨bp,op,rfl⟩:∃b o,q3=some ⟨b,o,none⟩:=by
  rcases hil_1 with h | ⟨b,o,h,_⟩
  · simp at h
  · exact⟨b,o,h⟩
 obtain⟨x0,x1,x2,x3,x4,x5,x6⟩:=hQ_1.cells
 obtain⟨r0,r1,f0,f1⟩:=hR_1.cells
 obtain⟨n0,n1,n2,n3⟩:=hn_1.cells
 have hKi:((K:Int)+1)-1=(K:Int):=by omega
 go_wp2_with fail
 clear e0 e1 e2 e3 HPO hW x0 x1 x2 x3 x4 x5 x6 r0 r1 f0 f1 n0 n1 n2 n3
 have hlow:w.heap.size+1+1<w1.heap.size:=hn_1.lt
 have hbp:bp<w1.heap.size:=by
  rcases hil_1 with h | ⟨b,o,h,hb,_⟩
  · simp at h
  · cases h;exact hb
 go_loopw [11,12] (fun ov i wr=>∃(j:Nat) (done todo vs:List (List Nd)),i= .int .i64 j∧j≤K∧Hid (done++todo=ss)∧done.length=j∧Hid (okAll (evE es q f) done= .ok vs)∧OG wr w1.heap.size ov vs∧QR wr w.heap.size q pq cq∧GR wr (w.heap.size+1)∧NB wr (w.heap.size+1+1) xo xn xs xt∧IL wr (some ⟨bp,op,none⟩) (ss.map (pos e)++[pos e r])∧Below w.heap.size w wr∧w1.heap.size≤wr.heap.size) (fun _ i _=>K-(intOf i).toNat)
 case atStart=>exact⟨0,[],ss,[],rfl,Nat.zero_le _,rfl,rfl,rfl,OG.nil _ _,hQ_1,hR_1,hn_1,hil_1,hb_1,Nat.le_refl _⟩
 case round=>
  rename World=>w5
  obtain⟨j,done,todo,vs,rfl,hj,HD,hdl,HK,hO_5,hQ_5,hR_5,hn_5,hil_5,hb_5,hbase⟩:=hrel
  have hE_5:=HE0.out.up hb_5
  by_cases hlt:j<K
  · have i2:(j:Int)<(K:Int)+1-1:=by omega
    have i3:(j:Int)<(K:Int)+1:=by omega
    obtain⟨s,todo,rfl⟩:∃a l,todo=a::l:=by
     cases todo with
     | nil=>exfalso;have:=congrArg List.length HD.out;have h2:=HSL.out;simp at this;omega
     | cons a l=>exact⟨a,l,rfl⟩
    have hsm:s∈ss:=by rw[←HD.out];simp
    have HW0:=HIH.out s hsm
    obtain⟨kj,hkj⟩:∃n,n=pos e s:=⟨_,rfl⟩
    rw[←hkj]at HW0
    have hP_5:P1 w5 bp (op+j) (.int .i64 (kj:Int)):=by
     rcases hil_5 with h | ⟨b,o,h,hb,h2⟩
     · simp at h
     · cases h
       refine⟨hb,h2 j kj ?_⟩
       rw[hkj,←HD.out,←hdl]
       simp
    have hPlt:=hP_5.lt
    have hKb:K≤200:=HKl.out
    have HV0:Hid (∀n,evE es q f s= .error n→n≠0):=HNZ.out s hsm
    cases hev:evE es q f s with
    | error nz=>
      have HRn:Hid (R= .error nz):=HREr.out nz (by rw[←HD.out];exact okAll_stop HK.out hev)
      have hnz:nz≠0:=HV0.out nz hev
      rw[hev]at HW0
      replace HW0:=fun w1 h1=>(HW0 w1 h1).mono (R':=fun en w'=>en= .returned (.agg #[.slice none 0 0,.int .i64 nz])∧Below w1.heap.size w1 w') fun en w' g=>⟨g.1,g.2⟩
      clear HV0 hev HNZ HIH HREr hsm hkj hj hlt
      obtain⟨x0,x1,x2,x3,x4,x5,x6⟩:=hQ_5.cells
      obtain⟨r0,r1,f0,f1⟩:=hR_5.cells
      obtain⟨n0,n1,n2,n3⟩:=hn_5.cells
      obtain p0:=hP_5.cells
      go_wp2_with fail
      have HL:w.heap.size<w5.heap.size∧bp<w5.heap.size:=⟨by have:=hR_5.lt;have:=hPlt;have:=hb_5.size;omega,by have:=hR_5.lt;have:=hPlt;have:=hb_5.size;omega⟩
      go_region_held (HQ1 w.heap.size q pq cq bp (op+j) (.int .i64 (kj:Int))) (first | exact QP1.b hQ_6 hP_6 (GR.bel (Nat.le_refl w5.heap.size) _ _) HL.1 HL.2 | exact QP1.b hQ_6 hP_6 ((Below.refl _ _).setCell (p:=⟨w5.heap.size,0,none⟩) (Nat.le_refl _) _) HL.1 HL.2 | exact QP1.u hQ_6 hP_6 zbx | exact QP1.u hQ_5 hP_5 zbx) (first
       | (go_at_call 12
          refine(HW0 _ (WArg.up hE_5 zbx)).mono ?_
          rintro _ w6 ⟨rfl,hbb_6⟩
          have hbk_6:Below w5.heap.size w5 w6:=qbt zbx hbb_6
          have hb_6:=qbt hb_5 hbk_6
          have hQ_6:=hQ_5.up hbk_6
          have hR_6:=hR_5.up hbk_6
          have hn_6:=hn_5.up hbk_6
          have hE_6:=hE_5.up hbk_6
          have hP_6:=hP_5.up hbk_6
          have hO_6:=hO_5.up hbk_6
          have hil_6:=hil_5.up hbk_6
          first | (have hC0:GR w6 (w5.heap.size):=GR.up (GR.up (GR.new w5 rfl) (zbD (Below.refl _ _))) hbb_6;obtain⟨cc0,cc1,cf0,cf1⟩:=hC0.cells) | skip))
      all_goals
       first
       | (obtain⟨w7,hV⟩:∃V,V=w6.alloc (.cells #[.slice none 0 0,.int .i64 nz] 30):=⟨_,rfl⟩
          obtain⟨Bgc,hBc⟩:∃V,V=w6.heap.size:=⟨_,rfl⟩
          have hEd:Ended w6 w5.heap.size (.slice none 0 0) (.int .i64 nz) w7 Bgc:=.inl ⟨hV,hBc⟩
          rw[←hV,←hBc]
          clear hV hBc)
       | (obtain⟨w7,hV⟩:∃V,V=(w6.setCell ⟨w5.heap.size,0,none⟩ (.slice none 0 0)).setCell ⟨w5.heap.size,1,none⟩ (.int .i64 nz):=⟨_,rfl⟩
          obtain⟨Bgc,hBc⟩:∃V,V=w5.heap.size:=⟨_,rfl⟩
          have hEd:Ended w6 w5.heap.size (.slice none 0 0) (.int .i64 nz) w7 Bgc:=.inr ⟨hC0,hV,hBc⟩
          rw[←hV,←hBc]
          clear hV hBc hC0 cc0 cc1 cf0 cf1)
       have hbV:=hEd.below hbk_6 (Nat.le_refl _)
       have hb_7:=qbt hb_5 hbV
       have gc_7:=hEd.g2
       have hQ_7:=hQ_5.up hbV
       have hR_7:=hR_5.up hbV
       have hn_7:=hn_5.up hbV
       have hE_7:=hE_5.up hbV
       have hP_7:=hP_5.up hbV
       have hO_7:=hO_5.up hbV
       have hil_7:=hil_5.up hbV
       clear hEd
       obtain⟨x0,x1,x2,x3,x4,x5,x6⟩:=hQ_7.cells
       obtain⟨r0,r1,f0,f1⟩:=hR_7.cells
       obtain⟨n0,n1,n2,n3⟩:=hn_7.cells
       obtain p0:=hP_7.cells
       obtain⟨gca,gcb⟩:=gc_7.cells
       go_wp2
       rw[HRn.out]
       exact bodyPost_ret (v:=.agg #[.slice none 0 0,.int .i64 nz]) (by simp[results,Tryz.results12,go_sem,(hR_7.told _ _).1,(hR_7.told _ _).2]) rfl (hR_7.ret (by omega) hb_7 rfl)
    | ok a0=>
      have HK2:Hid (okAll (evE es q f) (done++[s])= .ok (vs++[a0])):=okAll_snoc HK.out hev
      rw[hev]at HW0
      replace HW0:=fun w1 h1=>(HW0 w1 h1).mono (R':=fun en w'=>(∃b off c,en= .returned (.agg #[.slice (some ⟨b,off,none⟩) a0.length c,.int .i64 0])∧VArg w' a0 a0.length (some ⟨b,off,none⟩) c)∧Below w1.heap.size w1 w') fun en w' g=>⟨gret_ok g.1,g.2⟩
      clear HV0 hev HNZ HIH HREr hsm hkj
      obtain⟨x0,x1,x2,x3,x4,x5,x6⟩:=hQ_5.cells
      obtain⟨r0,r1,f0,f1⟩:=hR_5.cells
      obtain⟨n0,n1,n2,n3⟩:=hn_5.cells
      obtain p0:=hP_5.cells
      go_wp2_with fail
      have HL:w.heap.size<w5.heap.size∧bp<w5.heap.size:=⟨by have:=hR_5.lt;have:=hPlt;have:=hb_5.size;omega,by have:=hR_5.lt;have:=hPlt;have:=hb_5.size;omega⟩
      go_region_held (HQ1 w.heap.size q pq cq bp (op+j) (.int .i64 (kj:Int))) (first | exact QP1.b hQ_6 hP_6 (GR.bel (Nat.le_refl w5.heap.size) _ _) HL.1 HL.2 | exact QP1.b hQ_6 hP_6 ((Below.refl _ _).setCell (p:=⟨w5.heap.size,0,none⟩) (Nat.le_refl _) _) HL.1 HL.2 | exact QP1.u hQ_6 hP_6 zbx | exact QP1.u hQ_5 hP_5 zbx) (first
       | (go_at_call 12
          refine(HW0 _ (WArg.up hE_5 zbx)).mono ?_
          rintro _ w6 ⟨⟨bhv,ohv,chv,rfl,hv_6⟩,hbb_6⟩
          have hbk_6:Below w5.heap.size w5 w6:=qbt zbx hbb_6
          have hb_6:=qbt hb_5 hbk_6
          have hQ_6:=hQ_5.up hbk_6
          have hR_6:=hR_5.up hbk_6
          have hn_6:=hn_5.up hbk_6
          have hE_6:=hE_5.up hbk_6
          have hP_6:=hP_5.up hbk_6
          have hO_6:=hO_5.up hbk_6
          have hil_6:=hil_5.up hbk_6
          first | (have hC0:GR w6 (w5.heap.size):=GR.up (GR.up (GR.new w5 rfl) (zbD (Below.refl _ _))) hbb_6;obtain⟨cc0,cc1,cf0,cf1⟩:=hC0.cells) | skip))
      all_goals
       first
       | (obtain⟨w7,hV⟩:∃V,V=w6.alloc (.cells #[.slice (some ⟨bhv,ohv,none⟩) a0.length chv,.int .i64 0] 30):=⟨_,rfl⟩
          obtain⟨Bgc,hBc⟩:∃V,V=w6.heap.size:=⟨_,rfl⟩
          have hEd:Ended w6 w5.heap.size (.slice (some ⟨bhv,ohv,none⟩) a0.length chv) (.int .i64 0) w7 Bgc:=.inl ⟨hV,hBc⟩
          rw[←hV,←hBc]
          clear hV hBc)
       | (obtain⟨w7,hV⟩:∃V,V=(w6.setCell ⟨w5.heap.size,0,none⟩ (.slice (some ⟨bhv,ohv,none⟩) a0.length chv)).setCell ⟨w5.heap.size,1,none⟩ (.int .i64 0):=⟨_,rfl⟩
          obtain⟨Bgc,hBc⟩:∃V,V=w5.heap.size:=⟨_,rfl⟩
          have hEd:Ended w6 w5.heap.size (.slice (some ⟨bhv,ohv,none⟩) a0.length chv) (.int .i64 0) w7 Bgc:=.inr ⟨hC0,hV,hBc⟩
          rw[←hV,←hBc]
          clear hV hBc hC0 cc0 cc1 cf0 cf1)
       have hbV:=hEd.below hbk_6 (Nat.le_refl _)
       have hb_7:=qbt hb_5 hbV
       have gc_7:=hEd.g2
       have hQ_7:=hQ_5.up hbV
       have hR_7:=hR_5.up hbV
       have hn_7:=hn_5.up hbV
       have hE_7:=hE_5.up hbV
       have hP_7:=hP_5.up hbV
       have hO_7:=hO_5.up hbV
       have hil_7:=hil_5.up hbV
       have hv_7:=hEd.val hv_6
       clear hEd
       have hvl:vs.length+1≤1000000:=by
        have h1:=okAll_len HK.out
        have h2:=HKl.out
        omega
       have hbs:w1.heap.size≤w7.heap.size:=Nat.le_trans hbase hbV.size
       obtain⟨x0,x1,x2,x3,x4,x5,x6⟩:=hQ_7.cells
       obtain⟨r0,r1,f0,f1⟩:=hR_7.cells
       obtain⟨n0,n1,n2,n3⟩:=hn_7.cells
       obtain p0:=hP_7.cells
       obtain⟨gca,gcb⟩:=gc_7.cells
       go_wp2_with (first | (at_builtin;refine append_got w7 rfl (.tmp 81) (.tmp 83) rfl w1.heap.size u11 vs rfl hO_7 a0 _ _ _ hv_7 rfl hvl hbs ?_;intro v2 w9 hO_9 hb9))
       go_roundw
       case rel=>exact⟨j+1,done++[s],todo,vs++[a0],by go_num,by omega,by rw[←HD.out];show _=_;simp,by simp[hdl],HK2,hO_9,hQ_7.bel hb9 (by omega),hR_7.belk hb9 (by omega),hn_7.bel hb9 (by omega),IL.bel hil_7 hb9 (hbp),hb_7.trans (hb9.mono (by omega)),Nat.le_trans hbs hb9.size⟩
       case measure=>simp[intOf];omega
  · have i2:¬(j:Int)<(K:Int)+1-1:=by omega
    obtain rfl:j=K:=by omega
    have ht:todo=[]:=by
     cases todo with
     | nil=>rfl
     | cons a l=>exfalso;have:=congrArg List.length HD.out;have h2:=HSL.out;simp at this;omega
    subst ht
    have HKs:Hid (okAll (evE es q f) ss= .ok vs):=by
     have:=HK.out
     rw[←HD.out,List.append_nil]
     exact this
    obtain⟨a,b,rfl⟩:∃a b,vs=[a,b]:=by
     have:=okAll_len HKs.out
     have h2:=HSL.out
     rw[h2,hK1]at this
     match vs,this with
     | [a,b],_=>exact⟨a,b,rfl⟩
    have HC:=HT a b HKs.out
    clear HT
    obtain⟨ga,capa,qa,ca,hua,hga,va0,va1,hva_5⟩:=hO_5.at (i:=0) (by simp)
    simp only[List.getElem_cons_zero,List.getElem_cons_succ,Nat.zero_mul,Nat.one_mul,Nat.zero_add,Nat.reduceAdd]at va0 va1 hva_5
    obtain⟨gb,capb,qb,cb,hub,hgb,vb0,vb1,hvb_5⟩:=hO_5.at (i:=1) (by simp)
    simp only[List.getElem_cons_zero,List.getElem_cons_succ,Nat.zero_mul,Nat.one_mul,Nat.zero_add,Nat.reduceAdd]at vb0 vb1 hvb_5
    subst hua
    injection hub with h1 h2 h3
    injection h1 with h1
    injection h1 with h1 _ _
    subst h1 h3
    obtain⟨x0,x1,x2,x3,x4,x5,x6⟩:=hQ_5.cells
    obtain⟨r0,r1,f0,f1⟩:=hR_5.cells
    obtain⟨n0,n1,n2,n3⟩:=hn_5.cells
    go_wp2_with fail
    go_region_with (first
     | (go_at_call 31
        refine(HC _ _ _ _ _ _ _ (hva_5.up zbx) (hvb_5.up zbx) (hE_5.el.up zbx)).mono ?_
        rintro _ w6 ⟨hG,hbb⟩
        obtain⟨gq,gn,gc,gk,rfl⟩:=hG.shape
        have hbk:Below w5.heap.size w5 w6:=qbt zbx hbb
        have hb_6:=qbt hb_5 hbk
        have hR_6:=hR_5.up hbk
        obtain⟨cc0,cc1,cf0,cf1⟩:=hR_6.cells))
    all_goals
     go_wp2
     exact bodyPost_ret (v:=.agg #[.slice gq gn gc,.int .i64 gk]) (by simp[results,Tryz.results12,go_sem,(hR_6.told _ _).1,(hR_6.told _ _).2]) rfl (hR_6.ret (by omega) hb_6 (hG))
end
theorem ss_in {f k:Nat}{e:List Nd}{x:Nd}{m r:List Nd}(hk:e.drop k=x::m)(hp:pastE (f+1) (x::m)=some r):InE f e k (ssOf f x m)∧(prt x).toNat≤e.length:=by
 have hm1:e.drop (k+1)=m:=by rw[←List.drop_drop,hk];rfl
 have hlen:=congrArg List.length hk
 simp at hlen
 have h0:e.drop (e.length-m.length)=m:=by rw[show e.length-m.length=k+1 by omega];exact hm1
 obtain⟨f',y,m',ef,ey,h7,hx,hr⟩:=pastE_cons hp
 obtain rfl:f=f':=by omega
 cases ey
 rcases hr with⟨h6,h⟩ | ⟨h6,h⟩
 · have e5:(prt x).toNat=x.n.toNat:=by unfold prt;rw[if_pos (Or.inr h6)]
   have:=fields_le _ _ _ _ h
   refine⟨?_,by omega⟩
   unfold ssOf
   rw[if_pos h6,e5]
   exact sfxR_in _ _ m r h0 (by omega) (by omega) h
 · have:=parts_le _ _ _ h
   refine⟨?_,by omega⟩
   unfold ssOf
   rw[if_neg h6]
   exact sfx_in _ m r h0 (by omega) (by omega) h
theorem ex_range {x:Nd}(h7:x.op≠7)(hx:exOk x=true):1≤x.op∧x.op≤27:=by
 unfold exOk at hx
 split at hx
 · omega
 · split at hx
   · cases hx
   · rename_i h
     unfold prt at h
     split at h
     · omega
     · split at h
       · omega
       · split at h
         · omega
         · split at h
           · omega
           · split at h
             · omega
             · exact absurd (by decide) h
theorem prt_one {x:Nd}(h:x.op=9∨x.op=10∨21≤x.op∧x.op≤24):(prt x).toNat=1:=by
 unfold prt
 rw[if_neg (by omega),if_neg (by omega),if_pos (by omega)]
 rfl
theorem prt_two {x:Nd}(h:x.op≠13)(h2:11≤x.op∧x.op≤20∨25≤x.op∧x.op≤27):(prt x).toNat=2:=by
 unfold prt
 rw[if_neg (by omega),if_neg (by omega),if_neg (by omega),if_neg h,if_pos h2]
 rfl
theorem prt_three {x:Nd}(h:x.op=13):(prt x).toNat=3:=by
 unfold prt
 rw[if_neg (by omega),if_neg (by omega),if_neg (by omega),if_pos h]
 rfl
theorem P3.of {w:World}{bp op:Nat}{l:List Nat}{a b c:Nat}{t:List Nat}(h:IL w (some ⟨bp,op,none⟩) l)(hl:l=a::b::c::t):P3 w bp op a b c:=by
 subst hl
 rcases h with h | ⟨b',o',h1,h2,h3⟩
 · cases h
 · cases h1
   exact⟨⟨h3 0 a rfl,h3 1 b rfl,h3 2 c rfl⟩,h2⟩
section
variable (es:List En) (ps:Option Addr) (cs:Nat) (q:Rq) (pq:Option Addr) (cq:Nat) (e:List Nd) (pe:Option Addr) (ce:Nat)
def WkOk (f:Nat):Prop:=∀(w:World) (k:Nat) (r:List Nd),WArg es ps q pq cq e pe w→pastE f (e.drop k)=some r→
 Calls Tryz.prog 12 #[.slice ps es.length cs,reqV q pq cq,.slice pe e.length ce,.int .i64 (k:Int)] w fun en w'=>GRet (evE es q f (e.drop k)) en w'∧Below w.heap.size w w'
variable {es ps cs q pq cq e pe ce}
theorem wk_at {f:Nat}(hV:WkOk es ps cs q pq cq e pe ce f){s:List Nd}{k:Nat}{ss:List (List Nd)}(hi:InE f e k ss)(hs:s∈ss)(w1:World)(hw:WArg es ps q pq cq e pe w1):
 Calls Tryz.prog 12 #[.slice ps es.length cs,reqV q pq cq,.slice pe e.length ce,.int .i64 (pos e s:Int)] w1 fun en w'=>GRet (evE es q f s) en w'∧Below w1.heap.size w1 w':=by
 obtain⟨h1,_,_,r,h2⟩:=hi s hs
 have:=hV w1 (pos e s) r hw (by unfold pos;rw[h1];exact h2)
 unfold pos at this ⊢
 rw[h1]at this
 exact this
variable (ho:EnvOk es q) (hN:N64 e) (hl:e.length≤200) {f:Nat} (hV:WkOk es ps cs q pq cq e pe ce f) (w:World) (hE0:WArg es ps q pq cq e pe w) (k:Nat) (x:Nd) (m r:List Nd) (hk:e.drop k=x::m) (hp:pastE (f+1) (x::m)=some r)
include ho hN hl hV hE0 hk hp
theorem wk_lazy (h:x.op=11∨x.op=12∨x.op=13):
 Calls Tryz.prog 12 #[.slice ps es.length cs,reqV q pq cq,.slice pe e.length ce,.int .i64 (k:Int)] w fun en w'=>GRet (evE es q (f+1) (x::m)) en w'∧Below w.heap.size w w':=by
 obtain⟨hi,hK⟩:=ss_in hk hp
 have hr0:∀s∈ssOf f x m,(∀n,evE es q f s= .error n→n≠0)∧∀a,evE es q f s= .ok a→IsV a:=by
  intro s hs
  obtain⟨h1,_,_,r,h2⟩:=hi s hs
  exact⟨fun n hn=>ev_err es q f s r n h2 hn,fun a ha=>ev_is ho f s r a h2 (by rw[←h1];exact hN.drop _) ha⟩
 rcases h with h | h | h
 · have e1:evE es q (f+1) (x::m)=lazyE false (evE es q f m) (evE es q f (bh f m)):=by
    simp only[evE]
    rw[if_neg (by omega),if_neg (by omega),if_neg (by omega),if_neg (by omega),if_pos h]
   have e2:ssOf f x m=[m,bh f m]:=by unfold ssOf;rw[if_neg (by omega),prt_two (by omega) (by omega)];rfl
   rw[e2]at hi hr0
   rw[e1]
   refine worth_lazy_11 es ps cs q pq cq e pe ce k x m w hE0 hl hk f r hp h _ (fun w1 bp op cp hw hil=>?_)
   rw[e2]at hil
   have hP:=P3.of hil rfl
   exact refLazy_and es ps cs q pq cq e pe ce bp op 3 cp _ _ _ w1 hw hP (by omega) _ _ (hr0 m (by simp)).1 (hr0 (bh f m) (by simp)).1 (hr0 m (by simp)).2 (hr0 (bh f m) (by simp)).2 (fun w2 h2=>wk_at hV hi (by simp) w2 h2) (fun w2 h2=>wk_at hV hi (by simp) w2 h2)
 · have e1:evE es q (f+1) (x::m)=lazyE true (evE es q f m) (evE es q f (bh f m)):=by
    simp only[evE]
    rw[if_neg (by omega),if_neg (by omega),if_neg (by omega),if_neg (by omega),if_neg (by omega),if_pos h]
   have e2:ssOf f x m=[m,bh f m]:=by unfold ssOf;rw[if_neg (by omega),prt_two (by omega) (by omega)];rfl
   rw[e2]at hi hr0
   rw[e1]
   refine worth_lazy_12 es ps cs q pq cq e pe ce k x m w hE0 hl hk f r hp h _ (fun w1 bp op cp hw hil=>?_)
   rw[e2]at hil
   have hP:=P3.of hil rfl
   exact refLazy_or es ps cs q pq cq e pe ce bp op 3 cp _ _ _ w1 hw hP (by omega) _ _ (hr0 m (by simp)).1 (hr0 (bh f m) (by simp)).1 (hr0 m (by simp)).2 (hr0 (bh f m) (by simp)).2 (fun w2 h2=>wk_at hV hi (by simp) w2 h2) (fun w2 h2=>wk_at hV hi (by simp) w2 h2)
 · have e1:evE es q (f+1) (x::m)=ifE (evE es q f m) (evE es q f (bh f m)) (evE es q f (bh f (bh f m))):=by
    simp only[evE]
    rw[if_neg (by omega),if_neg (by omega),if_neg (by omega),if_neg (by omega),if_neg (by omega),if_neg (by omega),if_pos h]
   have e2:ssOf f x m=[m,bh f m,bh f (bh f m)]:=by unfold ssOf;rw[if_neg (by omega),prt_three h];rfl
   rw[e2]at hi hr0
   rw[e1]
   refine worth_lazy_13 es ps cs q pq cq e pe ce k x m w hE0 hl hk f r hp h _ (fun w1 bp op cp hw hil=>?_)
   rw[e2]at hil
   have hP:=P3.of hil rfl
   exact refLazy_if es ps cs q pq cq e pe ce bp op 4 cp _ _ _ w1 hw hP (by omega) _ _ _ (hr0 m (by simp)).1 (hr0 m (by simp)).2 (fun w2 h2=>wk_at hV hi (by simp) w2 h2) (fun w2 h2=>wk_at hV hi (by simp) w2 h2) (fun w2 h2=>wk_at hV hi (by simp) w2 h2)
theorem wk_one (h:x.op=9∨x.op=10∨21≤x.op∧x.op≤24):
 Calls Tryz.prog 12 #[.slice ps es.length cs,reqV q pq cq,.slice pe e.length ce,.int .i64 (k:Int)] w fun en w'=>GRet (evE es q (f+1) (x::m)) en w'∧Below w.heap.size w w':=by
 obtain⟨hi,hK⟩:=ss_in hk hp
 obtain⟨f',y,m',ef,ey,h7,hx,_⟩:=pastE_cons hp
 cases ey
 have e1:evE es q (f+1) (x::m)=bindE (evE es q f m) (oneE es x):=by
  simp only[evE]
  rw[if_neg (by omega),if_neg (by omega),if_neg (by omega),if_neg (by omega),if_neg (by omega),if_neg (by omega),if_neg (by omega),if_pos h]
 have e2:ssOf f x m=[m]:=by unfold ssOf;rw[if_neg (by omega),prt_one h];rfl
 refine worth_one es ps cs q pq cq e pe ce k x m w hE0 hl hk f r hp (by omega) (by omega) (by omega) (by omega) (by omega) (by omega) (by omega) _ (fun n hn=>?_) (fun s hs n hn=>?_) (fun s hs w1 h1=>wk_at hV hi hs w1 h1) (by omega) (by omega) (prt_one h) (fun a ha w1 n q' c hv hel=>?_)
 · rw[e2]at hn
   rw[e1]
   simp only[okAll]at hn
   cases e3:evE es q f m with
   | error n'=>rw[e3]at hn;simp only[bindE,Except.error.injEq]at hn ⊢; exact hn
   | ok a=>rw[e3]at hn;cases hn
 · obtain⟨_,_,_,r',h2⟩:=hi s hs
   exact ev_err es q f s r' n h2 hn
 · rw[e2]at ha
   simp only[okAll]at ha
   cases e3:evE es q f m with
   | error n'=>rw[e3]at ha;cases ha
   | ok b=>
     rw[e3]at ha
     simp only[bindE,Except.ok.injEq,List.cons.injEq,and_true]at ha
     subst ha
     rw[e1,e3]
     apply refOne_any (ho:=ho) (hop:=by omega) (hx:=hx) (h:=hv) (hl:=hel)
theorem wk_two (h:14≤x.op∧x.op≤20∨25≤x.op∧x.op≤27):
 Calls Tryz.prog 12 #[.slice ps es.length cs,reqV q pq cq,.slice pe e.length ce,.int .i64 (k:Int)] w fun en w'=>GRet (evE es q (f+1) (x::m)) en w'∧Below w.heap.size w w':=by
 obtain⟨hi,hK⟩:=ss_in hk hp
 have e1:evE es q (f+1) (x::m)=bindE (evE es q f m) fun a=>bindE (evE es q f (bh f m)) fun b=>twoE es x.op a b:=by
  simp only[evE]
  rw[if_neg (by omega),if_neg (by omega),if_neg (by omega),if_neg (by omega),if_neg (by omega),if_neg (by omega),if_neg (by omega),if_neg (by omega)]
 have e2:ssOf f x m=[m,bh f m]:=by unfold ssOf;rw[if_neg (by omega),prt_two (by omega) (by omega)];rfl
 refine worth_two es ps cs q pq cq e pe ce k x m w hE0 hl hk f r hp (by omega) (by omega) (by omega) (by omega) (by omega) (by omega) (by omega) _ (fun n hn=>?_) (fun s hs n hn=>?_) (fun s hs w1 h1=>wk_at hV hi hs w1 h1) (by omega) (by omega) (prt_two (by omega) (by omega)) (fun a b ha w1 n q' c m' p d hv hv2 hel=>?_)
 · rw[e2]at hn
   rw[e1]
   simp only[okAll]at hn
   cases e3:evE es q f m with
   | error n'=>rw[e3]at hn;simp only[bindE,Except.error.injEq]at hn ⊢; exact hn
   | ok a=>
     rw[e3]at hn
     cases e4:evE es q f (bh f m)with
     | error n'=>rw[e4]at hn;simpa[bindE]using hn
     | ok b=>rw[e4]at hn;simp[bindE]at hn
 · obtain⟨_,_,_,r',h2⟩:=hi s hs
   exact ev_err es q f s r' n h2 hn
 · rw[e2]at ha
   simp only[okAll]at ha
   cases e3:evE es q f m with
   | error n'=>rw[e3]at ha;cases ha
   | ok a'=>
     rw[e3]at ha
     cases e4:evE es q f (bh f m)with
     | error n'=>rw[e4]at ha;simp[bindE]at ha
     | ok b'=>
       rw[e4]at ha
       simp only[bindE,Except.ok.injEq,List.cons.injEq,and_true]at ha
       obtain⟨rfl,rfl⟩:=ha
       rw[e1,e3,e4]
       apply refTwo_any (ho:=ho) (hop:=by omega) (h:=hv) (g:=hv2) (hl:=hel)
theorem wk_step (h56:x.op=5∨x.op=6→Calls Tryz.prog 12 #[.slice ps es.length cs,reqV q pq cq,.slice pe e.length ce,.int .i64 (k:Int)] w fun en w'=>GRet (evE es q (f+1) (x::m)) en w'∧Below w.heap.size w w'):
 Calls Tryz.prog 12 #[.slice ps es.length cs,reqV q pq cq,.slice pe e.length ce,.int .i64 (k:Int)] w fun en w'=>GRet (evE es q (f+1) (x::m)) en w'∧Below w.heap.size w w':=by
 obtain⟨f',y,m',ef,ey,h7,hx,_⟩:=pastE_cons hp
 cases ey
 obtain⟨hx1,hx2⟩:=ex_range h7 hx
 by_cases h4:x.op≤4
 · have e1:evE es q (f+1) (x::m)= .ok [x]:=by simp only[evE];rw[if_pos ⟨hx1,h4⟩]
   have hi:IsV [x]:=ev_is ho (f+1) (x::m) r [x] hp (by rw[←hk];exact hN.drop _) e1
   rw[e1]
   exact worth_atom es ps cs q pq cq e pe ce k x m w hE0 hl hk hx1 h4 hi
 · by_cases c5:x.op=5∨x.op=6
   · exact h56 c5
   · by_cases c8:x.op=8
     · have e1:evE es q (f+1) (x::m)=varE q x.s:=by
        simp only[evE]
        rw[if_neg (by omega),if_neg (by omega),if_neg (by omega),if_pos c8]
       rw[e1]
       exact worth_var es ps cs q pq cq e pe ce k x m w hE0 hl hk c8 ho
     · by_cases c11:x.op=11∨x.op=12∨x.op=13
       · exact wk_lazy ho hN hl hV w hE0 k x m r hk hp c11
       · by_cases c9:x.op=9∨x.op=10∨21≤x.op∧x.op≤24
         · exact wk_one ho hN hl hV w hE0 k x m r hk hp c9
         · exact wk_two ho hN hl hV w hE0 k x m r hk hp (by omega)
end
end Go.Proofs.YtnbkfggmpiccjaaGreatDoor
