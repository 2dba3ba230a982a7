import Derived.Test.YtlnhaajjoplafaaGreatDoorChecked
import Derived.WalkKit
import Derived.RowKit
import Derived.OwnWalk
import Derived.Below
set_option linter.unusedVariables false
set_option maxHeartbeats 12000000
namespace Go.Proofs.YtlnhaajjoplafaaGreatDoor
open Go.RowKit
theorem ret_bool {a b:Bool}(h:a=b):Ending.returned (.bool a)= .returned (.bool b):=by rw[h]
def eV (n:Int):Value:=if n=0 then .nilIface else .iface 70 (.int .i64 n)
theorem eV_zero:eV 0= .nilIface:=rfl
theorem eV_not {n:Int}(h:n≠0):eV n= .iface 70 (.int .i64 n):=if_neg h
theorem eV_nil {n:Int}(h:n=0):eV n= .nilIface:=if_pos h
theorem ret_eV {n:Int}{v:Value}(h:v=eV n):Ending.returned v= .returned (eV n):=by rw[h]
def Fit (n:Int):Prop:= -9223372036854775808≤n∧n≤9223372036854775807
instance fitDec (n:Int):Decidable (Fit n):=inferInstanceAs (Decidable (_∧_))
theorem fit_lo {n:Int}(h:Fit n): -9223372036854775808≤n:=h.1
theorem fit_hi {n:Int}(h:Fit n):n≤9223372036854775807:=h.2
theorem fit_zero:Fit 0:=⟨by omega,by omega⟩
def nx (op a b:Int):Int:=if op=17 then a+b else if op=18 then a-b else a*b
def nmf (op a b:Int):Int:=if op=17∨op=18∨op=19 then(if Fit (nx op a b)then 0 else 5)else 1
def nval (op a b:Int):Int:=if nmf op a b=0 then nx op a b else 0
theorem nx_add (a b:Int):nx 17 a b=a+b:=rfl
theorem nx_sub (a b:Int):nx 18 a b=a-b:=rfl
theorem nx_mul (a b:Int):nx 19 a b=a*b:=rfl
theorem nf_ok {op a b:Int}(h:op=17∨op=18∨op=19)(hf:Fit (nx op a b)):nmf op a b=0:=by
 unfold nmf;rw[if_pos h,if_pos hf]
theorem nf_over {op a b:Int}(h:op=17∨op=18∨op=19)(hf:¬Fit (nx op a b)):nmf op a b=5:=by
 unfold nmf;rw[if_pos h,if_neg hf]
theorem nf_syntax {op a b:Int}(h1:op≠17)(h2:op≠18)(h3:op≠19):nmf op a b=1:=by
 unfold nmf;rw[if_neg (by omega)]
theorem nv_ok {op a b:Int}(h:nmf op a b=0):nval op a b=nx op a b:=if_pos h
theorem nv_bad {op a b:Int}(h:nmf op a b≠0):nval op a b=0:=if_neg h
theorem nf_fit {op a b:Int}(h:nmf op a b=0):Fit (nx op a b):=by
 unfold nmf at h
 by_cases h1:op=17∨op=18∨op=19
 · rw[if_pos h1]at h
   by_cases h2:Fit (nx op a b)
   · exact h2
   · rw[if_neg h2]at h;omega
 · rw[if_neg h1]at h;omega
theorem nf_op {op a b:Int}(h:nmf op a b=0):op=17∨op=18∨op=19:=by
 by_cases h1:op=17∨op=18∨op=19
 · exact h1
 · unfold nmf at h;rw[if_neg h1]at h;omega
theorem nv_fit (op a b:Int):Fit (nval op a b):=by
 by_cases h:nmf op a b=0
 · rw[nv_ok h];exact nf_fit h
 · rw[nv_bad h];exact fit_zero
theorem nf_bad5 {op a b:Int}(h:op=17∨op=18∨op=19)(hf:nmf op a b≠0):nmf op a b=5:=by
 by_cases h2:Fit (nx op a b)
 · exact absurd (nf_ok h h2) hf
 · exact nf_over h h2
theorem nf_comm {op a b:Int}(h:op=17∨op=19):nmf op b a=nmf op a b:=by
 have hx:nx op b a=nx op a b:=by
  rcases h with rfl | rfl
  · rw[nx_add,nx_add];omega
  · rw[nx_mul,nx_mul];exact Int.mul_comm _ _
 unfold nmf;rw[hx]
theorem nv_comm {op a b:Int}(h:op=17∨op=19):nval op b a=nval op a b:=by
 have hx:nx op b a=nx op a b:=by
  rcases h with rfl | rfl
  · rw[nx_add,nx_add];omega
  · rw[nx_mul,nx_mul];exact Int.mul_comm _ _
 unfold nval;rw[nf_comm h,hx]
theorem nf_away {a b:Int}(ha:Fit a):nmf 18 (a+b) b=0:=by
 refine nf_ok (by omega) ?_
 rw[nx_sub,show a+b-b=a by omega];exact ha
theorem nv_away {a b:Int}(ha:Fit a):nval 18 (a+b) b=a:=by
 rw[nv_ok (nf_away ha),nx_sub];omega
theorem nf_neg {a:Int}(ha:Fit a):nmf 18 0 (-a)=0:=by
 refine nf_ok (by omega) ?_
 rw[nx_sub,show 0- -a=a by omega];exact ha
theorem nv_neg {a:Int}(ha:Fit a):nval 18 0 (-a)=a:=by
 rw[nv_ok (nf_neg ha),nx_sub];omega
theorem nx_dist (a b c:Int):nx 19 a (b+c)=nx 17 (a*b) (a*c):=by
 rw[nx_mul,nx_add,Int.mul_add]
theorem nf_dist (a b c:Int):nmf 19 a (b+c)=nmf 17 (a*b) (a*c):=by
 have h:=nx_dist a b c
 by_cases hf:Fit (nx 17 (a*b) (a*c))
 · rw[nf_ok (by omega) hf,nf_ok (by omega) (by rw[h];exact hf)]
 · rw[nf_over (by omega) hf,nf_over (by omega) (by rw[h];exact hf)]
theorem nv_dist (a b c:Int):nval 19 a (b+c)=nval 17 (a*b) (a*c):=by
 unfold nval;rw[nf_dist,nx_dist]
theorem wrap_add {a b:Int}(ha:Fit a)(hb:Fit b)(h:¬Fit (a+b)):(0≤b∧wrap64 (a+b)<a)∨(b<0∧a<wrap64 (a+b)):=by
 unfold Fit at *; unfold wrap64;omega
theorem wrap_sub {a b:Int}(ha:Fit a)(hb:Fit b)(h:¬Fit (a-b)):(0≤b∧a<wrap64 (a-b))∨(b<0∧wrap64 (a-b)<a):=by
 unfold Fit at *; unfold wrap64;omega
theorem wrap_fit (n:Int):Fit (wrap64 n):=by unfold Fit wrap64;omega
theorem wrap_in {n:Int}(h:Fit n):wrap64 n=n:=by unfold Fit at h;unfold wrap64;omega
theorem wrap_far {n:Int}(h:¬Fit n):wrap64 n≤n-18446744073709551616∨n+18446744073709551616≤wrap64 n:=by
 unfold Fit at h;unfold wrap64;omega
theorem wrap_quo {a b:Int}(ha:Fit a)(h:¬Fit (a*b)):(wrap64 (a*b)).tdiv a≠b:=by
 intro e
 have h1:=Int.tmod_add_mul_tdiv (wrap64 (a*b)) a
 rw[e]at h1
 have h2:=wrap_far h
 generalize wrap64 (a*b)=p at *
 have h3:(p.tmod a).natAbs≤a.natAbs:=by
  by_cases h0:a=0
  · subst h0;exfalso;apply h;rw[Int.zero_mul];exact fit_zero
  · have:=Int.natAbs_tmod p a
    rw[this]
    exact Nat.le_of_lt (Nat.mod_lt _ (by omega))
 generalize a*b=m at *
 unfold Fit at ha
 omega
theorem quo_fit {p a:Int}(hp:Fit p)(h0:a≠0)(h1:a≠ -1):Fit (p.tdiv a):=by
 by_cases h2:a=1
 · subst h2;rw[Int.tdiv_one];exact hp
 · have e:=Int.natAbs_tdiv p a
   have l:p.natAbs / a.natAbs≤p.natAbs / 2:=Nat.div_le_div_left (by omega) (by omega)
   unfold Fit at *
   have l2:(p.tdiv a).natAbs≤p.natAbs / 2:=by rw[e];exact l
   omega
theorem wrap_quo2 {a b:Int}(ha:Fit a)(h:¬Fit (a*b))(h0:a≠0)(h1:a≠ -1):wrap64 ((wrap64 (a*b)).tdiv a)≠b:=by
 have f:=quo_fit (wrap_fit (a*b)) h0 h1
 rw[wrap_in f]
 exact wrap_quo ha h
theorem quo_back {a b:Int}(h:a≠0):(a*b).tdiv a=b:=Int.mul_tdiv_cancel_left _ h
theorem rem_back (a b:Int):(a*b).tmod a=0:=Int.mul_tmod_right _ _
theorem add_good (a b:Int)(w:World)(ha:Fit a)(hb:Fit b)(h:Fit (a+b)):
 Calls Tryz.prog 145 #[.int .i64 a,.int .i64 b] w fun e w'=>e= .returned (.tuple #[.int .i64 (a+b),.nilIface])∧w'=w:=by
 obtain⟨a1,a2⟩:=ha;obtain⟨b1,b2⟩:=hb;obtain⟨h1,h2⟩:=h
 by_cases hn:b<0
 · have k1:a+b<a:=by omega
   go_enter Tryz.func145,Tryz.ntmps145
   go_wp2
   go_ret2
   exact⟨rfl,rfl⟩
 · have k1:¬a+b<a:=by omega
   go_enter Tryz.func145,Tryz.ntmps145
   go_wp2
   go_ret2
   exact⟨rfl,rfl⟩
theorem add_over (a b:Int)(w:World)(ha:Fit a)(hb:Fit b)(h:¬Fit (a+b)):
 Calls Tryz.prog 145 #[.int .i64 a,.int .i64 b] w fun e w'=>e= .returned (.tuple #[.int .i64 0,.iface 70 (.int .i64 5)])∧w'=w:=by
 rcases wrap_add ha hb h with⟨hn,k1⟩ | ⟨hn,k1⟩
 · have hn':¬b<0:=by omega
   clear ha hb h hn
   go_enter Tryz.func145,Tryz.ntmps145
   go_wp2
   go_ret2
   exact⟨rfl,rfl⟩
 · have k2:¬wrap64 (a+b)<a:=by omega
   clear ha hb h k1
   go_enter Tryz.func145,Tryz.ntmps145
   go_wp2
   go_ret2
   exact⟨rfl,rfl⟩
theorem sub_good (a b:Int)(w:World)(ha:Fit a)(hb:Fit b)(h:Fit (a-b)):
 Calls Tryz.prog 125 #[.int .i64 a,.int .i64 b] w fun e w'=>e= .returned (.tuple #[.int .i64 (a-b),.nilIface])∧w'=w:=by
 obtain⟨a1,a2⟩:=ha;obtain⟨b1,b2⟩:=hb;obtain⟨h1,h2⟩:=h
 by_cases hn:b<0
 · have k1:a<a-b:=by omega
   go_enter Tryz.func125,Tryz.ntmps125
   go_wp2
   go_ret2
   exact⟨rfl,rfl⟩
 · have k1:¬a<a-b:=by omega
   go_enter Tryz.func125,Tryz.ntmps125
   go_wp2
   go_ret2
   exact⟨rfl,rfl⟩
theorem sub_over (a b:Int)(w:World)(ha:Fit a)(hb:Fit b)(h:¬Fit (a-b)):
 Calls Tryz.prog 125 #[.int .i64 a,.int .i64 b] w fun e w'=>e= .returned (.tuple #[.int .i64 0,.iface 70 (.int .i64 5)])∧w'=w:=by
 rcases wrap_sub ha hb h with⟨hn,k1⟩ | ⟨hn,k1⟩
 · have hn':¬b<0:=by omega
   clear ha hb h hn
   go_enter Tryz.func125,Tryz.ntmps125
   go_wp2
   go_ret2
   exact⟨rfl,rfl⟩
 · have k2:¬a<wrap64 (a-b):=by omega
   clear ha hb h k1
   go_enter Tryz.func125,Tryz.ntmps125
   go_wp2
   go_ret2
   exact⟨rfl,rfl⟩
theorem neg_good (a:Int)(w:World)(ha:Fit a)(h:Fit (-a)):
 Calls Tryz.prog 91 #[.int .i64 a] w fun e w'=>e= .returned (.tuple #[.int .i64 (-a),.nilIface])∧w'=w:=by
 go_enter Tryz.func91,Tryz.ntmps91
 go_wp2_with fail
 refine(sub_good 0 a _ fit_zero ha (by rw[Int.zero_sub];exact h)).mono ?_
 rintro e w' ⟨rfl,rfl⟩
 go_wp2_with fail
 go_ret2
 exact⟨rfl,rfl⟩
theorem neg_over (a:Int)(w:World)(ha:Fit a)(h:¬Fit (-a)):
 Calls Tryz.prog 91 #[.int .i64 a] w fun e w'=>e= .returned (.tuple #[.int .i64 0,.iface 70 (.int .i64 5)])∧w'=w:=by
 go_enter Tryz.func91,Tryz.ntmps91
 go_wp2_with fail
 refine(sub_over 0 a _ fit_zero ha (by rw[Int.zero_sub];exact h)).mono ?_
 rintro e w' ⟨rfl,rfl⟩
 go_wp2_with fail
 go_ret2
 exact⟨rfl,rfl⟩
theorem mul_zero (b:Int)(w:World):
 Calls Tryz.prog 146 #[.int .i64 0,.int .i64 b] w fun e w'=>e= .returned (.tuple #[.int .i64 0,.nilIface])∧w'=w:=by
 go_enter Tryz.func146,Tryz.ntmps146
 go_wp2
 go_ret2
 exact⟨rfl,rfl⟩
theorem mul_less_good (b:Int)(w:World)(hb:Fit b)(h:Fit (-b)):
 Calls Tryz.prog 146 #[.int .i64 (-1),.int .i64 b] w fun e w'=>e= .returned (.tuple #[.int .i64 (-b),.nilIface])∧w'=w:=by
 go_enter Tryz.func146,Tryz.ntmps146
 go_wp2_with fail
 refine(neg_good b _ hb h).mono ?_
 rintro e w' ⟨rfl,rfl⟩
 go_wp2_with fail
 go_ret2
 exact⟨rfl,rfl⟩
theorem mul_less_over (b:Int)(w:World)(hb:Fit b)(h:¬Fit (-b)):
 Calls Tryz.prog 146 #[.int .i64 (-1),.int .i64 b] w fun e w'=>e= .returned (.tuple #[.int .i64 0,.iface 70 (.int .i64 5)])∧w'=w:=by
 go_enter Tryz.func146,Tryz.ntmps146
 go_wp2_with fail
 refine(neg_over b _ hb h).mono ?_
 rintro e w' ⟨rfl,rfl⟩
 go_wp2_with fail
 go_ret2
 exact⟨rfl,rfl⟩
theorem mul_good (a b:Int)(w:World)(ha:Fit a)(hb:Fit b)(h:Fit (a*b))(h0:a≠0)(h1:a≠ -1):
 Calls Tryz.prog 146 #[.int .i64 a,.int .i64 b] w fun e w'=>e= .returned (.tuple #[.int .i64 (a*b),.nilIface])∧w'=w:=by
 obtain⟨a1,a2⟩:=ha;obtain⟨b1,b2⟩:=hb;obtain⟨k1,k2⟩:=h
 go_enter Tryz.func146,Tryz.ntmps146
 go_wp2
 go_ret2
 exact⟨rfl,rfl⟩
theorem mul_over (a b:Int)(w:World)(ha:Fit a)(hb:Fit b)(h:¬Fit (a*b))(h0:a≠0)(h1:a≠ -1):
 Calls Tryz.prog 146 #[.int .i64 a,.int .i64 b] w fun e w'=>e= .returned (.tuple #[.int .i64 0,.iface 70 (.int .i64 5)])∧w'=w:=by
 have k:wrap64 ((wrap64 (a*b)).tdiv a)≠b:=wrap_quo2 ha h h0 h1
 clear ha hb h
 go_enter Tryz.func146,Tryz.ntmps146
 go_wp2
 go_ret2
 exact⟨rfl,rfl⟩
theorem mul_fits (a b:Int)(w:World)(ha:Fit a)(hb:Fit b)(h:Fit (a*b)):
 Calls Tryz.prog 146 #[.int .i64 a,.int .i64 b] w fun e w'=>e= .returned (.tuple #[.int .i64 (a*b),.nilIface])∧w'=w:=by
 by_cases h0:a=0
 · subst h0;rw[Int.zero_mul];exact mul_zero b w
 by_cases h1:a= -1
 · subst h1;rw[Int.neg_one_mul]at h ⊢; exact mul_less_good b w hb h
 · exact mul_good a b w ha hb h h0 h1
theorem mul_runs (a b:Int)(w:World)(ha:Fit a)(hb:Fit b)(h:¬Fit (a*b)):
 Calls Tryz.prog 146 #[.int .i64 a,.int .i64 b] w fun e w'=>e= .returned (.tuple #[.int .i64 0,.iface 70 (.int .i64 5)])∧w'=w:=by
 by_cases h0:a=0
 · subst h0;rw[Int.zero_mul]at h;exact absurd fit_zero h
 by_cases h1:a= -1
 · subst h1;rw[Int.neg_one_mul]at h;exact mul_less_over b w hb h
 · exact mul_over a b w ha hb h h0 h1
theorem do_good (op a b:Int)(w:World)(ha:Fit a)(hb:Fit b)(h:nmf op a b=0):
 Calls Tryz.prog 106 #[.int .i64 op,.int .i64 a,.int .i64 b] w fun e w'=>e= .returned (.tuple #[.int .i64 (nval op a b),.nilIface])∧w'=w:=by
 have HV:Hid (nval op a b=nx op a b):=nv_ok h
 have hf:=nf_fit h
 have ho:=nf_op h
 have HF:Hid (Fit (nx op a b)):=hf
 clear hf h
 have HA:Hid (Fit a):=ha
 have HB:Hid (Fit b):=hb
 clear ha hb
 rw[HV.out]
 clear HV
 rcases ho with rfl | rfl | rfl
 · rw[nx_add]at HF ⊢
   go_enter Tryz.func106,Tryz.ntmps106
   go_wp2_with fail
   refine(add_good a b _ HA.out HB.out HF.out).mono ?_
   rintro e w' ⟨rfl,rfl⟩
   go_wp2_with fail
   go_ret2
   exact⟨rfl,rfl⟩
 · rw[nx_sub]at HF ⊢
   go_enter Tryz.func106,Tryz.ntmps106
   go_wp2_with fail
   refine(sub_good a b _ HA.out HB.out HF.out).mono ?_
   rintro e w' ⟨rfl,rfl⟩
   go_wp2_with fail
   go_ret2
   exact⟨rfl,rfl⟩
 · rw[nx_mul]at HF ⊢
   have HM:=mul_fits a b w HA.out HB.out HF.out
   generalize a*b=x at HM ⊢
   go_enter Tryz.func106,Tryz.ntmps106
   go_wp2_with fail
   refine HM.mono ?_
   rintro e w' ⟨rfl,rfl⟩
   go_wp2_with fail
   go_ret2
   exact⟨rfl,rfl⟩
theorem do_bad (op a b:Int)(w:World)(ha:Fit a)(hb:Fit b)(h:nmf op a b≠0):
 Calls Tryz.prog 106 #[.int .i64 op,.int .i64 a,.int .i64 b] w fun e w'=>e= .returned (.tuple #[.int .i64 0,.iface 70 (.int .i64 (nmf op a b))])∧w'=w:=by
 have HA:Hid (Fit a):=ha
 have HB:Hid (Fit b):=hb
 clear ha hb
 by_cases h17:op=17
 · subst h17
   rw[nf_bad5 (by omega) h]
   have HF:Hid (¬Fit (a+b)):=fun hf=>h (nf_ok (by omega) hf)
   clear h
   go_enter Tryz.func106,Tryz.ntmps106
   go_wp2_with fail
   refine(add_over a b _ HA.out HB.out HF.out).mono ?_
   rintro e w' ⟨rfl,rfl⟩
   go_wp2_with fail
   go_ret2
   exact⟨rfl,rfl⟩
 by_cases h18:op=18
 · subst h18
   rw[nf_bad5 (by omega) h]
   have HF:Hid (¬Fit (a-b)):=fun hf=>h (nf_ok (by omega) hf)
   clear h
   go_enter Tryz.func106,Tryz.ntmps106
   go_wp2_with fail
   refine(sub_over a b _ HA.out HB.out HF.out).mono ?_
   rintro e w' ⟨rfl,rfl⟩
   go_wp2_with fail
   go_ret2
   exact⟨rfl,rfl⟩
 by_cases h19:op=19
 · subst h19
   rw[nf_bad5 (by omega) h]
   have HM:=mul_runs a b w HA.out HB.out (fun hf=>h (nf_ok (by omega) hf))
   clear h
   go_enter Tryz.func106,Tryz.ntmps106
   go_wp2_with fail
   refine HM.mono ?_
   rintro e w' ⟨rfl,rfl⟩
   go_wp2_with fail
   go_ret2
   exact⟨rfl,rfl⟩
 · rw[nf_syntax h17 h18 h19]
   clear h
   go_enter Tryz.func106,Tryz.ntmps106
   go_wp2
   go_ret2
   exact⟨rfl,rfl⟩
theorem Tryz.infoBool:(Tryz.prog.info? 4).map (fun i=>(i.zero,i.size,i.bytes))=some (some (.bool false),1,1):=by kernel_rfl
def RB (w:World)(g n:Nat)(f:Nat→Bool):Prop:=
 ∃cur:Array Value,w.heap[g]? =some (.cells cur 4 (0,0))∧cur.size=n∧∀j,j<n→cur[j]? =some (.bool (f j))
theorem RB.lt {w:World}{g n:Nat}{f:Nat→Bool}(h:RB w g n f):g<w.heap.size:=by
 obtain⟨cur,h1,_⟩:=h
 exact(Array.getElem?_eq_some_iff.1 h1).1
theorem RB.at {w:World}{g n:Nat}{f:Nat→Bool}(h:RB w g n f){j:Nat}(hj:j<n):w.cell? ⟨g,j,none⟩=some (.bool (f j)):=by
 obtain⟨cur,h1,_,h3⟩:=h
 simp[World.cell?, h1,h3 j hj]
theorem RB.free {w:World}{g n:Nat}{f:Nat→Bool}(h:RB w g n f)(j:Nat):w.frozen? ⟨g,j,none⟩=false:=by
 obtain⟨cur,h1,_⟩:=h
 simp[World.frozen?, h1]
theorem RB.congr {w:World}{g n:Nat}{f f':Nat→Bool}(h:RB w g n f)(e:∀j,j<n→f j=f' j):RB w g n f':=by
 obtain⟨cur,h1,h2,h3⟩:=h
 exact⟨cur,h1,h2,fun j hj=>by rw[←e j hj];exact h3 j hj⟩
theorem RB.up {w w':World}{B g n:Nat}{f:Nat→Bool}(h:RB w g n f)(k:Below B w w')(hg:g<B):RB w' g n f:=by
 obtain⟨cur,h1,h2⟩:=h
 exact⟨cur,(k.block g hg).trans h1,h2⟩
theorem RB.set {w:World}{g n:Nat}{f:Nat→Bool}(h:RB w g n f)(j:Nat)(b:Bool):RB (w.setCell ⟨g,j,none⟩ (.bool b)) g n (fun k=>if k=j then b else f k):=by
 obtain⟨cur,h1,h2,h3⟩:=h
 refine⟨cur.setIfInBounds j (.bool b),?_,by simpa using h2,fun k hk=>?_⟩
 · simp only[World.setCell,Array.getElem?_modify,h1,if_true,Option.map_some]
   rfl
 · by_cases e:k=j
   · subst e
     show _=some (Value.bool (if k=k then b else f k))
     rw[if_pos rfl,Array.getElem?_setIfInBounds_self_of_lt (by omega)]
   · show _=some (Value.bool (if k=j then b else f k))
     rw[if_neg e,Array.getElem?_setIfInBounds_ne (by omega)];exact h3 k hk
theorem RB.made {w:World}{base g n:Nat}(h:w.ownsRow base 4 1 (.slice (some ⟨g,0,none⟩) n n) n (madeCells (Value.bool false).cells (n*1)).toList):RB w g n (fun _=>false):=by
 rcases h.2 with⟨e,_⟩ | ⟨g',cap,cur,e,_,hgg,_,_,hsz,htk⟩
 · cases e
 · cases e
   refine⟨cur,hgg,by omega,fun j hj=>?_⟩
   have h1:(madeCells (Value.bool false).cells (n*1)).toList[j]? =some (.bool false):=by
    simp[madeCells,Value.cells,hj,Nat.mod_one]
   rw[←htk,List.getElem?_take_of_lt (by omega)]at h1
   simpa using h1
end Go.Proofs.YtlnhaajjoplafaaGreatDoor
