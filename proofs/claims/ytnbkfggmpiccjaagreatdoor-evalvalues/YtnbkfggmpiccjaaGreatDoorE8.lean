import Derived.RowKit
set_option linter.unusedVariables false
set_option maxHeartbeats 12000000
namespace Go.Proofs.YtnbkfggmpiccjaaGreatDoor
open Go.RowKit
def Fit (n:Int):Prop:= -9223372036854775808≤n∧n≤9223372036854775807
instance fitDec (n:Int):Decidable (Fit n):=inferInstanceAs (Decidable (_∧_))
theorem fit_zero:Fit 0:=⟨by omega,by omega⟩
def nx (op a b:Int):Int:=if op=17 then a+b else if op=18 then a-b else a*b
def nmf (op a b:Int):Int:=if op=17∨op=18∨op=19 then(if Fit (nx op a b)then 0 else 5)else 1
def nval (op a b:Int):Int:=if nmf op a b=0 then nx op a b else 0
theorem nx_add (a b:Int):nx 17 a b=a+b:=rfl
theorem nx_sub (a b:Int):nx 18 a b=a-b:=rfl
theorem nx_mul (a b:Int):nx 19 a b=a*b:=rfl
theorem nf_ok {op a b:Int}(h:op=17∨op=18∨op=19)(hf:Fit (nx op a b)):nmf op a b=0:=by
 unfold nmf;rw[if_pos h,if_pos hf]
theorem nf_over {op a b:Int}(h:op=17∨op=18∨op=19)(hf:¬Fit (nx op a b)):nmf op a b=5:=by
 unfold nmf;rw[if_pos h,if_neg hf]
theorem nf_syntax {op a b:Int}(h1:op≠17)(h2:op≠18)(h3:op≠19):nmf op a b=1:=by
 unfold nmf;rw[if_neg (by omega)]
theorem nv_ok {op a b:Int}(h:nmf op a b=0):nval op a b=nx op a b:=if_pos h
theorem nv_bad {op a b:Int}(h:nmf op a b≠0):nval op a b=0:=if_neg h
theorem nf_fit {op a b:Int}(h:nmf op a b=0):Fit (nx op a b):=by
 unfold nmf at h
 by_cases h1:op=17∨op=18∨op=19
 · rw[if_pos h1]at h
   by_cases h2:Fit (nx op a b)
   · exact h2
   · rw[if_neg h2]at h;omega
 · rw[if_neg h1]at h;omega
theorem nf_op {op a b:Int}(h:nmf op a b=0):op=17∨op=18∨op=19:=by
 by_cases h1:op=17∨op=18∨op=19
 · exact h1
 · unfold nmf at h;rw[if_neg h1]at h;omega
theorem nv_fit (op a b:Int):Fit (nval op a b):=by
 by_cases h:nmf op a b=0
 · rw[nv_ok h];exact nf_fit h
 · rw[nv_bad h];exact fit_zero
theorem nf_bad5 {op a b:Int}(h:op=17∨op=18∨op=19)(hf:nmf op a b≠0):nmf op a b=5:=by
 by_cases h2:Fit (nx op a b)
 · exact absurd (nf_ok h h2) hf
 · exact nf_over h h2
theorem wrap_add {a b:Int}(ha:Fit a)(hb:Fit b)(h:¬Fit (a+b)):(0≤b∧wrap64 (a+b)<a)∨(b<0∧a<wrap64 (a+b)):=by
 unfold Fit at *; unfold wrap64;omega
theorem wrap_sub {a b:Int}(ha:Fit a)(hb:Fit b)(h:¬Fit (a-b)):(0≤b∧a<wrap64 (a-b))∨(b<0∧wrap64 (a-b)<a):=by
 unfold Fit at *; unfold wrap64;omega
theorem wrap_fit (n:Int):Fit (wrap64 n):=by unfold Fit wrap64;omega
theorem wrap_in {n:Int}(h:Fit n):wrap64 n=n:=by unfold Fit at h;unfold wrap64;omega
theorem wrap_far {n:Int}(h:¬Fit n):wrap64 n≤n-18446744073709551616∨n+18446744073709551616≤wrap64 n:=by
 unfold Fit at h;unfold wrap64;omega
theorem wrap_quo {a b:Int}(ha:Fit a)(h:¬Fit (a*b)):(wrap64 (a*b)).tdiv a≠b:=by
 intro e
 have h1:=Int.tmod_add_mul_tdiv (wrap64 (a*b)) a
 rw[e]at h1
 have h2:=wrap_far h
 generalize wrap64 (a*b)=p at *
 have h3:(p.tmod a).natAbs≤a.natAbs:=by
  by_cases h0:a=0
  · subst h0;exfalso;apply h;rw[Int.zero_mul];exact fit_zero
  · have:=Int.natAbs_tmod p a
    rw[this]
    exact Nat.le_of_lt (Nat.mod_lt _ (by omega))
 generalize a*b=m at *
 unfold Fit at ha
 omega
theorem quo_fit {p a:Int}(hp:Fit p)(h0:a≠0)(h1:a≠ -1):Fit (p.tdiv a):=by
 by_cases h2:a=1
 · subst h2;rw[Int.tdiv_one];exact hp
 · have e:=Int.natAbs_tdiv p a
   have l:p.natAbs / a.natAbs≤p.natAbs / 2:=Nat.div_le_div_left (by omega) (by omega)
   unfold Fit at *
   have l2:(p.tdiv a).natAbs≤p.natAbs / 2:=by rw[e];exact l
   omega
theorem wrap_quo2 {a b:Int}(ha:Fit a)(h:¬Fit (a*b))(h0:a≠0)(h1:a≠ -1):wrap64 ((wrap64 (a*b)).tdiv a)≠b:=by
 have f:=quo_fit (wrap_fit (a*b)) h0 h1
 rw[wrap_in f]
 exact wrap_quo ha h
end Go.Proofs.YtnbkfggmpiccjaaGreatDoor
