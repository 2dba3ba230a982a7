import Derived.Test.YtnbkfggmpiccjaaGreatDoorChecked
import Derived.WalkKit
import Derived.Test.YtnbkfggmpiccjaaGreatDoorE8
import Derived.OwnWalk
import Derived.Below
set_option linter.unusedVariables false
set_option maxHeartbeats 12000000
namespace Go.Proofs.YtnbkfggmpiccjaaGreatDoor
open Go.RowKit
theorem ret_bool {a b:Bool}(h:a=b):Ending.returned (.bool a)= .returned (.bool b):=by rw[h]
def eV (n:Int):Value:=if n=0 then .nilIface else .iface 28 (.int .i64 n)
theorem eV_zero:eV 0= .nilIface:=rfl
theorem eV_not {n:Int}(h:n≠0):eV n= .iface 28 (.int .i64 n):=if_neg h
theorem eV_nil {n:Int}(h:n=0):eV n= .nilIface:=if_pos h
theorem add_good (a b:Int)(w:World)(ha:Fit a)(hb:Fit b)(h:Fit (a+b)):
 Calls Tryz.prog 170 #[.int .i64 a,.int .i64 b] w fun e w'=>e= .returned (.tuple #[.int .i64 (a+b),.nilIface])∧w'=w:=by
 obtain⟨a1,a2⟩:=ha;obtain⟨b1,b2⟩:=hb;obtain⟨h1,h2⟩:=h
 by_cases hn:b<0
 · have k1:a+b<a:=by omega
   go_enter Tryz.func170,Tryz.ntmps170
   go_wp2
   go_ret2
   exact⟨rfl,rfl⟩
 · have k1:¬a+b<a:=by omega
   go_enter Tryz.func170,Tryz.ntmps170
   go_wp2
   go_ret2
   exact⟨rfl,rfl⟩
theorem add_over (a b:Int)(w:World)(ha:Fit a)(hb:Fit b)(h:¬Fit (a+b)):
 Calls Tryz.prog 170 #[.int .i64 a,.int .i64 b] w fun e w'=>e= .returned (.tuple #[.int .i64 0,.iface 28 (.int .i64 5)])∧w'=w:=by
 rcases wrap_add ha hb h with⟨hn,k1⟩ | ⟨hn,k1⟩
 · have hn':¬b<0:=by omega
   clear ha hb h hn
   go_enter Tryz.func170,Tryz.ntmps170
   go_wp2
   go_ret2
   exact⟨rfl,rfl⟩
 · have k2:¬wrap64 (a+b)<a:=by omega
   clear ha hb h k1
   go_enter Tryz.func170,Tryz.ntmps170
   go_wp2
   go_ret2
   exact⟨rfl,rfl⟩
theorem sub_good (a b:Int)(w:World)(ha:Fit a)(hb:Fit b)(h:Fit (a-b)):
 Calls Tryz.prog 150 #[.int .i64 a,.int .i64 b] w fun e w'=>e= .returned (.tuple #[.int .i64 (a-b),.nilIface])∧w'=w:=by
 obtain⟨a1,a2⟩:=ha;obtain⟨b1,b2⟩:=hb;obtain⟨h1,h2⟩:=h
 by_cases hn:b<0
 · have k1:a<a-b:=by omega
   go_enter Tryz.func150,Tryz.ntmps150
   go_wp2
   go_ret2
   exact⟨rfl,rfl⟩
 · have k1:¬a<a-b:=by omega
   go_enter Tryz.func150,Tryz.ntmps150
   go_wp2
   go_ret2
   exact⟨rfl,rfl⟩
theorem sub_over (a b:Int)(w:World)(ha:Fit a)(hb:Fit b)(h:¬Fit (a-b)):
 Calls Tryz.prog 150 #[.int .i64 a,.int .i64 b] w fun e w'=>e= .returned (.tuple #[.int .i64 0,.iface 28 (.int .i64 5)])∧w'=w:=by
 rcases wrap_sub ha hb h with⟨hn,k1⟩ | ⟨hn,k1⟩
 · have hn':¬b<0:=by omega
   clear ha hb h hn
   go_enter Tryz.func150,Tryz.ntmps150
   go_wp2
   go_ret2
   exact⟨rfl,rfl⟩
 · have k2:¬a<wrap64 (a-b):=by omega
   clear ha hb h k1
   go_enter Tryz.func150,Tryz.ntmps150
   go_wp2
   go_ret2
   exact⟨rfl,rfl⟩
theorem neg_good (a:Int)(w:World)(ha:Fit a)(h:Fit (-a)):
 Calls Tryz.prog 114 #[.int .i64 a] w fun e w'=>e= .returned (.tuple #[.int .i64 (-a),.nilIface])∧w'=w:=by
 go_enter Tryz.func114,Tryz.ntmps114
 go_wp2_with fail
 refine(sub_good 0 a _ fit_zero ha (by rw[Int.zero_sub];exact h)).mono ?_
 rintro e w' ⟨rfl,rfl⟩
 go_wp2_with fail
 go_ret2
 exact⟨rfl,rfl⟩
theorem neg_over (a:Int)(w:World)(ha:Fit a)(h:¬Fit (-a)):
 Calls Tryz.prog 114 #[.int .i64 a] w fun e w'=>e= .returned (.tuple #[.int .i64 0,.iface 28 (.int .i64 5)])∧w'=w:=by
 go_enter Tryz.func114,Tryz.ntmps114
 go_wp2_with fail
 refine(sub_over 0 a _ fit_zero ha (by rw[Int.zero_sub];exact h)).mono ?_
 rintro e w' ⟨rfl,rfl⟩
 go_wp2_with fail
 go_ret2
 exact⟨rfl,rfl⟩
theorem mul_zero (b:Int)(w:World):
 Calls Tryz.prog 171 #[.int .i64 0,.int .i64 b] w fun e w'=>e= .returned (.tuple #[.int .i64 0,.nilIface])∧w'=w:=by
 go_enter Tryz.func171,Tryz.ntmps171
 go_wp2
 go_ret2
 exact⟨rfl,rfl⟩
theorem mul_less_good (b:Int)(w:World)(hb:Fit b)(h:Fit (-b)):
 Calls Tryz.prog 171 #[.int .i64 (-1),.int .i64 b] w fun e w'=>e= .returned (.tuple #[.int .i64 (-b),.nilIface])∧w'=w:=by
 go_enter Tryz.func171,Tryz.ntmps171
 go_wp2_with fail
 refine(neg_good b _ hb h).mono ?_
 rintro e w' ⟨rfl,rfl⟩
 go_wp2_with fail
 go_ret2
 exact⟨rfl,rfl⟩
theorem mul_less_over (b:Int)(w:World)(hb:Fit b)(h:¬Fit (-b)):
 Calls Tryz.prog 171 #[.int .i64 (-1),.int .i64 b] w fun e w'=>e= .returned (.tuple #[.int .i64 0,.iface 28 (.int .i64 5)])∧w'=w:=by
 go_enter Tryz.func171,Tryz.ntmps171
 go_wp2_with fail
 refine(neg_over b _ hb h).mono ?_
 rintro e w' ⟨rfl,rfl⟩
 go_wp2_with fail
 go_ret2
 exact⟨rfl,rfl⟩
theorem mul_good (a b:Int)(w:World)(ha:Fit a)(hb:Fit b)(h:Fit (a*b))(h0:a≠0)(h1:a≠ -1):
 Calls Tryz.prog 171 #[.int .i64 a,.int .i64 b] w fun e w'=>e= .returned (.tuple #[.int .i64 (a*b),.nilIface])∧w'=w:=by
 obtain⟨a1,a2⟩:=ha;obtain⟨b1,b2⟩:=hb;obtain⟨k1,k2⟩:=h
 go_enter Tryz.func171,Tryz.ntmps171
 go_wp2
 go_ret2
 exact⟨rfl,rfl⟩
theorem mul_over (a b:Int)(w:World)(ha:Fit a)(hb:Fit b)(h:¬Fit (a*b))(h0:a≠0)(h1:a≠ -1):
 Calls Tryz.prog 171 #[.int .i64 a,.int .i64 b] w fun e w'=>e= .returned (.tuple #[.int .i64 0,.iface 28 (.int .i64 5)])∧w'=w:=by
 have k:wrap64 ((wrap64 (a*b)).tdiv a)≠b:=wrap_quo2 ha h h0 h1
 clear ha hb h
 go_enter Tryz.func171,Tryz.ntmps171
 go_wp2
 go_ret2
 exact⟨rfl,rfl⟩
theorem mul_fits (a b:Int)(w:World)(ha:Fit a)(hb:Fit b)(h:Fit (a*b)):
 Calls Tryz.prog 171 #[.int .i64 a,.int .i64 b] w fun e w'=>e= .returned (.tuple #[.int .i64 (a*b),.nilIface])∧w'=w:=by
 by_cases h0:a=0
 · subst h0;rw[Int.zero_mul];exact mul_zero b w
 by_cases h1:a= -1
 · subst h1;rw[Int.neg_one_mul]at h ⊢; exact mul_less_good b w hb h
 · exact mul_good a b w ha hb h h0 h1
theorem mul_runs (a b:Int)(w:World)(ha:Fit a)(hb:Fit b)(h:¬Fit (a*b)):
 Calls Tryz.prog 171 #[.int .i64 a,.int .i64 b] w fun e w'=>e= .returned (.tuple #[.int .i64 0,.iface 28 (.int .i64 5)])∧w'=w:=by
 by_cases h0:a=0
 · subst h0;rw[Int.zero_mul]at h;exact absurd fit_zero h
 by_cases h1:a= -1
 · subst h1;rw[Int.neg_one_mul]at h;exact mul_less_over b w hb h
 · exact mul_over a b w ha hb h h0 h1
theorem do_good (op a b:Int)(w:World)(ha:Fit a)(hb:Fit b)(h:nmf op a b=0):
 Calls Tryz.prog 129 #[.int .i64 op,.int .i64 a,.int .i64 b] w fun e w'=>e= .returned (.tuple #[.int .i64 (nval op a b),.nilIface])∧w'=w:=by
 have HV:Hid (nval op a b=nx op a b):=nv_ok h
 have hf:=nf_fit h
 have ho:=nf_op h
 have HF:Hid (Fit (nx op a b)):=hf
 clear hf h
 have HA:Hid (Fit a):=ha
 have HB:Hid (Fit b):=hb
 clear ha hb
 rw[HV.out]
 clear HV
 rcases ho with rfl | rfl | rfl
 · rw[nx_add]at HF ⊢
   go_enter Tryz.func129,Tryz.ntmps129
   go_wp2_with fail
   refine(add_good a b _ HA.out HB.out HF.out).mono ?_
   rintro e w' ⟨rfl,rfl⟩
   go_wp2_with fail
   go_ret2
   exact⟨rfl,rfl⟩
 · rw[nx_sub]at HF ⊢
   go_enter Tryz.func129,Tryz.ntmps129
   go_wp2_with fail
   refine(sub_good a b _ HA.out HB.out HF.out).mono ?_
   rintro e w' ⟨rfl,rfl⟩
   go_wp2_with fail
   go_ret2
   exact⟨rfl,rfl⟩
 · rw[nx_mul]at HF ⊢
   have HM:=mul_fits a b w HA.out HB.out HF.out
   generalize a*b=x at HM ⊢
   go_enter Tryz.func129,Tryz.ntmps129
   go_wp2_with fail
   refine HM.mono ?_
   rintro e w' ⟨rfl,rfl⟩
   go_wp2_with fail
   go_ret2
   exact⟨rfl,rfl⟩
theorem do_bad (op a b:Int)(w:World)(ha:Fit a)(hb:Fit b)(h:nmf op a b≠0):
 Calls Tryz.prog 129 #[.int .i64 op,.int .i64 a,.int .i64 b] w fun e w'=>e= .returned (.tuple #[.int .i64 0,.iface 28 (.int .i64 (nmf op a b))])∧w'=w:=by
 have HA:Hid (Fit a):=ha
 have HB:Hid (Fit b):=hb
 clear ha hb
 by_cases h17:op=17
 · subst h17
   rw[nf_bad5 (by omega) h]
   have HF:Hid (¬Fit (a+b)):=fun hf=>h (nf_ok (by omega) hf)
   clear h
   go_enter Tryz.func129,Tryz.ntmps129
   go_wp2_with fail
   refine(add_over a b _ HA.out HB.out HF.out).mono ?_
   rintro e w' ⟨rfl,rfl⟩
   go_wp2_with fail
   go_ret2
   exact⟨rfl,rfl⟩
 by_cases h18:op=18
 · subst h18
   rw[nf_bad5 (by omega) h]
   have HF:Hid (¬Fit (a-b)):=fun hf=>h (nf_ok (by omega) hf)
   clear h
   go_enter Tryz.func129,Tryz.ntmps129
   go_wp2_with fail
   refine(sub_over a b _ HA.out HB.out HF.out).mono ?_
   rintro e w' ⟨rfl,rfl⟩
   go_wp2_with fail
   go_ret2
   exact⟨rfl,rfl⟩
 by_cases h19:op=19
 · subst h19
   rw[nf_bad5 (by omega) h]
   have HM:=mul_runs a b w HA.out HB.out (fun hf=>h (nf_ok (by omega) hf))
   clear h
   go_enter Tryz.func129,Tryz.ntmps129
   go_wp2_with fail
   refine HM.mono ?_
   rintro e w' ⟨rfl,rfl⟩
   go_wp2_with fail
   go_ret2
   exact⟨rfl,rfl⟩
 · rw[nf_syntax h17 h18 h19]
   clear h
   go_enter Tryz.func129,Tryz.ntmps129
   go_wp2
   go_ret2
   exact⟨rfl,rfl⟩
theorem done_add_good (a b:Int)(w:World)(ha:Fit a)(hb:Fit b)(h:Fit (a+b)):
 Calls Tryz.prog 51 #[.int .i64 17,.int .i64 a,.int .i64 b] w fun e w'=>e= .returned (.tuple #[.int .i64 (a+b),.int .i64 0])∧w'=w:=by
 obtain⟨a1,a2⟩:=ha;obtain⟨b1,b2⟩:=hb;obtain⟨h1,h2⟩:=h
 by_cases hn:b<0
 · have k0:¬ 0≤b:=by omega
   have k1:¬a<a+b:=by omega
   go_enter Tryz.func51,Tryz.ntmps51
   go_wp2
   go_ret2
   exact⟨rfl,rfl⟩
 · have k0:0≤b:=by omega
   have k1:¬a+b<a:=by omega
   go_enter Tryz.func51,Tryz.ntmps51
   go_wp2
   go_ret2
   exact⟨rfl,rfl⟩
theorem done_add_over (a b:Int)(w:World)(ha:Fit a)(hb:Fit b)(h:¬Fit (a+b)):
 Calls Tryz.prog 51 #[.int .i64 17,.int .i64 a,.int .i64 b] w fun e w'=>e= .returned (.tuple #[.int .i64 0,.int .i64 5])∧w'=w:=by
 rcases wrap_add ha hb h with⟨hn,k1⟩ | ⟨hn,k1⟩
 · clear ha hb h
   go_enter Tryz.func51,Tryz.ntmps51
   go_wp2
   go_ret2
   exact⟨rfl,rfl⟩
 · have k0:¬ 0≤b:=by omega
   clear ha hb h
   go_enter Tryz.func51,Tryz.ntmps51
   go_wp2
   go_ret2
   exact⟨rfl,rfl⟩
theorem done_sub_good (a b:Int)(w:World)(ha:Fit a)(hb:Fit b)(h:Fit (a-b)):
 Calls Tryz.prog 51 #[.int .i64 18,.int .i64 a,.int .i64 b] w fun e w'=>e= .returned (.tuple #[.int .i64 (a-b),.int .i64 0])∧w'=w:=by
 obtain⟨a1,a2⟩:=ha;obtain⟨b1,b2⟩:=hb;obtain⟨h1,h2⟩:=h
 by_cases hn:b<0
 · have k0:¬ 0≤b:=by omega
   have k1:¬a-b<a:=by omega
   go_enter Tryz.func51,Tryz.ntmps51
   go_wp2
   go_ret2
   exact⟨rfl,rfl⟩
 · have k0:0≤b:=by omega
   have k1:¬a<a-b:=by omega
   go_enter Tryz.func51,Tryz.ntmps51
   go_wp2
   go_ret2
   exact⟨rfl,rfl⟩
theorem done_sub_over (a b:Int)(w:World)(ha:Fit a)(hb:Fit b)(h:¬Fit (a-b)):
 Calls Tryz.prog 51 #[.int .i64 18,.int .i64 a,.int .i64 b] w fun e w'=>e= .returned (.tuple #[.int .i64 0,.int .i64 5])∧w'=w:=by
 rcases wrap_sub ha hb h with⟨hn,k1⟩ | ⟨hn,k1⟩
 · clear ha hb h
   go_enter Tryz.func51,Tryz.ntmps51
   go_wp2
   go_ret2
   exact⟨rfl,rfl⟩
 · have k0:¬ 0≤b:=by omega
   clear ha hb h
   go_enter Tryz.func51,Tryz.ntmps51
   go_wp2
   go_ret2
   exact⟨rfl,rfl⟩
theorem done_mul_left (b:Int)(w:World):
 Calls Tryz.prog 51 #[.int .i64 19,.int .i64 0,.int .i64 b] w fun e w'=>e= .returned (.tuple #[.int .i64 0,.int .i64 0])∧w'=w:=by
 go_enter Tryz.func51,Tryz.ntmps51
 go_wp2
 go_ret2
 exact⟨rfl,rfl⟩
theorem done_mul_right (a:Int)(w:World)(h:a≠0):
 Calls Tryz.prog 51 #[.int .i64 19,.int .i64 a,.int .i64 0] w fun e w'=>e= .returned (.tuple #[.int .i64 0,.int .i64 0])∧w'=w:=by
 go_enter Tryz.func51,Tryz.ntmps51
 go_wp2
 go_ret2
 exact⟨rfl,rfl⟩
theorem done_less_good (b:Int)(w:World)(h0:b≠0)(hb:Fit b)(h:Fit (-b)):
 Calls Tryz.prog 51 #[.int .i64 19,.int .i64 (-1),.int .i64 b] w fun e w'=>e= .returned (.tuple #[.int .i64 (-b),.int .i64 0])∧w'=w:=by
 have HM:=done_sub_good 0 b w fit_zero hb (by rw[Int.zero_sub];exact h)
 rw[Int.zero_sub]at HM
 generalize-b=x at HM ⊢
 go_enter Tryz.func51,Tryz.ntmps51
 go_wp2_with fail
 refine HM.mono ?_
 rintro e w' ⟨rfl,rfl⟩
 go_wp2_with fail
 go_ret2
 exact⟨rfl,rfl⟩
theorem done_less_over (b:Int)(w:World)(h0:b≠0)(hb:Fit b)(h:¬Fit (-b)):
 Calls Tryz.prog 51 #[.int .i64 19,.int .i64 (-1),.int .i64 b] w fun e w'=>e= .returned (.tuple #[.int .i64 0,.int .i64 5])∧w'=w:=by
 have HM:=done_sub_over 0 b w fit_zero hb (by rw[Int.zero_sub];exact h)
 go_enter Tryz.func51,Tryz.ntmps51
 go_wp2_with fail
 refine HM.mono ?_
 rintro e w' ⟨rfl,rfl⟩
 go_wp2_with fail
 go_ret2
 exact⟨rfl,rfl⟩
theorem done_mul_good (a b:Int)(w:World)(ha:Fit a)(hb:Fit b)(h:Fit (a*b))(h0:a≠0)(h1:a≠ -1)(h2:b≠0):
 Calls Tryz.prog 51 #[.int .i64 19,.int .i64 a,.int .i64 b] w fun e w'=>e= .returned (.tuple #[.int .i64 (a*b),.int .i64 0])∧w'=w:=by
 obtain⟨a1,a2⟩:=ha;obtain⟨b1,b2⟩:=hb;obtain⟨k1,k2⟩:=h
 have h0':(a == 0)=false:=by simpa using h0
 have h2':(b == 0)=false:=by simpa using h2
 go_enter Tryz.func51,Tryz.ntmps51
 go_wp2
 go_ret2
 exact⟨rfl,rfl⟩
theorem done_mul_over (a b:Int)(w:World)(ha:Fit a)(hb:Fit b)(h:¬Fit (a*b))(h0:a≠0)(h1:a≠ -1)(h2:b≠0):
 Calls Tryz.prog 51 #[.int .i64 19,.int .i64 a,.int .i64 b] w fun e w'=>e= .returned (.tuple #[.int .i64 0,.int .i64 5])∧w'=w:=by
 have k:wrap64 ((wrap64 (a*b)).tdiv a)≠b:=wrap_quo2 ha h h0 h1
 clear ha hb h
 have h0':(a == 0)=false:=by simpa using h0
 have h2':(b == 0)=false:=by simpa using h2
 go_enter Tryz.func51,Tryz.ntmps51
 go_wp2
 go_ret2
 exact⟨rfl,rfl⟩
theorem done_syntax (op a b:Int)(w:World)(h17:op≠17)(h18:op≠18)(h19:op≠19):
 Calls Tryz.prog 51 #[.int .i64 op,.int .i64 a,.int .i64 b] w fun e w'=>e= .returned (.tuple #[.int .i64 0,.int .i64 1])∧w'=w:=by
 go_enter Tryz.func51,Tryz.ntmps51
 go_wp2
 go_ret2
 exact⟨rfl,rfl⟩
theorem done_any (op a b:Int)(w:World)(ha:Fit a)(hb:Fit b):
 Calls Tryz.prog 51 #[.int .i64 op,.int .i64 a,.int .i64 b] w fun e w'=>e= .returned (.tuple #[.int .i64 (nval op a b),.int .i64 (nmf op a b)])∧w'=w:=by
 by_cases h17:op=17
 · subst h17
   by_cases h:Fit (a+b)
   · have hf:nmf 17 a b=0:=nf_ok (by omega) h
     rw[nv_ok hf,hf,nx_add];exact done_add_good a b w ha hb h
   · have hf:nmf 17 a b=5:=nf_over (by omega) h
     rw[nv_bad (by rw[hf];omega),hf];exact done_add_over a b w ha hb h
 by_cases h18:op=18
 · subst h18
   by_cases h:Fit (a-b)
   · have hf:nmf 18 a b=0:=nf_ok (by omega) h
     rw[nv_ok hf,hf,nx_sub];exact done_sub_good a b w ha hb h
   · have hf:nmf 18 a b=5:=nf_over (by omega) h
     rw[nv_bad (by rw[hf];omega),hf];exact done_sub_over a b w ha hb h
 by_cases h19:op=19
 · subst h19
   by_cases h:Fit (a*b)
   · have hf:nmf 19 a b=0:=nf_ok (by omega) h
     rw[nv_ok hf,hf,nx_mul]
     by_cases h0:a=0
     · subst h0;rw[Int.zero_mul];exact done_mul_left b w
     by_cases h2:b=0
     · subst h2;rw[Int.mul_zero];exact done_mul_right a w h0
     by_cases h1:a= -1
     · subst h1;rw[Int.neg_one_mul]at h ⊢; exact done_less_good b w h2 hb h
     · exact done_mul_good a b w ha hb h h0 h1 h2
   · have hf:nmf 19 a b=5:=nf_over (by omega) h
     rw[nv_bad (by rw[hf];omega),hf]
     by_cases h0:a=0
     · subst h0;rw[Int.zero_mul]at h;exact absurd fit_zero h
     by_cases h2:b=0
     · subst h2;rw[Int.mul_zero]at h;exact absurd fit_zero h
     by_cases h1:a= -1
     · subst h1;rw[Int.neg_one_mul]at h;exact done_less_over b w h2 hb h
     · exact done_mul_over a b w ha hb h h0 h1 h2
 · have hf:nmf op a b=1:=nf_syntax h17 h18 h19
   rw[nv_bad (by rw[hf];omega),hf];exact done_syntax op a b w h17 h18 h19
theorem Tryz.infoInt:(Tryz.prog.info? 3).map (fun i=>(i.zero,i.size,i.bytes))=some (some (.int .i64 0),1,8):=by kernel_rfl
def ns (l:List Nat):List Value:=l.map fun n:Nat=>Value.int .i64 (n:Int)
def OI (w:World)(base:Nat)(v:Value)(l:List Nat):Prop:=w.ownsRow base 3 1 v l.length (ns l)
theorem OI.nil (w:World)(base:Nat):OI w base (.slice none 0 0) []:=World.ownsRow_nil _ _ _ _
def IL (w:World)(p:Option Addr)(l:List Nat):Prop:=
 l=[]∨∃b off,p=some ⟨b,off,none⟩∧b<w.heap.size∧∀(i x:Nat),l[i]? =some x→w.cell? ⟨b,off+i,none⟩=some (.int .i64 (x:Int))
theorem IL.up {w w':World}{p:Option Addr}{l:List Nat}(h:IL w p l)(k:Below w.heap.size w w'):IL w' p l:=by
 rcases h with h | ⟨b,off,h1,h2,h3⟩
 · exact .inl h
 · refine .inr ⟨b,off,h1,Nat.lt_of_lt_of_le h2 k.size,fun i x hx=>?_⟩
   have q:∀o,w'.cell? ⟨b,o,none⟩=w.cell? ⟨b,o,none⟩:=fun o=>k.cell (p:=⟨b,o,none⟩) h2
   simp only[q]
   exact h3 i x hx
theorem OI.slice {w:World}{base:Nat}{v:Value}{l:List Nat}(h:OI w base v l):∃q c,v= .slice q l.length c∧IL w q l∧l.length≤c∧c≤maxLen:=by
 rcases h.2 with⟨rfl,hn⟩ | ⟨g,cap,cur,rfl,hb,hgg,hle,hm,hsz,htk⟩
 · obtain rfl:=List.eq_nil_of_length_eq_zero hn
   exact⟨none,0,rfl,.inl rfl,Nat.le_refl _,Nat.zero_le _⟩
 · have hlt:=(Array.getElem?_eq_some_iff.1 hgg).1
   refine⟨some ⟨g,0,none⟩,cap,rfl,.inr ⟨g,0,rfl,hlt,fun i x hx=>?_⟩,hle,hm⟩
   have hi:i<l.length:=(List.getElem?_eq_some_iff.1 hx).1
   have k1:(ns l)[i]? =some (.int .i64 (x:Int)):=by simp[ns,hx]
   rw[←k1,←htk,List.getElem?_take_of_lt (by omega)]
   simp[World.cell?, hgg]
theorem append_int (w:World){ops:Array Oper}{rest:List Oper}{o:Oper}{a:Act}{Q:Exit→Act→World→Prop}(hgd:o.guard=none)(s x:Operand)
 (ho:o.op= .call { callee:=.builtin .append,args:= #[s,x],argTypes:= #[63,63] })
 (base:Nat) (v:Value) (l:List Nat) (hs:a.eval s=v) (hown:OI w base v l) (n:Int) (c:Nat) (hc:n=(c:Int)) (hx:a.eval x= .slice (some ⟨w.heap.size,0,none⟩) 1 1)
 (hlen:l.length+1≤1099511627776) (hbase:base≤w.heap.size)
 (h:∀v' w',OI w' base v' (l++[c])→Below base w w'→wpList Tryz.prog ops Q rest (a.put o.dst v') w'):wpList Tryz.prog ops Q (o::rest) a (w.alloc (.cells #[.int .i64 n] 3)):=by
 obtain⟨i0,hi,hz0,hz1,hz2⟩:=info_parts Tryz.infoInt
 subst hc
 refine wpList_append_own _ hgd s x 63 ho base 3 i0 (.int .i64 0) 1 8 Tryz.underlying63 hi hz0 hz1 hz2 rfl (by decide) v l.length (ns l) hs (hown.alloc _) ⟨w.heap.size,0,none⟩ 1 1 [.int .i64 (c:Int)] hx rfl ?_ ?_ ?_ ?_ ?_ ?_
 · intro j u hj
   match j,hj with
   | 0,hj=>simp at hj;subst hj;simp[Addr.add]
 · intro u hu;simp at hu;subst hu;rfl
 · unfold maxLen;omega
 · omega
 · simp;omega
 · intro v' w' h1 h2 _
   refine h v' w' ?_ ?_
   · unfold OI
     have e:ns (l++[c])=ns l++[.int .i64 (c:Int)]:=by simp[ns]
     rw[e,List.length_append];exact h1
   · refine((Below.refl base w).alloc hbase (.cells #[.int .i64 (c:Int)] 3)).grown h2 (by simp;omega) ?_
     intro k hk
     exact(World.ownsRow.lt hown k hk).1
theorem Tryz.infoBool:(Tryz.prog.info? 4).map (fun i=>(i.zero,i.size,i.bytes))=some (some (.bool false),1,1):=by kernel_rfl
def RB (w:World)(g n:Nat)(f:Nat→Bool):Prop:=
 ∃cur:Array Value,w.heap[g]? =some (.cells cur 4 (0,0))∧cur.size=n∧∀j,j<n→cur[j]? =some (.bool (f j))
theorem RB.lt {w:World}{g n:Nat}{f:Nat→Bool}(h:RB w g n f):g<w.heap.size:=by
 obtain⟨cur,h1,_⟩:=h
 exact(Array.getElem?_eq_some_iff.1 h1).1
theorem RB.at {w:World}{g n:Nat}{f:Nat→Bool}(h:RB w g n f){j:Nat}(hj:j<n):w.cell? ⟨g,j,none⟩=some (.bool (f j)):=by
 obtain⟨cur,h1,_,h3⟩:=h
 simp[World.cell?, h1,h3 j hj]
theorem RB.free {w:World}{g n:Nat}{f:Nat→Bool}(h:RB w g n f)(j:Nat):w.frozen? ⟨g,j,none⟩=false:=by
 obtain⟨cur,h1,_⟩:=h
 simp[World.frozen?, h1]
theorem RB.congr {w:World}{g n:Nat}{f f':Nat→Bool}(h:RB w g n f)(e:∀j,j<n→f j=f' j):RB w g n f':=by
 obtain⟨cur,h1,h2,h3⟩:=h
 exact⟨cur,h1,h2,fun j hj=>by rw[←e j hj];exact h3 j hj⟩
theorem RB.up {w w':World}{B g n:Nat}{f:Nat→Bool}(h:RB w g n f)(k:Below B w w')(hg:g<B):RB w' g n f:=by
 obtain⟨cur,h1,h2⟩:=h
 exact⟨cur,(k.block g hg).trans h1,h2⟩
theorem RB.set {w:World}{g n:Nat}{f:Nat→Bool}(h:RB w g n f)(j:Nat)(b:Bool):RB (w.setCell ⟨g,j,none⟩ (.bool b)) g n (fun k=>if k=j then b else f k):=by
 obtain⟨cur,h1,h2,h3⟩:=h
 refine⟨cur.setIfInBounds j (.bool b),?_,by simpa using h2,fun k hk=>?_⟩
 · simp only[World.setCell,Array.getElem?_modify,h1,if_true,Option.map_some]
   rfl
 · by_cases e:k=j
   · subst e
     show _=some (Value.bool (if k=k then b else f k))
     rw[if_pos rfl,Array.getElem?_setIfInBounds_self_of_lt (by omega)]
   · show _=some (Value.bool (if k=j then b else f k))
     rw[if_neg e,Array.getElem?_setIfInBounds_ne (by omega)];exact h3 k hk
theorem RB.made {w:World}{base g n:Nat}(h:w.ownsRow base 4 1 (.slice (some ⟨g,0,none⟩) n n) n (madeCells (Value.bool false).cells (n*1)).toList):RB w g n (fun _=>false):=by
 rcases h.2 with⟨e,_⟩ | ⟨g',cap,cur,e,_,hgg,_,_,hsz,htk⟩
 · cases e
 · cases e
   refine⟨cur,hgg,by omega,fun j hj=>?_⟩
   have h1:(madeCells (Value.bool false).cells (n*1)).toList[j]? =some (.bool false):=by
    simp[madeCells,Value.cells,hj,Nat.mod_one]
   rw[←htk,List.getElem?_take_of_lt (by omega)]at h1
   simpa using h1
end Go.Proofs.YtnbkfggmpiccjaaGreatDoor
