/- The statement NumDoes: its walk. -/
import Derived.Test.YtglgfbflolbjdaaDoorNumRef
import Derived.Test.YtglgfbflolbjdaaDoorToldTwo
namespace Go.Proofs.YtglgfbflolbjdaaDoor
open Go.RowKit
set_option linter.unusedVariables false

theorem does_fact (w : World) : Calls Tryd.prog 5 #[.int .i64 19, .int .i64 3, .int .i64 (-4)] w fun e w' => e = .returned (.tuple #[.int .i64 (-12), .nilIface]) ∧ w' = w :=
  do_good 19 3 (-4) w (by decide) (by decide) (by decide)
theorem eV_errV (n : Int) : eV n = errV n := rfl
theorem ret_val {x y : Int} {v u : Value} (h : x = y) (h2 : v = u) : Ending.returned (.tuple #[.int .i64 x, v]) = .returned (.tuple #[.int .i64 y, u]) := by rw [h, h2]
/-- num.Do, whatever the op and the numbers are. -/
theorem do_any (op a b : Int) (w : World) (ha : Fit a) (hb : Fit b) :
    Calls Tryd.prog 5 #[.int .i64 op, .int .i64 a, .int .i64 b] w fun e w' => e = .returned (.tuple #[.int .i64 (nval op a b), errV (nfault op a b)]) ∧ w' = w := by
  by_cases h : nfault op a b = 0
  · rw [h]; exact do_good op a b w ha hb h
  · rw [nv_bad h, errV_not h]; exact do_bad op a b w ha hb h
theorem neg_any (a : Int) (w : World) (ha : Fit a) :
    Calls Tryd.prog 8 #[.int .i64 a] w fun e w' => e = .returned (.tuple #[.int .i64 (nval 18 0 a), errV (nfault 18 0 a)]) ∧ w' = w := by
  by_cases h : Fit (-a)
  · have hf : nfault 18 0 a = 0 := nf_ok (by omega) (by rw [nx_sub, Int.zero_sub]; exact h)
    rw [nv_ok hf, hf, nx_sub, Int.zero_sub]; exact neg_good a w ha h
  · have hf : nfault 18 0 a = 5 := nf_over (by omega) (by rw [nx_sub, Int.zero_sub]; exact h)
    rw [nv_bad (by rw [hf]; omega), hf]; exact neg_over a w ha h

set_option maxHeartbeats 1000000 in
theorem ndoes_walk (op a b : Int) (w : World) (hL : ErrVar w) (ha : Fit a) (hb : Fit b) :
    Calls Tryd.prog 3 #[.int .i64 op, .int .i64 a, .int .i64 b] w fun e w' => e = .returned (.bool true) ∧ Below w.heap.size w w' := by
  have HL : Hid (ErrVar w) := hL
  have HA : Hid (Fit a) := ha
  have HB : Hid (Fit b) := hb
  clear hL ha hb
  go_enter Tryd.func3, Tryd.ntmps3
  go_wp2_with fail
  refine (does_fact _).mono ?_
  rintro e w' ⟨rfl, rfl⟩
  go_wp2_with fail
  refine (done_any op a b _ HA.out HB.out).mono ?_
  rintro e w' ⟨rfl, rfl⟩
  go_wp2_with fail
  refine (do_any op a b _ HA.out HB.out).mono ?_
  rintro e w' ⟨rfl, rfl⟩
  generalize nval op a b = x
  generalize nfault op a b = n
  go_wp2_with fail
  refine (same_any n n _ HL.out).mono ?_
  rintro e w1 ⟨rfl, hb1⟩
  have HL1 : Hid (ErrVar w1) := evUp HL.out hb1
  rw [beq_self_eq_true]
  go_wp2_with fail
  refine (done_any 18 0 a _ fit_zero HA.out).mono ?_
  rintro e w' ⟨rfl, rfl⟩
  go_wp2_with fail
  refine (neg_any a _ HA.out).mono ?_
  rintro e w' ⟨rfl, rfl⟩
  generalize nval 18 0 a = y
  generalize nfault 18 0 a = m
  go_wp2_with fail
  refine (same_any m m _ HL1.out).mono ?_
  rintro e w2 ⟨rfl, hb2⟩
  rw [beq_self_eq_true]
  go_wp2_with fail
  go_ret
  exact ⟨ret_bool (by simp), hb1.trans (hb2.mono hb1.size)⟩
end Go.Proofs.YtglgfbflolbjdaaDoor
