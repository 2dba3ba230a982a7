/- Numbers of 64 bits: what a sum, a difference, a product is, and where it is none: plain arithmetic. -/
import Derived.RowKit
namespace Go.Proofs.YtnilaghbbhmkgaaGreatDoor
open Go.RowKit

/-- A number of 64 bits. -/
def Fit (n : Int) : Prop := -9223372036854775808 ≤ n ∧ n ≤ 9223372036854775807
instance fitDec (n : Int) : Decidable (Fit n) := inferInstanceAs (Decidable (_ ∧ _))
theorem fit_lo {n : Int} (h : Fit n) : -9223372036854775808 ≤ n := h.1
theorem fit_hi {n : Int} (h : Fit n) : n ≤ 9223372036854775807 := h.2
theorem fit_zero : Fit 0 := ⟨by omega, by omega⟩
/-- The number itself, whatever its size. -/
def nx (op a b : Int) : Int := if op = 17 then a + b else if op = 18 then a - b else a * b
/-- What is wrong with it. -/
def nmf (op a b : Int) : Int := if op = 17 ∨ op = 18 ∨ op = 19 then (if Fit (nx op a b) then 0 else 5) else 1
/-- What is told of it: 0 where something is wrong. -/
def nval (op a b : Int) : Int := if nmf op a b = 0 then nx op a b else 0

theorem nx_add (a b : Int) : nx 17 a b = a + b := rfl
theorem nx_sub (a b : Int) : nx 18 a b = a - b := rfl
theorem nx_mul (a b : Int) : nx 19 a b = a * b := rfl
theorem nf_ok {op a b : Int} (h : op = 17 ∨ op = 18 ∨ op = 19) (hf : Fit (nx op a b)) : nmf op a b = 0 := by
  unfold nmf; rw [if_pos h, if_pos hf]
theorem nf_over {op a b : Int} (h : op = 17 ∨ op = 18 ∨ op = 19) (hf : ¬ Fit (nx op a b)) : nmf op a b = 5 := by
  unfold nmf; rw [if_pos h, if_neg hf]
theorem nf_syntax {op a b : Int} (h1 : op ≠ 17) (h2 : op ≠ 18) (h3 : op ≠ 19) : nmf op a b = 1 := by
  unfold nmf; rw [if_neg (by omega)]
theorem nv_ok {op a b : Int} (h : nmf op a b = 0) : nval op a b = nx op a b := if_pos h
theorem nv_bad {op a b : Int} (h : nmf op a b ≠ 0) : nval op a b = 0 := if_neg h
theorem nf_fit {op a b : Int} (h : nmf op a b = 0) : Fit (nx op a b) := by
  unfold nmf at h
  by_cases h1 : op = 17 ∨ op = 18 ∨ op = 19
  · rw [if_pos h1] at h
    by_cases h2 : Fit (nx op a b)
    · exact h2
    · rw [if_neg h2] at h; omega
  · rw [if_neg h1] at h; omega
theorem nf_op {op a b : Int} (h : nmf op a b = 0) : op = 17 ∨ op = 18 ∨ op = 19 := by
  by_cases h1 : op = 17 ∨ op = 18 ∨ op = 19
  · exact h1
  · unfold nmf at h; rw [if_neg h1] at h; omega
theorem nv_fit (op a b : Int) : Fit (nval op a b) := by
  by_cases h : nmf op a b = 0
  · rw [nv_ok h]; exact nf_fit h
  · rw [nv_bad h]; exact fit_zero
theorem nf_bad5 {op a b : Int} (h : op = 17 ∨ op = 18 ∨ op = 19) (hf : nmf op a b ≠ 0) : nmf op a b = 5 := by
  by_cases h2 : Fit (nx op a b)
  · exact absurd (nf_ok h h2) hf
  · exact nf_over h h2
/-- Either way round. -/
theorem nf_comm {op a b : Int} (h : op = 17 ∨ op = 19) : nmf op b a = nmf op a b := by
  have hx : nx op b a = nx op a b := by
    rcases h with rfl | rfl
    · rw [nx_add, nx_add]; omega
    · rw [nx_mul, nx_mul]; exact Int.mul_comm _ _
  unfold nmf; rw [hx]
theorem nv_comm {op a b : Int} (h : op = 17 ∨ op = 19) : nval op b a = nval op a b := by
  have hx : nx op b a = nx op a b := by
    rcases h with rfl | rfl
    · rw [nx_add, nx_add]; omega
    · rw [nx_mul, nx_mul]; exact Int.mul_comm _ _
  unfold nval; rw [nf_comm h, hx]
/-- What was added can be taken away. -/
theorem nf_away {a b : Int} (ha : Fit a) : nmf 18 (a + b) b = 0 := by
  refine nf_ok (by omega) ?_
  rw [nx_sub, show a + b - b = a by omega]; exact ha
theorem nv_away {a b : Int} (ha : Fit a) : nval 18 (a + b) b = a := by
  rw [nv_ok (nf_away ha), nx_sub]; omega
/-- The opposite of the opposite. -/
theorem nf_neg {a : Int} (ha : Fit a) : nmf 18 0 (-a) = 0 := by
  refine nf_ok (by omega) ?_
  rw [nx_sub, show 0 - -a = a by omega]; exact ha
theorem nv_neg {a : Int} (ha : Fit a) : nval 18 0 (-a) = a := by
  rw [nv_ok (nf_neg ha), nx_sub]; omega
/-- Part by part. -/
theorem nx_dist (a b c : Int) : nx 19 a (b + c) = nx 17 (a * b) (a * c) := by
  rw [nx_mul, nx_add, Int.mul_add]
theorem nf_dist (a b c : Int) : nmf 19 a (b + c) = nmf 17 (a * b) (a * c) := by
  have h := nx_dist a b c
  by_cases hf : Fit (nx 17 (a * b) (a * c))
  · rw [nf_ok (by omega) hf, nf_ok (by omega) (by rw [h]; exact hf)]
  · rw [nf_over (by omega) hf, nf_over (by omega) (by rw [h]; exact hf)]
theorem nv_dist (a b c : Int) : nval 19 a (b + c) = nval 17 (a * b) (a * c) := by
  unfold nval; rw [nf_dist, nx_dist]

/-- What runs over goes to the other side. -/
theorem wrap_add {a b : Int} (ha : Fit a) (hb : Fit b) (h : ¬ Fit (a + b)) : (0 ≤ b ∧ wrap64 (a + b) < a) ∨ (b < 0 ∧ a < wrap64 (a + b)) := by
  unfold Fit at *; unfold wrap64; omega
theorem wrap_sub {a b : Int} (ha : Fit a) (hb : Fit b) (h : ¬ Fit (a - b)) : (0 ≤ b ∧ a < wrap64 (a - b)) ∨ (b < 0 ∧ wrap64 (a - b) < a) := by
  unfold Fit at *; unfold wrap64; omega
theorem wrap_fit (n : Int) : Fit (wrap64 n) := by unfold Fit wrap64; omega
theorem wrap_in {n : Int} (h : Fit n) : wrap64 n = n := by unfold Fit at h; unfold wrap64; omega
theorem wrap_far {n : Int} (h : ¬ Fit n) : wrap64 n ≤ n - 18446744073709551616 ∨ n + 18446744073709551616 ≤ wrap64 n := by
  unfold Fit at h; unfold wrap64; omega
/-- What ran over does not lead back. -/
theorem wrap_quo {a b : Int} (ha : Fit a) (h : ¬ Fit (a * b)) : (wrap64 (a * b)).tdiv a ≠ b := by
  intro e
  have h1 := Int.tmod_add_mul_tdiv (wrap64 (a * b)) a
  rw [e] at h1
  have h2 := wrap_far h
  generalize wrap64 (a * b) = p at *
  have h3 : (p.tmod a).natAbs ≤ a.natAbs := by
    by_cases h0 : a = 0
    · subst h0; exfalso; apply h; rw [Int.zero_mul]; exact fit_zero
    · have := Int.natAbs_tmod p a
      rw [this]
      exact Nat.le_of_lt (Nat.mod_lt _ (by omega))
  generalize a * b = m at *
  unfold Fit at ha
  omega
theorem quo_fit {p a : Int} (hp : Fit p) (h0 : a ≠ 0) (h1 : a ≠ -1) : Fit (p.tdiv a) := by
  by_cases h2 : a = 1
  · subst h2; rw [Int.tdiv_one]; exact hp
  · have e := Int.natAbs_tdiv p a
    have l : p.natAbs / a.natAbs ≤ p.natAbs / 2 := Nat.div_le_div_left (by omega) (by omega)
    unfold Fit at *
    have l2 : (p.tdiv a).natAbs ≤ p.natAbs / 2 := by rw [e]; exact l
    omega
theorem wrap_quo2 {a b : Int} (ha : Fit a) (h : ¬ Fit (a * b)) (h0 : a ≠ 0) (h1 : a ≠ -1) : wrap64 ((wrap64 (a * b)).tdiv a) ≠ b := by
  have f := quo_fit (wrap_fit (a * b)) h0 h1
  rw [wrap_in f]
  exact wrap_quo ha h
theorem quo_back {a b : Int} (h : a ≠ 0) : (a * b).tdiv a = b := Int.mul_tdiv_cancel_left _ h
theorem rem_back (a b : Int) : (a * b).tmod a = 0 := Int.mul_tmod_right _ _
end Go.Proofs.YtnilaghbbhmkgaaGreatDoor
