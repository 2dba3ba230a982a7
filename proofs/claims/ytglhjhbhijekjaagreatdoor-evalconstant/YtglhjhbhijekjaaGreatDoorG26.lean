/- What package num's functions return: by a walk of their own texts. -/
import Derived.Test.YtglhjhbhijekjaaGreatDoorG13
import Derived.Test.YtglhjhbhijekjaaGreatDoorG6
namespace Go.Proofs.YtglhjhbhijekjaaGreatDoor
open Go.RowKit
set_option linter.unusedVariables false

theorem add_good (a b : Int) (w : World) (ha : Fit a) (hb : Fit b) (h : Fit (a + b)) :
    Calls Tryz.prog 183 #[.int .i64 a, .int .i64 b] w fun e w' => e = .returned (.tuple #[.int .i64 (a + b), .nilIface]) ∧ w' = w := by
  obtain ⟨a1, a2⟩ := ha; obtain ⟨b1, b2⟩ := hb; obtain ⟨h1, h2⟩ := h
  by_cases hn : b < 0
  · have k1 : a + b < a := by omega
    go_enter Tryz.func183, Tryz.ntmps183
    go_wp2
    go_ret2
    exact ⟨rfl, rfl⟩
  · have k1 : ¬ a + b < a := by omega
    go_enter Tryz.func183, Tryz.ntmps183
    go_wp2
    go_ret2
    exact ⟨rfl, rfl⟩
theorem add_over (a b : Int) (w : World) (ha : Fit a) (hb : Fit b) (h : ¬ Fit (a + b)) :
    Calls Tryz.prog 183 #[.int .i64 a, .int .i64 b] w fun e w' => e = .returned (.tuple #[.int .i64 0, .iface 31 (.int .i64 5)]) ∧ w' = w := by
  rcases wrap_add ha hb h with ⟨hn, k1⟩ | ⟨hn, k1⟩
  · have hn' : ¬ b < 0 := by omega
    clear ha hb h hn
    go_enter Tryz.func183, Tryz.ntmps183
    go_wp2
    go_ret2
    exact ⟨rfl, rfl⟩
  · have k2 : ¬ wrap64 (a + b) < a := by omega
    clear ha hb h k1
    go_enter Tryz.func183, Tryz.ntmps183
    go_wp2
    go_ret2
    exact ⟨rfl, rfl⟩
theorem sub_good (a b : Int) (w : World) (ha : Fit a) (hb : Fit b) (h : Fit (a - b)) :
    Calls Tryz.prog 163 #[.int .i64 a, .int .i64 b] w fun e w' => e = .returned (.tuple #[.int .i64 (a - b), .nilIface]) ∧ w' = w := by
  obtain ⟨a1, a2⟩ := ha; obtain ⟨b1, b2⟩ := hb; obtain ⟨h1, h2⟩ := h
  by_cases hn : b < 0
  · have k1 : a < a - b := by omega
    go_enter Tryz.func163, Tryz.ntmps163
    go_wp2
    go_ret2
    exact ⟨rfl, rfl⟩
  · have k1 : ¬ a < a - b := by omega
    go_enter Tryz.func163, Tryz.ntmps163
    go_wp2
    go_ret2
    exact ⟨rfl, rfl⟩
theorem sub_over (a b : Int) (w : World) (ha : Fit a) (hb : Fit b) (h : ¬ Fit (a - b)) :
    Calls Tryz.prog 163 #[.int .i64 a, .int .i64 b] w fun e w' => e = .returned (.tuple #[.int .i64 0, .iface 31 (.int .i64 5)]) ∧ w' = w := by
  rcases wrap_sub ha hb h with ⟨hn, k1⟩ | ⟨hn, k1⟩
  · have hn' : ¬ b < 0 := by omega
    clear ha hb h hn
    go_enter Tryz.func163, Tryz.ntmps163
    go_wp2
    go_ret2
    exact ⟨rfl, rfl⟩
  · have k2 : ¬ a < wrap64 (a - b) := by omega
    clear ha hb h k1
    go_enter Tryz.func163, Tryz.ntmps163
    go_wp2
    go_ret2
    exact ⟨rfl, rfl⟩
theorem neg_good (a : Int) (w : World) (ha : Fit a) (h : Fit (-a)) :
    Calls Tryz.prog 134 #[.int .i64 a] w fun e w' => e = .returned (.tuple #[.int .i64 (-a), .nilIface]) ∧ w' = w := by
  go_enter Tryz.func134, Tryz.ntmps134
  go_wp2_with fail
  refine (sub_good 0 a _ fit_zero ha (by rw [Int.zero_sub]; exact h)).mono ?_
  rintro e w' ⟨rfl, rfl⟩
  go_wp2_with fail
  go_ret2
  exact ⟨rfl, rfl⟩
theorem neg_over (a : Int) (w : World) (ha : Fit a) (h : ¬ Fit (-a)) :
    Calls Tryz.prog 134 #[.int .i64 a] w fun e w' => e = .returned (.tuple #[.int .i64 0, .iface 31 (.int .i64 5)]) ∧ w' = w := by
  go_enter Tryz.func134, Tryz.ntmps134
  go_wp2_with fail
  refine (sub_over 0 a _ fit_zero ha (by rw [Int.zero_sub]; exact h)).mono ?_
  rintro e w' ⟨rfl, rfl⟩
  go_wp2_with fail
  go_ret2
  exact ⟨rfl, rfl⟩
theorem mul_zero (b : Int) (w : World) :
    Calls Tryz.prog 184 #[.int .i64 0, .int .i64 b] w fun e w' => e = .returned (.tuple #[.int .i64 0, .nilIface]) ∧ w' = w := by
  go_enter Tryz.func184, Tryz.ntmps184
  go_wp2
  go_ret2
  exact ⟨rfl, rfl⟩
theorem mul_less_good (b : Int) (w : World) (hb : Fit b) (h : Fit (-b)) :
    Calls Tryz.prog 184 #[.int .i64 (-1), .int .i64 b] w fun e w' => e = .returned (.tuple #[.int .i64 (-b), .nilIface]) ∧ w' = w := by
  go_enter Tryz.func184, Tryz.ntmps184
  go_wp2_with fail
  refine (neg_good b _ hb h).mono ?_
  rintro e w' ⟨rfl, rfl⟩
  go_wp2_with fail
  go_ret2
  exact ⟨rfl, rfl⟩
theorem mul_less_over (b : Int) (w : World) (hb : Fit b) (h : ¬ Fit (-b)) :
    Calls Tryz.prog 184 #[.int .i64 (-1), .int .i64 b] w fun e w' => e = .returned (.tuple #[.int .i64 0, .iface 31 (.int .i64 5)]) ∧ w' = w := by
  go_enter Tryz.func184, Tryz.ntmps184
  go_wp2_with fail
  refine (neg_over b _ hb h).mono ?_
  rintro e w' ⟨rfl, rfl⟩
  go_wp2_with fail
  go_ret2
  exact ⟨rfl, rfl⟩
theorem mul_good (a b : Int) (w : World) (ha : Fit a) (hb : Fit b) (h : Fit (a * b)) (h0 : a ≠ 0) (h1 : a ≠ -1) :
    Calls Tryz.prog 184 #[.int .i64 a, .int .i64 b] w fun e w' => e = .returned (.tuple #[.int .i64 (a * b), .nilIface]) ∧ w' = w := by
  obtain ⟨a1, a2⟩ := ha; obtain ⟨b1, b2⟩ := hb; obtain ⟨k1, k2⟩ := h
  go_enter Tryz.func184, Tryz.ntmps184
  go_wp2
  go_ret2
  exact ⟨rfl, rfl⟩
theorem mul_over (a b : Int) (w : World) (ha : Fit a) (hb : Fit b) (h : ¬ Fit (a * b)) (h0 : a ≠ 0) (h1 : a ≠ -1) :
    Calls Tryz.prog 184 #[.int .i64 a, .int .i64 b] w fun e w' => e = .returned (.tuple #[.int .i64 0, .iface 31 (.int .i64 5)]) ∧ w' = w := by
  have k : wrap64 ((wrap64 (a * b)).tdiv a) ≠ b := wrap_quo2 ha h h0 h1
  clear ha hb h
  go_enter Tryz.func184, Tryz.ntmps184
  go_wp2
  go_ret2
  exact ⟨rfl, rfl⟩
theorem mul_fits (a b : Int) (w : World) (ha : Fit a) (hb : Fit b) (h : Fit (a * b)) :
    Calls Tryz.prog 184 #[.int .i64 a, .int .i64 b] w fun e w' => e = .returned (.tuple #[.int .i64 (a * b), .nilIface]) ∧ w' = w := by
  by_cases h0 : a = 0
  · subst h0; rw [Int.zero_mul]; exact mul_zero b w
  by_cases h1 : a = -1
  · subst h1; rw [Int.neg_one_mul] at h ⊢; exact mul_less_good b w hb h
  · exact mul_good a b w ha hb h h0 h1
theorem mul_runs (a b : Int) (w : World) (ha : Fit a) (hb : Fit b) (h : ¬ Fit (a * b)) :
    Calls Tryz.prog 184 #[.int .i64 a, .int .i64 b] w fun e w' => e = .returned (.tuple #[.int .i64 0, .iface 31 (.int .i64 5)]) ∧ w' = w := by
  by_cases h0 : a = 0
  · subst h0; rw [Int.zero_mul] at h; exact absurd fit_zero h
  by_cases h1 : a = -1
  · subst h1; rw [Int.neg_one_mul] at h; exact mul_less_over b w hb h
  · exact mul_over a b w ha hb h h0 h1

/-- What num.Do returns where nothing is wrong. -/
theorem do_good (op a b : Int) (w : World) (ha : Fit a) (hb : Fit b) (h : nmf op a b = 0) :
    Calls Tryz.prog 149 #[.int .i64 op, .int .i64 a, .int .i64 b] w fun e w' => e = .returned (.tuple #[.int .i64 (nval op a b), .nilIface]) ∧ w' = w := by
  have HV : Hid (nval op a b = nx op a b) := nv_ok h
  have hf := nf_fit h
  have ho := nf_op h
  have HF : Hid (Fit (nx op a b)) := hf
  clear hf h
  have HA : Hid (Fit a) := ha
  have HB : Hid (Fit b) := hb
  clear ha hb
  rw [HV.out]
  clear HV
  rcases ho with rfl | rfl | rfl
  · rw [nx_add] at HF ⊢
    go_enter Tryz.func149, Tryz.ntmps149
    go_wp2_with fail
    refine (add_good a b _ HA.out HB.out HF.out).mono ?_
    rintro e w' ⟨rfl, rfl⟩
    go_wp2_with fail
    go_ret2
    exact ⟨rfl, rfl⟩
  · rw [nx_sub] at HF ⊢
    go_enter Tryz.func149, Tryz.ntmps149
    go_wp2_with fail
    refine (sub_good a b _ HA.out HB.out HF.out).mono ?_
    rintro e w' ⟨rfl, rfl⟩
    go_wp2_with fail
    go_ret2
    exact ⟨rfl, rfl⟩
  · rw [nx_mul] at HF ⊢
    have HM := mul_fits a b w HA.out HB.out HF.out
    generalize a * b = x at HM ⊢
    go_enter Tryz.func149, Tryz.ntmps149
    go_wp2_with fail
    refine HM.mono ?_
    rintro e w' ⟨rfl, rfl⟩
    go_wp2_with fail
    go_ret2
    exact ⟨rfl, rfl⟩
/-- What num.Do returns where something is wrong. -/
theorem do_bad (op a b : Int) (w : World) (ha : Fit a) (hb : Fit b) (h : nmf op a b ≠ 0) :
    Calls Tryz.prog 149 #[.int .i64 op, .int .i64 a, .int .i64 b] w fun e w' => e = .returned (.tuple #[.int .i64 0, .iface 31 (.int .i64 (nmf op a b))]) ∧ w' = w := by
  have HA : Hid (Fit a) := ha
  have HB : Hid (Fit b) := hb
  clear ha hb
  by_cases h17 : op = 17
  · subst h17
    rw [nf_bad5 (by omega) h]
    have HF : Hid (¬ Fit (a + b)) := fun hf => h (nf_ok (by omega) hf)
    clear h
    go_enter Tryz.func149, Tryz.ntmps149
    go_wp2_with fail
    refine (add_over a b _ HA.out HB.out HF.out).mono ?_
    rintro e w' ⟨rfl, rfl⟩
    go_wp2_with fail
    go_ret2
    exact ⟨rfl, rfl⟩
  by_cases h18 : op = 18
  · subst h18
    rw [nf_bad5 (by omega) h]
    have HF : Hid (¬ Fit (a - b)) := fun hf => h (nf_ok (by omega) hf)
    clear h
    go_enter Tryz.func149, Tryz.ntmps149
    go_wp2_with fail
    refine (sub_over a b _ HA.out HB.out HF.out).mono ?_
    rintro e w' ⟨rfl, rfl⟩
    go_wp2_with fail
    go_ret2
    exact ⟨rfl, rfl⟩
  by_cases h19 : op = 19
  · subst h19
    rw [nf_bad5 (by omega) h]
    have HM := mul_runs a b w HA.out HB.out (fun hf => h (nf_ok (by omega) hf))
    clear h
    go_enter Tryz.func149, Tryz.ntmps149
    go_wp2_with fail
    refine HM.mono ?_
    rintro e w' ⟨rfl, rfl⟩
    go_wp2_with fail
    go_ret2
    exact ⟨rfl, rfl⟩
  · rw [nf_syntax h17 h18 h19]
    clear h
    go_enter Tryz.func149, Tryz.ntmps149
    go_wp2
    go_ret2
    exact ⟨rfl, rfl⟩
end Go.Proofs.YtglhjhbhijekjaaGreatDoor
