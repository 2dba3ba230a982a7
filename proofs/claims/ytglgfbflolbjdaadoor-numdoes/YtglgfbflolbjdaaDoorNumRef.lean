/- What the document's own Done returns: by a walk of its own text. -/
import Derived.Test.YtglgfbflolbjdaaDoorNumFns
namespace Go.Proofs.YtglgfbflolbjdaaDoor
open Go.RowKit
set_option linter.unusedVariables false

theorem ret_two {a b c d : Int} (h1 : a = c) (h2 : b = d) : Ending.returned (.tuple #[.int .i64 a, .int .i64 b]) = .returned (.tuple #[.int .i64 c, .int .i64 d]) := by rw [h1, h2]
theorem done_add_good (a b : Int) (w : World) (ha : Fit a) (hb : Fit b) (h : Fit (a + b)) :
    Calls Tryd.prog 6 #[.int .i64 17, .int .i64 a, .int .i64 b] w fun e w' => e = .returned (.tuple #[.int .i64 (a + b), .int .i64 0]) ∧ w' = w := by
  obtain ⟨a1, a2⟩ := ha; obtain ⟨b1, b2⟩ := hb; obtain ⟨h1, h2⟩ := h
  by_cases hn : b < 0
  · have k0 : ¬ 0 ≤ b := by omega
    have k1 : ¬ a < a + b := by omega
    go_enter Tryd.func6, Tryd.ntmps6
    go_wp2
    go_ret2
    exact ⟨rfl, rfl⟩
  · have k0 : 0 ≤ b := by omega
    have k1 : ¬ a + b < a := by omega
    go_enter Tryd.func6, Tryd.ntmps6
    go_wp2
    go_ret2
    exact ⟨rfl, rfl⟩
theorem done_add_over (a b : Int) (w : World) (ha : Fit a) (hb : Fit b) (h : ¬ Fit (a + b)) :
    Calls Tryd.prog 6 #[.int .i64 17, .int .i64 a, .int .i64 b] w fun e w' => e = .returned (.tuple #[.int .i64 0, .int .i64 5]) ∧ w' = w := by
  rcases wrap_add ha hb h with ⟨hn, k1⟩ | ⟨hn, k1⟩
  · clear ha hb h
    go_enter Tryd.func6, Tryd.ntmps6
    go_wp2
    go_ret2
    exact ⟨rfl, rfl⟩
  · have k0 : ¬ 0 ≤ b := by omega
    clear ha hb h
    go_enter Tryd.func6, Tryd.ntmps6
    go_wp2
    go_ret2
    exact ⟨rfl, rfl⟩
theorem done_sub_good (a b : Int) (w : World) (ha : Fit a) (hb : Fit b) (h : Fit (a - b)) :
    Calls Tryd.prog 6 #[.int .i64 18, .int .i64 a, .int .i64 b] w fun e w' => e = .returned (.tuple #[.int .i64 (a - b), .int .i64 0]) ∧ w' = w := by
  obtain ⟨a1, a2⟩ := ha; obtain ⟨b1, b2⟩ := hb; obtain ⟨h1, h2⟩ := h
  by_cases hn : b < 0
  · have k0 : ¬ 0 ≤ b := by omega
    have k1 : ¬ a - b < a := by omega
    go_enter Tryd.func6, Tryd.ntmps6
    go_wp2
    go_ret2
    exact ⟨rfl, rfl⟩
  · have k0 : 0 ≤ b := by omega
    have k1 : ¬ a < a - b := by omega
    go_enter Tryd.func6, Tryd.ntmps6
    go_wp2
    go_ret2
    exact ⟨rfl, rfl⟩
theorem done_sub_over (a b : Int) (w : World) (ha : Fit a) (hb : Fit b) (h : ¬ Fit (a - b)) :
    Calls Tryd.prog 6 #[.int .i64 18, .int .i64 a, .int .i64 b] w fun e w' => e = .returned (.tuple #[.int .i64 0, .int .i64 5]) ∧ w' = w := by
  rcases wrap_sub ha hb h with ⟨hn, k1⟩ | ⟨hn, k1⟩
  · clear ha hb h
    go_enter Tryd.func6, Tryd.ntmps6
    go_wp2
    go_ret2
    exact ⟨rfl, rfl⟩
  · have k0 : ¬ 0 ≤ b := by omega
    clear ha hb h
    go_enter Tryd.func6, Tryd.ntmps6
    go_wp2
    go_ret2
    exact ⟨rfl, rfl⟩
theorem done_mul_left (b : Int) (w : World) :
    Calls Tryd.prog 6 #[.int .i64 19, .int .i64 0, .int .i64 b] w fun e w' => e = .returned (.tuple #[.int .i64 0, .int .i64 0]) ∧ w' = w := by
  go_enter Tryd.func6, Tryd.ntmps6
  go_wp2
  go_ret2
  exact ⟨rfl, rfl⟩
theorem done_mul_right (a : Int) (w : World) (h : a ≠ 0) :
    Calls Tryd.prog 6 #[.int .i64 19, .int .i64 a, .int .i64 0] w fun e w' => e = .returned (.tuple #[.int .i64 0, .int .i64 0]) ∧ w' = w := by
  go_enter Tryd.func6, Tryd.ntmps6
  go_wp2
  go_ret2
  exact ⟨rfl, rfl⟩
theorem done_less_good (b : Int) (w : World) (h0 : b ≠ 0) (hb : Fit b) (h : Fit (-b)) :
    Calls Tryd.prog 6 #[.int .i64 19, .int .i64 (-1), .int .i64 b] w fun e w' => e = .returned (.tuple #[.int .i64 (-b), .int .i64 0]) ∧ w' = w := by
  have HM := done_sub_good 0 b w fit_zero hb (by rw [Int.zero_sub]; exact h)
  rw [Int.zero_sub] at HM
  generalize -b = x at HM ⊢
  go_enter Tryd.func6, Tryd.ntmps6
  go_wp2_with fail
  refine HM.mono ?_
  rintro e w' ⟨rfl, rfl⟩
  go_wp2_with fail
  go_ret2
  exact ⟨rfl, rfl⟩
theorem done_less_over (b : Int) (w : World) (h0 : b ≠ 0) (hb : Fit b) (h : ¬ Fit (-b)) :
    Calls Tryd.prog 6 #[.int .i64 19, .int .i64 (-1), .int .i64 b] w fun e w' => e = .returned (.tuple #[.int .i64 0, .int .i64 5]) ∧ w' = w := by
  have HM := done_sub_over 0 b w fit_zero hb (by rw [Int.zero_sub]; exact h)
  go_enter Tryd.func6, Tryd.ntmps6
  go_wp2_with fail
  refine HM.mono ?_
  rintro e w' ⟨rfl, rfl⟩
  go_wp2_with fail
  go_ret2
  exact ⟨rfl, rfl⟩
theorem done_mul_good (a b : Int) (w : World) (ha : Fit a) (hb : Fit b) (h : Fit (a * b)) (h0 : a ≠ 0) (h1 : a ≠ -1) (h2 : b ≠ 0) :
    Calls Tryd.prog 6 #[.int .i64 19, .int .i64 a, .int .i64 b] w fun e w' => e = .returned (.tuple #[.int .i64 (a * b), .int .i64 0]) ∧ w' = w := by
  obtain ⟨a1, a2⟩ := ha; obtain ⟨b1, b2⟩ := hb; obtain ⟨k1, k2⟩ := h
  have h0' : (a == 0) = false := by simpa using h0
  have h2' : (b == 0) = false := by simpa using h2
  go_enter Tryd.func6, Tryd.ntmps6
  go_wp2
  go_ret2
  exact ⟨rfl, rfl⟩
theorem done_mul_over (a b : Int) (w : World) (ha : Fit a) (hb : Fit b) (h : ¬ Fit (a * b)) (h0 : a ≠ 0) (h1 : a ≠ -1) (h2 : b ≠ 0) :
    Calls Tryd.prog 6 #[.int .i64 19, .int .i64 a, .int .i64 b] w fun e w' => e = .returned (.tuple #[.int .i64 0, .int .i64 5]) ∧ w' = w := by
  have k : wrap64 ((wrap64 (a * b)).tdiv a) ≠ b := wrap_quo2 ha h h0 h1
  clear ha hb h
  have h0' : (a == 0) = false := by simpa using h0
  have h2' : (b == 0) = false := by simpa using h2
  go_enter Tryd.func6, Tryd.ntmps6
  go_wp2
  go_ret2
  exact ⟨rfl, rfl⟩
theorem done_syntax (op a b : Int) (w : World) (h17 : op ≠ 17) (h18 : op ≠ 18) (h19 : op ≠ 19) :
    Calls Tryd.prog 6 #[.int .i64 op, .int .i64 a, .int .i64 b] w fun e w' => e = .returned (.tuple #[.int .i64 0, .int .i64 1]) ∧ w' = w := by
  go_enter Tryd.func6, Tryd.ntmps6
  go_wp2
  go_ret2
  exact ⟨rfl, rfl⟩
/-- The document's Done, whatever the op and the numbers are. -/
theorem done_any (op a b : Int) (w : World) (ha : Fit a) (hb : Fit b) :
    Calls Tryd.prog 6 #[.int .i64 op, .int .i64 a, .int .i64 b] w fun e w' => e = .returned (.tuple #[.int .i64 (nval op a b), .int .i64 (nfault op a b)]) ∧ w' = w := by
  by_cases h17 : op = 17
  · subst h17
    by_cases h : Fit (a + b)
    · have hf : nfault 17 a b = 0 := nf_ok (by omega) h
      rw [nv_ok hf, hf, nx_add]; exact done_add_good a b w ha hb h
    · have hf : nfault 17 a b = 5 := nf_over (by omega) h
      rw [nv_bad (by rw [hf]; omega), hf]; exact done_add_over a b w ha hb h
  by_cases h18 : op = 18
  · subst h18
    by_cases h : Fit (a - b)
    · have hf : nfault 18 a b = 0 := nf_ok (by omega) h
      rw [nv_ok hf, hf, nx_sub]; exact done_sub_good a b w ha hb h
    · have hf : nfault 18 a b = 5 := nf_over (by omega) h
      rw [nv_bad (by rw [hf]; omega), hf]; exact done_sub_over a b w ha hb h
  by_cases h19 : op = 19
  · subst h19
    by_cases h : Fit (a * b)
    · have hf : nfault 19 a b = 0 := nf_ok (by omega) h
      rw [nv_ok hf, hf, nx_mul]
      by_cases h0 : a = 0
      · subst h0; rw [Int.zero_mul]; exact done_mul_left b w
      by_cases h2 : b = 0
      · subst h2; rw [Int.mul_zero]; exact done_mul_right a w h0
      by_cases h1 : a = -1
      · subst h1; rw [Int.neg_one_mul] at h ⊢; exact done_less_good b w h2 hb h
      · exact done_mul_good a b w ha hb h h0 h1 h2
    · have hf : nfault 19 a b = 5 := nf_over (by omega) h
      rw [nv_bad (by rw [hf]; omega), hf]
      by_cases h0 : a = 0
      · subst h0; rw [Int.zero_mul] at h; exact absurd fit_zero h
      by_cases h2 : b = 0
      · subst h2; rw [Int.mul_zero] at h; exact absurd fit_zero h
      by_cases h1 : a = -1
      · subst h1; rw [Int.neg_one_mul] at h; exact done_less_over b w h2 hb h
      · exact done_mul_over a b w ha hb h h0 h1 h2
  · have hf : nfault op a b = 1 := nf_syntax h17 h18 h19
    rw [nv_bad (by rw [hf]; omega), hf]; exact done_syntax op a b w h17 h18 h19
end Go.Proofs.YtglgfbflolbjdaaDoor
