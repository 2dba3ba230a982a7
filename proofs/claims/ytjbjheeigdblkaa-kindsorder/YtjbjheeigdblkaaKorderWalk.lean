/- KindsOrder: the walk of the statement's own function. -/
import Derived.Test.YtjbjheeigdblkaaKlA
namespace Go.Proofs.Ytjbjheeigdblkaa
open Go.RowKit
set_option linter.unusedVariables false
set_option maxRecDepth 100000

theorem list_le {a b : List Nd} {x y : Nd} {k l : Tp} (ha : KTy a x k) (hb : KTy b y l) : (blw false (.cons x k .nil) (.cons y l .nil) && blw false (.cons y l .nil) (.cons x k .nil)) = sameNd a b := by
  rw [Bool.eq_iff_iff, Bool.and_eq_true, sameNd_iff]
  constructor
  · rintro ⟨h1, h2⟩
    have := Le.anti ha.1 hb.1 h1 h2
    cases this
    rw [ha.2, hb.2]
  · intro e
    subst e
    obtain ⟨rfl, rfl⟩ := ha.uniq hb
    exact ⟨Le.refl ha.1, Le.refl ha.1⟩
set_option maxHeartbeats 4000000 in
theorem korder_walk (a b c : List Nd) (p q r : Option Addr) (ca cb cc : Nat) (w : World) (ha : AK w a p ca) (hb : AK w b q cb) (hc : AK w c r cc) :
    Calls Try.prog 3 #[.slice p a.length ca, .slice q b.length cb, .slice r c.length cc] w fun e w' => e = .returned (.bool true) ∧ Below w.heap.size w w' := by
  have HA : Hid (AK w a p ca) := ha
  have HB : Hid (AK w b q cb) := hb
  have HC : Hid (AK w c r cc) := hc
  clear ha hb hc
  go_enter Try.func3, Try.ntmps3
  go_wp2_with fail
  refine (joined_any w).mono ?_
  rintro _ w1 ⟨rfl, k1⟩
  go_wp2_with fail
  refine (AK.check (HA.out.up k1)).mono ?_
  rintro _ w2 ⟨rfl, k2'⟩
  have k2 := kqt k1 k2'
  clear k1 k2'
  by_cases h1 : kfault a = 0
  · rw [eV_nil h1]
    go_wp2_with fail
    refine (AK.check (HB.out.up k2)).mono ?_
    rintro _ w3 ⟨rfl, k3'⟩
    have k3 := kqt k2 k3'
    clear k2 k3'
    by_cases h2 : kfault b = 0
    · rw [eV_nil h2]
      go_wp2_with fail
      refine (AK.check (HC.out.up k3)).mono ?_
      rintro _ w4 ⟨rfl, k4'⟩
      have k4 := kqt k3 k4'
      clear k3 k4'
      by_cases h3 : kfault c = 0
      · rw [eV_nil h3]
        obtain ⟨la, x, k, hx⟩ := kfault_zero h1
        obtain ⟨lb, y, l, hy⟩ := kfault_zero h2
        obtain ⟨lc, z, m, hz⟩ := kfault_zero h3
        have HX : Hid (a.length ≤ 200 ∧ KTy a x k) := ⟨la, hx⟩
        have HY : Hid (b.length ≤ 200 ∧ KTy b y l) := ⟨lb, hy⟩
        have HZ : Hid (c.length ≤ 200 ∧ KTy c z m) := ⟨lc, hz⟩
        clear h1 h2 h3 la lb lc hx hy hz
        go_wp2_with fail
        refine (AK.below (HA.out.up k4) (HA.out.up k4) HX.out.1 HX.out.1 HX.out.2 HX.out.2).mono ?_
        rintro _ w5 ⟨rfl, k5'⟩
        rw [show blw false (.cons x k .nil) (.cons x k .nil) = true from Le.refl HX.out.2.1]
        have k5 := kqt k4 k5'
        clear k4 k5'
        go_wp2_with fail
        refine (AK.below (HA.out.up k5) (HB.out.up k5) HX.out.1 HY.out.1 HX.out.2 HY.out.2).mono ?_
        rintro _ w6 ⟨rfl, k6'⟩
        have k6 := kqt k5 k6'
        clear k5 k6'
        go_wp2_with fail
        refine (AK.below (HB.out.up k6) (HA.out.up k6) HY.out.1 HX.out.1 HY.out.2 HX.out.2).mono ?_
        rintro _ w7 ⟨rfl, k7'⟩
        have k7 := kqt k6 k7'
        clear k6 k7'
        go_wp2_with fail
        refine (AK.below (HB.out.up k7) (HC.out.up k7) HY.out.1 HZ.out.1 HY.out.2 HZ.out.2).mono ?_
        rintro _ w8 ⟨rfl, k8'⟩
        have k8 := kqt k7 k8'
        clear k7 k8'
        go_wp2_with fail
        refine (AK.below (HA.out.up k8) (HC.out.up k8) HX.out.1 HZ.out.1 HX.out.2 HZ.out.2).mono ?_
        rintro _ w9 ⟨rfl, k9'⟩
        have k9 := kqt k8 k9'
        clear k8 k9'
        have HE1 : Hid ((blw false (.cons x k .nil) (.cons y l .nil) && blw false (.cons y l .nil) (.cons x k .nil)) = sameNd a b) := list_le HX.out.2 HY.out.2
        have HE2 : Hid (blw false (.cons x k .nil) (.cons y l .nil) = true → blw false (.cons y l .nil) (.cons z m .nil) = true → blw false (.cons x k .nil) (.cons z m .nil) = true) := fun h1 h2 => Le.trans HX.out.2.1 HY.out.2.1 HZ.out.2.1 h1 h2
        generalize blw false (.cons x k .nil) (.cons y l .nil) = ab at *
        generalize blw false (.cons y l .nil) (.cons x k .nil) = ba at *
        generalize blw false (.cons y l .nil) (.cons z m .nil) = bc at *
        generalize blw false (.cons x k .nil) (.cons z m .nil) = ac at *
        have h9 : ∀ w, Below w9.heap.size w9 w → AK (w.alloc (.cells #[.int .i64 49, .int .i64 0, .string ⟨#[]⟩, .string ⟨#[]⟩] 30)) [lfN 49] (some ⟨w.heap.size, 0, none⟩) 1 := fun w _ => AK.one w (lfN 49) (lfwf 49) rfl
        have hN := AK.below (h9 w9 (Below.refl _ _)) (HA.out.up (kqA k9)) (by simp) HX.out.1 (kty_leaf 49 (by omega)) HX.out.2
        rw [blw_none HX.out.2.1] at hN
        simp only [List.length_cons, List.length_nil, Nat.zero_add] at hN
        clear h9
        go_wp2_with fail
        refine hN.mono ?_
        rintro _ w10 ⟨rfl, k10'⟩
        have k10 := kqt (kqA k9) k10'
        clear k9 k10' hN
        have h10 : AK (w10.alloc (.cells #[.int .i64 48, .int .i64 0, .string ⟨#[]⟩, .string ⟨#[]⟩] 30)) [lfN 48] (some ⟨w10.heap.size, 0, none⟩) 1 := AK.one w10 (lfN 48) (lfwf 48) rfl
        have hN := AK.below (HA.out.up (kqA k10)) h10 HX.out.1 (by simp) HX.out.2 (kty_leaf 48 (by omega))
        rw [blw_top] at hN
        simp only [List.length_cons, List.length_nil, Nat.zero_add] at hN
        clear h10
        go_wp2_with fail
        refine hN.mono ?_
        rintro _ w11 ⟨rfl, k11'⟩
        have k11 := kqt (kqA k10) k11'
        clear k10 k11' hN
        go_wp2_with fail
        refine (AK.same (HA.out.up k11) (HB.out.up k11)).mono ?_
        rintro _ w12 ⟨rfl, k12'⟩
        have k12 := kqt k11 k12'
        clear k11 k12'
        generalize sameNd a b = ss at *
        have HE1' : Hid (∀ v, ((ab && ba) == ss) = v → v = true) := fun v h => by rw [← h, HE1.out]; simp
        cases ab <;> cases ba <;> cases bc <;> cases ac <;> cases ss <;> first | (exfalso; first | (have := HE1.out; revert this; decide) | (have := HE2.out rfl rfl; revert this; decide)) | skip
        all_goals
          clear HE1 HE2 HE1'
          go_wp2
          go_ret
          exact ⟨rfl, k12⟩
      · rw [eV_not h3]
        go_wp2
        go_ret
        exact ⟨rfl, k4⟩
    · rw [eV_not h2]
      go_wp2
      go_ret
      exact ⟨rfl, k3⟩
  · rw [eV_not h1]
    go_wp2
    go_ret
    exact ⟨rfl, k2⟩
end Go.Proofs.Ytjbjheeigdblkaa
