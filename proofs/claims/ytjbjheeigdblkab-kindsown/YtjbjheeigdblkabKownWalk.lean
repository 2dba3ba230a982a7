/- KindsOwn: the walk of the statement's own function. -/
import Derived.Test.YtjbjheeigdblkabKlO
namespace Go.Proofs.Ytjbjheeigdblkab
open Go.RowKit
set_option linter.unusedVariables false
set_option maxRecDepth 100000

set_option maxHeartbeats 2000000 in
theorem kown_walk (v t : List Nd) (p q : Option Addr) (ca cb : Nat) (w : World) (hv : AK w v p ca) (ht : AK w t q cb) :
    Calls Try.prog 3 #[.slice p v.length ca, .slice q t.length cb] w fun e w' => e = .returned (.bool true) ∧ Below w.heap.size w w' := by
  have HV : Hid (AK w v p ca) := hv
  have HT : Hid (AK w t q cb) := ht
  clear hv ht
  rcases own_ways v with ⟨y, l, z, m, hO⟩ | ⟨n, hE⟩
  · have HO : Hid (OwnsTo v y l z m) := hO
    have HZ : Hid (KTy (z :: m.flat) z m ∧ (z :: m.flat).length ≤ 200) := hO.kty
    have HH : Hid (∀ x k, T1 (.cons x k .nil) → (hs false (.cons y l .nil) (.cons x k .nil) = true ↔ blw false (.cons z m .nil) (.cons x k .nil) = true)) := fun x k h => by have := (own_ok hO.2.1.1).2 _ h; rw [hO.2.2.2.1] at this; exact this
    have HS : Hid (hs false (.cons y l .nil) (.cons z m .nil) = true) := (HH.out z m HZ.out.1.1).2 (Le.refl HZ.out.1.1)
    clear hO
    obtain ⟨R, hR⟩ : ∃ R, R = z :: m.flat := ⟨_, rfl⟩
    have HRe : Hid (z :: m.flat = R) := hR.symm
    clear hR
    rw [HRe.out] at HZ
    go_enter Try.func3, Try.ntmps3
    go_wp2_with fail
    refine (joined_any w).mono ?_
    rintro _ w1 ⟨rfl, k1⟩
    have hC := HO.out.calls (HV.out.up k1)
    rw [HRe.out] at hC
    go_wp2_with fail
    refine hC.mono ?_
    rintro _ w2 ⟨⟨q2, c2, rfl, hR2⟩, k2'⟩
    have k2 := kqt k1 k2'
    have HR2 : Hid (AK w2 R q2 c2) := hR2
    clear k1 k2' hR2 hC
    have hC := AK.has HR2.out (HV.out.up k2) HZ.out.2 HO.out.1 HZ.out.1 HO.out.2.1 HO.out.2.2.1
    rw [HS.out] at hC
    go_wp2_with fail
    refine hC.mono ?_
    rintro _ w3 ⟨rfl, k3'⟩
    have k3 := kqt k2 k3'
    have HR3 : Hid (AK w3 R q2 c2) := HR2.out.up k3'
    clear k2 k3' HR2 hC
    by_cases htz : kfault t = 0
    · obtain ⟨lt, x, k, hx⟩ := kfault_zero htz
      have HX : Hid (t.length ≤ 200 ∧ KTy t x k) := ⟨lt, hx⟩
      have HHX : Hid (hs false (.cons y l .nil) (.cons x k .nil) = true ↔ blw false (.cons z m .nil) (.cons x k .nil) = true) := HH.out x k hx.1
      clear htz lt hx HH
      go_wp2_with fail
      refine (AK.has (HT.out.up k3) (HV.out.up k3) HX.out.1 HO.out.1 HX.out.2 HO.out.2.1 HO.out.2.2.1).mono ?_
      rintro _ w4 ⟨rfl, k4'⟩
      have k4 := kqt k3 k4'
      have HR4 : Hid (AK w4 R q2 c2) := HR3.out.up k4'
      clear k3 k4' HR3
      go_wp2_with fail
      refine (AK.below HR4.out (HT.out.up k4) HZ.out.2 HX.out.1 HZ.out.1 HX.out.2).mono ?_
      rintro _ w5 ⟨rfl, k5'⟩
      have k5 := kqt k4 k5'
      clear k4 k5' HR4
      generalize hs false (.cons y l .nil) (.cons x k .nil) = h1 at *
      generalize blw false (.cons z m .nil) (.cons x k .nil) = h2 at *
      cases h1 <;> cases h2 <;> first | (exfalso; have := HHX.out; revert this; decide) | skip
      all_goals
        clear HHX
        go_wp2
        go_ret
        exact ⟨rfl, k5⟩
    · have HE1 : Hid (hfault t v ≠ 0) := by show _ ≠ _; unfold hfault; rw [if_neg htz]; exact htz
      have HE2 : Hid (bfault R t ≠ 0) := by show _ ≠ _; unfold bfault; rw [if_pos (kfault_ok HZ.out.2 HZ.out.1)]; exact htz
      clear htz HH
      go_wp2_with fail
      refine (AK.has_err (HT.out.up k3) (HV.out.up k3) HE1.out).mono ?_
      rintro _ w4 ⟨rfl, k4'⟩
      have k4 := kqt k3 k4'
      have HR4 : Hid (AK w4 R q2 c2) := HR3.out.up k4'
      clear k3 k4' HR3
      go_wp2_with fail
      refine (AK.below_err HR4.out (HT.out.up k4) HE2.out).mono ?_
      rintro _ w5 ⟨rfl, k5'⟩
      have k5 := kqt k4 k5'
      go_wp2
      go_ret
      exact ⟨rfl, k5⟩
  · go_enter Try.func3, Try.ntmps3
    go_wp2_with fail
    refine (joined_any w).mono ?_
    rintro _ w1 ⟨rfl, k1⟩
    go_wp2_with fail
    refine (hE w1 _ _ (HV.out.up k1)).mono ?_
    rintro _ w2 ⟨rfl, k2'⟩
    have k2 := kqt k1 k2'
    go_wp2
    go_ret
    exact ⟨rfl, k2⟩
end Go.Proofs.Ytjbjheeigdblkab
