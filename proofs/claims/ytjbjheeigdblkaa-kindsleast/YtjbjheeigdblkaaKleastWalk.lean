/- KindsLeast: the walk of the statement's own function. -/
import Derived.Test.YtjbjheeigdblkaaKlB
namespace Go.Proofs.Ytjbjheeigdblkaa
open Go.RowKit
set_option linter.unusedVariables false
set_option maxRecDepth 100000

set_option maxHeartbeats 4000000 in
theorem kleast_walk (a b c : List Nd) (p q r : Option Addr) (ca cb cc : Nat) (w : World) (ha : AK w a p ca) (hb : AK w b q cb) (hc : AK w c r cc) :
    Calls Try.prog 4 #[.slice p a.length ca, .slice q b.length cb, .slice r c.length cc] w fun e w' => e = .returned (.bool true) ∧ Below w.heap.size w w' := by
  have HA : Hid (AK w a p ca) := ha
  have HB : Hid (AK w b q cb) := hb
  have HC : Hid (AK w c r cc) := hc
  clear ha hb hc
  rcases join_ways a b with ⟨x, y, k, l, z, m, hJ⟩ | ⟨n, hE⟩
  · have HJ : Hid (JoinsTo a b x y k l z m) := hJ
    have HJ2 : Hid (JoinsTo b a y x l k z m) := by
      obtain ⟨la, lb, h1, h2, h3, h4⟩ := hJ
      exact ⟨lb, la, h2, h1, by rw [← h3]; exact jn_comm h2.1 h1.1, h4⟩
    obtain ⟨la, lb, h1, h2, h3, h4⟩ := hJ
    have HX : Hid (a.length ≤ 200 ∧ KTy a x k) := ⟨la, h1⟩
    have HY : Hid (b.length ≤ 200 ∧ KTy b y l) := ⟨lb, h2⟩
    have HZ : Hid (KTy (z :: m.flat) z m ∧ (z :: m.flat).length ≤ 200) := HJ.out.kty
    have hub := (jn_le_iff h1.1 h2.1 HZ.out.1.1).1 (by rw [h3]; exact Le.refl HZ.out.1.1)
    have HU1 : Hid (blw false (.cons x k .nil) (.cons z m .nil) = true) := hub.1
    have HU2 : Hid (blw false (.cons y l .nil) (.cons z m .nil) = true) := hub.2
    have HL : Hid (∀ t n, T1 (.cons t n .nil) → (blw false (.cons z m .nil) (.cons t n .nil) = true ↔ blw false (.cons x k .nil) (.cons t n .nil) = true ∧ blw false (.cons y l .nil) (.cons t n .nil) = true)) := fun t n ht => by rw [← h3]; exact jn_le_iff h1.1 h2.1 ht
    clear la lb h1 h2 h3 h4 hub
    go_enter Try.func4, Try.ntmps4
    go_wp2_with fail
    refine (joined_any w).mono ?_
    rintro _ w1 ⟨rfl, k1⟩
    go_wp2_with fail
    refine (HJ.out.calls (HA.out.up k1) (HB.out.up k1)).mono ?_
    rintro _ w2 ⟨⟨q2, c2, rfl, hR2⟩, k2'⟩
    have k2 := kqt k1 k2'
    have HR2 : Hid (AK w2 (z :: m.flat) q2 c2) := hR2
    clear k1 k2' hR2
    obtain ⟨R, hR⟩ : ∃ R, R = z :: m.flat := ⟨_, rfl⟩
    rw [← hR] at HZ HR2 ⊢
    have HRR : Hid (R = z :: m.flat) := hR
    clear hR
    go_wp2_with fail
    refine (AK.below (HA.out.up k2) HR2.out HX.out.1 HZ.out.2 HX.out.2 HZ.out.1).mono ?_
    rintro _ w3 ⟨rfl, k3'⟩
    rw [HU1.out]
    have k3 := kqt k2 k3'
    have HR3 : Hid (AK w3 R q2 c2) := HR2.out.up k3'
    clear k2 k3' HR2
    go_wp2_with fail
    refine (AK.below (HB.out.up k3) HR3.out HY.out.1 HZ.out.2 HY.out.2 HZ.out.1).mono ?_
    rintro _ w4 ⟨rfl, k4'⟩
    rw [HU2.out]
    have k4 := kqt k3 k4'
    have HR4 : Hid (AK w4 R q2 c2) := HR3.out.up k4'
    clear k3 k4' HR3
    have hC5 := HJ2.out.calls (HB.out.up k4) (HA.out.up k4)
    rw [← HRR.out] at hC5
    go_wp2_with fail
    refine hC5.mono ?_
    rintro _ w5 ⟨⟨q5, c5, rfl, hR5⟩, k5'⟩
    have k5 := kqt k4 k5'
    have HR5 : Hid (AK w5 R q2 c2) := HR4.out.up k5'
    have HQ5 : Hid (AK w5 R q5 c5) := hR5
    clear k4 k5' HR4 hR5 hC5
    go_wp2_with fail
    refine (AK.same HR5.out HQ5.out).mono ?_
    rintro _ w6 ⟨rfl, k6'⟩
    rw [(sameNd_iff R R).2 rfl]
    have k6 := kqt k5 k6'
    have HR6 : Hid (AK w6 R q2 c2) := HR5.out.up k6'
    clear k5 k6' HR5 HQ5
    by_cases hcz : kfault c = 0
    · obtain ⟨lc, t, n, ht⟩ := kfault_zero hcz
      have HT : Hid (c.length ≤ 200 ∧ KTy c t n) := ⟨lc, ht⟩
      have HLT : Hid (blw false (.cons z m .nil) (.cons t n .nil) = true ↔ blw false (.cons x k .nil) (.cons t n .nil) = true ∧ blw false (.cons y l .nil) (.cons t n .nil) = true) := HL.out t n ht.1
      clear hcz lc ht HL
      go_wp2_with fail
      refine (AK.below (HA.out.up k6) (HC.out.up k6) HX.out.1 HT.out.1 HX.out.2 HT.out.2).mono ?_
      rintro _ w7 ⟨rfl, k7'⟩
      have k7 := kqt k6 k7'
      have HR7 : Hid (AK w7 R q2 c2) := HR6.out.up k7'
      clear k6 k7' HR6
      go_wp2_with fail
      refine (AK.below (HB.out.up k7) (HC.out.up k7) HY.out.1 HT.out.1 HY.out.2 HT.out.2).mono ?_
      rintro _ w8 ⟨rfl, k8'⟩
      have k8 := kqt k7 k8'
      have HR8 : Hid (AK w8 R q2 c2) := HR7.out.up k8'
      clear k7 k8' HR7
      go_wp2_with fail
      refine (AK.below HR8.out (HC.out.up k8) HZ.out.2 HT.out.1 HZ.out.1 HT.out.2).mono ?_
      rintro _ w9 ⟨rfl, k9'⟩
      have k9 := kqt k8 k9'
      clear k8 k9' HR8
      generalize blw false (.cons x k .nil) (.cons t n .nil) = ac at *
      generalize blw false (.cons y l .nil) (.cons t n .nil) = bc at *
      generalize blw false (.cons z m .nil) (.cons t n .nil) = jc at *
      cases ac <;> cases bc <;> cases jc <;> first | (exfalso; have := HLT.out; revert this; decide) | skip
      all_goals
        clear HLT
        go_wp2
        go_ret
        exact ⟨rfl, k9⟩
    · have HE1 : Hid (bfault a c ≠ 0) := bfault_second HX.out.1 HX.out.2 hcz
      have HE2 : Hid (bfault b c ≠ 0) := bfault_second HY.out.1 HY.out.2 hcz
      have HE3 : Hid (bfault R c ≠ 0) := bfault_second HZ.out.2 HZ.out.1 hcz
      clear hcz HL
      go_wp2_with fail
      refine (AK.below_err (HA.out.up k6) (HC.out.up k6) HE1.out).mono ?_
      rintro _ w7 ⟨rfl, k7'⟩
      have k7 := kqt k6 k7'
      have HR7 : Hid (AK w7 R q2 c2) := HR6.out.up k7'
      clear k6 k7' HR6
      go_wp2_with fail
      refine (AK.below_err (HB.out.up k7) (HC.out.up k7) HE2.out).mono ?_
      rintro _ w8 ⟨rfl, k8'⟩
      have k8 := kqt k7 k8'
      have HR8 : Hid (AK w8 R q2 c2) := HR7.out.up k8'
      clear k7 k8' HR7
      go_wp2_with fail
      refine (AK.below_err HR8.out (HC.out.up k8) HE3.out).mono ?_
      rintro _ w9 ⟨rfl, k9'⟩
      have k9 := kqt k8 k9'
      clear k8 k9' HR8
      go_wp2
      go_ret
      exact ⟨rfl, k9⟩
  · go_enter Try.func4, Try.ntmps4
    go_wp2_with fail
    refine (joined_any w).mono ?_
    rintro _ w1 ⟨rfl, k1⟩
    go_wp2_with fail
    refine (hE w1 _ _ _ _ (HA.out.up k1) (HB.out.up k1)).mono ?_
    rintro _ w2 ⟨rfl, k2'⟩
    have k2 := kqt k1 k2'
    go_wp2
    go_ret
    exact ⟨rfl, k2⟩
end Go.Proofs.Ytjbjheeigdblkaa
