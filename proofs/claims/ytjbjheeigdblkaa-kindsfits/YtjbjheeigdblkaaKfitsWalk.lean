/- KindsFits: the walk of the statement's own function. -/
import Derived.Test.YtjbjheeigdblkaaKlC
namespace Go.Proofs.Ytjbjheeigdblkaa
open Go.RowKit
set_option linter.unusedVariables false
set_option maxRecDepth 100000

set_option maxHeartbeats 2000000 in
theorem kfits_walk (a b v : List Nd) (p q r : Option Addr) (ca cb cc : Nat) (w : World) (ha : AK w a p ca) (hb : AK w b q cb) (hv : AK w v r cc) :
    Calls Try.prog 6 #[.slice p a.length ca, .slice q b.length cb, .slice r v.length cc] w fun e w' => e = .returned (.bool true) ∧ Below w.heap.size w w' := by
  have HA : Hid (AK w a p ca) := ha
  have HB : Hid (AK w b q cb) := hb
  have HV : Hid (AK w v r cc) := hv
  clear ha hb hv
  rcases below_ways a b with ⟨x, y, k, l, la, lb, hx, hy⟩ | hbe
  · have HX : Hid (a.length ≤ 200 ∧ KTy a x k) := ⟨la, hx⟩
    have HY : Hid (b.length ≤ 200 ∧ KTy b y l) := ⟨lb, hy⟩
    clear la lb hx hy
    rcases has_ways a v with ⟨x', z, k', m, _, lv, hx', hz, hvf⟩ | hhe
    · obtain ⟨rfl, rfl⟩ := HX.out.2.uniq hx'
      have HZ : Hid (v.length ≤ 200 ∧ VTy v z m ∧ vfault v = 0) := ⟨lv, hz, hvf⟩
      have HF : Hid (hs false (.cons z m .nil) (.cons x k .nil) = true → blw false (.cons x k .nil) (.cons y l .nil) = true → hs false (.cons z m .nil) (.cons y l .nil) = true) := fits_more hz.1 HX.out.2.1 HY.out.2.1
      clear lv hx' hz hvf
      go_enter Try.func6, Try.ntmps6
      go_wp2_with fail
      refine (joined_any w).mono ?_
      rintro _ w1 ⟨rfl, k1⟩
      go_wp2_with fail
      refine (AK.below (HA.out.up k1) (HB.out.up k1) HX.out.1 HY.out.1 HX.out.2 HY.out.2).mono ?_
      rintro _ w2 ⟨rfl, k2'⟩
      have k2 := kqt k1 k2'
      clear k1 k2'
      go_wp2_with fail
      refine (AK.has (HA.out.up k2) (HV.out.up k2) HX.out.1 HZ.out.1 HX.out.2 HZ.out.2.1 HZ.out.2.2).mono ?_
      rintro _ w3 ⟨rfl, k3'⟩
      have k3 := kqt k2 k3'
      clear k2 k3'
      have hC := AK.has (HB.out.up k3) (HV.out.up k3) HY.out.1 HZ.out.1 HY.out.2 HZ.out.2.1 HZ.out.2.2
      generalize blw false (.cons x k .nil) (.cons y l .nil) = ab at *
      generalize hs false (.cons z m .nil) (.cons x k .nil) = va at *
      cases ab
      · clear HF hC
        go_wp2
        go_ret
        exact ⟨rfl, k3⟩
      · cases va
        · clear HF hC
          go_wp2
          go_ret
          exact ⟨rfl, k3⟩
        · rw [HF.out rfl rfl] at hC
          clear HF
          go_wp2_with fail
          refine hC.mono ?_
          rintro _ w4 ⟨rfl, k4'⟩
          have k4 := kqt k3 k4'
          go_wp2
          go_ret
          exact ⟨rfl, k4⟩
    · have HE : Hid (hfault a v ≠ 0) := hhe
      clear hhe
      go_enter Try.func6, Try.ntmps6
      go_wp2_with fail
      refine (joined_any w).mono ?_
      rintro _ w1 ⟨rfl, k1⟩
      go_wp2_with fail
      refine (AK.below (HA.out.up k1) (HB.out.up k1) HX.out.1 HY.out.1 HX.out.2 HY.out.2).mono ?_
      rintro _ w2 ⟨rfl, k2'⟩
      have k2 := kqt k1 k2'
      clear k1 k2'
      go_wp2_with fail
      refine (AK.has_err (HA.out.up k2) (HV.out.up k2) HE.out).mono ?_
      rintro _ w3 ⟨rfl, k3'⟩
      have k3 := kqt k2 k3'
      go_wp2
      go_ret
      exact ⟨rfl, k3⟩
  · have HB2 : Hid (bfault a b ≠ 0) := hbe
    clear hbe
    rcases has_ways a v with ⟨x, z, k, m, la, lv, hx, hz, hvf⟩ | hhe
    · have HX : Hid (a.length ≤ 200 ∧ KTy a x k) := ⟨la, hx⟩
      have HZ : Hid (v.length ≤ 200 ∧ VTy v z m ∧ vfault v = 0) := ⟨lv, hz, hvf⟩
      clear la lv hx hz hvf
      go_enter Try.func6, Try.ntmps6
      go_wp2_with fail
      refine (joined_any w).mono ?_
      rintro _ w1 ⟨rfl, k1⟩
      go_wp2_with fail
      refine (AK.below_err (HA.out.up k1) (HB.out.up k1) HB2.out).mono ?_
      rintro _ w2 ⟨rfl, k2'⟩
      have k2 := kqt k1 k2'
      clear k1 k2'
      go_wp2_with fail
      refine (AK.has (HA.out.up k2) (HV.out.up k2) HX.out.1 HZ.out.1 HX.out.2 HZ.out.2.1 HZ.out.2.2).mono ?_
      rintro _ w3 ⟨rfl, k3'⟩
      have k3 := kqt k2 k3'
      go_wp2
      go_ret
      exact ⟨rfl, k3⟩
    · have HE : Hid (hfault a v ≠ 0) := hhe
      clear hhe
      go_enter Try.func6, Try.ntmps6
      go_wp2_with fail
      refine (joined_any w).mono ?_
      rintro _ w1 ⟨rfl, k1⟩
      go_wp2_with fail
      refine (AK.below_err (HA.out.up k1) (HB.out.up k1) HB2.out).mono ?_
      rintro _ w2 ⟨rfl, k2'⟩
      have k2 := kqt k1 k2'
      clear k1 k2'
      go_wp2_with fail
      refine (AK.has_err (HA.out.up k2) (HV.out.up k2) HE.out).mono ?_
      rintro _ w3 ⟨rfl, k3'⟩
      have k3 := kqt k2 k3'
      go_wp2
      go_ret
      exact ⟨rfl, k3⟩
end Go.Proofs.Ytjbjheeigdblkaa
