/- KindsJoined: the walk of the statement's own function. -/
import Derived.Test.YtjbjheeigdblkaaKlB
namespace Go.Proofs.Ytjbjheeigdblkaa
open Go.RowKit
set_option linter.unusedVariables false
set_option maxRecDepth 100000

set_option maxHeartbeats 2000000 in
theorem kjoined_walk (a b c : List Nd) (p q r : Option Addr) (ca cb cc : Nat) (w : World) (ha : AK w a p ca) (hb : AK w b q cb) (hc : AK w c r cc) :
    Calls Try.prog 5 #[.slice p a.length ca, .slice q b.length cb, .slice r c.length cc] w fun e w' => e = .returned (.bool true) ∧ Below w.heap.size w w' := by
  have HA : Hid (AK w a p ca) := ha
  have HB : Hid (AK w b q cb) := hb
  have HC : Hid (AK w c r cc) := hc
  clear ha hb hc
  rcases join_ways a b with ⟨x, y, k, l, z, m, hJ⟩ | ⟨n, hE⟩
  · have HJ : Hid (JoinsTo a b x y k l z m) := hJ
    clear hJ
    obtain ⟨R, hR⟩ : ∃ R, R = z :: m.flat := ⟨_, rfl⟩
    have HRe : Hid (R = z :: m.flat) := hR
    clear hR
    rcases join_ways b c with ⟨y', t, l', o, z', m', hK⟩ | ⟨n, hG⟩
    · have HK : Hid (JoinsTo b c y' t l' o z' m') := hK
      clear hK
      obtain ⟨Q, hQ⟩ : ∃ Q, Q = z' :: m'.flat := ⟨_, rfl⟩
      have HQe : Hid (Q = z' :: m'.flat) := hQ
      clear hQ
      rcases join_ways R c with ⟨x2, y2, k2_, l2, z2, m2, hP⟩ | ⟨n2, hM⟩
      · have HP : Hid (JoinsTo R c x2 y2 k2_ l2 z2 m2) := hP
        clear hP
        obtain ⟨L, hL⟩ : ∃ L, L = z2 :: m2.flat := ⟨_, rfl⟩
        have HLe : Hid (z2 :: m2.flat = L) := hL.symm
        clear hL
        rcases join_ways a Q with ⟨x3, y3, k3_, l3, z3, m3, hN⟩ | ⟨n3, hO⟩
        · have HN : Hid (JoinsTo a Q x3 y3 k3_ l3 z3 m3) := hN
          clear hN
          have HF : Hid (z2 :: m2.flat = z3 :: m3.flat) := joined_same HJ.out HK.out HRe.out HQe.out HP.out HN.out
          have HX : Hid (a.length ≤ 200 ∧ KTy a x k) := ⟨HJ.out.1, HJ.out.2.2.1⟩
          have HY : Hid (b.length ≤ 200 ∧ KTy b y l) := ⟨HJ.out.2.1, HJ.out.2.2.2.1⟩
          have HS : Hid (JoinsTo a a x x k k x k) := ⟨HX.out.1, HX.out.1, HX.out.2, HX.out.2, jn_self HX.out.2.1, by have := HX.out.1; rw [HX.out.2.2] at this; simpa using this⟩
          have HSE : Hid (x :: k.flat = a) := HX.out.2.2.symm
          have HT : Hid (blw false (.cons y l .nil) (.cons x k .nil) = sameNd R a) := joined_below HJ.out HRe.out
          go_enter Try.func5, Try.ntmps5
          go_wp2_with fail
          refine (joined_any w).mono ?_
          rintro _ w1 ⟨rfl, k1⟩
          go_wp2_with fail
          refine (HJ.out.calls (HA.out.up k1) (HB.out.up k1)).mono ?_
          rintro _ w2 ⟨⟨q2, c2, rfl, hR2⟩, k2'⟩
          have k2 := kqt k1 k2'
          have HR2 : Hid (AK w2 (z :: m.flat) q2 c2) := hR2
          clear k1 k2' hR2
          rw [← HRe.out] at HR2 ⊢
          go_wp2_with fail
          refine (HK.out.calls (HB.out.up k2) (HC.out.up k2)).mono ?_
          rintro _ w3 ⟨⟨q3, c3, rfl, hQ3⟩, k3'⟩
          have k3 := kqt k2 k3'
          have HQ3 : Hid (AK w3 (z' :: m'.flat) q3 c3) := hQ3
          have HR3 : Hid (AK w3 R q2 c2) := HR2.out.up k3'
          clear k2 k3' hQ3 HR2
          rw [← HQe.out] at HQ3 ⊢
          go_wp2_with fail
          refine (HP.out.calls HR3.out (HC.out.up k3)).mono ?_
          rintro _ w4 ⟨⟨q4, c4, rfl, hP4⟩, k4'⟩
          have k4 := kqt k3 k4'
          rw [HLe.out] at hP4 ⊢
          have HP4 : Hid (AK w4 L q4 c4) := hP4
          have HR4 : Hid (AK w4 R q2 c2) := HR3.out.up k4'
          have HQ4 : Hid (AK w4 Q q3 c3) := HQ3.out.up k4'
          clear k3 k4' hP4 HR3 HQ3
          go_wp2_with fail
          refine (HN.out.calls (HA.out.up k4) HQ4.out).mono ?_
          rintro _ w5 ⟨⟨q5, c5, rfl, hP5⟩, k5'⟩
          have k5 := kqt k4 k5'
          have HP5 : Hid (AK w5 (z3 :: m3.flat) q5 c5) := hP5
          have HR5 : Hid (AK w5 R q2 c2) := HR4.out.up k5'
          have HQ5 : Hid (AK w5 L q4 c4) := HP4.out.up k5'
          clear k4 k5' hP5 HR4 HP4 HQ4
          rw [← HF.out, HLe.out] at HP5 ⊢
          have hCS := HS.out.calls (HA.out.up k5) (HA.out.up k5)
          rw [HSE.out] at hCS
          go_wp2_with fail
          refine hCS.mono ?_
          rintro _ w6 ⟨⟨q6, c6, rfl, hS6⟩, k6'⟩
          have k6 := kqt k5 k6'
          have HS6 : Hid (AK w6 a q6 c6) := hS6
          have HR6 : Hid (AK w6 R q2 c2) := HR5.out.up k6'
          have HP6 : Hid (AK w6 L q5 c5) := HP5.out.up k6'
          have HQ6 : Hid (AK w6 L q4 c4) := HQ5.out.up k6'
          clear k5 k6' hS6 HR5 HP5 HQ5 hCS
          go_wp2_with fail
          refine (AK.below (HB.out.up k6) (HA.out.up k6) HY.out.1 HX.out.1 HY.out.2 HX.out.2).mono ?_
          rintro _ w7 ⟨rfl, k7'⟩
          rw [HT.out]
          have k7 := kqt k6 k7'
          have HS7 : Hid (AK w7 a q6 c6) := HS6.out.up k7'
          have HR7 : Hid (AK w7 R q2 c2) := HR6.out.up k7'
          have HP7 : Hid (AK w7 L q5 c5) := HP6.out.up k7'
          have HQ7 : Hid (AK w7 L q4 c4) := HQ6.out.up k7'
          clear k6 k7' HS6 HR6 HP6 HQ6
          go_wp2_with fail
          refine (AK.same HQ7.out HP7.out).mono ?_
          rintro _ w8 ⟨rfl, k8'⟩
          rw [(sameNd_iff L L).2 rfl]
          have k8 := kqt k7 k8'
          have HS8 : Hid (AK w8 a q6 c6) := HS7.out.up k8'
          have HR8 : Hid (AK w8 R q2 c2) := HR7.out.up k8'
          clear k7 k8' HS7 HR7 HP7 HQ7
          go_wp2_with fail
          refine (AK.same HS8.out (HA.out.up k8)).mono ?_
          rintro _ w9 ⟨rfl, k9'⟩
          rw [(sameNd_iff a a).2 rfl]
          have k9 := kqt k8 k9'
          have HR9 : Hid (AK w9 R q2 c2) := HR8.out.up k9'
          clear k8 k9' HS8 HR8
          go_wp2_with fail
          refine (AK.same HR9.out (HA.out.up k9)).mono ?_
          rintro _ w10 ⟨rfl, k10'⟩
          have k10 := kqt k9 k10'
          clear k9 k10' HR9 HT
          generalize sameNd R a = ss
          cases ss
          all_goals
            go_wp2
            go_ret
            exact ⟨rfl, k10⟩
        · go_enter Try.func5, Try.ntmps5
          go_wp2_with fail
          refine (joined_any w).mono ?_
          rintro _ w1 ⟨rfl, k1⟩
          go_wp2_with fail
          refine (HJ.out.calls (HA.out.up k1) (HB.out.up k1)).mono ?_
          rintro _ w2 ⟨⟨q2, c2, rfl, hR2⟩, k2'⟩
          have k2 := kqt k1 k2'
          have HR2 : Hid (AK w2 (z :: m.flat) q2 c2) := hR2
          clear k1 k2' hR2
          rw [← HRe.out] at HR2 ⊢
          go_wp2_with fail
          refine (HK.out.calls (HB.out.up k2) (HC.out.up k2)).mono ?_
          rintro _ w3 ⟨⟨q3, c3, rfl, hQ3⟩, k3'⟩
          have k3 := kqt k2 k3'
          have HQ3 : Hid (AK w3 (z' :: m'.flat) q3 c3) := hQ3
          have HR3 : Hid (AK w3 R q2 c2) := HR2.out.up k3'
          clear k2 k3' hQ3 HR2
          rw [← HQe.out] at HQ3 ⊢
          go_wp2_with fail
          refine (HP.out.calls HR3.out (HC.out.up k3)).mono ?_
          rintro _ w4 ⟨⟨q4, c4, rfl, hP4⟩, k4'⟩
          have k4 := kqt k3 k4'
          rw [HLe.out] at hP4 ⊢
          have HP4 : Hid (AK w4 L q4 c4) := hP4
          have HR4 : Hid (AK w4 R q2 c2) := HR3.out.up k4'
          have HQ4 : Hid (AK w4 Q q3 c3) := HQ3.out.up k4'
          clear k3 k4' hP4 HR3 HQ3
          go_wp2_with fail
          refine (hO w4 _ _ _ _ (HA.out.up k4) HQ4.out).mono ?_
          rintro _ w5 ⟨rfl, k5'⟩
          have k5 := kqt k4 k5'
          clear hO
          go_wp2
          go_ret
          exact ⟨rfl, k5⟩
      · rcases join_ways a Q with ⟨x3, y3, k3_, l3, z3, m3, hN⟩ | ⟨n3, hO⟩
        · have HN : Hid (JoinsTo a Q x3 y3 k3_ l3 z3 m3) := hN
          clear hN
          go_enter Try.func5, Try.ntmps5
          go_wp2_with fail
          refine (joined_any w).mono ?_
          rintro _ w1 ⟨rfl, k1⟩
          go_wp2_with fail
          refine (HJ.out.calls (HA.out.up k1) (HB.out.up k1)).mono ?_
          rintro _ w2 ⟨⟨q2, c2, rfl, hR2⟩, k2'⟩
          have k2 := kqt k1 k2'
          have HR2 : Hid (AK w2 (z :: m.flat) q2 c2) := hR2
          clear k1 k2' hR2
          rw [← HRe.out] at HR2 ⊢
          go_wp2_with fail
          refine (HK.out.calls (HB.out.up k2) (HC.out.up k2)).mono ?_
          rintro _ w3 ⟨⟨q3, c3, rfl, hQ3⟩, k3'⟩
          have k3 := kqt k2 k3'
          have HQ3 : Hid (AK w3 (z' :: m'.flat) q3 c3) := hQ3
          have HR3 : Hid (AK w3 R q2 c2) := HR2.out.up k3'
          clear k2 k3' hQ3 HR2
          rw [← HQe.out] at HQ3 ⊢
          go_wp2_with fail
          refine (hM w3 _ _ _ _ HR3.out (HC.out.up k3)).mono ?_
          rintro _ w4 ⟨rfl, k4'⟩
          have k4 := kqt k3 k4'
          have HQ4 : Hid (AK w4 Q q3 c3) := HQ3.out.up k4'
          clear k3 k4' hM HR3 HQ3
          go_wp2_with fail
          refine (HN.out.calls (HA.out.up k4) HQ4.out).mono ?_
          rintro _ w5 ⟨⟨q5, c5, rfl, hP5⟩, k5'⟩
          have k5 := kqt k4 k5'
          go_wp2
          go_ret
          exact ⟨rfl, k5⟩
        · go_enter Try.func5, Try.ntmps5
          go_wp2_with fail
          refine (joined_any w).mono ?_
          rintro _ w1 ⟨rfl, k1⟩
          go_wp2_with fail
          refine (HJ.out.calls (HA.out.up k1) (HB.out.up k1)).mono ?_
          rintro _ w2 ⟨⟨q2, c2, rfl, hR2⟩, k2'⟩
          have k2 := kqt k1 k2'
          have HR2 : Hid (AK w2 (z :: m.flat) q2 c2) := hR2
          clear k1 k2' hR2
          rw [← HRe.out] at HR2 ⊢
          go_wp2_with fail
          refine (HK.out.calls (HB.out.up k2) (HC.out.up k2)).mono ?_
          rintro _ w3 ⟨⟨q3, c3, rfl, hQ3⟩, k3'⟩
          have k3 := kqt k2 k3'
          have HQ3 : Hid (AK w3 (z' :: m'.flat) q3 c3) := hQ3
          have HR3 : Hid (AK w3 R q2 c2) := HR2.out.up k3'
          clear k2 k3' hQ3 HR2
          rw [← HQe.out] at HQ3 ⊢
          go_wp2_with fail
          refine (hM w3 _ _ _ _ HR3.out (HC.out.up k3)).mono ?_
          rintro _ w4 ⟨rfl, k4'⟩
          have k4 := kqt k3 k4'
          have HQ4 : Hid (AK w4 Q q3 c3) := HQ3.out.up k4'
          clear k3 k4' hM HR3 HQ3
          go_wp2_with fail
          refine (hO w4 _ _ _ _ (HA.out.up k4) HQ4.out).mono ?_
          rintro _ w5 ⟨rfl, k5'⟩
          have k5 := kqt k4 k5'
          clear hO
          go_wp2
          go_ret
          exact ⟨rfl, k5⟩
    · go_enter Try.func5, Try.ntmps5
      go_wp2_with fail
      refine (joined_any w).mono ?_
      rintro _ w1 ⟨rfl, k1⟩
      go_wp2_with fail
      refine (HJ.out.calls (HA.out.up k1) (HB.out.up k1)).mono ?_
      rintro _ w2 ⟨⟨q2, c2, rfl, hR2⟩, k2'⟩
      have k2 := kqt k1 k2'
      have HR2 : Hid (AK w2 (z :: m.flat) q2 c2) := hR2
      clear k1 k2' hR2
      rw [← HRe.out] at HR2 ⊢
      go_wp2_with fail
      refine (hG w2 _ _ _ _ (HB.out.up k2) (HC.out.up k2)).mono ?_
      rintro _ w3 ⟨rfl, k3'⟩
      have k3 := kqt k2 k3'
      clear hG
      go_wp2
      go_ret
      exact ⟨rfl, k3⟩
  · rcases join_ways b c with ⟨y', t, l', o, z', m', hK⟩ | ⟨n, hG⟩
    · have HK : Hid (JoinsTo b c y' t l' o z' m') := hK
      clear hK
      go_enter Try.func5, Try.ntmps5
      go_wp2_with fail
      refine (joined_any w).mono ?_
      rintro _ w1 ⟨rfl, k1⟩
      go_wp2_with fail
      refine (hE w1 _ _ _ _ (HA.out.up k1) (HB.out.up k1)).mono ?_
      rintro _ w2 ⟨rfl, k2'⟩
      have k2 := kqt k1 k2'
      clear k1 k2' hE
      go_wp2_with fail
      refine (HK.out.calls (HB.out.up k2) (HC.out.up k2)).mono ?_
      rintro _ w3 ⟨⟨q3, c3, rfl, hQ3⟩, k3'⟩
      have k3 := kqt k2 k3'
      go_wp2
      go_ret
      exact ⟨rfl, k3⟩
    · go_enter Try.func5, Try.ntmps5
      go_wp2_with fail
      refine (joined_any w).mono ?_
      rintro _ w1 ⟨rfl, k1⟩
      go_wp2_with fail
      refine (hE w1 _ _ _ _ (HA.out.up k1) (HB.out.up k1)).mono ?_
      rintro _ w2 ⟨rfl, k2'⟩
      have k2 := kqt k1 k2'
      clear k1 k2' hE
      go_wp2_with fail
      refine (hG w2 _ _ _ _ (HB.out.up k2) (HC.out.up k2)).mono ?_
      rintro _ w3 ⟨rfl, k3'⟩
      have k3 := kqt k2 k3'
      clear hG
      go_wp2
      go_ret
      exact ⟨rfl, k3⟩
end Go.Proofs.Ytjbjheeigdblkaa
