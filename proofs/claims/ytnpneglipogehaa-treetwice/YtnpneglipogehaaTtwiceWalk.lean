/- TreeTwice: the walk of the statement's own function. -/
import Derived.Test.YtnpneglipogehaaTreeLit
namespace Go.Proofs.Ytnpneglipogehaa
open Go.RowKit
set_option linter.unusedVariables false

/-- Put ends, whatever it is given: with some list and some error. -/
theorem tput_some (e V : List Nd) (p q : Option Addr) (c c2 : Nat) (s : ByteArray) (w : World) (he : NL w p e) (hV : NL w q V) (hel : e.length ≤ maxLen) (hVl : V.length ≤ maxLen) :
    Calls Try.prog 7 #[.slice p e.length c, .string s, .slice q V.length c2] w fun e' w' => ∃ g n d ev, e' = .returned (.tuple #[.slice g n d, ev]) ∧ Below w.heap.size w w' := by
  by_cases h : pfault e V s = 0
  · refine (tput_ok e V p q c c2 s w he hV h).mono ?_
    rintro e' w' ⟨g, d, rfl, _, _, _, hb⟩
    exact ⟨_, _, _, _, rfl, hb⟩
  · refine (tput_bad e V p q c c2 s w he hV hel hVl h).mono ?_
    rintro e' w' ⟨rfl, hb⟩
    exact ⟨_, _, _, _, rfl, hb⟩
theorem fact_twice (g g2 : Nat) (w : World) (hN : NL w (some ⟨g, 0, none⟩) [nNot, nA]) (hM : NL w (some ⟨g2, 0, none⟩) [nB]) :
    Calls Try.prog 7 #[.slice (some ⟨g, 0, none⟩) 2 2, .string ⟨#[97]⟩, .slice (some ⟨g2, 0, none⟩) 1 1] w fun e w' => (∃ q c, e = .returned (.tuple #[.slice q 2 c, .nilIface]) ∧ NL w' q [nNot, nB]) ∧ Below w.heap.size w w' := by
  have h : pfault [nNot, nA] [nB] tA = 0 := by decide
  have e : putE tA [nB] [nNot, nA] = [nNot, nB] := by rfl
  refine (tput_ok [nNot, nA] [nB] (some ⟨g, 0, none⟩) (some ⟨g2, 0, none⟩) 2 1 tA w hN hM h).mono ?_
  rintro e' w' ⟨q, c, rfl, h1, _, _, hb⟩
  rw [e] at h1 ⊢
  exact ⟨⟨q, c, rfl, h1⟩, hb⟩

set_option maxRecDepth 100000 in
set_option maxHeartbeats 2000000 in
theorem treeTwice_any (e V M : List Nd) (p q r : Option Addr) (c c2 c3 : Nat) (s t : ByteArray) (w : World) (he : NL w p e) (hel : e.length ≤ maxLen) (hV : NL w q V) (hVl : V.length ≤ maxLen) (hM : NL w r M) (hMl : M.length ≤ maxLen) :
    Calls Try.prog 5 #[.slice p e.length c, .string s, .slice q V.length c2, .string t, .slice r M.length c3] w fun e' w' => e' = .returned (.bool true) ∧ Below w.heap.size w w' := by
  go_enter Try.func5, Try.ntmps5
  go_wp2_with fail
  refine (name_fn _ _).mono ?_
  rintro e0 w1 ⟨rfl, k1⟩
  go_wp2_with fail
  refine (name_fn _ _).mono ?_
  rintro e0 w2 ⟨rfl, k2'⟩
  have hN := (lit_two w1 9 0 8 0 ⟨#[]⟩ ⟨#[]⟩ ⟨#[97]⟩ ⟨#[]⟩ (small_wf (by decide) (by decide) (by decide)) (small_wf (by decide) (by decide) (by decide))).up k2'
  have k2 := bt (bta k1 _) k2'
  clear k1 k2'
  go_wp2_with fail
  refine (fact_twice w1.heap.size w2.heap.size _ (hN.up ((Below.refl _ _).alloc (Nat.le_refl _) _)) (lit_one w2 8 0 ⟨#[98]⟩ ⟨#[]⟩ (small_wf (by decide) (by decide) (by decide)))).mono ?_
  rintro e0 w3 ⟨⟨q3, d3, rfl, hx3⟩, k3'⟩
  have k3 := bt (bta k2 _) k3'
  clear k2 k3' hN
  go_wp2_with fail
  refine (name_fn _ _).mono ?_
  rintro e0 w4 ⟨rfl, k4'⟩
  have k4 := bt k3 k4'
  have hx4 := hx3.up k4'
  clear k3 k4' hx3
  have hsm := sameNodes_any [nNot, nB] [nNot, nB] q3 (some ⟨w4.heap.size, 0, none⟩) d3 2 _ (hx4.up ((Below.refl _ _).alloc (Nat.le_refl _) _)) (lit_two w4 9 0 8 0 ⟨#[]⟩ ⟨#[]⟩ ⟨#[98]⟩ ⟨#[]⟩ (small_wf (by decide) (by decide) (by decide)) (small_wf (by decide) (by decide) (by decide))) (by unfold maxLen; decide) (by unfold maxLen; decide)
  rw [(sameNd_iff _ _).2 rfl] at hsm
  have HSM : Hid (Calls Try.prog 10 #[.slice q3 2 d3, .slice (some ⟨w4.heap.size, 0, none⟩) 2 2] _ _) := hsm
  clear hsm hx4
  go_wp2_with fail
  refine HSM.out.mono ?_
  rintro e0 w5 ⟨rfl, n5, rfl⟩
  have k5 := btn (bta k4 (.cells #[.int .i64 9, .int .i64 0, .string ⟨#[]⟩, .string ⟨#[]⟩, .int .i64 8, .int .i64 0, .string ⟨#[98]⟩, .string ⟨#[]⟩] 28)) n5
  clear k4 HSM
  generalize (w4.alloc (.cells #[.int .i64 9, .int .i64 0, .string ⟨#[]⟩, .string ⟨#[]⟩, .int .i64 8, .int .i64 0, .string ⟨#[98]⟩, .string ⟨#[]⟩] 28)).drewN n5 = w5 at *
  have A2 := fun (x : List Nd) g d w' (k : Below w.heap.size w w') (hx : NL w' g x) (hl : x.length ≤ maxLen) => tput_some x M g r d c3 t w' hx (hM.up k) hl hMl
  have A3 := fun w' (k : Below w.heap.size w w') => tput_some e M p r c c3 t w' (he.up k) (hM.up k) hel hMl
  have A4 := fun w' (k : Below w.heap.size w w') => tput_some V M q r c2 c3 t w' (hV.up k) (hM.up k) hVl hMl
  by_cases h1 : pfault e V s = 0
  · have B1 := tput_ok e V p q c c2 s w5 (he.up k5) (hV.up k5) h1
    obtain ⟨f1, f2, f3⟩ := pfault_zero h1
    have hel2 := (xfault_zero f1).1
    have hVl2 := (xfault_zero f2).1
    generalize hX : putE s V e = X at *
    have HX : Hid (_ = _) := hX
    clear hX
    go_wp2_with fail
    refine B1.mono ?_
    rintro e0 w6 ⟨g6, d6, rfl, hx6, _, _, k6'⟩
    have k6 := bt k5 k6'
    clear k5 k6' B1
    by_cases h2 : pfault X M t = 0
    · have B2 := tput_ok X M g6 r d6 c3 t w6 hx6 (hM.up k6) h2
      obtain ⟨_, f4, f5⟩ := pfault_zero h2
      generalize hY : putE t M X = Y at *
      have HY : Hid (_ = _) := hY
      clear hY A2
      go_wp2_with fail
      refine B2.mono ?_
      rintro e0 w7 ⟨g7, d7, rfl, hx7, _, _, k7'⟩
      have k7 := bt k6 k7'
      clear k6 k7' B2 hx6
      by_cases h3 : pfault e M t = 0
      · have B3 := tput_ok e M p r c c3 t w7 (he.up k7) (hM.up k7) h3
        obtain ⟨_, _, f6⟩ := pfault_zero h3
        have HE : Hid (xfault (putE t M e) = 0) := put_isEx f1 f4 f6
        generalize hZ : putE t M e = Z at *
        have HZ : Hid (_ = _) := hZ
        clear hZ A3
        go_wp2_with fail
        refine B3.mono ?_
        rintro e0 w8 ⟨g8, d8, rfl, hx8, _, _, k8'⟩
        have k8 := bt k7 k8'
        have hx7 := hx7.up k8'
        clear k7 k8' B3
        by_cases h4 : pfault V M t = 0
        · have B4 := tput_ok V M q r c2 c3 t w8 (hV.up k8) (hM.up k8) h4
          obtain ⟨_, _, f7⟩ := pfault_zero h4
          have HU : Hid (xfault (putE t M V) = 0) := put_isEx f2 f4 f7
          generalize hU : putE t M V = U at *
          have HU2 : Hid (_ = _) := hU
          clear hU A4
          go_wp2_with fail
          refine B4.mono ?_
          rintro e0 w9 ⟨g9, d9, rfl, hx9, _, _, k9'⟩
          have k9 := bt k8 k9'
          have hx7 := hx7.up k9'
          have hx8 := hx8.up k9'
          clear k8 k9' B4
          by_cases hst : s = t
          · subst hst
            go_wp2
            go_ret
            exact ⟨rfl, k9⟩
          · have hst' : (s.toList == t.toList) = false := by
              rw [beq_eq_false_iff_ne]
              intro h
              exact hst (bytes_inj (by simpa only [ByteArray.toList_eq] using h))
            have B5 := tvars_ok M r c3 w9 (hM.up k9) f4
            have HMV : Hid (∀ z, z ∈ nms M ↔ z ∈ vars M) := fun z => mem_nms
            have HST : Hid (s ≠ t) := hst
            clear hst
            go_wp2_with fail
            refine B5.mono ?_
            rintro e0 w10 ⟨⟨g10, d10, rfl, htl, hl1, hl2⟩, k10'⟩
            have k10 := bt k9 k10'
            have hx7 := hx7.up k10'
            have hx8 := hx8.up k10'
            have hx9 := hx9.up k10'
            clear k9 k10' B5
            have B6 := among_any s (nms M) g10 d10 w10 htl (Nat.le_trans hl1 hl2)
            cases ham : amg s (nms M)
            · rw [ham] at B6
              have hnot : s ∉ vars M := fun h => by
                have := amg_iff.2 ((HMV.out s).2 h)
                rw [ham] at this; cases this
              have HTW : Hid (putE s U Z = Y) := by
                show _ = _
                rw [← HU2.out, ← HZ.out, ← HY.out, ← HX.out]
                exact putE_twice HST.out hnot e
              have h5 : pfault Z U s = 0 := by
                unfold pfault
                rw [if_pos HE.out, if_pos HU.out, HTW.out, if_neg (by omega)]
              have B7 := tput_ok Z U g8 g9 d8 d9 s w10 hx8 hx9 h5
              rw [HTW.out] at B7
              clear ham hnot h5
              go_wp2_with fail
              refine B6.mono ?_
              rintro e0 w11 ⟨rfl, rfl⟩
              go_wp2_with fail
              refine B7.mono ?_
              rintro e0 w12 ⟨g12, d12, rfl, hx12, _, _, k12'⟩
              have k12 := bt k10 k12'
              have hx7 := hx7.up k12'
              have B8 := sameNodes_any Y Y g12 g7 d12 d7 w12 hx12 hx7 (by unfold maxLen; omega) (by unfold maxLen; omega)
              rw [(sameNd_iff _ _).2 rfl] at B8
              clear k10 k12' B6 B7
              go_wp2_with fail
              refine B8.mono ?_
              rintro e0 w13 ⟨rfl, n13, rfl⟩
              have k13 := btn k12 n13
              go_wp2
              go_ret
              exact ⟨rfl, k13⟩
            · rw [ham] at B6
              go_wp2_with fail
              refine B6.mono ?_
              rintro e0 w11 ⟨rfl, rfl⟩
              go_wp2
              go_ret
              exact ⟨rfl, k10⟩
        · have B4 := tput_bad V M q r c2 c3 t w8 (hV.up k8) (hM.up k8) hVl hMl h4
          rw [eV_not h4] at B4
          clear A4
          go_wp2_with fail
          refine B4.mono ?_
          rintro e0 w9 ⟨rfl, k9'⟩
          have k9 := bt k8 k9'
          go_wp2
          go_ret
          exact ⟨rfl, k9⟩
      · have B3 := tput_bad e M p r c c3 t w7 (he.up k7) (hM.up k7) hel hMl h3
        rw [eV_not h3] at B3
        go_wp2_with fail
        refine B3.mono ?_
        rintro e0 w8 ⟨rfl, k8'⟩
        have k8 := bt k7 k8'
        clear k7 k8' B3
        go_wp2_with fail
        refine (A4 _ k8).mono ?_
        rintro e0 w9 ⟨g9, n9, d9, ev9, rfl, k9'⟩
        have k9 := bt k8 k9'
        go_wp2
        go_ret
        exact ⟨rfl, k9⟩
    · have B2 := tput_bad X M g6 r d6 c3 t w6 hx6 (hM.up k6) (by unfold maxLen; omega) hMl h2
      rw [eV_not h2] at B2
      clear A2
      go_wp2_with fail
      refine B2.mono ?_
      rintro e0 w7 ⟨rfl, k7'⟩
      have k7 := bt k6 k7'
      clear k6 k7' B2
      go_wp2_with fail
      refine (A3 _ k7).mono ?_
      rintro e0 w8 ⟨g8, n8, d8, ev8, rfl, k8'⟩
      have k8 := bt k7 k8'
      clear k7 k8' A3
      go_wp2_with fail
      refine (A4 _ k8).mono ?_
      rintro e0 w9 ⟨g9, n9, d9, ev9, rfl, k9'⟩
      have k9 := bt k8 k9'
      go_wp2
      go_ret
      exact ⟨rfl, k9⟩
  · have B1 := tput_bad e V p q c c2 s w5 (he.up k5) (hV.up k5) hel hVl h1
    rw [eV_not h1] at B1
    go_wp2_with fail
    refine B1.mono ?_
    rintro e0 w6 ⟨rfl, k6'⟩
    have k6 := bt k5 k6'
    clear k5 k6' B1
    go_wp2_with fail
    refine (A2 [] none 0 _ k6 (.inl rfl) (Nat.zero_le _)).mono ?_
    rintro e0 w7 ⟨g7, n7, d7, ev7, rfl, k7'⟩
    have k7 := bt k6 k7'
    clear k6 k7' A2
    go_wp2_with fail
    refine (A3 _ k7).mono ?_
    rintro e0 w8 ⟨g8, n8, d8, ev8, rfl, k8'⟩
    have k8 := bt k7 k8'
    clear k7 k8' A3
    go_wp2_with fail
    refine (A4 _ k8).mono ?_
    rintro e0 w9 ⟨g9, n9, d9, ev9, rfl, k9'⟩
    have k9 := bt k8 k9'
    go_wp2
    go_ret
    exact ⟨rfl, k9⟩
end Go.Proofs.Ytnpneglipogehaa
