/- ValOrder: the walk of the statement's own function. -/
import Derived.Test.YthmfgnofhbmogaaCompare
import Derived.Test.YthmfgnofhbmogaaSame
namespace Go.Proofs.Ythmfgnofhbmogaa
open Go.RowKit
set_option linter.unusedVariables false

theorem num1_any (n : Int) (hn : n ≤ 9223372036854775807) (w : World) :
    Calls Try.prog 6 #[.int .i64 n] w fun e w' => (∃ p, e = .returned (.slice p [(⟨2, n, ⟨#[]⟩, ⟨#[]⟩⟩ : Nd)].length 1) ∧ NL w' p [⟨2, n, ⟨#[]⟩, ⟨#[]⟩⟩]) ∧ Below w.heap.size w w' := by
  go_enter Try.func6, Try.ntmps6
  go_wp2
  go_ret
  refine ⟨⟨_, rfl, .inr ⟨_, _, rfl, by simp, fun i x hx => ?_⟩⟩, (Below.refl _ _).alloc (Nat.le_refl _) _⟩
  rcases i with _ | i
  · simp at hx
    subst hx
    simp [go_sem, Nd.wf, maxLen]
    exact hn
  · simp at hx

theorem below2 {a b c : World} (h : Below a.heap.size a b) (k : Below b.heap.size b c) : Below a.heap.size a c := h.trans (k.mono h.size)
theorem below_n {a b : World} (h : Below a.heap.size a b) (n : Nat) : Below a.heap.size a (b.drewN n) := ⟨h.os, h.tape, h.output, h.size, h.block⟩

theorem cmpE_zero {a b : List Nd} (h : cmpE a b = 0) : vfault a = 0 ∧ vfault b = 0 := by
  unfold cmpE at h
  split at h
  · exact ⟨‹_›, h⟩
  · exact absurd h ‹_›
theorem cmpE_of {a b : List Nd} (h : vfault a = 0) (k : vfault b = 0) : cmpE a b = 0 := by unfold cmpE; rw [if_pos h, k]
theorem cmpN_of {a b : List Nd} (h : vfault a = 0) (k : vfault b = 0) : cmpN a b = lsC a b := if_pos ⟨h, k⟩

theorem fact_order : cmpN [(⟨2, 5, ⟨#[]⟩, ⟨#[]⟩⟩ : Nd)] [⟨2, -3, ⟨#[]⟩, ⟨#[]⟩⟩] = 1 ∧ cmpE [(⟨2, 5, ⟨#[]⟩, ⟨#[]⟩⟩ : Nd)] [⟨2, -3, ⟨#[]⟩, ⟨#[]⟩⟩] = 0 := by
  decide

set_option maxHeartbeats 4000000 in
theorem vorder_walk (a b c : List Nd) (p q r : Option Addr) (ca cb cc : Nat) (w : World) (ha : NL w p a) (hb : NL w q b) (hc : NL w r c) (la : a.length ≤ ca) (lb : b.length ≤ cb) (lc : c.length ≤ cc) (ma : ca ≤ maxLen) (mb : cb ≤ maxLen) (mc : cc ≤ maxLen) :
    Calls Try.prog 3 #[.slice p a.length ca, .slice q b.length cb, .slice r c.length cc] w fun e w' => e = .returned (.bool true) ∧ Below w.heap.size w w' := by
  have na : a.length ≤ maxLen := Nat.le_trans la ma
  have nb : b.length ≤ maxLen := Nat.le_trans lb mb
  go_enter Try.func3, Try.ntmps3
  go_wp2_with fail
  refine (num1_any 5 (by decide) _).mono ?_
  rintro e w1 ⟨⟨p5, rfl, h5⟩, k1⟩
  go_wp2_with fail
  refine (num1_any (-3) (by decide) _).mono ?_
  rintro e w2 ⟨⟨p3, rfl, h3⟩, k2'⟩
  have k2 := below2 k1 k2'
  go_wp2_with fail
  refine (vcompare_any _ _ p5 p3 1 1 _ (h5.up k2') h3 (by simp) (by decide) (by simp) (by decide)).mono ?_
  rintro e w3 ⟨rfl, k3'⟩
  have k3 := below2 k2 k3'
  rw [fact_order.1, fact_order.2, eV_zero]
  clear k1 k2 k2' k3' h5 h3
  go_wp2_with fail
  refine (vcompare_any a b _ _ _ _ _ (ha.up k3) (hb.up k3) la ma lb mb).mono ?_
  rintro e w4 ⟨rfl, k4'⟩
  have k4 := below2 k3 k4'
  go_wp2_with fail
  refine (vcompare_any b a _ _ _ _ _ (hb.up k4) (ha.up k4) lb mb la ma).mono ?_
  rintro e w5 ⟨rfl, k5'⟩
  have k5 := below2 k4 k5'
  go_wp2_with fail
  refine (vcompare_any b c _ _ _ _ _ (hb.up k5) (hc.up k5) lb mb lc mc).mono ?_
  rintro e w6 ⟨rfl, k6'⟩
  have k6 := below2 k5 k6'
  go_wp2_with fail
  refine (vcompare_any a c _ _ _ _ _ (ha.up k6) (hc.up k6) la ma lc mc).mono ?_
  rintro e w7 ⟨rfl, k7'⟩
  have k7 := below2 k6 k7'
  clear k3 k4 k5 k6 k4' k5' k6' k7'
  by_cases h1 : cmpE a b = 0
  · by_cases h3 : cmpE b c = 0
    · obtain ⟨fa, fb⟩ := cmpE_zero h1
      obtain ⟨_, fc⟩ := cmpE_zero h3
      rw [h1, h3, cmpE_of fb fa, cmpE_of fa fc, cmpN_of fa fb, cmpN_of fb fa, cmpN_of fb fc, cmpN_of fa fc, eV_zero]
      have hn := lsC_is.neg b a
      have hr := lsC_is.range a b
      have ht := lsC_is.trans a b c
      have HS : Hid (sameNd a b = decide (lsC a b = 0)) := rfl
      have hsm := fun w h1 h2 => sameNodes_any a b p q ca cb w h1 h2 na nb
      rw [HS.out] at hsm
      clear h1 h3 fa fb fc HS
      generalize lsC a b = x at *
      generalize lsC b a = y at *
      generalize lsC b c = u at *
      generalize lsC a c = v at *
      subst hn
      go_wp2_with fail
      refine (hsm _ (ha.up k7) (hb.up k7)).mono ?_
      rintro e w8 ⟨rfl, n8, rfl⟩
      have k8 := below_n k7 n8
      clear hsm
      rcases hr with rfl | rfl | rfl
      · by_cases hu : u ≤ 0
        · have hv : v ≤ 0 := ht (by decide) hu
          clear ht
          go_wp2
          go_ret
          exact ⟨rfl, k8⟩
        · have hu' : decide (u ≤ 0) = false := by simpa using hu
          clear ht
          go_wp2
          go_ret
          exact ⟨rfl, k8⟩
      · by_cases hu : u ≤ 0
        · have hv : v ≤ 0 := ht (by decide) hu
          clear ht
          go_wp2
          go_ret
          exact ⟨rfl, k8⟩
        · have hu' : decide (u ≤ 0) = false := by simpa using hu
          clear ht
          go_wp2
          go_ret
          exact ⟨rfl, k8⟩
      · clear ht
        go_wp2
        go_ret
        exact ⟨rfl, k8⟩
    · rw [h1, eV_zero, eV_not h3]
      go_wp2
      go_ret
      exact ⟨rfl, k7⟩
  · rw [eV_not h1]
    go_wp2
    go_ret
    exact ⟨rfl, k7⟩
end Go.Proofs.Ythmfgnofhbmogaa
