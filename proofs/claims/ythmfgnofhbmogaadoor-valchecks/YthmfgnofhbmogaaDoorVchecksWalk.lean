/- ValChecks: the walk of the statement's own function. -/
import Derived.Test.YthmfgnofhbmogaaDoorCheck
import Derived.Test.YthmfgnofhbmogaaDoorFaults
import Derived.Test.YthmfgnofhbmogaaDoorToldWalk
namespace Go.Proofs.YthmfgnofhbmogaaDoor
open Go.RowKit
set_option linter.unusedVariables false

theorem btw2 {a b c : World} (h : Below a.heap.size a b) (k : Below b.heap.size b c) : Below a.heap.size a c := h.trans (k.mono h.size)
theorem errV_up {w w' : World} (h : ErrVar w) (hb : Below w.heap.size w w') : ErrVar w' := errVar_below h hb (Nat.le_refl _)
theorem told_any (n m : Int) (w : World) (hg : ErrVar w) : Calls Tryd.prog 8 #[eV n, .int .i64 m] w fun e w' => e = .returned (.bool (n == m)) ∧ Below w.heap.size w w' := same_any n m w hg

theorem pair_lists {w : World} {v u : List Nd} {p q : Option Addr} {c d : Nat} {T : TypeId} (hv : NL w p v) (hu : NL w q u) (hc : v.length ≤ c) (hcm : c ≤ maxLen) (hd : u.length ≤ d) (hdm : d ≤ maxLen) :
    LL (w.alloc (.cells #[.slice p v.length c, .slice q u.length d] T)) (some ⟨w.heap.size, 0, none⟩) [v, u] := by
  have hb : Below w.heap.size w (w.alloc (.cells #[.slice p v.length c, .slice q u.length d] T)) := (Below.refl _ _).alloc (Nat.le_refl _) _
  refine .inr ⟨_, _, rfl, by simp, fun i x hx => ?_⟩
  rcases i with _ | _ | i
  · simp at hx; subst hx
    exact ⟨p, c, by simp [go_sem], hv.up hb, hc, hcm⟩
  · simp at hx; subst hx
    exact ⟨q, d, by simp [go_sem], hu.up hb, hd, hdm⟩
  · simp at hx

theorem ffault_pair (v u : List Nd) : ffault [v, u] = cmpE v u := by
  unfold cmpE; simp only [ffault]
  by_cases h : vfault v = 0
  · rw [if_pos h, if_pos h]; by_cases k : vfault u = 0
    · rw [if_pos k, k]
    · rw [if_neg k]
  · rw [if_neg h, if_neg h]
theorem vfault_nil : vfault [] = 1 := by decide

set_option maxRecDepth 100000 in
set_option maxHeartbeats 4000000 in
theorem vchecks_walk (v u : List Nd) (p q : Option Addr) (c d : Nat) (w : World) (hE : ErrVar w) (hv : NL w p v) (hu : NL w q u) (hc : v.length ≤ c) (hcm : c ≤ maxLen) (hd : u.length ≤ d) (hdm : d ≤ maxLen) :
    Calls Tryd.prog 3 #[.slice p v.length c, .slice q u.length d] w fun e w' => e = .returned (.bool true) ∧ Below w.heap.size w w' := by
  have lv := Nat.le_trans hc hcm
  have lu := Nat.le_trans hd hdm
  go_enter Tryd.func3, Tryd.ntmps3
  go_wp2_with fail
  refine (valueFault_any v p c _ hv hc hcm).mono ?_
  rintro e w1 ⟨rfl, k1⟩
  go_wp2_with fail
  refine (vcheck_any v p c _ (hv.up k1) hc hcm).mono ?_
  rintro e w2 ⟨rfl, k2'⟩
  have k2 := btw2 k1 k2'
  go_wp2_with fail
  refine (told_any _ _ _ (errV_up hE k2)).mono ?_
  rintro e w3 ⟨rfl, k3'⟩
  have k3 := btw2 k2 k3'
  clear k1 k2 k2' k3'
  go_wp2_with fail
  have hp := faults_any [v, u] (some ⟨w3.heap.size, 0, none⟩) 2 _ (pair_lists (T := 22) (hv.up k3) (hu.up k3) hc hcm hd hdm) (by simp [maxLen])
  refine hp.mono ?_
  rintro e w4 ⟨rfl, k4'⟩
  have k4 : Below w.heap.size w w4 := btw2 (k3.alloc k3.size _) k4'
  rw [ffault_pair]
  clear k3 k4' hp
  have HE : Hid (cmpN v u = if cmpE v u = 0 then lsC v u else 0) := by
    show _ = _
    unfold cmpN cmpE
    by_cases h : vfault v = 0
    · simp [h]
    · simp [h]
  have self1 : (vfault v == vfault v) = true := by simp
  have self2 : (cmpE v u == cmpE v u) = true := by simp
  have self3 : (cmpN v u == cmpN v u) = true := by simp
  by_cases h0 : cmpE v u = 0
  · have h0' : (cmpE v u == 0) = true := by simpa using h0
    have HN : Hid (lsC v u = cmpN v u) := by show _ = _; rw [HE.out, if_pos h0]
    clear h0
    go_wp2_with fail
    refine (refNodes_any v u p q c d _ (hv.up k4) (hu.up k4) lv lu).mono ?_
    rintro e w5 ⟨rfl, n5, rfl⟩
    have k5 := below_nn k4 n5
    rw [HN.out]
    generalize w4.drewN n5 = w5 at *
    go_wp2_with fail
    refine (vcompare_any v u p q c d _ (hv.up k5) (hu.up k5) hc hcm hd hdm).mono ?_
    rintro e w6 ⟨rfl, k6'⟩
    have k6 := btw2 k5 k6'
    go_wp2_with fail
    refine (told_any _ _ _ (errV_up hE k6)).mono ?_
    rintro e w7 ⟨rfl, k7'⟩
    have k7 := btw2 k6 k7'
    go_wp2_with fail
    refine (vcheck_any [] none 0 _ (.inl rfl) (Nat.le_refl _) (Nat.zero_le _)).mono ?_
    rintro e w8 ⟨rfl, k8'⟩
    have k8 := btw2 k7 k8'
    rw [vfault_nil]
    go_wp2_with fail
    refine (told_any 1 1 _ (errV_up hE k8)).mono ?_
    rintro e w9 ⟨rfl, k9'⟩
    have k9 := btw2 k8 k9'
    clear k4 k5 k6 k7 k8 k6' k7' k8' k9' h0'
    go_wp2
    go_ret
    exact ⟨rfl, k9⟩
  · have h0' : (cmpE v u == 0) = false := by simpa using h0
    have HN : Hid (cmpN v u = 0) := by show _ = _; rw [HE.out, if_neg h0]
    clear h0
    go_wp2_with fail
    refine (vcompare_any v u p q c d _ (hv.up k4) (hu.up k4) hc hcm hd hdm).mono ?_
    rintro e w6 ⟨rfl, k6'⟩
    have k6 := btw2 k4 k6'
    rw [HN.out]
    go_wp2_with fail
    refine (told_any _ _ _ (errV_up hE k6)).mono ?_
    rintro e w7 ⟨rfl, k7'⟩
    have k7 := btw2 k6 k7'
    go_wp2_with fail
    refine (vcheck_any [] none 0 _ (.inl rfl) (Nat.le_refl _) (Nat.zero_le _)).mono ?_
    rintro e w8 ⟨rfl, k8'⟩
    have k8 := btw2 k7 k8'
    rw [vfault_nil]
    go_wp2_with fail
    refine (told_any 1 1 _ (errV_up hE k8)).mono ?_
    rintro e w9 ⟨rfl, k9'⟩
    have k9 := btw2 k8 k9'
    clear k4 k6 k7 k8 k6' k7' k8' k9' h0'
    go_wp2
    go_ret
    exact ⟨rfl, k9⟩
end Go.Proofs.YthmfgnofhbmogaaDoor
