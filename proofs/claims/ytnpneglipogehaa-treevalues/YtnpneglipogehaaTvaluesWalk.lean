/- TreeValues: the walk of the statement's own function. -/
import Derived.Test.YtnpneglipogehaaTreeLit
namespace Go.Proofs.Ytnpneglipogehaa
open Go.RowKit
set_option linter.unusedVariables false

set_option maxRecDepth 100000 in
set_option maxHeartbeats 1000000 in
theorem treeValues_any (v V : List Nd) (p q : Option Addr) (c c2 : Nat) (s : ByteArray) (w : World) (hv : NL w p v) (hc : v.length ≤ c) (hcm : c ≤ maxLen) (hV : NL w q V) (hVl : V.length ≤ maxLen) :
    Calls Try.prog 6 #[.slice p v.length c, .string s, .slice q V.length c2] w fun e w' => e = .returned (.bool true) ∧ Below w.heap.size w w' := by
  have A1 := fun w' (k : Below w.heap.size w w') => vcheck_any v p c w' (hv.up k) hc hcm
  go_enter Try.func6, Try.ntmps6
  go_wp2_with fail
  refine (name_fn _ _).mono ?_
  rintro e w1 ⟨rfl, k1⟩
  go_wp2_with fail
  refine (fact_vars w1.heap.size _ (lit_two w1 9 0 8 0 ⟨#[]⟩ ⟨#[]⟩ ⟨#[97]⟩ ⟨#[]⟩ (small_wf (by decide) (by decide) (by decide)) (small_wf (by decide) (by decide) (by decide)))).mono ?_
  rintro e w2 ⟨⟨q1, d1, rfl, htl⟩, k2'⟩
  have k2 := bt (bta k1 _) k2'
  clear k2' k1
  have hT : TL (w2.alloc (.cells #[.string ⟨#[97]⟩] 9)) (some ⟨w2.heap.size, 0, none⟩) [tA] := .inr ⟨w2.heap.size, 0, rfl, by simp, fun i s hs => by
    rcases i with _ | i
    · simp at hs; subst hs; simp [go_sem, tA]
    · simp at hs⟩
  have hsm := sameTexts_any [tA] [tA] q1 (some ⟨w2.heap.size, 0, none⟩) d1 1 _ (htl.up ((Below.refl _ _).alloc (Nat.le_refl _) _)) hT (by unfold maxLen; decide) (by unfold maxLen; decide)
  rw [decide_eq_true rfl] at hsm
  have HSM : Hid (Calls Try.prog 16 #[.slice q1 1 d1, .slice (some ⟨w2.heap.size, 0, none⟩) 1 1] (w2.alloc (.cells #[.string ⟨#[97]⟩] 9)) _) := hsm
  clear hsm hT htl
  go_wp2_with fail
  refine HSM.out.mono ?_
  rintro e w3 ⟨rfl, n3, rfl⟩
  have k3 := btn (bta k2 (.cells #[.string ⟨#[97]⟩] 9)) n3
  clear k2 HSM
  generalize (w2.alloc (.cells #[.string ⟨#[97]⟩] 9)).drewN n3 = w3 at *
  by_cases h0 : vfault v = 0
  · rw [eV_nil h0] at A1
    have hx := value_ex h0
    have hno := value_novar h0
    have hnm : nms v = [] := nms_nil hno
    have hput : putE s V v = v := putE_none (fun x hx => isV_op (hno x hx))
    have hvl := (xfault_zero hx).1
    have A2 := fun w' (k : Below w.heap.size w w') => tvars_ok v p c w' (hv.up k) hx
    rw [hnm] at A2
    clear hnm hno
    go_wp2_with fail
    refine (A1 _ k3).mono ?_
    rintro e w4 ⟨rfl, k4'⟩
    have k4 := bt k3 k4'
    clear k3 k4' A1
    go_wp2_with fail
    refine (A2 _ k4).mono ?_
    rintro e w5 ⟨⟨q5, d5, rfl, _, _, _⟩, k5'⟩
    have k5 := bt k4 k5'
    clear k4 k5' A2
    by_cases hpf : pfault v V s = 0
    · have A3 := tput_ok v V p q c c2 s w5 (hv.up k5) (hV.up k5) hpf
      rw [hput] at A3
      have A4 := fun g d w' (k : Below w.heap.size w w') (hN : NL w' g v) => sameNodes_any v v g p d c w' hN (hv.up k) (by unfold maxLen; omega) (by unfold maxLen; omega)
      rw [(sameNd_iff v v).2 rfl] at A4
      clear hpf hx
      go_wp2_with fail
      refine A3.mono ?_
      rintro e w6 ⟨g6, d6, rfl, hN6, _, _, k6'⟩
      have k6 := bt k5 k6'
      have A5 := A4 g6 d6 w6 k6 hN6
      clear k5 k6' A3 A4
      go_wp2_with fail
      refine A5.mono ?_
      rintro e w7 ⟨rfl, n7, rfl⟩
      have k7 := btn k6 n7
      go_wp2
      go_ret
      exact ⟨rfl, k7⟩
    · have A3 := tput_bad v V p q c c2 s w5 (hv.up k5) (hV.up k5) (by unfold maxLen; omega) hVl hpf
      have hV0 : xfault V ≠ 0 := fun h => hpf (by unfold pfault; rw [if_pos hx, if_pos h, hput, if_neg (by omega)])
      have A4 := fun w' (k : Below w.heap.size w w') => tcheck_any V q c2 w' (hV.up k) hVl
      rw [eV_not hV0] at A4
      rw [eV_not hpf] at A3
      clear hV0 hpf hx
      go_wp2_with fail
      refine A3.mono ?_
      rintro e w6 ⟨rfl, k6'⟩
      have k6 := bt k5 k6'
      clear k5 k6' A3
      go_wp2_with fail
      refine (A4 _ k6).mono ?_
      rintro e w7 ⟨rfl, k7'⟩
      have k7 := bt k6 k7'
      go_wp2
      go_ret
      exact ⟨rfl, k7⟩
  · rw [eV_not h0] at A1
    go_wp2_with fail
    refine (A1 _ k3).mono ?_
    rintro e w4 ⟨rfl, k4'⟩
    have k4 := bt k3 k4'
    go_wp2
    go_ret
    exact ⟨rfl, k4⟩
end Go.Proofs.Ytnpneglipogehaa
