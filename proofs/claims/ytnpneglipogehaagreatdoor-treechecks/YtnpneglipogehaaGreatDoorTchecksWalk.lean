/- TreeChecks: the walk of the statement's own function. -/
import Derived.Test.YtnpneglipogehaaGreatDoorTreeRc
import Derived.Test.YtnpneglipogehaaGreatDoorTreeRn
import Derived.Test.YtnpneglipogehaaGreatDoorTreeVars
import Derived.Test.YtnpneglipogehaaGreatDoorTreeE
import Derived.Test.YtnpneglipogehaaGreatDoorTreeW
import Derived.Test.YtnpneglipogehaaGreatDoorChain
namespace Go.Proofs.YtnpneglipogehaaGreatDoor
open Go.RowKit
set_option linter.unusedVariables false

theorem lit_not (w : World) : NL (w.alloc (.cells #[.int .i64 9, .int .i64 0, .string ⟨#[]⟩, .string ⟨#[]⟩, .int .i64 8, .int .i64 0, .string ⟨#[97]⟩, .string ⟨#[]⟩] 28)) (some ⟨w.heap.size, 0, none⟩) [⟨9, 0, ⟨#[]⟩, ⟨#[]⟩⟩, ⟨8, 0, ⟨#[97]⟩, ⟨#[]⟩⟩] := by
  refine .inr ⟨w.heap.size, 0, rfl, by simp, fun i z hz => ?_⟩
  rcases i with _ | _ | i
  · simp at hz
    subst hz
    simp [go_sem, Nd.wf, maxLen]
  · simp at hz
    subst hz
    simp [go_sem, Nd.wf, maxLen, ByteArray.size]
  · simp at hz
theorem fact_end (g : Nat) (w : World) (hN : NL w (some ⟨g, 0, none⟩) [⟨9, 0, ⟨#[]⟩, ⟨#[]⟩⟩, ⟨8, 0, ⟨#[97]⟩, ⟨#[]⟩⟩]) :
    Calls Tryz.prog 4 #[.slice (some ⟨g, 0, none⟩) 2 2, .int .i64 0] w fun e w' => e = .returned (.tuple #[.int .i64 2, .nilIface]) ∧ Below w.heap.size w w' :=
  tend_ok [⟨9, 0, ⟨#[]⟩, ⟨#[]⟩⟩, ⟨8, 0, ⟨#[97]⟩, ⟨#[]⟩⟩] (some ⟨g, 0, none⟩) 2 0 w hN (by unfold maxLen; decide) (by decide) (by decide) (by decide) [] (by rfl)
theorem bta2 {a b : World} (h : Below a.heap.size a b) (o : Obj) : Below a.heap.size a (b.alloc o) := bt2 h ((Below.refl _ _).alloc (Nat.le_refl _) o)
theorem vars_sizes {v : List Nd} {w : World} {p : Option Addr} (hv : NL w p v) : ∀ z ∈ vars v, z.size ≤ maxLen := by
  intro z hz
  obtain ⟨x, hx, _, rfl⟩ := mem_vars.1 hz
  obtain ⟨i, hi, rfl⟩ := List.mem_iff_getElem.1 hx
  obtain ⟨_, _, _, _, _, _, _, _, xw⟩ := hv.at hi
  exact xw.1

set_option maxRecDepth 100000 in
set_option maxHeartbeats 1000000 in
theorem treeChecks_any (v : List Nd) (p : Option Addr) (c : Nat) (a : Int) (w : World) (hE : ErrVar w) (hv : NL w p v) (hl : v.length ≤ maxLen) :
    Calls Tryz.prog 3 #[.slice p v.length c, .int .i64 a] w fun e' w' => e' = .returned (.bool true) ∧ Below w.heap.size w w' := by
  have A1 := fun w' (k : Below w.heap.size w w') => refFault_any v p c w' (hv.up k) hl
  have A2 := fun w' (k : Below w.heap.size w w') => tcheck_any v p c w' (hv.up k) hl
  have TT := fun n w' (k : Below w.heap.size w w') => toldE_any n n w' (ev_up hE k)
  go_enter Tryz.func3, Tryz.ntmps3
  go_wp2_with fail
  refine (name_fn _ _).mono ?_
  rintro e0 w1 ⟨rfl, k1⟩
  go_wp2_with fail
  refine (fact_end w1.heap.size _ (lit_not w1)).mono ?_
  rintro e0 w2 ⟨rfl, k2'⟩
  have k2 := bt2 (bta2 k1 _) k2'
  clear k1 k2'
  go_wp2_with fail
  refine (A1 _ k2).mono ?_
  rintro e0 w3 ⟨rfl, k3'⟩
  have k3 := bt2 k2 k3'
  clear k2 k3' A1
  go_wp2_with fail
  refine (A2 _ k3).mono ?_
  rintro e0 w4 ⟨rfl, k4'⟩
  have k4 := bt2 k3 k4'
  clear k3 k4' A2
  have T1 := TT (xfault v) w4 k4
  rw [show (xfault v == xfault v) = true by simp] at T1
  by_cases h : xfault v = 0
  · rw [h, eV_zero] at T1 ⊢
    have hvl := (xfault_zero h).1
    have hvv := xfault_all h
    have A3 := fun w' (k : Below w.heap.size w w') => refNames_any v p c w' (hv.up k) hvl (fun z hz => by
      obtain ⟨x, hx, h8, rfl⟩ := mem_vars.1 hz
      exact var_ne (hvv x hx) h8) (vars_sizes hv)
    have A4 := fun w' (k : Below w.heap.size w w') => tvars_ok v p c w' (hv.up k) h
    have hnl := nms_length v
    go_wp2_with fail
    refine T1.mono ?_
    rintro e0 w5 ⟨rfl, k5'⟩
    have k5 := bt2 k4 k5'
    clear k4 k5' T1
    go_wp2_with fail
    refine (A3 _ k5).mono ?_
    rintro e0 w6 ⟨⟨q6, d6, rfl, t6, l6, l6'⟩, k6'⟩
    have k6 := bt2 k5 k6'
    clear k5 k6' A3
    go_wp2_with fail
    refine (A4 _ k6).mono ?_
    rintro e0 w7 ⟨⟨q7, d7, rfl, t7, l7, l7'⟩, k7'⟩
    have k7 := bt2 k6 k7'
    have t6 := t6.up k7'
    clear k6 k7' A4
    have T2 := TT 0 w7 k7
    rw [show ((0 : Int) == 0) = true from rfl, eV_zero] at T2
    go_wp2_with fail
    refine T2.mono ?_
    rintro e0 w8 ⟨rfl, k8'⟩
    have k8 := bt2 k7 k8'
    have S1 := sameTexts_any (nms v) (nms v) q7 q6 d7 d6 w8 (t7.up k8') (t6.up k8') (Nat.le_trans l7 l7') (Nat.le_trans l6 l6')
    rw [decide_eq_true rfl] at S1
    clear k7 k8' T2 t6 t7 l6 l6' l7 l7'
    generalize nms v = nv at *
    go_wp2_with fail
    refine S1.mono ?_
    rintro e0 w9 ⟨rfl, n9, rfl⟩
    have k9 : Below w.heap.size w (w8.drewN n9) := ⟨k8.os, k8.tape, k8.output, k8.size, k8.block⟩
    generalize w8.drewN n9 = w9 at *
    clear k8 S1
    by_cases ha : a < 0 ∨ (v.length : Int) ≤ a
    · have E1 := fun w' (k : Below w.heap.size w w') => tend_none v p c a w' (hv.up k) hl h ha
      rw [eV_not (by decide)] at E1
      have T3 := fun w' (k : Below w.heap.size w w') => TT 3 w' k
      rw [show ((3 : Int) == 3) = true from rfl, eV_not (by decide)] at T3
      have hc : a < 0 ∨ (¬ a < 0 ∧ (v.length : Int) ≤ a) := by omega
      clear ha TT
      rcases hc with h0 | ⟨h0, h1⟩
      all_goals
        go_wp2_with fail
        refine (E1 _ k9).mono ?_
        rintro e0 w10 ⟨rfl, k10'⟩
        have k10 := bt2 k9 k10'
        go_wp2_with fail
        refine (T3 _ k10).mono ?_
        rintro e0 w11 ⟨rfl, k11'⟩
        have k11 := bt2 k10 k11'
        go_wp2
        go_ret
        exact ⟨rfl, k11⟩
    · obtain ⟨k, rfl⟩ : ∃ k : Nat, a = k := ⟨a.toNat, by omega⟩
      have hk : k < v.length := by omega
      have i1 : ¬ (k : Int) < 0 := by omega
      have i2 : (k : Int) < (v.length : Int) := by omega
      have i3 : ¬ v.length ≤ k := by omega
      obtain ⟨b, off, hpe, hbw, x0, x1, x2, x3, xw⟩ := (hv.up k9).at hk
      subst hpe
      by_cases h7 : v[k].op = 7
      · have E1 := fun w' (kk : Below w.heap.size w w') => tend_field v (some ⟨b, off, none⟩) c k w' (hv.up kk) hl h hk h7
        rw [eV_not (by decide)] at E1
        have T3 := fun w' (kk : Below w.heap.size w w') => TT 2 w' kk
        rw [show ((2 : Int) == 2) = true from rfl, eV_not (by decide)] at T3
        have e7 : (v[k].op == 7) = true := by simpa using h7
        generalize v[k] = x at *
        clear ha TT h7
        go_wp2_with fail
        refine (E1 _ k9).mono ?_
        rintro e0 w10 ⟨rfl, k10'⟩
        have k10 := bt2 k9 k10'
        go_wp2_with fail
        refine (T3 _ k10).mono ?_
        rintro e0 w11 ⟨rfl, k11'⟩
        have k11 := bt2 k10 k11'
        go_wp2
        go_ret
        exact ⟨rfl, k11⟩
      · obtain ⟨r, hr⟩ := ex_at h hk h7
        have E1 := fun w' (kk : Below w.heap.size w w') => tend_ok v (some ⟨b, off, none⟩) c k w' (hv.up kk) hl h hk h7 r hr
        have B1 := fun w' (kk : Below w.heap.size w w') => behind_any (v.length + 1) v (some ⟨b, off, none⟩) c k w' (by omega) (by omega) (hv.up kk) hl
        have hrl : r.length ≤ v.length := by have := (pastE_shorter hr).1; simp at this; omega
        rw [hr, endI_some hrl] at B1
        have T3 := fun w' (kk : Below w.heap.size w w') => TT 0 w' kk
        rw [show ((0 : Int) == 0) = true from rfl, eV_zero] at T3
        have e7 : (v[k].op == 7) = false := by simpa using h7
        generalize v.length - r.length = en at *
        generalize v[k] = x at *
        clear ha TT h7 hr hrl
        go_wp2_with fail
        refine (B1 _ k9).mono ?_
        rintro e0 w10 ⟨rfl, k10'⟩
        have k10 := bt2 k9 k10'
        go_wp2_with fail
        refine (E1 _ k10).mono ?_
        rintro e0 w11 ⟨rfl, k11'⟩
        have k11 := bt2 k10 k11'
        go_wp2_with fail
        refine (T3 _ k11).mono ?_
        rintro e0 w12 ⟨rfl, k12'⟩
        have k12 := bt2 k11 k12'
        go_wp2
        go_ret
        exact ⟨rfl, k12⟩
  · have A4 := fun w' (k : Below w.heap.size w w') => tvars_bad v p c w' (hv.up k) hl h
    have E1 := fun w' (k : Below w.heap.size w w') => tend_bad v p c a w' (hv.up k) hl h
    have T2 := fun w' (k : Below w.heap.size w w') => TT (xfault v) w' k
    rw [show (xfault v == xfault v) = true by simp] at T2
    have h0 : (xfault v == 0) = false := by simpa using h
    rw [eV_not h] at T1 A4 E1 T2 ⊢
    clear h TT
    generalize xfault v = f at *
    go_wp2_with fail
    refine T1.mono ?_
    rintro e0 w5 ⟨rfl, k5'⟩
    have k5 := bt2 k4 k5'
    clear k4 k5' T1
    go_wp2_with fail
    refine (A4 _ k5).mono ?_
    rintro e0 w6 ⟨rfl, k6'⟩
    have k6 := bt2 k5 k6'
    clear k5 k6' A4
    go_wp2_with fail
    refine (T2 _ k6).mono ?_
    rintro e0 w7 ⟨rfl, k7'⟩
    have k7 := bt2 k6 k7'
    have S1 := sameTexts_any [] [] none none 0 0 w7 (.inl rfl) (.inl rfl) (Nat.zero_le _) (Nat.zero_le _)
    rw [decide_eq_true rfl] at S1
    clear k6 k7'
    go_wp2_with fail
    refine S1.mono ?_
    rintro e0 w8 ⟨rfl, n8, rfl⟩
    have k8 : Below w.heap.size w (w7.drewN n8) := ⟨k7.os, k7.tape, k7.output, k7.size, k7.block⟩
    generalize w7.drewN n8 = w8 at *
    clear k7 S1
    go_wp2_with fail
    refine (E1 _ k8).mono ?_
    rintro e0 w9 ⟨rfl, k9'⟩
    have k9 := bt2 k8 k9'
    go_wp2_with fail
    refine (T2 _ k9).mono ?_
    rintro e0 w10 ⟨rfl, k10'⟩
    have k10 := bt2 k9 k10'
    go_wp2
    go_ret
    exact ⟨rfl, k10⟩
end Go.Proofs.YtnpneglipogehaaGreatDoor
