/- Package tree's Check: by a walk of its own text. -/
import Derived.Test.YtnpneglipogehaaGreatDoorTreeX
namespace Go.Proofs.YtnpneglipogehaaGreatDoor
open Go.RowKit
set_option linter.unusedVariables false

theorem tcheck_any (v : List Nd) (p : Option Addr) (c : Nat) (w : World) (hv : NL w p v) (hl : v.length ≤ maxLen) :
    Calls Tryz.prog 8 #[.slice p v.length c] w fun e w' => e = .returned (eV (xfault v)) ∧ Below w.heap.size w w' := by
  by_cases h : 200 < v.length
  · have HF : Hid (_ = _) := xfault_long h
    have h' : (200 : Int) < (v.length : Int) := by omega
    go_enter Tryz.func8, Tryz.ntmps8
    go_wp2
    go_ret
    exact ⟨by rw [HF.out]; rfl, Below.refl _ _⟩
  · have h' : ¬ (200 : Int) < (v.length : Int) := by omega
    have hc := pastExpr_any (v.length + 1) v p c 0 w (Nat.zero_le _) (by omega) hv hl
    rw [List.drop_zero] at hc
    cases hp : pastE (v.length + 1) v with
    | none =>
      rw [hp] at hc
      have HF : Hid (_ = _) := xfault_bad h (by unfold isEx; rw [hp])
      unfold XE at hc
      simp only [] at hc
      clear hp h
      go_enter Tryz.func8, Tryz.ntmps8
      go_wp2_with fail
      refine hc.mono ?_
      rintro e w1 ⟨rfl, hb⟩
      go_wp2
      go_ret
      exact ⟨by rw [HF.out]; rfl, hb⟩
    | some r =>
      rw [hp] at hc
      have hsh := (pastE_shorter hp).1
      unfold XE at hc
      simp only [] at hc
      cases r with
      | nil =>
        have HF : Hid (_ = _) := xfault_ok h ((isEx_iff v).2 hp)
        rw [List.length_nil, Nat.sub_zero] at hc
        clear hp h hsh
        go_enter Tryz.func8, Tryz.ntmps8
        go_wp2_with fail
        refine hc.mono ?_
        rintro e w1 ⟨rfl, hb⟩
        go_wp2
        go_ret
        exact ⟨by rw [HF.out]; rfl, hb⟩
      | cons y r =>
        have HF : Hid (_ = _) := xfault_bad h (by unfold isEx; rw [hp]; rfl)
        generalize hen : v.length - (y :: r).length = en at *
        have hne : ((en : Int) != (v.length : Int)) = true := by
          rw [List.length_cons] at hen hsh
          simp; omega
        clear hp h hsh hen
        go_enter Tryz.func8, Tryz.ntmps8
        go_wp2_with fail
        refine hc.mono ?_
        rintro e w1 ⟨rfl, hb⟩
        go_wp2
        go_ret
        exact ⟨by rw [HF.out]; rfl, hb⟩
end Go.Proofs.YtnpneglipogehaaGreatDoor
