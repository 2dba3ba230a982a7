/- Package tree's Check and End: by walks of their own texts. -/
import Derived.Test.YtnpneglipogehaaTreeX
namespace Go.Proofs.Ytnpneglipogehaa
open Go.RowKit
set_option linter.unusedVariables false

theorem ret_ie {a b : Int} {v : Value} (h : a = b) : Ending.returned (.tuple #[.int .i64 a, v]) = .returned (.tuple #[.int .i64 b, v]) := by rw [h]

theorem tcheck_any (v : List Nd) (p : Option Addr) (c : Nat) (w : World) (hv : NL w p v) (hl : v.length ≤ maxLen) :
    Calls Try.prog 12 #[.slice p v.length c] w fun e w' => e = .returned (eV (xfault v)) ∧ Below w.heap.size w w' := by
  by_cases h : 200 < v.length
  · have HF : Hid (_ = _) := xfault_long h
    have h' : (200 : Int) < (v.length : Int) := by omega
    go_enter Try.func12, Try.ntmps12
    go_wp2
    go_ret
    exact ⟨by rw [HF.out]; rfl, Below.refl _ _⟩
  · have h' : ¬ (200 : Int) < (v.length : Int) := by omega
    have hc := pastExpr_any (v.length + 1) v p c 0 w (Nat.zero_le _) (by omega) hv hl
    rw [List.drop_zero] at hc
    cases hp : pastE (v.length + 1) v with
    | none =>
      rw [hp] at hc
      have HF : Hid (_ = _) := xfault_bad h (by unfold isEx; rw [hp])
      unfold XE at hc
      simp only [] at hc
      clear hp h
      go_enter Try.func12, Try.ntmps12
      go_wp2_with fail
      refine hc.mono ?_
      rintro e w1 ⟨rfl, hb⟩
      go_wp2
      go_ret
      exact ⟨by rw [HF.out]; rfl, hb⟩
    | some r =>
      rw [hp] at hc
      have hsh := (pastE_shorter hp).1
      unfold XE at hc
      simp only [] at hc
      cases r with
      | nil =>
        have HF : Hid (_ = _) := xfault_ok h ((isEx_iff v).2 hp)
        rw [List.length_nil, Nat.sub_zero] at hc
        clear hp h hsh
        go_enter Try.func12, Try.ntmps12
        go_wp2_with fail
        refine hc.mono ?_
        rintro e w1 ⟨rfl, hb⟩
        go_wp2
        go_ret
        exact ⟨by rw [HF.out]; rfl, hb⟩
      | cons y r =>
        have HF : Hid (_ = _) := xfault_bad h (by unfold isEx; rw [hp]; rfl)
        generalize hen : v.length - (y :: r).length = en at *
        have hne : ((en : Int) != (v.length : Int)) = true := by
          rw [List.length_cons] at hen hsh
          simp; omega
        clear hp h hsh hen
        go_enter Try.func12, Try.ntmps12
        go_wp2_with fail
        refine hc.mono ?_
        rintro e w1 ⟨rfl, hb⟩
        go_wp2
        go_ret
        exact ⟨by rw [HF.out]; rfl, hb⟩

theorem tend_bad (v : List Nd) (p : Option Addr) (c : Nat) (a : Int) (w : World) (hv : NL w p v) (hl : v.length ≤ maxLen) (h : xfault v ≠ 0) :
    Calls Try.prog 14 #[.slice p v.length c, .int .i64 a] w fun e w' => e = .returned (.tuple #[.int .i64 0, eV (xfault v)]) ∧ Below w.heap.size w w' := by
  have hc := tcheck_any v p c w hv hl
  rw [eV_not h] at hc ⊢
  go_enter Try.func14, Try.ntmps14
  go_wp2_with fail
  refine hc.mono ?_
  rintro e w1 ⟨rfl, hb⟩
  go_wp2
  go_ret2
  exact ⟨rfl, hb⟩
theorem tend_none (v : List Nd) (p : Option Addr) (c : Nat) (a : Int) (w : World) (hv : NL w p v) (hl : v.length ≤ maxLen) (h : xfault v = 0) (ha : a < 0 ∨ (v.length : Int) ≤ a) :
    Calls Try.prog 14 #[.slice p v.length c, .int .i64 a] w fun e w' => e = .returned (.tuple #[.int .i64 0, eV 3]) ∧ Below w.heap.size w w' := by
  have hc := tcheck_any v p c w hv hl
  rw [eV_nil h] at hc
  by_cases h0 : a < 0
  · clear ha
    go_enter Try.func14, Try.ntmps14
    go_wp2_with fail
    refine hc.mono ?_
    rintro e w1 ⟨rfl, hb⟩
    go_wp2
    go_ret2
    exact ⟨rfl, hb⟩
  · have h1 : (v.length : Int) ≤ a := by omega
    clear ha
    go_enter Try.func14, Try.ntmps14
    go_wp2_with fail
    refine hc.mono ?_
    rintro e w1 ⟨rfl, hb⟩
    go_wp2
    go_ret2
    exact ⟨rfl, hb⟩
theorem tend_field (v : List Nd) (p : Option Addr) (c k : Nat) (w : World) (hv : NL w p v) (hl : v.length ≤ maxLen) (h : xfault v = 0) (hk : k < v.length) (h7 : v[k].op = 7) :
    Calls Try.prog 14 #[.slice p v.length c, .int .i64 k] w fun e w' => e = .returned (.tuple #[.int .i64 0, eV 2]) ∧ Below w.heap.size w w' := by
  have hc := tcheck_any v p c w hv hl
  rw [eV_nil h] at hc
  obtain ⟨b, off, rfl, hbw, x0, x1, x2, x3, xw⟩ := hv.at hk
  generalize v[k] = x at *
  have e7 : (x.op == 7) = true := by simpa using h7
  have i1 : (k : Int) < (v.length : Int) := by omega
  have i2 : ¬ (k : Int) < 0 := by omega
  clear h7
  go_enter Try.func14, Try.ntmps14
  go_wp2_with fail
  refine hc.mono ?_
  rintro e w1 ⟨rfl, hb⟩
  have z0 := (hb.cell (p := ⟨b, off + k * 4, none⟩) hbw).trans x0
  clear x0 x1 x2 x3
  go_wp2
  go_ret2
  exact ⟨rfl, hb⟩
theorem tend_ok (v : List Nd) (p : Option Addr) (c k : Nat) (w : World) (hv : NL w p v) (hl : v.length ≤ maxLen) (h : xfault v = 0) (hk : k < v.length) (h7 : v[k].op ≠ 7) (r : List Nd) (hr : pastE (v.length + 1) (v.drop k) = some r) :
    Calls Try.prog 14 #[.slice p v.length c, .int .i64 k] w fun e w' => e = .returned (.tuple #[.int .i64 ((v.length - r.length : Nat) : Int), .nilIface]) ∧ Below w.heap.size w w' := by
  have hc := tcheck_any v p c w hv hl
  rw [eV_nil h] at hc
  have hx := fun w1 (hb : Below w.heap.size w w1) => pastExpr_any (v.length + 1) v p c k w1 (by omega) (by omega) (hv.up hb) hl
  rw [hr] at hx
  unfold XE at hx
  simp only [] at hx
  obtain ⟨b, off, rfl, hbw, x0, x1, x2, x3, xw⟩ := hv.at hk
  generalize v[k] = x at *
  generalize v.length - r.length = en at *
  have e7 : (x.op == 7) = false := by simpa using h7
  have i1 : (k : Int) < (v.length : Int) := by omega
  have i2 : ¬ (k : Int) < 0 := by omega
  clear h7 hr
  go_enter Try.func14, Try.ntmps14
  go_wp2_with fail
  refine hc.mono ?_
  rintro e w1 ⟨rfl, hb⟩
  have z0 := (hb.cell (p := ⟨b, off + k * 4, none⟩) hbw).trans x0
  have hx1 := hx _ hb
  clear x0 x1 x2 x3 hx
  go_wp2_with fail
  refine hx1.mono ?_
  rintro e w2 ⟨rfl, hb2⟩
  go_wp2
  go_ret2
  exact ⟨rfl, hb.trans (hb2.mono hb.size)⟩
end Go.Proofs.Ytnpneglipogehaa
