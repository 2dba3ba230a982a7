/- Package tree's End: by walks of its own text. -/
import Derived.Test.YtnpneglipogehaaGreatDoorTreeC
namespace Go.Proofs.YtnpneglipogehaaGreatDoor
open Go.RowKit
set_option linter.unusedVariables false

theorem tend_bad (v : List Nd) (p : Option Addr) (c : Nat) (a : Int) (w : World) (hv : NL w p v) (hl : v.length ≤ maxLen) (h : xfault v ≠ 0) :
    Calls Tryz.prog 4 #[.slice p v.length c, .int .i64 a] w fun e w' => e = .returned (.tuple #[.int .i64 0, eV (xfault v)]) ∧ Below w.heap.size w w' := by
  have hc := tcheck_any v p c w hv hl
  rw [eV_not h] at hc ⊢
  go_enter Tryz.func4, Tryz.ntmps4
  go_wp2_with fail
  refine hc.mono ?_
  rintro e w1 ⟨rfl, hb⟩
  go_wp2
  go_ret2
  exact ⟨rfl, hb⟩
theorem tend_none (v : List Nd) (p : Option Addr) (c : Nat) (a : Int) (w : World) (hv : NL w p v) (hl : v.length ≤ maxLen) (h : xfault v = 0) (ha : a < 0 ∨ (v.length : Int) ≤ a) :
    Calls Tryz.prog 4 #[.slice p v.length c, .int .i64 a] w fun e w' => e = .returned (.tuple #[.int .i64 0, eV 3]) ∧ Below w.heap.size w w' := by
  have hc := tcheck_any v p c w hv hl
  rw [eV_nil h] at hc
  by_cases h0 : a < 0
  · clear ha
    go_enter Tryz.func4, Tryz.ntmps4
    go_wp2_with fail
    refine hc.mono ?_
    rintro e w1 ⟨rfl, hb⟩
    go_wp2
    go_ret2
    exact ⟨rfl, hb⟩
  · have h1 : (v.length : Int) ≤ a := by omega
    clear ha
    go_enter Tryz.func4, Tryz.ntmps4
    go_wp2_with fail
    refine hc.mono ?_
    rintro e w1 ⟨rfl, hb⟩
    go_wp2
    go_ret2
    exact ⟨rfl, hb⟩
theorem tend_field (v : List Nd) (p : Option Addr) (c k : Nat) (w : World) (hv : NL w p v) (hl : v.length ≤ maxLen) (h : xfault v = 0) (hk : k < v.length) (h7 : v[k].op = 7) :
    Calls Tryz.prog 4 #[.slice p v.length c, .int .i64 k] w fun e w' => e = .returned (.tuple #[.int .i64 0, eV 2]) ∧ Below w.heap.size w w' := by
  have hc := tcheck_any v p c w hv hl
  rw [eV_nil h] at hc
  obtain ⟨b, off, rfl, hbw, x0, x1, x2, x3, xw⟩ := hv.at hk
  generalize v[k] = x at *
  have e7 : (x.op == 7) = true := by simpa using h7
  have i1 : (k : Int) < (v.length : Int) := by omega
  have i2 : ¬ (k : Int) < 0 := by omega
  clear h7
  go_enter Tryz.func4, Tryz.ntmps4
  go_wp2_with fail
  refine hc.mono ?_
  rintro e w1 ⟨rfl, hb⟩
  have z0 := (hb.cell (p := ⟨b, off + k * 4, none⟩) hbw).trans x0
  clear x0 x1 x2 x3
  go_wp2
  go_ret2
  exact ⟨rfl, hb⟩
theorem tend_ok (v : List Nd) (p : Option Addr) (c k : Nat) (w : World) (hv : NL w p v) (hl : v.length ≤ maxLen) (h : xfault v = 0) (hk : k < v.length) (h7 : v[k].op ≠ 7) (r : List Nd) (hr : pastE (v.length + 1) (v.drop k) = some r) :
    Calls Tryz.prog 4 #[.slice p v.length c, .int .i64 k] w fun e w' => e = .returned (.tuple #[.int .i64 ((v.length - r.length : Nat) : Int), .nilIface]) ∧ Below w.heap.size w w' := by
  have hc := tcheck_any v p c w hv hl
  rw [eV_nil h] at hc
  have hx := fun w1 (hb : Below w.heap.size w w1) => pastExpr_any (v.length + 1) v p c k w1 (by omega) (by omega) (hv.up hb) hl
  rw [hr] at hx
  unfold XE at hx
  simp only [] at hx
  obtain ⟨b, off, rfl, hbw, x0, x1, x2, x3, xw⟩ := hv.at hk
  generalize v[k] = x at *
  generalize v.length - r.length = en at *
  have e7 : (x.op == 7) = false := by simpa using h7
  have i1 : (k : Int) < (v.length : Int) := by omega
  have i2 : ¬ (k : Int) < 0 := by omega
  clear h7 hr
  go_enter Tryz.func4, Tryz.ntmps4
  go_wp2_with fail
  refine hc.mono ?_
  rintro e w1 ⟨rfl, hb⟩
  have z0 := (hb.cell (p := ⟨b, off + k * 4, none⟩) hbw).trans x0
  have hx1 := hx _ hb
  clear x0 x1 x2 x3 hx
  go_wp2_with fail
  refine hx1.mono ?_
  rintro e w2 ⟨rfl, hb2⟩
  go_wp2
  go_ret2
  exact ⟨rfl, hb.trans (hb2.mono hb.size)⟩
end Go.Proofs.YtnpneglipogehaaGreatDoor
