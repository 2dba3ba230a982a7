/- The document's Behind and Fault: by walks of their own texts. -/
import Derived.Test.YtnpneglipogehaaGreatDoorTreeRf
namespace Go.Proofs.YtnpneglipogehaaGreatDoor
open Go.RowKit
set_option linter.unusedVariables false

/-- The contract of Behind for what is so short. -/
def BOk (f : Nat) : Prop := ∀ (v : List Nd) (p : Option Addr) (c at_ : Nat) (w : World), at_ ≤ v.length → v.length - at_ < f → NL w p v → v.length ≤ maxLen →
  Calls Tryz.prog 12 #[.slice p v.length c, .int .i64 at_] w fun e w' => e = .returned (.int .i64 (endI v.length (pastE f (v.drop at_)))) ∧ Below w.heap.size w w'

theorem partsB_none {pv : List Nd → Option (List Nd)} {n k : Nat} (h : k < n) {v : List Nd} (e : pv v = none) : partsE pv (n - k) v = none := by
  rw [show n - k = (n - (k + 1)) + 1 by omega]; simp only [partsE, e]
theorem partsB_some {pv : List Nd → Option (List Nd)} {n k : Nat} (h : k < n) {v rest : List Nd} (e : pv v = some rest) : partsE pv (n - k) v = partsE pv (n - (k + 1)) rest := by
  rw [show n - k = (n - (k + 1)) + 1 by omega]; simp only [partsE, e]
theorem recB_nil {pv : List Nd → Option (List Nd)} {n k : Nat} (h : k < n) {last : ByteArray} : recLoop pv (n - k) last [] = none := by
  rw [show n - k = (n - (k + 1)) + 1 by omega]; rfl
theorem recB_bad {pv : List Nd → Option (List Nd)} {n k : Nat} (h : k < n) {last : ByteArray} {x : Nd} {r : List Nd} (e : ¬ (x.op = 7 ∧ ndOk x = true ∧ cmpB last x.s < 0)) : recLoop pv (n - k) last (x :: r) = none := by
  rw [show n - k = (n - (k + 1)) + 1 by omega]; simp only [recLoop, if_neg e]
theorem recB_go {pv : List Nd → Option (List Nd)} {n k : Nat} (h : k < n) {last : ByteArray} {x : Nd} {r : List Nd} (e : x.op = 7 ∧ ndOk x = true ∧ cmpB last x.s < 0) :
    recLoop pv (n - k) last (x :: r) = match pv r with | none => none | some rest => recLoop pv (n - (k + 1)) x.s rest := by
  rw [show n - k = (n - (k + 1)) + 1 by omega]; simp only [recLoop, if_pos e]; cases pv r <;> rfl
theorem dropB {v rest : List Nd} {k : Nat} (ht : IsTail rest (v.drop k)) : v.drop (v.length - rest.length) = rest := by
  obtain ⟨a, ha⟩ := ht
  have hl : v.length - k = a.length + rest.length := by have := congrArg List.length ha; simpa using this
  by_cases h : k ≤ v.length
  · rw [show v.length - rest.length = k + a.length by omega, ← List.drop_drop, ha, List.drop_left]
  · have h1 : rest.length = 0 := by omega
    have h2 := List.eq_nil_of_length_eq_zero h1
    subst h2
    simp
theorem endI_some {n : Nat} {r : List Nd} (h : r.length ≤ n) : endI n (some r) = ((n - r.length : Nat) : Int) := by
  unfold endI; simp only []; omega
theorem endI_drop {v : List Nd} {k : Nat} (h : k ≤ v.length) : endI v.length (some (v.drop k)) = (k : Int) := by
  unfold endI; simp only [List.length_drop]; omega

/-- The node that the loop looks at lies in a block of its own. -/
theorem own_cells {w1 w2 wr : World} {x : Nd} {T : TypeId} (h : w2 = w1.alloc (.cells #[.int .i64 x.op, .int .i64 x.n, .string x.s, .string x.t] T)) (hb : Below w2.heap.size w2 wr) :
    wr.cell? ⟨w1.heap.size, 0, none⟩ = some (.int .i64 x.op) ∧ wr.cell? ⟨w1.heap.size, 1, none⟩ = some (.int .i64 x.n) ∧ wr.cell? ⟨w1.heap.size, 2, none⟩ = some (.string x.s) ∧ wr.cell? ⟨w1.heap.size, 3, none⟩ = some (.string x.t) ∧ w1.heap.size < wr.heap.size := by
  subst h
  refine ⟨?_, ?_, ?_, ?_, Nat.lt_of_lt_of_le (by simp) hb.size⟩
  · exact (hb.cell (p := ⟨w1.heap.size, 0, none⟩) (by simp)).trans (by simp [go_sem])
  · exact (hb.cell (p := ⟨w1.heap.size, 1, none⟩) (by simp)).trans (by simp [go_sem])
  · exact (hb.cell (p := ⟨w1.heap.size, 2, none⟩) (by simp)).trans (by simp [go_sem])
  · exact (hb.cell (p := ⟨w1.heap.size, 3, none⟩) (by simp)).trans (by simp [go_sem])

set_option maxRecDepth 100000 in
set_option maxHeartbeats 2000000 in
theorem behind_parts (f : Nat) (ih : BOk f) (v : List Nd) (p : Option Addr) (c at0 : Nat) (w : World) (hk : at0 < v.length) (hf : v.length - at0 < f + 1) (hv : NL w p v) (hl : v.length ≤ maxLen)
    (h7 : v[at0].op ≠ 7) (hx : exOk v[at0] = true) (h6 : v[at0].op ≠ 6) :
    Calls Tryz.prog 12 #[.slice p v.length c, .int .i64 at0] w fun e w' => e = .returned (.int .i64 (endI v.length (partsE (pastE f) (prt v[at0]).toNat (v.drop (at0 + 1))))) ∧ Below w.heap.size w w' := by
  have HM : Hid (v.length ≤ maxLen) := hl
  unfold maxLen at hl
  have HI : Hid (BOk f) := ih
  clear ih
  obtain ⟨b, off, rfl, hbw, x0, x1, x2, x3, xw⟩ := hv.at hk
  generalize v[at0] = x at *
  have i1 : (at0 : Int) < (v.length : Int) := by omega
  have i2 : ¬ (at0 : Int) < 0 := by omega
  have i3 : ¬ v.length ≤ at0 := by omega
  have HF := fun w => refFields_any x w xw
  rw [hx] at HF
  have HP := fun w => refPrt_any x w
  have e7 : (x.op == 7) = false := by simpa using h7
  have e6 : (x.op == 6) = false := by simpa using h6
  have hcn : prt x ≤ 9223372036854775807 := by have := xw.2.2; unfold prt; repeat' split <;> omega
  generalize hR : partsE (pastE f) (prt x).toNat (v.drop (at0 + 1)) = R
  have HR : Hid (_ = _) := hR
  clear hR h7 hx h6
  go_enter Tryz.func12, Tryz.ntmps12
  go_wp2_with fail
  refine (HF _).mono ?_
  rintro e w1 ⟨rfl, hb1⟩
  have y0 := (hb1.cell (p := ⟨b, off + at0 * 4, none⟩) hbw).trans x0
  have y1 := (hb1.cell (p := ⟨b, off + at0 * 4 + 1, none⟩) hbw).trans x1
  have y2 := (hb1.cell (p := ⟨b, off + at0 * 4 + 2, none⟩) hbw).trans x2
  have y3 := (hb1.cell (p := ⟨b, off + at0 * 4 + 3, none⟩) hbw).trans x3
  clear x0 x1 x2 x3 HF
  have hv1 := hv.up hb1
  have hb2 : Below w1.heap.size w1 (w1.alloc (.cells #[.int .i64 x.op, .int .i64 x.n, .string x.s, .string x.t] 28)) := (Below.refl _ _).alloc (Nat.le_refl _) _
  have HW : Hid (∀ w2, w2 = w1.alloc (.cells #[.int .i64 x.op, .int .i64 x.n, .string x.s, .string x.t] 28) → ∀ wr, Below w2.heap.size w2 wr → _) := fun w2 h wr hb => own_cells (x := x) (T := 28) h hb
  go_wp2
  clear y0 y1 y2 y3
  generalize w1.alloc (.cells #[.int .i64 x.op, .int .i64 x.n, .string x.s, .string x.t] 28) = w2 at *
  go_loopw [1, 6, 7] (fun sa sl i wr => ∃ k fr : Nat, k ≤ (prt x).toNat ∧ i = .int .i64 k ∧ sa = .int .i64 fr ∧ sl = .string ⟨#[]⟩ ∧ at0 < fr ∧ fr ≤ v.length ∧ Hid (partsE (pastE f) ((prt x).toNat - k) (v.drop fr) = R) ∧ Below w2.heap.size w2 wr) (fun _ _ i _ => (prt x).toNat - (intOf i).toNat)
  case atStart => exact ⟨0, at0 + 1, Nat.zero_le _, rfl, by go_num, rfl, by omega, by omega, HR, Below.refl _ _⟩
  case round =>
    obtain ⟨k, fr, hkk, rfl, rfl, rfl, h01, hfr, HS, hb⟩ := hrel
    obtain ⟨z0, z1, z2, z3, hzl⟩ := HW.out w2 rfl wr hb
    have hb3 : Below w.heap.size w wr := hb1.trans ((hb2.trans (hb.mono hb2.size)).mono hb1.size)
    have hvr := hv.up hb3
    by_cases hlt : (k : Int) < prt x
    · have hkn : k < (prt x).toNat := by omega
      have hc := fun w4 (hb4 : Below wr.heap.size wr w4) => HI.out v (some ⟨b, off, none⟩) c fr w4 hfr (by omega) (hvr.up hb4) HM.out
      cases hp : pastE f (v.drop fr) with
      | none =>
        rw [hp] at hc
        have HN : Hid (none = R) := by rw [← HS.out, partsB_none hkn hp]; rfl
        clear hp HS HR
        unfold endI at hc
        simp only [] at hc
        generalize prt x = pr at *
        go_wp2_with fail
        refine (HP _).mono ?_
        rintro e w4 ⟨rfl, hb4⟩
        have u0 := (hb4.cell (p := ⟨w1.heap.size, 0, none⟩) hzl).trans z0
        have hc1 := hc _ hb4
        clear z0 z1 z2 z3 hc
        go_wp2_with fail
        refine hc1.mono ?_
        rintro e w5 ⟨rfl, hb5⟩
        have hb6 := hb4.trans (hb5.mono hb4.size)
        go_wp2
        go_ret
        exact ⟨by rw [← HN.out]; rfl, hb3.trans (hb6.mono hb3.size)⟩
      | some rest =>
        rw [hp] at hc
        obtain ⟨hsh, htl⟩ := pastE_shorter hp
        have hsh2 : rest.length < v.length - fr := by simpa using hsh
        rw [endI_some (by omega)] at hc
        have HN : Hid (partsE (pastE f) ((prt x).toNat - (k + 1)) (v.drop (v.length - rest.length)) = R) := by rw [dropB htl, ← HS.out, partsB_some hkn hp]; rfl
        clear hp HS HR hsh htl
        generalize hen : v.length - rest.length = en at *
        have hen1 : fr < en := by omega
        have hen2 : en ≤ v.length := by omega
        have hen3 : ¬ (en : Int) < 0 := by omega
        clear hen hsh2
        generalize prt x = pr at *
        go_wp2_with fail
        refine (HP _).mono ?_
        rintro e w4 ⟨rfl, hb4⟩
        have u0 := (hb4.cell (p := ⟨w1.heap.size, 0, none⟩) hzl).trans z0
        have hc1 := hc _ hb4
        clear z0 z1 z2 z3 hc
        go_wp2_with fail
        refine hc1.mono ?_
        rintro e w5 ⟨rfl, hb5⟩
        have hb6 := hb4.trans (hb5.mono hb4.size)
        go_wp2
        go_roundw
        case rel => exact ⟨k + 1, en, by omega, by go_num, rfl, rfl, by omega, hen2, HN, hb.trans (hb6.mono hb.size)⟩
        case measure => simp [intOf]; omega
    · have HN : Hid (some (v.drop fr) = R) := by
        have := HS.out
        rw [show (prt x).toNat - k = 0 by omega] at this
        exact this
      have HE : Hid (_ = _) := endI_drop (v := v) hfr
      clear HS HR
      generalize prt x = pr at *
      go_wp2_with fail
      refine (HP _).mono ?_
      rintro e w4 ⟨rfl, hb4⟩
      go_wp2
      go_ret
      exact ⟨by rw [← HN.out, HE.out]; rfl, hb3.trans (hb4.mono hb3.size)⟩
end Go.Proofs.YtnpneglipogehaaGreatDoor
