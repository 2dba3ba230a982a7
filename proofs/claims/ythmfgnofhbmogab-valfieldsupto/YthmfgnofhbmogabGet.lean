/- Package val's Get: what it returns, by a walk of its own text. -/
import Derived.Test.YthmfgnofhbmogabItems
import Derived.Test.YthmfgnofhbmogabShape
import Derived.Test.YthmfgnofhbmogabCheck
namespace Go.Proofs.Ythmfgnofhbmogab
open Go.RowKit
set_option linter.unusedVariables false

/-- What stands by a name: the first such Field's value. -/
def findS (fld : ByteArray) : List (List Nd) → Option (List Nd)
  | [] => none
  | [] :: ss => findS fld ss
  | (x :: t) :: ss => if x.s = fld then some t else findS fld ss

def getE : Option (List Nd) → Int
  | some _ => 0
  | none => 3
def getL : Option (List Nd) → List Nd
  | some t => t
  | none => []

theorem get_bad (v : List Nd) (p : Option Addr) (c : Nat) (fld : ByteArray) (w : World) (hv : NL w p v) (hc : v.length ≤ c) (hcm : c ≤ maxLen) (h : vfault v ≠ 0) :
    Calls Try.prog 7 #[.slice p v.length c, .string fld] w fun e w' => e = .returned (.tuple #[.slice none 0 0, eV (vfault v)]) ∧ Below w.heap.size w w' := by
  have H1 := vcheck_any v p c w hv hc hcm
  rw [eV_not h] at H1 ⊢
  go_enter Try.func7, Try.ntmps7
  go_wp2_with fail
  refine H1.mono ?_
  rintro e w1 ⟨rfl, hb1⟩
  go_wp2
  go_ret2
  exact ⟨rfl, hb1⟩

theorem get_type (x : Nd) (r : List Nd) (b off c : Nat) (fld : ByteArray) (w : World) (hv : NL w (some ⟨b, off, none⟩) (x :: r)) (hc : (x :: r).length ≤ c) (hcm : c ≤ maxLen) (h : vfault (x :: r) = 0) (h6 : x.op ≠ 6) :
    Calls Try.prog 7 #[.slice (some ⟨b, off, none⟩) (x :: r).length c, .string fld] w fun e w' => e = .returned (.tuple #[.slice none 0 0, eV 2]) ∧ Below w.heap.size w w' := by
  have H1 := vcheck_any (x :: r) _ c w hv hc hcm
  rw [eV_nil h] at H1
  obtain ⟨b', o', hpe, hbw, x0, _⟩ := hv.head
  obtain ⟨rfl, rfl⟩ : b = b' ∧ off = o' := by simpa using hpe
  have e6 : (x.op != 6) = true := by simpa using h6
  unfold maxLen at hcm
  have i0 : (0 : Int) < ((x :: r).length : Int) := by simp
  clear h hpe
  simp only [List.length_cons] at *
  go_enter Try.func7, Try.ntmps7
  go_wp2_with fail
  refine H1.mono ?_
  rintro e w1 ⟨rfl, hb1⟩
  have z0 := (hb1.cell (p := ⟨b, off, none⟩) hbw).trans x0
  clear x0
  go_wp2
  go_ret2
  exact ⟨rfl, hb1⟩

theorem findS_step (fld : ByteArray) (ss : List (List Nd)) (k : Nat) (y : Nd) (t : List Nd) (h : ss[k]? = some (y :: t)) : findS fld (ss.drop k) = if y.s = fld then some t else findS fld (ss.drop (k + 1)) := by
  obtain ⟨hk, he⟩ := List.getElem?_eq_some_iff.1 h
  rw [List.drop_eq_getElem_cons hk, he]
  rfl

set_option maxRecDepth 100000 in
set_option maxHeartbeats 2000000 in
theorem get_ok (f : Nat) (x : Nd) (r : List Nd) (ss : List (List Nd)) (hss : Segs f r ss) (b off c : Nat) (fld : ByteArray) (w : World) (hv : NL w (some ⟨b, off, none⟩) (x :: r)) (hc : (x :: r).length ≤ c) (hcm : c ≤ maxLen) (h : vfault (x :: r) = 0) (h6 : x.op = 6) :
    Calls Try.prog 7 #[.slice (some ⟨b, off, none⟩) (x :: r).length c, .string fld] w fun e w' => (∃ q c', e = .returned (.tuple #[.slice q (getL (findS fld ss)).length c', eV (getE (findS fld ss))]) ∧ NL w' q (getL (findS fld ss)) ∧ (getL (findS fld ss)).length ≤ c' ∧ c' ≤ maxLen) ∧ Below w.heap.size w w' := by
  have H1 := vcheck_any (x :: r) _ c w hv hc hcm
  rw [eV_nil h] at H1
  obtain ⟨hl200, _⟩ := isVal_past h
  obtain ⟨b', o', hpe, hbw, x0, _⟩ := hv.head
  obtain ⟨rfl, rfl⟩ : b = b' ∧ off = o' := by simpa using hpe
  have hsl := hss.length
  have hne := hss.ne
  have hsh := hss.short
  have hit := fun w' (hb : Below w.heap.size w w') => items_fn f x r ss hss b off c w' (hv.up hb) (Nat.lt_of_lt_of_le hbw hb.size) hl200 hc hcm
  have HM : Hid (c ≤ maxLen) := hcm
  unfold maxLen at hcm
  have i0 : (0 : Int) < ((x :: r).length : Int) := by simp
  have HNE : Hid (∀ s ∈ ss, s ≠ []) := hne
  have HSH : Hid (∀ s ∈ ss, s.length ≤ r.length) := hsh
  have e6 : (x.op != 6) = false := by simpa using h6
  clear h hpe hss hne hsh h6
  simp only [List.length_cons] at *
  generalize hR : findS fld ss = R
  have HR : Hid (_ = _) := hR
  clear hR
  go_enter Try.func7, Try.ntmps7
  go_wp2_with fail
  refine H1.mono ?_
  rintro e w1 ⟨rfl, hb1⟩
  have z0 := (hb1.cell (p := ⟨b, off, none⟩) hbw).trans x0
  have hit1 := hit w1 hb1
  clear x0 hit H1
  go_wp2_with fail
  refine hit1.mono ?_
  rintro e w2 ⟨⟨lv, rfl, hol⟩, hb2'⟩
  have hb2 := hb1.trans (hb2'.mono hb1.size)
  obtain ⟨lq, lc, rfl, hll, hlc, hlm⟩ := hol.lists
  clear hit1 hol hb2'
  go_wp2
  go_loopw [23] (fun i wr => ∃ (k : Nat), k ≤ ss.length ∧ i = .int .i64 k ∧ Hid (findS fld (ss.drop k) = R) ∧ wr = w2) (fun i _ => ss.length - (intOf i).toNat)
  case atStart => exact ⟨0, Nat.zero_le _, rfl, HR, rfl⟩
  case round =>
    obtain ⟨k, hk, rfl, HF, rfl⟩ := hrel
    by_cases hlt : k < ss.length
    · obtain ⟨gb, go, q, c', rfl, hgb, hcell, hnl, h1, h2⟩ := hll.at hlt
      have hmem : ss[k] ∈ ss := List.getElem_mem _
      have hsn := HNE.out _ hmem
      have hss2 := HSH.out _ hmem
      have i1 : (k : Int) < (ss.length : Int) := by omega
      have hat : ss[k]? = some ss[k] := List.getElem?_eq_getElem hlt
      have HA : Hid (_ = _) := hat
      generalize ss[k] = s at *
      cases s with
      | nil => exact absurd rfl hsn
      | cons y t =>
        have HS : Hid (_ = _) := findS_step fld ss k y t HA.out
        obtain ⟨yb, yo, rfl, hyb, y0, y1, y2, y3, yw⟩ := hnl.head
        have j0 : (0 : Int) < (t.length : Int) + 1 := by omega
        have j1 : (1 : Int) ≤ (t.length : Int) + 1 := by omega
        clear hmem hsn hat HA
        have h2' : c' ≤ 9223372036854775807 := h2
        simp only [List.length_cons] at *
        by_cases he : y.s = fld
        · have hq : (y.s.toList == fld.toList) = true := by rw [he]; simp
          have HE : Hid (R = some t) := by show _ = _; rw [← HF.out, HS.out, if_pos he]
          obtain ⟨pr, hpr, hnr⟩ : ∃ pr, (if c' = 1 then some (⟨yb, yo, none⟩ : Addr) else some ⟨yb, yo + 4, none⟩) = some ⟨yb, pr, none⟩ ∧ NL wr (some ⟨yb, pr, none⟩) t := by
            by_cases h : c' = 1
            · exact ⟨yo, if_pos h, .inl (List.eq_nil_of_length_eq_zero (by omega))⟩
            · exact ⟨yo + 4, if_neg h, hnl.tail⟩
          have hclone := cloneNodes_fn t yb pr (c' - 1) wr hnr (by omega)
          clear he HS HF HR
          go_wp2_with fail
          refine hclone.mono ?_
          rintro e w3 ⟨⟨q3, c3, rfl, hnt, hl3, hm3⟩, hb3⟩
          clear hclone
          go_wp2
          go_ret2
          rw [HE.out]
          exact ⟨⟨q3, c3, rfl, hnt.1, hl3, hm3⟩, hb2.trans (hb3.mono hb2.size)⟩
        · have hq : (y.s.toList == fld.toList) = false := by
            simp only [beq_eq_false_iff_ne, ne_eq, ByteArray.toList_eq]
            exact fun h => he (bytes_inj h)
          have HG : Hid (findS fld (ss.drop (k + 1)) = R) := by show _ = _; rw [← HF.out, HS.out, if_neg he]
          clear he HS HF HR
          go_wp2
          go_roundw
          case rel => exact ⟨k + 1, by omega, by go_num, HG, by trivial⟩
          case measure => simp [intOf]; omega
    · have HE : Hid (R = none) := by
        show _ = _
        rw [← HF.out, List.drop_of_length_le (by omega)]; rfl
      have i1 : ¬ (k : Int) < (ss.length : Int) := by omega
      clear HF HR
      go_wp2
      go_ret2
      rw [HE.out]
      exact ⟨⟨none, 0, rfl, .inl rfl, Nat.le_refl _, Nat.zero_le _⟩, hb2⟩
end Go.Proofs.Ythmfgnofhbmogab
