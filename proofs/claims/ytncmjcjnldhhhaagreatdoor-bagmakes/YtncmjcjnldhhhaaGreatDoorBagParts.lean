/- Package bag's checkBoth, partsOf, partsOfBoth: what they return. -/
import Derived.Test.YtncmjcjnldhhhaaGreatDoorBagL
import Derived.Test.YtncmjcjnldhhhaaGreatDoorParts
namespace Go.Proofs.YtncmjcjnldhhhaaGreatDoor
open Go.RowKit
set_option linter.unusedVariables false

theorem checkBoth_bad1 (s t : List Nd) (p q : Option Addr) (c d : Nat) (w : World) (hs : NL w p s) (hc : s.length ≤ c) (hcm : c ≤ maxLen) (h : vfault s ≠ 0) :
    Calls Tryz.prog 28 #[.slice p s.length c, .slice q t.length d] w fun e w' => e = .returned (eV (vfault s)) ∧ Below w.heap.size w w' := by
  have H1 := vcheck_any s p c w hs hc hcm
  rw [eV_not h] at H1 ⊢
  go_enter Tryz.func28, Tryz.ntmps28
  go_wp2_with fail
  refine H1.mono ?_
  rintro e w1 ⟨rfl, hb1⟩
  go_wp2
  go_ret
  exact ⟨rfl, hb1⟩
theorem checkBoth_2 (s t : List Nd) (p q : Option Addr) (c d : Nat) (w : World) (hs : NL w p s) (hc : s.length ≤ c) (hcm : c ≤ maxLen) (ht : NL w q t) (hd : t.length ≤ d) (hdm : d ≤ maxLen) (h : vfault s = 0) :
    Calls Tryz.prog 28 #[.slice p s.length c, .slice q t.length d] w fun e w' => e = .returned (eV (vfault t)) ∧ Below w.heap.size w w' := by
  have H1 := vcheck_any s p c w hs hc hcm
  have H2 := fun w' (hb : Below w.heap.size w w') => vcheck_any t q d w' (ht.up hb) hd hdm
  rw [eV_nil h] at H1
  go_enter Tryz.func28, Tryz.ntmps28
  go_wp2_with fail
  refine H1.mono ?_
  rintro e w1 ⟨rfl, hb1⟩
  go_wp2_with fail
  refine (H2 w1 hb1).mono ?_
  rintro e w2 ⟨rfl, hb2⟩
  go_wp2
  go_ret
  exact ⟨rfl, hb1.trans (hb2.mono hb1.size)⟩
/-- .. by number: that of the first, else of the second. -/
def cfault (s t : List Nd) : Int := if vfault s = 0 then vfault t else vfault s
theorem checkBoth_any (s t : List Nd) (p q : Option Addr) (c d : Nat) (w : World) (hs : NL w p s) (hc : s.length ≤ c) (hcm : c ≤ maxLen) (ht : NL w q t) (hd : t.length ≤ d) (hdm : d ≤ maxLen) :
    Calls Tryz.prog 28 #[.slice p s.length c, .slice q t.length d] w fun e w' => e = .returned (eV (cfault s t)) ∧ Below w.heap.size w w' := by
  unfold cfault
  by_cases h : vfault s = 0
  · rw [if_pos h]; exact checkBoth_2 s t p q c d w hs hc hcm ht hd hdm h
  · rw [if_neg h]; exact checkBoth_bad1 s t p q c d w hs hc hcm h

theorem partsOf_type (s : List Nd) (p : Option Addr) (c : Nat) (w : World) (hs : NL w p s) (hc : s.length ≤ c) (hcm : c ≤ maxLen) (h : vfault s = 0) (hn : isSetV s = false) :
    Calls Tryz.prog 29 #[.slice p s.length c] w fun e w' => e = .returned (.tuple #[.slice none 0 0, eV 2]) ∧ w' = w := by
  obtain ⟨x, r, rfl, _⟩ := value_head h
  obtain ⟨b, o, rfl, hbw, x0, _⟩ := hs.head
  have e5 : (x.op != 5) = true := by simpa [isSetV] using hn
  have i0 : (0 : Int) < ((x :: r).length : Int) := by simp
  unfold maxLen at hcm
  clear h hn
  simp only [List.length_cons] at *
  go_enter Tryz.func29, Tryz.ntmps29
  go_wp2
  go_ret2
  exact ⟨rfl, rfl⟩

theorem parts_set (l : List (List Nd)) (p : Option Addr) (c : Nat) (w : World) (hs : NL w p (setN l)) (hc : (setN l).length ≤ c) (hcm : c ≤ maxLen) (h : IsSet l) :
    Calls Tryz.prog 46 #[.slice p (setN l).length c] w fun e w' => (∃ q c', e = .returned (.tuple #[.slice q l.length c', .nilIface]) ∧ LL w' q l ∧ l.length ≤ c' ∧ c' ≤ maxLen ∧ (q = none → c' = 0)) ∧ Below w.heap.size w w' := by
  obtain ⟨b, o, rfl, _⟩ := (show NL w p (⟨5, l.length, ⟨#[]⟩, ⟨#[]⟩⟩ :: l.flatten) from hs).head
  have := parts_full (setN l).length ⟨5, l.length, ⟨#[]⟩, ⟨#[]⟩⟩ l.flatten l (values_segs _ l h.vals (fun v hm => by have := mem_flat hm; show v.length + 1 ≤ l.flatten.length + 1; omega)) b o c w hs hc hcm h.value (.inl rfl)
  rw [values_strip h.vals] at this
  exact this

theorem partsOf_set (l : List (List Nd)) (p : Option Addr) (c : Nat) (w : World) (hs : NL w p (setN l)) (hc : (setN l).length ≤ c) (hcm : c ≤ maxLen) (h : IsSet l) :
    Calls Tryz.prog 29 #[.slice p (setN l).length c] w fun e w' => (∃ q c', e = .returned (.tuple #[.slice q l.length c', .nilIface]) ∧ LL w' q l ∧ l.length ≤ c' ∧ c' ≤ maxLen ∧ (q = none → c' = 0)) ∧ Below w.heap.size w w' := by
  have H1 := parts_set l p c w hs hc hcm h
  obtain ⟨b, o, rfl, hbw, x0, _⟩ := (show NL w p (⟨5, l.length, ⟨#[]⟩, ⟨#[]⟩⟩ :: l.flatten) from hs).head
  have i0 : (0 : Int) < ((setN l).length : Int) := by simp [setN]
  unfold maxLen at hcm
  simp only at x0
  generalize (setN l).length = n at *
  clear hs h
  go_enter Tryz.func29, Tryz.ntmps29
  go_wp2_with fail
  refine H1.mono ?_
  rintro e w1 ⟨⟨q, c', rfl, h1, h2, h3, h4⟩, hb1⟩
  go_wp2
  go_ret2
  exact ⟨⟨q, c', rfl, h1, h2, h3, h4⟩, hb1⟩

theorem sfault_c {s t : List Nd} (h : cfault s t ≠ 0) : sfault s t = cfault s t := by
  unfold sfault cfault at *
  split
  · rename_i h1
    rw [if_pos h1] at h
    rw [if_neg h]
  · rfl
theorem sfault_v {s t : List Nd} (h : cfault s t = 0) : vfault s = 0 ∧ vfault t = 0 ∧ sfault s t = if isSetV s = true ∧ isSetV t = true then 0 else 2 := by
  unfold cfault at h
  split at h
  · rename_i h1
    refine ⟨h1, h, ?_⟩
    unfold sfault
    rw [if_pos h1, if_pos h]
  · rename_i h1; exact absurd h h1
theorem one_row {v : List Nd} (hv : vfault v = 0) (hs : isSetV v = true) : ∃ l, IsSet l ∧ v = setN l := by
  cases v with
  | nil => cases hs
  | cons x r => exact set_row hv (by simpa [isSetV] using hs)

theorem partsOfBoth_bad (s t : List Nd) (p q : Option Addr) (c d : Nat) (w : World) (hs : NL w p s) (hc : s.length ≤ c) (hcm : c ≤ maxLen) (ht : NL w q t) (hd : t.length ≤ d) (hdm : d ≤ maxLen) (h : sfault s t ≠ 0) :
    Calls Tryz.prog 17 #[.slice p s.length c, .slice q t.length d] w fun e w' => e = .returned (.tuple #[.slice none 0 0, .slice none 0 0, eV (sfault s t)]) ∧ Below w.heap.size w w' := by
  have H1 := checkBoth_any s t p q c d w hs hc hcm ht hd hdm
  by_cases hz : cfault s t = 0
  · obtain ⟨h1, h2, h3⟩ := sfault_v hz
    rw [eV_nil hz] at H1
    have h4 : sfault s t = 2 := by
      rw [h3] at h ⊢
      split at h
      · exact absurd rfl h
      · rename_i hh; rw [if_neg hh]
    rw [h4]
    cases hs5 : isSetV s
    · have H2 := fun w' (hb : Below w.heap.size w w') => partsOf_type s p c w' (hs.up hb) hc hcm h1 hs5
      rw [eV_not (by decide : (2 : Int) ≠ 0)] at H2 ⊢
      clear h3 h hz
      go_enter Tryz.func17, Tryz.ntmps17
      go_wp2_with fail
      refine H1.mono ?_
      rintro e w1 ⟨rfl, hb1⟩
      go_wp2_with fail
      refine (H2 w1 hb1).mono ?_
      rintro e w2 ⟨rfl, rfl⟩
      go_wp2
      go_ret3
      exact ⟨rfl, hb1⟩
    · obtain ⟨l, hl, rfl⟩ := one_row h1 hs5
      have ht5 : isSetV t = false := by
        cases e : isSetV t with
        | false => rfl
        | true => rw [h3, if_pos ⟨hs5, e⟩] at h; exact absurd rfl h
      have H2 := fun w' (hb : Below w.heap.size w w') => partsOf_set l p c w' (hs.up hb) hc hcm hl
      have H3 := fun w' (hb : Below w.heap.size w w') => partsOf_type t q d w' (ht.up hb) hd hdm h2 ht5
      rw [eV_not (by decide : (2 : Int) ≠ 0)] at H3 ⊢
      clear h3 h hz
      go_enter Tryz.func17, Tryz.ntmps17
      go_wp2_with fail
      refine H1.mono ?_
      rintro e w1 ⟨rfl, hb1⟩
      go_wp2_with fail
      refine (H2 w1 hb1).mono ?_
      rintro e w2 ⟨⟨q2, c2, rfl, _, _, _⟩, hb2⟩
      have hb3 := hb1.trans (hb2.mono hb1.size)
      go_wp2_with fail
      refine (H3 w2 hb3).mono ?_
      rintro e w3 ⟨rfl, rfl⟩
      go_wp2
      go_ret3
      exact ⟨rfl, hb3⟩
  · rw [sfault_c hz]
    rw [eV_not hz] at H1 ⊢
    go_enter Tryz.func17, Tryz.ntmps17
    go_wp2_with fail
    refine H1.mono ?_
    rintro e w1 ⟨rfl, hb1⟩
    go_wp2
    go_ret3
    exact ⟨rfl, hb1⟩

theorem partsOfBoth_ok (l m : List (List Nd)) (p q : Option Addr) (c d : Nat) (w : World) (hs : NL w p (setN l)) (hc : (setN l).length ≤ c) (hcm : c ≤ maxLen) (ht : NL w q (setN m)) (hd : (setN m).length ≤ d) (hdm : d ≤ maxLen) (hl : IsSet l) (hm : IsSet m) :
    Calls Tryz.prog 17 #[.slice p (setN l).length c, .slice q (setN m).length d] w fun e w' => (∃ q1 c1 q2 c2, e = .returned (.tuple #[.slice q1 l.length c1, .slice q2 m.length c2, .nilIface]) ∧ LL w' q1 l ∧ l.length ≤ c1 ∧ c1 ≤ maxLen ∧ LL w' q2 m ∧ m.length ≤ c2 ∧ c2 ≤ maxLen ∧ (q1 = none → c1 = 0) ∧ (q2 = none → c2 = 0)) ∧ Below w.heap.size w w' := by
  have H1 := checkBoth_any (setN l) (setN m) p q c d w hs hc hcm ht hd hdm
  have hz : cfault (setN l) (setN m) = 0 := by unfold cfault; rw [if_pos hl.value]; exact hm.value
  rw [eV_nil hz] at H1
  have H2 := fun w' (hb : Below w.heap.size w w') => partsOf_set l p c w' (hs.up hb) hc hcm hl
  have H3 := fun w' (hb : Below w.heap.size w w') => partsOf_set m q d w' (ht.up hb) hd hdm hm
  clear hz hs ht
  go_enter Tryz.func17, Tryz.ntmps17
  go_wp2_with fail
  refine H1.mono ?_
  rintro e w1 ⟨rfl, hb1⟩
  go_wp2_with fail
  refine (H2 w1 hb1).mono ?_
  rintro e w2 ⟨⟨q2, c2, rfl, k1, k2, k3, z1⟩, hb2⟩
  have hb3 := hb1.trans (hb2.mono hb1.size)
  go_wp2_with fail
  refine (H3 w2 hb3).mono ?_
  rintro e w3 ⟨⟨q3, c3, rfl, k4, k5, k6, z2⟩, hb4⟩
  have k1' := k1.up hb4
  go_wp2
  go_ret3
  exact ⟨⟨q2, c2, q3, c3, rfl, k1', k2, k3, k4, k5, k6, z1, z2⟩, hb3.trans (hb4.mono hb3.size)⟩
end Go.Proofs.YtncmjcjnldhhhaaGreatDoor
