/- Package bag's All and Any: what they return, of every two lists of nodes. -/
import Derived.Test.YtncmjcjnldhhhaaDoorBagFns
import Derived.Test.YtncmjcjnldhhhaaDoorBagParts
namespace Go.Proofs.YtncmjcjnldhhhaaDoor
open Go.RowKit
set_option linter.unusedVariables false

theorem any_not (ls lt : List (List Nd)) : (lt.any fun v => !inB ls v) = !allB ls lt := by
  unfold allB
  induction lt with
  | nil => rfl
  | cons a l ih => simp only [List.any_cons, List.all_cons, ih, Bool.not_and]

theorem all_bad (s t : List Nd) (p q : Option Addr) (c d : Nat) (w : World) (hs : NL w p s) (hc : s.length ≤ c) (hcm : c ≤ maxLen) (ht : NL w q t) (hd : t.length ≤ d) (hdm : d ≤ maxLen) (h : sfault s t ≠ 0) :
    Calls Tryd.prog 12 #[.slice p s.length c, .slice q t.length d] w fun e w' => e = .returned (.tuple #[.bool false, eV (sfault s t)]) ∧ Below w.heap.size w w' := by
  have H1 := partsOfBoth_bad s t p q c d w hs hc hcm ht hd hdm h
  rw [eV_not h] at H1 ⊢
  clear hs ht
  go_enter Tryd.func12, Tryd.ntmps12
  go_wp2_with fail
  refine H1.mono ?_
  rintro e w1 ⟨rfl, hb1⟩
  go_wp2
  go_ret2
  exact ⟨rfl, hb1⟩
theorem all_ok (l m : List (List Nd)) (p q : Option Addr) (c d : Nat) (w : World) (hs : NL w p (setN l)) (hc : (setN l).length ≤ c) (hcm : c ≤ maxLen) (ht : NL w q (setN m)) (hd : (setN m).length ≤ d) (hdm : d ≤ maxLen) (hl : IsSet l) (hm : IsSet m) :
    Calls Tryd.prog 12 #[.slice p (setN l).length c, .slice q (setN m).length d] w fun e w' => e = .returned (.tuple #[.bool (allB l m), .nilIface]) ∧ Below w.heap.size w w' := by
  have H1 := partsOfBoth_ok l m p q c d w hs hc hcm ht hd hdm hl hm
  have L1 : l.length ≤ maxLen := Nat.le_trans hl.len (by decide)
  have L2 : m.length ≤ maxLen := Nat.le_trans hm.len (by decide)
  have HE : Hid (_ = _) := any_not l m
  clear hs ht
  go_enter Tryd.func12, Tryd.ntmps12
  go_wp2_with fail
  refine H1.mono ?_
  rintro e w1 ⟨⟨q1, c1, q2, c2, rfl, k1, k2, k3, k4, k5, k6⟩, hb1⟩
  have H2 := hadBy_any q1 l c1 w1 k1 L1
  clear H1
  go_wp2_with fail
  refine H2.mono ?_
  rintro e w2 ⟨⟨fv, rfl, hf⟩, hb2⟩
  have H3 := not_any fv _ w2 hf
  have k4' := k4.up hb2
  clear H2 k4
  go_wp2_with fail
  refine H3.mono ?_
  rintro e w3 ⟨⟨fv', rfl, hf'⟩, hb3⟩
  have H4 := containsFunc_any m q2 c2 fv' _ w3 (k4'.up hb3) L2 hf'
  rw [HE.out] at H4
  clear H3
  go_wp2_with fail
  refine H4.mono ?_
  rintro e w4 ⟨rfl, hb4⟩
  go_wp2
  go_ret2
  have hb5 := hb1.trans (hb2.mono hb1.size)
  have hb6 := hb5.trans (hb3.mono hb5.size)
  exact ⟨by simp, hb6.trans (hb4.mono hb6.size)⟩

theorem any_bad (s t : List Nd) (p q : Option Addr) (c d : Nat) (w : World) (hs : NL w p s) (hc : s.length ≤ c) (hcm : c ≤ maxLen) (ht : NL w q t) (hd : t.length ≤ d) (hdm : d ≤ maxLen) (h : sfault s t ≠ 0) :
    Calls Tryd.prog 13 #[.slice p s.length c, .slice q t.length d] w fun e w' => e = .returned (.tuple #[.bool false, eV (sfault s t)]) ∧ Below w.heap.size w w' := by
  have H1 := partsOfBoth_bad s t p q c d w hs hc hcm ht hd hdm h
  rw [eV_not h] at H1 ⊢
  clear hs ht
  go_enter Tryd.func13, Tryd.ntmps13
  go_wp2_with fail
  refine H1.mono ?_
  rintro e w1 ⟨rfl, hb1⟩
  go_wp2
  go_ret2
  exact ⟨rfl, hb1⟩
theorem any_ok (l m : List (List Nd)) (p q : Option Addr) (c d : Nat) (w : World) (hs : NL w p (setN l)) (hc : (setN l).length ≤ c) (hcm : c ≤ maxLen) (ht : NL w q (setN m)) (hd : (setN m).length ≤ d) (hdm : d ≤ maxLen) (hl : IsSet l) (hm : IsSet m) :
    Calls Tryd.prog 13 #[.slice p (setN l).length c, .slice q (setN m).length d] w fun e w' => e = .returned (.tuple #[.bool (anyB l m), .nilIface]) ∧ Below w.heap.size w w' := by
  have H1 := partsOfBoth_ok l m p q c d w hs hc hcm ht hd hdm hl hm
  have L1 : l.length ≤ maxLen := Nat.le_trans hl.len (by decide)
  have L2 : m.length ≤ maxLen := Nat.le_trans hm.len (by decide)
  clear hs ht
  go_enter Tryd.func13, Tryd.ntmps13
  go_wp2_with fail
  refine H1.mono ?_
  rintro e w1 ⟨⟨q1, c1, q2, c2, rfl, k1, k2, k3, k4, k5, k6⟩, hb1⟩
  have H2 := hadBy_any q1 l c1 w1 k1 L1
  clear H1
  go_wp2_with fail
  refine H2.mono ?_
  rintro e w2 ⟨⟨fv, rfl, hf⟩, hb2⟩
  have H4 := containsFunc_any m q2 c2 fv _ w2 (k4.up hb2) L2 hf
  clear H2
  go_wp2_with fail
  refine H4.mono ?_
  rintro e w4 ⟨rfl, hb4⟩
  go_wp2
  go_ret2
  have hb5 := hb1.trans (hb2.mono hb1.size)
  exact ⟨rfl, hb5.trans (hb4.mono hb5.size)⟩
end Go.Proofs.YtncmjcjnldhhhaaDoor
