/- Package bag's Meet: what it returns, of every two lists of nodes. -/
import Derived.Test.YtncmjcjnldhhhaaDoorBagFns
import Derived.Test.YtncmjcjnldhhhaaDoorBagParts
import Derived.Test.YtncmjcjnldhhhaaDoorSetFit
namespace Go.Proofs.YtncmjcjnldhhhaaDoor
open Go.RowKit
set_option linter.unusedVariables false

theorem meet_bad (s t : List Nd) (p q : Option Addr) (c d : Nat) (w : World) (hs : NL w p s) (hc : s.length ≤ c) (hcm : c ≤ maxLen) (ht : NL w q t) (hd : t.length ≤ d) (hdm : d ≤ maxLen) (h : sfault s t ≠ 0) :
    Calls Tryd.prog 16 #[.slice p s.length c, .slice q t.length d] w fun e w' => e = .returned (.tuple #[.slice none 0 0, eV (sfault s t)]) ∧ Below w.heap.size w w' := by
  have H1 := partsOfBoth_bad s t p q c d w hs hc hcm ht hd hdm h
  rw [eV_not h] at H1 ⊢
  clear hs ht
  go_enter Tryd.func16, Tryd.ntmps16
  go_wp2_with fail
  refine H1.mono ?_
  rintro e w1 ⟨rfl, hb1⟩
  go_wp2
  go_ret2
  exact ⟨rfl, hb1⟩
theorem meet_ok (l m : List (List Nd)) (p q : Option Addr) (c d : Nat) (w : World) (hs : NL w p (setN l)) (hc : (setN l).length ≤ c) (hcm : c ≤ maxLen) (ht : NL w q (setN m)) (hd : (setN m).length ≤ d) (hdm : d ≤ maxLen) (hl : IsSet l) (hm : IsSet m) :
    Calls Tryd.prog 16 #[.slice p (setN l).length c, .slice q (setN m).length d] w fun e w' => (∃ q c', e = .returned (.tuple #[.slice q (setN (meetL l m)).length c', .nilIface]) ∧ NL w' q (setN (meetL l m)) ∧ (setN (meetL l m)).length ≤ c' ∧ c' ≤ maxLen) ∧ Below w.heap.size w w' := by
  have H1 := partsOfBoth_ok l m p q c d w hs hc hcm ht hd hdm hl hm
  have L1 : l.length ≤ 4294967296 := Nat.le_trans hl.len (by decide)
  have L2 : m.length ≤ maxLen := Nat.le_trans hm.len (by decide)
  have hI := isSet_meet hl m
  have L3 : (meetL l m).length ≤ 4294967296 := Nat.le_trans hI.len (by decide)
  have HI : Hid (IsSet (meetL l m)) := hI
  clear hs ht hI
  go_enter Tryd.func16, Tryd.ntmps16
  go_wp2_with fail
  refine H1.mono ?_
  rintro e w1 ⟨⟨q1, c1, q2, c2, rfl, k1, k2, k3, k4, k5, k6⟩, hb1⟩
  have H2 := hadBy_any q2 m c2 w1 k4 L2
  clear H1
  go_wp2_with fail
  refine H2.mono ?_
  rintro e w2 ⟨⟨fv, rfl, hf⟩, hb2⟩
  have H3 := those_any l q1 c1 fv _ w2 (k1.up hb2) L1 hf
  rw [show l.filter (inB m) = meetL l m from rfl] at H3
  clear H2
  go_wp2_with fail
  refine H3.mono ?_
  rintro e w3 ⟨⟨q3, c3, rfl, k7, k8, k9⟩, hb3⟩
  have H4 := setOf_fit (meetL l m) (setN (meetL l m)) (by rw [HI.out.row]) q3 c3 w3 k7 L3 HI.out.vals HI.out.short
  clear H3
  go_wp2_with fail
  refine H4.mono ?_
  rintro e w4 ⟨⟨q4, c4, rfl, j1, j2, j3⟩, hb4⟩
  go_wp2
  go_ret2
  have hb5 := hb1.trans (hb2.mono hb1.size)
  have hb6 := hb5.trans (hb3.mono hb5.size)
  exact ⟨⟨q4, c4, rfl, j1, j2, j3⟩, hb6.trans (hb4.mono hb6.size)⟩
end Go.Proofs.YtncmjcjnldhhhaaDoor
