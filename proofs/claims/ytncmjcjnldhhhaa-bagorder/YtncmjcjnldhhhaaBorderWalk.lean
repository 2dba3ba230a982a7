/- BagOrder: the walk of the statement's own function. -/
import Derived.Test.YtncmjcjnldhhhaaBagAsk
import Derived.Test.YtncmjcjnldhhhaaBagMeet
import Derived.Test.YtncmjcjnldhhhaaBagLit
import Derived.Test.YtncmjcjnldhhhaaSame
namespace Go.Proofs.Ytncmjcjnldhhhaa
open Go.RowKit
set_option linter.unusedVariables false

set_option maxRecDepth 100000 in
set_option maxHeartbeats 2000000 in
theorem border_walk (s t : List Nd) (p q : Option Addr) (c d : Nat) (w : World) (hs : NL w p s) (ht : NL w q t) (hc : s.length ≤ c) (hd : t.length ≤ d) (hcm : c ≤ maxLen) (hdm : d ≤ maxLen) :
    Calls Try.prog 3 #[.slice p s.length c, .slice q t.length d] w fun e w' => e = .returned (.bool true) ∧ Below w.heap.size w w' := by
  have HF := all_ok [num5] [num5] (some ⟨w.heap.size, 0, none⟩) (some ⟨w.heap.size, 0, none⟩) 2 2 _ (lit_num5 w) (by decide) (by decide) (lit_num5 w) (by decide) (by decide) isSet_num5 isSet_num5
  rw [allB_self] at HF
  go_enter Try.func3, Try.ntmps3
  go_wp2_with fail
  refine HF.mono ?_
  rintro e w1 ⟨rfl, k1'⟩
  have k1 := bel2 (alloc_bel w _) k1'
  clear HF k1'
  by_cases h : sfault s t = 0
  · obtain ⟨l, m, hl, hm, rfl, rfl⟩ := sfault_zero h
    have N1 : (setN l).length ≤ maxLen := Nat.le_trans hc hcm
    have N2 : (setN m).length ≤ maxLen := Nat.le_trans hd hdm
    have HI := isSet_meet hl m
    have A1 := fun w' (k : Below w.heap.size w w') => all_ok l m p q c d w' (hs.up k) hc hcm (ht.up k) hd hdm hl hm
    have A2 := fun w' (k : Below w.heap.size w w') => all_ok m l q p d c w' (ht.up k) hd hdm (hs.up k) hc hcm hm hl
    have A3 := fun w' (k : Below w.heap.size w w') => meet_ok l m p q c d w' (hs.up k) hc hcm (ht.up k) hd hdm hl hm
    have A4 := fun q' c' w' (h' : NL w' q' (setN (meetL l m))) (hm' : (setN (meetL l m)).length ≤ maxLen) (k : Below w.heap.size w w') => sameNodes_any (setN (meetL l m)) (setN m) q' q c' d w' h' (ht.up k) hm' N2
    have A5 := fun w' (k : Below w.heap.size w w') => sameNodes_any (setN l) (setN m) p q c d w' (hs.up k) (ht.up k) N1 N2
    have A6 := fun w' (k : Below w.heap.size w w') => any_ok l m p q c d w' (hs.up k) hc hcm (ht.up k) hd hdm hl hm
    have A7 := fun w' (k : Below w.heap.size w w') => all_ok l l p p c c w' (hs.up k) hc hcm (hs.up k) hc hcm hl hl
    rw [meet_all hl hm] at A4
    rw [both_all hl hm] at A5
    rw [allB_self] at A7
    have HL : Hid (_ ↔ _) := meet_some (m := m) hl
    have i0 : 0 < (setN (meetL l m)).length := by simp [setN]
    clear h HI hl hm hs ht
    generalize (setN (meetL l m)) = M at *
    generalize (setN l).length = n1 at *
    generalize (setN m).length = n2 at *
    generalize allB l m = a at *
    generalize allB m l = b at *
    generalize anyB l m = x at *
    go_wp2_with fail
    refine (A1 w1 k1).mono ?_
    rintro e w2 ⟨rfl, k2'⟩
    have k2 := bel2 k1 k2'
    clear A1 k2' k1
    go_wp2_with fail
    refine (A2 w2 k2).mono ?_
    rintro e w3 ⟨rfl, k3'⟩
    have k3 := bel2 k2 k3'
    clear A2 k3' k2
    go_wp2_with fail
    refine (A3 w3 k3).mono ?_
    rintro e w4 ⟨⟨q4, c4, rfl, h4, l4, m4⟩, k4'⟩
    have k4 := bel2 k3 k4'
    clear A3 k4' k3
    go_wp2_with fail
    refine (A4 q4 c4 w4 h4 (Nat.le_trans l4 m4) k4).mono ?_
    rintro e w5 ⟨rfl, n5, rfl⟩
    have k5 := bel_n k4 n5
    clear A4 k4
    go_wp2_with fail
    refine (A5 _ k5).mono ?_
    rintro e w6 ⟨rfl, n6, rfl⟩
    have k6 := bel_n k5 n6
    rw [World.drewN_drewN] at k6
    clear A5 k5
    go_wp2_with fail
    refine (A6 _ k6).mono ?_
    rintro e w7 ⟨rfl, k7'⟩
    have k7 := bel2 k6 k7'
    clear A6 k6 k7'
    go_wp2_with fail
    refine (A7 _ k7).mono ?_
    rintro e w8 ⟨rfl, k8'⟩
    have k8 := bel2 k7 k8'
    clear A7 k7 k8' h4
    have j0 : ((M.length : Int) == 0) = false := by simp; intro e; rw [e] at i0; simp at i0
    cases x with
    | true =>
      have j1 : (1 : Int) < (M.length : Int) := by have := HL.out.2 rfl; omega
      cases a <;> cases b
      all_goals
        go_wp2
        go_ret
        exact ⟨rfl, k8⟩
    | false =>
      have j1 : ¬ (1 : Int) < (M.length : Int) := fun h => by have := HL.out.1 (by omega); cases this
      cases a <;> cases b
      all_goals
        go_wp2
        go_ret
        exact ⟨by show Ending.returned (.bool (!decide ((1 : Int) < (M.length : Int)))) = _; rw [decide_eq_false (by omega)]; rfl, k8⟩
  · have h2 : sfault t s ≠ 0 := fun e => h (sfault_swap.1 e)
    have A1 := fun w' (k : Below w.heap.size w w') => all_bad s t p q c d w' (hs.up k) hc hcm (ht.up k) hd hdm h
    have A2 := fun w' (k : Below w.heap.size w w') => all_bad t s q p d c w' (ht.up k) hd hdm (hs.up k) hc hcm h2
    rw [eV_not h] at A1
    rw [eV_not h2] at A2
    clear hs ht
    go_wp2_with fail
    refine (A1 w1 k1).mono ?_
    rintro e w2 ⟨rfl, k2'⟩
    have k2 := bel2 k1 k2'
    clear A1 k2' k1
    go_wp2_with fail
    refine (A2 w2 k2).mono ?_
    rintro e w3 ⟨rfl, k3'⟩
    have k3 := bel2 k2 k3'
    clear A2 k3' k2
    go_wp2
    go_ret
    exact ⟨rfl, k3⟩
end Go.Proofs.Ytncmjcjnldhhhaa
