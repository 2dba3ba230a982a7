/- Package bag's Has: what it returns, of every two lists of nodes. -/
import Derived.Test.YtncmjcjnldhhhaaDoorBagFns
import Derived.Test.YtncmjcjnldhhhaaDoorBagParts
namespace Go.Proofs.YtncmjcjnldhhhaaDoor
open Go.RowKit
set_option linter.unusedVariables false

/-- What Has has wrong, by number. -/
def hfault (s v : List Nd) : Int := if cfault s v = 0 then (if isSetV s = true then 0 else 2) else cfault s v

theorem has_bad (s t : List Nd) (p q : Option Addr) (c d : Nat) (w : World) (hs : NL w p s) (hc : s.length ≤ c) (hcm : c ≤ maxLen) (ht : NL w q t) (hd : t.length ≤ d) (hdm : d ≤ maxLen) (h : hfault s t ≠ 0) :
    Calls Tryd.prog 6 #[.slice p s.length c, .slice q t.length d] w fun e w' => e = .returned (.tuple #[.bool false, eV (hfault s t)]) ∧ Below w.heap.size w w' := by
  have H1 := checkBoth_any s t p q c d w hs hc hcm ht hd hdm
  by_cases hz : cfault s t = 0
  · rw [eV_nil hz] at H1
    obtain ⟨h1, h2, _⟩ := sfault_v hz
    have h5 : isSetV s = false := by
      cases e : isSetV s with
      | false => rfl
      | true => unfold hfault at h; rw [if_pos hz, if_pos e] at h; exact absurd rfl h
    have h4 : hfault s t = 2 := by unfold hfault; rw [if_pos hz, h5]; simp
    have H2 := fun w' (hb : Below w.heap.size w w') => partsOf_type s p c w' (hs.up hb) hc hcm h1 h5
    rw [h4]
    rw [eV_not (by decide : (2 : Int) ≠ 0)] at H2 ⊢
    clear h4 h hz
    go_enter Tryd.func6, Tryd.ntmps6
    go_wp2_with fail
    refine H1.mono ?_
    rintro e w1 ⟨rfl, hb1⟩
    go_wp2_with fail
    refine (H2 w1 hb1).mono ?_
    rintro e w2 ⟨rfl, rfl⟩
    go_wp2
    go_ret2
    exact ⟨rfl, hb1⟩
  · have h4 : hfault s t = cfault s t := by unfold hfault; rw [if_neg hz]
    rw [h4]
    rw [eV_not hz] at H1 ⊢
    go_enter Tryd.func6, Tryd.ntmps6
    go_wp2_with fail
    refine H1.mono ?_
    rintro e w1 ⟨rfl, hb1⟩
    go_wp2
    go_ret2
    exact ⟨rfl, hb1⟩

theorem hfault_zero {s t : List Nd} (h : hfault s t = 0) : vfault t = 0 ∧ ∃ l, IsSet l ∧ s = setN l := by
  unfold hfault at h
  split at h
  · rename_i hz
    obtain ⟨h1, h2, _⟩ := sfault_v hz
    split at h
    · rename_i h5; exact ⟨h2, one_row h1 h5⟩
    · cases h
  · rename_i hz; exact absurd h hz

theorem has_ok (l : List (List Nd)) (t : List Nd) (p q : Option Addr) (c d : Nat) (w : World) (hs : NL w p (setN l)) (hc : (setN l).length ≤ c) (hcm : c ≤ maxLen) (ht : NL w q t) (hd : t.length ≤ d) (hdm : d ≤ maxLen) (hl : IsSet l) (hv : vfault t = 0) :
    Calls Tryd.prog 6 #[.slice p (setN l).length c, .slice q t.length d] w fun e w' => e = .returned (.tuple #[.bool (inB l t), .nilIface]) ∧ Below w.heap.size w w' := by
  have H1 := checkBoth_any (setN l) t p q c d w hs hc hcm ht hd hdm
  have hz : cfault (setN l) t = 0 := by unfold cfault; rw [if_pos hl.value]; exact hv
  rw [eV_nil hz] at H1
  have H2 := fun w' (hb : Below w.heap.size w w') => partsOf_set l p c w' (hs.up hb) hc hcm hl
  have L1 : l.length ≤ maxLen := Nat.le_trans hl.len (by decide)
  clear hz hs hl
  go_enter Tryd.func6, Tryd.ntmps6
  go_wp2_with fail
  refine H1.mono ?_
  rintro e w1 ⟨rfl, hb1⟩
  go_wp2_with fail
  refine (H2 w1 hb1).mono ?_
  rintro e w2 ⟨⟨q2, c2, rfl, k1, k2, k3, _⟩, hb2⟩
  have H3 := hadBy_any q2 l c2 w2 k1 L1
  have hb3 := hb1.trans (hb2.mono hb1.size)
  have ht2 := ht.up hb3
  clear H1 H2 ht
  go_wp2_with fail
  refine H3.mono ?_
  rintro e w3 ⟨⟨fv, rfl, hf⟩, hb4⟩
  obtain ⟨g, lb, rfl, eg, hp⟩ := hf
  have H4 := hp w3 q t d (Below.refl _ _) (ht2.up hb4) hd hdm
  have hb5 := hb3.trans (hb4.mono hb3.size)
  clear H3 hp
  go_wp2_with (go_at_fn g; refine H4.mono ?_; rintro e w4 ⟨rfl, hb6⟩)
  go_ret2
  exact ⟨rfl, hb5.trans (hb6.mono hb5.size)⟩
end Go.Proofs.YtncmjcjnldhhhaaDoor
