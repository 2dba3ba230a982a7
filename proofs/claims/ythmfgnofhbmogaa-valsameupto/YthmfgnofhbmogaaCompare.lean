/- Package val's Compare: what it tells of any two lists of nodes. -/
import Derived.Test.YthmfgnofhbmogaaCheck
namespace Go.Proofs.Ythmfgnofhbmogaa
open Go.RowKit
set_option linter.unusedVariables false

/-- What Compare tells: the number, the error. -/
def cmpN (a b : List Nd) : Int := if vfault a = 0 ∧ vfault b = 0 then lsC a b else 0
def cmpE (a b : List Nd) : Int := if vfault a = 0 then vfault b else vfault a

theorem vcompare_any (a b : List Nd) (p q : Option Addr) (c d : Nat) (w : World) (ha : NL w p a) (hb : NL w q b) (hc : a.length ≤ c) (hcm : c ≤ maxLen) (hd : b.length ≤ d) (hdm : d ≤ maxLen) :
    Calls Try.prog 5 #[.slice p a.length c, .slice q b.length d] w fun e w' => e = .returned (.tuple #[.int .i64 (cmpN a b), eV (cmpE a b)]) ∧ Below w.heap.size w w' := by
  have hla : a.length ≤ maxLen := Nat.le_trans hc hcm
  have hlb : b.length ≤ maxLen := Nat.le_trans hd hdm
  have H1 := vcheck_any a p c w ha hc hcm
  by_cases h1 : vfault a = 0
  · by_cases h2 : vfault b = 0
    · have HN : Hid (cmpN a b = lsC a b) := if_pos ⟨h1, h2⟩
      have HE : Hid (cmpE a b = 0) := by show _ = _; unfold cmpE; rw [if_pos h1, h2]
      rw [eV_nil h1] at H1
      go_enter Try.func5, Try.ntmps5
      go_wp2_with fail
      refine H1.mono ?_
      rintro e w1 ⟨rfl, hb1⟩
      have H2 := vcheck_any b q d w1 (hb.up hb1) hd hdm
      rw [eV_nil h2] at H2
      go_wp2_with fail
      refine H2.mono ?_
      rintro e w2 ⟨rfl, hb2⟩
      have hb3 := hb1.trans (hb2.mono hb1.size)
      go_wp2_with fail
      refine (order_any a b p q c d w2 (ha.up hb3) (hb.up hb3) hla hlb).mono ?_
      rintro e w3 ⟨rfl, hb4⟩
      go_wp2
      go_ret2
      exact ⟨by rw [HN.out, HE.out]; rfl, hb3.trans (hb4.1.mono hb3.size)⟩
    · have HN : Hid (cmpN a b = 0) := if_neg (fun h => h2 h.2)
      have HE : Hid (cmpE a b = vfault b) := if_pos h1
      rw [eV_nil h1] at H1
      go_enter Try.func5, Try.ntmps5
      go_wp2_with fail
      refine H1.mono ?_
      rintro e w1 ⟨rfl, hb1⟩
      have H2 := vcheck_any b q d w1 (hb.up hb1) hd hdm
      rw [eV_not h2] at H2
      go_wp2_with fail
      refine H2.mono ?_
      rintro e w2 ⟨rfl, hb2⟩
      have hb3 := hb1.trans (hb2.mono hb1.size)
      go_wp2
      go_ret2
      exact ⟨by rw [HN.out, HE.out, eV_not h2]; rfl, hb3⟩
  · have HN : Hid (cmpN a b = 0) := if_neg (fun h => h1 h.1)
    have HE : Hid (cmpE a b = vfault a) := if_neg h1
    rw [eV_not h1] at H1
    go_enter Try.func5, Try.ntmps5
    go_wp2_with fail
    refine H1.mono ?_
    rintro e w1 ⟨rfl, hb1⟩
    go_wp2
    go_ret2
    exact ⟨by rw [HN.out, HE.out, eV_not h1]; rfl, hb1⟩
end Go.Proofs.Ythmfgnofhbmogaa
