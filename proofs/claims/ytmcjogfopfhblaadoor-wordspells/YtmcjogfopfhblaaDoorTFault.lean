/- Texts and uids that may not be, by numbers. No program is named here. -/
import Derived.Test.YtmcjogfopfhblaaDoorNameL
import Derived.Test.YtmcjogfopfhblaaDoorQuoteL
namespace Go.Proofs.YtmcjogfopfhblaaDoor

/-- 0: a text; 1: a byte of it may not be; 4: it is too long. -/
def tfault (l : List UInt8) : Int := if l.length ≤ 60 then (if l.all okb then 0 else 1) else 4
theorem tfault_long {l : List UInt8} (h : ¬ l.length ≤ 60) : tfault l = 4 := if_neg h
theorem tfault_bad {l : List UInt8} (h : l.length ≤ 60) (h2 : l.all okb = false) : tfault l = 1 := by unfold tfault; rw [if_pos h, h2]; rfl
theorem tfault_ok {l : List UInt8} (h : textOk l = true) : tfault l = 0 := by
  unfold textOk at h
  simp only [Bool.and_eq_true, decide_eq_true_eq] at h
  unfold tfault; rw [if_pos h.1, h.2]; rfl
theorem tfault_not {l : List UInt8} (h : textOk l = false) : tfault l ≠ 0 := by
  unfold tfault
  unfold textOk at h
  by_cases h1 : l.length ≤ 60
  · rw [decide_eq_true h1, Bool.true_and] at h
    rw [if_pos h1, h]; decide
  · rw [if_neg h1]; decide
/-- What is wrong with a uid. -/
def ufault (t i : List UInt8) : Int := if nfault t = 0 then tfault i else nfault t
theorem ufault_both {t i : List UInt8} (h : ufault t i = 0) : nfault t = 0 ∧ textOk i = true := by
  unfold ufault at h
  by_cases h1 : nfault t = 0
  · rw [if_pos h1] at h
    refine ⟨h1, ?_⟩
    cases h2 : textOk i
    · exact absurd h (tfault_not h2)
    · rfl
  · rw [if_neg h1] at h
    exact absurd h h1
theorem nfault_small {t : List UInt8} (h : nfault t = 0) : t.length ≤ 20 := by
  unfold nfault at h
  by_cases h1 : nm t = true
  · rw [if_pos h1] at h
    by_cases h2 : 20 < t.length
    · rw [if_pos h2] at h; exact absurd h (by decide)
    · omega
  · rw [if_neg h1] at h; exact absurd h (by decide)
theorem ufault_small {t i : List UInt8} (h : ufault t i = 0) : t.length ≤ 20 ∧ i.length ≤ 60 := by
  obtain ⟨h1, h2⟩ := ufault_both h
  refine ⟨nfault_small h1, ?_⟩
  unfold textOk at h2
  rw [Bool.and_eq_true, decide_eq_true_eq] at h2
  exact h2.1
end Go.Proofs.YtmcjogfopfhblaaDoor
