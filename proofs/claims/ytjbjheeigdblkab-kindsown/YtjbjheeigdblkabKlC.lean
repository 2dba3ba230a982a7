/- The statements on kinds: Has of arguments. -/
import Derived.Test.YtjbjheeigdblkabKlA
import Derived.Test.YtjbjheeigdblkabKiHa
namespace Go.Proofs.Ytjbjheeigdblkab
open Go.RowKit
set_option linter.unusedVariables false
set_option maxRecDepth 100000

section
variable {t v : List Nd} {w : World} {p q : Option Addr} {c d : Nat} (ht : AK w t p c) (hv : AK w v q d)
include ht hv
theorem AK.has_err (h : hfault t v ≠ 0) : Calls Try.prog 6 #[.slice p t.length c, .slice q v.length d] w fun e w' => e = .returned (.tuple #[.bool false, .iface 48 (.int .i64 (hfault t v))]) ∧ Below w.heap.size w w' := khas_err t v w p q c d ht.nl hv.nl ht.le ht.cm hv.le hv.cm h
theorem AK.has {x y : Nd} {k l : Tp} (hlt : t.length ≤ 200) (hlv : v.length ≤ 200) (hk : KTy t x k) (hl : VTy v y l) (hz : vfault v = 0) : Calls Try.prog 6 #[.slice p t.length c, .slice q v.length d] w fun e w' => e = .returned (.tuple #[.bool (hs false (.cons y l .nil) (.cons x k .nil)), .nilIface]) ∧ Below w.heap.size w w' := khas_ok t v w p q c d ht.nl hv.nl ht.le ht.cm hv.le hv.cm x y k l hlt hlv hk hl hz
end
/-- Has answers, or tells an error. -/
theorem has_ways (t v : List Nd) : (∃ x y k l, t.length ≤ 200 ∧ v.length ≤ 200 ∧ KTy t x k ∧ VTy v y l ∧ vfault v = 0) ∨ hfault t v ≠ 0 := by
  by_cases h : hfault t v = 0
  · have h1 : kfault t = 0 := by
      unfold hfault at h
      split at h
      · assumption
      · exact h
    have h2 : vfault v = 0 := by unfold hfault at h; rw [if_pos h1] at h; exact h
    obtain ⟨la, x, k, hx⟩ := kfault_zero h1
    obtain ⟨lb, y, l, hy⟩ := vty_of h2
    exact .inl ⟨x, y, k, l, la, lb, hx, hy, h2⟩
  · exact .inr h
theorem below_ways (a b : List Nd) : (∃ x y k l, a.length ≤ 200 ∧ b.length ≤ 200 ∧ KTy a x k ∧ KTy b y l) ∨ bfault a b ≠ 0 := by
  by_cases h : bfault a b = 0
  · have h1 : kfault a = 0 := by
      unfold bfault at h
      split at h
      · assumption
      · exact h
    have h2 : kfault b = 0 := by unfold bfault at h; rw [if_pos h1] at h; exact h
    obtain ⟨la, x, k, hx⟩ := kfault_zero h1
    obtain ⟨lb, y, l, hy⟩ := kfault_zero h2
    exact .inl ⟨x, y, k, l, la, lb, hx, hy⟩
  · exact .inr h
/-- What has the less has the more. -/
theorem fits_more {y x x2 : Nd} {l k k2 : Tp} (hv : okV none (.cons y l .nil)) (h1 : T1 (.cons x k .nil)) (h2 : T1 (.cons x2 k2 .nil)) (hh : hs false (.cons y l .nil) (.cons x k .nil) = true) (hb : blw false (.cons x k .nil) (.cons x2 k2 .nil) = true) : hs false (.cons y l .nil) (.cons x2 k2 .nil) = true := by
  obtain ⟨h3, h4⟩ := own_ok hv
  exact (h4 _ h2).2 (Le.trans h3 h1 h2 ((h4 _ h1).1 hh) hb)
end Go.Proofs.Ytjbjheeigdblkab
