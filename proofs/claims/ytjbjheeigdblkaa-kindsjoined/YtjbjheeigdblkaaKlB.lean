/- The statements on kinds: the ways of Join; what a join is, as nodes. -/
import Derived.Test.YtjbjheeigdblkaaKlA
namespace Go.Proofs.Ytjbjheeigdblkaa
open Go.RowKit
set_option linter.unusedVariables false
set_option maxRecDepth 100000

/-- Join has an answer. -/
def JoinsTo (a b : List Nd) (x y : Nd) (k l : Tp) (z : Nd) (m : Tp) : Prop := a.length ≤ 200 ∧ b.length ≤ 200 ∧ KTy a x k ∧ KTy b y l ∧ jn false (.cons x k .nil) (.cons y l .nil) = .cons z m .nil ∧ m.flat.length + 1 ≤ 200
theorem JoinsTo.kty {a b : List Nd} {x y z : Nd} {k l m : Tp} (h : JoinsTo a b x y k l z m) : KTy (z :: m.flat) z m ∧ (z :: m.flat).length ≤ 200 := by
  obtain ⟨_, _, h1, h2, h3, h4⟩ := h
  have := h1.1.jn h2.1
  rw [h3] at this
  exact ⟨⟨this, rfl⟩, by simp; omega⟩
theorem JoinsTo.calls {a b : List Nd} {x y z : Nd} {k l m : Tp} (h : JoinsTo a b x y k l z m) {w : World} {p q : Option Addr} {c d : Nat} (ha : AK w a p c) (hb : AK w b q d) : Calls Try.prog 11 #[.slice p a.length c, .slice q b.length d] w fun e w' => (∃ q' c', e = .returned (.tuple #[.slice q' (z :: m.flat).length c', .nilIface]) ∧ AK w' (z :: m.flat) q' c') ∧ Below w.heap.size w w' := by
  obtain ⟨la, lb, h1, h2, h3, h4⟩ := h
  have hf : (Tp.cons z m .nil).flat = z :: m.flat := by simp [Tp.flat]
  have := AK.join ha hb la lb h1 h2 (by rw [h3, hf]; simp; omega)
  rw [h3, hf] at this
  exact this
/-- Join answers, or tells an error. -/
theorem join_ways (a b : List Nd) : (∃ x y k l z m, JoinsTo a b x y k l z m) ∨ ∃ n : Int, ∀ (w : World) (p q : Option Addr) (c d : Nat), AK w a p c → AK w b q d → Calls Try.prog 11 #[.slice p a.length c, .slice q b.length d] w fun e w' => e = .returned (.tuple #[.slice none 0 0, .iface 47 (.int .i64 n)]) ∧ Below w.heap.size w w' := by
  by_cases h : bfault a b = 0
  · have h1 : kfault a = 0 := by
      unfold bfault at h
      split at h
      · assumption
      · exact h
    have h2 : kfault b = 0 := by unfold bfault at h; rw [if_pos h1] at h; exact h
    obtain ⟨la, x, k, hx⟩ := kfault_zero h1
    obtain ⟨lb, y, l, hy⟩ := kfault_zero h2
    obtain ⟨z, m, hj, _⟩ := (hx.1.jn hy.1).of
    by_cases hs : m.flat.length + 1 ≤ 200
    · exact .inl ⟨x, y, k, l, z, m, la, lb, hx, hy, hj, hs⟩
    · refine .inr ⟨4, fun w p q c d ha hb => AK.join_full ha hb la lb hx hy ?_⟩
      rw [hj]
      simp [Tp.flat]
      omega
  · exact .inr ⟨_, fun w p q c d ha hb => AK.join_err ha hb h⟩
/-- Below answers, or tells an error: by what is wrong. -/
theorem bfault_second {a b : List Nd} {x : Nd} {k : Tp} (la : a.length ≤ 200) (h : KTy a x k) (hb : kfault b ≠ 0) : bfault a b ≠ 0 := by
  unfold bfault
  rw [if_pos (kfault_ok la h)]
  exact hb
/-- Whichever two come first. -/
theorem joined_same {a b c R Q : List Nd} {x y z y' t z' x2 y2 z2 x3 y3 z3 : Nd} {k l m l' o m' k2 l2 m2 k3 l3 m3 : Tp} (hJ : JoinsTo a b x y k l z m) (hK : JoinsTo b c y' t l' o z' m') (hR : R = z :: m.flat) (hQ : Q = z' :: m'.flat) (hP : JoinsTo R c x2 y2 k2 l2 z2 m2) (hN : JoinsTo a Q x3 y3 k3 l3 z3 m3) : z2 :: m2.flat = z3 :: m3.flat := by
  subst hR hQ
  have e1 := hJ.kty.1
  have e2 := hK.kty.1
  obtain ⟨_, _, j1, j2, j3, _⟩ := hJ
  obtain ⟨_, _, g1, g2, g3, _⟩ := hK
  obtain ⟨_, _, p1, p2, p3, _⟩ := hP
  obtain ⟨_, _, n1, n2, n3, _⟩ := hN
  obtain ⟨rfl, rfl⟩ := j2.uniq g1
  obtain ⟨rfl, rfl⟩ := p1.uniq e1
  obtain ⟨rfl, rfl⟩ := n2.uniq e2
  obtain ⟨rfl, rfl⟩ := p2.uniq g2
  obtain ⟨rfl, rfl⟩ := n1.uniq j1
  have := jn_assoc j1.1 j2.1 g2.1
  rw [j3, g3, p3, n3] at this
  cases this
  rfl
/-- Joined with one below it, it is it. -/
theorem joined_below {a b R : List Nd} {x y z : Nd} {k l m : Tp} (hJ : JoinsTo a b x y k l z m) (hR : R = z :: m.flat) : blw false (.cons y l .nil) (.cons x k .nil) = sameNd R a := by
  have e1 := hJ.kty.1
  obtain ⟨_, _, j1, j2, j3, _⟩ := hJ
  have := jn_eq_iff j1.1 j2.1
  rw [j3] at this
  rw [Bool.eq_iff_iff, sameNd_iff]
  show Le _ _ ↔ _
  rw [← this]
  constructor
  · intro e; cases e; rw [hR, j1.2]
  · intro e
    rw [hR] at e
    rw [e] at e1
    obtain ⟨rfl, rfl⟩ := e1.uniq j1
    rfl
end Go.Proofs.Ytjbjheeigdblkaa
