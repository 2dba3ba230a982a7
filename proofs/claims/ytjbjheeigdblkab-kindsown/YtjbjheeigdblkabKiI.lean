/- How many nodes a join has at most. No program is named here. -/
import Derived.Test.YtjbjheeigdblkabKiD
namespace Go.Proofs.Ytjbjheeigdblkab
set_option linter.unusedVariables false

theorem insF_flat (f : Nd) (kf : Tp) : ∀ t : Tp, (insF f kf t).flat.length = kf.flat.length + 1 + t.flat.length
  | .nil => by simp [insF, Tp.flat]
  | .cons g kg r => by
    rw [insF]
    split
    · simp [Tp.flat]; omega
    · simp [Tp.flat, insF_flat f kf r]; omega
theorem addF_flat (k : Tp) : ∀ l m : Tp, (addF k l m).flat.length = (thoseF k l).flat.length + m.flat.length
  | .nil, m => by simp [addF, thoseF, Tp.flat]
  | .cons f kf r, m => by
    have := addF_flat k r m
    rw [addF, thoseF]
    split
    · rw [insF_flat]; simp [Tp.flat]; omega
    · exact this
theorem those_nil : ∀ l : Tp, (thoseF .nil l).flat.length = l.flat.length
  | .nil => rfl
  | .cons f kf r => by rw [thoseF, if_pos (by simp [Tp.find])]; simp [Tp.flat, those_nil r]
theorem those_same {f : Nd} {kf r : Tp} : ∀ {l : Tp}, l.find f.s = none → thoseF (.cons f kf r) l = thoseF r l
  | .nil, _ => rfl
  | .cons g kg l, h => by
    have hne : g.s ≠ f.s := fun e => by rw [Tp.find, if_pos e] at h; cases h
    rw [find_ne hne] at h
    rw [thoseF, thoseF, find_ne (f := f) (fun e => hne e.symm), those_same h]
theorem those_less {f : Nd} {kf r : Tp} : ∀ l : Tp, (thoseF (.cons f kf r) l).flat.length ≤ (thoseF r l).flat.length
  | .nil => Nat.le_refl _
  | .cons g kg l => by
    have ih := those_less (f := f) (kf := kf) (r := r) l
    rw [thoseF, thoseF]
    by_cases e : f.s = g.s
    · rw [if_neg (by rw [Tp.find, if_pos e]; simp)]
      split
      · simp [Tp.flat]; omega
      · exact ih
    · rw [find_ne e]
      split
      · simp [Tp.flat]; omega
      · exact ih
theorem those_drop {f : Nd} {kf r : Tp} (hr : r.find f.s = none) : ∀ {l : Tp} {g : Nd} {kg : Tp}, l.find f.s = some (g, kg) → (thoseF (.cons f kf r) l).flat.length + 1 + kg.flat.length ≤ (thoseF r l).flat.length
  | .nil, g, kg, h => by simp [Tp.find] at h
  | .cons g' kg' l, g, kg, h => by
    rw [thoseF, thoseF]
    by_cases e : g'.s = f.s
    · rw [Tp.find, if_pos e] at h
      simp only [Option.some.injEq, Prod.mk.injEq] at h
      obtain ⟨rfl, rfl⟩ := h
      have := those_less (f := f) (kf := kf) (r := r) l
      rw [if_neg (by rw [Tp.find, if_pos e.symm]; simp), if_pos (by rw [e, hr]; rfl)]
      simp [Tp.flat]
      omega
    · rw [find_ne e] at h
      have ih := those_drop (kf := kf) hr h
      rw [find_ne (f := f) (fun q => e q.symm)]
      split
      · simp [Tp.flat]; omega
      · exact ih
theorem jnT_flat {l : Tp} : ∀ {k : Tp} {a : ByteArray}, Fl a k → (∀ s f kf g kg, k.find s = some (f, kf) → l.find s = some (g, kg) → (jn false kf kg).flat.length ≤ kf.flat.length + kg.flat.length) → (jn true k l).flat.length + (thoseF k l).flat.length ≤ k.flat.length + l.flat.length
  | .nil, a, _, _ => by simp [jn, Tp.flat, those_nil]
  | .cons f kf r, a, hk, hj => by
    obtain ⟨_, _, h7⟩ := Fl.cons_iff.1 hk
    have ih := jnT_flat h7 (fun s f' kf' g kg h => hj s f' kf' g kg (hk.find_tail h))
    have hr : r.find f.s = none := h7.low (by rw [cmpB_is.self]; omega)
    rw [jn_flds]
    cases e : l.find f.s with
    | none => rw [those_same e]; simp [Tp.flat]; omega
    | some p =>
      have h1 := those_drop (kf := kf) hr e
      have h2 := hj f.s f kf p.1 p.2 Fl.find_head e
      simp [Tp.flat]
      omega
theorem jn_flat (a b : Tp) {n : Nat} (hn : a.sz < n) (ha : T1 a) (hb : T1 b) : (jn false a b).flat.length ≤ a.flat.length + b.flat.length := by
  induction n generalizing a b with
  | zero => omega
  | succ n ih =>
    obtain ⟨x, k, rfl, hx⟩ := ha.of
    obtain ⟨y, l, rfl, hy⟩ := hb.of
    simp only [Tp.sz] at hn
    rw [jn_cons]
    split
    · simp [Tp.flat]
    split
    · simp [Tp.flat]
    split
    · rename_i c
      cases hx with
      | leaf op h => have := c.1; simp only [lfN] at this; omega
      | ent s h => simp at c
      | rcd k h => simp at c
      | set k hk =>
        cases hy with
        | leaf op h => have := c.2; simp only [lfN] at this; omega
        | ent s h => simp at c
        | rcd k h => simp at c
        | set l hl => have := ih k l (by omega) hk hl; simp [Tp.flat]; omega
    split
    · rename_i c
      cases hx with
      | leaf op h => have := c.1; simp only [lfN] at this; omega
      | ent s h => simp at c
      | set k h => simp [lfN] at c
      | rcd k hk =>
        cases hy with
        | leaf op h => have := c.2; simp only [lfN] at this; omega
        | ent s h => simp at c
        | set k h => simp [lfN] at c
        | rcd l hl =>
          have h1 := jnT_flat (l := l) hk (fun s f kf g kg h1 h2 => ih kf kg (by have := find_sz h1; omega) (hk.find h1).2.2.2.2 (hl.find h2).2.2.2.2)
          have h2 := addF_flat k l (jn true k l)
          simp [Tp.flat]
          omega
    split
    · simp [Tp.flat]
    · simp [Tp.flat]; omega
end Go.Proofs.Ytjbjheeigdblkab
