/- Types as trees: the least above two; what a value has, and what of its own. No program is named here. -/
import Derived.Test.YtjbjheeigdblkabKiA
namespace Go.Proofs.Ytjbjheeigdblkab
set_option linter.unusedVariables false

/-- A field more, at its place. -/
def insF (f : Nd) (kf : Tp) : Tp → Tp
  | .nil => .cons f kf .nil
  | .cons g kg r => if cmpB f.s g.s < 0 then .cons f kf (.cons g kg r) else .cons g kg (insF f kf r)
/-- The fields that k has not, as such that may be. -/
def addF (k : Tp) : Tp → Tp → Tp
  | .nil, m => m
  | .cons f kf r, m => if (k.find f.s).isNone then insF (fdN f.s 0) kf (addF k r m) else addF k r m
/-- The join of the first parts of two rows (false); the fields of the one, joined with those of the other (true). -/
def jn : Bool → Tp → Tp → Tp
  | _, .nil, _ => .nil
  | false, .cons x k _, u =>
    match u with
    | .nil => .nil
    | .cons y l _ => if x.op = 49 then .cons y l .nil else if y.op = 49 then .cons x k .nil else if x.op = 45 ∧ y.op = 45 then .cons (lfN 45) (jn false k l) .nil
      else if x.op = 46 ∧ y.op = 46 then .cons ⟨46, (addF k l (jn true k l)).len, e0, e0⟩ (addF k l (jn true k l)) .nil else if ndEq x y then .cons x k .nil else .cons (lfN 48) .nil .nil
  | true, .cons f kf r, l => match l.find f.s with | some (g, kg) => .cons (fdN f.s (if f.n = 1 ∧ g.n = 1 then 1 else 0)) (jn false kf kg) (jn true r l) | none => .cons (fdN f.s 0) kf (jn true r l)
theorem jn_cons (x y : Nd) (k l r s : Tp) : jn false (.cons x k r) (.cons y l s) = if x.op = 49 then .cons y l .nil else if y.op = 49 then .cons x k .nil else if x.op = 45 ∧ y.op = 45 then .cons (lfN 45) (jn false k l) .nil
      else if x.op = 46 ∧ y.op = 46 then .cons ⟨46, (addF k l (jn true k l)).len, e0, e0⟩ (addF k l (jn true k l)) .nil else if ndEq x y then .cons x k .nil else .cons (lfN 48) .nil .nil := by rw [jn]
theorem jn_flds (f : Nd) (kf r l : Tp) : jn true (.cons f kf r) l = match l.find f.s with | some (g, kg) => .cons (fdN f.s (if f.n = 1 ∧ g.n = 1 then 1 else 0)) (jn false kf kg) (jn true r l) | none => .cons (fdN f.s 0) kf (jn true r l) := by rw [jn]
theorem nfault_pos {s : ByteArray} (h : nfault s.data.toList = 0) : cmpB e0 s < 0 := by
  unfold cmpB
  cases e : s.data.toList with
  | nil => rw [e] at h; simp [nfault, nm, pre] at h
  | cons c l => simp [Lib.compareBytes, e0]
theorem insF_find {f : Nd} {kf : Tp} (s : ByteArray) : ∀ {t : Tp}, t.find f.s = none → (insF f kf t).find s = if f.s = s then some (f, kf) else t.find s
  | .nil, _ => by simp [insF, Tp.find]
  | .cons g kg r, h => by
    rw [insF]
    by_cases c : cmpB f.s g.s < 0
    · rw [if_pos c]; rw [Tp.find]
    · rw [if_neg c]
      rw [Tp.find] at h
      split at h
      · cases h
      · rename_i hne
        rw [Tp.find, Tp.find, insF_find s h]
        by_cases e : f.s = s
        · subst e; simp [hne]
        · simp [e]
theorem insF_rise {f : Nd} {kf : Tp} (hf : f.op = 47 ∧ (f.n = 0 ∨ f.n = 1) ∧ f.t = e0 ∧ nfault f.s.data.toList = 0) (hk : T1 kf) : ∀ {t : Tp} {l : ByteArray}, cmpB l f.s < 0 → t.find f.s = none → Fl l t → Fl l (insF f kf t)
  | .nil, l, hl, _, _ => Fl.cons_iff.2 ⟨⟨hf.1, hf.2.1, hf.2.2.1, hf.2.2.2, hl⟩, hk, by simp [Fl, isTy]⟩
  | .cons g kg r, l, hl, h0, ht => by
    obtain ⟨⟨h1, h2, h3, h4, h5⟩, h6, h7⟩ := Fl.cons_iff.1 ht
    rw [insF]
    by_cases c : cmpB f.s g.s < 0
    · rw [if_pos c]
      exact Fl.cons_iff.2 ⟨⟨hf.1, hf.2.1, hf.2.2.1, hf.2.2.2, hl⟩, hk, Fl.cons_iff.2 ⟨⟨h1, h2, h3, h4, c⟩, h6, h7⟩⟩
    · rw [if_neg c]
      rw [Tp.find] at h0
      split at h0
      · cases h0
      · rename_i hne
        have hlt : cmpB g.s f.s < 0 := by
          have a := cmpB_is.neg f.s g.s
          have b : cmpB f.s g.s ≠ 0 := fun e => hne ((cmpB_is.zero _ _).1 e).symm
          omega
        exact Fl.cons_iff.2 ⟨⟨h1, h2, h3, h4, h5⟩, h6, insF_rise hf hk hlt h0 h7⟩
theorem addF_all {k : Tp} : ∀ {l m : Tp} {a b : ByteArray}, Fl a l → Fl e0 m → (∀ s, (m.find s).isSome → (k.find s).isSome) → Fl e0 (addF k l m) ∧ ∀ s, (addF k l m).find s = if (k.find s).isSome then m.find s else (l.find s).map (fun p => (fdN s 0, p.2))
  | .nil, m, a, b, _, hm, hs => ⟨hm, fun s => by
      rw [addF]
      by_cases c : (k.find s).isSome
      · rw [if_pos c]
      · rw [if_neg c]
        cases e : m.find s with
        | none => rfl
        | some p => exact absurd (hs s (by rw [e]; rfl)) c⟩
  | .cons f kf r, m, a, b, hl, hm, hs => by
    obtain ⟨⟨h1, h2, h3, h4, h5⟩, h6, h7⟩ := Fl.cons_iff.1 hl
    obtain ⟨i1, i2⟩ := addF_all (k := k) (l := r) (m := m) (b := b) h7 hm hs
    rw [addF]
    by_cases c : (k.find f.s).isNone
    · rw [if_pos c]
      have c' : k.find f.s = none := by simpa using c
      have hn : (addF k r m).find f.s = none := by
        rw [i2, c', if_neg (by simp), h7.low (by rw [cmpB_is.self]; omega)]; rfl
      refine ⟨insF_rise (f := fdN f.s 0) ⟨rfl, .inl rfl, rfl, h4⟩ h6 ?_ hn i1, fun s => ?_⟩
      · have := nfault_pos h4
        exact this
      · rw [insF_find s (f := fdN f.s 0) hn, i2]
        show (if f.s = s then _ else _) = _
        rw [Tp.find]
        by_cases e : f.s = s
        · subst e; rw [if_pos rfl, if_neg (by simp [c']), if_pos rfl]; rfl
        · rw [if_neg e, if_neg e]
    · rw [if_neg c]
      refine ⟨i1, fun s => ?_⟩
      rw [i2, Tp.find]
      by_cases e : f.s = s
      · subst e
        have : (k.find f.s).isSome := by cases h : k.find f.s with | none => simp [h] at c | some p => rfl
        rw [if_pos this, if_pos this]
      · rw [if_neg e]
/-- What both fields say of a name. -/
def both (s : ByteArray) : Option (Nd × Tp) → Option (Nd × Tp) → Option (Nd × Tp)
  | some (f, kf), some (g, kg) => some (fdN s (if f.n = 1 ∧ g.n = 1 then 1 else 0), jn false kf kg)
  | some (_, kf), none => some (fdN s 0, kf)
  | none, some (_, kg) => some (fdN s 0, kg)
  | none, none => none
theorem jnT_all {l : Tp} {b : ByteArray} (hl : Fl b l) : ∀ {k : Tp} {a : ByteArray}, Fl a k → (∀ s f kf g kg, k.find s = some (f, kf) → l.find s = some (g, kg) → T1 (jn false kf kg)) → Fl a (jn true k l) ∧ ∀ s, (jn true k l).find s = if (k.find s).isSome then both s (k.find s) (l.find s) else none
  | .nil, a, _, _ => ⟨by simp [Fl, isTy, jn], fun s => by simp [jn, Tp.find]⟩
  | .cons f kf r, a, hk, hj => by
    obtain ⟨⟨h1, h2, h3, h4, h5⟩, h6, h7⟩ := Fl.cons_iff.1 hk
    obtain ⟨i1, i2⟩ := jnT_all hl h7 (fun s f' kf' g kg h => hj s f' kf' g kg (hk.find_tail h))
    have hj0 := fun g kg => hj f.s f kf g kg Fl.find_head
    rw [jn_flds]
    cases e : l.find f.s with
    | none =>
      refine ⟨Fl.cons_iff.2 ⟨⟨rfl, .inl rfl, rfl, h4, h5⟩, h6, i1⟩, fun s => ?_⟩
      by_cases c : f.s = s
      · subst c; rw [Fl.find_head, e]; exact Fl.find_head (f := fdN f.s 0)
      · rw [find_ne c]; exact (find_ne (f := fdN f.s 0) c).trans (i2 s)
    | some p =>
      obtain ⟨g, kg⟩ := p
      refine ⟨Fl.cons_iff.2 ⟨⟨rfl, by show (if _ then _ else _) = _ ∨ (if _ then _ else _) = _; split <;> simp, rfl, h4, h5⟩, hj0 g kg e, i1⟩, fun s => ?_⟩
      by_cases c : f.s = s
      · subst c; rw [Fl.find_head, e]; exact Fl.find_head (f := fdN f.s _)
      · rw [find_ne c]; exact (find_ne (f := fdN f.s _) c).trans (i2 s)
/-- The fields of the join. -/
theorem jnR_all {k l : Tp} (hk : Fl e0 k) (hl : Fl e0 l) (hj : ∀ s f kf g kg, k.find s = some (f, kf) → l.find s = some (g, kg) → T1 (jn false kf kg)) : Fl e0 (addF k l (jn true k l)) ∧ ∀ s, (addF k l (jn true k l)).find s = both s (k.find s) (l.find s) := by
  obtain ⟨h1, h2⟩ := jnT_all hl hk hj
  obtain ⟨h3, h4⟩ := addF_all (k := k) (b := e0) hl h1 (fun s h => by
    rw [h2] at h
    by_cases c : (k.find s).isSome
    · exact c
    · rw [if_neg c] at h; cases h)
  refine ⟨h3, fun s => ?_⟩
  rw [h4, h2]
  cases e : k.find s with
  | some p => rfl
  | none =>
    rw [if_neg (by simp)]
    cases e2 : l.find s with
    | none => rfl
    | some q => rfl
theorem jn_ty : ∀ (n : Nat) (a b : Tp), a.sz < n → T1 a → T1 b → T1 (jn false a b)
  | 0, a, b, h, _, _ => by omega
  | n + 1, a, b, h, ha, hb => by
    obtain ⟨x, k, rfl, hx⟩ := ha.of
    obtain ⟨y, l, rfl, hy⟩ := hb.of
    simp only [Tp.sz] at h
    rw [jn_cons]
    split
    · exact hb
    split
    · exact ha
    split
    · rename_i c
      cases hx with
      | leaf op h => have := c.1; simp only [lfN] at this; omega
      | ent s h => simp at c
      | rcd k h => simp at c
      | set k hk =>
        cases hy with
        | leaf op h => have := c.2; simp only [lfN] at this; omega
        | ent s h => simp at c
        | rcd k h => simp at c
        | set l hl => exact T1.iff.2 (.set _ (jn_ty n k l (by omega) hk hl))
    split
    · rename_i c
      cases hx with
      | leaf op h => have := c.1; simp only [lfN] at this; omega
      | ent s h => simp at c
      | set k h => simp [lfN] at c
      | rcd k hk =>
        cases hy with
        | leaf op h => have := c.2; simp only [lfN] at this; omega
        | ent s h => simp at c
        | set k h => simp [lfN] at c
        | rcd l hl => exact T1.iff.2 (.rcd _ (jnR_all hk hl (fun s f kf g kg h1 h2 => jn_ty n kf kg (by have := find_sz h1; omega) (hk.find h1).2.2.2.2 (hl.find h2).2.2.2.2)).1)
    split
    · exact ha
    · exact T1.iff.2 (.leaf 48 (by omega))
theorem jnR {k l : Tp} (hk : Fl e0 k) (hl : Fl e0 l) : Fl e0 (addF k l (jn true k l)) ∧ ∀ s, (addF k l (jn true k l)).find s = both s (k.find s) (l.find s) :=
  jnR_all hk hl (fun s f kf g kg h1 h2 => jn_ty _ kf kg (Nat.lt_succ_self _) (hk.find h1).2.2.2.2 (hl.find h2).2.2.2.2)
theorem blw_self {t : Tp} (h : T1 t) : blw false t t = true := blw_refl _ t (Nat.lt_succ_self _) h
/-- Both are below their join. -/
theorem jn_ub : ∀ (n : Nat) (a b : Tp), a.sz < n → T1 a → T1 b → blw false a (jn false a b) = true ∧ blw false b (jn false a b) = true
  | 0, a, b, h, _, _ => by omega
  | n + 1, a, b, h, ha, hb => by
    obtain ⟨x, k, rfl, hx⟩ := ha.of
    obtain ⟨y, l, rfl, hy⟩ := hb.of
    simp only [Tp.sz] at h
    rw [jn_cons]
    split
    · rename_i c; exact ⟨by rw [blw_cons, if_pos (.inl c)], blw_self hb⟩
    split
    · rename_i c; exact ⟨blw_self ha, by rw [blw_cons, if_pos (.inl c)]⟩
    split
    · rename_i c
      cases hx with
      | leaf op h => have := c.1; simp only [lfN] at this; omega
      | ent s h => simp at c
      | rcd k h => simp at c
      | set k hk =>
        cases hy with
        | leaf op h => have := c.2; simp only [lfN] at this; omega
        | ent s h => simp at c
        | rcd k h => simp at c
        | set l hl => rw [blw_sets, blw_sets]; exact jn_ub n k l (by omega) hk hl
    split
    · rename_i c
      cases hx with
      | leaf op h => have := c.1; simp only [lfN] at this; omega
      | ent s h => simp at c
      | set k h => simp [lfN] at c
      | rcd k hk =>
        cases hy with
        | leaf op h => have := c.2; simp only [lfN] at this; omega
        | ent s h => simp at c
        | set k h => simp [lfN] at c
        | rcd l hl =>
          obtain ⟨hm, hf⟩ := jnR hk hl
          rw [blw_rcds, blw_rcds, rcds_iff hk hm, rcds_iff hl hm]
          refine ⟨⟨fun s f kf hs => ?_, fun s g kg hs hg => ?_⟩, fun s f kf hs => ?_, fun s g kg hs hg => ?_⟩
          · rw [hf, hs]
            cases e : l.find s with
            | none => exact ⟨_, _, rfl, blw_self (hk.find hs).2.2.2.2⟩
            | some p => exact ⟨_, _, rfl, (jn_ub n kf p.2 (by have := find_sz hs; omega) (hk.find hs).2.2.2.2 (hl.find (f := p.1) e).2.2.2.2).1⟩
          · rw [hf] at hs
            cases e1 : k.find s with
            | none => cases e2 : l.find s with
              | none => rw [e1, e2] at hs; cases hs
              | some q => rw [e1, e2] at hs; simp only [both, Option.some.injEq, Prod.mk.injEq] at hs; rw [← hs.1] at hg; simp [fdN] at hg
            | some p => cases e2 : l.find s with
              | none => rw [e1, e2] at hs; simp only [both, Option.some.injEq, Prod.mk.injEq] at hs; rw [← hs.1] at hg; simp [fdN] at hg
              | some q =>
                rw [e1, e2] at hs; simp only [both, Option.some.injEq, Prod.mk.injEq] at hs; rw [← hs.1] at hg
                refine ⟨p.1, p.2, rfl, ?_⟩
                simp only [fdN] at hg
                split at hg
                · rename_i c; exact c.1
                · cases hg
          · rw [hf, hs]
            cases e : k.find s with
            | none => exact ⟨_, _, rfl, blw_self (hl.find hs).2.2.2.2⟩
            | some p => exact ⟨_, _, rfl, (jn_ub n p.2 kf (by have := find_sz (f := p.1) e; omega) (hk.find (f := p.1) e).2.2.2.2 (hl.find hs).2.2.2.2).2⟩
          · rw [hf] at hs
            cases e1 : k.find s with
            | none => cases e2 : l.find s with
              | none => rw [e1, e2] at hs; cases hs
              | some q => rw [e1, e2] at hs; simp only [both, Option.some.injEq, Prod.mk.injEq] at hs; rw [← hs.1] at hg; simp [fdN] at hg
            | some p => cases e2 : l.find s with
              | none => rw [e1, e2] at hs; simp only [both, Option.some.injEq, Prod.mk.injEq] at hs; rw [← hs.1] at hg; simp [fdN] at hg
              | some q =>
                rw [e1, e2] at hs; simp only [both, Option.some.injEq, Prod.mk.injEq] at hs; rw [← hs.1] at hg
                refine ⟨q.1, q.2, rfl, ?_⟩
                simp only [fdN] at hg
                split at hg
                · rename_i c; exact c.2
                · cases hg
    split
    · rename_i c1 c2 c3 c4 c
      have := ndEq_iff.1 c
      subst this
      have c3 : x.op ≠ 45 := fun e => c3 ⟨e, e⟩
      have c4 : x.op ≠ 46 := fun e => c4 ⟨e, e⟩
      rw [hx.nil c3 c4] at ha
      rw [hx.nil c3 c4, hy.nil c3 c4]
      exact ⟨blw_self ha, blw_self ha⟩
    · exact ⟨blw_top _ _ _, blw_top _ _ _⟩
/-- It is the least. -/
theorem jn_least : ∀ (n : Nat) (a b c : Tp), a.sz < n → T1 a → T1 b → T1 c → blw false a c = true → blw false b c = true → blw false (jn false a b) c = true
  | 0, a, b, c, h, _, _, _, _, _ => by omega
  | n + 1, a, b, c, h, ha, hb, hc, h1, h2 => by
    obtain ⟨x, k, rfl, hx⟩ := ha.of
    obtain ⟨y, l, rfl, hy⟩ := hb.of
    obtain ⟨z, m, rfl, hz⟩ := hc.of
    simp only [Tp.sz] at h
    rw [jn_cons]
    split
    · exact h2
    split
    · exact h1
    rename_i d1 d2
    rcases blw_ways hx hz h1 with e | e | ⟨e, e2, e3, e4, e5⟩ | ⟨e, e2, e3, e4, e5⟩ | ⟨e, e2, e3, e4, e5⟩
    · subst e; exact absurd rfl d1
    · subst e; exact blw_top _ _ _
    · rcases blw_ways hy hz h2 with g | g | ⟨g, g2, g3, g4, g5⟩ | ⟨g, g2, g3, g4, g5⟩ | ⟨g, g2, g3, g4, g5⟩
      · subst g; exact absurd rfl d2
      · subst g; exact blw_top _ _ _
      · rw [if_neg (fun q => e4 q.1), if_neg (fun q => e5 q.1), if_pos (ndEq_iff.2 (e.trans g.symm))]; exact h1
      · rw [g2] at e; rw [e] at e4; exact absurd rfl e4
      · rw [g2] at e; rw [e] at e5; exact absurd rfl e5
    · rcases blw_ways hy hz h2 with g | g | ⟨g, g2, g3, g4, g5⟩ | ⟨g, g2, g3, g4, g5⟩ | ⟨g, g2, g3, g4, g5⟩
      · subst g; exact absurd rfl d2
      · subst g; exact blw_top _ _ _
      · rw [g, e2] at g4; exact absurd rfl g4
      · rw [if_pos ⟨by rw [e]; rfl, by rw [g]; rfl⟩, e2, blw_sets]
        exact jn_least n k l m (by omega) e3 g3 g4 e5 g5
      · rw [e2] at g2; simp [lfN] at g2
    · rcases blw_ways hy hz h2 with g | g | ⟨g, g2, g3, g4, g5⟩ | ⟨g, g2, g3, g4, g5⟩ | ⟨g, g2, g3, g4, g5⟩
      · subst g; exact absurd rfl d2
      · subst g; exact blw_top _ _ _
      · rw [g, e2] at g5; exact absurd rfl g5
      · rw [e2] at g2; simp [lfN] at g2
      · rw [if_neg (by rw [e]; simp), if_pos ⟨by rw [e], by rw [g]⟩, e2, blw_rcds]
        obtain ⟨hm, hf⟩ := jnR e3 g3
        rw [rcds_iff hm e4]
        rw [rcds_iff e3 e4] at e5
        rw [rcds_iff g3 e4] at g5
        refine ⟨fun s f kf hs => ?_, fun s q kq hs hq => ?_⟩
        · rw [hf] at hs
          cases e1 : k.find s with
          | none => cases e2 : l.find s with
            | none => rw [e1, e2] at hs; cases hs
            | some q => rw [e1, e2] at hs; simp only [both, Option.some.injEq, Prod.mk.injEq] at hs; rw [← hs.2]; exact g5.1 s q.1 q.2 e2
          | some p => cases e2 : l.find s with
            | none => rw [e1, e2] at hs; simp only [both, Option.some.injEq, Prod.mk.injEq] at hs; rw [← hs.2]; exact e5.1 s p.1 p.2 e1
            | some q =>
              rw [e1, e2] at hs; simp only [both, Option.some.injEq, Prod.mk.injEq] at hs; rw [← hs.2]
              obtain ⟨a1, b1, c1, d1⟩ := e5.1 s p.1 p.2 e1
              obtain ⟨a2, b2, c2, d2⟩ := g5.1 s q.1 q.2 e2
              rw [c1] at c2
              simp only [Option.some.injEq, Prod.mk.injEq] at c2
              rw [← c2.2] at d2
              exact ⟨a1, b1, c1, jn_least n p.2 q.2 b1 (by have := find_sz (f := p.1) e1; omega) (e3.find (f := p.1) e1).2.2.2.2 (g3.find (f := q.1) e2).2.2.2.2 (e4.find c1).2.2.2.2 d1 d2⟩
        · obtain ⟨a1, b1, c1, d1⟩ := e5.2 s q kq hs hq
          obtain ⟨a2, b2, c2, d2⟩ := g5.2 s q kq hs hq
          rw [hf, c1, c2]
          exact ⟨_, _, rfl, by simp [fdN, d1, d2]⟩
/-- Below, of types. -/
def Le (a b : Tp) : Prop := blw false a b = true
theorem Le.refl {a : Tp} (h : T1 a) : Le a a := blw_self h
theorem Le.trans {a b c : Tp} (ha : T1 a) (hb : T1 b) (hc : T1 c) (h : Le a b) (k : Le b c) : Le a c := blw_trans _ a b c (Nat.lt_succ_self _) ha hb hc h k
theorem Le.anti {a b : Tp} (ha : T1 a) (hb : T1 b) (h : Le a b) (k : Le b a) : a = b := blw_anti _ a b (Nat.lt_succ_self _) ha hb h k
theorem T1.jn {a b : Tp} (ha : T1 a) (hb : T1 b) : T1 (jn false a b) := jn_ty _ a b (Nat.lt_succ_self _) ha hb
theorem jn_le_iff {a b c : Tp} (ha : T1 a) (hb : T1 b) (hc : T1 c) : Le (jn false a b) c ↔ Le a c ∧ Le b c := by
  have h := jn_ub _ a b (Nat.lt_succ_self _) ha hb
  exact ⟨fun k => ⟨Le.trans ha (ha.jn hb) hc h.1 k, Le.trans hb (ha.jn hb) hc h.2 k⟩, fun k => jn_least _ a b c (Nat.lt_succ_self _) ha hb hc k.1 k.2⟩
/-- Two types that are below the same ones are one. -/
theorem tp_of_le {a b : Tp} (ha : T1 a) (hb : T1 b) (h : ∀ c, T1 c → (Le a c ↔ Le b c)) : a = b := Le.anti ha hb ((h b hb).2 (Le.refl hb)) ((h a ha).1 (Le.refl ha))
theorem jn_comm {a b : Tp} (ha : T1 a) (hb : T1 b) : jn false a b = jn false b a := tp_of_le (ha.jn hb) (hb.jn ha) (fun c hc => by rw [jn_le_iff ha hb hc, jn_le_iff hb ha hc, and_comm])
theorem jn_assoc {a b c : Tp} (ha : T1 a) (hb : T1 b) (hc : T1 c) : jn false (jn false a b) c = jn false a (jn false b c) := tp_of_le ((ha.jn hb).jn hc) (ha.jn (hb.jn hc)) (fun d hd => by rw [jn_le_iff (ha.jn hb) hc hd, jn_le_iff ha hb hd, jn_le_iff ha (hb.jn hc) hd, jn_le_iff hb hc hd, and_assoc])
theorem jn_self {a : Tp} (ha : T1 a) : jn false a a = a := tp_of_le (ha.jn ha) ha (fun c hc => by rw [jn_le_iff ha ha hc, and_self])
theorem jn_eq_iff {a b : Tp} (ha : T1 a) (hb : T1 b) : jn false a b = a ↔ Le b a := by
  constructor
  · intro h; have := (jn_le_iff ha hb ha).1 (by rw [h]; exact Le.refl ha); exact this.2
  · intro h; exact tp_of_le (ha.jn hb) ha (fun c hc => by rw [jn_le_iff ha hb hc]; exact ⟨fun k => k.1, fun k => ⟨k, Le.trans hb ha hc h k⟩⟩)
end Go.Proofs.Ytjbjheeigdblkab
