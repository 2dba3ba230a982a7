/- Types as trees: the fields of two records' types, sorted, are those of their join. No program is named here. -/
import Derived.Test.YtjbjheeigdblkabKiB
namespace Go.Proofs.Ytjbjheeigdblkab
set_option linter.unusedVariables false

def toL : Tp → List (Nd × Tp)
  | .nil => []
  | .cons x k r => (x, k) :: toL r
theorem toL_app : ∀ a b : Tp, toL (a.app b) = toL a ++ toL b
  | .nil, b => rfl
  | .cons x k r, b => by simp [Tp.app, toL, toL_app r b]
theorem toL_len : ∀ t : Tp, (toL t).length = t.len
  | .nil => rfl
  | .cons x k r => by simp [toL, Tp.len, toL_len r]
/-- A field of a record's type. -/
def Vf (p : Nd × Tp) : Prop := p.1.op = 47 ∧ (p.1.n = 0 ∨ p.1.n = 1) ∧ p.1.t = e0 ∧ nfault p.1.s.data.toList = 0 ∧ T1 p.2
theorem Fl.all : ∀ {t : Tp} {l : ByteArray}, Fl l t → (∀ p ∈ toL t, Vf p ∧ cmpB l p.1.s < 0) ∧ (toL t).Pairwise (fun a b => cmpB a.1.s b.1.s < 0)
  | .nil, l, _ => ⟨fun p hp => by simp [toL] at hp, by simp [toL]⟩
  | .cons f kf r, l, h => by
    obtain ⟨⟨h1, h2, h3, h4, h5⟩, h6, h7⟩ := Fl.cons_iff.1 h
    obtain ⟨i1, i2⟩ := Fl.all h7
    refine ⟨fun p hp => ?_, List.pairwise_cons.2 ⟨fun p hp => (i1 p hp).2, i2⟩⟩
    rcases List.mem_cons.1 hp with rfl | hp
    · exact ⟨⟨h1, h2, h3, h4, h6⟩, h5⟩
    · exact ⟨(i1 p hp).1, cmpB_is.lt_le h5 (by have := (i1 p hp).2; omega)⟩
theorem fl_of : ∀ {t : Tp} {l : ByteArray}, (∀ p ∈ toL t, Vf p ∧ cmpB l p.1.s < 0) → (toL t).Pairwise (fun a b => cmpB a.1.s b.1.s < 0) → Fl l t
  | .nil, l, _, _ => by simp [Fl, isTy]
  | .cons f kf r, l, h, hp => by
    obtain ⟨⟨h1, h2, h3, h4, h6⟩, h5⟩ := h (f, kf) (by simp [toL])
    have hq := List.pairwise_cons.1 hp
    exact Fl.cons_iff.2 ⟨⟨h1, h2, h3, h4, h5⟩, h6, fl_of (fun p hp => ⟨(h p (by simp [toL, hp])).1, hq.1 p hp⟩) hq.2⟩
/-- Names that are all unlike. -/
def NoTwo (t : List (Nd × Tp)) : Prop := t.Pairwise (fun a b => a.1.s ≠ b.1.s)
theorem find_mem {s : ByteArray} : ∀ {t : Tp} {f : Nd} {kf : Tp}, NoTwo (toL t) → (t.find s = some (f, kf) ↔ (f, kf) ∈ toL t ∧ f.s = s)
  | .nil, f, kf, _ => by simp [Tp.find, toL]
  | .cons x k r, f, kf, h => by
    have hq := List.pairwise_cons.1 h
    rw [Tp.find]
    by_cases c : x.s = s
    · rw [if_pos c]
      constructor
      · intro e; simp only [Option.some.injEq, Prod.mk.injEq] at e; obtain ⟨rfl, rfl⟩ := e; exact ⟨by simp [toL], c⟩
      · rintro ⟨h1, h2⟩
        rcases List.mem_cons.1 h1 with e | e
        · rw [e]
        · exact absurd (c.trans h2.symm) (hq.1 _ e)
    · rw [if_neg c, find_mem hq.2]
      constructor
      · rintro ⟨h1, h2⟩; exact ⟨by simp [toL, h1], h2⟩
      · rintro ⟨h1, h2⟩
        rcases List.mem_cons.1 h1 with e | e
        · cases e; exact absurd h2 c
        · exact ⟨e, h2⟩
theorem find_perm {t u : Tp} (h : (toL t).Perm (toL u)) (hn : NoTwo (toL u)) (s : ByteArray) : t.find s = u.find s := by
  have hn2 : NoTwo (toL t) := h.symm.pairwise hn (fun h => h.symm)
  cases e : t.find s with
  | some p => obtain ⟨f, kf⟩ := p; rw [find_mem hn2] at e; exact ((find_mem hn).2 ⟨h.mem_iff.1 e.1, e.2⟩).symm
  | none =>
    cases e2 : u.find s with
    | none => rfl
    | some p =>
      obtain ⟨f, kf⟩ := p
      rw [find_mem hn] at e2
      rw [(find_mem hn2).2 ⟨h.mem_iff.2 e2.1, e2.2⟩] at e
      cases e
/-- The fields of l that k has not. -/
def thoseF (k : Tp) : Tp → Tp
  | .nil => .nil
  | .cons f kf r => if (k.find f.s).isNone then .cons (fdN f.s 0) kf (thoseF k r) else thoseF k r
theorem those_app (k : Tp) : ∀ a b : Tp, thoseF k (a.app b) = (thoseF k a).app (thoseF k b)
  | .nil, b => rfl
  | .cons f kf r, b => by
    simp only [Tp.app, thoseF]
    rw [those_app k r b]
    split <;> rfl
theorem those_all {k : Tp} : ∀ {l : Tp} {a : ByteArray}, Fl a l → Fl a (thoseF k l) ∧ ∀ s, (thoseF k l).find s = if (k.find s).isSome then none else (l.find s).map (fun p => (fdN s 0, p.2))
  | .nil, a, _ => ⟨by simp [Fl, isTy, thoseF], fun s => by simp [thoseF, Tp.find]⟩
  | .cons f kf r, a, h => by
    obtain ⟨⟨h1, h2, h3, h4, h5⟩, h6, h7⟩ := Fl.cons_iff.1 h
    obtain ⟨i1, i2⟩ := those_all (k := k) h7
    rw [thoseF]
    by_cases c : (k.find f.s).isNone
    · rw [if_pos c]
      have c' : k.find f.s = none := by simpa using c
      refine ⟨Fl.cons_iff.2 ⟨⟨rfl, .inl rfl, rfl, h4, h5⟩, h6, i1⟩, fun s => ?_⟩
      by_cases e : f.s = s
      · subst e; rw [if_neg (by simp [c']), Fl.find_head]; exact Fl.find_head (f := fdN f.s 0)
      · rw [find_ne e]; exact (find_ne (f := fdN f.s 0) e).trans (i2 s)
    · rw [if_neg c]
      have c' : (k.find f.s).isSome := by cases h : k.find f.s with | none => simp [h] at c | some p => rfl
      refine ⟨i1.from (by omega), fun s => ?_⟩
      rw [i2]
      by_cases e : f.s = s
      · subst e; rw [if_pos c', if_pos c']
      · rw [find_ne e]
theorem find_app2 {s : ByteArray} : ∀ {a b : Tp}, a.find s = none → (a.app b).find s = b.find s
  | .nil, b, _ => rfl
  | .cons x k r, b, h => by
    rw [Tp.find] at h
    split at h
    · cases h
    · rename_i hne; rw [Tp.app, Tp.find, if_neg hne]; exact find_app2 h
theorem find_app1 {s : ByteArray} {p : Nd × Tp} : ∀ {a b : Tp}, a.find s = some p → (a.app b).find s = some p
  | .nil, b, h => by simp [Tp.find] at h
  | .cons x k r, b, h => by
    rw [Tp.app, Tp.find]
    rw [Tp.find] at h
    split at h
    · rename_i e; rw [if_pos e]; exact h
    · rename_i e; rw [if_neg e]; exact find_app1 h
/-- The join's fields before they are sorted. -/
theorem unsorted_all {k l : Tp} (hk : Fl e0 k) (hl : Fl e0 l) : (∀ p ∈ toL ((jn true k l).app (thoseF k l)), Vf p) ∧ NoTwo (toL ((jn true k l).app (thoseF k l))) ∧ ∀ s, ((jn true k l).app (thoseF k l)).find s = both s (k.find s) (l.find s) := by
  obtain ⟨h1, h2⟩ := jnT_all hl hk (fun s f kf g kg h1 h2 => jn_ty _ kf kg (Nat.lt_succ_self _) (hk.find h1).2.2.2.2 (hl.find h2).2.2.2.2)
  obtain ⟨h3, h4⟩ := those_all (k := k) hl
  have a1 := h1.all
  have a3 := h3.all
  have hn1 : NoTwo (toL (jn true k l)) := a1.2.imp (fun {a b} h e => by rw [e, cmpB_is.self] at h; omega)
  have hn3 : NoTwo (toL (thoseF k l)) := a3.2.imp (fun {a b} h e => by rw [e, cmpB_is.self] at h; omega)
  refine ⟨fun p hp => ?_, ?_, fun s => ?_⟩
  · rw [toL_app] at hp
    rcases List.mem_append.1 hp with hp | hp
    · exact (a1.1 p hp).1
    · exact (a3.1 p hp).1
  · rw [toL_app]
    refine List.pairwise_append.2 ⟨hn1, hn3, fun p hp q hq e => ?_⟩
    have e1 := (find_mem hn1 (s := p.1.s) (f := p.1) (kf := p.2)).2 ⟨hp, rfl⟩
    have e3 := (find_mem hn3 (s := p.1.s) (f := q.1) (kf := q.2)).2 ⟨hq, e.symm⟩
    rw [h2] at e1
    rw [h4] at e3
    by_cases c : (k.find p.1.s).isSome
    · rw [if_pos c] at e3; cases e3
    · rw [if_neg c] at e1; cases e1
  · cases e : (jn true k l).find s with
    | none =>
      rw [find_app2 e, h4]
      rw [h2] at e
      cases e1 : k.find s with
      | none => rw [if_neg (by simp)]; cases l.find s <;> rfl
      | some p =>
        rw [e1, if_pos (show (some p).isSome = true from rfl)] at e
        cases e2 : l.find s <;> rw [e2] at e <;> cases e
    | some p =>
      rw [find_app1 e, ← e, h2]
      cases e1 : k.find s with
      | none => rw [h2, e1] at e; cases e
      | some p => rfl
theorem sort_join {k l t : Tp} (hk : Fl e0 k) (hl : Fl e0 l) (hp : (toL t).Perm (toL ((jn true k l).app (thoseF k l)))) (hs : (toL t).Pairwise (fun a b => ¬ cmpB b.1.s a.1.s < 0)) : t = addF k l (jn true k l) := by
  obtain ⟨u1, u2, u3⟩ := unsorted_all hk hl
  obtain ⟨j1, j2⟩ := jnR hk hl
  have hv : ∀ p ∈ toL t, Vf p := fun p h => u1 p (hp.mem_iff.1 h)
  have hn : NoTwo (toL t) := hp.symm.pairwise u2 (fun h => h.symm)
  have hlt : (toL t).Pairwise (fun a b => cmpB a.1.s b.1.s < 0) := (hs.and hn).imp (fun {a b} h => by
    have x := cmpB_is.neg a.1.s b.1.s
    have y : cmpB a.1.s b.1.s ≠ 0 := fun e => h.2 ((cmpB_is.zero _ _).1 e)
    have z := h.1
    omega)
  exact Fl.ext (fl_of (l := e0) (fun p h => ⟨hv p h, nfault_pos (hv p h).2.2.2.1⟩) hlt) j1 (fun s => by rw [find_perm hp u2, u3, j2])
end Go.Proofs.Ytjbjheeigdblkab
