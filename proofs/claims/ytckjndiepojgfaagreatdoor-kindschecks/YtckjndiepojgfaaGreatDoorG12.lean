/- How many nodes a join has at most. No program is named here. Sets of values as plain lists: each once, in order; that there is one such list; the least above the last, again and again; a sorted row with equal neighbours made one. No program is named here. A value stays one with anything behind it; what stands ahead of a rest is a value. No program is named here. (Parted out of SetV and BagL.) Values as trees: their parts as lists. No program is named here. -/
import Derived.Test.YtckjndiepojgfaaGreatDoorG10
namespace Go.Proofs.YtckjndiepojgfaaGreatDoor
set_option linter.unusedVariables false

theorem insF_flat (f : Nd) (kf : Tp) : ∀ t : Tp, (insF f kf t).flat.length = kf.flat.length + 1 + t.flat.length
  | .nil => by simp [insF, Tp.flat]
  | .cons g kg r => by
    rw [insF]
    split
    · simp [Tp.flat]; omega
    · simp [Tp.flat, insF_flat f kf r]; omega
theorem addF_flat (k : Tp) : ∀ l m : Tp, (addF k l m).flat.length = (thoseF k l).flat.length + m.flat.length
  | .nil, m => by simp [addF, thoseF, Tp.flat]
  | .cons f kf r, m => by
    have := addF_flat k r m
    rw [addF, thoseF]
    split
    · rw [insF_flat]; simp [Tp.flat]; omega
    · exact this
theorem those_nil : ∀ l : Tp, (thoseF .nil l).flat.length = l.flat.length
  | .nil => rfl
  | .cons f kf r => by rw [thoseF, if_pos (by simp [Tp.find])]; simp [Tp.flat, those_nil r]
theorem those_same {f : Nd} {kf r : Tp} : ∀ {l : Tp}, l.find f.s = none → thoseF (.cons f kf r) l = thoseF r l
  | .nil, _ => rfl
  | .cons g kg l, h => by
    have hne : g.s ≠ f.s := fun e => by rw [Tp.find, if_pos e] at h; cases h
    rw [find_ne hne] at h
    rw [thoseF, thoseF, find_ne (f := f) (fun e => hne e.symm), those_same h]
theorem those_less {f : Nd} {kf r : Tp} : ∀ l : Tp, (thoseF (.cons f kf r) l).flat.length ≤ (thoseF r l).flat.length
  | .nil => Nat.le_refl _
  | .cons g kg l => by
    have ih := those_less (f := f) (kf := kf) (r := r) l
    rw [thoseF, thoseF]
    by_cases e : f.s = g.s
    · rw [if_neg (by rw [Tp.find, if_pos e]; simp)]
      split
      · simp [Tp.flat]; omega
      · exact ih
    · rw [find_ne e]
      split
      · simp [Tp.flat]; omega
      · exact ih
theorem those_drop {f : Nd} {kf r : Tp} (hr : r.find f.s = none) : ∀ {l : Tp} {g : Nd} {kg : Tp}, l.find f.s = some (g, kg) → (thoseF (.cons f kf r) l).flat.length + 1 + kg.flat.length ≤ (thoseF r l).flat.length
  | .nil, g, kg, h => by simp [Tp.find] at h
  | .cons g' kg' l, g, kg, h => by
    rw [thoseF, thoseF]
    by_cases e : g'.s = f.s
    · rw [Tp.find, if_pos e] at h
      simp only [Option.some.injEq, Prod.mk.injEq] at h
      obtain ⟨rfl, rfl⟩ := h
      have := those_less (f := f) (kf := kf) (r := r) l
      rw [if_neg (by rw [Tp.find, if_pos e.symm]; simp), if_pos (by rw [e, hr]; rfl)]
      simp [Tp.flat]
      omega
    · rw [find_ne e] at h
      have ih := those_drop (kf := kf) hr h
      rw [find_ne (f := f) (fun q => e q.symm)]
      split
      · simp [Tp.flat]; omega
      · exact ih
theorem jnT_flat {l : Tp} : ∀ {k : Tp} {a : ByteArray}, Fl a k → (∀ s f kf g kg, k.find s = some (f, kf) → l.find s = some (g, kg) → (jn false kf kg).flat.length ≤ kf.flat.length + kg.flat.length) → (jn true k l).flat.length + (thoseF k l).flat.length ≤ k.flat.length + l.flat.length
  | .nil, a, _, _ => by simp [jn, Tp.flat, those_nil]
  | .cons f kf r, a, hk, hj => by
    obtain ⟨_, _, h7⟩ := Fl.cons_iff.1 hk
    have ih := jnT_flat h7 (fun s f' kf' g kg h => hj s f' kf' g kg (hk.find_tail h))
    have hr : r.find f.s = none := h7.low (by rw [cmpB_is.self]; omega)
    rw [jn_flds]
    cases e : l.find f.s with
    | none => rw [those_same e]; simp [Tp.flat]; omega
    | some p =>
      have h1 := those_drop (kf := kf) hr e
      have h2 := hj f.s f kf p.1 p.2 Fl.find_head e
      simp [Tp.flat]
      omega
theorem jn_flat (a b : Tp) {n : Nat} (hn : a.sz < n) (ha : T1 a) (hb : T1 b) : (jn false a b).flat.length ≤ a.flat.length + b.flat.length := by
  induction n generalizing a b with
  | zero => omega
  | succ n ih =>
    obtain ⟨x, k, rfl, hx⟩ := ha.of
    obtain ⟨y, l, rfl, hy⟩ := hb.of
    simp only [Tp.sz] at hn
    rw [jn_cons]
    split
    · simp [Tp.flat]
    split
    · simp [Tp.flat]
    split
    · rename_i c
      cases hx with
      | leaf op h => have := c.1; simp only [lfN] at this; omega
      | ent s h => simp at c
      | rcd k h => simp at c
      | set k hk =>
        cases hy with
        | leaf op h => have := c.2; simp only [lfN] at this; omega
        | ent s h => simp at c
        | rcd k h => simp at c
        | set l hl => have := ih k l (by omega) hk hl; simp [Tp.flat]; omega
    split
    · rename_i c
      cases hx with
      | leaf op h => have := c.1; simp only [lfN] at this; omega
      | ent s h => simp at c
      | set k h => simp [lfN] at c
      | rcd k hk =>
        cases hy with
        | leaf op h => have := c.2; simp only [lfN] at this; omega
        | ent s h => simp at c
        | set k h => simp [lfN] at c
        | rcd l hl =>
          have h1 := jnT_flat (l := l) hk (fun s f kf g kg h1 h2 => ih kf kg (by have := find_sz h1; omega) (hk.find h1).2.2.2.2 (hl.find h2).2.2.2.2)
          have h2 := addF_flat k l (jn true k l)
          simp [Tp.flat]
          omega
    split
    · simp [Tp.flat]
    · simp [Tp.flat]; omega
end Go.Proofs.YtckjndiepojgfaaGreatDoor
namespace Go.Proofs.YtckjndiepojgfaaGreatDoor
set_option linter.unusedVariables false

/-- Each ahead of all behind it. -/
def Strict (l : List (List Nd)) : Prop := l.Pairwise fun a b => lsC a b < 0

theorem lsC_self (a : List Nd) : lsC a a = 0 := lsC_is.self a

theorem Strict.ext : ∀ {l m : List (List Nd)}, Strict l → Strict m → (∀ x, x ∈ l ↔ x ∈ m) → l = m
  | [], [], _, _, _ => rfl
  | [], b :: m, _, _, h => by have := (h b).2 (by simp); cases this
  | a :: l, [], _, _, h => by have := (h a).1 (by simp); cases this
  | a :: l, b :: m, h1, h2, h => by
    have h1' := List.pairwise_cons.1 h1
    have h2' := List.pairwise_cons.1 h2
    have hab : a = b := by
      have ha := (h a).1 (by simp)
      have hb := (h b).2 (by simp)
      rcases List.mem_cons.1 ha with e | ha
      · exact e
      · rcases List.mem_cons.1 hb with e | hb
        · exact e.symm
        · have k1 := h2'.1 a ha
          have k2 := h1'.1 b hb
          have := lsC_is.lt_le k1 (by omega : lsC a b ≤ 0)
          rw [lsC_self] at this; omega
    subst hab
    congr 1
    refine Strict.ext h1'.2 h2'.2 (fun x => ?_)
    have hx := h x
    constructor
    · intro hl
      rcases List.mem_cons.1 (hx.1 (by simp [hl])) with e | hm
      · subst e
        have := h1'.1 _ hl
        rw [lsC_self] at this; omega
      · exact hm
    · intro hm
      rcases List.mem_cons.1 (hx.2 (by simp [hm])) with e | hl
      · subst e
        have := h2'.1 _ hm
        rw [lsC_self] at this; omega
      · exact hl

def ins (v : List Nd) : List (List Nd) → List (List Nd)
  | [] => [v]
  | u :: l => if lsC v u < 0 then v :: u :: l else if lsC v u = 0 then u :: l else u :: ins v l
/-- The values of some lists, each once, in order. -/
def setL (vs : List (List Nd)) : List (List Nd) := vs.foldr ins []

theorem mem_ins (v : List Nd) : ∀ (l : List (List Nd)) (x : List Nd), x ∈ ins v l ↔ x = v ∨ x ∈ l
  | [], x => by simp [ins]
  | u :: l, x => by
    unfold ins
    split
    · simp
    · split
      · rename_i h
        obtain rfl := (lsC_is.zero v u).1 h
        simp
      · rw [List.mem_cons, mem_ins v l x, List.mem_cons]
        constructor
        · rintro (h | h | h)
          · exact .inr (.inl h)
          · exact .inl h
          · exact .inr (.inr h)
        · rintro (h | h | h)
          · exact .inr (.inl h)
          · exact .inl h
          · exact .inr (.inr h)
theorem strict_ins (v : List Nd) : ∀ (l : List (List Nd)), Strict l → Strict (ins v l)
  | [], _ => by simp [ins, Strict]
  | u :: l, h => by
    have h' := List.pairwise_cons.1 h
    unfold ins
    split
    · rename_i hv
      refine List.pairwise_cons.2 ⟨fun x hx => ?_, h⟩
      rcases List.mem_cons.1 hx with rfl | hx
      · exact hv
      · exact lsC_is.lt_le hv (by have := h'.1 x hx; omega)
    · split
      · exact h
      · rename_i h1 h2
        refine List.pairwise_cons.2 ⟨fun x hx => ?_, strict_ins v l h'.2⟩
        rcases (mem_ins v l x).1 hx with rfl | hx
        · have := lsC_is.neg u x
          have := lsC_is.range u x
          omega
        · exact h'.1 x hx
theorem mem_setL (vs : List (List Nd)) (x : List Nd) : x ∈ setL vs ↔ x ∈ vs := by
  induction vs with
  | nil => simp [setL]
  | cons v vs ih =>
    show x ∈ ins v (setL vs) ↔ _
    rw [mem_ins, ih, List.mem_cons]
theorem strict_setL (vs : List (List Nd)) : Strict (setL vs) := by
  induction vs with
  | nil => exact List.Pairwise.nil
  | cons v vs ih => exact strict_ins v _ ih
/-- Whatever list has them each once, in order, is that one. -/
theorem setL_is {vs l : List (List Nd)} (h : Strict l) (hm : ∀ x, x ∈ l ↔ x ∈ vs) : l = setL vs :=
  Strict.ext h (strict_setL vs) (fun x => (hm x).trans (mem_setL vs x).symm)

/-- Above the last one, if there is one; ahead of the next one, if there is one. -/
def above (last : List Nd) (v : List Nd) : Bool := last.isEmpty || decide (0 < lsC v last)
def lessO (v : List Nd) (nx : List Nd) : Bool := nx.isEmpty || decide (lsC v nx < 0)
def pick (last : List Nd) : List (List Nd) → List Nd → List Nd
  | [], nx => nx
  | v :: vs, nx => pick last vs (if above last v && lessO v nx then v else nx)

theorem pick_spec (last : List Nd) : ∀ (vs : List (List Nd)) (nx : List Nd), (∀ v ∈ vs, v ≠ []) →
    (pick last vs nx = nx ∧ ∀ v ∈ vs, above last v = true → nx ≠ [] ∧ lsC nx v ≤ 0) ∨
    (pick last vs nx ∈ vs ∧ above last (pick last vs nx) = true ∧ (∀ v ∈ vs, above last v = true → lsC (pick last vs nx) v ≤ 0) ∧ (nx ≠ [] → lsC (pick last vs nx) nx ≤ 0))
  | [], nx, _ => .inl ⟨rfl, by simp⟩
  | v :: vs, nx, hne => by
    have hv : v ≠ [] := hne v (by simp)
    have ih := pick_spec last vs (if above last v && lessO v nx then v else nx) (fun u hu => hne u (by simp [hu]))
    simp only [pick]
    cases ha : above last v <;> simp only [ha, Bool.false_and, Bool.true_and, if_false, Bool.false_eq_true] at ih ⊢
    · rcases ih with ⟨h1, h2⟩ | ⟨h1, h2, h3, h4⟩
      · refine .inl ⟨h1, fun u hu hau => ?_⟩
        rcases List.mem_cons.1 hu with rfl | hu
        · rw [ha] at hau; cases hau
        · exact h2 u hu hau
      · refine .inr ⟨by simp [h1], h2, fun u hu hau => ?_, h4⟩
        rcases List.mem_cons.1 hu with rfl | hu
        · rw [ha] at hau; cases hau
        · exact h3 u hu hau
    · cases hl : lessO v nx <;> simp only [hl, if_true, if_false, Bool.false_eq_true] at ih ⊢
      · have hl' : nx ≠ [] ∧ lsC nx v ≤ 0 := by
          unfold lessO at hl
          simp at hl
          have := lsC_is.neg nx v
          exact ⟨hl.1, by omega⟩
        rcases ih with ⟨h1, h2⟩ | ⟨h1, h2, h3, h4⟩
        · refine .inl ⟨h1, fun u hu hau => ?_⟩
          rcases List.mem_cons.1 hu with rfl | hu
          · exact hl'
          · exact h2 u hu hau
        · refine .inr ⟨by simp [h1], h2, fun u hu hau => ?_, h4⟩
          rcases List.mem_cons.1 hu with rfl | hu
          · exact lsC_is.trans _ _ _ (h4 hl'.1) hl'.2
          · exact h3 u hu hau
      · have hl' : nx ≠ [] → lsC v nx ≤ 0 := fun h => by
          unfold lessO at hl
          simp [h] at hl
          omega
        rcases ih with ⟨h1, h2⟩ | ⟨h1, h2, h3, h4⟩
        · rw [h1]
          refine .inr ⟨by simp, ha, fun u hu hau => ?_, hl'⟩
          rcases List.mem_cons.1 hu with rfl | hu
          · rw [lsC_self]; omega
          · exact (h2 u hu hau).2
        · refine .inr ⟨by simp [h1], h2, fun u hu hau => ?_, fun hn => lsC_is.trans _ _ _ (h4 hv) (hl' hn)⟩
          rcases List.mem_cons.1 hu with rfl | hu
          · exact h4 hv
          · exact h3 u hu hau

/-- What was picked so far: in order, all that is not above the last. -/
structure Picked (vs : List (List Nd)) (done : List (List Nd)) (last : List Nd) : Prop where
  strict : Strict done
  sub : ∀ x ∈ done, x ∈ vs
  all : ∀ v ∈ vs, above last v = true ∨ v ∈ done
  ends : (done = [] ∧ last = []) ∨ (last ∈ done ∧ ∀ x ∈ done, lsC x last ≤ 0)
theorem Picked.start (vs : List (List Nd)) : Picked vs [] [] := ⟨List.Pairwise.nil, by simp, fun v _ => .inl (by simp [above]), .inl ⟨rfl, rfl⟩⟩
theorem Picked.done {vs done : List (List Nd)} {last : List Nd} (h : Picked vs done last) (hne : ∀ v ∈ vs, v ≠ []) (hp : pick last vs [] = []) : done = setL vs := by
  refine setL_is h.strict (fun x => ⟨h.sub x, fun hx => ?_⟩)
  rcases h.all x hx with ha | hd
  · rcases pick_spec last vs [] hne with ⟨_, h2⟩ | ⟨h1, _⟩
    · exact absurd rfl (h2 x hx ha).1
    · rw [hp] at h1; exact absurd rfl (hne _ h1)
  · exact hd
theorem Picked.next {vs done : List (List Nd)} {last : List Nd} (h : Picked vs done last) (hne : ∀ v ∈ vs, v ≠ []) (hp : pick last vs [] ≠ []) : Picked vs (done ++ [pick last vs []]) (pick last vs []) := by
  rcases pick_spec last vs [] hne with ⟨h1, _⟩ | ⟨h1, h2, h3, _⟩
  · exact absurd h1 hp
  · generalize pick last vs [] = n at *
    have hab : ∀ x ∈ done, lsC x n < 0 := by
      intro x hx
      rcases h.ends with ⟨e, _⟩ | ⟨hl, hle⟩
      · rw [e] at hx; cases hx
      · have hlast : last ≠ [] := hne _ (h.sub _ hl)
        unfold above at h2
        simp [hlast] at h2
        have := lsC_is.neg n last
        exact lsC_is.le_lt (hle x hx) (by omega)
    refine ⟨List.pairwise_append.2 ⟨h.strict, by simp, fun a ha b hb => by simp at hb; subst hb; exact hab a ha⟩, fun x hx => ?_, fun v hv => ?_, .inr ⟨by simp, fun x hx => ?_⟩⟩
    · rcases List.mem_append.1 hx with hx | hx
      · exact h.sub x hx
      · simp at hx; subst hx; exact h1
    · rcases h.all v hv with ha | hd
      · have h4 := h3 v hv ha
        by_cases hz : lsC n v = 0
        · obtain rfl := (lsC_is.zero n v).1 hz
          exact .inr (by simp)
        · left
          unfold above
          have := lsC_is.neg v n
          simp; right; omega
      · exact .inr (by simp [hd])
    · rcases List.mem_append.1 hx with hx | hx
      · have := hab x hx; omega
      · simp at hx; subst hx; rw [lsC_self]; omega
end Go.Proofs.YtckjndiepojgfaaGreatDoor
namespace Go.Proofs.YtckjndiepojgfaaGreatDoor
set_option linter.unusedVariables false

theorem take_behind {u rest s : List Nd} (h : rest.length ≤ u.length) : (u ++ s).take ((u ++ s).length - (rest ++ s).length) = u.take (u.length - rest.length) := by
  have e : (u ++ s).length - (rest ++ s).length = u.length - rest.length := by simp only [List.length_append]; omega
  rw [e, List.take_append_of_le_length (by omega)]
theorem setLoop_behind {pv pw : List Nd → Option (List Nd)} {s : List Nd} (h : ∀ u r, pv u = some r → pw (u ++ s) = some (r ++ s)) (hs : ∀ u r, pv u = some r → r.length < u.length) :
    ∀ (k : Nat) (last : Option (List Nd)) (u r : List Nd), setLoop pv k last u = some r → setLoop pw k last (u ++ s) = some (r ++ s)
  | 0, last, u, r, e => by
    simp only [setLoop, Option.some.injEq] at e ⊢
    rw [e]
  | k + 1, last, u, r, e => by
    simp only [setLoop] at e ⊢
    cases e1 : pv u with
    | none => rw [e1] at e; cases e
    | some rest =>
      simp only [e1] at e
      rw [h u rest e1]
      simp only []
      rw [take_behind (Nat.le_of_lt (hs u rest e1))]
      split at e
      · rename_i ha
        rw [if_pos ha]
        exact setLoop_behind h hs k _ rest r e
      · cases e
theorem recLoop_behind {pv pw : List Nd → Option (List Nd)} {s : List Nd} (h : ∀ u r, pv u = some r → pw (u ++ s) = some (r ++ s)) :
    ∀ (k : Nat) (last : ByteArray) (u r : List Nd), recLoop pv k last u = some r → recLoop pw k last (u ++ s) = some (r ++ s)
  | 0, last, u, r, e => by
    simp only [recLoop, Option.some.injEq] at e ⊢
    rw [e]
  | k + 1, last, [], r, e => by simp [recLoop] at e
  | k + 1, last, x :: u, r, e => by
    simp only [recLoop, List.cons_append] at e ⊢
    split at e
    · rename_i hx
      rw [if_pos hx]
      cases e1 : pv u with
      | none => rw [e1] at e; cases e
      | some rest =>
        simp only [e1] at e
        rw [h u rest e1]
        exact recLoop_behind h k _ rest r e
    · cases e
theorem pastV_behind (s : List Nd) : ∀ (f g : Nat) (u r : List Nd), f ≤ g → pastV f u = some r → pastV g (u ++ s) = some (r ++ s)
  | 0, _, _, _, _, e => by simp [pastV] at e
  | f + 1, 0, _, _, h, _ => absurd h (by omega)
  | f + 1, g + 1, [], r, _, e => by simp [pastV] at e
  | f + 1, g + 1, x :: u, r, h, e => by
    have ih := fun u r => pastV_behind s f g u r (by omega)
    simp only [pastV, List.cons_append] at e ⊢
    split at e
    · rename_i hx
      rw [if_pos hx]
      split at e
      · rename_i h5
        rw [if_pos h5]
        exact setLoop_behind ih (fun u r e => (pastV_shorter e).1) _ _ _ _ e
      · rename_i h5
        rw [if_neg h5]
        split at e
        · rename_i h6
          rw [if_pos h6]
          exact recLoop_behind ih _ _ _ _ e
        · rename_i h6
          rw [if_neg h6]
          simp only [Option.some.injEq] at e ⊢
          rw [e]
    · cases e
theorem value_behind {v : List Nd} (h : vfault v = 0) (s : List Nd) {g : Nat} (hg : v.length + 1 ≤ g) : pastV g (v ++ s) = some s := by
  have := pastV_behind s (v.length + 1) g v [] hg (isVal_past h).2
  simpa using this

theorem pastV_more (f : Nat) {u r : List Nd} (h : pastV f u = some r) (s : List Nd) : pastV f (u ++ s) = some (r ++ s) := pastV_behind s f f u r (Nat.le_refl _) h

theorem setLoop_front {pv : List Nd → Option (List Nd)} (h : ∀ u r, pv u = some r → ∃ a, u = a ++ r ∧ pv a = some []) (k1 : ∀ u r, pv u = some r → ∀ s, pv (u ++ s) = some (r ++ s)) :
    ∀ (k : Nat) (last : Option (List Nd)) (u r : List Nd), setLoop pv k last u = some r → ∃ l : List (List Nd), u = l.flatten ++ r ∧ l.length = k ∧ Strict l ∧ (∀ v ∈ l, pv v = some []) ∧ (∀ v ∈ l, aheadOf last v = true) ∧ setLoop pv k last l.flatten = some []
  | 0, last, u, r, e => by
    simp only [setLoop, Option.some.injEq] at e
    subst e
    exact ⟨[], rfl, rfl, List.Pairwise.nil, by simp, by simp, rfl⟩
  | k + 1, last, u, r, e => by
    simp only [setLoop] at e
    cases e1 : pv u with
    | none => rw [e1] at e; cases e
    | some rest =>
      simp only [e1] at e
      obtain ⟨a, rfl, ha⟩ := h u rest e1
      have ht : ∀ c : List Nd, (a ++ c).take ((a ++ c).length - c.length) = a := fun c => by rw [List.length_append, Nat.add_sub_cancel, List.take_left]
      rw [ht] at e
      split at e
      · rename_i hah
        obtain ⟨l, rfl, hl, hs, hv, hlast, hloop⟩ := setLoop_front h k1 k (some a) rest r e
        refine ⟨a :: l, by simp, by simp [hl], List.pairwise_cons.2 ⟨fun v hm => by simpa [aheadOf] using hlast v hm, hs⟩, ?_, ?_, ?_⟩
        · intro v hm
          rcases List.mem_cons.1 hm with rfl | hm
          · exact ha
          · exact hv v hm
        · intro v hm
          rcases List.mem_cons.1 hm with rfl | hm
          · exact hah
          · cases last with
            | none => rfl
            | some b =>
              have h1 : lsC b a < 0 := by simpa [aheadOf] using hah
              have h2 : lsC a v < 0 := by simpa [aheadOf] using hlast v hm
              have := lsC_is.lt_le h1 (by omega : lsC a v ≤ 0)
              simp [aheadOf, this]
        · simp only [setLoop, List.flatten_cons]
          rw [k1 a [] ha l.flatten]
          simp only [List.nil_append]
          rw [ht, if_pos hah]
          exact hloop
      · cases e
theorem recLoop_front {pv : List Nd → Option (List Nd)} (h : ∀ u r, pv u = some r → ∃ a, u = a ++ r ∧ pv a = some []) (k1 : ∀ u r, pv u = some r → ∀ s, pv (u ++ s) = some (r ++ s)) :
    ∀ (k : Nat) (last : ByteArray) (u r : List Nd), recLoop pv k last u = some r → ∃ a, u = a ++ r ∧ recLoop pv k last a = some []
  | 0, last, u, r, e => by
    simp only [recLoop, Option.some.injEq] at e
    subst e
    exact ⟨[], rfl, rfl⟩
  | k + 1, last, [], r, e => by simp [recLoop] at e
  | k + 1, last, x :: u, r, e => by
    simp only [recLoop] at e
    split at e
    · rename_i hx
      cases e1 : pv u with
      | none => rw [e1] at e; cases e
      | some rest =>
        simp only [e1] at e
        obtain ⟨a, rfl, ha⟩ := h u rest e1
        obtain ⟨c, rfl, hc⟩ := recLoop_front h k1 k _ rest r e
        refine ⟨x :: (a ++ c), by simp, ?_⟩
        simp only [recLoop]
        rw [if_pos hx, k1 a [] ha c]
        exact hc
    · cases e
theorem pastV_front : ∀ (f : Nat) (u r : List Nd), pastV f u = some r → ∃ a, u = a ++ r ∧ pastV f a = some []
  | 0, _, _, e => by simp [pastV] at e
  | f + 1, [], r, e => by simp [pastV] at e
  | f + 1, x :: u, r, e => by
    have ih := pastV_front f
    have k1 : ∀ u r, pastV f u = some r → ∀ s, pastV f (u ++ s) = some (r ++ s) := fun u r h s => pastV_more f h s
    simp only [pastV] at e
    split at e
    · rename_i hx
      split at e
      · rename_i h5
        obtain ⟨l, rfl, _, _, _, _, hl⟩ := setLoop_front ih k1 _ _ _ _ e
        refine ⟨x :: l.flatten, rfl, ?_⟩
        simp only [pastV]
        rw [if_pos hx, if_pos h5]
        exact hl
      · rename_i h5
        split at e
        · rename_i h6
          obtain ⟨a, rfl, ha⟩ := recLoop_front ih k1 _ _ _ _ e
          refine ⟨x :: a, rfl, ?_⟩
          simp only [pastV]
          rw [if_pos hx, if_neg h5, if_pos h6]
          exact ha
        · rename_i h6
          simp only [Option.some.injEq] at e
          subst e
          refine ⟨[x], rfl, ?_⟩
          simp only [pastV]
          rw [if_pos hx, if_neg h5, if_neg h6]
    · cases e

end Go.Proofs.YtckjndiepojgfaaGreatDoor
namespace Go.Proofs.YtckjndiepojgfaaGreatDoor
set_option linter.unusedVariables false

/-- The parts of a row, each as a list. -/
def rows : Tp → List (List Nd)
  | .nil => []
  | .cons x k r => (x :: k.flat) :: rows r
theorem rows_length : ∀ t : Tp, (rows t).length = t.len
  | .nil => rfl
  | .cons x k r => by simp [rows, Tp.len, rows_length r]
theorem rows_app : ∀ p r : Tp, rows (p.app r) = rows p ++ rows r
  | .nil, r => rfl
  | .cons x k q, r => by simp [Tp.app, rows, rows_app q r]
theorem rows_at {p r k : Tp} {f : Nd} {kf : Tp} (h : k = p.app (.cons f kf r)) : (rows k)[p.len]? = some (f :: kf.flat) := by
  rw [h, rows_app, List.getElem?_append_right (by rw [rows_length]; exact Nat.le_refl _), rows_length]
  simp [rows]
theorem front_val : ∀ (f : Nat) (u r : List Nd), pastV f u = some r → ∃ x k, okV none (.cons x k .nil) ∧ u = x :: (k.flat ++ r) := pastV_tree
/-- Items are the parts of the tree. -/
theorem segs_rows {f : Nat} : ∀ {u : List Nd} {ss : List (List Nd)}, Segs f u ss → ∀ {m : Option ByteArray} {l : Tp}, okV m l → u = l.flat → ss = rows l := by
  intro u ss h
  induction h with
  | nil =>
    intro m l hl e
    cases l with
    | nil => rfl
    | cons x k r => simp [Tp.flat] at e
  | @cons a r ss h hs ih =>
    intro m l hl e
    cases l with
    | nil =>
      obtain ⟨a', e', _, hne⟩ := itemP_off h
      obtain rfl := List.append_cancel_right e'
      simp only [Tp.flat, List.append_eq_nil_iff] at e
      exact absurd e.1 hne
    | cons y ly q =>
      rw [e] at h
      simp only [Tp.flat, itemP] at h
      simp only [Tp.flat] at e
      cases m with
      | none =>
        obtain ⟨⟨h7, hy, hk⟩, hq⟩ := okV.none_iff.1 hl
        rw [if_neg h7] at h
        obtain ⟨x, k, hx, e2⟩ := pastV_tree _ _ _ h
        have hy1 : okV none (.cons y ly .nil) := okV.none_iff.2 ⟨⟨h7, hy, hk⟩, okV.nil⟩
        obtain ⟨e3, e4⟩ := tp_flat_inj (.cons y ly .nil) (.cons x k .nil) q.flat r hy1.ar hx.ar rfl (by simpa [Tp.flat] using e2)
        cases e3
        subst e4
        have : a = y :: ly.flat := by
          have := e
          rw [← List.cons_append] at this
          exact List.append_cancel_right this
        rw [this, rows, ih hq rfl]
      | some m =>
        obtain ⟨⟨h7, hy, hc⟩, ⟨hl1, hk⟩, hq⟩ := okV.some_iff.1 hl
        rw [if_pos h7] at h
        obtain ⟨x, k, hx, e2⟩ := pastV_tree _ _ _ h
        obtain ⟨z, kz, rfl⟩ := tp_len1 hl1
        obtain ⟨e3, e4⟩ := tp_flat_inj (.cons z kz .nil) (.cons x k .nil) q.flat r hk.ar hx.ar rfl (by simpa [Tp.flat] using e2)
        cases e3
        subst e4
        have : a = y :: (Tp.cons x k .nil).flat := by
          have := e
          rw [← List.cons_append] at this
          exact List.append_cancel_right this
        rw [this, rows, ih hq rfl]
theorem past_ok {f : Nat} {v : List Nd} (h : pastV f v = some []) (hl : v.length ≤ 200) (hf : v.length < f) : vfault v = 0 := by
  unfold vfault isVal
  rw [if_neg (by omega), pastV_fuel (v.length + 1) f v (by omega) hf, h]
  rfl
/-- What stands ahead of a rest is a value. -/
theorem past_front : ∀ {f : Nat} {a r : List Nd}, pastV f (a ++ r) = some r → pastV f a = some [] := by
  intro f a r h
  obtain ⟨a', e, h2⟩ := pastV_front f _ _ h
  obtain rfl := List.append_cancel_right e
  exact h2
theorem segs_vals {f : Nat} : ∀ {u : List Nd} {ss : List (List Nd)}, Segs f u ss → u.length ≤ 200 → u.length < f → ∀ s ∈ ss, vfault (strip s) = 0 := by
  intro u ss h
  induction h with
  | nil => intro _ _ s hs; cases hs
  | @cons a r ss h hs ih =>
    intro hl hf s hs'
    have hal : a.length ≤ 200 := by simp at hl; omega
    have haf : a.length < f := by simp at hf; omega
    rcases List.mem_cons.1 hs' with rfl | hs'
    · cases s with
      | nil => obtain ⟨a', e', _, hne⟩ := itemP_off h; obtain rfl := List.append_cancel_right e'; exact absurd rfl hne
      | cons x s =>
        simp only [List.cons_append, itemP] at h
        simp only [strip]
        split
        · rename_i h7
          rw [if_pos h7] at h
          exact past_ok (past_front h) (by simp at hal; omega) (by simp at haf; omega)
        · rename_i h7
          rw [if_neg h7, ← List.cons_append] at h
          exact past_ok (past_front h) hal haf
    · exact ih (by simp at hl; omega) (by simp at hf; omega) s hs'
/-- A value's parts are values: of a set. -/
theorem set_parts {y : Nd} {l : Tp} (h : vfault (y :: l.flat) = 0) (ho : okV none (.cons y l .nil)) (h5 : y.op = 5) : Segs (y :: l.flat).length l.flat (rows l) ∧ (l.len : Int) = y.n ∧ okV none l ∧ (∀ s ∈ rows l, ∃ z t, s = z :: t ∧ z.op ≠ 7) ∧ ∀ s ∈ rows l, vfault s = 0 := by
  obtain ⟨ss, h1, h2, h3⟩ := set_items h h5
  obtain ⟨⟨h7, hy, hk⟩, _⟩ := okV.none_iff.1 ho
  have hl : okV none l := by
    rcases hk with ⟨_, _, h⟩ | ⟨h6, _⟩ | ⟨h6, _⟩
    · exact h
    · omega
    · exact absurd h5 h6
  obtain rfl := segs_rows h1 hl rfl
  have hn := ndOk_n hy (.inl h5)
  refine ⟨h1, ?_, hl, h3, fun s hs => ?_⟩
  · rw [rows_length] at h2; omega
  · have h4 := segs_vals h1 (by have := (isVal_past h).1; simp at this; omega) (by simp) s hs
    obtain ⟨z, t, rfl, hz⟩ := h3 s hs
    rw [strip, if_neg hz] at h4
    exact h4
/-- Of a record. -/
theorem rec_parts {y : Nd} {l : Tp} (h : vfault (y :: l.flat) = 0) (ho : okV none (.cons y l .nil)) (h6 : y.op = 6) : Segs (y :: l.flat).length l.flat (rows l) ∧ (l.len : Int) = y.n ∧ okV (some e0) l ∧ (∀ s ∈ rows l, ∃ z t, s = z :: t ∧ z.op = 7) ∧ ∀ s ∈ rows l, vfault (strip s) = 0 := by
  obtain ⟨ss, h1, h2, h3⟩ := rec_items h h6
  obtain ⟨⟨h7, hy, hk⟩, _⟩ := okV.none_iff.1 ho
  have hl : okV (some e0) l := by
    rcases hk with ⟨h5, _⟩ | ⟨_, _, h⟩ | ⟨_, h5, _⟩
    · omega
    · exact h
    · exact absurd h6 h5
  obtain rfl := segs_rows h1 hl rfl
  have hn := ndOk_n hy (.inr h6)
  refine ⟨h1, ?_, hl, fun s hs => ?_, fun s hs => segs_vals h1 (by have := (isVal_past h).1; simp at this; omega) (by simp) s hs⟩
  · rw [rows_length] at h2; omega
  · clear h h1 h2 ho hk
    generalize (⟨#[]⟩ : ByteArray) = b at h3
    generalize rows l = ss at *
    induction h3 with
    | nil => cases hs
    | cons h7 hl hs2 ih =>
      rcases List.mem_cons.1 hs with rfl | hs
      · exact ⟨_, _, rfl, h7⟩
      · exact ih hs
theorem okV.mid {m : Option ByteArray} : ∀ {p : Tp} {y : Nd} {ly r : Tp}, okV m (p.app (.cons y ly r)) → (m = none → okV none (.cons y ly .nil)) ∧ (∀ b, m = some b → ly.len = 1 ∧ okV none ly ∧ y.op = 7)
  | .nil, y, ly, r, h => by
    cases m with
    | none => exact ⟨fun _ => okV.none_iff.2 ⟨(okV.none_iff.1 h).1, okV.nil⟩, fun b e => by cases e⟩
    | some b =>
      obtain ⟨⟨h7, _⟩, ⟨h1, h2⟩, _⟩ := okV.some_iff.1 h
      exact ⟨fun e => (by cases e), fun b e => ⟨h1, h2, h7⟩⟩
  | .cons g lg q, y, ly, r, h => by
    cases m with
    | none => exact okV.mid (p := q) (okV.none_iff.1 h).2
    | some b =>
      obtain ⟨a, c⟩ := okV.mid (p := q) (okV.some_iff.1 h).2.2
      exact ⟨fun e => (by cases e), fun b' _ => c _ rfl⟩
theorem hs_one (y : Nd) (l r : Tp) (x : Nd) (m s : Tp) : hs false (.cons y l r) (.cons x m s) = (hs false (.cons y l .nil) (.cons x m s) && hs false r (.cons x m s)) := by
  rw [hs_cons, hs_cons, show hs false .nil (.cons x m s) = true by rw [hs]]
  simp
theorem hsV_app {x : Nd} {m s : Tp} : ∀ {p r : Tp}, hs false (p.app r) (.cons x m s) = (hs false p (.cons x m s) && hs false r (.cons x m s))
  | .nil, r => by rw [Tp.app, show hs false .nil (.cons x m s) = true by rw [hs]]; rfl
  | .cons f kf q, r => by rw [Tp.app, hs_one, hs_one f kf q, hsV_app (p := q), Bool.and_assoc]
end Go.Proofs.YtckjndiepojgfaaGreatDoor
