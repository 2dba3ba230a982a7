/- Sets of values as plain lists: each once, in order; that there is one such list; the least above the last, again and again; a sorted row with equal neighbours made one. No program is named here. -/
import Derived.Test.YtncmjcjnldhhhaaGreatDoorNd
namespace Go.Proofs.YtncmjcjnldhhhaaGreatDoor
set_option linter.unusedVariables false

/-- Each ahead of all behind it. -/
def Strict (l : List (List Nd)) : Prop := l.Pairwise fun a b => lsC a b < 0

theorem lsC_self (a : List Nd) : lsC a a = 0 := lsC_is.self a

theorem Strict.ext : ∀ {l m : List (List Nd)}, Strict l → Strict m → (∀ x, x ∈ l ↔ x ∈ m) → l = m
  | [], [], _, _, _ => rfl
  | [], b :: m, _, _, h => by have := (h b).2 (by simp); cases this
  | a :: l, [], _, _, h => by have := (h a).1 (by simp); cases this
  | a :: l, b :: m, h1, h2, h => by
    have h1' := List.pairwise_cons.1 h1
    have h2' := List.pairwise_cons.1 h2
    have hab : a = b := by
      have ha := (h a).1 (by simp)
      have hb := (h b).2 (by simp)
      rcases List.mem_cons.1 ha with e | ha
      · exact e
      · rcases List.mem_cons.1 hb with e | hb
        · exact e.symm
        · have k1 := h2'.1 a ha
          have k2 := h1'.1 b hb
          have := lsC_is.lt_le k1 (by omega : lsC a b ≤ 0)
          rw [lsC_self] at this; omega
    subst hab
    congr 1
    refine Strict.ext h1'.2 h2'.2 (fun x => ?_)
    have hx := h x
    constructor
    · intro hl
      rcases List.mem_cons.1 (hx.1 (by simp [hl])) with e | hm
      · subst e
        have := h1'.1 _ hl
        rw [lsC_self] at this; omega
      · exact hm
    · intro hm
      rcases List.mem_cons.1 (hx.2 (by simp [hm])) with e | hl
      · subst e
        have := h2'.1 _ hm
        rw [lsC_self] at this; omega
      · exact hl

def ins (v : List Nd) : List (List Nd) → List (List Nd)
  | [] => [v]
  | u :: l => if lsC v u < 0 then v :: u :: l else if lsC v u = 0 then u :: l else u :: ins v l
/-- The values of some lists, each once, in order. -/
def setL (vs : List (List Nd)) : List (List Nd) := vs.foldr ins []

theorem mem_ins (v : List Nd) : ∀ (l : List (List Nd)) (x : List Nd), x ∈ ins v l ↔ x = v ∨ x ∈ l
  | [], x => by simp [ins]
  | u :: l, x => by
    unfold ins
    split
    · simp
    · split
      · rename_i h
        obtain rfl := (lsC_is.zero v u).1 h
        simp
      · rw [List.mem_cons, mem_ins v l x, List.mem_cons]
        constructor
        · rintro (h | h | h)
          · exact .inr (.inl h)
          · exact .inl h
          · exact .inr (.inr h)
        · rintro (h | h | h)
          · exact .inr (.inl h)
          · exact .inl h
          · exact .inr (.inr h)
theorem strict_ins (v : List Nd) : ∀ (l : List (List Nd)), Strict l → Strict (ins v l)
  | [], _ => by simp [ins, Strict]
  | u :: l, h => by
    have h' := List.pairwise_cons.1 h
    unfold ins
    split
    · rename_i hv
      refine List.pairwise_cons.2 ⟨fun x hx => ?_, h⟩
      rcases List.mem_cons.1 hx with rfl | hx
      · exact hv
      · exact lsC_is.lt_le hv (by have := h'.1 x hx; omega)
    · split
      · exact h
      · rename_i h1 h2
        refine List.pairwise_cons.2 ⟨fun x hx => ?_, strict_ins v l h'.2⟩
        rcases (mem_ins v l x).1 hx with rfl | hx
        · have := lsC_is.neg u x
          have := lsC_is.range u x
          omega
        · exact h'.1 x hx
theorem mem_setL (vs : List (List Nd)) (x : List Nd) : x ∈ setL vs ↔ x ∈ vs := by
  induction vs with
  | nil => simp [setL]
  | cons v vs ih =>
    show x ∈ ins v (setL vs) ↔ _
    rw [mem_ins, ih, List.mem_cons]
theorem strict_setL (vs : List (List Nd)) : Strict (setL vs) := by
  induction vs with
  | nil => exact List.Pairwise.nil
  | cons v vs ih => exact strict_ins v _ ih
/-- Whatever list has them each once, in order, is that one. -/
theorem setL_is {vs l : List (List Nd)} (h : Strict l) (hm : ∀ x, x ∈ l ↔ x ∈ vs) : l = setL vs :=
  Strict.ext h (strict_setL vs) (fun x => (hm x).trans (mem_setL vs x).symm)

/-- Above the last one, if there is one; ahead of the next one, if there is one. -/
def above (last : List Nd) (v : List Nd) : Bool := last.isEmpty || decide (0 < lsC v last)
def lessO (v : List Nd) (nx : List Nd) : Bool := nx.isEmpty || decide (lsC v nx < 0)
def pick (last : List Nd) : List (List Nd) → List Nd → List Nd
  | [], nx => nx
  | v :: vs, nx => pick last vs (if above last v && lessO v nx then v else nx)

theorem pick_spec (last : List Nd) : ∀ (vs : List (List Nd)) (nx : List Nd), (∀ v ∈ vs, v ≠ []) →
    (pick last vs nx = nx ∧ ∀ v ∈ vs, above last v = true → nx ≠ [] ∧ lsC nx v ≤ 0) ∨
    (pick last vs nx ∈ vs ∧ above last (pick last vs nx) = true ∧ (∀ v ∈ vs, above last v = true → lsC (pick last vs nx) v ≤ 0) ∧ (nx ≠ [] → lsC (pick last vs nx) nx ≤ 0))
  | [], nx, _ => .inl ⟨rfl, by simp⟩
  | v :: vs, nx, hne => by
    have hv : v ≠ [] := hne v (by simp)
    have ih := pick_spec last vs (if above last v && lessO v nx then v else nx) (fun u hu => hne u (by simp [hu]))
    simp only [pick]
    cases ha : above last v <;> simp only [ha, Bool.false_and, Bool.true_and, if_false, Bool.false_eq_true] at ih ⊢
    · rcases ih with ⟨h1, h2⟩ | ⟨h1, h2, h3, h4⟩
      · refine .inl ⟨h1, fun u hu hau => ?_⟩
        rcases List.mem_cons.1 hu with rfl | hu
        · rw [ha] at hau; cases hau
        · exact h2 u hu hau
      · refine .inr ⟨by simp [h1], h2, fun u hu hau => ?_, h4⟩
        rcases List.mem_cons.1 hu with rfl | hu
        · rw [ha] at hau; cases hau
        · exact h3 u hu hau
    · cases hl : lessO v nx <;> simp only [hl, if_true, if_false, Bool.false_eq_true] at ih ⊢
      · have hl' : nx ≠ [] ∧ lsC nx v ≤ 0 := by
          unfold lessO at hl
          simp at hl
          have := lsC_is.neg nx v
          exact ⟨hl.1, by omega⟩
        rcases ih with ⟨h1, h2⟩ | ⟨h1, h2, h3, h4⟩
        · refine .inl ⟨h1, fun u hu hau => ?_⟩
          rcases List.mem_cons.1 hu with rfl | hu
          · exact hl'
          · exact h2 u hu hau
        · refine .inr ⟨by simp [h1], h2, fun u hu hau => ?_, h4⟩
          rcases List.mem_cons.1 hu with rfl | hu
          · exact lsC_is.trans _ _ _ (h4 hl'.1) hl'.2
          · exact h3 u hu hau
      · have hl' : nx ≠ [] → lsC v nx ≤ 0 := fun h => by
          unfold lessO at hl
          simp [h] at hl
          omega
        rcases ih with ⟨h1, h2⟩ | ⟨h1, h2, h3, h4⟩
        · rw [h1]
          refine .inr ⟨by simp, ha, fun u hu hau => ?_, hl'⟩
          rcases List.mem_cons.1 hu with rfl | hu
          · rw [lsC_self]; omega
          · exact (h2 u hu hau).2
        · refine .inr ⟨by simp [h1], h2, fun u hu hau => ?_, fun hn => lsC_is.trans _ _ _ (h4 hv) (hl' hn)⟩
          rcases List.mem_cons.1 hu with rfl | hu
          · exact h4 hv
          · exact h3 u hu hau

/-- What was picked so far: in order, all that is not above the last. -/
structure Picked (vs : List (List Nd)) (done : List (List Nd)) (last : List Nd) : Prop where
  strict : Strict done
  sub : ∀ x ∈ done, x ∈ vs
  all : ∀ v ∈ vs, above last v = true ∨ v ∈ done
  ends : (done = [] ∧ last = []) ∨ (last ∈ done ∧ ∀ x ∈ done, lsC x last ≤ 0)
theorem Picked.start (vs : List (List Nd)) : Picked vs [] [] := ⟨List.Pairwise.nil, by simp, fun v _ => .inl (by simp [above]), .inl ⟨rfl, rfl⟩⟩
theorem Picked.done {vs done : List (List Nd)} {last : List Nd} (h : Picked vs done last) (hne : ∀ v ∈ vs, v ≠ []) (hp : pick last vs [] = []) : done = setL vs := by
  refine setL_is h.strict (fun x => ⟨h.sub x, fun hx => ?_⟩)
  rcases h.all x hx with ha | hd
  · rcases pick_spec last vs [] hne with ⟨_, h2⟩ | ⟨h1, _⟩
    · exact absurd rfl (h2 x hx ha).1
    · rw [hp] at h1; exact absurd rfl (hne _ h1)
  · exact hd
theorem Picked.next {vs done : List (List Nd)} {last : List Nd} (h : Picked vs done last) (hne : ∀ v ∈ vs, v ≠ []) (hp : pick last vs [] ≠ []) : Picked vs (done ++ [pick last vs []]) (pick last vs []) := by
  rcases pick_spec last vs [] hne with ⟨h1, _⟩ | ⟨h1, h2, h3, _⟩
  · exact absurd h1 hp
  · generalize pick last vs [] = n at *
    have hab : ∀ x ∈ done, lsC x n < 0 := by
      intro x hx
      rcases h.ends with ⟨e, _⟩ | ⟨hl, hle⟩
      · rw [e] at hx; cases hx
      · have hlast : last ≠ [] := hne _ (h.sub _ hl)
        unfold above at h2
        simp [hlast] at h2
        have := lsC_is.neg n last
        exact lsC_is.le_lt (hle x hx) (by omega)
    refine ⟨List.pairwise_append.2 ⟨h.strict, by simp, fun a ha b hb => by simp at hb; subst hb; exact hab a ha⟩, fun x hx => ?_, fun v hv => ?_, .inr ⟨by simp, fun x hx => ?_⟩⟩
    · rcases List.mem_append.1 hx with hx | hx
      · exact h.sub x hx
      · simp at hx; subst hx; exact h1
    · rcases h.all v hv with ha | hd
      · have h4 := h3 v hv ha
        by_cases hz : lsC n v = 0
        · obtain rfl := (lsC_is.zero n v).1 hz
          exact .inr (by simp)
        · left
          unfold above
          have := lsC_is.neg v n
          simp; right; omega
      · exact .inr (by simp [hd])
    · rcases List.mem_append.1 hx with hx | hx
      · have := hab x hx; omega
      · simp at hx; subst hx; rw [lsC_self]; omega
end Go.Proofs.YtncmjcjnldhhhaaGreatDoor
