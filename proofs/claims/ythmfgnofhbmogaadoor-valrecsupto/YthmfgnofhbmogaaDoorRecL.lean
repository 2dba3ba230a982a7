/- Records as plain lists: names with their values, in the names' order; the first fault of names and values. No program is named here. -/
import Derived.Test.YthmfgnofhbmogaaDoorShape
namespace Go.Proofs.YthmfgnofhbmogaaDoor
set_option linter.unusedVariables false

abbrev Fd := ByteArray × List Nd
/-- Each name ahead of all behind it. -/
def RStrict (l : List Fd) : Prop := l.Pairwise fun a b => cmpB a.1 b.1 < 0

theorem cmpB_self (a : ByteArray) : cmpB a a = 0 := cmpB_is.self a

theorem RStrict.ext : ∀ {l m : List Fd}, RStrict l → RStrict m → (∀ x, x ∈ l ↔ x ∈ m) → l = m
  | [], [], _, _, _ => rfl
  | [], b :: m, _, _, h => by have := (h b).2 (by simp); cases this
  | a :: l, [], _, _, h => by have := (h a).1 (by simp); cases this
  | a :: l, b :: m, h1, h2, h => by
    have h1' := List.pairwise_cons.1 h1
    have h2' := List.pairwise_cons.1 h2
    have hab : a = b := by
      have ha := (h a).1 (by simp)
      have hb := (h b).2 (by simp)
      rcases List.mem_cons.1 ha with e | ha
      · exact e
      · rcases List.mem_cons.1 hb with e | hb
        · exact e.symm
        · have k1 := h2'.1 a ha
          have k2 := h1'.1 b hb
          have := cmpB_is.lt_le k1 (by omega : cmpB a.1 b.1 ≤ 0)
          rw [cmpB_self] at this; omega
    subst hab
    congr 1
    refine RStrict.ext h1'.2 h2'.2 (fun x => ?_)
    have hx := h x
    constructor
    · intro hl
      rcases List.mem_cons.1 (hx.1 (by simp [hl])) with e | hm
      · subst e
        have := h1'.1 _ hl
        rw [cmpB_self] at this; omega
      · exact hm
    · intro hm
      rcases List.mem_cons.1 (hx.2 (by simp [hm])) with e | hl
      · subst e
        have := h2'.1 _ hm
        rw [cmpB_self] at this; omega
      · exact hl

def insR (p : Fd) : List Fd → List Fd
  | [] => [p]
  | q :: l => if cmpB p.1 q.1 < 0 then p :: q :: l else q :: insR p l
/-- Names with their values, in the names' order. -/
def recS (ps : List Fd) : List Fd := ps.foldr insR []

theorem perm_insR (p : Fd) : ∀ (l : List Fd), (insR p l).Perm (p :: l)
  | [] => List.Perm.refl _
  | q :: l => by
    unfold insR
    split
    · exact List.Perm.refl _
    · exact ((perm_insR p l).cons q).trans (List.Perm.swap p q l)
theorem strict_insR (p : Fd) : ∀ (l : List Fd), RStrict l → (∀ q ∈ l, q.1 ≠ p.1) → RStrict (insR p l)
  | [], _, _ => by simp [insR, RStrict]
  | q :: l, h, hd => by
    have h' := List.pairwise_cons.1 h
    unfold insR
    split
    · rename_i hp
      refine List.pairwise_cons.2 ⟨fun x hx => ?_, h⟩
      rcases List.mem_cons.1 hx with rfl | hx
      · exact hp
      · exact cmpB_is.lt_le hp (by have := h'.1 x hx; omega)
    · rename_i hp
      refine List.pairwise_cons.2 ⟨fun x hx => ?_, strict_insR p l h'.2 (fun y hy => hd y (by simp [hy]))⟩
      rcases List.mem_cons.1 ((perm_insR p l).mem_iff.1 hx) with rfl | hx
      · have h1 := cmpB_is.neg q.1 x.1
        have h2 := cmpB_is.range q.1 x.1
        have h3 : cmpB q.1 x.1 ≠ 0 := fun e => hd q (by simp) ((cmpB_is.zero _ _).1 e)
        omega
      · exact h'.1 x hx
theorem perm_recS (ps : List Fd) : (recS ps).Perm ps := by
  induction ps with
  | nil => exact List.Perm.refl _
  | cons p ps ih => exact (perm_insR p _).trans (ih.cons p)
theorem strict_recS : ∀ (ps : List Fd), (ps.map Prod.fst).Nodup → RStrict (recS ps)
  | [], _ => List.Pairwise.nil
  | p :: ps, h => by
    simp only [List.map_cons, List.nodup_cons] at h
    refine strict_insR p _ (strict_recS ps h.2) (fun q hq e => h.1 ?_)
    rw [← e]
    exact List.mem_map_of_mem ((perm_recS ps).mem_iff.1 hq)
theorem recS_is {ps l : List Fd} (hn : (ps.map Prod.fst).Nodup) (h : RStrict l) (hm : ∀ x, x ∈ l ↔ x ∈ ps) : l = recS ps :=
  RStrict.ext h (strict_recS ps hn) (fun x => (hm x).trans (perm_recS ps).mem_iff.symm)

/-- A name with its value, as nodes; the record as nodes. -/
def itemOf (p : Fd) : List Nd := ⟨7, 0, p.1, ⟨#[]⟩⟩ :: p.2
def recN (l : List Fd) : List Nd := ⟨6, l.length, ⟨#[]⟩, ⟨#[]⟩⟩ :: (l.map itemOf).flatten
/-- How many nodes some names and values make. -/
def fsize : List Fd → Nat
  | [] => 0
  | p :: l => (1 + p.2.length) + fsize l
theorem fsize_flat (l : List Fd) : (l.map itemOf).flatten.length = fsize l := by
  induction l with
  | nil => rfl
  | cons p l ih => simp only [List.map_cons, List.flatten_cons, List.length_append, ih, fsize, itemOf, List.length_cons]; omega
theorem fsize_perm {l m : List Fd} (h : l.Perm m) : fsize l = fsize m := by
  induction h with
  | nil => rfl
  | cons p _ ih => simp only [fsize, ih]
  | swap p q l => simp only [fsize]; omega
  | trans _ _ h1 h2 => exact h1.trans h2
theorem fsize_append (l m : List Fd) : fsize (l ++ m) = fsize l + fsize m := by
  induction l with
  | nil => simp [fsize]
  | cons p l ih => simp only [List.cons_append, fsize, ih]; omega
theorem recN_length (l : List Fd) : (recN l).length = fsize l + 1 := by simp only [recN, List.length_cons, fsize_flat]
theorem recN_perm {l m : List Fd} (h : l.Perm m) : (recN l).length = (recN m).length := by rw [recN_length, recN_length, fsize_perm h]

/-- Is the name among these? -/
def seenB (l : List ByteArray) (x : ByteArray) : Bool := l.any fun y => y.data.toList == x.data.toList
theorem seenB_iff (l : List ByteArray) (x : ByteArray) : seenB l x = true ↔ x ∈ l := by
  unfold seenB
  rw [List.any_eq_true]
  constructor
  · rintro ⟨y, hy, e⟩
    rw [← bytes_inj (eq_of_beq e)]
    exact hy
  · intro h
    exact ⟨x, h, by simp⟩

/-- The first fault of names and values, behind names that were seen: of a name, one that came before, of a value. -/
def rfault : List ByteArray → List Fd → Int
  | _, [] => 0
  | seen, p :: l => if nfault p.1.data.toList ≠ 0 then nfault p.1.data.toList else if seenB seen p.1 then 6 else if vfault p.2 ≠ 0 then vfault p.2 else rfault (seen ++ [p.1]) l

theorem rfault_zero : ∀ (seen : List ByteArray) (l : List Fd), rfault seen l = 0 ↔ (∀ p ∈ l, nfault p.1.data.toList = 0 ∧ vfault p.2 = 0) ∧ (∀ p ∈ l, p.1 ∉ seen) ∧ (l.map Prod.fst).Nodup
  | seen, [] => by simp [rfault]
  | seen, p :: l => by
    unfold rfault
    by_cases h1 : nfault p.1.data.toList ≠ 0
    · rw [if_pos h1]
      exact ⟨fun h => absurd h h1, fun h => absurd (h.1 p (by simp)).1 h1⟩
    · rw [if_neg h1]
      have h1' : nfault p.1.data.toList = 0 := Decidable.of_not_not h1
      by_cases h2 : seenB seen p.1 = true
      · rw [if_pos h2]
        exact ⟨fun h => absurd h (by decide), fun h => absurd ((seenB_iff _ _).1 h2) (h.2.1 p (by simp))⟩
      · rw [if_neg h2]
        have h2' : p.1 ∉ seen := fun hm => h2 ((seenB_iff _ _).2 hm)
        by_cases h3 : vfault p.2 ≠ 0
        · rw [if_pos h3]
          exact ⟨fun h => absurd h h3, fun h => absurd (h.1 p (by simp)).2 h3⟩
        · rw [if_neg h3]
          have h3' : vfault p.2 = 0 := Decidable.of_not_not h3
          rw [rfault_zero (seen ++ [p.1]) l]
          constructor
          · rintro ⟨k1, k2, k3⟩
            refine ⟨fun q hq => ?_, fun q hq => ?_, ?_⟩
            · rcases List.mem_cons.1 hq with rfl | hq
              · exact ⟨h1', h3'⟩
              · exact k1 q hq
            · rcases List.mem_cons.1 hq with rfl | hq
              · exact h2'
              · exact fun hm => k2 q hq (by simp [hm])
            · rw [List.map_cons, List.nodup_cons]
              refine ⟨fun hm => ?_, k3⟩
              obtain ⟨q, hq, e⟩ := List.mem_map.1 hm
              exact k2 q hq (by simp [e])
          · rintro ⟨k1, k2, k3⟩
            rw [List.map_cons, List.nodup_cons] at k3
            refine ⟨fun q hq => k1 q (by simp [hq]), fun q hq hm => ?_, k3.2⟩
            rcases List.mem_append.1 hm with hm | hm
            · exact k2 q (by simp [hq]) hm
            · simp at hm
              exact k3.1 (by rw [← hm]; exact List.mem_map_of_mem hq)
end Go.Proofs.YthmfgnofhbmogaaDoor
