/- A sorted row with equal neighbours made one has each once, in order. -/
import Derived.Test.YtncmjcjnldhhhaaGreatDoorSetL
import Derived.Test.YtncmjcjnldhhhaaGreatDoorCompact
namespace Go.Proofs.YtncmjcjnldhhhaaGreatDoor
set_option linter.unusedVariables false

theorem cm_mem (ys : Nat → List Nd) : ∀ n x, x ∈ cm ys n ↔ ∃ i, i < n ∧ ys i = x
  | 0, x => by simp [cm]
  | n + 1, x => by
    have ih := cm_mem ys n x
    rw [cm]
    split
    · rw [List.mem_append, ih]
      constructor
      · rintro (⟨i, hi, e⟩ | h)
        · exact ⟨i, by omega, e⟩
        · simp at h; exact ⟨n, by omega, h.symm⟩
      · rintro ⟨i, hi, e⟩
        by_cases h : i = n
        · subst h; exact .inr (by simp [e])
        · exact .inl ⟨i, by omega, e⟩
    · rename_i h
      have h0 : n ≠ 0 := fun e => h (.inl e)
      have he : ys n = ys (n - 1) := (lsC_is.zero _ _).1 (by
        by_cases hz : lsC (ys n) (ys (n - 1)) = 0
        · exact hz
        · exact absurd (.inr hz) h)
      rw [ih]
      constructor
      · rintro ⟨i, hi, e⟩; exact ⟨i, by omega, e⟩
      · rintro ⟨i, hi, e⟩
        by_cases h : i = n
        · subst h; exact ⟨i - 1, by omega, by rw [← he]; exact e⟩
        · exact ⟨i, by omega, e⟩

theorem cm_strict (ys : Nat → List Nd) : ∀ n, (∀ i j, i < j → j < n → lsC (ys i) (ys j) ≤ 0) → Strict (cm ys n)
  | 0, _ => List.Pairwise.nil
  | n + 1, h => by
    have ih := cm_strict ys n (fun i j hi hj => h i j hi (by omega))
    rw [cm]
    split
    · rename_i hk
      refine List.pairwise_append.2 ⟨ih, by simp, fun a ha b hb => ?_⟩
      simp at hb
      subst hb
      obtain ⟨i, hi, rfl⟩ := (cm_mem ys n a).1 ha
      have h1 := h i n hi (by omega)
      rcases hk with e | hne
      · omega
      · have h2 := h (n - 1) n (by omega) (by omega)
        have h3 : lsC (ys (n - 1)) (ys n) < 0 := by
          have := lsC_is.neg (ys n) (ys (n - 1))
          omega
        by_cases e : i = n - 1
        · rw [e]; exact h3
        · exact lsC_is.le_lt (h i (n - 1) (by omega) (by omega)) h3
    · exact ih

/-- .. so it is the set of whatever has the same members. -/
theorem cm_set (ys : Nat → List Nd) (n : Nat) (vs : List (List Nd)) (hs : ∀ i j, i < j → j < n → lsC (ys i) (ys j) ≤ 0) (hm : ∀ x, (∃ i, i < n ∧ ys i = x) ↔ x ∈ vs) : cm ys n = setL vs :=
  setL_is (cm_strict ys n hs) (fun x => (cm_mem ys n x).trans (hm x))
end Go.Proofs.YtncmjcjnldhhhaaGreatDoor
