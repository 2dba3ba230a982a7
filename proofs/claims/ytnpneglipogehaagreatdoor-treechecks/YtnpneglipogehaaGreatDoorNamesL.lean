/- The least name behind another one, and the names told one by one. No program is named here. -/
import Derived.Test.YtnpneglipogehaaGreatDoorTreeN
namespace Go.Proofs.YtnpneglipogehaaGreatDoor
set_option linter.unusedVariables false

/-- nx is the least of l that is behind last; it is empty where there is none. -/
def NX (last : ByteArray) (l : List ByteArray) (nx : ByteArray) : Prop :=
  (nx = ⟨#[]⟩ ∧ ∀ z ∈ l, ¬ 0 < cmpB z last) ∨ (nx ∈ l ∧ 0 < cmpB nx last ∧ ∀ z ∈ l, 0 < cmpB z last → cmpB nx z ≤ 0)
theorem NX.nil (last : ByteArray) : NX last [] ⟨#[]⟩ := .inl ⟨rfl, fun z hz => by cases hz⟩
theorem NX.skip {last nx y : ByteArray} {l : List ByteArray} (h : NX last l nx) (hy : ¬ 0 < cmpB y last) : NX last (l ++ [y]) nx := by
  rcases h with ⟨h1, h2⟩ | ⟨h1, h2, h3⟩
  · refine .inl ⟨h1, fun z hz => ?_⟩
    rcases List.mem_append.1 hz with hz | hz
    · exact h2 z hz
    · rw [List.mem_singleton.1 hz]; exact hy
  · refine .inr ⟨List.mem_append.2 (.inl h1), h2, fun z hz h0 => ?_⟩
    rcases List.mem_append.1 hz with hz | hz
    · exact h3 z hz h0
    · rw [List.mem_singleton.1 hz] at h0; exact absurd h0 hy
theorem NX.first {last y : ByteArray} {l : List ByteArray} (h : NX last l ⟨#[]⟩) (hne : ∀ z ∈ l, z.data.toList ≠ []) (hy : 0 < cmpB y last) : NX last (l ++ [y]) y := by
  rcases h with ⟨_, h2⟩ | ⟨h1, _⟩
  · refine .inr ⟨List.mem_append.2 (.inr (by simp)), hy, fun z hz h0 => ?_⟩
    rcases List.mem_append.1 hz with hz | hz
    · exact absurd h0 (h2 z hz)
    · rw [List.mem_singleton.1 hz, cmpB_is.self]; exact Int.le_refl _
  · exact absurd rfl (hne _ h1)
theorem NX.less {last nx y : ByteArray} {l : List ByteArray} (h : NX last l nx) (hn : nx.data.toList ≠ []) (hy : 0 < cmpB y last) (hl : cmpB y nx < 0) : NX last (l ++ [y]) y := by
  rcases h with ⟨h1, _⟩ | ⟨h1, h2, h3⟩
  · rw [h1] at hn; exact absurd rfl hn
  · refine .inr ⟨List.mem_append.2 (.inr (by simp)), hy, fun z hz h0 => ?_⟩
    rcases List.mem_append.1 hz with hz | hz
    · exact cmpB_is.trans _ _ _ (by omega) (h3 z hz h0)
    · rw [List.mem_singleton.1 hz, cmpB_is.self]; exact Int.le_refl _
theorem NX.more {last nx y : ByteArray} {l : List ByteArray} (h : NX last l nx) (hn : nx.data.toList ≠ []) (hl : ¬ cmpB y nx < 0) : NX last (l ++ [y]) nx := by
  rcases h with ⟨h1, _⟩ | ⟨h1, h2, h3⟩
  · rw [h1] at hn; exact absurd rfl hn
  · refine .inr ⟨List.mem_append.2 (.inl h1), h2, fun z hz h0 => ?_⟩
    rcases List.mem_append.1 hz with hz | hz
    · exact h3 z hz h0
    · rw [List.mem_singleton.1 hz]
      have := cmpB_is.neg nx y
      omega

/-- How many are behind it. -/
def aft (l : List ByteArray) (last : ByteArray) : Nat := l.countP fun z => decide (0 < cmpB z last)
/-- The names so far: all up to last. -/
structure Sofar (l : List ByteArray) (last : ByteArray) (out : List ByteArray) : Prop where
  rises : Rises out
  mem : ∀ z, z ∈ out ↔ z ∈ l ∧ cmpB z last ≤ 0
  few : out.length + aft l last ≤ l.length
theorem cmpB_empty {z : ByteArray} (h : z.data.toList ≠ []) : 0 < cmpB z ⟨#[]⟩ := by
  have h1 := cmpB_is.neg z ⟨#[]⟩
  have h2 : cmpB ⟨#[]⟩ z < 0 := by
    unfold cmpB
    cases e : z.data.toList with
    | nil => exact absurd e h
    | cons a l => simp [Lib.compareBytes]
  omega
theorem Sofar.start {l : List ByteArray} (hne : ∀ z ∈ l, z.data.toList ≠ []) : Sofar l ⟨#[]⟩ [] where
  rises := List.Pairwise.nil
  mem z := ⟨fun h => absurd h (by simp), fun ⟨h1, h2⟩ => absurd h2 (by have := cmpB_empty (hne z h1); omega)⟩
  few := by unfold aft; have := List.countP_le_length (p := fun z => decide (0 < cmpB z ⟨#[]⟩)) (l := l); simp only [List.length_nil]; omega
theorem aft_lt {l : List ByteArray} {last nx : ByteArray} (h1 : nx ∈ l) (h2 : 0 < cmpB nx last) : aft l nx < aft l last := by
  unfold aft
  have hsub : ∀ z, 0 < cmpB z nx → 0 < cmpB z last := fun z hz => by
    have k1 := cmpB_is.neg z last
    have k2 := cmpB_is.neg z nx
    have k3 := cmpB_is.neg nx last
    have := cmpB_is.lt_le (x := last) (y := nx) (z := z) (by omega) (by omega)
    omega
  induction l with
  | nil => cases h1
  | cons a l ih =>
    rw [List.countP_cons, List.countP_cons]
    have hle : l.countP (fun z => decide (0 < cmpB z nx)) ≤ l.countP (fun z => decide (0 < cmpB z last)) := List.countP_mono_left fun z _ hz => by
      simp only [decide_eq_true_eq] at hz ⊢
      exact hsub z hz
    rcases List.mem_cons.1 h1 with e | h
    · subst e
      have e1 : decide (0 < cmpB nx nx) = false := by rw [cmpB_is.self]; rfl
      rw [e1, decide_eq_true h2]
      simp; omega
    · have := ih h
      by_cases ha : 0 < cmpB a nx
      · rw [decide_eq_true ha, decide_eq_true (hsub a ha)]; simp; omega
      · rw [decide_eq_false ha]
        by_cases hb : 0 < cmpB a last
        · rw [decide_eq_true hb]; simp; omega
        · rw [decide_eq_false hb]; simp; omega
theorem Sofar.next {l out : List ByteArray} {last nx : ByteArray} (h : Sofar l last out) (hn : NX last l nx) (hne : nx.data.toList ≠ []) : Sofar l nx (out ++ [nx]) ∧ aft l nx < aft l last ∧ nx ∈ l := by
  rcases hn with ⟨h1, _⟩ | ⟨h1, h2, h3⟩
  · rw [h1] at hne; exact absurd rfl hne
  · have hlt := aft_lt h1 h2
    have hneg := cmpB_is.neg nx last
    refine ⟨⟨?_, fun z => ?_, ?_⟩, hlt, h1⟩
    · refine List.pairwise_append.2 ⟨h.rises, by simp, fun x hx y hy => ?_⟩
      rw [List.mem_singleton.1 hy]
      exact cmpB_is.le_lt ((h.mem x).1 hx).2 (by omega)
    · rw [List.mem_append, List.mem_singleton, h.mem]
      constructor
      · rintro (⟨k1, k2⟩ | rfl)
        · exact ⟨k1, cmpB_is.trans _ _ _ k2 (by omega)⟩
        · exact ⟨h1, by rw [cmpB_is.self]; exact Int.le_refl _⟩
      · rintro ⟨k1, k2⟩
        by_cases k3 : cmpB z last ≤ 0
        · exact .inl ⟨k1, k3⟩
        · have k4 := h3 z k1 (by omega)
          have k5 := cmpB_is.neg nx z
          exact .inr ((cmpB_is.zero z nx).1 (by omega))
    · rw [List.length_append, List.length_singleton]
      have := h.few
      omega
theorem Sofar.done {e : List Nd} {out : List ByteArray} {last : ByteArray} (h : Sofar (vars e) last out) (hn : NX last (vars e) ⟨#[]⟩) (hne : ∀ z ∈ vars e, z.data.toList ≠ []) : out = nms e := by
  refine nms_unique h.rises fun z => ?_
  rw [h.mem]
  rcases hn with ⟨_, h2⟩ | ⟨h1, _⟩
  · exact ⟨fun k => k.1, fun k => ⟨k, by have := h2 z k; omega⟩⟩
  · exact absurd rfl (hne _ h1)
theorem NX.in {last nx : ByteArray} {l : List ByteArray} (h : NX last l nx) : nx = ⟨#[]⟩ ∨ nx ∈ l := by
  rcases h with ⟨h1, _⟩ | ⟨h1, _⟩
  · exact .inl h1
  · exact .inr h1
end Go.Proofs.YtnpneglipogehaaGreatDoor
