/- Level by level: those above a uid, as the document finds them. -/
import Derived.Test.YtkpbholhempmmaaGreatDoorEntUps
import Derived.Test.YtkpbholhempmmaaGreatDoorEntCyc
namespace Go.Proofs.YtkpbholhempmmaaGreatDoor
set_option linter.unusedVariables false

def addU (M : List Ui) (y : Ui) : List Ui := if y ∈ M then M else M ++ [y]
theorem addU_in {M : List Ui} {y : Ui} (h : y ∈ M) : addU M y = M := if_pos h
theorem addU_new {M : List Ui} {y : Ui} (h : y ∉ M) : addU M y = M ++ [y] := if_neg h
theorem addU_mem (M : List Ui) (y : Ui) : y ∈ addU M y := by
  unfold addU
  by_cases h : y ∈ M
  · rw [if_pos h]; exact h
  · rw [if_neg h]; simp
theorem addU_sub {M : List Ui} {y v : Ui} (h : v ∈ M) : v ∈ addU M y := by
  unfold addU
  by_cases k : y ∈ M
  · rw [if_pos k]; exact h
  · rw [if_neg k]; simp [h]
theorem addU_at {M : List Ui} {u y x : Ui} {j : Nat} (h : (u :: M)[j]? = some x) : (u :: addU M y)[j]? = some x := by
  unfold addU
  by_cases k : y ∈ M
  · rw [if_pos k]; exact h
  · rw [if_neg k, ← List.cons_append, List.getElem?_append_left (List.getElem?_eq_some_iff.1 h).1]; exact h

/-- On the way: of the first i all those right above have come. -/
structure UpsI (es : List En) (u : Ui) (s i : Nat) (M : List Ui) : Prop where
  nodup : M.Nodup
  abv : ∀ v ∈ M, Abv es u v
  steps : ∀ v, AbvN es s u v → v ∈ M
  done : ∀ (j : Nat) (x : Ui), j < i → (u :: M)[j]? = some x → ∀ y ∈ upsOf es x, y ∈ M
  cnt : M.length + toCome (allUps es) M ≤ (allUps es).length
theorem UpsI.start (es : List En) (u : Ui) : UpsI es u 0 0 [] :=
  ⟨List.nodup_nil, fun v h => by (cases h), fun v h => h.elim, fun j x h => absurd h (Nat.not_lt_zero _), by simpa using toCome_len _ _⟩
theorem UpsI.add {es : List En} {u : Ui} {s i : Nat} {M : List Ui} (h : UpsI es u s i M) {x y : Ui} (hi : (u :: M)[i]? = some x) (hy : y ∈ upsOf es x) : UpsI es u s i (addU M y) := by
  by_cases k : y ∈ M
  · rw [addU_in k]; exact h
  · have hil := (List.getElem?_eq_some_iff.1 hi).1
    have hab : Abv es u y := by
      rcases List.mem_cons.1 (List.mem_of_getElem? hi) with rfl | hx
      · exact .one hy
      · exact (h.abv x hx).trans (.one hy)
    rw [addU_new k]
    refine ⟨?_, fun v hv => ?_, fun v hv => by simp [h.steps v hv], fun j z hj hz w hw => ?_, ?_⟩
    · rw [List.nodup_append]
      exact ⟨h.nodup, by simp, fun a ha b hb e => by rw [List.mem_singleton.1 hb] at e; rw [e] at ha; exact k ha⟩
    · rcases List.mem_append.1 hv with hv | hv
      · exact h.abv v hv
      · rw [List.mem_singleton.1 hv]; exact hab
    · have hz' : (u :: M)[j]? = some z := by
        rw [← List.cons_append, List.getElem?_append_left (by omega)] at hz; exact hz
      exact List.mem_append_left _ (h.done j z hj hz' w hw)
    · have := toCome_lt (allUps_mem hy) k
      have := h.cnt
      rw [List.length_append, List.length_singleton]
      omega
theorem UpsI.next {es : List En} {u : Ui} {s i : Nat} {M : List Ui} (h : UpsI es u s i M) {x : Ui} (hi : (u :: M)[i]? = some x) (hd : ∀ y ∈ upsOf es x, y ∈ M) : UpsI es u s (i + 1) M := by
  refine ⟨h.nodup, h.abv, h.steps, fun j z hj hz y hy => ?_, h.cnt⟩
  rcases Nat.lt_or_ge j i with hlt | hge
  · exact h.done j z hlt hz y hy
  · obtain rfl : j = i := by omega
    rw [hi] at hz
    cases hz
    exact hd y hy
theorem UpsI.level {es : List En} {u : Ui} {s : Nat} {M0 M : List Ui} (h : UpsI es u s (M0.length + 1) M) (hp : ∀ (j : Nat) (x : Ui), (u :: M0)[j]? = some x → (u :: M)[j]? = some x) (h0 : ∀ v, AbvN es s u v → v ∈ M0) : UpsI es u (s + 1) (M0.length + 1) M := by
  refine ⟨h.nodup, h.abv, fun v hv => ?_, h.done, h.cnt⟩
  obtain ⟨x, hx, hv⟩ := hv
  have hm : x ∈ u :: M0 := by
    rcases hx with rfl | hx
    · simp
    · simp [h0 x hx]
  obtain ⟨j, hj⟩ := List.getElem?_of_mem hm
  have hl := (List.getElem?_eq_some_iff.1 hj).1
  exact h.done j x (by simpa using hl) (hp j x hj) v hv
theorem UpsI.all {es : List En} {u : Ui} {i : Nat} {M : List Ui} (h : UpsI es u es.length i M) (v : Ui) : v ∈ M ↔ Abv es u v :=
  ⟨h.abv v, fun hv => h.steps v ((abv_iff es u v).1 hv)⟩
theorem UpsI.small {es : List En} {u : Ui} {s i : Nat} {M : List Ui} (h : UpsI es u s i M) (hf : Few es) : M.length ≤ 96 := by
  have h1 := h.cnt
  have h2 := allUps_len es hf.ups
  have h3 := hf.few
  omega
theorem uid_cases (x y : Ui) : x = y ∨ (x ≠ y ∧ ¬ x.t.toList = y.t.toList) ∨ (x ≠ y ∧ ∃ i, x = ⟨y.t, i⟩ ∧ ¬ i.toList = y.i.toList) := by
  by_cases h : x = y
  · exact .inl h
  · by_cases ht : x.t = y.t
    · refine .inr (.inr ⟨h, x.i, Ui.ext' ht rfl, fun e => h (Ui.ext' ht (bytes_inj (by simpa only [ByteArray.toList_eq] using e)))⟩)
    · exact .inr (.inl ⟨h, fun e => ht (bytes_inj (by simpa only [ByteArray.toList_eq] using e))⟩)
end Go.Proofs.YtkpbholhempmmaaGreatDoor
