/- The set as nodes, and nodes in a row of the call's own. -/
import Derived.Test.YtncmjcjnldhhhaaGreatDoorSetL
import Derived.Test.YtncmjcjnldhhhaaGreatDoorItems
namespace Go.Proofs.YtncmjcjnldhhhaaGreatDoor
open Go.RowKit
set_option linter.unusedVariables false

theorem Strict.sub {l : List (List Nd)} : ∀ {m : List (List Nd)}, Strict l → Strict m → (∀ x ∈ l, x ∈ m) → l.Sublist m := by
  induction l with
  | nil => intro m _ _ _; exact List.nil_sublist _
  | cons a l ih =>
    intro m h1 h2 h
    induction m with
    | nil => have := h a (by simp); cases this
    | cons b m ihm =>
      have h1' := List.pairwise_cons.1 h1
      have h2' := List.pairwise_cons.1 h2
      by_cases e : a = b
      · subst e
        refine List.Sublist.cons_cons _ (ih h1'.2 h2'.2 (fun x hx => ?_))
        rcases List.mem_cons.1 (h x (by simp [hx])) with e | hm
        · subst e
          have := h1'.1 _ hx
          rw [lsC_self] at this; omega
        · exact hm
      · refine List.Sublist.cons _ (ihm h2'.2 (fun x hx => ?_))
        rcases List.mem_cons.1 (h x hx) with e2 | hm
        · subst e2
          rcases List.mem_cons.1 hx with e3 | hx
          · exact absurd e3.symm e
          · have k1 := h1'.1 _ hx
            have ha := h a (by simp)
            rcases List.mem_cons.1 ha with e4 | ha
            · exact absurd e4 e
            · have k2 := h2'.1 a ha
              have := lsC_is.lt_le k1 (by omega : lsC x a ≤ 0)
              rw [lsC_self] at this; omega
        · exact hm
theorem flat_le {l m : List (List Nd)} (h : l.Sublist m) : l.flatten.length ≤ m.flatten.length := by
  induction h with
  | slnil => simp
  | cons a _ ih => simp only [List.flatten_cons, List.length_append]; omega
  | cons_cons a _ ih => simp only [List.flatten_cons, List.length_append]; omega

/-- The set as nodes. -/
def setN (l : List (List Nd)) : List Nd := ⟨5, l.length, ⟨#[]⟩, ⟨#[]⟩⟩ :: l.flatten
/-- Nodes in a row of the call's own. -/
def ON (w : World) (base : Nat) (v : Value) (L : List Nd) : Prop := w.ownsRow base 41 4 v L.length (ncells L) ∧ ∀ x ∈ L, x.wf

theorem own_set {w : World} {base : Nat} {e : TypeId} {size n cap g : Nat} {xs : List Value} (h : w.ownsRow base e size (.slice (some ⟨g, 0, none⟩) n cap) n xs) (j : Nat) (u : Value) : (w.setCell ⟨g, j, none⟩ u).ownsRow base e size (.slice (some ⟨g, 0, none⟩) n cap) n (xs.set j u) := by
  refine ⟨by rw [List.length_set]; exact h.1, ?_⟩
  rcases h.2 with ⟨hv, _⟩ | ⟨g', cap', cur, hv, hb, hgg, hle, hm, hsz, htk⟩
  · cases hv
  · cases hv
    refine .inr ⟨g, cap, cur.setIfInBounds j u, rfl, hb, ?_, hle, hm, by simpa using hsz, ?_⟩
    · simp only [World.setCell, Array.getElem?_modify, hgg, if_true, Option.map_some]
      rfl
    · rw [← htk]
      simp [List.take_set]
theorem ON.count {w : World} {base cap g : Nat} {k : Int} {L : List Nd} (hk : k ≤ 9223372036854775807) (h : ON w base (.slice (some ⟨g, 0, none⟩) (L.length + 1) cap) (⟨5, k - 1, ⟨#[]⟩, ⟨#[]⟩⟩ :: L)) : ON (w.setCell ⟨g, 1, none⟩ (.int .i64 k)) base (.slice (some ⟨g, 0, none⟩) (L.length + 1) cap) (⟨5, k, ⟨#[]⟩, ⟨#[]⟩⟩ :: L) := by
  refine ⟨?_, fun x hx => ?_⟩
  · have := own_set h.1 1 (.int .i64 k)
    have e : (ncells (⟨5, k - 1, ⟨#[]⟩, ⟨#[]⟩⟩ :: L)).set 1 (.int .i64 k) = ncells (⟨5, k, ⟨#[]⟩, ⟨#[]⟩⟩ :: L) := by simp [ncells]
    rw [e] at this
    exact this
  · rcases List.mem_cons.1 hx with rfl | hx
    · exact ⟨Nat.zero_le _, Nat.zero_le _, hk⟩
    · exact h.2 x (by simp [hx])
theorem ON.slice {w : World} {base : Nat} {v : Value} {L : List Nd} (h : ON w base v L) (hne : L ≠ []) : ∃ g cap, v = .slice (some ⟨g, 0, none⟩) L.length cap ∧ base ≤ g ∧ g < w.heap.size ∧ L.length ≤ cap ∧ cap ≤ maxLen ∧ NL w (some ⟨g, 0, none⟩) L ∧ ∀ j, w.frozen? ⟨g, j, none⟩ = false := by
  rcases h.1.2 with ⟨_, hn⟩ | ⟨g, cap, cur, hv, hb, hgg, hle, hm, _⟩
  · exact absurd (List.eq_nil_of_length_eq_zero hn) hne
  · obtain ⟨q, c, e, hnt, _⟩ := NL.of_row h.2 h.1
    rw [hv] at e
    cases e
    refine ⟨g, cap, hv, hb, (Array.getElem?_eq_some_iff.1 hgg).1, hle, hm, hnt.1, fun j => ?_⟩
    simp [World.frozen?, hgg]

theorem setN_snoc (done : List (List Nd)) (P : List Nd) : setN (done ++ [P]) = (⟨5, (done.length : Int) + 1, ⟨#[]⟩, ⟨#[]⟩⟩ :: done.flatten) ++ P := by
  simp [setN]
theorem ncells_append (a b : List Nd) : ncells (a ++ b) = ncells a ++ ncells b := by simp [ncells]
end Go.Proofs.YtncmjcjnldhhhaaGreatDoor
