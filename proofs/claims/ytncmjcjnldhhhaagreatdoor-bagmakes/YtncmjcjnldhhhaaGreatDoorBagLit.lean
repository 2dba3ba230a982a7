/- Sets that the statements write down: the empty one, and that of one number; small facts of rows. -/
import Derived.Test.YtncmjcjnldhhhaaGreatDoorBagL
import Derived.Test.YtncmjcjnldhhhaaGreatDoorSame
namespace Go.Proofs.YtncmjcjnldhhhaaGreatDoor
open Go.RowKit
set_option linter.unusedVariables false

def num5 : List Nd := [⟨2, 5, ⟨#[]⟩, ⟨#[]⟩⟩]
theorem num5_ok : vfault num5 = 0 := by decide
theorem isSet_nil : IsSet [] := ⟨List.Pairwise.nil, by simp, by decide⟩
theorem isSet_num5 : IsSet [num5] := ⟨List.pairwise_singleton _ _, fun v hv => by simp at hv; subst hv; exact num5_ok, by decide⟩
theorem lit_nil (w : World) : NL (w.alloc (.cells #[.int .i64 5, .int .i64 0, .string ⟨#[]⟩, .string ⟨#[]⟩] 41)) (some ⟨w.heap.size, 0, none⟩) (setN []) := by
  refine .inr ⟨_, _, rfl, by simp, fun i x hx => ?_⟩
  rcases i with _ | i
  · simp [setN] at hx; subst hx; simp [go_sem, Nd.wf, maxLen]
  · simp [setN] at hx
theorem lit_num5 (w : World) : NL (w.alloc (.cells #[.int .i64 5, .int .i64 1, .string ⟨#[]⟩, .string ⟨#[]⟩, .int .i64 2, .int .i64 5, .string ⟨#[]⟩, .string ⟨#[]⟩] 41)) (some ⟨w.heap.size, 0, none⟩) (setN [num5]) := by
  refine .inr ⟨_, _, rfl, by simp, fun i x hx => ?_⟩
  rcases i with _ | _ | i
  · simp [setN] at hx; subst hx; simp [go_sem, Nd.wf, maxLen]
  · simp [setN, num5] at hx; subst hx; simp [go_sem, Nd.wf, maxLen]
  · simp [setN, num5] at hx
theorem alloc_bel (w : World) (o : Obj) : Below w.heap.size w (w.alloc o) := (Below.refl _ _).alloc (Nat.le_refl _) _
theorem bel2 {a b c : World} (h : Below a.heap.size a b) (k : Below b.heap.size b c) : Below a.heap.size a c := h.trans (k.mono h.size)
theorem bel_n {a b : World} (h : Below a.heap.size a b) (n : Nat) : Below a.heap.size a (b.drewN n) := ⟨h.os, h.tape, h.output, h.size, h.block⟩

theorem allB_self (l : List (List Nd)) : allB l l = true := (allB_iff l l).2 fun v hv => hv
theorem allB_nil (l : List (List Nd)) : allB l [] = true := rfl
theorem bool_iff {a b : Bool} (h : a = true ↔ b = true) : a = b := by cases a <;> cases b <;> simp_all
theorem same_rows {l m : List (List Nd)} (h : IsSet l) (k : IsSet m) : sameNd (setN l) (setN m) = true ↔ l = m := by
  rw [sameNd_iff]
  exact ⟨setN_inj h k, fun e => by rw [e]⟩
theorem meet_all {l m : List (List Nd)} (h : IsSet l) (k : IsSet m) : sameNd (setN (meetL l m)) (setN m) = allB l m := by
  apply bool_iff
  rw [same_rows (isSet_meet h m) k, allB_iff]
  constructor
  · intro e v hv
    rw [← e] at hv
    exact ((mem_meet l m v).1 hv).1
  · intro ha
    exact (isSet_meet h m).ext k fun v => (mem_meet l m v).trans ⟨fun hv => hv.2, fun hv => ⟨ha v hv, hv⟩⟩
theorem both_all {l m : List (List Nd)} (h : IsSet l) (k : IsSet m) : sameNd (setN l) (setN m) = (allB l m && allB m l) := by
  apply bool_iff
  rw [same_rows h k, Bool.and_eq_true, allB_iff, allB_iff]
  constructor
  · rintro rfl; exact ⟨fun v hv => hv, fun v hv => hv⟩
  · rintro ⟨h1, h2⟩; exact h.ext k fun v => ⟨h2 v, h1 v⟩
theorem meet_some {l m : List (List Nd)} (h : IsSet l) : (1 < (setN (meetL l m)).length) ↔ anyB l m = true := by
  rw [anyB_iff]
  show 1 < (meetL l m).flatten.length + 1 ↔ _
  constructor
  · intro h1
    cases e : meetL l m with
    | nil => rw [e] at h1; simp at h1
    | cons v r =>
      have : v ∈ meetL l m := by rw [e]; simp
      have := (mem_meet l m v).1 this
      exact ⟨v, this.2, this.1⟩
  · rintro ⟨v, h1, h2⟩
    have hm := (mem_meet l m v).2 ⟨h2, h1⟩
    have h3 := mem_flat hm
    obtain ⟨x, r, e, _⟩ := value_head (h.vals v h2)
    rw [e] at h3
    simp only [List.length_cons] at h3
    omega
theorem sfault_swap {s t : List Nd} : sfault s t = 0 ↔ sfault t s = 0 := by
  have h : ∀ s t, sfault s t = 0 → sfault t s = 0 := fun s t h => by
    obtain ⟨l, m, hl, hm, rfl, rfl⟩ := sfault_zero h
    exact sfault_sets hm hl
  exact ⟨h s t, h t s⟩
theorem rows_same {a b : List (List Nd)} (h : ∀ x, x ∈ a ↔ x ∈ b) : setL a = setL b :=
  setL_is (strict_setL a) (fun x => (mem_setL a x).trans (h x))
theorem both_swap (l m : List (List Nd)) : bothL l m = bothL m l := rows_same fun x => by simp only [List.mem_append]; exact Or.comm
theorem meet_swap {l m : List (List Nd)} (h : IsSet l) (k : IsSet m) : meetL l m = meetL m l :=
  (isSet_meet h m).ext (isSet_meet k l) fun v => by rw [mem_meet, mem_meet]; exact And.comm
theorem both_back {l : List (List Nd)} (h : IsSet l) (m : List (List Nd)) : bothL (meetL l m) (lessL l m) = l := by
  refine Eq.trans (rows_same fun x => ?_) h.row
  rw [List.mem_append, mem_meet, mem_less]
  by_cases hx : x ∈ m <;> simp [hx]
theorem meet_none (l m : List (List Nd)) : meetL (meetL l m) (lessL l m) = [] := by
  cases e : meetL (meetL l m) (lessL l m) with
  | nil => rfl
  | cons v r =>
    have h1 : v ∈ meetL (meetL l m) (lessL l m) := by rw [e]; simp
    have h2 := (mem_meet _ _ v).1 h1
    exact absurd ((mem_meet _ _ v).1 h2.1).2 ((mem_less _ _ v).1 h2.2).2
theorem less_less {l : List (List Nd)} (h : IsSet l) (m n : List (List Nd)) : lessL l (bothL m n) = lessL (lessL l m) n :=
  (isSet_less h _).ext (isSet_less (isSet_less h m) n) fun v => by
    rw [mem_less, mem_less, mem_less, mem_both]
    exact ⟨fun ⟨h1, h2⟩ => ⟨⟨h1, fun h => h2 (.inl h)⟩, fun h => h2 (.inr h)⟩, fun ⟨⟨h1, h2⟩, h3⟩ => ⟨h1, fun h => h.elim h2 h3⟩⟩
theorem both_one : bothL [] [num5] = [num5] := by show setL ([] ++ [num5]) = _; exact isSet_num5.row
theorem allB_both (l m n : List (List Nd)) : allB l (bothL m n) = (allB l m && allB l n) := by
  apply bool_iff
  rw [Bool.and_eq_true, allB_iff, allB_iff, allB_iff]
  constructor
  · intro h; exact ⟨fun v hv => h v ((mem_both m n v).2 (.inl hv)), fun v hv => h v ((mem_both m n v).2 (.inr hv))⟩
  · rintro ⟨h1, h2⟩ v hv; exact ((mem_both m n v).1 hv).elim (h1 v) (h2 v)
theorem allB_trans {l m n : List (List Nd)} (h : allB l m = true) (k : allB m n = true) : allB l n = true :=
  (allB_iff l n).2 fun v hv => (allB_iff l m).1 h v ((allB_iff m n).1 k v hv)
theorem same_self (S : List Nd) : sameNd S S = true := (sameNd_iff S S).2 rfl
end Go.Proofs.YtncmjcjnldhhhaaGreatDoor
