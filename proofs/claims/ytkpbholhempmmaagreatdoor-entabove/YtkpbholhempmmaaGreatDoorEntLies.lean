/- A store of one entity, as it is laid by a literal. -/
import Derived.Test.YtkpbholhempmmaaGreatDoorUMap
namespace Go.Proofs.YtkpbholhempmmaaGreatDoor
open Go.RowKit Go.Maps Go.WideMaps
set_option linter.unusedVariables false
set_option linter.unusedSimpArgs false

theorem cell_old {w : World} {o : Obj} {b off : Nat} (h : b < w.heap.size) : (w.alloc o).cell? ⟨b, off, none⟩ = w.cell? ⟨b, off, none⟩ := ((Below.refl _ w).alloc (Nat.le_refl _) o).cell (p := ⟨b, off, none⟩) h
theorem cell_new {w : World} {cs : Array Value} {t : TypeId} {n off : Nat} (h : n = w.heap.size) : (w.alloc (.cells cs t)).cell? ⟨n, off, none⟩ = cs[off]? := by
  subst h
  unfold World.cell?
  rw [(MapKept.heap_alloc w _).1]
  rfl
theorem ents_lies (v : World) (n : Nat) (hn : v.heap.size = n) (a b : Ui) (ha : UOk a) (hb : UOk b) : EL (((v.alloc (.cells #[.string b.t, .string b.i] 24)).alloc (.cells #[.int .i64 6, .int .i64 0, .string ⟨#[]⟩, .string ⟨#[]⟩] 67)).alloc
      (.cells #[.string a.t, .string a.i, .slice (some ⟨n, 0, none⟩) 1 1, .slice (some ⟨n + 1, 0, none⟩) 1 1] 33)) (some ⟨n + 1 + 1, 0, none⟩) [⟨a, [b], [⟨6, 0, ⟨#[]⟩, ⟨#[]⟩⟩]⟩] := by
  subst hn
  refine .inr ⟨_, _, rfl, by simp, fun i e he => ?_⟩
  cases i with
  | succ i => simp at he
  | zero =>
    simp only [List.getElem?_cons_zero, Option.some.injEq] at he
    subst he
    refine ⟨some ⟨v.heap.size, 0, none⟩, 1, some ⟨v.heap.size + 1, 0, none⟩, 1, ⟨_, _, _, _, rfl, ?_, ?_, ha, ?_, Nat.le_refl _, by unfold maxLen; decide, Nat.le_refl _, by unfold maxLen; decide⟩, ?_, ?_, ?_, ?_⟩
    · refine .inr ⟨_, _, rfl, by simp; omega, fun i e he => ?_⟩
      cases i with
      | succ i => simp at he
      | zero =>
        simp only [List.getElem?_cons_zero, Option.some.injEq] at he
        subst he
        exact ⟨by rw [cell_old (by simp; omega), cell_old (by simp), cell_new rfl]; rfl, by rw [cell_old (by simp; omega), cell_old (by simp), cell_new rfl]; rfl⟩
    · refine .inr ⟨_, _, rfl, by simp, fun i e he => ?_⟩
      cases i with
      | succ i => simp at he
      | zero =>
        simp only [List.getElem?_cons_zero, Option.some.injEq] at he
        subst he
        refine ⟨?_, ?_, ?_, ?_, by simp [Nd.wf, maxLen]; exact Nat.zero_le _⟩ <;> (rw [cell_old (by simp), cell_new (by simp)]; rfl)
    · intro x hx
      rw [List.mem_singleton.1 hx]
      exact hb
    · rw [cell_new (by simp)]; rfl
    · rw [cell_new (by simp)]; rfl
    · rw [cell_new (by simp)]; rfl
    · rw [cell_new (by simp)]; rfl
end Go.Proofs.YtkpbholhempmmaaGreatDoor
