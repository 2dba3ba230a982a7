/- Lists of lists of nodes in memory; the first of them that is no value. -/
import Derived.Test.YtncmjcjnldhhhaaGreatDoorNdOrd
namespace Go.Proofs.YtncmjcjnldhhhaaGreatDoor
open Go.RowKit
set_option linter.unusedVariables false

/-- Lists of nodes lie behind an address, one behind the other. -/
def LL (w : World) (p : Option Addr) (vs : List (List Nd)) : Prop :=
  vs = [] ∨ ∃ b off, p = some ⟨b, off, none⟩ ∧ b < w.heap.size ∧ ∀ i v, vs[i]? = some v → ∃ q c, w.cell? ⟨b, off + i, none⟩ = some (.slice q v.length c) ∧ NL w q v ∧ v.length ≤ c ∧ c ≤ maxLen

theorem LL.up {w w' : World} {p : Option Addr} {vs : List (List Nd)} (h : LL w p vs) (k : Below w.heap.size w w') : LL w' p vs := by
  rcases h with h | ⟨b, off, h1, h2, h3⟩
  · exact .inl h
  · refine .inr ⟨b, off, h1, Nat.lt_of_lt_of_le h2 k.size, fun i v hv => ?_⟩
    obtain ⟨q, c, h4, h5, h6⟩ := h3 i v hv
    exact ⟨q, c, (k.cell (p := ⟨b, off + i, none⟩) h2).trans h4, h5.up k, h6⟩

theorem LL.at {w : World} {p : Option Addr} {vs : List (List Nd)} (h : LL w p vs) {i : Nat} (hi : i < vs.length) : ∃ b off q c, p = some ⟨b, off, none⟩ ∧ b < w.heap.size ∧
    w.cell? ⟨b, off + i, none⟩ = some (.slice q vs[i].length c) ∧ NL w q vs[i] ∧ vs[i].length ≤ c ∧ c ≤ maxLen := by
  rcases h with rfl | ⟨b, off, h1, h2, h3⟩
  · simp at hi
  · obtain ⟨q, c, h4, h5⟩ := h3 i _ (List.getElem?_eq_getElem hi)
    exact ⟨b, off, q, c, h1, h2, h4, h5⟩

def ffault : List (List Nd) → Int
  | [] => 0
  | v :: vs => if vfault v = 0 then ffault vs else vfault v
theorem ffault_step (vs : List (List Nd)) (k : Nat) (hk : k < vs.length) : ffault (vs.drop k) = if vfault vs[k] = 0 then ffault (vs.drop (k + 1)) else vfault vs[k] := by
  rw [List.drop_eq_getElem_cons hk]; rfl
theorem ffault_zero : ∀ (vs : List (List Nd)), ffault vs = 0 ↔ ∀ v ∈ vs, vfault v = 0
  | [] => by simp [ffault]
  | v :: vs => by
    unfold ffault
    by_cases h : vfault v = 0
    · rw [if_pos h, ffault_zero vs]; simp [h]
    · rw [if_neg h]; simp [h]
end Go.Proofs.YtncmjcjnldhhhaaGreatDoor
