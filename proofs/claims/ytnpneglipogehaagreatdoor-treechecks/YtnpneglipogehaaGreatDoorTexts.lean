/- Lists of texts in memory, and in rows of the call's own. -/
import Derived.Test.YtnpneglipogehaaGreatDoorOwnR
namespace Go.Proofs.YtnpneglipogehaaGreatDoor
open Go.RowKit
set_option linter.unusedVariables false

theorem Tryz.infoText : (Tryz.prog.info? 9).map (fun i => (i.zero, i.size, i.bytes)) = some (some (.string ⟨#[]⟩), 1, 16) := by kernel_rfl

/-- Texts lie behind an address, one behind the other. -/
def TL (w : World) (p : Option Addr) (ts : List ByteArray) : Prop :=
  ts = [] ∨ ∃ b off, p = some ⟨b, off, none⟩ ∧ b < w.heap.size ∧ ∀ i s, ts[i]? = some s → w.cell? ⟨b, off + i, none⟩ = some (.string s)
theorem TL.up {w w' : World} {p : Option Addr} {ts : List ByteArray} (h : TL w p ts) (k : Below w.heap.size w w') : TL w' p ts := by
  rcases h with h | ⟨b, off, h1, h2, h3⟩
  · exact .inl h
  · exact .inr ⟨b, off, h1, Nat.lt_of_lt_of_le h2 k.size, fun i s hs => (k.cell (p := ⟨b, off + i, none⟩) h2).trans (h3 i s hs)⟩
theorem TL.at {w : World} {p : Option Addr} {ts : List ByteArray} (h : TL w p ts) {i : Nat} (hi : i < ts.length) : ∃ b off, p = some ⟨b, off, none⟩ ∧ b < w.heap.size ∧ w.cell? ⟨b, off + i, none⟩ = some (.string ts[i]) := by
  rcases h with rfl | ⟨b, off, h1, h2, h3⟩
  · simp at hi
  · exact ⟨b, off, h1, h2, h3 i _ (List.getElem?_eq_getElem hi)⟩
/-- Texts in a row of the call's own. -/
def OT (w : World) (base : Nat) (v : Value) (ts : List ByteArray) : Prop := Row1 w base 9 v (ts.map Value.string)
theorem OT.texts {w : World} {base : Nat} {v : Value} {ts : List ByteArray} (h : OT w base v ts) : ∃ q c, v = .slice q ts.length c ∧ TL w q ts ∧ ts.length ≤ c ∧ c ≤ maxLen := by
  obtain ⟨q, c, e, h1, h2, h3⟩ := Row1.slice h
  rw [List.length_map] at e h1
  refine ⟨q, c, e, ?_, h1, h2⟩
  rcases h3 with h3 | ⟨g, e2, ht, _, hc⟩
  · exact .inl (by simpa using h3)
  · exact .inr ⟨g, 0, e2, ht.lt, fun i s hs => by rw [Nat.zero_add]; exact hc i _ (by simp [hs])⟩

theorem append_text (w : World) {ops : Array Oper} {rest : List Oper} {o : Oper} {a : Act} {Q : Exit → Act → World → Prop} (hgd : o.guard = none) (s x : Operand)
    (ho : o.op = .call { callee := .builtin .append, args := #[s, x], argTypes := #[34, 34] })
    (base : Nat) (v : Value) (ts : List ByteArray) (hs : a.eval s = v) (hown : OT w base v ts) (t : ByteArray)
    (hx : a.eval x = .slice (some ⟨w.heap.size, 0, none⟩) 1 1) (hlen : ts.length + 1 ≤ 1099511627776) (hbase : base ≤ w.heap.size)
    (h : ∀ v' w', OT w' base v' (ts ++ [t]) → Kept base 9 w w' → wpList Tryz.prog ops Q rest (a.put o.dst v') w') : wpList Tryz.prog ops Q (o :: rest) a (w.alloc (.cells #[.string t] 9)) := by
  refine append_cell w hgd s x 34 9 ho Tryz.underlying34 (.string ⟨#[]⟩) 16 Tryz.infoText rfl base v (ts.map Value.string) hs hown (.string t) rfl hx (by rw [List.length_map]; unfold maxLen; omega) (by rw [List.length_map]; omega) hbase ?_
  intro v' w' h1 k
  refine h v' w' ?_ k
  unfold OT; rw [List.map_append]; exact h1
end Go.Proofs.YtnpneglipogehaaGreatDoor
