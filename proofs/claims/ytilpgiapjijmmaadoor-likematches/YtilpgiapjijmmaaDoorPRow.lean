/- Pieces of a pattern in memory, and in a row of the call's own; two bytes appended at once. -/
import Derived.Test.YtilpgiapjijmmaaDoorBytes
import Derived.Test.YtilpgiapjijmmaaDoorLikeL
import Derived.WalkKit
import Derived.OwnWalk
import Derived.Below
namespace Go.Proofs.YtilpgiapjijmmaaDoor
open Go.RowKit
set_option linter.unusedVariables false

theorem Tryd.infoPiece : (Tryd.prog.info? 48).map (fun i => (i.zero, i.size, i.bytes)) = some (some (.agg #[.bool false, .int .u8 0]), 2, 2) := by kernel_rfl
def pcells : List Pc → List Value
  | [] => []
  | x :: r => .bool x.1 :: .int .u8 (x.2.toNat : Int) :: pcells r
theorem pcells_length : ∀ L : List Pc, (pcells L).length = L.length * 2
  | [] => rfl
  | x :: r => by simp only [pcells, List.length_cons, pcells_length r]; omega
theorem pcells_append : ∀ L N : List Pc, pcells (L ++ N) = pcells L ++ pcells N
  | [], _ => rfl
  | x :: r, N => by simp [pcells, pcells_append r N]
theorem pcells_at : ∀ (L : List Pc) (i : Nat) (x : Pc), L[i]? = some x → (pcells L)[i * 2]? = some (.bool x.1) ∧ (pcells L)[i * 2 + 1]? = some (.int .u8 (x.2.toNat : Int))
  | [], i, x, h => by simp at h
  | y :: r, 0, x, h => by simp at h; subst h; exact ⟨rfl, rfl⟩
  | y :: r, i + 1, x, h => by
    have e : (i + 1) * 2 = i * 2 + 1 + 1 := by omega
    rw [e]
    simp only [pcells, List.getElem?_cons_succ] at h ⊢
    exact pcells_at r i x h

/-- Pieces lie behind an address. -/
def PL (w : World) (p : Option Addr) (L : List Pc) : Prop :=
  L = [] ∨ ∃ b off, p = some ⟨b, off, none⟩ ∧ b < w.heap.size ∧ ∀ i x, L[i]? = some x →
    w.cell? ⟨b, off + i * 2, none⟩ = some (.bool x.1) ∧ w.cell? ⟨b, off + i * 2 + 1, none⟩ = some (.int .u8 (x.2.toNat : Int))
theorem PL.up {w w' : World} {p : Option Addr} {L : List Pc} (h : PL w p L) (k : Below w.heap.size w w') : PL w' p L := by
  rcases h with h | ⟨b, off, h1, h2, h3⟩
  · exact .inl h
  · refine .inr ⟨b, off, h1, Nat.lt_of_lt_of_le h2 k.size, fun i x hx => ?_⟩
    have q : ∀ o, w'.cell? ⟨b, o, none⟩ = w.cell? ⟨b, o, none⟩ := fun o => k.cell (p := ⟨b, o, none⟩) h2
    simp only [q]
    exact h3 i x hx
theorem PL.at {w : World} {p : Option Addr} {L : List Pc} (h : PL w p L) {i : Nat} (hi : i < L.length) : ∃ b off, p = some ⟨b, off, none⟩ ∧ b < w.heap.size ∧
    w.cell? ⟨b, off + i * 2, none⟩ = some (.bool L[i].1) ∧ w.cell? ⟨b, off + i * 2 + 1, none⟩ = some (.int .u8 (L[i].2.toNat : Int)) := by
  rcases h with rfl | ⟨b, off, h1, h2, h3⟩
  · simp at hi
  · exact ⟨b, off, h1, h2, h3 i _ (List.getElem?_eq_getElem hi)⟩

/-- Pieces in a row of the call's own. -/
def OP (w : World) (base : Nat) (v : Value) (L : List Pc) : Prop := w.ownsRow base 48 2 v L.length (pcells L)
theorem OP.nil (w : World) (base : Nat) : OP w base (.slice none 0 0) [] := World.ownsRow_nil _ _ _ _
theorem OP.slice {w : World} {base : Nat} {v : Value} {L : List Pc} (h : OP w base v L) : ∃ q c, v = .slice q L.length c ∧ PL w q L ∧ L.length ≤ c ∧ c ≤ maxLen ∧
    ((L = [] ∧ v = .slice none 0 0) ∨ ∃ g cur, q = some ⟨g, 0, none⟩ ∧ base ≤ g ∧ g < w.heap.size ∧ w.heap[g]? = some (.cells cur 48 (0, 0)) ∧ L.length * 2 ≤ cur.size) := by
  rcases h.2 with ⟨rfl, hn⟩ | ⟨g, cap, cur, rfl, hb, hgg, hle, hm, hsz, htk⟩
  · obtain rfl := List.eq_nil_of_length_eq_zero hn
    exact ⟨none, 0, rfl, .inl rfl, Nat.le_refl _, Nat.zero_le _, .inl ⟨rfl, rfl⟩⟩
  · have hlt := (Array.getElem?_eq_some_iff.1 hgg).1
    refine ⟨some ⟨g, 0, none⟩, cap, rfl, .inr ⟨g, 0, rfl, hlt, fun i x hx => ?_⟩, hle, hm, .inr ⟨g, cur, rfl, hb, hlt, hgg, by rw [hsz]; omega⟩⟩
    have hi : i < L.length := (List.getElem?_eq_some_iff.1 hx).1
    obtain ⟨k1, k2⟩ := pcells_at L i x hx
    have hc : ∀ j, j < L.length * 2 → w.cell? ⟨g, 0 + j, none⟩ = (pcells L)[j]? := by
      intro j hj
      rw [← htk, List.getElem?_take_of_lt hj]
      simp [World.cell?, hgg]
    rw [← k1, ← k2]
    exact ⟨hc (i * 2) (by omega), hc (i * 2 + 1) (by omega)⟩

theorem append_piece (w : World) {ops : Array Oper} {rest : List Oper} {o : Oper} {a : Act} {Q : Exit → Act → World → Prop} (hgd : o.guard = none) (s x : Operand)
    (ho : o.op = .call { callee := .builtin .append, args := #[s, x], argTypes := #[38, 38] })
    (base : Nat) (v : Value) (l : List Pc) (hs : a.eval s = v) (hown : OP w base v l) (b : Bool) (n : Int) (c : UInt8) (hc : n = c.toNat) (hx : a.eval x = .slice (some ⟨w.heap.size, 0, none⟩) 1 1)
    (hlen : l.length + 1 ≤ 1099511627776) (hbase : base ≤ w.heap.size)
    (h : ∀ v' w', OP w' base v' (l ++ [(b, c)]) → Below base w w' → wpList Tryd.prog ops Q rest (a.put o.dst v') w') : wpList Tryd.prog ops Q (o :: rest) a (w.alloc (.cells #[.bool b, .int .u8 n] 48)) := by
  obtain ⟨i0, hi, hz0, hz1, hz2⟩ := info_parts Tryd.infoPiece
  subst hc
  refine wpList_append_own _ hgd s x 38 ho base 48 i0 _ 2 2 Tryd.underlying38 hi hz0 hz1 hz2 rfl (by decide) v l.length (pcells l) hs (hown.alloc _) ⟨w.heap.size, 0, none⟩ 1 1 [.bool b, .int .u8 (c.toNat : Int)] hx rfl ?_ ?_ ?_ ?_ ?_ ?_
  · intro j u hj
    match j, hj with
    | 0, hj => simp at hj; subst hj; simp [Addr.add]
    | 1, hj => simp at hj; subst hj; simp [Addr.add]
  · intro u hu; simp at hu; rcases hu with rfl | rfl <;> rfl
  · unfold maxLen; omega
  · omega
  · simp; omega
  · intro v' w' h1 h2 _
    refine h v' w' ?_ ?_
    · unfold OP; rw [pcells_append, List.length_append]; exact h1
    · refine ((Below.refl base w).alloc hbase (.cells #[.bool b, .int .u8 (c.toNat : Int)] 48)).grown h2 (by simp; omega) ?_
      intro k hk
      exact (World.ownsRow.lt hown k hk).1

theorem append_two (w : World) {ops : Array Oper} {rest : List Oper} {o : Oper} {a : Act} {Q : Exit → Act → World → Prop} (hgd : o.guard = none) (s x : Operand)
    (ho : o.op = .call { callee := .builtin .append, args := #[s, x], argTypes := #[54, 54] })
    (base : Nat) (v : Value) (l : List UInt8) (hs : a.eval s = v) (hown : OwnB w base v l) (n m : Int) (c d : UInt8) (hc : n = c.toNat) (hd : m = d.toNat) (hx : a.eval x = .slice (some ⟨w.heap.size, 0, none⟩) 2 2)
    (hlen : l.length + 2 ≤ 140737488355328) (hbase : base ≤ w.heap.size)
    (h : ∀ v' w', OwnB w' base v' (l ++ [c, d]) → Below base w w' → wpList Tryd.prog ops Q rest (a.put o.dst v') w') : wpList Tryd.prog ops Q (o :: rest) a (w.alloc (.cells #[.int .u8 n, .int .u8 m] 5)) := by
  obtain ⟨i0, hi, hz0, hz1, hz2⟩ := info_parts Tryd.infoByte
  subst hc hd
  refine wpList_append_own _ hgd s x 54 ho base 5 i0 (.int .u8 0) 1 1 Tryd.underlying54 hi hz0 hz1 hz2 rfl (by decide) v l.length (bs l) hs (hown.alloc _) ⟨w.heap.size, 0, none⟩ 2 2 [.int .u8 (c.toNat : Int), .int .u8 (d.toNat : Int)] hx rfl ?_ ?_ ?_ ?_ ?_ ?_
  · intro j u hj
    match j, hj with
    | 0, hj => simp at hj; subst hj; simp [Addr.add]
    | 1, hj => simp at hj; subst hj; simp [Addr.add]
  · intro u hu; simp at hu; rcases hu with rfl | rfl <;> rfl
  · unfold maxLen; omega
  · omega
  · simp; omega
  · intro v' w' h1 h2 _
    refine h v' w' ?_ ?_
    · unfold OwnB
      have e : bs (l ++ [c, d]) = bs l ++ [.int .u8 (c.toNat : Int), .int .u8 (d.toNat : Int)] := by simp [bs]
      rw [e, List.length_append]; exact h1
    · refine ((Below.refl base w).alloc hbase (.cells #[.int .u8 (c.toNat : Int), .int .u8 (d.toNat : Int)] 5)).grown h2 (by simp; omega) ?_
      intro k hk
      exact (World.ownsRow.lt hown k hk).1
end Go.Proofs.YtilpgiapjijmmaaDoor
