/- Words in memory, and in a row of the call's own. -/
import Derived.Test.YtmcjogfopfhblaaDoorWordL
import Derived.Test.YtmcjogfopfhblaaDoorBytes
import Derived.WalkKit
import Derived.OwnWalk
import Derived.Below
namespace Go.Proofs.YtmcjogfopfhblaaDoor
open Go.RowKit
set_option linter.unusedVariables false

theorem Tryd.infoTok : (Tryd.prog.info? 36).map (fun i => (i.zero, i.size, i.bytes)) = some (some (.agg #[.int .i64 0, .string ⟨#[]⟩, .int .i64 0]), 3, 32) := by kernel_rfl
def tcells : List Tk → List Value
  | [] => []
  | x :: r => .int .i64 x.kind :: .string x.s :: .int .i64 x.at_ :: tcells r
theorem tcells_length : ∀ L : List Tk, (tcells L).length = L.length * 3
  | [] => rfl
  | x :: r => by simp only [tcells, List.length_cons, tcells_length r]; omega
theorem tcells_append : ∀ L N : List Tk, tcells (L ++ N) = tcells L ++ tcells N
  | [], _ => rfl
  | x :: r, N => by simp [tcells, tcells_append r N]
theorem tcells_at : ∀ (L : List Tk) (i : Nat) (x : Tk), L[i]? = some x → (tcells L)[i * 3]? = some (.int .i64 x.kind) ∧ (tcells L)[i * 3 + 1]? = some (.string x.s) ∧ (tcells L)[i * 3 + 2]? = some (.int .i64 x.at_)
  | [], i, x, h => by simp at h
  | y :: r, 0, x, h => by simp at h; subst h; exact ⟨rfl, rfl, rfl⟩
  | y :: r, i + 1, x, h => by
    have e : (i + 1) * 3 = i * 3 + 1 + 1 + 1 := by omega
    rw [e]
    simp only [tcells, List.getElem?_cons_succ] at h ⊢
    exact tcells_at r i x h

/-- Words lie behind an address. -/
def TKL (w : World) (p : Option Addr) (L : List Tk) : Prop :=
  L = [] ∨ ∃ b off, p = some ⟨b, off, none⟩ ∧ b < w.heap.size ∧ ∀ i x, L[i]? = some x →
    w.cell? ⟨b, off + i * 3, none⟩ = some (.int .i64 x.kind) ∧ w.cell? ⟨b, off + i * 3 + 1, none⟩ = some (.string x.s) ∧ w.cell? ⟨b, off + i * 3 + 2, none⟩ = some (.int .i64 x.at_)
theorem TKL.up {w w' : World} {p : Option Addr} {L : List Tk} (h : TKL w p L) (k : Below w.heap.size w w') : TKL w' p L := by
  rcases h with h | ⟨b, off, h1, h2, h3⟩
  · exact .inl h
  · refine .inr ⟨b, off, h1, Nat.lt_of_lt_of_le h2 k.size, fun i x hx => ?_⟩
    have q : ∀ o, w'.cell? ⟨b, o, none⟩ = w.cell? ⟨b, o, none⟩ := fun o => k.cell (p := ⟨b, o, none⟩) h2
    simp only [q]
    exact h3 i x hx
theorem TKL.at {w : World} {p : Option Addr} {L : List Tk} (h : TKL w p L) {i : Nat} (hi : i < L.length) : ∃ b off, p = some ⟨b, off, none⟩ ∧ b < w.heap.size ∧
    w.cell? ⟨b, off + i * 3, none⟩ = some (.int .i64 L[i].kind) ∧ w.cell? ⟨b, off + i * 3 + 1, none⟩ = some (.string L[i].s) ∧ w.cell? ⟨b, off + i * 3 + 2, none⟩ = some (.int .i64 L[i].at_) := by
  rcases h with rfl | ⟨b, off, h1, h2, h3⟩
  · simp at hi
  · exact ⟨b, off, h1, h2, h3 i _ (List.getElem?_eq_getElem hi)⟩

/-- Words in a row of the call's own. -/
def OT (w : World) (base : Nat) (v : Value) (L : List Tk) : Prop := w.ownsRow base 36 3 v L.length (tcells L)
theorem OT.nil (w : World) (base : Nat) : OT w base (.slice none 0 0) [] := World.ownsRow_nil _ _ _ _
theorem OT.slice {w : World} {base : Nat} {v : Value} {L : List Tk} (h : OT w base v L) : ∃ q c, v = .slice q L.length c ∧ TKL w q L ∧ L.length ≤ c ∧ c ≤ maxLen ∧ ∀ a, q = some a → base ≤ a.block := by
  rcases h.2 with ⟨rfl, hn⟩ | ⟨g, cap, cur, rfl, hb, hgg, hle, hm, hsz, htk⟩
  · obtain rfl := List.eq_nil_of_length_eq_zero hn
    exact ⟨none, 0, rfl, .inl rfl, Nat.le_refl _, Nat.zero_le _, fun a ha => by cases ha⟩
  · have hlt := (Array.getElem?_eq_some_iff.1 hgg).1
    refine ⟨some ⟨g, 0, none⟩, cap, rfl, .inr ⟨g, 0, rfl, hlt, fun i x hx => ?_⟩, hle, hm, fun a ha => by cases ha; exact hb⟩
    have hi : i < L.length := (List.getElem?_eq_some_iff.1 hx).1
    obtain ⟨k1, k2, k3⟩ := tcells_at L i x hx
    have hc : ∀ j, j < L.length * 3 → w.cell? ⟨g, 0 + j, none⟩ = (tcells L)[j]? := by
      intro j hj
      rw [← htk, List.getElem?_take_of_lt hj]
      simp [World.cell?, hgg]
    rw [← k1, ← k2, ← k3]
    exact ⟨hc (i * 3) (by omega), hc (i * 3 + 1) (by omega), hc (i * 3 + 2) (by omega)⟩
theorem OT.below {w w' : World} {base : Nat} {v : Value} {L : List Tk} (h : OT w base v L) (k : Below w.heap.size w w') : OT w' base v L := by
  refine ⟨h.1, ?_⟩
  rcases h.2 with hn | ⟨g, cap, cur, rfl, hb, hgg, rest⟩
  · exact .inl hn
  · exact .inr ⟨g, cap, cur, rfl, hb, (k.block g (Array.getElem?_eq_some_iff.1 hgg).1).trans hgg, rest⟩
theorem OT.set {w : World} {base : Nat} {v : Value} {L : List Tk} (h : OT w base v L) {a : Addr} (ha : a.block < base) (u : Value) : OT (w.setCell a u) base v L := ownsRow_setCell_below h ha u
theorem OT.other {w w' : World} {base : Nat} {v : Value} {L : List Tk} (h : OT w base v L) (hk : ∀ g, v.ownBlock = some g → w'.heap[g]? = w.heap[g]?) : OT w' base v L := by
  refine ⟨h.1, ?_⟩
  rcases h.2 with hn | ⟨g, cap, cur, rfl, hb, hgg, rest⟩
  · exact .inl hn
  · exact .inr ⟨g, cap, cur, rfl, hb, (hk g rfl).trans hgg, rest⟩
theorem OT.lt {w : World} {base : Nat} {v : Value} {L : List Tk} (h : OT w base v L) : ∀ g, v.ownBlock = some g → base ≤ g ∧ g < w.heap.size := fun g hg => World.ownsRow.lt h g hg

theorem append_tok (w : World) {ops : Array Oper} {rest : List Oper} {o : Oper} {a : Act} {Q : Exit → Act → World → Prop} (hgd : o.guard = none) (s x : Operand)
    (ho : o.op = .call { callee := .builtin .append, args := #[s, x], argTypes := #[22, 22] })
    (base : Nat) (v : Value) (L : List Tk) (hs : a.eval s = v) (hown : OT w base v L) (t : Tk) (hx : a.eval x = .slice (some ⟨w.heap.size, 0, none⟩) 1 1)
    (hlen : L.length + 1 ≤ 1099511627776) (hbase : base ≤ w.heap.size)
    (h : ∀ v' w', OT w' base v' (L ++ [t]) → Below base w w' → wpList Tryd.prog ops Q rest (a.put o.dst v') w') : wpList Tryd.prog ops Q (o :: rest) a (w.alloc (.cells #[.int .i64 t.kind, .string t.s, .int .i64 t.at_] 36)) := by
  obtain ⟨i0, hi, hz0, hz1, hz2⟩ := info_parts Tryd.infoTok
  refine wpList_append_own _ hgd s x 22 ho base 36 i0 _ 3 32 Tryd.underlying22 hi hz0 hz1 hz2 rfl (by decide) v L.length (tcells L) hs (hown.alloc _) ⟨w.heap.size, 0, none⟩ 1 1 [.int .i64 t.kind, .string t.s, .int .i64 t.at_] hx rfl ?_ ?_ ?_ ?_ ?_ ?_
  · intro j u hj
    match j, hj with
    | 0, hj => simp at hj; subst hj; simp [Addr.add]
    | 1, hj => simp at hj; subst hj; simp [Addr.add]
    | 2, hj => simp at hj; subst hj; simp [Addr.add]
  · intro u hu; simp at hu; rcases hu with rfl | rfl | rfl <;> rfl
  · unfold maxLen; omega
  · omega
  · simp; omega
  · intro v' w' h1 h2 _
    refine h v' w' ?_ ?_
    · unfold OT; rw [tcells_append, List.length_append]; exact h1
    · refine ((Below.refl base w).alloc hbase (.cells #[.int .i64 t.kind, .string t.s, .int .i64 t.at_] 36)).grown h2 (by simp; omega) ?_
      intro k hk
      exact (World.ownsRow.lt hown k hk).1
end Go.Proofs.YtmcjogfopfhblaaDoor
