/- A writer of words in memory: its block, its words; what is kept but for them. -/
import Derived.Test.YtdoeinjilnhijaaGreatDoorG3
import Derived.Test.YtdoeinjilnhijaaGreatDoorG6
import Derived.Test.YtdoeinjilnhijaaGreatDoorG7
import Derived.Laws.AppendOwnNone
import Derived.Lib.LaidTab
import Derived.Lib.ItoaNum
namespace Go.Proofs.YtdoeinjilnhijaaGreatDoor
open Go.RowKit
set_option linter.unusedVariables false
set_option maxRecDepth 100000

/-- What lies below the writer is as it was, and what is neither a word's nor a writer's. -/
structure KW (B : Nat) (w w' : World) : Prop where
  bel : Below B w w'
  typed : ∀ b f, f ≠ 47 → f ≠ 44 → Typed w b f → w'.heap[b]? = w.heap[b]?
theorem KW.refl (B : Nat) (w : World) : KW B w w := ⟨Below.refl _ _, fun _ _ _ _ _ => rfl⟩
theorem Typed.same {w w' : World} {b : Nat} {f : TypeId} (h : Typed w b f) (k : w'.heap[b]? = w.heap[b]?) : Typed w' b f := by
  obtain ⟨cur, fr, hh⟩ := h
  exact ⟨cur, fr, k.trans hh⟩
theorem KW.trans {B : Nat} {a b c : World} (h : KW B a b) (k : KW B b c) : KW B a c :=
  ⟨h.bel.trans k.bel, fun x f h1 h2 ht => (k.typed x f h1 h2 (ht.same (h.typed x f h1 h2 ht))).trans (h.typed x f h1 h2 ht)⟩
theorem KW.of_below {B : Nat} {w w' : World} (h : Below w.heap.size w w') (hB : B ≤ w.heap.size) : KW B w w' := ⟨h.mono hB, fun b f _ _ ht => h.block b ht.lt⟩
theorem KW.up {B : Nat} {a w w' : World} (h : KW B a w) (k : Below w.heap.size w w') (hB : B ≤ w.heap.size) : KW B a w' := h.trans (KW.of_below k hB)
theorem KW.cellT {B : Nat} {w w' : World} (h : KW B w w') {b : Nat} {f : TypeId} (h1 : f ≠ 47) (h2 : f ≠ 44) (ht : Typed w b f) (o : Nat) : w'.cell? ⟨b, o, none⟩ = w.cell? ⟨b, o, none⟩ := by
  unfold World.cell?; rw [h.typed b f h1 h2 ht]

theorem Tryz.gPow : Tryz.prog.globalNamed "internal/strconv.uint64pow10" = some 1 := by kernel_rfl
/-- strconv's powers of ten are laid. -/
def Tab (w : World) : Prop := Lib.TabIs Tryz.prog w "internal/strconv.uint64pow10" .u64 Lib.pow10Tab
theorem Tab.keep {w w' : World} (h : Tab w) (hk : w'.heap[1]? = w.heap[1]?) : Tab w' := by
  unfold Tab Lib.TabIs World.var? at h ⊢
  simp only [Tryz.gPow, Option.bind_some] at h ⊢
  rw [hk]
  exact h
structure WS (w : World) (B : Nat) (p : Option Addr) (c : Nat) (e : List Nd) (k : Nat) (v : Value) (L : List Tk) : Prop where
  blk : w.heap[B]? = some (.cells #[.slice p e.length c, .int .i64 (k : Int), v] 44 (0, 0))
  own : OT w (B + 1) v L
  nl : NL w p e
  ne : ∀ a, p = some a → a.block < B
  le : k ≤ e.length
  len : e.length ≤ 200
  tb : Tab w
  ge : 1 < B
section
variable {w w' : World} {B : Nat} {p : Option Addr} {c : Nat} {e : List Nd} {k : Nat} {v : Value} {L : List Tk}
theorem WS.lt (h : WS w B p c e k v L) : B < w.heap.size := (Array.getElem?_eq_some_iff.1 h.blk).1
theorem WS.c0 (h : WS w B p c e k v L) : w.cell? ⟨B, 0, none⟩ = some (.slice p e.length c) := by simp [World.cell?, h.blk]
theorem WS.c1 (h : WS w B p c e k v L) : w.cell? ⟨B, 1, none⟩ = some (.int .i64 (k : Int)) := by simp [World.cell?, h.blk]
theorem WS.c2 (h : WS w B p c e k v L) : w.cell? ⟨B, 2, none⟩ = some v := by simp [World.cell?, h.blk]
theorem WS.fz (h : WS w B p c e k v L) (i : Nat) : w.frozen? ⟨B, i, none⟩ = false := by simp [World.frozen?, h.blk]
theorem NL.low {q : Option Addr} {M : List Nd} (h : NL w q M) (hn : ∀ a, q = some a → a.block < B) (k : Below B w w') (hs : w.heap.size ≤ w'.heap.size) : NL w' q M := by
  rcases h with h | ⟨b, off, h1, h2, h3⟩
  · exact .inl h
  · refine .inr ⟨b, off, h1, Nat.lt_of_lt_of_le h2 hs, fun i x hx => ?_⟩
    have q : ∀ o, w'.cell? ⟨b, o, none⟩ = w.cell? ⟨b, o, none⟩ := fun o => k.cell (p := ⟨b, o, none⟩) (hn ⟨b, off, none⟩ h1)
    simp only [q]
    exact h3 i x hx
theorem WS.up (h : WS w B p c e k v L) (hb : Below w.heap.size w w') : WS w' B p c e k v L :=
  ⟨(hb.block B h.lt).trans h.blk, h.own.below hb, h.nl.up hb, h.ne, h.le, h.len, h.tb.keep (hb.block _ (Nat.lt_trans h.ge h.lt)), h.ge⟩
/-- The writer one node on. -/
theorem WS.setAt (h : WS w B p c e k v L) {k' : Nat} (hk : k' ≤ e.length) : WS (w.setCell ⟨B, 1, none⟩ (.int .i64 (k' : Int))) B p c e k' v L :=
  ⟨heap_setCell_same w B 1 _ _ _ h.blk, h.own.other (fun g hg => Below.heap_setCell w ⟨B, 1, none⟩ _ g (by have := (h.own.lt g hg).1; show g ≠ B; omega)), h.nl.low h.ne ⟨rfl, rfl, rfl, by simp, fun k hk => Below.heap_setCell w ⟨B, 1, none⟩ _ k (by show k ≠ B; omega)⟩ (by simp), h.ne, hk, h.len, h.tb.keep (Below.heap_setCell w ⟨B, 1, none⟩ _ _ (by have := h.ge; show _ ≠ B; omega)), h.ge⟩
theorem KW.set {a : World} (h : KW B a w) (hB : Typed w B 44) (i : Nat) (u : Value) : KW B a (w.setCell ⟨B, i, none⟩ u) :=
  h.trans ⟨⟨rfl, rfl, rfl, by simp, fun k hk => Below.heap_setCell w ⟨B, i, none⟩ u k (by show k ≠ B; omega)⟩, fun b f h1 h2 ht => Below.heap_setCell w ⟨B, i, none⟩ u b (fun e => by
    have e' : b = B := e
    subst e'
    obtain ⟨c1, f1, g1⟩ := ht
    obtain ⟨c2, f2, g2⟩ := hB
    rw [g1] at g2
    injection g2 with g2
    injection g2 with _ g2 _
    exact h2 g2)⟩
theorem WS.typed (h : WS w B p c e k v L) : Typed w B 44 := ⟨_, _, h.blk⟩
/-- More words. -/
theorem WS.setTs (h : WS w B p c e k v L) {w1 : World} {v1 : Value} {L1 : List Tk} (hk : KW (B + 1) w w1) (ho : OT w1 (B + 1) v1 L1) : WS (w1.setCell ⟨B, 2, none⟩ v1) B p c e k v1 L1 := by
  have hb : w1.heap[B]? = some (.cells #[.slice p e.length c, .int .i64 (k : Int), v] 44 (0, 0)) := (hk.bel.block B (by omega)).trans h.blk
  have hnl : NL w1 p e := h.nl.low (B := B + 1) (fun a ha => Nat.lt_succ_of_lt (h.ne a ha)) hk.bel hk.bel.size
  exact ⟨heap_setCell_same w1 B 2 _ _ _ hb, ho.other (fun g hg => Below.heap_setCell w1 ⟨B, 2, none⟩ _ g (by have := (ho.lt g hg).1; show g ≠ B; omega)), hnl.low h.ne ⟨rfl, rfl, rfl, by simp, fun k hk => Below.heap_setCell w1 ⟨B, 2, none⟩ _ k (by show k ≠ B; omega)⟩ (by simp), h.ne, h.le, h.len, (h.tb.keep (hk.bel.block _ (Nat.lt_succ_of_lt h.ge))).keep (Below.heap_setCell w1 ⟨B, 2, none⟩ _ _ (by have := h.ge; show _ ≠ B; omega)), h.ge⟩
/-- A cell of another block. -/
theorem WS.far (h : WS w B p c e k v L) {g : Nat} (hg : B < g) (hv : ∀ b, v.ownBlock = some b → b ≠ g) (i : Nat) (u : Value) : WS (w.setCell ⟨g, i, none⟩ u) B p c e k v L :=
  ⟨(Below.heap_setCell w ⟨g, i, none⟩ u B (by show B ≠ g; omega)).trans h.blk, h.own.other (fun b hb => Below.heap_setCell w ⟨g, i, none⟩ u b (hv b hb)), h.nl.low h.ne ⟨rfl, rfl, rfl, by simp, fun k hk => Below.heap_setCell w ⟨g, i, none⟩ u k (by show k ≠ g; omega)⟩ (by simp), h.ne, h.le, h.len, h.tb.keep (Below.heap_setCell w ⟨g, i, none⟩ u _ (by have := h.ge; show _ ≠ g; omega)), h.ge⟩
theorem KW.far {a : World} (h : KW B a w) {g : Nat} (hg : a.heap.size ≤ g) (hB : B ≤ g) (i : Nat) (u : Value) : KW B a (w.setCell ⟨g, i, none⟩ u) :=
  ⟨h.bel.trans ⟨rfl, rfl, rfl, by simp, fun k hk => Below.heap_setCell w ⟨g, i, none⟩ u k (by show k ≠ g; omega)⟩, fun b f h1 h2 ht => (Below.heap_setCell w ⟨g, i, none⟩ u b (by have := ht.lt; show b ≠ g; omega)).trans (h.typed b f h1 h2 ht)⟩
theorem KW.drop (h : KW (B + 1) w w') : KW B w w' := ⟨h.bel.mono (Nat.le_succ _), h.typed⟩
end
/-- One word behind a row, and what is kept. -/
theorem append_tokK (w : World) {ops : Array Oper} {rest : List Oper} {o : Oper} {a : Act} {Q : Exit → Act → World → Prop} (hgd : o.guard = none) (s x : Operand)
    (ho : o.op = .call { callee := .builtin .append, args := #[s, x], argTypes := #[23, 23] })
    (base : Nat) (v : Value) (L : List Tk) (hs : a.eval s = v) (hown : OT w base v L) (t : Tk) (hx : a.eval x = .slice (some ⟨w.heap.size, 0, none⟩) 1 1)
    (hlen : L.length + 1 ≤ 1099511627776) (hbase : base ≤ w.heap.size)
    (h : ∀ v' w', OT w' base v' (L ++ [t]) → KW base w w' → wpList Tryz.prog ops Q rest (a.put o.dst v') w') : wpList Tryz.prog ops Q (o :: rest) a (w.alloc (.cells #[.int .i64 t.kind, .string t.s, .int .i64 t.at_] 47)) := by
  obtain ⟨i0, hi, hz0, hz1, hz2⟩ := info_parts Tryz.infoTok
  refine wpList_append_own _ hgd s x 23 ho base 47 i0 _ 3 32 Tryz.underlying23 hi hz0 hz1 hz2 rfl (by decide) v L.length (tcells L) hs (hown.alloc _) ⟨w.heap.size, 0, none⟩ 1 1 [.int .i64 t.kind, .string t.s, .int .i64 t.at_] hx rfl ?_ ?_ ?_ ?_ ?_ ?_
  · intro j u hj
    match j, hj with
    | 0, hj => simp at hj; subst hj; simp [Addr.add]
    | 1, hj => simp at hj; subst hj; simp [Addr.add]
    | 2, hj => simp at hj; subst hj; simp [Addr.add]
  · intro u hu; simp at hu; rcases hu with rfl | rfl | rfl <;> rfl
  · unfold maxLen; omega
  · omega
  · simp; omega
  · intro v' w' h1 h2 _
    refine h v' w' ?_ ⟨?_, ?_⟩
    · unfold OT; rw [tcells_append, List.length_append]; exact h1
    · refine ((Below.refl base w).alloc hbase (.cells #[.int .i64 t.kind, .string t.s, .int .i64 t.at_] 47)).grown h2 (by simp; omega) ?_
      intro k hk
      exact (World.ownsRow.lt hown k hk).1
    · intro b f hf _ hty
      have hb0 : (w.alloc (.cells #[.int .i64 t.kind, .string t.s, .int .i64 t.at_] 47)).heap[b]? = w.heap[b]? := ((Below.refl w.heap.size w).alloc (Nat.le_refl _) _).block b hty.lt
      refine (h2.block b (by have := hty.lt; simp; omega) (fun e => ?_)).trans hb0
      rcases hown.2 with ⟨hv, _⟩ | ⟨g, cap, cur, hv, hb, hgg, _⟩
      · rw [hv] at e; simp [Value.ownBlock] at e
      · rw [hv] at e
        simp [Value.ownBlock] at e
        subst e
        obtain ⟨c1, f1, g1⟩ := hty
        rw [hgg] at g1
        injection g1 with g1
        injection g1 with _ g1 _
        exact hf g1.symm
end Go.Proofs.YtdoeinjilnhijaaGreatDoor
