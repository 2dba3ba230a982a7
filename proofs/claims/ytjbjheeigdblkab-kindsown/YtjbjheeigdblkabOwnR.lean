/- Rows that a call makes, an element a cell: what an append does to one of them, and that it leaves others alone. -/
import Derived.Test.YtjbjheeigdblkabNdOrd
import Derived.WalkSpells
import Derived.Laws.IdiomStrings
import Derived.Laws.BytesArg
namespace Go.Proofs.Ytjbjheeigdblkab
open Go.RowKit
set_option linter.unusedVariables false

theorem Try.infoNode : (Try.prog.info? 33).map (fun i => (i.zero, i.size, i.bytes)) = some (some (.agg #[.int .i64 0, .int .i64 0, .string ⟨#[]⟩, .string ⟨#[]⟩]), 4, 48) := by kernel_rfl

/-- A block of that element type, so that two of unlike types are not one. -/
def Typed (w : World) (b : Nat) (e : TypeId) : Prop := ∃ cur fr, w.heap[b]? = some (.cells cur e fr)
theorem Typed.ne {w : World} {a b : Nat} {e f : TypeId} (h : Typed w a e) (k : Typed w b f) (hne : e ≠ f) : a ≠ b := by
  rintro rfl
  obtain ⟨_, _, h⟩ := h
  obtain ⟨_, _, k⟩ := k
  rw [h] at k
  cases k
  exact hne rfl
theorem Typed.lt {w : World} {b : Nat} {e : TypeId} (h : Typed w b e) : b < w.heap.size := by
  obtain ⟨_, _, h⟩ := h
  exact (Array.getElem?_eq_some_iff.1 h).1

/-- Of what lies here nothing turns: below base, and blocks that are of another type than e. -/
structure Kept (base : Nat) (e : TypeId) (w w' : World) : Prop where
  bel : Below base w w'
  typed : ∀ b f, f ≠ e → Typed w b f → w'.heap[b]? = w.heap[b]?
theorem Kept.refl (base : Nat) (e : TypeId) (w : World) : Kept base e w w := ⟨Below.refl _ _, fun _ _ _ _ => rfl⟩
theorem Kept.trans {base : Nat} {e : TypeId} {a b c : World} (h : Kept base e a b) (k : Kept base e b c) : Kept base e a c := by
  refine ⟨h.bel.trans k.bel, fun x f hf ht => ?_⟩
  have h1 := h.typed x f hf ht
  obtain ⟨cur, fr, hx⟩ := ht
  rw [k.typed x f hf ⟨cur, fr, h1.trans hx⟩, h1]
theorem Kept.of_below {base : Nat} {e : TypeId} {w w' : World} (h : Below w.heap.size w w') (hb : base ≤ w.heap.size) : Kept base e w w' :=
  ⟨h.mono hb, fun b f _ ht => h.block b ht.lt⟩
theorem Kept.is {base : Nat} {e f : TypeId} {w w' : World} (h : Kept base e w w') (hf : f ≠ e) {b : Nat} (ht : Typed w b f) : Typed w' b f := by
  have := h.typed b f hf ht
  obtain ⟨cur, fr, hx⟩ := ht
  exact ⟨cur, fr, this.trans hx⟩

/-- A list of nodes that lies below base or in a block of nodes. -/
def NT (w : World) (base : Nat) (q : Option Addr) (L : List Nd) : Prop := NL w q L ∧ (L = [] ∨ ∃ b o, q = some ⟨b, o, none⟩ ∧ (b < base ∨ Typed w b 33))
theorem NT.kept {w w' : World} {base : Nat} {e : TypeId} {q : Option Addr} {L : List Nd} (h : NT w base q L) (k : Kept base e w w') (he : 33 ≠ e) : NT w' base q L := by
  obtain ⟨h1, h2⟩ := h
  rcases h2 with rfl | ⟨b, o, rfl, hb⟩
  · exact ⟨.inl rfl, .inl rfl⟩
  · have hblk : w'.heap[b]? = w.heap[b]? := by
      rcases hb with hb | hb
      · exact k.bel.block b hb
      · exact k.typed b _ he hb
    refine ⟨?_, .inr ⟨b, o, rfl, hb.imp id (fun ht => k.is he ht)⟩⟩
    rcases h1 with h1 | ⟨b', o', h3, h4, h5⟩
    · exact .inl h1
    · cases h3
      refine .inr ⟨b, o, rfl, Nat.lt_of_lt_of_le h4 k.bel.size, fun i x hx => ?_⟩
      have hq : ∀ a, w'.cell? ⟨b, a, none⟩ = w.cell? ⟨b, a, none⟩ := fun a => World.cell?_of_block hblk
      simp only [hq]
      exact h5 i x hx
theorem NT.old {w : World} {base : Nat} {q : Option Addr} {L : List Nd} (h : NL w q L) (hb : base = w.heap.size) : NT w base q L := by
  refine ⟨h, ?_⟩
  rcases h with h | ⟨b, o, h1, h2, _⟩
  · exact .inl h
  · exact .inr ⟨b, o, h1, .inl (by omega)⟩

/-- A row of the call's own, an element a cell, in a block of type e. -/
def Row1 (w : World) (base : Nat) (e : TypeId) (v : Value) (xs : List Value) : Prop := w.ownsRow base e 1 v xs.length xs
theorem Row1.nil (w : World) (base : Nat) (e : TypeId) : Row1 w base e (.slice none 0 0) [] := World.ownsRow_nil _ _ _ _
theorem Row1.typed {w : World} {base : Nat} {e : TypeId} {v : Value} {xs : List Value} (h : Row1 w base e v xs) : ∀ g, v.ownBlock = some g → base ≤ g ∧ Typed w g e := by
  intro g hg
  rcases h.2 with ⟨rfl, _⟩ | ⟨g', cap, cur, rfl, hb, hgg, _⟩
  · simp [Value.ownBlock] at hg
  · simp [Value.ownBlock] at hg
    subst hg
    exact ⟨hb, cur, _, hgg⟩
theorem Row1.kept {w w' : World} {base : Nat} {e f : TypeId} {v : Value} {xs : List Value} (h : Row1 w base f v xs) (k : Kept base e w w') (hf : f ≠ e) : Row1 w' base f v xs := by
  refine ⟨h.1, ?_⟩
  rcases h.2 with hn | ⟨g, cap, cur, rfl, hb, hgg, rest⟩
  · exact .inl hn
  · exact .inr ⟨g, cap, cur, rfl, hb, (k.typed g f hf ⟨cur, _, hgg⟩).trans hgg, rest⟩
theorem Row1.slice {w : World} {base : Nat} {e : TypeId} {v : Value} {xs : List Value} (h : Row1 w base e v xs) : ∃ q c, v = .slice q xs.length c ∧ xs.length ≤ c ∧ c ≤ maxLen ∧ (xs = [] ∨ ∃ g, q = some ⟨g, 0, none⟩ ∧ Typed w g e ∧ base ≤ g ∧ ∀ i u, xs[i]? = some u → w.cell? ⟨g, i, none⟩ = some u) := by
  have hc := fun g hg => World.ownsRow.cells h (g := g) hg
  have ht := h.typed
  rcases h.2 with ⟨rfl, hn⟩ | ⟨g, cap, cur, rfl, hb, hgg, hle, hm, _⟩
  · obtain rfl := List.eq_nil_of_length_eq_zero hn
    exact ⟨none, 0, rfl, Nat.le_refl _, Nat.zero_le _, .inl rfl⟩
  · refine ⟨some ⟨g, 0, none⟩, cap, rfl, hle, hm, .inr ⟨g, rfl, (ht g rfl).2, hb, fun i u hu => ?_⟩⟩
    have := hc g rfl i u hu
    have hadd : (⟨g, 0, none⟩ : Addr).add i = ⟨g, i, none⟩ := by unfold Addr.add; split <;> simp_all
    rw [hadd] at this
    exact this

theorem append_cell (w : World) {ops : Array Oper} {rest : List Oper} {o : Oper} {a : Act} {Q : Exit → Act → World → Prop} (hgd : o.guard = none) (s x : Operand) (t e : TypeId)
    (ho : o.op = .call { callee := .builtin .append, args := #[s, x], argTypes := #[t, t] }) (ht : Try.prog.underlying t = some (.slice e)) (z : Value) (bytes : Nat)
    (hinfo : (Try.prog.info? e).map (fun i => (i.zero, i.size, i.bytes)) = some (some z, 1, bytes)) (hz : z.cells.size = 1)
    (base : Nat) (v : Value) (xs : List Value) (hs : a.eval s = v) (hown : Row1 w base e v xs) (u : Value) (hu : u.oneCell' = true) (hx : a.eval x = .slice (some ⟨w.heap.size, 0, none⟩) 1 1)
    (h63 : xs.length + 1 ≤ maxLen) (hlen : (xs.length + 1) * bytes ≤ 140737488355328) (hbase : base ≤ w.heap.size)
    (h : ∀ v' w', Row1 w' base e v' (xs ++ [u]) → Kept base e w w' → wpList Try.prog ops Q rest (a.put o.dst v') w') : wpList Try.prog ops Q (o :: rest) a (w.alloc (.cells #[u] e)) := by
  obtain ⟨i0, hi, hz0, hz1, hz2⟩ := info_parts hinfo
  have hown2 : (w.alloc (.cells #[u] e)).ownsRow base e 1 v xs.length xs := World.ownsRow.alloc hown _
  refine wpList_append_own _ hgd s x t ho base e i0 z 1 bytes ht hi hz0 hz1 hz2 hz (by decide) v xs.length xs hs hown2 ⟨w.heap.size, 0, none⟩ 1 1 [u] hx rfl ?_ ?_ h63 hlen ?_ ?_
  · intro j y hj
    match j, hj with
    | 0, hj => simp at hj; subst hj; simp [Addr.add]
  · intro y hy; simp at hy; subst hy; exact hu
  · simp; omega
  · intro v' w' h1 h2 _
    refine h v' w' (by unfold Row1; rw [List.length_append]; exact h1) ?_
    refine ⟨((Below.refl base w).alloc hbase (.cells #[u] e)).grown h2 (by simp; omega) (fun k hk => (hown.typed k hk).1), fun b f hf hty => ?_⟩
    have hlt := hty.lt
    rw [h2.block b (by simp; omega) (fun hb => ?_)]
    · exact Below.heap_alloc _ _ _ hlt
    · exact (hown.typed b hb.symm).2.ne hty (fun hh => hf hh.symm) rfl
end Go.Proofs.Ytjbjheeigdblkab
