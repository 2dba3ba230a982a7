/- Rows that a call makes, an element a cell: what an append does to one of them, and that it leaves others alone. Nodes in a row of the call's own, and nodes appended to it. What is kept but for some blocks; rows of the call's own by their cells; parts of five cells. Parts of types and of values in memory: rows of parts, each with the row of its own; in which blocks they lie. Package kinds: count, onto, fit, by walks of their own texts. Package kinds: isType, areFields, isField, by walks of their own texts. Package kinds: areFields, isType, by walks of their own texts. Package kinds: first, by a walk of its own text. Package kinds: read, by a walk of its own text. Package kinds: read tells an error. (Parted out of KiZ.) Nodes that are just one value; what Has tells, by number. No program is named here. (Parted out of KiHa.) Schemas, plain: what is wrong with one; is a store, is a request as it may be. No walk is here. Lists of texts in memory, and in rows of the call's own. Kinds, acts and schemas in memory. Package schema: names (put, checkNames); slices.Contains at texts: by walks of their own texts. Package kinds: Check, by a walk of its own text. The statements on kinds: Check of an argument. Package schema: checkRec, checkKinds: by walks of their own texts. (Parted out of ScK.) Rows that a call makes: lists of lists of nodes; what an append does to one of them, and that it leaves the others alone. Package kinds: leaf, setOf, recOf, fieldOf, by walks of their own texts. Nodes in a block laid by a literal. (Parted out of EvA.) -/
import Derived.Test.YtgkbegomekhpcaaGreatDoorC11
import Derived.WalkSpells
import Derived.Laws.IdiomStrings
import Derived.Laws.BytesArg
import Derived.Maps.AppendAt
import Derived.Test.YtgkbegomekhpcaaGreatDoorC10
import Derived.Test.YtgkbegomekhpcaaGreatDoorC6
import Derived.Laws.StructEq
import Derived.Test.YtgkbegomekhpcaaGreatDoorC12
import Derived.Maps.OwnSet
import Derived.Maps.OwnOps
namespace Go.Proofs.YtgkbegomekhpcaaGreatDoor
open Go.RowKit
set_option linter.unusedVariables false

theorem Tryz.infoNode : (Tryz.prog.info? 33).map (fun i => (i.zero, i.size, i.bytes)) = some (some (.agg #[.int .i64 0, .int .i64 0, .string ⟨#[]⟩, .string ⟨#[]⟩]), 4, 48) := by kernel_rfl

/-- A block of that element type, so that two of unlike types are not one. -/
def Typed (w : World) (b : Nat) (e : TypeId) : Prop := ∃ cur fr, w.heap[b]? = some (.cells cur e fr)
theorem Typed.ne {w : World} {a b : Nat} {e f : TypeId} (h : Typed w a e) (k : Typed w b f) (hne : e ≠ f) : a ≠ b := by
  rintro rfl
  obtain ⟨_, _, h⟩ := h
  obtain ⟨_, _, k⟩ := k
  rw [h] at k
  cases k
  exact hne rfl
theorem Typed.lt {w : World} {b : Nat} {e : TypeId} (h : Typed w b e) : b < w.heap.size := by
  obtain ⟨_, _, h⟩ := h
  exact (Array.getElem?_eq_some_iff.1 h).1

/-- Of what lies here nothing turns: below base, and blocks that are of another type than e. -/
structure Kept (base : Nat) (e : TypeId) (w w' : World) : Prop where
  bel : Below base w w'
  typed : ∀ b f, f ≠ e → Typed w b f → w'.heap[b]? = w.heap[b]?
theorem Kept.refl (base : Nat) (e : TypeId) (w : World) : Kept base e w w := ⟨Below.refl _ _, fun _ _ _ _ => rfl⟩
theorem Kept.trans {base : Nat} {e : TypeId} {a b c : World} (h : Kept base e a b) (k : Kept base e b c) : Kept base e a c := by
  refine ⟨h.bel.trans k.bel, fun x f hf ht => ?_⟩
  have h1 := h.typed x f hf ht
  obtain ⟨cur, fr, hx⟩ := ht
  rw [k.typed x f hf ⟨cur, fr, h1.trans hx⟩, h1]
theorem Kept.of_below {base : Nat} {e : TypeId} {w w' : World} (h : Below w.heap.size w w') (hb : base ≤ w.heap.size) : Kept base e w w' :=
  ⟨h.mono hb, fun b f _ ht => h.block b ht.lt⟩
theorem Kept.is {base : Nat} {e f : TypeId} {w w' : World} (h : Kept base e w w') (hf : f ≠ e) {b : Nat} (ht : Typed w b f) : Typed w' b f := by
  have := h.typed b f hf ht
  obtain ⟨cur, fr, hx⟩ := ht
  exact ⟨cur, fr, this.trans hx⟩

/-- A list of nodes that lies below base or in a block of nodes. -/
def NT (w : World) (base : Nat) (q : Option Addr) (L : List Nd) : Prop := NL w q L ∧ (L = [] ∨ ∃ b o, q = some ⟨b, o, none⟩ ∧ (b < base ∨ Typed w b 33))
theorem NT.kept {w w' : World} {base : Nat} {e : TypeId} {q : Option Addr} {L : List Nd} (h : NT w base q L) (k : Kept base e w w') (he : 33 ≠ e) : NT w' base q L := by
  obtain ⟨h1, h2⟩ := h
  rcases h2 with rfl | ⟨b, o, rfl, hb⟩
  · exact ⟨.inl rfl, .inl rfl⟩
  · have hblk : w'.heap[b]? = w.heap[b]? := by
      rcases hb with hb | hb
      · exact k.bel.block b hb
      · exact k.typed b _ he hb
    refine ⟨?_, .inr ⟨b, o, rfl, hb.imp id (fun ht => k.is he ht)⟩⟩
    rcases h1 with h1 | ⟨b', o', h3, h4, h5⟩
    · exact .inl h1
    · cases h3
      refine .inr ⟨b, o, rfl, Nat.lt_of_lt_of_le h4 k.bel.size, fun i x hx => ?_⟩
      have hq : ∀ a, w'.cell? ⟨b, a, none⟩ = w.cell? ⟨b, a, none⟩ := fun a => World.cell?_of_block hblk
      simp only [hq]
      exact h5 i x hx
theorem NT.old {w : World} {base : Nat} {q : Option Addr} {L : List Nd} (h : NL w q L) (hb : base = w.heap.size) : NT w base q L := by
  refine ⟨h, ?_⟩
  rcases h with h | ⟨b, o, h1, h2, _⟩
  · exact .inl h
  · exact .inr ⟨b, o, h1, .inl (by omega)⟩

/-- A row of the call's own, an element a cell, in a block of type e. -/
def Row1 (w : World) (base : Nat) (e : TypeId) (v : Value) (xs : List Value) : Prop := w.ownsRow base e 1 v xs.length xs
theorem Row1.nil (w : World) (base : Nat) (e : TypeId) : Row1 w base e (.slice none 0 0) [] := World.ownsRow_nil _ _ _ _
theorem Row1.typed {w : World} {base : Nat} {e : TypeId} {v : Value} {xs : List Value} (h : Row1 w base e v xs) : ∀ g, v.ownBlock = some g → base ≤ g ∧ Typed w g e := by
  intro g hg
  rcases h.2 with ⟨rfl, _⟩ | ⟨g', cap, cur, rfl, hb, hgg, _⟩
  · simp [Value.ownBlock] at hg
  · simp [Value.ownBlock] at hg
    subst hg
    exact ⟨hb, cur, _, hgg⟩
theorem Row1.kept {w w' : World} {base : Nat} {e f : TypeId} {v : Value} {xs : List Value} (h : Row1 w base f v xs) (k : Kept base e w w') (hf : f ≠ e) : Row1 w' base f v xs := by
  refine ⟨h.1, ?_⟩
  rcases h.2 with hn | ⟨g, cap, cur, rfl, hb, hgg, rest⟩
  · exact .inl hn
  · exact .inr ⟨g, cap, cur, rfl, hb, (k.typed g f hf ⟨cur, _, hgg⟩).trans hgg, rest⟩
theorem Row1.slice {w : World} {base : Nat} {e : TypeId} {v : Value} {xs : List Value} (h : Row1 w base e v xs) : ∃ q c, v = .slice q xs.length c ∧ xs.length ≤ c ∧ c ≤ maxLen ∧ (xs = [] ∨ ∃ g, q = some ⟨g, 0, none⟩ ∧ Typed w g e ∧ base ≤ g ∧ ∀ i u, xs[i]? = some u → w.cell? ⟨g, i, none⟩ = some u) := by
  have hc := fun g hg => World.ownsRow.cells h (g := g) hg
  have ht := h.typed
  rcases h.2 with ⟨rfl, hn⟩ | ⟨g, cap, cur, rfl, hb, hgg, hle, hm, _⟩
  · obtain rfl := List.eq_nil_of_length_eq_zero hn
    exact ⟨none, 0, rfl, Nat.le_refl _, Nat.zero_le _, .inl rfl⟩
  · refine ⟨some ⟨g, 0, none⟩, cap, rfl, hle, hm, .inr ⟨g, rfl, (ht g rfl).2, hb, fun i u hu => ?_⟩⟩
    have := hc g rfl i u hu
    have hadd : (⟨g, 0, none⟩ : Addr).add i = ⟨g, i, none⟩ := by unfold Addr.add; split <;> simp_all
    rw [hadd] at this
    exact this

theorem append_cell (w : World) {ops : Array Oper} {rest : List Oper} {o : Oper} {a : Act} {Q : Exit → Act → World → Prop} (hgd : o.guard = none) (s x : Operand) (t e : TypeId)
    (ho : o.op = .call { callee := .builtin .append, args := #[s, x], argTypes := #[t, t] }) (ht : Tryz.prog.underlying t = some (.slice e)) (z : Value) (bytes : Nat)
    (hinfo : (Tryz.prog.info? e).map (fun i => (i.zero, i.size, i.bytes)) = some (some z, 1, bytes)) (hz : z.cells.size = 1)
    (base : Nat) (v : Value) (xs : List Value) (hs : a.eval s = v) (hown : Row1 w base e v xs) (u : Value) (hu : u.oneCell' = true) (hx : a.eval x = .slice (some ⟨w.heap.size, 0, none⟩) 1 1)
    (h63 : xs.length + 1 ≤ maxLen) (hlen : (xs.length + 1) * bytes ≤ 140737488355328) (hbase : base ≤ w.heap.size)
    (h : ∀ v' w', Row1 w' base e v' (xs ++ [u]) → Kept base e w w' → wpList Tryz.prog ops Q rest (a.put o.dst v') w') : wpList Tryz.prog ops Q (o :: rest) a (w.alloc (.cells #[u] e)) := by
  obtain ⟨i0, hi, hz0, hz1, hz2⟩ := info_parts hinfo
  have hown2 : (w.alloc (.cells #[u] e)).ownsRow base e 1 v xs.length xs := World.ownsRow.alloc hown _
  refine wpList_append_own _ hgd s x t ho base e i0 z 1 bytes ht hi hz0 hz1 hz2 hz (by decide) v xs.length xs hs hown2 ⟨w.heap.size, 0, none⟩ 1 1 [u] hx rfl ?_ ?_ h63 hlen ?_ ?_
  · intro j y hj
    match j, hj with
    | 0, hj => simp at hj; subst hj; simp [Addr.add]
  · intro y hy; simp at hy; subst hy; exact hu
  · simp; omega
  · intro v' w' h1 h2 _
    refine h v' w' (by unfold Row1; rw [List.length_append]; exact h1) ?_
    refine ⟨((Below.refl base w).alloc hbase (.cells #[u] e)).grown h2 (by simp; omega) (fun k hk => (hown.typed k hk).1), fun b f hf hty => ?_⟩
    have hlt := hty.lt
    rw [h2.block b (by simp; omega) (fun hb => ?_)]
    · exact Below.heap_alloc _ _ _ hlt
    · exact (hown.typed b hb.symm).2.ne hty (fun hh => hf hh.symm) rfl
end Go.Proofs.YtgkbegomekhpcaaGreatDoor
namespace Go.Proofs.YtgkbegomekhpcaaGreatDoor
open Go.RowKit
set_option linter.unusedVariables false

def ncells (L : List Nd) : List Value := L.flatMap fun x => [.int .i64 x.op, .int .i64 x.n, .string x.s, .string x.t]
theorem ncells_length (L : List Nd) : (ncells L).length = L.length * 4 := by
  induction L with
  | nil => rfl
  | cons x L ih => simp [ncells] at *; omega
theorem ncells_at (L : List Nd) (i j : Nat) (hj : j < 4) : (ncells L)[i * 4 + j]? = (L[i]?).bind fun x => [Value.int .i64 x.op, .int .i64 x.n, .string x.s, .string x.t][j]? := by
  induction L generalizing i with
  | nil => simp [ncells]
  | cons x L ih =>
    have e : ncells (x :: L) = [.int .i64 x.op, .int .i64 x.n, .string x.s, .string x.t] ++ ncells L := by simp [ncells]
    rw [e]
    cases i with
    | zero =>
      rw [List.getElem?_append_left (by simp; omega)]
      simp
    | succ i =>
      rw [List.getElem?_append_right (by simp; omega)]
      have := ih i
      simp only [List.length_cons, List.length_nil, List.getElem?_cons_succ]
      rw [← this]
      congr 1; omega
theorem ncells_one (L : List Nd) : ∀ u ∈ ncells L, u.oneCell' = true := by
  intro u hu
  simp only [ncells, List.mem_flatMap] at hu
  obtain ⟨x, _, hu⟩ := hu
  simp at hu
  rcases hu with rfl | rfl | rfl | rfl <;> rfl
theorem NL.cells {w : World} {b off : Nat} {L : List Nd} (h : NL w (some ⟨b, off, none⟩) L) : ∀ j u, (ncells L)[j]? = some u → w.cell? ⟨b, off + j, none⟩ = some u := by
  intro j u hu
  rcases h with rfl | ⟨b', o', h1, h2, h3⟩
  · simp [ncells] at hu
  · cases h1
    have hj : j = (j / 4) * 4 + j % 4 := by omega
    rw [hj, ncells_at L (j / 4) (j % 4) (by omega)] at hu
    cases hx : L[j / 4]? with
    | none => rw [hx] at hu; simp at hu
    | some x =>
      rw [hx] at hu
      obtain ⟨c0, c1, c2, c3, _⟩ := h3 _ x hx
      have hm : j % 4 = 0 ∨ j % 4 = 1 ∨ j % 4 = 2 ∨ j % 4 = 3 := by omega
      rw [hj]
      rcases hm with e | e | e | e <;> rw [e] at hu ⊢ <;> simp at hu <;> subst hu
      · exact c0
      · rw [← Nat.add_assoc]; exact c1
      · rw [← Nat.add_assoc]; exact c2
      · rw [← Nat.add_assoc]; exact c3

/-- The nodes of a row of the call's own. -/
theorem NL.of_row {w : World} {base : Nat} {v : Value} {L : List Nd} (hw : ∀ x ∈ L, x.wf) (h : w.ownsRow base 33 4 v L.length (ncells L)) : ∃ q c, v = .slice q L.length c ∧ NT w 0 q L ∧ L.length ≤ c ∧ c ≤ maxLen := by
  have hc := fun g hg => World.ownsRow.cells h (g := g) hg
  rcases h.2 with ⟨rfl, hn⟩ | ⟨g, cap, cur, rfl, hb, hgg, hle, hm, _⟩
  · obtain rfl := List.eq_nil_of_length_eq_zero hn
    exact ⟨none, 0, rfl, ⟨.inl rfl, .inl rfl⟩, Nat.le_refl _, Nat.zero_le _⟩
  · refine ⟨_, cap, rfl, ⟨.inr ⟨g, 0, rfl, (Array.getElem?_eq_some_iff.1 hgg).1, fun i x hx => ?_⟩, .inr ⟨g, 0, rfl, .inr ⟨cur, _, hgg⟩⟩⟩, hle, hm⟩
    have q : ∀ j, j < 4 → w.cell? ⟨g, i * 4 + j, none⟩ = [Value.int .i64 x.op, .int .i64 x.n, .string x.s, .string x.t][j]? := fun j hj => by
      have e := ncells_at L i j hj
      rw [hx] at e
      have hadd : (⟨g, 0, none⟩ : Addr).add (i * 4 + j) = ⟨g, i * 4 + j, none⟩ := by unfold Addr.add; split <;> simp_all
      obtain ⟨u, hu⟩ : ∃ u, [Value.int .i64 x.op, .int .i64 x.n, .string x.s, .string x.t][j]? = some u := ⟨_, List.getElem?_eq_getElem (by simpa using hj)⟩
      have := hc g rfl (i * 4 + j) u (by rw [e]; exact hu)
      rw [hadd] at this
      rw [this, hu]
    refine ⟨?_, ?_, ?_, ?_, hw x (List.mem_of_getElem? hx)⟩
    · have := q 0 (by omega); simpa using this
    · have := q 1 (by omega); simpa using this
    · have := q 2 (by omega); simpa using this
    · have := q 3 (by omega); simpa using this

theorem NT.any {w : World} {base : Nat} {q : Option Addr} {L : List Nd} (h : NT w 0 q L) : NT w base q L :=
  ⟨h.1, h.2.imp id fun ⟨b, o, h1, h2⟩ => ⟨b, o, h1, h2.elim (fun h => absurd h (Nat.not_lt_zero _)) .inr⟩⟩

theorem NL.wfs {w : World} {q : Option Addr} {L : List Nd} (h : NL w q L) : ∀ x ∈ L, x.wf := by
  intro x hx
  obtain ⟨i, hi⟩ := List.getElem?_of_mem hx
  rcases h with rfl | ⟨b, o, _, _, h3⟩
  · cases hx
  · exact (h3 i x hi).2.2.2.2

/-- Nodes in a row of the call's own. -/
def ON (w : World) (base : Nat) (v : Value) (L : List Nd) : Prop := w.ownsRow base 33 4 v L.length (ncells L) ∧ ∀ x ∈ L, x.wf

theorem ON.slice {w : World} {base : Nat} {v : Value} {L : List Nd} (h : ON w base v L) (hne : L ≠ []) : ∃ g cap, v = .slice (some ⟨g, 0, none⟩) L.length cap ∧ base ≤ g ∧ g < w.heap.size ∧ L.length ≤ cap ∧ cap ≤ maxLen ∧ NL w (some ⟨g, 0, none⟩) L ∧ ∀ j, w.frozen? ⟨g, j, none⟩ = false := by
  rcases h.1.2 with ⟨_, hn⟩ | ⟨g, cap, cur, hv, hb, hgg, hle, hm, _⟩
  · exact absurd (List.eq_nil_of_length_eq_zero hn) hne
  · obtain ⟨q, c, e, hnt, _⟩ := NL.of_row h.2 h.1
    rw [hv] at e
    cases e
    refine ⟨g, cap, hv, hb, (Array.getElem?_eq_some_iff.1 hgg).1, hle, hm, hnt.1, fun j => ?_⟩
    simp [World.frozen?, hgg]

theorem ncells_append (a b : List Nd) : ncells (a ++ b) = ncells a ++ ncells b := by simp [ncells]

theorem ON.typed {w : World} {base : Nat} {v : Value} {L : List Nd} (h : ON w base v L) : ∀ g, v.ownBlock = some g → base ≤ g ∧ Typed w g 33 := by
  intro g hg
  rcases h.1.2 with ⟨rfl, _⟩ | ⟨g', cap, cur, rfl, hb, hgg, _⟩
  · simp [Value.ownBlock] at hg
  · simp [Value.ownBlock] at hg
    subst hg
    exact ⟨hb, cur, _, hgg⟩
theorem ON.below {w w' : World} {base : Nat} {v : Value} {L : List Nd} (h : ON w base v L) (k : Below w.heap.size w w') : ON w' base v L := by
  refine ⟨⟨h.1.1, ?_⟩, h.2⟩
  rcases h.1.2 with hn | ⟨g, cap, cur, rfl, hb, hgg, rest⟩
  · exact .inl hn
  · exact .inr ⟨g, cap, cur, rfl, hb, (k.block g (Array.getElem?_eq_some_iff.1 hgg).1).trans hgg, rest⟩

theorem append_nodes (w : World) {ops : Array Oper} {rest : List Oper} {o : Oper} {a : Act} {Q : Exit → Act → World → Prop} (hgd : o.guard = none) (s x : Operand)
    (ho : o.op = .call { callee := .builtin .append, args := #[s, x], argTypes := #[26, 26] })
    (base : Nat) (v : Value) (L : List Nd) (hs : a.eval s = v) (hown : ON w base v L) (M : List Nd) (n : Nat) (hn : M.length = n) (b off c : Nat) (hN : NL w (some ⟨b, off, none⟩) M)
    (hx : a.eval x = .slice (some ⟨b, off, none⟩) n c) (hlen : L.length + M.length ≤ 1099511627776) (hbase : base ≤ w.heap.size)
    (h : ∀ v' w', ON w' base v' (L ++ M) → Kept base 33 w w' → wpList Tryz.prog ops Q rest (a.put o.dst v') w') : wpList Tryz.prog ops Q (o :: rest) a w := by
  subst hn
  obtain ⟨i0, hi, hz0, hz1, hz2⟩ := info_parts Tryz.infoNode
  refine wpList_append_own _ hgd s x 26 ho base 33 i0 _ 4 48 Tryz.underlying26 hi hz0 hz1 hz2 rfl (by decide) v L.length (ncells L) hs hown.1 ⟨b, off, none⟩ M.length c (ncells M) hx (ncells_length M) ?_ (ncells_one _) (by unfold maxLen; omega) (by omega) hbase ?_
  · intro j u hu
    have hadd : (⟨b, off, none⟩ : Addr).add j = ⟨b, off + j, none⟩ := by unfold Addr.add; split <;> simp_all
    rw [hadd]; exact hN.cells j u hu
  · intro v' w' h1 h2 _
    refine h v' w' ⟨?_, fun x hx => ?_⟩ ⟨(Below.refl base w).grown h2 hbase (fun k hk => (hown.typed k hk).1), fun bb f hf hty => h2.block bb hty.lt (fun e => (hown.typed bb e.symm).2.ne hty (fun hh => hf hh.symm) rfl)⟩
    · rw [ncells_append, List.length_append]; exact h1
    · rcases List.mem_append.1 hx with hx | hx
      · exact hown.2 x hx
      · exact hN.wfs x hx
end Go.Proofs.YtgkbegomekhpcaaGreatDoor
namespace Go.Proofs.YtgkbegomekhpcaaGreatDoor
open Go.RowKit
set_option linter.unusedVariables false
set_option maxRecDepth 100000

def pcl (x : Nd) (v : Value) : List Value := [.int .i64 x.op, .int .i64 x.n, .string x.s, .string x.t, v]
def partV (x : Nd) (v : Value) : Value := .agg #[.int .i64 x.op, .int .i64 x.n, .string x.s, .string x.t, v]
/-- All is kept but what lies in S. -/
structure Keep (S : Nat → Prop) (w w' : World) : Prop where
  os : w'.os = w.os
  tape : w'.tape = w.tape
  output : w'.output = w.output
  size : w.heap.size ≤ w'.heap.size
  block : ∀ a, a < w.heap.size → ¬ S a → w'.heap[a]? = w.heap[a]?
theorem Keep.of_below {S : Nat → Prop} {w w' : World} (h : Below w.heap.size w w') : Keep S w w' := ⟨h.os, h.tape, h.output, h.size, fun a ha _ => h.block a ha⟩
theorem Keep.below {S : Nat → Prop} {w w' : World} (h : Keep S w w') {N : Nat} (hN : N ≤ w.heap.size) (hS : ∀ a, S a → N ≤ a) : Below N w w' := ⟨h.os, h.tape, h.output, h.size, fun a ha => h.block a (by omega) (fun e => by have := hS a e; omega)⟩
theorem Keep.refl (S : Nat → Prop) (w : World) : Keep S w w := ⟨rfl, rfl, rfl, Nat.le_refl _, fun _ _ _ => rfl⟩
theorem Keep.trans {S S2 : Nat → Prop} {w w1 w2 : World} (h : Keep S w w1) (k : Keep S2 w1 w2) (hs : ∀ a, S2 a → S a ∨ w.heap.size ≤ a) : Keep S w w2 :=
  ⟨k.os.trans h.os, k.tape.trans h.tape, k.output.trans h.output, Nat.le_trans h.size k.size, fun a ha hn => (k.block a (Nat.lt_of_lt_of_le ha h.size) (fun e => (hs a e).elim hn (by omega))).trans (h.block a ha hn)⟩
theorem Keep.mono {S S2 : Nat → Prop} {w w1 : World} (h : Keep S w w1) (hs : ∀ a, S a → S2 a) : Keep S2 w w1 := ⟨h.os, h.tape, h.output, h.size, fun a ha hn => h.block a ha (fun e => hn (hs a e))⟩
theorem Keep.cell {S : Nat → Prop} {w w' : World} (h : Keep S w w') {p : Addr} (hl : p.block < w.heap.size) (hn : ¬ S p.block) : w'.cell? p = w.cell? p := World.cell?_of_block (h.block _ hl hn)

theorem ownP_lt {w : World} {base : Nat} {T : TypeId} {m : Nat} {v : Value} {n : Nat} {l : List Value} (h : w.ownsRow base T m v n l) {g : Nat} (hg : v.ownBlock = some g) : g < w.heap.size ∧ base ≤ g := by
  rcases h.2 with ⟨rfl, _⟩ | ⟨g', cap, cur, rfl, hb, hh, _⟩
  · simp [Value.ownBlock] at hg
  · simp only [Value.ownBlock, Option.some.injEq] at hg
    subst hg
    exact ⟨(Array.getElem?_eq_some_iff.1 hh).1, hb⟩
theorem ownP_agree {w w' : World} {base : Nat} {T : TypeId} {m : Nat} {v : Value} {n : Nat} {l : List Value} (h : w.ownsRow base T m v n l) (hw : ∀ g, v.ownBlock = some g → g < w.heap.size → w'.heap[g]? = w.heap[g]?) : w'.ownsRow base T m v n l := by
  refine ⟨h.1, ?_⟩
  rcases h.2 with h2 | ⟨g, cap, cur, rfl, hb, hh, r⟩
  · exact .inl h2
  · exact .inr ⟨g, cap, cur, rfl, hb, (hw g rfl (Array.getElem?_eq_some_iff.1 hh).1).trans hh, r⟩
/-- The cells of a row. -/
theorem ownP_cell {w : World} {base : Nat} {T : TypeId} {m : Nat} {v : Value} {n : Nat} {l : List Value} (h : w.ownsRow base T m v n l) {j : Nat} {u : Value} (hj : l[j]? = some u) : ∃ g cap, v = .slice (some ⟨g, 0, none⟩) n cap ∧ g < w.heap.size ∧ w.cell? ⟨g, j, none⟩ = some u ∧ w.frozen? ⟨g, j, none⟩ = false := by
  rcases h.2 with ⟨rfl, h0⟩ | ⟨g, cap, cur, rfl, hb, hh, _⟩
  · have := h.1
    rw [h0, Nat.zero_mul] at this
    rw [List.eq_nil_of_length_eq_zero this] at hj
    simp at hj
  · have := h.cells (g := g) rfl j u hj
    rw [show (⟨g, 0, none⟩ : Addr).add j = ⟨g, j, none⟩ by unfold Addr.add; split <;> simp_all] at this
    exact ⟨g, cap, rfl, (Array.getElem?_eq_some_iff.1 hh).1, this, by simp [World.frozen?, hh]⟩
/-- A part's cells, at its place. -/
structure PC (w : World) (g o : Nat) (x : Nd) (u : Value) : Prop where
  lt : g < w.heap.size
  cells : w.cell? ⟨g, o, none⟩ = some (.int .i64 x.op) ∧ w.cell? ⟨g, o + 1, none⟩ = some (.int .i64 x.n) ∧ w.cell? ⟨g, o + 2, none⟩ = some (.string x.s) ∧ w.cell? ⟨g, o + 3, none⟩ = some (.string x.t) ∧ w.cell? ⟨g, o + 4, none⟩ = some u
theorem PC.bel {N : Nat} {w w' : World} {g o : Nat} {x : Nd} {u : Value} (h : PC w g o x u) (k : Below N w w') (hl : g < N) : PC w' g o x u := by
  obtain ⟨h0, h1, h2, h3, h4⟩ := h.cells
  exact ⟨Nat.lt_of_lt_of_le h.lt k.size, (k.cell (p := ⟨g, o, none⟩) hl).trans h0, (k.cell (p := ⟨g, o + 1, none⟩) hl).trans h1, (k.cell (p := ⟨g, o + 2, none⟩) hl).trans h2, (k.cell (p := ⟨g, o + 3, none⟩) hl).trans h3, (k.cell (p := ⟨g, o + 4, none⟩) hl).trans h4⟩
theorem PC.up {w w' : World} {g o : Nat} {x : Nd} {u : Value} (h : PC w g o x u) (k : Below w.heap.size w w') : PC w' g o x u := h.bel k h.lt
theorem PC.keep {S : Nat → Prop} {w w' : World} {g o : Nat} {x : Nd} {u : Value} (h : PC w g o x u) (k : Keep S w w') (hn : ¬ S g) : PC w' g o x u := by
  obtain ⟨h0, h1, h2, h3, h4⟩ := h.cells
  exact ⟨Nat.lt_of_lt_of_le h.lt k.size, (k.cell (p := ⟨g, o, none⟩) h.lt hn).trans h0, (k.cell (p := ⟨g, o + 1, none⟩) h.lt hn).trans h1, (k.cell (p := ⟨g, o + 2, none⟩) h.lt hn).trans h2, (k.cell (p := ⟨g, o + 3, none⟩) h.lt hn).trans h3, (k.cell (p := ⟨g, o + 4, none⟩) h.lt hn).trans h4⟩
/-- Five cells of a row are changed. -/
theorem set_five {la lb : List Value} {b0 b1 b2 b3 b4 : Value} (a0 a1 a2 a3 a4 : Value) {p : Nat} (hp : la.length = p) : (((((la ++ ([b0, b1, b2, b3, b4] ++ lb)).set p a0).set (p + 1) a1).set (p + 2) a2).set (p + 3) a3).set (p + 4) a4 = la ++ ([a0, a1, a2, a3, a4] ++ lb) := by
  subst hp
  induction la with
  | nil => rfl
  | cons z la ih =>
    simp only [List.cons_append, List.length_cons, show ∀ j, la.length + 1 + j = la.length + j + 1 from fun j => by omega, List.set_cons_succ]
    exact congrArg (z :: ·) ih
theorem keep_set (w : World) (g o : Nat) (z : Value) : Keep (fun a => a = g) w (w.setCell ⟨g, o, none⟩ z) := by
  have h := (Below.refl 0 w).setCell (p := ⟨g, o, none⟩) (Nat.zero_le _) z
  exact ⟨h.os, h.tape, h.output, h.size, fun a _ hne => heap_setCell_other w ⟨g, o, none⟩ a z hne⟩
theorem own_put {w : World} {base : Nat} {T : TypeId} {v : Value} {n : Nat} {la lb : List Value} {x y : Nd} {u u2 : Value} (h : w.ownsRow base T 5 v n (la ++ (pcl x u ++ lb))) {g p : Nat} (hg : v.ownBlock = some g) (hp : la.length = p) {w' : World}
    (hw : w' = ((((w.setCell ⟨g, p, none⟩ (.int .i64 y.op)).setCell ⟨g, p + 1, none⟩ (.int .i64 y.n)).setCell ⟨g, p + 2, none⟩ (.string y.s)).setCell ⟨g, p + 3, none⟩ (.string y.t)).setCell ⟨g, p + 4, none⟩ u2) :
    w'.ownsRow base T 5 v n (la ++ (pcl y u2 ++ lb)) ∧ Keep (fun a => a = g) w w' := by
  have hn := h.1
  rcases h.2 with ⟨rfl, h0⟩ | ⟨g', cap, cur, rfl, hb, hh, h1, h2, h3, h4⟩
  · simp [Value.ownBlock] at hg
  · simp only [Value.ownBlock, Option.some.injEq] at hg
    subst hg
    have e1 := heap_setCell_same w g' p _ _ (.int .i64 y.op) hh
    have e2 := heap_setCell_same _ g' (p + 1) _ _ (.int .i64 y.n) e1
    have e3 := heap_setCell_same _ g' (p + 2) _ _ (.string y.s) e2
    have e4 := heap_setCell_same _ g' (p + 3) _ _ (.string y.t) e3
    have e5 := heap_setCell_same _ g' (p + 4) _ _ u2 e4
    subst hw
    refine ⟨⟨by rw [← hn]; simp [pcl], .inr ⟨g', cap, _, rfl, hb, e5, h1, h2, by simp [h3], ?_⟩⟩, ?_⟩
    · simp only [Array.toList_setIfInBounds, List.take_set, h4]
      exact set_five _ _ _ _ _ hp
    · have q : ∀ (W : World) (o : Nat) (z : Value), Keep (fun a => a = g') W (W.setCell ⟨g', o, none⟩ z) := fun W o z => keep_set W g' o z
      have t : ∀ {a b c : World}, Keep (fun a => a = g') a b → Keep (fun a => a = g') b c → Keep (fun a => a = g') a c := fun h k => h.trans k (fun _ e => .inl e)
      exact t (t (t (t (q _ _ _) (q _ _ _)) (q _ _ _)) (q _ _ _)) (q _ _ _)
theorem ownP_slice {w : World} {base : Nat} {T : TypeId} {m : Nat} {v : Value} {n : Nat} {l : List Value} (h : w.ownsRow base T m v n l) : ∃ q c, v = .slice q n c := by
  rcases h.2 with ⟨rfl, h0⟩ | ⟨g, cap, cur, rfl, _⟩
  · exact ⟨none, 0, by rw [h0]⟩
  · exact ⟨_, _, rfl⟩
theorem fnew_at {w : World} {o : Array Value} {T : TypeId} {N : Nat} (h : N = w.heap.size) : (w.alloc (.cells o T)).heap[N]? = some (.cells o T (0, 0)) := by subst h; exact heap_alloc_new _ _
theorem ON.any {w : World} {base : Nat} {v : Value} {L : List Nd} (h : ON w base v L) : ∃ q c, v = .slice q L.length c := by
  rcases h.1.2 with ⟨rfl, h0⟩ | ⟨g, cap, cur, rfl, _⟩
  · exact ⟨none, 0, by rw [h0]⟩
  · exact ⟨_, _, rfl⟩
theorem kqt {a b c : World} (h : Below a.heap.size a b) (k : Below b.heap.size b c) : Below a.heap.size a c := h.trans (k.mono h.size)
theorem kqA {a b : World} (h : Below a.heap.size a b) {o : Obj} : Below a.heap.size a (b.alloc o) := kqt h ((Below.refl _ _).alloc (Nat.le_refl _) o)
theorem kqD {a b : World} (h : Below a.heap.size a b) : Below a.heap.size a b.drew := ⟨h.os, h.tape, h.output, h.size, h.block⟩
theorem kqx {a b : World} (h : Below a.heap.size a b := by repeat (first | exact Below.refl _ _ | apply kqA | apply kqD)) : Below a.heap.size a b := h
end Go.Proofs.YtgkbegomekhpcaaGreatDoor
namespace Go.Proofs.YtgkbegomekhpcaaGreatDoor
open Go.RowKit
set_option linter.unusedVariables false
set_option maxRecDepth 100000

theorem Tryz.infoPartK : (Tryz.prog.info? 81).map (fun i => (i.zero, i.size, i.bytes)) = some (some (.agg #[.int .i64 0, .int .i64 0, .string ⟨#[]⟩, .string ⟨#[]⟩, .slice none 0 0]), 5, 72) := by kernel_rfl
/-- A row of parts by its cells; what lies below it lies in blocks of S. -/
def RK (w : World) : Tp → List Value → (Nat → Prop) → Prop
  | .nil, l, S => l = []
  | .cons x k r, l, S => ∃ (v : Value) (l' lk : List Value), l = pcl x v ++ l' ∧ x.wf ∧ w.ownsRow 0 81 5 v k.len lk ∧ (∀ g, v.ownBlock = some g → S g) ∧ RK w k lk S ∧ RK w r l' S
/-- The value that leads to a row of parts. -/
def VK (w : World) (k : Tp) (v : Value) (S : Nat → Prop) : Prop :=
  ∃ lk : List Value, w.ownsRow 0 81 5 v k.len lk ∧ (∀ g, v.ownBlock = some g → S g) ∧ RK w k lk S
theorem RK.cons_iff {w : World} {x : Nd} {k r : Tp} {l : List Value} {S : Nat → Prop} : RK w (.cons x k r) l S ↔ ∃ (v : Value) (l' : List Value), l = pcl x v ++ l' ∧ x.wf ∧ VK w k v S ∧ RK w r l' S := by
  constructor
  · rintro ⟨v, l', lk, h1, h2, h3, h4, h5, h6⟩
    exact ⟨v, l', h1, h2, ⟨lk, h3, h4, h5⟩, h6⟩
  · rintro ⟨v, l', h1, h2, ⟨lk, h3, h4, h5⟩, h6⟩
    exact ⟨v, l', lk, h1, h2, h3, h4, h5, h6⟩
theorem RK.agree {w w' : World} : ∀ {t : Tp} {l : List Value} {S : Nat → Prop}, RK w t l S → (∀ a, S a → a < w.heap.size → w'.heap[a]? = w.heap[a]?) → RK w' t l S
  | .nil, l, S, h, _ => h
  | .cons x k r, l, S, h, hw => by
    obtain ⟨v, l', lk, h1, h2, h3, h4, h5, h6⟩ := h
    exact ⟨v, l', lk, h1, h2, ownP_agree h3 (fun g hg => hw g (h4 g hg)), h4, h5.agree hw, h6.agree hw⟩
theorem VK.agree {w w' : World} {k : Tp} {v : Value} {S : Nat → Prop} (h : VK w k v S) (hw : ∀ a, S a → a < w.heap.size → w'.heap[a]? = w.heap[a]?) : VK w' k v S := by
  obtain ⟨lk, h1, h2, h3⟩ := h
  exact ⟨lk, ownP_agree h1 (fun g hg => hw g (h2 g hg)), h2, h3.agree hw⟩
theorem VK.up {w w' : World} {k : Tp} {v : Value} {S : Nat → Prop} (h : VK w k v S) (hb : Below w.heap.size w w') : VK w' k v S := h.agree (fun a _ ha => hb.block a ha)
theorem RK.up {w w' : World} {k : Tp} {v : List Value} {S : Nat → Prop} (h : RK w k v S) (hb : Below w.heap.size w w') : RK w' k v S := h.agree (fun a _ ha => hb.block a ha)
theorem VK.bel {w w' : World} {k : Tp} {v : Value} {S : Nat → Prop} {N : Nat} (h : VK w k v S) (hb : Below N w w') (hS : ∀ a, S a → a < N) : VK w' k v S := h.agree (fun a ha _ => hb.block a (hS a ha))
theorem RK.sub {w : World} : ∀ {t : Tp} {l : List Value} {S S2 : Nat → Prop}, RK w t l S → (∀ a, S a → S2 a) → RK w t l S2
  | .nil, l, S, S2, h, _ => h
  | .cons x k r, l, S, S2, h, hs => by
    obtain ⟨v, l', lk, h1, h2, h3, h4, h5, h6⟩ := h
    exact ⟨v, l', lk, h1, h2, h3, fun g hg => hs g (h4 g hg), h5.sub hs, h6.sub hs⟩
theorem VK.sub {w : World} {k : Tp} {v : Value} {S S2 : Nat → Prop} (h : VK w k v S) (hs : ∀ a, S a → S2 a) : VK w k v S2 := by
  obtain ⟨lk, h1, h2, h3⟩ := h
  exact ⟨lk, h1, fun g hg => hs g (h2 g hg), h3.sub hs⟩
theorem VK.nil (w : World) (S : Nat → Prop) : VK w .nil (.slice none 0 0) S := ⟨[], ⟨rfl, .inl ⟨rfl, rfl⟩⟩, fun g hg => by simp [Value.ownBlock] at hg, rfl⟩
theorem VK.slice {w : World} {k : Tp} {v : Value} {S : Nat → Prop} (h : VK w k v S) : ∃ q c, v = .slice q k.len c ∧ k.len ≤ c ∧ c ≤ maxLen := by
  obtain ⟨lk, h1, _⟩ := h
  rcases h1.2 with ⟨rfl, h0⟩ | ⟨g, cap, cur, rfl, _, _, h2, h3, _⟩
  · exact ⟨none, 0, by rw [h0], by omega, Nat.zero_le _⟩
  · exact ⟨_, cap, rfl, h2, h3⟩
theorem VK.one {w : World} {k : Tp} {v : Value} {S : Nat → Prop} (h : VK w k v S) : v.oneCell' = true := by
  obtain ⟨q, c, rfl, _⟩ := h.slice
  rfl
theorem RK.real {w : World} : ∀ {t : Tp} {l : List Value} {S : Nat → Prop}, RK w t l S → RK w t l (fun a => S a ∧ a < w.heap.size)
  | .nil, l, S, h => h
  | .cons x k r, l, S, h => by
    obtain ⟨v, l', lk, h1, h2, h3, h4, h5, h6⟩ := h
    exact ⟨v, l', lk, h1, h2, h3, fun g hg => ⟨h4 g hg, (ownP_lt h3 hg).1⟩, h5.real, h6.real⟩
/-- Only the blocks that are there. -/
theorem VK.real {w : World} {k : Tp} {v : Value} {S : Nat → Prop} (h : VK w k v S) : VK w k v (fun a => S a ∧ a < w.heap.size) := by
  obtain ⟨lk, h1, h2, h3⟩ := h
  exact ⟨lk, h1, fun g hg => ⟨h2 g hg, (ownP_lt h1 hg).1⟩, h3.real⟩
theorem RK.len {w : World} : ∀ {t : Tp} {l : List Value} {S : Nat → Prop}, RK w t l S → l.length = t.len * 5
  | .nil, l, S, h => by rw [show l = [] from h]; simp [Tp.len]
  | .cons x k r, l, S, h => by
    obtain ⟨v, l', rfl, _, _, h5⟩ := RK.cons_iff.1 h
    simp [pcl, Tp.len, h5.len]
    omega
theorem RK.split {w : World} : ∀ {a b : Tp} {l : List Value} {S : Nat → Prop}, RK w (a.app b) l S → ∃ la lb, l = la ++ lb ∧ RK w a la S ∧ RK w b lb S
  | .nil, b, l, S, h => ⟨[], l, rfl, rfl, h⟩
  | .cons x k r, b, l, S, h => by
    obtain ⟨v, l', rfl, h2, h3, h4⟩ := RK.cons_iff.1 h
    obtain ⟨la, lb, rfl, h7, h8⟩ := RK.split h4
    exact ⟨pcl x v ++ la, lb, by simp, RK.cons_iff.2 ⟨v, la, rfl, h2, h3, h7⟩, h8⟩
theorem RK.join {w : World} : ∀ {a b : Tp} {la lb : List Value} {S : Nat → Prop}, RK w a la S → RK w b lb S → RK w (a.app b) (la ++ lb) S
  | .nil, b, la, lb, S, ha, hb => by rw [show la = [] from ha]; exact hb
  | .cons x k r, b, la, lb, S, ha, hb => by
    obtain ⟨v, l', rfl, g2, g3, g4⟩ := RK.cons_iff.1 ha
    exact RK.cons_iff.2 ⟨v, l' ++ lb, by simp, g2, g3, RK.join g4 hb⟩
theorem RK.one {w : World} {x : Nd} {k : Tp} {v : Value} {S : Nat → Prop} (hx : x.wf) (h : VK w k v S) : RK w (.cons x k .nil) (pcl x v) S := RK.cons_iff.2 ⟨v, [], by simp, hx, h, rfl⟩
/-- The part at a place of a row. -/
theorem VK.at {w : World} {a r k : Tp} {x : Nd} {v : Value} {S : Nat → Prop} (h : VK w (a.app (.cons x k r)) v S) : ∃ g cap u, v = .slice (some ⟨g, 0, none⟩) (a.len + (r.len + 1)) cap ∧ PC w g (a.len * 5) x u ∧ x.wf ∧ VK w k u S ∧ S g := by
  obtain ⟨lk, h1, h2, h3⟩ := h
  obtain ⟨la, lb, rfl, h5, h6⟩ := RK.split h3
  obtain ⟨u, l', rfl, g2, g3, g4⟩ := RK.cons_iff.1 h6
  have hla := h5.len
  have hc : ∀ j, j < 5 → (la ++ (pcl x u ++ l'))[a.len * 5 + j]? = (pcl x u)[j]? := fun j hj => by
    rw [List.getElem?_append_right (by omega), List.getElem?_append_left (by simp [pcl]; omega)]
    congr 1; omega
  obtain ⟨g, cap, rfl, hg, c0, _⟩ := ownP_cell h1 (hc 0 (by omega))
  obtain ⟨_, _, e1, _, c1, _⟩ := ownP_cell h1 (hc 1 (by omega))
  cases e1
  obtain ⟨_, _, e1, _, c2, _⟩ := ownP_cell h1 (hc 2 (by omega))
  cases e1
  obtain ⟨_, _, e1, _, c3, _⟩ := ownP_cell h1 (hc 3 (by omega))
  cases e1
  obtain ⟨_, _, e1, _, c4, _⟩ := ownP_cell h1 (hc 4 (by omega))
  cases e1
  exact ⟨g, cap, u, by rw [tp_app_len]; rfl, ⟨hg, c0, c1, c2, c3, c4⟩, g2, g3, h2 g rfl⟩
/-- A part in a block of its own. -/
structure PBk (w : World) (B : Nat) (x : Nd) (v : Value) : Prop where
  blk : w.heap[B]? = some (.cells #[.int .i64 x.op, .int .i64 x.n, .string x.s, .string x.t, v] 81 (0, 0))
theorem PBk.lt {w : World} {B : Nat} {x : Nd} {v : Value} (h : PBk w B x v) : B < w.heap.size := (Array.getElem?_eq_some_iff.1 h.blk).1
theorem PBk.up {w w' : World} {B : Nat} {x : Nd} {v : Value} (h : PBk w B x v) (hb : Below w.heap.size w w') : PBk w' B x v := ⟨(hb.block B h.lt).trans h.blk⟩
theorem PBk.bel {N : Nat} {w w' : World} {B : Nat} {x : Nd} {v : Value} (h : PBk w B x v) (hb : Below N w w') (hl : B < N) : PBk w' B x v := ⟨(hb.block B hl).trans h.blk⟩
theorem PBk.keep {S : Nat → Prop} {w w' : World} {B : Nat} {x : Nd} {v : Value} (h : PBk w B x v) (hb : Keep S w w') (hl : ¬ S B) : PBk w' B x v := ⟨(hb.block B h.lt hl).trans h.blk⟩
theorem PBk.kept {w w' : World} {B base : Nat} {x : Nd} {v : Value} (h : PBk w B x v) (hb : Kept base 33 w w') : PBk w' B x v := ⟨(hb.typed B 81 (by decide) ⟨_, _, h.blk⟩).trans h.blk⟩
theorem PBk.new (w : World) (x : Nd) (v : Value) {N : Nat} (h : N = w.heap.size) : PBk (w.alloc (.cells #[.int .i64 x.op, .int .i64 x.n, .string x.s, .string x.t, v] 81)) N x v := ⟨fnew_at h⟩
theorem PBk.cells {w : World} {B : Nat} {x : Nd} {v : Value} (h : PBk w B x v) : w.cell? ⟨B, 0, none⟩ = some (.int .i64 x.op) ∧ w.cell? ⟨B, 1, none⟩ = some (.int .i64 x.n) ∧ w.cell? ⟨B, 2, none⟩ = some (.string x.s) ∧ w.cell? ⟨B, 3, none⟩ = some (.string x.t) ∧ w.cell? ⟨B, 4, none⟩ = some v := by
  have := h.blk
  simp [World.cell?, this]
theorem PBk.free {w : World} {B : Nat} {x : Nd} {v : Value} (h : PBk w B x v) (j : Nat) : w.frozen? ⟨B, j, none⟩ = false := by
  have := h.blk
  simp [World.frozen?, this]
def zN : Nd := ⟨0, 0, ⟨#[]⟩, ⟨#[]⟩⟩
theorem PBk.put {w w' : World} {B : Nat} {x y : Nd} {u v : Value} (h : PBk w B y v) (hw : w' = ((((w.setCell ⟨B, 0, none⟩ (.int .i64 x.op)).setCell ⟨B, 1, none⟩ (.int .i64 x.n)).setCell ⟨B, 2, none⟩ (.string x.s)).setCell ⟨B, 3, none⟩ (.string x.t)).setCell ⟨B, 4, none⟩ u) : PBk w' B x u ∧ Keep (fun a => a = B) w w' := by
  have e1 := heap_setCell_same w B 0 _ _ (.int .i64 x.op) h.blk
  have e2 := heap_setCell_same _ B 1 _ _ (.int .i64 x.n) e1
  have e3 := heap_setCell_same _ B 2 _ _ (.string x.s) e2
  have e4 := heap_setCell_same _ B 3 _ _ (.string x.t) e3
  have e5 := heap_setCell_same _ B 4 _ _ u e4
  subst hw
  have q : ∀ (W : World) (o : Nat) (z : Value), Keep (fun a => a = B) W (W.setCell ⟨B, o, none⟩ z) := fun W o z => keep_set W B o z
  have t : ∀ {a b c : World}, Keep (fun a => a = B) a b → Keep (fun a => a = B) b c → Keep (fun a => a = B) a c := fun h k => h.trans k (fun _ e => .inl e)
  exact ⟨⟨e5⟩, t (t (t (t (q _ _ _) (q _ _ _)) (q _ _ _)) (q _ _ _)) (q _ _ _)⟩
theorem PBk.put4 {w w' : World} {B : Nat} {x : Nd} {u v : Value} (h : PBk w B x v) (hw : w' = w.setCell ⟨B, 4, none⟩ u) : PBk w' B x u ∧ Keep (fun a => a = B) w w' := by
  have e5 := heap_setCell_same _ B 4 _ _ u h.blk
  subst hw
  exact ⟨⟨e5⟩, keep_set w B 4 u⟩
/-- One more behind a row. -/
theorem append_partK (w : World) {ops : Array Oper} {rest : List Oper} {o : Oper} {a : Act} {Q : Exit → Act → World → Prop} (hgd : o.guard = none) (s x : Operand)
    (ho : o.op = .call { callee := .builtin .append, args := #[s, x], argTypes := #[79, 79] })
    (v : Value) (n : Nat) (l : List Value) (hs : a.eval s = v) (hown : w.ownsRow 0 81 5 v n l) (y : Nd) (u : Value) (hu : u.oneCell' = true)
    (hx : a.eval x = .slice (some ⟨w.heap.size, 0, none⟩) 1 1) (hlen : n + 1 ≤ 1000000)
    (h : ∀ v' w', w'.ownsRow 0 81 5 v' (n + 1) (l ++ pcl y u) → w.grownBy w' v.ownBlock → (∀ g, v'.ownBlock = some g → v.ownBlock = some g ∨ w.heap.size ≤ g) → wpList Tryz.prog ops Q rest (a.put o.dst v') w') :
    wpList Tryz.prog ops Q (o :: rest) a (w.alloc (.cells #[.int .i64 y.op, .int .i64 y.n, .string y.s, .string y.t, u] 81)) := by
  obtain ⟨i0, hi, hz0, hz1, hz2⟩ := info_parts Tryz.infoPartK
  have hb : Below w.heap.size w (w.alloc (.cells #[.int .i64 y.op, .int .i64 y.n, .string y.s, .string y.t, u] 81)) := (Below.refl _ _).alloc (Nat.le_refl _) _
  have hown2 := ownP_agree (w' := w.alloc (.cells #[.int .i64 y.op, .int .i64 y.n, .string y.s, .string y.t, u] 81)) hown (fun g _ hg => hb.block g hg)
  refine wpList_append_own_at _ hgd s x 79 ho 0 81 i0 _ 5 72 Tryz.underlying79 hi hz0 hz1 hz2 rfl (by decide) v n l hs hown2 ⟨w.heap.size, 0, none⟩ 1 1 (pcl y u) hx rfl ?_ ?_ (by unfold maxLen; omega) (by omega) (Nat.zero_le _) ?_
  · intro j z hj
    match j, hj with
    | 0, hj => simp [pcl] at hj; subst hj; simp [Addr.add]
    | 1, hj => simp [pcl] at hj; subst hj; simp [Addr.add]
    | 2, hj => simp [pcl] at hj; subst hj; simp [Addr.add]
    | 3, hj => simp [pcl] at hj; subst hj; simp [Addr.add]
    | 4, hj => simp [pcl] at hj; subst hj; simp [Addr.add]
  · intro z hz
    simp only [pcl, List.mem_cons, List.not_mem_nil, or_false] at hz
    rcases hz with rfl | rfl | rfl | rfl | rfl
    · rfl
    · rfl
    · rfl
    · rfl
    · exact hu
  · intro v' w' h1 h2 _ h4
    have hs2 : (w.alloc (.cells #[.int .i64 y.op, .int .i64 y.n, .string y.s, .string y.t, u] 81)).heap.size = w.heap.size + 1 := by simp
    refine h v' w' h1 ⟨h2.os.trans hb.os, h2.tape.trans hb.tape, h2.output.trans hb.output, Nat.le_trans hb.size h2.size, fun k hk hne => (h2.block k (by omega) hne).trans (hb.block k hk)⟩ (fun g hg => ?_)
    rcases h4 with h4 | h4
    · exact .inl (by rw [← h4]; exact hg)
    · rw [h4] at hg
      injection hg with hg
      exact .inr (by omega)
theorem NL.oneK (W : World) (g : Nat) (x : Nd) (hx : x.wf) (hg : W.heap.size = g) : NL (W.alloc (.cells #[.int .i64 x.op, .int .i64 x.n, .string x.s, .string x.t] 33)) (some ⟨g, 0, none⟩) [x] := by
  subst hg
  refine .inr ⟨W.heap.size, 0, rfl, by simp, fun i y hy => ?_⟩
  rcases i with _ | i
  · simp at hy
    subst hy
    simp [go_sem, hx]
  · simp at hy
end Go.Proofs.YtgkbegomekhpcaaGreatDoor
namespace Go.Proofs.YtgkbegomekhpcaaGreatDoor
open Go.RowKit
set_option linter.unusedVariables false
set_option maxRecDepth 100000

set_option maxHeartbeats 2000000 in
theorem countK_any (x : Nd) (v : Value) (w : World) :
    Calls Tryz.prog 68 #[partV x v] w fun e w' => e = .returned (.int .i64 (cntK x)) ∧ Below w.heap.size w w' := by
  obtain ⟨xo, xn, xs, xt⟩ := x
  unfold partV cntK
  dsimp only
  by_cases hd : xo = 5 ∨ xo = 6 ∨ xo = 46 ∨ xo = 7 ∨ xo = 45 ∨ xo = 47
  · rcases hd with rfl | rfl | rfl | rfl | rfl | rfl
    all_goals
      go_enter Tryz.func68, Tryz.ntmps68
      go_wp2
      go_ret
      exact ⟨rfl, (Below.refl _ _).alloc (Nat.le_refl _) _⟩
  · have hr : (if xo = 5 ∨ xo = 6 ∨ xo = 46 then xn else if xo = 7 ∨ xo = 45 ∨ xo = 47 then (1 : Int) else 0) = 0 := by
      rw [if_neg (by omega), if_neg (by omega)]
    rw [hr]
    have e1 : (xo == 5) = false := by rw [beq_eq_false_iff_ne]; omega
    have e2 : (xo == 6) = false := by rw [beq_eq_false_iff_ne]; omega
    have e3 : (xo == 46) = false := by rw [beq_eq_false_iff_ne]; omega
    have e4 : (xo == 7) = false := by rw [beq_eq_false_iff_ne]; omega
    have e5 : (xo == 45) = false := by rw [beq_eq_false_iff_ne]; omega
    have e6 : (xo == 47) = false := by rw [beq_eq_false_iff_ne]; omega
    clear hd hr
    go_enter Tryz.func68, Tryz.ntmps68
    go_wp2
    go_ret
    exact ⟨rfl, (Below.refl _ _).alloc (Nat.le_refl _) _⟩
/-- What onto does. -/
def OntoK (x : Nd) (k : Tp) : Prop := ∀ (w : World) (v : Value) (S : Nat → Prop) (base : Nat) (ev : Value) (L : List Nd), VK w k v S → (∀ a, S a → a < base) → x.wf → base ≤ w.heap.size → ON w base ev L → L.length + k.flat.length + 1 ≤ 1000000 →
  Calls Tryz.prog 74 #[partV x v, ev] w fun en w' => (∃ ev', en = .returned ev' ∧ ON w' base ev' (L ++ x :: k.flat)) ∧ Kept base 33 w w'
set_option maxHeartbeats 4000000 in
theorem ontoK_step (x : Nd) (k : Tp) (ih : ∀ y ky, ky.flat.length < k.flat.length → OntoK y ky) : OntoK x k := by
  intro w v S base ev L hv hS hx hbase hO hlen
  obtain ⟨q, c, rfl, hkc, hcm⟩ := hv.slice
  have HV : Hid (VK w k (.slice q k.len c) S) := hv
  have HIH : Hid (∀ y ky, ky.flat.length < k.flat.length → OntoK y ky) := ih
  have HS : Hid (∀ a, S a → a < base) := hS
  have HL : Hid (L.length + k.flat.length + 1 ≤ 1000000) := hlen
  have hkb : k.len ≤ 1000000 := by have := tp_len_flat k; omega
  clear hv ih hS hlen
  obtain ⟨W, hW⟩ : ∃ W, W = w.alloc (.cells #[.int .i64 x.op, .int .i64 x.n, .string x.s, .string x.t, .slice q k.len c] 81) := ⟨_, rfl⟩
  have hbW : Below w.heap.size w W := by rw [hW]; exact (Below.refl _ _).alloc (Nat.le_refl _) _
  have hB_0 : PBk W w.heap.size x (.slice q k.len c) := by rw [hW]; exact PBk.new w x _ rfl
  have hWs : W.heap.size = w.heap.size + 1 := by rw [hW]; simp
  have hO_0 := hO.below hbW
  have hk_0 : Kept base 33 w W := Kept.of_below hbW hbase
  obtain ⟨V, hV⟩ : ∃ V, V = W.alloc (.cells #[.int .i64 x.op, .int .i64 x.n, .string x.s, .string x.t] 33) := ⟨_, rfl⟩
  have hbV : Below W.heap.size W V := by rw [hV]; exact (Below.refl _ _).alloc (Nat.le_refl _) _
  have hNL : NL V (some ⟨w.heap.size + 1, 0, none⟩) [x] := by rw [hV]; exact NL.oneK W _ x hx hWs
  have hO_1 := hO_0.below hbV
  have hB_1 := hB_0.up hbV
  have hk_1 : Kept base 33 w V := hk_0.trans (Kept.of_below hbV (by omega))
  have hbs : base ≤ V.heap.size := Nat.le_trans (by omega) hbV.size
  have hll : L.length + ([x] : List Nd).length ≤ 1099511627776 := by have := HL.out; simp; omega
  obtain ⟨c0, c1, c2, c3, c4⟩ := hB_0.cells
  obtain ⟨eq, ec, rfl⟩ := hO.any
  unfold partV
  go_enter Tryz.func74, Tryz.ntmps74
  go_wp2_with (first | (at_builtin; rw [← hW, ← hV]; refine append_nodes V rfl (.tmp 7) (.tmp 10) rfl base (.slice eq L.length ec) L rfl hO_1 [x] 1 rfl (w.heap.size + 1) 0 1 hNL rfl hll hbs ?_; intro v1 w2 hO_2 hk2; have hB_2 := hB_1.kept hk2; obtain ⟨d0, d1, d2, d3, d4⟩ := hB_2.cells))
  go_loopw [1, 15] (fun e i wr => ∃ done todo : Tp, Hid (done.app todo = k) ∧ i = .int .i64 (done.len : Int) ∧ ON wr base e (L ++ x :: done.flat) ∧ Kept base 33 w wr) (fun _ i _ => k.len - (intOf i).toNat)
  case atStart => exact ⟨.nil, k, rfl, rfl, hO_2, hk_1.trans hk2⟩
  case round =>
    rename World => w3
    obtain ⟨done, todo, HD, rfl, hO_3, hk3⟩ := hrel
    cases todo with
    | nil =>
      have hd : done = k := by have := HD.out; rw [tp_app_nil] at this; exact this
      subst hd
      have i1 : ¬ (done.len : Int) < (done.len : Int) := by omega
      obtain ⟨M, hM⟩ : ∃ M, M = L ++ x :: done.flat := ⟨_, rfl⟩
      have HM : Hid (M = L ++ x :: done.flat) := hM
      rw [← hM] at hO_3
      clear hM
      obtain ⟨q3, c3, rfl⟩ := hO_3.any
      go_wp2
      go_ret
      exact ⟨⟨_, rfl, by rw [← HM.out]; exact hO_3⟩, hk3⟩
    | cons y ky r =>
      have hv3 : VK w3 k (.slice q k.len c) S := HV.out.bel hk3.bel HS.out
      have hkl : k.len = done.len + (r.len + 1) := by rw [← HD.out, tp_app_len]; rfl
      have hkf : k.flat.length = done.flat.length + (ky.flat.length + r.flat.length + 1) := by rw [← HD.out, tp_app_flat]; simp [Tp.flat] <;> omega
      have i1 : (done.len : Int) < (k.len : Int) := by omega
      rw [← HD.out] at hv3
      obtain ⟨g, cap, u, hu, hP, hyw, hvk, hSg⟩ := hv3.at
      rw [HD.out, ← hkl] at hu
      cases hu
      obtain ⟨qu, cu, rfl, _⟩ := hvk.slice
      obtain ⟨p0, p1, p2, p3, p4⟩ := hP.cells
      obtain ⟨W4, hW4⟩ : ∃ W4, W4 = w3.alloc (.cells #[.int .i64 y.op, .int .i64 y.n, .string y.s, .string y.t, .slice qu ky.len cu] 81) := ⟨_, rfl⟩
      have hb4 : Below w3.heap.size w3 W4 := by rw [hW4]; exact (Below.refl _ _).alloc (Nat.le_refl _) _
      have hB4 : PBk W4 w3.heap.size y (.slice qu ky.len cu) := by rw [hW4]; exact PBk.new w3 y _ rfl
      have hbs3 : base ≤ w3.heap.size := Nat.le_trans hbase hk3.bel.size
      have hC := HIH.out y ky (by omega) W4 _ S base u1 (L ++ x :: done.flat) (hvk.up hb4) HS.out hyw (Nat.le_trans hbs3 hb4.size) (hO_3.below hb4) (by have := HL.out; simp only [List.length_append, List.length_cons]; omega)
      unfold partV at hC
      obtain ⟨b0, b1, b2, b3, b4⟩ := hB4.cells
      have hk4 : Kept base 33 w W4 := hk3.trans (Kept.of_below hb4 hbs3)
      have HDn : Hid ((done.app (.cons y ky .nil)).app r = k) := by show _ = _; rw [tp_app_assoc, ← HD.out]; rfl
      have HF : Hid (L ++ x :: (done.app (.cons y ky .nil)).flat = L ++ x :: done.flat ++ y :: ky.flat) := by show _ = _; rw [tp_app_flat]; simp [Tp.flat]
      have HKL : Hid (k.len = done.len + (r.len + 1)) := hkl
      clear hv3 hvk hP hkl hkf
      go_wp2_with fail
      rw [← hW4]
      refine hC.mono ?_
      rintro _ w5 ⟨⟨e5, rfl, hO_5⟩, hk5⟩
      go_wp2_with fail
      go_roundw
      case rel => exact ⟨done.app (.cons y ky .nil), r, HDn, by rw [tp_app_len]; simp only [Tp.len]; go_num, by rw [HF.out]; exact hO_5, hk4.trans hk5⟩
      case measure => have := HKL.out; simp [intOf]; omega
theorem ontoK_any : ∀ (N : Nat) (x : Nd) (k : Tp), k.flat.length < N → OntoK x k
  | 0, x, k, h => by omega
  | N + 1, x, k, h => ontoK_step x k (fun y ky hy => ontoK_any N y ky (by omega))
end Go.Proofs.YtgkbegomekhpcaaGreatDoor
namespace Go.Proofs.YtgkbegomekhpcaaGreatDoor
open Go.RowKit
set_option linter.unusedVariables false
set_option maxRecDepth 100000

/-- The row of one part. -/
theorem VK.single {w : World} {a : Nd} {ka : Tp} {v : Value} {S : Nat → Prop} (h : VK w (.cons a ka .nil) v S) : ∃ g cap ua, v = .slice (some ⟨g, 0, none⟩) 1 cap ∧ PC w g 0 a ua ∧ a.wf ∧ VK w ka ua S := by
  obtain ⟨g, cap, ua, hv, h1, h2, h3, _⟩ := VK.at (a := .nil) h
  refine ⟨g, cap, ua, hv, ?_, h2, h3⟩
  simpa [Tp.len] using h1
/-- What isType does. -/
def IsTyK (x : Nd) (k : Tp) : Prop := ∀ (w : World) (v : Value) (S : Nat → Prop), VK w k v S → x.wf → arK (.cons x k .nil) → k.flat.length ≤ 1000 →
  Calls Tryz.prog 273 #[partV x v] w fun e w' => e = .returned (.bool (isTy none (.cons x k .nil))) ∧ Below w.heap.size w w'
/-- What areFields does. -/
def AreFK (k : Tp) : Prop := ∀ (w : World) (v : Value) (S : Nat → Prop), VK w k v S → arK k → k.flat.length ≤ 1000 →
  Calls Tryz.prog 311 #[v] w fun e w' => e = .returned (.bool (isTy (some e0) k)) ∧ Below w.heap.size w w'
theorem be0 {s : ByteArray} : s = e0 ↔ s.toList = [] := by
  rw [ByteArray.toList_eq]
  constructor
  · rintro rfl; rfl
  · intro h; exact bytes_inj (by rw [h]; rfl)
theorem ty_leaf (o n : Int) (s t : ByteArray) (ho : o = 41 ∨ o = 42 ∨ o = 43 ∨ o = 48 ∨ o = 49) : isTy none (.cons ⟨o, n, s, t⟩ .nil .nil) = decide (n = 0 ∧ s.toList = [] ∧ t.toList = []) := by
  rw [Bool.eq_iff_iff, isTy_none_cons, decide_eq_true_iff, ← be0, ← be0]
  constructor
  · rintro ⟨h, _⟩; cases h <;> first | exact ⟨rfl, rfl, rfl⟩ | omega
  · rintro ⟨rfl, rfl, rfl⟩; exact ⟨.leaf o ho, rfl⟩
theorem ty_ent (n : Int) (s t : ByteArray) : isTy none (.cons ⟨44, n, s, t⟩ .nil .nil) = decide (n = 0 ∧ t.toList = [] ∧ nfault s.data.toList = 0) := by
  rw [Bool.eq_iff_iff, isTy_none_cons, decide_eq_true_iff, ← be0]
  constructor
  · rintro ⟨h, _⟩
    cases h with
    | leaf op h => omega
    | ent s h => exact ⟨rfl, rfl, h⟩
  · rintro ⟨rfl, rfl, h⟩; exact ⟨.ent s h, rfl⟩
theorem ty_set (n : Int) (s t : ByteArray) (k : Tp) (hk : k.len = 1) : isTy none (.cons ⟨45, n, s, t⟩ k .nil) = (decide (n = 0 ∧ s.toList = [] ∧ t.toList = []) && isTy none k) := by
  rw [Bool.eq_iff_iff, isTy_none_cons, Bool.and_eq_true, decide_eq_true_iff, ← be0, ← be0]
  constructor
  · rintro ⟨h, _⟩
    cases h with
    | leaf op h => omega
    | set k h => exact ⟨⟨rfl, rfl, rfl⟩, h.2⟩
  · rintro ⟨⟨rfl, rfl, rfl⟩, h⟩; exact ⟨.set k ⟨hk, h⟩, rfl⟩
theorem ty_rcd (n : Int) (s t : ByteArray) (k : Tp) (hk : k.len = n.toNat) : isTy none (.cons ⟨46, n, s, t⟩ k .nil) = (decide (s.toList = [] ∧ t.toList = [] ∧ 0 ≤ n) && isTy (some e0) k) := by
  rw [Bool.eq_iff_iff, isTy_none_cons, Bool.and_eq_true, decide_eq_true_iff, ← be0, ← be0]
  constructor
  · rintro ⟨h, _⟩
    cases h with
    | leaf op h => omega
    | rcd k h => exact ⟨⟨rfl, rfl, by omega⟩, h⟩
  · rintro ⟨⟨rfl, rfl, h0⟩, h⟩
    obtain rfl : n = (k.len : Int) := by omega
    exact ⟨.rcd k h, rfl⟩
theorem ty_not (x : Nd) (k : Tp) (h : ¬ (41 ≤ x.op ∧ x.op ≤ 46 ∨ x.op = 48 ∨ x.op = 49)) : isTy none (.cons x k .nil) = false := by
  cases e : isTy none (.cons x k .nil) with
  | false => rfl
  | true =>
    obtain ⟨h1, _⟩ := isTy_none_cons.1 e
    cases h1 with
    | leaf op h2 => exact absurd (show 41 ≤ (lfN op).op ∧ (lfN op).op ≤ 46 ∨ (lfN op).op = 48 ∨ (lfN op).op = 49 by have : (lfN op).op = op := rfl; omega) h
    | ent s h2 => exact absurd (.inl ⟨by simp, by simp⟩) h
    | set k h2 => exact absurd (.inl ⟨by decide, by decide⟩) h
    | rcd k h2 => exact absurd (.inl ⟨by simp, by simp⟩) h
theorem retb {a b : Bool} (h : a = b) : Ending.returned (.bool a) = .returned (.bool b) := by rw [h]
set_option maxHeartbeats 4000000 in
theorem isTy_leaf (o n : Int) (s t : ByteArray) (k : Tp) (ho : o = 41 ∨ o = 42 ∨ o = 43 ∨ o = 48 ∨ o = 49) : IsTyK ⟨o, n, s, t⟩ k := by
  intro w v S hv hx har hl
  obtain ⟨hk, _, _⟩ := har
  have hk0 : k = .nil := tp_len0 (by rw [← hk]; unfold cntK; simp only []; rw [if_neg (by omega), if_neg (by omega)]; rfl)
  subst hk0
  obtain ⟨q, c, rfl, _⟩ := hv.slice
  rw [ty_leaf o n s t ho]
  have HL : Hid (∀ o1, Below w.heap.size w (w.alloc o1)) := fun o1 => kqx
  clear hv hk hx hl
  unfold partV
  dsimp only
  rcases ho with rfl | rfl | rfl | rfl | rfl
  all_goals
    go_enter Tryz.func273, Tryz.ntmps273
    go_wp2
    all_goals
      go_ret
      refine ⟨retb ?_, HL.out _⟩
      simp_all
set_option maxHeartbeats 4000000 in
theorem isTy_ent (n : Int) (s t : ByteArray) (k : Tp) : IsTyK ⟨44, n, s, t⟩ k := by
  intro w v S hv hx har hl
  obtain ⟨hk, _, _⟩ := har
  have hk0 : k = .nil := tp_len0 (by rw [← hk]; rfl)
  subst hk0
  obtain ⟨q, c, rfl, _⟩ := hv.slice
  rw [ty_ent n s t]
  have HL : Hid (∀ o1, Below w.heap.size w (w.alloc o1)) := fun o1 => kqx
  have HC := fun w => check_any s w hx.1
  clear hv hk hx hl
  unfold partV
  dsimp only
  by_cases hn : nfault s.data.toList = 0
  · rw [eV_nil hn] at HC
    go_enter Tryz.func273, Tryz.ntmps273
    go_wp2_with (go_at_call 38; refine (HC _).mono ?_; rintro e w1 ⟨rfl, rfl⟩)
    all_goals
      go_ret
      refine ⟨retb ?_, HL.out _⟩
      simp_all
  · rw [eV_not hn] at HC
    go_enter Tryz.func273, Tryz.ntmps273
    go_wp2_with (go_at_call 38; refine (HC _).mono ?_; rintro e w1 ⟨rfl, rfl⟩)
    all_goals
      go_ret
      refine ⟨retb ?_, HL.out _⟩
      simp_all
set_option maxHeartbeats 4000000 in
theorem isTy_set (n : Int) (s t : ByteArray) (k : Tp) (ih : ∀ y ky, ky.flat.length < k.flat.length → IsTyK y ky) : IsTyK ⟨45, n, s, t⟩ k := by
  intro w v S hv hx har hl
  obtain ⟨hk, hak, _⟩ := har
  have hk1 : k.len = 1 := by rw [← hk]; rfl
  rw [ty_set n s t k hk1]
  obtain ⟨y, ky, rfl⟩ := tp_len1 hk1
  obtain ⟨g, cap, u, rfl, hP, hyw, hu⟩ := hv.single
  obtain ⟨qu, cu, rfl, _⟩ := hu.slice
  simp only [Tp.flat, List.append_nil, List.length_cons] at ih hl
  have HL : Hid (∀ o1, Below w.heap.size w (w.alloc o1)) := fun o1 => kqx
  have HI := fun o1 => ih y ky (by omega) (w.alloc o1) _ S (hu.up (HL.out o1)) hyw hak (by omega)
  have HB : Hid (∀ o1 w', Below (w.alloc o1).heap.size (w.alloc o1) w' → Below w.heap.size w w') := fun o1 w' h => kqt (HL.out o1) h
  obtain ⟨c0, c1, c2, c3, c4⟩ := hP.cells
  dsimp only [Nat.zero_add, Nat.reduceAdd] at c0 c1 c2 c3 c4
  have hgl := hP.lt
  have n1 : ¬ g = w.heap.size := by omega
  clear hv hk hx hl hak ih hu hyw hk1 hP
  unfold partV at *
  dsimp only
  cases hb : isTy none (.cons y ky .nil) <;> rw [hb] at HI
  all_goals
    clear hb
    go_enter Tryz.func273, Tryz.ntmps273
    go_wp2_with (go_at_call 273; refine (HI _).mono ?_; rintro e w1 ⟨rfl, hb1⟩)
    all_goals
      go_ret
      refine ⟨retb ?_, by first | exact HL.out _ | exact HB.out _ _ hb1⟩
      simp_all
theorem leqK_no {a b : ByteArray} (h : cmpB b a < 0) : Op.bytesLess a.toList b.toList = false ∧ (a.toList == b.toList) = false := by
  rw [bytesLess_cb, ByteArray.toList_eq, ByteArray.toList_eq]
  have h1 := cmpB_is.neg a b
  refine ⟨?_, ?_⟩
  · rw [decide_eq_false_iff_not]
    show ¬ cmpB a b < 0
    omega
  · rw [beq_eq_false_iff_ne]
    intro e
    rw [bytes_inj e, cmpB_is.self] at h
    omega
theorem leqK_yes {a b : ByteArray} (h : ¬ cmpB b a < 0) : Op.bytesLess a.toList b.toList = true ∨ (Op.bytesLess a.toList b.toList = false ∧ (a.toList == b.toList) = true) := by
  rw [bytesLess_cb, ByteArray.toList_eq, ByteArray.toList_eq]
  have h1 := cmpB_is.neg a b
  by_cases h0 : cmpB a b < 0
  · exact .inl (decide_eq_true h0)
  · refine .inr ⟨decide_eq_false h0, ?_⟩
    rw [beq_iff_eq]
    have : a = b := (cmpB_is.zero a b).1 (by omega)
    rw [this]
set_option maxHeartbeats 4000000 in
theorem isTy_rcd (n : Int) (s t : ByteArray) (k : Tp) (ih : AreFK k) : IsTyK ⟨46, n, s, t⟩ k := by
  intro w v S hv hx har hl
  obtain ⟨hk, hak, _⟩ := har
  have hk1 : k.len = n.toNat := hk.symm
  rw [ty_rcd n s t k hk1]
  obtain ⟨q, c, rfl, _⟩ := hv.slice
  have HL : Hid (∀ o1, Below w.heap.size w (w.alloc o1)) := fun o1 => kqx
  have HI := fun o1 => ih (w.alloc o1) _ S (hv.up (HL.out o1)) hak hl
  have HB : Hid (∀ o1 w', Below (w.alloc o1).heap.size (w.alloc o1) w' → Below w.heap.size w w') := fun o1 w' h => kqt (HL.out o1) h
  clear hv hk hx hl hak ih hk1
  unfold partV at *
  dsimp only
  cases hb : isTy (some e0) k <;> rw [hb] at HI
  all_goals
    clear hb
    go_enter Tryz.func273, Tryz.ntmps273
    go_wp2_with (go_at_call 311; refine (HI _).mono ?_; rintro e w1 ⟨rfl, hb1⟩)
    all_goals
      go_ret
      refine ⟨retb ?_, by first | exact HL.out _ | exact HB.out _ _ hb1⟩
      simp_all
set_option maxHeartbeats 4000000 in
theorem isTy_none (x : Nd) (k : Tp) (h : ¬ (41 ≤ x.op ∧ x.op ≤ 46 ∨ x.op = 48 ∨ x.op = 49)) : IsTyK x k := by
  intro w v S hv hx har hl
  rw [ty_not x k h]
  obtain ⟨q, c, rfl, _⟩ := hv.slice
  obtain ⟨xo, xn, xs, xt⟩ := x
  have HL : Hid (∀ o1, Below w.heap.size w (w.alloc o1)) := fun o1 => kqx
  clear hv hx har hl
  dsimp only at h
  have e1 : (xo == 41) = false := by rw [beq_eq_false_iff_ne]; omega
  have e2 : (xo == 42) = false := by rw [beq_eq_false_iff_ne]; omega
  have e3 : (xo == 43) = false := by rw [beq_eq_false_iff_ne]; omega
  have e4 : (xo == 44) = false := by rw [beq_eq_false_iff_ne]; omega
  have e5 : (xo == 45) = false := by rw [beq_eq_false_iff_ne]; omega
  have e6 : (xo == 46) = false := by rw [beq_eq_false_iff_ne]; omega
  have e7 : (xo == 48) = false := by rw [beq_eq_false_iff_ne]; omega
  have e8 : (xo == 49) = false := by rw [beq_eq_false_iff_ne]; omega
  clear h
  unfold partV
  dsimp only
  go_enter Tryz.func273, Tryz.ntmps273
  go_wp2
  go_ret
  exact ⟨rfl, HL.out _⟩
/-- May a part be a field of a record's type? -/
def fldB (x : Nd) (k : Tp) : Bool := decide (x.op = 47 ∧ (x.n = 0 ∨ x.n = 1) ∧ x.t.toList = [] ∧ nfault x.s.data.toList = 0) && isTy none k
theorem ty_flds {l : ByteArray} {x : Nd} {k r : Tp} (hk : x.op = 47 → k.len = 1) : isTy (some l) (.cons x k r) = (fldB x k && (decide (cmpB l x.s < 0) && isTy (some x.s) r)) := by
  have := Fl.cons_iff (l := l) (f := x) (kf := k) (r := r)
  unfold Fl T1 at this
  rw [Bool.eq_iff_iff, this]
  unfold fldB
  simp only [Bool.and_eq_true, decide_eq_true_eq, ← be0]
  constructor
  · rintro ⟨⟨a, b, c, d, e⟩, ⟨f, g⟩, h⟩; exact ⟨⟨⟨a, b, c, d⟩, g⟩, e, h⟩
  · rintro ⟨⟨⟨a, b, c, d⟩, g⟩, e, h⟩; exact ⟨⟨a, b, c, d, e⟩, ⟨hk a, g⟩, h⟩
set_option maxHeartbeats 4000000 in
theorem isField_any (x : Nd) (k : Tp) (ih : ∀ y ky, ky.flat.length < k.flat.length → IsTyK y ky) (w : World) (v : Value) (S : Nat → Prop) (hv : VK w k v S) (hx : x.wf) (har : arK (.cons x k .nil)) (hl : k.flat.length ≤ 1000) :
    Calls Tryz.prog 330 #[partV x v] w fun e w' => e = .returned (.bool (fldB x k)) ∧ Below w.heap.size w w' := by
  obtain ⟨xo, xn, xs, xt⟩ := x
  obtain ⟨hk, hak, _⟩ := har
  have HL : Hid (∀ o1, Below w.heap.size w (w.alloc o1)) := fun o1 => kqx
  have HB : Hid (∀ o1 w', Below (w.alloc o1).heap.size (w.alloc o1) w' → Below w.heap.size w w') := fun o1 w' h => kqt (HL.out o1) h
  have HC := fun w => check_any xs w hx.1
  unfold partV fldB at *
  dsimp only at *
  by_cases h47 : xo = 47
  · subst h47
    have hk1 : k.len = 1 := by rw [← hk]; rfl
    obtain ⟨y, ky, rfl⟩ := tp_len1 hk1
    obtain ⟨g, cap, u, rfl, hP, hyw, hu⟩ := hv.single
    obtain ⟨qu, cu, rfl, _⟩ := hu.slice
    simp only [Tp.flat, List.append_nil, List.length_cons] at ih hl
    have HI := fun o1 => ih y ky (by omega) (w.alloc o1) _ S (hu.up (HL.out o1)) hyw hak (by omega)
    obtain ⟨c0, c1, c2, c3, c4⟩ := hP.cells
    dsimp only [Nat.zero_add, Nat.reduceAdd] at c0 c1 c2 c3 c4
    have hgl := hP.lt
    have n1 : ¬ g = w.heap.size := by omega
    clear hv hk hx hl hak ih hu hyw hk1 hP
    unfold partV at *
    by_cases hn : nfault xs.data.toList = 0
    · rw [eV_nil hn] at HC
      cases hb : isTy none (.cons y ky .nil) <;> rw [hb] at HI
      all_goals
        clear hb
        go_enter Tryz.func330, Tryz.ntmps330
        go_wp2_with (first | (go_at_call 273; refine (HI _).mono ?_; rintro e w1 ⟨rfl, hb1⟩) | (go_at_call 38; refine (HC _).mono ?_; rintro e w1 ⟨rfl, rfl⟩))
        all_goals
          go_ret
          refine ⟨retb ?_, by first | exact HL.out _ | exact HB.out _ _ hb1⟩
          simp_all
    · rw [eV_not hn] at HC
      go_enter Tryz.func330, Tryz.ntmps330
      go_wp2_with (first | (go_at_call 38; refine (HC _).mono ?_; rintro e w1 ⟨rfl, rfl⟩))
      all_goals
        go_ret
        refine ⟨retb ?_, HL.out _⟩
        simp_all
  · obtain ⟨q, c, rfl, _⟩ := hv.slice
    have e1 : (xo == 47) = false := by rw [beq_eq_false_iff_ne]; omega
    have HF : Hid ((decide (xo = 47 ∧ (xn = 0 ∨ xn = 1) ∧ xt.toList = [] ∧ nfault xs.data.toList = 0) && isTy none k) = false) := by show _ = _; simp [h47]
    rw [HF.out]
    clear hv hk hx hl hak ih HF
    go_enter Tryz.func330, Tryz.ntmps330
    go_wp2
    all_goals
      go_ret
      exact ⟨rfl, HL.out _⟩
end Go.Proofs.YtgkbegomekhpcaaGreatDoor
namespace Go.Proofs.YtgkbegomekhpcaaGreatDoor
open Go.RowKit
set_option linter.unusedVariables false
set_option maxRecDepth 100000

set_option maxHeartbeats 4000000 in
theorem areF_step (k : Tp) (ih : ∀ y ky, ky.flat.length < k.flat.length → IsTyK y ky) : AreFK k := by
  intro w v S hv hak hl
  obtain ⟨q, c, rfl, hkc, hcm⟩ := hv.slice
  have HV : Hid (VK w k (.slice q k.len c) S) := hv
  have HIH : Hid (∀ y ky, ky.flat.length < k.flat.length → IsTyK y ky) := ih
  have HA : Hid (arK k) := hak
  have hkb : k.len ≤ 1000 := by have := tp_len_flat k; omega
  have HK : Hid (k.flat.length ≤ 1000) := hl
  clear hv ih hak hl
  go_enter Tryz.func311, Tryz.ntmps311
  go_wp2
  go_loopw [3, 8] (fun last i wr => ∃ (done todo : Tp) (l : ByteArray), Hid (done.app todo = k) ∧ i = .int .i64 (done.len : Int) ∧ last = .string l ∧ Hid (isTy (some e0) k = isTy (some l) todo) ∧ Below w.heap.size w wr) (fun _ i _ => k.len - (intOf i).toNat)
  case atStart => exact ⟨.nil, k, _, rfl, rfl, rfl, rfl, Below.refl _ _⟩
  case round =>
    rename World => w3
    obtain ⟨done, todo, l, HD, rfl, rfl, HE, hb3⟩ := hrel
    cases todo with
    | nil =>
      have hd : done = k := by have := HD.out; rw [tp_app_nil] at this; exact this
      subst hd
      have i1 : ¬ (done.len : Int) < (done.len : Int) := by omega
      go_wp2
      go_ret
      exact ⟨retb HE.out.symm, hb3⟩
    | cons y ky r =>
      have hv3 : VK w3 k (.slice q k.len c) S := HV.out.up hb3
      have hkl : k.len = done.len + (r.len + 1) := by rw [← HD.out, tp_app_len]; rfl
      have hkf : k.flat.length = done.flat.length + (ky.flat.length + r.flat.length + 1) := by rw [← HD.out, tp_app_flat]; simp [Tp.flat] <;> omega
      have i1 : (done.len : Int) < (k.len : Int) := by omega
      rw [← HD.out] at hv3
      obtain ⟨g, cap, u, hu, hP, hyw, hvk, hSg⟩ := hv3.at
      rw [HD.out, ← hkl] at hu
      cases hu
      obtain ⟨qu, cu, rfl, _⟩ := hvk.slice
      obtain ⟨hka, hky, hkr⟩ : arK (.cons y ky r) := (arK_app.1 (by rw [HD.out]; exact HA.out)).2
      obtain ⟨p0, p1, p2, p3, p4⟩ := hP.cells
      obtain ⟨W4, hW4⟩ : ∃ W4, W4 = w3.alloc (.cells #[.int .i64 y.op, .int .i64 y.n, .string y.s, .string y.t, .slice qu ky.len cu] 81) := ⟨_, rfl⟩
      have hb4 : Below w3.heap.size w3 W4 := by rw [hW4]; exact kqx
      have hB4 : PBk W4 w3.heap.size y (.slice qu ky.len cu) := by rw [hW4]; exact PBk.new w3 y _ rfl
      have hC := isField_any y ky (fun z kz hz => HIH.out z kz (by omega)) W4 _ S (hvk.up hb4) hyw ⟨hka, hky, trivial⟩ (by have := HK.out; omega)
      unfold partV at hC
      obtain ⟨b0, b1, b2, b3, b4⟩ := hB4.cells
      have HDn : Hid ((done.app (.cons y ky .nil)).app r = k) := by show _ = _; rw [tp_app_assoc, ← HD.out]; rfl
      have HKL : Hid (k.len = done.len + (r.len + 1)) := hkl
      have HX : Hid (isTy (some e0) k = (fldB y ky && (decide (cmpB l y.s < 0) && isTy (some y.s) r))) := by show _ = _; rw [HE.out]; exact ty_flds (fun h => by rw [← hka]; unfold cntK; rw [if_neg (by omega), if_pos (by omega)]; rfl)
      clear hv3 hvk hP hkl hkf hka hky hkr HE
      cases hf : fldB y ky
      · rw [hf] at hC HX
        have HF : Hid (isTy (some e0) k = false) := by show _ = _; rw [HX.out]; rfl
        clear hf HX
        go_wp2_with fail
        rw [← hW4]
        refine hC.mono ?_
        rintro _ w5 ⟨rfl, hb5⟩
        go_wp2
        go_ret
        exact ⟨retb HF.out.symm, hb3.trans ((kqt hb4 hb5).mono hb3.size)⟩
      · rw [hf] at hC HX
        by_cases hlt : cmpB l y.s < 0
        · have HF : Hid (isTy (some e0) k = isTy (some y.s) r) := by show _ = _; rw [HX.out, decide_eq_true hlt]; rfl
          obtain ⟨hl1, hl2⟩ := leqK_no hlt
          clear hf HX hlt
          go_wp2_with fail
          rw [← hW4]
          refine hC.mono ?_
          rintro _ w5 ⟨rfl, hb5⟩
          obtain ⟨d0, d1, d2, d3, d4⟩ := (hB4.up hb5).cells
          clear b0 b1 b2 b3 b4 p0 p1 p2 p3 p4
          have hb35 := hb3.trans ((kqt hb4 hb5).mono hb3.size)
          go_wp2_with fail
          go_roundw
          case rel => exact ⟨done.app (.cons y ky .nil), r, y.s, HDn, by rw [tp_app_len]; simp only [Tp.len]; go_num, rfl, HF, hb35⟩
          case measure => have := HKL.out; simp [intOf]; omega
        · have HF : Hid (isTy (some e0) k = false) := by show _ = _; rw [HX.out, decide_eq_false hlt]; rfl
          have hl := leqK_yes hlt
          clear hf HX hlt
          rcases hl with hl1 | ⟨hl1, hl2⟩
          all_goals
            go_wp2_with fail
            rw [← hW4]
            refine hC.mono ?_
            rintro _ w5 ⟨rfl, hb5⟩
            obtain ⟨d0, d1, d2, d3, d4⟩ := (hB4.up hb5).cells
            clear b0 b1 b2 b3 b4 p0 p1 p2 p3 p4
            go_wp2
            go_ret
            exact ⟨retb HF.out.symm, hb3.trans ((kqt hb4 hb5).mono hb3.size)⟩
theorem isTyK_any : ∀ (N : Nat) (x : Nd) (k : Tp), k.flat.length < N → IsTyK x k
  | 0, x, k, h => by omega
  | N + 1, x, k, h => by
    have ih : ∀ y ky, ky.flat.length < k.flat.length → IsTyK y ky := fun y ky hy => isTyK_any N y ky (by omega)
    obtain ⟨o, n, s, t⟩ := x
    by_cases h1 : o = 41 ∨ o = 42 ∨ o = 43 ∨ o = 48 ∨ o = 49
    · exact isTy_leaf o n s t k h1
    by_cases h4 : o = 44
    · subst h4; exact isTy_ent n s t k
    by_cases h5 : o = 45
    · subst h5; exact isTy_set n s t k ih
    by_cases h6 : o = 46
    · subst h6; exact isTy_rcd n s t k (areF_step k ih)
    · exact isTy_none _ k (by dsimp only; omega)
theorem isTyK (x : Nd) (k : Tp) : IsTyK x k := isTyK_any _ x k (Nat.lt_succ_self _)
end Go.Proofs.YtgkbegomekhpcaaGreatDoor
namespace Go.Proofs.YtgkbegomekhpcaaGreatDoor
open Go.RowKit
set_option linter.unusedVariables false
set_option maxRecDepth 100000

/-- What first tells: the part that the nodes begin with, and what stands behind it; or that it is not there. -/
def FRet (w0 w w' : World) (v : List Nd) (en : Ending) : Prop :=
  (∃ (x : Nd) (k : Tp) (z : List Nd) (u : Value) (q : Option Addr) (c' : Nat), arK (.cons x k .nil) ∧ x.wf ∧ v = x :: (k.flat ++ z) ∧ en = .returned (.tuple #[partV x u, .slice q z.length c', .bool true]) ∧ VK w' k u (fun a => w.heap.size ≤ a) ∧ NL w0 q z ∧ z.length ≤ c' ∧ c' ≤ maxLen) ∨
  ((∀ x k z, arK (.cons x k .nil) → v ≠ x :: (k.flat ++ z)) ∧ en = .returned (.tuple #[partV zN (.slice none 0 0), .slice none 0 0, .bool false]))
def FirstK (v : List Nd) : Prop := ∀ (w0 w : World) (n : Nat) (p : Option Addr) (c : Nat), Below w0.heap.size w0 w → NL w0 p v → n = v.length → n ≤ c → c ≤ maxLen → n ≤ 1000 →
  Calls Tryz.prog 30 #[.slice p n c] w fun en w' => FRet w0 w w' v en ∧ Below w.heap.size w w'
/-- A part that is missing is missing in the whole. -/
theorem miss_whole {x : Nd} {t u : List Nd} {done : Tp} (ht : t = done.flat ++ u) (hd : arK done) (hl : done.len < (cntK x).toNat) (h : ∀ y k z, arK (.cons y k .nil) → u ≠ y :: (k.flat ++ z)) : ∀ y k z, arK (.cons y k .nil) → x :: t ≠ y :: (k.flat ++ z) := by
  intro y k z hk e
  simp only [List.cons.injEq] at e
  obtain ⟨rfl, e⟩ := e
  obtain ⟨h1, h2, _⟩ := hk
  obtain ⟨a, b, rfl, h4⟩ := tp_split k done.len (by omega)
  rw [tp_app_len] at h1
  rw [arK_app] at h2
  rw [ht, tp_app_flat, List.append_assoc] at e
  obtain ⟨rfl, e2⟩ := tp_flat_inj done a u _ hd h2.1 h4.symm e
  cases b with
  | nil => simp [Tp.len] at h1; omega
  | cons y ky r =>
    obtain ⟨k1, k2, k3⟩ := h2.2
    exact h y ky (r.flat ++ z) ⟨k1, k2, trivial⟩ (by rw [e2]; simp [Tp.flat])
/-- The contract where the part is there, and where it is not. -/
theorem FirstK.yes {v : List Nd} (h : FirstK v) {x : Nd} {k : Tp} {z : List Nd} (hk : arK (.cons x k .nil)) (hv : v = x :: (k.flat ++ z)) {w0 w : World} {n : Nat} {p : Option Addr} {c : Nat} (h1 : Below w0.heap.size w0 w) (h2 : NL w0 p v) (h3 : n = v.length) (h4 : n ≤ c) (h5 : c ≤ maxLen) (h6 : n ≤ 1000) :
    Calls Tryz.prog 30 #[.slice p n c] w fun en w' => (∃ (u : Value) (q : Option Addr) (c' : Nat), en = .returned (.tuple #[partV x u, .slice q z.length c', .bool true]) ∧ x.wf ∧ VK w' k u (fun a => w.heap.size ≤ a) ∧ NL w0 q z ∧ z.length ≤ c' ∧ c' ≤ maxLen) ∧ Below w.heap.size w w' := by
  refine (h w0 w n p c h1 h2 h3 h4 h5 h6).mono ?_
  rintro en w' ⟨⟨x', k', z', u, q, c', g1, g2, g3, g4, g5, g6, g7, g8⟩ | ⟨g1, g2⟩, hb⟩
  · rw [hv] at g3
    have := tp_flat_inj (.cons x k .nil) (.cons x' k' .nil) z z' hk g1 rfl (by simpa [Tp.flat] using g3)
    obtain ⟨e1, rfl⟩ := this
    cases e1
    exact ⟨⟨u, q, c', g4, g2, g5, g6, g7, g8⟩, hb⟩
  · exact absurd hv (g1 x k z hk)
theorem FirstK.no {v : List Nd} (h : FirstK v) (hv : ∀ x k z, arK (.cons x k .nil) → v ≠ x :: (k.flat ++ z)) {w0 w : World} {n : Nat} {p : Option Addr} {c : Nat} (h1 : Below w0.heap.size w0 w) (h2 : NL w0 p v) (h3 : n = v.length) (h4 : n ≤ c) (h5 : c ≤ maxLen) (h6 : n ≤ 1000) :
    Calls Tryz.prog 30 #[.slice p n c] w fun en w' => en = .returned (.tuple #[partV zN (.slice none 0 0), .slice none 0 0, .bool false]) ∧ Below w.heap.size w w' := by
  refine (h w0 w n p c h1 h2 h3 h4 h5 h6).mono ?_
  rintro en w' ⟨⟨x', k', z', u, q, c', g1, g2, g3, g4, g5, g6, g7, g8⟩ | ⟨g1, g2⟩, hb⟩
  · exact absurd g3 (hv x' k' z' g1)
  · exact ⟨g2, hb⟩
theorem first_nil : FirstK [] := by
  intro w0 w n p c hb0 hv hn hnc hcm hn9
  subst hn
  have hb3 : ∀ o1, Below w.heap.size w (w.alloc o1) := fun o1 => (Below.refl _ _).alloc (Nat.le_refl _) _
  go_enter Tryz.func30, Tryz.ntmps30
  go_wp2
  exact bodyPost_ret (v := .tuple #[.agg #[.int .i64 0, .int .i64 0, .string ⟨#[]⟩, .string ⟨#[]⟩, .slice none 0 0], .slice none 0 0, .bool false]) (by simp [results, Tryz.results30, go_sem]) rfl ⟨.inr ⟨fun x k z _ e => absurd e (by simp), rfl⟩, hb3 _⟩
set_option maxHeartbeats 4000000 in
theorem firstK_step (x : Nd) (t : List Nd) (ih : ∀ u, u.length ≤ t.length → FirstK u) : FirstK (x :: t) := by
  intro w0 w n p c hb0 hv hn hnc hcm hn9
  obtain ⟨b, off, rfl, hbw0, x0, x1, x2, x3, xw⟩ := hv.head
  replace x0 := (hb0.cell (p := ⟨b, off, none⟩) hbw0).trans x0
  replace x1 := (hb0.cell (p := ⟨b, off + 1, none⟩) hbw0).trans x1
  replace x2 := (hb0.cell (p := ⟨b, off + 2, none⟩) hbw0).trans x2
  replace x3 := (hb0.cell (p := ⟨b, off + 3, none⟩) hbw0).trans x3
  have hbw : b < w.heap.size := Nat.lt_of_lt_of_le hbw0 hb0.size
  simp only [List.length_cons] at hn
  obtain ⟨pr, hpr, hnr⟩ : ∃ pr, (if c = 1 then some (⟨b, off, none⟩ : Addr) else some ⟨b, off + 4, none⟩) = some ⟨b, pr, none⟩ ∧ NL w0 (some ⟨b, pr, none⟩) t := by
    by_cases h : c = 1
    · exact ⟨off, if_pos h, .inl (List.eq_nil_of_length_eq_zero (by omega))⟩
    · exact ⟨off + 4, if_neg h, hv.tail⟩
  have i0 : ((n : Int) == 0) = false := by rw [beq_eq_false_iff_ne]; omega
  have i00 : (0 : Int) < (n : Int) := by omega
  have i1 : (1 : Int) ≤ (n : Int) := by omega
  have HC := fun w1 v => countK_any x v w1
  obtain ⟨C, hC⟩ : ∃ C, C = cntK x := ⟨_, rfl⟩
  have HCx : Hid (C = cntK x) := hC
  rw [← hC] at HC
  clear hC
  have HIH : Hid (∀ u, u.length ≤ t.length → FirstK u) := ih
  have HN : Hid (n = t.length + 1) := hn
  have hpr2 : (c = 1 ∧ pr = off) ∨ (¬ c = 1 ∧ pr = off + 4) := by
    by_cases h : c = 1
    · rw [if_pos h] at hpr; exact .inl ⟨h, by simpa using hpr.symm⟩
    · rw [if_neg h] at hpr; exact .inr ⟨h, by simpa using hpr.symm⟩
  clear ih hn hv hpr
  unfold partV at *
  obtain ⟨W, hW⟩ : ∃ W, W = ((w.alloc (.cells #[.int .i64 0, .int .i64 0, .string ⟨#[]⟩, .string ⟨#[]⟩, .slice none 0 0] 81)).alloc (.cells #[.int .i64 x.op, .int .i64 x.n, .string x.s, .string x.t, .slice none 0 0] 81)).drew := ⟨_, rfl⟩
  have hb_0 : Below w.heap.size w W := by rw [hW]; exact (((Below.refl _ _).alloc (Nat.le_refl _) _).alloc (by simp) _).drew
  have hr_0 : PBk W w.heap.size zN (.slice none 0 0) := by rw [hW]; exact ((PBk.new w zN _ rfl).up ((Below.refl _ _).alloc (Nat.le_refl _) _)).up (Below.refl _ _).drew
  have hp_0 : PBk W (w.heap.size + 1) x (.slice none 0 0) := by rw [hW]; exact (PBk.new _ x _ (by simp)).up (Below.refl _ _).drew
  have hWs : W.heap.size = w.heap.size + 2 := by rw [hW]; simp [World.drew]
  have HB0 : Hid (Below w0.heap.size w0 w) := hb0
  clear hb0
  rcases hpr2 with ⟨hc1, rfl⟩ | ⟨hc1, rfl⟩
  all_goals
    go_enter Tryz.func30, Tryz.ntmps30
    go_wp2
    go_region
    go_wp2_with fail
    rw [← hW]
    refine (HC _ _).mono ?_
    rintro _ w1 ⟨rfl, hbb⟩
    have hb_1 : Below w.heap.size w w1 := hb_0.trans (hbb.mono (by omega))
    have hr_1 := hr_0.up hbb
    have hp_1 := hp_0.up hbb
    have hs_1 : w.heap.size + 2 ≤ w1.heap.size := by have := hbb.size; omega
    clear hW hb_0 hr_0 hp_0 hbb HC x0 x1 x2 x3
    go_wp2_with fail
    go_loopw [6, 22] (fun rv i wr => ∃ (done : Tp) (u : List Nd) (q : Option Addr) (m c' : Nat) (qv : Option Addr) (cv : Nat) (ld : List Value) (Sd : Nat → Prop), Hid (t = done.flat ++ u) ∧ Hid (arK done) ∧ Hid (done.len ≤ (cntK x).toNat) ∧ i = .int .i64 (done.len : Int) ∧ rv = .slice q m c' ∧ Hid (m = u.length) ∧ Hid (NL w0 q u) ∧ m ≤ c' ∧ c' ≤ maxLen ∧ PBk wr (w.heap.size + 1) x (.slice qv done.len cv) ∧ PBk wr w.heap.size zN (.slice none 0 0) ∧ Hid (wr.ownsRow 0 81 5 (.slice qv done.len cv) done.len ld) ∧ Hid (RK wr done ld Sd) ∧ Hid (∀ a, Sd a → w.heap.size + 2 ≤ a ∧ a < wr.heap.size) ∧ Hid (∀ g, (Value.slice qv done.len cv).ownBlock = some g → w.heap.size + 2 ≤ g ∧ ¬ Sd g) ∧ Below w.heap.size w wr ∧ w.heap.size + 2 ≤ wr.heap.size) (fun _ i _ => C.toNat - (intOf i).toNat)
    case atStart => exact ⟨.nil, t, _, _, _, none, 0, [], fun _ => False, rfl, trivial, Nat.zero_le _, rfl, rfl, (by have := HN.out; show _ = _; omega), hnr, by omega, by omega, hp_1, hr_1, ⟨rfl, .inl ⟨rfl, rfl⟩⟩, rfl, (fun a h => h.elim), (fun g h => by simp [Value.ownBlock] at h), hb_1, hs_1⟩
    case round =>
      rename World => w3
      obtain ⟨done, u, q, m, c', qv, cv, ld, Sd, HD, HA, HLn, rfl, rfl, HM, hn_3, hmc, hcm', hp_3, hr_3, HO, HT, HS, HG, hb_3, hs_3⟩ := hrel
      by_cases j1 : (done.len : Int) < C
      · have hdl : done.len ≤ 1000 := by
          have h1 := tp_len_flat done
          have h2 := HD.out
          have h3 := HN.out
          rw [h2, List.length_append] at h3
          omega
        have hm9 : m ≤ 1000 := by
          have h2 := HD.out
          have h3 := HN.out
          have h4 := HM.out
          rw [h2, List.length_append] at h3
          omega
        have hb03 : Below w0.heap.size w0 w3 := HB0.out.trans (hb_3.mono HB0.out.size)
        have hul : u.length ≤ t.length := by have h2 := HD.out; rw [h2, List.length_append]; omega
        by_cases hex : ∃ y ky z, arK (.cons y ky .nil) ∧ u = y :: (ky.flat ++ z)
        · obtain ⟨y, ky, z, hky, hu⟩ := hex
          have hC : ∀ W4, Below w3.heap.size w3 W4 → _ := fun W4 h4 => (HIH.out u hul).yes hky hu (hb03.trans (h4.mono hb03.size)) hn_3.out HM.out hmc hcm' hm9
          have hC1 := hC w3 (Below.refl _ _)
          clear hC
          have HDn : Hid (t = (done.app (.cons y ky .nil)).flat ++ z) := by show _ = _; rw [tp_app_flat, HD.out, hu]; simp [Tp.flat]
          have HAn : Hid (arK (done.app (.cons y ky .nil))) := arK_app.2 ⟨HA.out, hky⟩
          have HLn2 : Hid (done.len + 1 ≤ (cntK x).toNat) := by have := HCx.out; show _ ≤ _; omega
          have hal : (done.app (.cons y ky .nil)).len = done.len + 1 := by rw [tp_app_len]; rfl
          have HAL : Hid ((done.app (.cons y ky .nil)).len = done.len + 1) := hal
          have hdl2 : done.len + 1 ≤ 1000000 := by omega
          clear hal hu hky hul
          go_wp2_with fail
          refine hC1.mono ?_
          rintro _ w5 ⟨⟨v5, q5, c5, rfl, hyw, hu_5, hn_5, hle5, hcm5⟩, hb5⟩
          obtain ⟨qu, cu, rfl, _⟩ := hu_5.slice
          obtain ⟨V6, hV6⟩ : ∃ V6, V6 = w5.alloc (.cells #[.int .i64 y.op, .int .i64 y.n, .string y.s, .string y.t, .slice qu ky.len cu] 81) := ⟨_, rfl⟩
          have hb56 : Below w5.heap.size w5 V6 := by rw [hV6]; exact kqx
          have hVs : V6.heap.size = w5.heap.size + 1 := by rw [hV6]; simp
          have hy_6 : PBk V6 w5.heap.size y (.slice qu ky.len cu) := by rw [hV6]; exact PBk.new w5 y _ rfl
          have hb36 : Below w3.heap.size w3 V6 := kqt hb5 hb56
          have hs35 : w3.heap.size ≤ w5.heap.size := hb5.size
          have hp_5 := hp_3.up hb5
          have hp_6 := hp_3.up hb36
          have hr_6 := hr_3.up hb36
          have hO6 : V6.ownsRow 0 81 5 (.slice qv done.len cv) done.len ld := ownP_agree HO.out (fun g hg hl => hb36.block g hl)
          have HT6 : Hid (RK V6 done ld Sd) := HT.out.up hb36
          have HU6 : Hid (VK V6 ky (.slice qu ky.len cu) (fun a => w3.heap.size ≤ a ∧ a < w5.heap.size)) := (hu_5.real.sub (fun a h => h)).up hb56
          have hb6 : Below w.heap.size w V6 := hb_3.trans (hb36.mono hb_3.size)
          have HGL : Hid (∀ g, (Value.slice qv done.len cv).ownBlock = some g → g < w3.heap.size) := fun g hg => (ownP_lt HO.out hg).1
          have HN5 : Hid (NL w0 q5 z) := hn_5
          obtain ⟨y0, y1, y2, y3, y4⟩ := hy_6.cells
          obtain ⟨b0, b1, b2, b3, b4⟩ := hp_6.cells
          rw [hV6] at b4
          have hne : ¬ w.heap.size + 1 = w5.heap.size := by omega
          clear hC1 hu_5 hn_5 hb5 hb56 hp_5
          unfold partV
          obtain ⟨m5, hm5⟩ : ∃ m5, m5 = z.length := ⟨_, rfl⟩
          have HM5 : Hid (m5 = z.length) := hm5
          rw [← hm5] at hle5 ⊢
          clear hm5
          go_wp2_with (first | (at_builtin; rw [← hV6]; refine append_partK V6 rfl (.tmp 34) (.tmp 36) rfl (.slice qv done.len cv) done.len ld rfl hO6 y (.slice qu ky.len cu) rfl (by rw [hVs]; rfl) hdl2 ?_; intro v7 w7 hO7 hg7 hat7; obtain ⟨q7, c7, rfl⟩ := ownP_slice hO7; have hp_7 : PBk w7 (w.heap.size + 1) x (.slice qv done.len cv) := ⟨(hg7.block _ hp_6.lt (fun e => by have := (HG.out _ e.symm).1; omega)).trans hp_6.blk⟩; obtain ⟨d0, d1, d2, d3, d4⟩ := hp_7.cells; have fd := hp_7.free; clear b0 b1 b2 b3 b4 y0 y1 y2 y3 y4))
          obtain ⟨V8, hV8⟩ : ∃ V8, V8 = w7.setCell ⟨w.heap.size + 1, 4, none⟩ (.slice q7 (done.len + 1) c7) := ⟨_, rfl⟩
          rw [← hV8]
          obtain ⟨hp_8, hK8⟩ := hp_7.put4 hV8
          have hr_8 : PBk V8 w.heap.size zN (.slice none 0 0) := ⟨(hK8.block _ (Nat.lt_of_lt_of_le hr_6.lt hg7.size) (by omega)).trans ((hg7.block _ hr_6.lt (fun e => by have := (HG.out _ e.symm).1; omega)).trans hr_6.blk)⟩
          have hold : ∀ a, a < V6.heap.size → w.heap.size + 2 ≤ a → (Value.slice qv done.len cv).ownBlock ≠ some a → V8.heap[a]? = V6.heap[a]? := fun a h1 h2 h3 => (hK8.block a (Nat.lt_of_lt_of_le h1 hg7.size) (by omega)).trans (hg7.block a h1 (fun e => h3 e.symm))
          have hO8 : V8.ownsRow 0 81 5 (.slice q7 (done.len + 1) c7) (done.len + 1) (ld ++ pcl y (.slice qu ky.len cu)) := ownP_agree hO7 (fun g hg hl => hK8.block g hl (fun e => by
            rcases hat7 g hg with h | h
            · have := (HG.out g h).1; omega
            · omega))
          have hT8 : RK V8 (done.app (.cons y ky .nil)) (ld ++ pcl y (.slice qu ky.len cu)) (fun a => Sd a ∨ (w3.heap.size ≤ a ∧ a < w5.heap.size)) := by
            refine RK.join ((HT6.out.agree (fun a ha hl => hold a hl (HS.out a ha).1 (fun e => (HG.out a e).2 ha))).sub (fun a h => .inl h)) (RK.one hyw ((HU6.out.agree (fun a ha hl => hold a hl (by omega) (fun e => by have := HGL.out a e; omega))).sub (fun a h => .inr h)))
          have hb8 : Below w.heap.size w V8 := by
            refine hb6.trans ?_
            have h1 : Below w.heap.size V6 w7 := ⟨hg7.os, hg7.tape, hg7.output, hg7.size, fun a ha => hg7.block a (by omega) (fun e => by have := (HG.out a e.symm).1; omega)⟩
            exact h1.trans (hK8.below (by have := hg7.size; omega) (fun a e => by omega))
          have hs8 : V6.heap.size ≤ V8.heap.size := Nat.le_trans hg7.size hK8.size
          go_roundw
          case rel =>
            refine ⟨done.app (.cons y ky .nil), z, q5, m5, c5, q7, c7, ld ++ pcl y (.slice qu ky.len cu), (fun a => Sd a ∨ (w3.heap.size ≤ a ∧ a < w5.heap.size)), HDn, HAn, (by show _ ≤ _; rw [HAL.out]; exact HLn2.out), by rw [HAL.out]; go_num, rfl, HM5, HN5, hle5, hcm5, by rw [HAL.out]; exact hp_8, hr_8, by rw [HAL.out]; exact hO8, hT8, ?_, ?_, hb8, by omega⟩
            · intro a ha
              rcases ha with ha | ha
              · have := HS.out a ha; omega
              · omega
            · intro g hg
              rw [HAL.out] at hg
              rcases hat7 g hg with h | h
              · have h1 := HG.out g h
                have h2 := HGL.out g h
                exact ⟨h1.1, fun e => e.elim h1.2 (by omega)⟩
              · exact ⟨by omega, fun e => e.elim (fun e => by have := (HS.out g e).2; omega) (by omega)⟩
          case measure => simp [intOf]; omega
        · have hno : ∀ y ky z, arK (.cons y ky .nil) → u ≠ y :: (ky.flat ++ z) := fun y ky z h e => hex ⟨y, ky, z, h, e⟩
          have HW : Hid (∀ y ky z, arK (.cons y ky .nil) → x :: t ≠ y :: (ky.flat ++ z)) := miss_whole HD.out HA.out (by have := HCx.out; omega) hno
          have hC1 := (HIH.out u hul).no hno hb03 hn_3.out HM.out hmc hcm' hm9
          clear hex hno
          obtain ⟨r0, r1, r2, r3, r4⟩ := hr_3.cells
          go_wp2_with fail
          refine hC1.mono ?_
          rintro _ w5 ⟨rfl, hb5⟩
          obtain ⟨V6, hV6⟩ : ∃ V6, V6 = w5.alloc (.cells #[.int .i64 0, .int .i64 0, .string ⟨#[]⟩, .string ⟨#[]⟩, .slice none 0 0] 81) := ⟨_, rfl⟩
          have hb36 : Below w3.heap.size w3 V6 := by rw [hV6]; exact kqA hb5
          have hr_6 := hr_3.up hb36
          obtain ⟨s0, s1, s2, s3, s4⟩ := hr_6.cells
          have fr := hr_6.free
          rw [hV6] at s0 s1 s2 s3 s4 fr
          unfold partV zN
          go_wp2
          rw [← hV6]
          obtain ⟨V, hV⟩ : ∃ V, V = ((((V6.setCell ⟨w.heap.size, 0, none⟩ (.int .i64 zN.op)).setCell ⟨w.heap.size, 1, none⟩ (.int .i64 zN.n)).setCell ⟨w.heap.size, 2, none⟩ (.string zN.s)).setCell ⟨w.heap.size, 3, none⟩ (.string zN.t)).setCell ⟨w.heap.size, 4, none⟩ (.slice none 0 0) := ⟨_, rfl⟩
          obtain ⟨hPV, hKV⟩ := hr_6.put hV
          obtain ⟨t0, t1, t2, t3, t4⟩ := hPV.cells
          have hbV : Below w.heap.size V6 V := hKV.below (by have := hr_6.lt; omega) (fun a e => by rw [e]; exact Nat.le_refl _)
          have hbf : Below w.heap.size w V := (hb_3.trans (hb36.mono hb_3.size)).trans hbV
          unfold zN at hV t0 t1 t2 t3
          dsimp only at hV t0 t1 t2 t3
          rw [← hV]
          exact bodyPost_ret (v := .tuple #[.agg #[.int .i64 0, .int .i64 0, .string ⟨#[]⟩, .string ⟨#[]⟩, .slice none 0 0], .slice none 0 0, .bool false]) (by simp [results, Tryz.results30, go_sem, t0, t1, t2, t3, t4]) rfl ⟨.inr ⟨HW.out, rfl⟩, hbf⟩
      · have hm : m = u.length := HM.out
        subst hm
        have HLe : Hid ((cntK x).toNat = done.len) := by have := HLn.out; have := HCx.out; show _ = _; omega
        obtain ⟨p0, p1, p2, p3, p4⟩ := hp_3.cells
        obtain ⟨r0, r1, r2, r3, r4⟩ := hr_3.cells
        have f0 := hr_3.free
        go_wp2
        obtain ⟨V, hV⟩ : ∃ V, V = ((((w3.setCell ⟨w.heap.size, 0, none⟩ (.int .i64 x.op)).setCell ⟨w.heap.size, 1, none⟩ (.int .i64 x.n)).setCell ⟨w.heap.size, 2, none⟩ (.string x.s)).setCell ⟨w.heap.size, 3, none⟩ (.string x.t)).setCell ⟨w.heap.size, 4, none⟩ (.slice qv done.len cv) := ⟨_, rfl⟩
        rw [← hV]
        obtain ⟨hPV, hKV⟩ := hr_3.put hV
        obtain ⟨t0, t1, t2, t3, t4⟩ := hPV.cells
        have hbV : Below w.heap.size w3 V := hKV.below (by omega) (fun a e => by rw [e]; exact Nat.le_refl _)
        refine bodyPost_ret (v := .tuple #[.agg #[.int .i64 x.op, .int .i64 x.n, .string x.s, .string x.t, .slice qv done.len cv], .slice q u.length c', .bool true]) (by simp [results, Tryz.results30, go_sem, t0, t1, t2, t3, t4]) rfl ⟨.inl ⟨x, done, u, _, _, _, ⟨HLe.out, HA.out, trivial⟩, xw, by rw [← HD.out], rfl, ⟨ld, ?_, ?_, ?_⟩, hn_3.out, hmc, hcm'⟩, hb_3.trans hbV⟩
        · exact ownP_agree HO.out (fun g hg hl => hKV.block g hl (fun e => by have := (HG.out g hg).1; omega))
        · exact fun g hg => by have := (HG.out g hg).1; omega
        · exact (HT.out.agree (fun a ha hl => hKV.block a hl (fun e => by have := (HS.out a ha).1; omega))).sub (fun a ha => by have := (HS.out a ha).1; omega)
theorem firstK_any : ∀ (N : Nat) (v : List Nd), v.length < N → FirstK v
  | 0, v, h => by omega
  | N + 1, [], h => first_nil
  | N + 1, x :: t, h => firstK_step x t (fun u hu => firstK_any N u (by simp only [List.length_cons] at h; omega))
theorem firstK (v : List Nd) : FirstK v := firstK_any (v.length + 1) v (Nat.lt_succ_self _)
end Go.Proofs.YtgkbegomekhpcaaGreatDoor
namespace Go.Proofs.YtgkbegomekhpcaaGreatDoor
open Go.RowKit
set_option linter.unusedVariables false
set_option maxRecDepth 100000

/-- The nodes are just this type. -/
def KTy (v : List Nd) (x : Nd) (k : Tp) : Prop := T1 (.cons x k .nil) ∧ v = x :: k.flat
theorem KTy.uniq {v : List Nd} {x y : Nd} {k l : Tp} (h : KTy v x k) (h2 : KTy v y l) : x = y ∧ k = l := by
  have := tp_flat_inj (.cons x k .nil) (.cons y l .nil) [] [] (isTy_ar _ _ h.1.2) (isTy_ar _ _ h2.1.2) rfl (by simp [Tp.flat, ← h.2, ← h2.2])
  cases this.1
  exact ⟨rfl, rfl⟩
open Classical in
/-- What Check tells, by number. -/
noncomputable def kfault (v : List Nd) : Int := if 200 < v.length then 4 else if ∃ x k, KTy v x k then 0 else 1
theorem kfault_full {v : List Nd} (h : 200 < v.length) : kfault v = 4 := if_pos h
theorem kfault_ok {v : List Nd} (h : v.length ≤ 200) {x : Nd} {k : Tp} (hk : KTy v x k) : kfault v = 0 := by unfold kfault; rw [if_neg (by omega), if_pos ⟨x, k, hk⟩]
theorem kfault_bad {v : List Nd} (h : v.length ≤ 200) (hk : ∀ x k, ¬ KTy v x k) : kfault v = 1 := by unfold kfault; rw [if_neg (by omega), if_neg (fun ⟨x, k, h⟩ => hk x k h)]
theorem kfault_ways (v : List Nd) : (200 < v.length ∧ kfault v = 4) ∨ (v.length ≤ 200 ∧ (∀ x k, ¬ KTy v x k) ∧ kfault v = 1) ∨ (v.length ≤ 200 ∧ ∃ x k, KTy v x k ∧ kfault v = 0) := by
  by_cases h : 200 < v.length
  · exact .inl ⟨h, kfault_full h⟩
  · by_cases hk : ∃ x k, KTy v x k
    · obtain ⟨x, k, hk⟩ := hk
      exact .inr (.inr ⟨by omega, x, k, hk, kfault_ok (by omega) hk⟩)
    · exact .inr (.inl ⟨by omega, fun x k h => hk ⟨x, k, h⟩, kfault_bad (by omega) (fun x k h => hk ⟨x, k, h⟩)⟩)
section
variable (v : List Nd) (w : World) (p : Option Addr) (c : Nat) (hv : NL w p v) (hc : v.length ≤ c) (hcm : c ≤ maxLen)
include hv hc hcm
omit hv hc hcm in
set_option maxHeartbeats 4000000 in
theorem read_full (h : 200 < v.length) :
    Calls Tryz.prog 230 #[.slice p v.length c] w fun e w' => e = .returned (.tuple #[.agg #[.int .i64 0, .int .i64 0, .string ⟨#[]⟩, .string ⟨#[]⟩, .slice none 0 0], eV 4]) ∧ Below w.heap.size w w' := by
  have i1 : (200 : Int) < (v.length : Int) := by omega
  have HL : Hid (∀ o1, Below w.heap.size w (w.alloc o1)) := fun o1 => kqx
  clear h
  go_enter Tryz.func230, Tryz.ntmps230
  go_wp2
  exact bodyPost_ret (v := .tuple #[.agg #[.int .i64 0, .int .i64 0, .string ⟨#[]⟩, .string ⟨#[]⟩, .slice none 0 0], eV 4]) (by simp [results, Tryz.results230, go_sem, eV]) rfl ⟨rfl, HL.out _⟩
set_option maxHeartbeats 4000000 in
theorem read_ok (h : v.length ≤ 200) (x : Nd) (k : Tp) (hk : KTy v x k) :
    Calls Tryz.prog 230 #[.slice p v.length c] w fun e w' => (∃ q c', e = .returned (.tuple #[.agg #[.int .i64 x.op, .int .i64 x.n, .string x.s, .string x.t, .slice q k.len c'], .nilIface]) ∧ x.wf ∧ VK w' k (.slice q k.len c') (fun a => w.heap.size ≤ a)) ∧ Below w.heap.size w w' := by
  have hv1 : v = x :: (k.flat ++ []) := by rw [hk.2]; simp
  have hkf : k.flat.length ≤ 200 := by rw [hk.2] at h; simp at h; omega
  have hC := fun W (hW : Below w.heap.size w W) => (firstK v).yes (isTy_ar _ _ hk.1.2) hv1 hW hv rfl hc hcm (by omega)
  have HI := fun W q c' (hx : x.wf) (h1 : VK W k (.slice q k.len c') (fun a => w.heap.size ≤ a)) => isTyK x k W _ _ h1 hx (isTy_ar _ _ hk.1.2) (by omega)
  rw [hk.1.2] at HI
  have i1 : ¬ (200 : Int) < (v.length : Int) := by omega
  clear hv h hk hv1
  simp only [List.length_nil] at hC
  unfold partV at *
  obtain ⟨W, hW⟩ : ∃ W, W = w.alloc (.cells #[.int .i64 0, .int .i64 0, .string ⟨#[]⟩, .string ⟨#[]⟩, .slice none 0 0] 81) := ⟨_, rfl⟩
  have hbW : Below w.heap.size w W := by rw [hW]; exact kqx
  have hr_0 : PBk W w.heap.size zN (.slice none 0 0) := by rw [hW]; exact PBk.new w zN _ rfl
  go_enter Tryz.func230, Tryz.ntmps230
  go_wp2_with fail
  rw [← hW]
  refine (hC W hbW).mono ?_
  rintro _ w5 ⟨⟨u, q5, c5, rfl, hxw, hu, _, _, _⟩, hb5⟩
  obtain ⟨qu, cu, rfl, _⟩ := hu.slice
  obtain ⟨V6, hV6⟩ : ∃ V6, V6 = w5.alloc (.cells #[.int .i64 x.op, .int .i64 x.n, .string x.s, .string x.t, .slice qu k.len cu] 81) := ⟨_, rfl⟩
  have hb56 : Below w5.heap.size w5 V6 := by rw [hV6]; exact kqx
  have hb6 : Below W.heap.size W V6 := kqt hb5 hb56
  have hr_6 := hr_0.up hb6
  have hk_6 : PBk V6 w5.heap.size x (.slice qu k.len cu) := by rw [hV6]; exact PBk.new w5 x _ rfl
  have hW1 : W.heap.size = w.heap.size + 1 := by rw [hW]; simp
  have hu6 := (hu.sub (S2 := fun a => w.heap.size + 1 ≤ a) (fun a h => by omega)).up hb56
  have hI := HI V6 qu cu hxw (hu6.sub (fun a h => by omega))
  clear hC HI hW hu
  go_wp2_with fail
  rw [← hV6]
  refine hI.mono ?_
  rintro _ w7 ⟨rfl, hb7⟩
  obtain ⟨c0, c1, c2, c3, c4⟩ := (hk_6.up hb7).cells
  have hr_7 := hr_6.up hb7
  obtain ⟨r0, r1, r2, r3, r4⟩ := hr_7.cells
  have fr := hr_7.free
  clear hI
  go_wp2
  obtain ⟨V, hV⟩ : ∃ V, V = ((((w7.setCell ⟨w.heap.size, 0, none⟩ (.int .i64 x.op)).setCell ⟨w.heap.size, 1, none⟩ (.int .i64 x.n)).setCell ⟨w.heap.size, 2, none⟩ (.string x.s)).setCell ⟨w.heap.size, 3, none⟩ (.string x.t)).setCell ⟨w.heap.size, 4, none⟩ (.slice qu k.len cu) := ⟨_, rfl⟩
  rw [← hV]
  obtain ⟨hPV, hKV⟩ := hr_7.put hV
  obtain ⟨t0, t1, t2, t3, t4⟩ := hPV.cells
  have hbV : Below w.heap.size w7 V := hKV.below (by have := hr_7.lt; omega) (fun a e => by omega)
  refine bodyPost_ret (v := .tuple #[.agg #[.int .i64 x.op, .int .i64 x.n, .string x.s, .string x.t, .slice qu k.len cu], .nilIface]) (by simp [results, Tryz.results230, go_sem, t0, t1, t2, t3, t4]) rfl ⟨⟨_, _, rfl, hxw, ?_⟩, (kqt hbW (kqt hb6 hb7)).trans hbV⟩
  exact ((hu6.up hb7).agree (fun a ha hl => hKV.block a hl (by omega))).sub (fun a h => by omega)
set_option maxHeartbeats 4000000 in
theorem read_miss (h : v.length ≤ 200) (hno : ∀ x k z, arK (.cons x k .nil) → v ≠ x :: (k.flat ++ z)) :
    Calls Tryz.prog 230 #[.slice p v.length c] w fun e w' => e = .returned (.tuple #[.agg #[.int .i64 0, .int .i64 0, .string ⟨#[]⟩, .string ⟨#[]⟩, .slice none 0 0], eV 1]) ∧ Below w.heap.size w w' := by
  have i1 : ¬ (200 : Int) < (v.length : Int) := by omega
  obtain ⟨W, hW⟩ : ∃ W, W = w.alloc (.cells #[.int .i64 0, .int .i64 0, .string ⟨#[]⟩, .string ⟨#[]⟩, .slice none 0 0] 81) := ⟨_, rfl⟩
  have hbW : Below w.heap.size w W := by rw [hW]; exact kqx
  have hr_0 : PBk W w.heap.size zN (.slice none 0 0) := by rw [hW]; exact PBk.new w zN _ rfl
  have hC := (firstK v).no hno hbW hv rfl hc hcm (by omega)
  clear hv h hno
  unfold partV zN at hC
  go_enter Tryz.func230, Tryz.ntmps230
  go_wp2_with fail
  rw [← hW]
  refine hC.mono ?_
  rintro _ w5 ⟨rfl, hb5⟩
  obtain ⟨w7, hw7⟩ : ∃ V6, V6 = w5.alloc (.cells #[.int .i64 0, .int .i64 0, .string ⟨#[]⟩, .string ⟨#[]⟩, .slice none 0 0] 81) := ⟨_, rfl⟩
  have hr_7 : PBk w7 w.heap.size zN (.slice none 0 0) := by rw [hw7]; exact (hr_0.up hb5).up kqx
  have hb7 : Below w.heap.size w w7 := by rw [hw7]; exact kqA (kqt hbW hb5)
  have s0 := hr_7.cells
  have sr := hr_7.free
  rw [hw7] at s0 sr
  obtain ⟨s0, s1, s2, s3, s4⟩ := s0
  clear hC hW
  go_wp2_with fail
  rw [← hw7]
  clear hw7 s0 s1 s2 s3 s4 sr
  obtain ⟨r0, r1, r2, r3, r4⟩ := hr_7.cells
  have fr := hr_7.free
  go_wp2
  obtain ⟨V, hV⟩ : ∃ V, V = ((((w7.setCell ⟨w.heap.size, 0, none⟩ (.int .i64 zN.op)).setCell ⟨w.heap.size, 1, none⟩ (.int .i64 zN.n)).setCell ⟨w.heap.size, 2, none⟩ (.string zN.s)).setCell ⟨w.heap.size, 3, none⟩ (.string zN.t)).setCell ⟨w.heap.size, 4, none⟩ (.slice none 0 0) := ⟨_, rfl⟩
  obtain ⟨hPV, hKV⟩ := hr_7.put hV
  obtain ⟨t0, t1, t2, t3, t4⟩ := hPV.cells
  have hbV : Below w.heap.size w7 V := hKV.below (by have := hr_7.lt; omega) (fun a e => by omega)
  unfold zN at hV t0 t1 t2 t3
  dsimp only at hV t0 t1 t2 t3
  rw [← hV]
  exact bodyPost_ret (v := .tuple #[.agg #[.int .i64 0, .int .i64 0, .string ⟨#[]⟩, .string ⟨#[]⟩, .slice none 0 0], eV 1]) (by simp [results, Tryz.results230, go_sem, t0, t1, t2, t3, t4, eV]) rfl ⟨rfl, hb7.trans hbV⟩
set_option maxHeartbeats 4000000 in
theorem read_rest (h : v.length ≤ 200) (x : Nd) (k : Tp) (y : Nd) (z : List Nd) (hk : arK (.cons x k .nil)) (hz : v = x :: (k.flat ++ y :: z)) :
    Calls Tryz.prog 230 #[.slice p v.length c] w fun e w' => e = .returned (.tuple #[.agg #[.int .i64 0, .int .i64 0, .string ⟨#[]⟩, .string ⟨#[]⟩, .slice none 0 0], eV 1]) ∧ Below w.heap.size w w' := by
  have i1 : ¬ (200 : Int) < (v.length : Int) := by omega
  obtain ⟨W, hW⟩ : ∃ W, W = w.alloc (.cells #[.int .i64 0, .int .i64 0, .string ⟨#[]⟩, .string ⟨#[]⟩, .slice none 0 0] 81) := ⟨_, rfl⟩
  have hbW : Below w.heap.size w W := by rw [hW]; exact kqx
  have hr_0 : PBk W w.heap.size zN (.slice none 0 0) := by rw [hW]; exact PBk.new w zN _ rfl
  have hC := (firstK v).yes hk hz hbW hv rfl hc hcm (by omega)
  have hz9 : z.length ≤ 200 := by rw [hz] at h; simp at h; omega
  clear hv h hz hk
  simp only [List.length_cons] at hC
  unfold partV at hC
  go_enter Tryz.func230, Tryz.ntmps230
  go_wp2_with fail
  rw [← hW]
  refine hC.mono ?_
  rintro _ w5 ⟨⟨u, q5, c5, rfl, hxw, hu, _, _, _⟩, hb5⟩
  obtain ⟨qu, cu, rfl, _⟩ := hu.slice
  obtain ⟨w7, hw7⟩ : ∃ V6, V6 = w5.alloc (.cells #[.int .i64 x.op, .int .i64 x.n, .string x.s, .string x.t, .slice qu k.len cu] 81) := ⟨_, rfl⟩
  have hr_7 : PBk w7 w.heap.size zN (.slice none 0 0) := by rw [hw7]; exact (hr_0.up hb5).up kqx
  have hb7 : Below w.heap.size w w7 := by rw [hw7]; exact kqA (kqt hbW hb5)
  have s0 := hr_7.cells
  have sr := hr_7.free
  rw [hw7] at s0 sr
  obtain ⟨s0, s1, s2, s3, s4⟩ := s0
  have j1 : (0 : Int) < (z.length : Int) + 1 := by omega
  clear hC hW hu
  go_wp2_with fail
  rw [← hw7]
  clear hw7 s0 s1 s2 s3 s4 sr
  obtain ⟨r0, r1, r2, r3, r4⟩ := hr_7.cells
  have fr := hr_7.free
  go_wp2
  obtain ⟨V, hV⟩ : ∃ V, V = ((((w7.setCell ⟨w.heap.size, 0, none⟩ (.int .i64 zN.op)).setCell ⟨w.heap.size, 1, none⟩ (.int .i64 zN.n)).setCell ⟨w.heap.size, 2, none⟩ (.string zN.s)).setCell ⟨w.heap.size, 3, none⟩ (.string zN.t)).setCell ⟨w.heap.size, 4, none⟩ (.slice none 0 0) := ⟨_, rfl⟩
  obtain ⟨hPV, hKV⟩ := hr_7.put hV
  obtain ⟨t0, t1, t2, t3, t4⟩ := hPV.cells
  have hbV : Below w.heap.size w7 V := hKV.below (by have := hr_7.lt; omega) (fun a e => by omega)
  unfold zN at hV t0 t1 t2 t3
  dsimp only at hV t0 t1 t2 t3
  rw [← hV]
  exact bodyPost_ret (v := .tuple #[.agg #[.int .i64 0, .int .i64 0, .string ⟨#[]⟩, .string ⟨#[]⟩, .slice none 0 0], eV 1]) (by simp [results, Tryz.results230, go_sem, t0, t1, t2, t3, t4, eV]) rfl ⟨rfl, hb7.trans hbV⟩
set_option maxHeartbeats 4000000 in
theorem read_not (h : v.length ≤ 200) (x : Nd) (k : Tp) (hk : arK (.cons x k .nil)) (hz : v = x :: (k.flat ++ [])) (hty : isTy none (.cons x k .nil) = false) :
    Calls Tryz.prog 230 #[.slice p v.length c] w fun e w' => e = .returned (.tuple #[.agg #[.int .i64 0, .int .i64 0, .string ⟨#[]⟩, .string ⟨#[]⟩, .slice none 0 0], eV 1]) ∧ Below w.heap.size w w' := by
  have i1 : ¬ (200 : Int) < (v.length : Int) := by omega
  obtain ⟨W, hW⟩ : ∃ W, W = w.alloc (.cells #[.int .i64 0, .int .i64 0, .string ⟨#[]⟩, .string ⟨#[]⟩, .slice none 0 0] 81) := ⟨_, rfl⟩
  have hbW : Below w.heap.size w W := by rw [hW]; exact kqx
  have hr_0 : PBk W w.heap.size zN (.slice none 0 0) := by rw [hW]; exact PBk.new w zN _ rfl
  have hC := (firstK v).yes hk hz hbW hv rfl hc hcm (by omega)
  have hkf : k.flat.length ≤ 1000 := by rw [hz] at h; simp at h; omega
  have HI := fun W q c' (hx : x.wf) (h1 : VK W k (.slice q k.len c') (fun a => w.heap.size ≤ a)) => isTyK x k W _ _ h1 hx hk hkf
  rw [hty] at HI
  clear hv h hz hk hty
  simp only [List.length_nil] at hC
  unfold partV at hC HI
  go_enter Tryz.func230, Tryz.ntmps230
  go_wp2_with fail
  rw [← hW]
  refine hC.mono ?_
  rintro _ w5 ⟨⟨u, q5, c5, rfl, hxw, hu, _, _, _⟩, hb5⟩
  obtain ⟨qu, cu, rfl, _⟩ := hu.slice
  obtain ⟨V6, hV6⟩ : ∃ V6, V6 = w5.alloc (.cells #[.int .i64 x.op, .int .i64 x.n, .string x.s, .string x.t, .slice qu k.len cu] 81) := ⟨_, rfl⟩
  have hb56 : Below w5.heap.size w5 V6 := by rw [hV6]; exact kqx
  have hb6 : Below W.heap.size W V6 := kqt hb5 hb56
  have hr_6 := hr_0.up hb6
  have hW1 : w.heap.size ≤ W.heap.size := hbW.size
  have hI := HI V6 qu cu hxw ((hu.sub (fun a h => by omega)).up hb56)
  clear hC HI hW hu
  go_wp2_with fail
  rw [← hV6]
  refine hI.mono ?_
  rintro _ w7 ⟨rfl, hb67⟩
  have hr_7 := hr_6.up hb67
  have hb7 : Below w.heap.size w w7 := kqt hbW (kqt hb6 hb67)
  clear hI hV6
  obtain ⟨r0, r1, r2, r3, r4⟩ := hr_7.cells
  have fr := hr_7.free
  go_wp2
  obtain ⟨V, hV⟩ : ∃ V, V = ((((w7.setCell ⟨w.heap.size, 0, none⟩ (.int .i64 zN.op)).setCell ⟨w.heap.size, 1, none⟩ (.int .i64 zN.n)).setCell ⟨w.heap.size, 2, none⟩ (.string zN.s)).setCell ⟨w.heap.size, 3, none⟩ (.string zN.t)).setCell ⟨w.heap.size, 4, none⟩ (.slice none 0 0) := ⟨_, rfl⟩
  obtain ⟨hPV, hKV⟩ := hr_7.put hV
  obtain ⟨t0, t1, t2, t3, t4⟩ := hPV.cells
  have hbV : Below w.heap.size w7 V := hKV.below (by have := hr_7.lt; omega) (fun a e => by omega)
  unfold zN at hV t0 t1 t2 t3
  dsimp only at hV t0 t1 t2 t3
  rw [← hV]
  exact bodyPost_ret (v := .tuple #[.agg #[.int .i64 0, .int .i64 0, .string ⟨#[]⟩, .string ⟨#[]⟩, .slice none 0 0], eV 1]) (by simp [results, Tryz.results230, go_sem, t0, t1, t2, t3, t4, eV]) rfl ⟨rfl, hb7.trans hbV⟩
theorem read_bad (h : v.length ≤ 200) (hk : ∀ x k, ¬ KTy v x k) :
    Calls Tryz.prog 230 #[.slice p v.length c] w fun e w' => e = .returned (.tuple #[.agg #[.int .i64 0, .int .i64 0, .string ⟨#[]⟩, .string ⟨#[]⟩, .slice none 0 0], eV 1]) ∧ Below w.heap.size w w' := by
  by_cases hex : ∃ x k z, arK (.cons x k .nil) ∧ v = x :: (k.flat ++ z)
  · obtain ⟨x, k, z, h1, h2⟩ := hex
    cases z with
    | nil =>
      refine read_not v w p c hv hc hcm h x k h1 h2 ?_
      cases e : isTy none (.cons x k .nil) with
      | false => rfl
      | true => exact absurd ⟨⟨rfl, e⟩, by rw [h2]; simp⟩ (hk x k)
    | cons y z => exact read_rest v w p c hv hc hcm h x k y z h1 h2
  · exact read_miss v w p c hv hc hcm h (fun x k z h1 h2 => hex ⟨x, k, z, h1, h2⟩)
end
end Go.Proofs.YtgkbegomekhpcaaGreatDoor
namespace Go.Proofs.YtgkbegomekhpcaaGreatDoor
open Go.RowKit
set_option linter.unusedVariables false
set_option maxRecDepth 100000

theorem kfault_zero {v : List Nd} (h : kfault v = 0) : v.length ≤ 200 ∧ ∃ x k, KTy v x k := by
  rcases kfault_ways v with ⟨_, h1⟩ | ⟨_, _, h1⟩ | ⟨h1, x, k, h2, _⟩
  · omega
  · omega
  · exact ⟨h1, x, k, h2⟩
theorem read_err (v : List Nd) (w : World) (p : Option Addr) (c : Nat) (hv : NL w p v) (hc : v.length ≤ c) (hcm : c ≤ maxLen) (h : kfault v ≠ 0) :
    Calls Tryz.prog 230 #[.slice p v.length c] w fun e w' => e = .returned (.tuple #[.agg #[.int .i64 0, .int .i64 0, .string ⟨#[]⟩, .string ⟨#[]⟩, .slice none 0 0], .iface 36 (.int .i64 (kfault v))]) ∧ Below w.heap.size w w' := by
  rcases kfault_ways v with ⟨h1, h2⟩ | ⟨h1, h3, h2⟩ | ⟨h1, x, k, h3, h2⟩
  · rw [h2]; exact read_full v w p c h1
  · rw [h2]; exact read_bad v w p c hv hc hcm h1 h3
  · exact absurd h2 h
end Go.Proofs.YtgkbegomekhpcaaGreatDoor
namespace Go.Proofs.YtgkbegomekhpcaaGreatDoor
open Go.RowKit
set_option linter.unusedVariables false
set_option linter.unusedSectionVars false
set_option maxRecDepth 100000

/-- The nodes are just this value. -/
def VTy (v : List Nd) (y : Nd) (l : Tp) : Prop := okV none (.cons y l .nil) ∧ v = y :: l.flat
theorem vty_of {v : List Nd} (h : vfault v = 0) : v.length ≤ 200 ∧ ∃ y l, VTy v y l := by
  obtain ⟨y, l, h1, h2, h3⟩ := val_treeK h
  exact ⟨by rw [h2]; simpa using h3, y, l, h1, h2⟩
theorem VTy.uniq {v : List Nd} {x y : Nd} {k l : Tp} (h : VTy v x k) (h2 : VTy v y l) : x = y ∧ k = l := by
  have := tp_flat_inj (.cons x k .nil) (.cons y l .nil) [] [] h.1.ar h2.1.ar rfl (by simp [Tp.flat, ← h.2, ← h2.2])
  cases this.1
  exact ⟨rfl, rfl⟩
/-- What Has tells, by number. -/
noncomputable def hfault (t v : List Nd) : Int := if kfault t = 0 then vfault v else kfault t
end Go.Proofs.YtgkbegomekhpcaaGreatDoor
namespace Go.Proofs.YtgkbegomekhpcaaGreatDoor
set_option linter.unusedVariables false

structure Kd where
  nm : ByteArray
  up : List ByteArray
  ty : List Nd
structure Ac where
  id : ByteArray
  who : List ByteArray
  what : List ByteArray
  cx : List Nd
structure Sc where
  ks : List Kd
  acs : List Ac
def hasT (s : ByteArray) (l : List ByteArray) : Bool := l.any fun t => decide (t = s)
theorem hasT_iff {s : ByteArray} {l : List ByteArray} : hasT s l = true ↔ s ∈ l := by
  unfold hasT
  rw [List.any_eq_true]
  constructor
  · rintro ⟨t, h1, h2⟩; rw [decide_eq_true_eq] at h2; rw [← h2]; exact h1
  · intro h; exact ⟨s, h, decide_eq_true rfl⟩
def nmf (s : ByteArray) : Int := nfault s.data.toList
def tmf (s : ByteArray) : Int := tfault s.data.toList
/-- The first error, if one is there. -/
def orE (a b : Int) : Int := if a = 0 then b else a
theorem orE_zero {a b : Int} : orE a b = 0 ↔ a = 0 ∧ b = 0 := by
  unfold orE
  split
  · rename_i h; exact ⟨fun k => ⟨h, k⟩, fun k => k.2⟩
  · rename_i h; exact ⟨fun k => absurd k h, fun k => absurd k.1 h⟩
theorem orE_l {a b : Int} (h : a ≠ 0) : orE a b = a := if_neg h
theorem orE_r {a b : Int} (h : a = 0) : orE a b = b := if_pos h
def nsf : List ByteArray → Int
  | [] => 0
  | s :: r => orE (nmf s) (nsf r)
def opE (t : List Nd) : Int := match t with | x :: _ => if x.op = 46 then 0 else 2 | [] => 2
noncomputable def rcf (t : List Nd) : Int := orE (kfault t) (opE t)
def twE (s : ByteArray) (l : List ByteArray) : Int := if hasT s l then 6 else 0
def fuE (b : Bool) : Int := if b then 4 else 0
noncomputable def kdf (seen : List ByteArray) (k : Kd) : Int := orE (nmf k.nm) (orE (twE k.nm seen) (orE (fuE (decide (6 < k.up.length))) (orE (nsf k.up) (rcf k.ty))))
noncomputable def ksf : List ByteArray → List Kd → Int
  | _, [] => 0
  | seen, k :: r => orE (kdf seen k) (ksf (seen ++ [k.nm]) r)
noncomputable def acf (seen : List ByteArray) (a : Ac) : Int := orE (tmf a.id) (orE (twE a.id seen) (orE (fuE (decide (6 < a.who.length ∨ 6 < a.what.length))) (orE (nsf a.who) (orE (nsf a.what) (rcf a.cx)))))
noncomputable def asf : List ByteArray → List Ac → Int
  | _, [] => 0
  | seen, a :: r => orE (acf seen a) (asf (seen ++ [a.id]) r)
noncomputable def scf (s : Sc) : Int := orE (fuE (decide (8 < s.ks.length ∨ 8 < s.acs.length))) (orE (ksf [] s.ks) (asf [] s.acs))
open Classical in
/-- Has a value a type? -/
noncomputable def hasB (t v : List Nd) : Bool := decide (∃ x k y l, KTy t x k ∧ VTy v y l ∧ hs false (.cons y l .nil) (.cons x k .nil) = true)
open Classical in
theorem hasB_of {t v : List Nd} {x y : Nd} {k l : Tp} (h1 : KTy t x k) (h2 : VTy v y l) : hasB t v = hs false (.cons y l .nil) (.cons x k .nil) := by
  unfold hasB
  rw [Bool.eq_iff_iff, decide_eq_true_iff]
  constructor
  · rintro ⟨x', k', y', l', g1, g2, g3⟩
    obtain ⟨rfl, rfl⟩ := h1.uniq g1
    obtain ⟨rfl, rfl⟩ := h2.uniq g2
    exact g3
  · intro h; exact ⟨x, k, y, l, h1, h2, h⟩
noncomputable def wtf (t v : List Nd) : Int := orE (hfault t v) (if hasB t v then 0 else 2)
def kof (ks : List Kd) (s : ByteArray) : Option Kd := ks.find? fun k => decide (k.nm = s)
/-- May there be such an entity? -/
noncomputable def mbf (ks : List Kd) (e : En) : Int := match kof ks e.u.t with | none => 3 | some k => if e.up.all (fun u => hasT u.t k.up) then wtf k.ty e.nd else 2
noncomputable def esf (ks : List Kd) : List En → Int
  | [] => 0
  | e :: r => orE (mbf ks e) (esf ks r)
noncomputable def stof (s : Sc) (es : List En) : Int := orE (scf s) (orE (stf es) (esf s.ks es))
def actT : ByteArray := ⟨#[65, 99, 116, 105, 111, 110]⟩
def aof (acs : List Ac) (u : Ui) : Option Ac := acs.find? fun a => decide (u.t = actT) && decide (a.id = u.i)
noncomputable def asks (s : Sc) (q : Rq) : Int := orE (scf s) (orE (askf q) (match aof s.acs q.act with | none => 3 | some a => if hasT q.who.t a.who && hasT q.what.t a.what then wtf a.cx q.cx else 2))

theorem fuE_zero {b : Bool} : fuE b = 0 ↔ b = false := by unfold fuE; cases b <;> simp
theorem esf_zero {ks : List Kd} : ∀ {es : List En}, esf ks es = 0 ↔ ∀ e ∈ es, mbf ks e = 0
  | [] => by simp [esf]
  | e :: r => by rw [esf, orE_zero, esf_zero (es := r)]; simp
/-- A store's entities, one by one. -/
theorem stf_one {es : List En} (h : stf es = 0) {e : En} (he : e ∈ es) : stf [e] = 0 := by
  have hg := stf_zero h
  have h16 : ¬ 16 < es.length := by have := hg.few; omega
  have hl : lfault [] es = 0 := by
    unfold stf at h
    rw [if_neg h16] at h
    by_cases h2 : lfault [] es = 0
    · exact h2
    · rw [if_neg h2] at h; exact h
  obtain ⟨i1, i2⟩ := lfault_zero _ _ hl
  obtain ⟨hu, _, hef⟩ := i1 e he
  have hf : lfault [] [e] = 0 := by
    unfold lfault
    rw [if_pos hu, if_neg (by simp), if_pos hef]
    rfl
  have hc : ¬ Cyc [e] := by
    rintro ⟨x, hx, ha⟩
    rw [List.mem_singleton] at hx
    subst hx
    have hup : ∀ a b, b ∈ upsOf [x] a → b ∈ upsOf es a := by
      intro a b hb
      unfold upsOf at hb
      rw [List.find?_singleton] at hb
      by_cases hxa : x.u = a
      · subst hxa
        rw [decide_eq_true rfl] at hb
        rw [upsOf_of_mem i2 he]
        exact hb
      · rw [decide_eq_false hxa] at hb
        simp at hb
    have hm : ∀ a b, Abv [x] a b → Abv es a b := by
      intro a b hab
      induction hab with
      | one h => exact .one (hup _ _ h)
      | more h _ ih => exact .more (hup _ _ h) ih
    exact hg.cyc ⟨x, he, hm _ _ ha⟩
  unfold stf
  rw [if_neg (by simp), if_pos hf, if_neg hc]
theorem stof_parts {s : Sc} {es : List En} (hs : scf s = 0) (he : stf es = 0) : stof s es = 0 ↔ ∀ e ∈ es, stof s [e] = 0 := by
  unfold stof
  rw [orE_zero, orE_zero, esf_zero]
  constructor
  · rintro ⟨_, _, h⟩ e hm
    rw [orE_zero, orE_zero, esf_zero]
    exact ⟨hs, stf_one he hm, fun x hx => by rw [List.mem_singleton] at hx; rw [hx]; exact h e hm⟩
  · intro h
    refine ⟨hs, he, fun e hm => ?_⟩
    have := h e hm
    rw [orE_zero, orE_zero, esf_zero] at this
    exact this.2.2 e (List.mem_singleton.2 rfl)
/-- With an act more. -/
theorem asks_more {s : Sc} {a : Ac} {q : Rq} (h : asks s q = 0) (hm : scf ⟨s.ks, s.acs ++ [a]⟩ = 0) : asks ⟨s.ks, s.acs ++ [a]⟩ q = 0 := by
  unfold asks at *
  rw [orE_zero, orE_zero] at h ⊢
  refine ⟨hm, h.2.1, ?_⟩
  have h2 := h.2.2
  simp only [aof] at h2 ⊢
  rw [List.find?_append]
  cases e : s.acs.find? (fun a => decide (q.act.t = actT) && decide (a.id = q.act.i)) with
  | none => rw [e] at h2; simp at h2
  | some b => rw [e] at h2; simpa using h2
/-- A kind's type made another. -/
def Kd.put (k : Kd) (t : List Nd) : Kd := ⟨k.nm, k.up, t⟩
theorem ksf_set {t : List Nd} (ht : rcf t = 0) : ∀ (seen : List ByteArray) (ks : List Kd) (k : Nat), ksf seen ks = 0 → ksf seen (ks.modify k (·.put t)) = 0
  | seen, [], k, h => by simpa using h
  | seen, x :: r, 0, h => by
    rw [ksf, orE_zero] at h
    simp only [List.modify_zero_cons]
    rw [ksf, orE_zero]
    refine ⟨?_, h.2⟩
    have h1 := h.1
    unfold kdf at *
    rw [orE_zero, orE_zero, orE_zero, orE_zero] at h1 ⊢
    exact ⟨h1.1, h1.2.1, h1.2.2.1, h1.2.2.2.1, ht⟩
  | seen, x :: r, k + 1, h => by
    rw [ksf, orE_zero] at h
    simp only [List.modify_succ_cons]
    rw [ksf, orE_zero]
    exact ⟨h.1, ksf_set ht _ r k h.2⟩
theorem kof_set {t : List Nd} {s : ByteArray} : ∀ (ks : List Kd) (k : Nat), kof (ks.modify k (·.put t)) s = kof ks s ∨ ∃ (h : k < ks.length), kof ks s = some ks[k] ∧ kof (ks.modify k (·.put t)) s = some (ks[k].put t)
  | [], k => by left; simp
  | x :: r, 0 => by
    simp only [List.modify_zero_cons]
    by_cases e : x.nm = s
    · right
      refine ⟨by simp, ?_, ?_⟩
      · unfold kof; rw [List.find?_cons_of_pos (by simpa using e)]; rfl
      · unfold kof; rw [List.find?_cons_of_pos (by show decide (x.nm = s) = true; exact decide_eq_true e)]; rfl
    · left
      unfold kof
      rw [List.find?_cons_of_neg (by show ¬ decide (x.nm = s) = true; simpa using e), List.find?_cons_of_neg (by simpa using e)]
  | x :: r, k + 1 => by
    simp only [List.modify_succ_cons]
    by_cases e : x.nm = s
    · left
      unfold kof
      rw [List.find?_cons_of_pos (by simpa using e), List.find?_cons_of_pos (by simpa using e)]
    · rcases kof_set (t := t) (s := s) r k with h | ⟨h, h1, h2⟩
      · left
        unfold kof at *
        rw [List.find?_cons_of_neg (by simpa using e), List.find?_cons_of_neg (by simpa using e), h]
      · right
        refine ⟨by simpa using h, ?_, ?_⟩
        · unfold kof at *
          rw [List.find?_cons_of_neg (by simpa using e), h1]; rfl
        · unfold kof at *
          rw [List.find?_cons_of_neg (by simpa using e), h2]; rfl
end Go.Proofs.YtgkbegomekhpcaaGreatDoor
namespace Go.Proofs.YtgkbegomekhpcaaGreatDoor
open Go.RowKit
set_option linter.unusedVariables false

theorem Tryz.infoText : (Tryz.prog.info? 9).map (fun i => (i.zero, i.size, i.bytes)) = some (some (.string ⟨#[]⟩), 1, 16) := by kernel_rfl

/-- Texts lie behind an address, one behind the other. -/
def TL (w : World) (p : Option Addr) (ts : List ByteArray) : Prop :=
  ts = [] ∨ ∃ b off, p = some ⟨b, off, none⟩ ∧ b < w.heap.size ∧ ∀ i s, ts[i]? = some s → w.cell? ⟨b, off + i, none⟩ = some (.string s)
theorem TL.up {w w' : World} {p : Option Addr} {ts : List ByteArray} (h : TL w p ts) (k : Below w.heap.size w w') : TL w' p ts := by
  rcases h with h | ⟨b, off, h1, h2, h3⟩
  · exact .inl h
  · exact .inr ⟨b, off, h1, Nat.lt_of_lt_of_le h2 k.size, fun i s hs => (k.cell (p := ⟨b, off + i, none⟩) h2).trans (h3 i s hs)⟩
theorem TL.at {w : World} {p : Option Addr} {ts : List ByteArray} (h : TL w p ts) {i : Nat} (hi : i < ts.length) : ∃ b off, p = some ⟨b, off, none⟩ ∧ b < w.heap.size ∧ w.cell? ⟨b, off + i, none⟩ = some (.string ts[i]) := by
  rcases h with rfl | ⟨b, off, h1, h2, h3⟩
  · simp at hi
  · exact ⟨b, off, h1, h2, h3 i _ (List.getElem?_eq_getElem hi)⟩
/-- Texts in a row of the call's own. -/
def OT (w : World) (base : Nat) (v : Value) (ts : List ByteArray) : Prop := Row1 w base 9 v (ts.map Value.string)
theorem OT.texts {w : World} {base : Nat} {v : Value} {ts : List ByteArray} (h : OT w base v ts) : ∃ q c, v = .slice q ts.length c ∧ TL w q ts ∧ ts.length ≤ c ∧ c ≤ maxLen := by
  obtain ⟨q, c, e, h1, h2, h3⟩ := Row1.slice h
  rw [List.length_map] at e h1
  refine ⟨q, c, e, ?_, h1, h2⟩
  rcases h3 with h3 | ⟨g, e2, ht, _, hc⟩
  · exact .inl (by simpa using h3)
  · exact .inr ⟨g, 0, e2, ht.lt, fun i s hs => by rw [Nat.zero_add]; exact hc i _ (by simp [hs])⟩

theorem append_text (w : World) {ops : Array Oper} {rest : List Oper} {o : Oper} {a : Act} {Q : Exit → Act → World → Prop} (hgd : o.guard = none) (s x : Operand)
    (ho : o.op = .call { callee := .builtin .append, args := #[s, x], argTypes := #[62, 62] })
    (base : Nat) (v : Value) (ts : List ByteArray) (hs : a.eval s = v) (hown : OT w base v ts) (t : ByteArray)
    (hx : a.eval x = .slice (some ⟨w.heap.size, 0, none⟩) 1 1) (hlen : ts.length + 1 ≤ 1099511627776) (hbase : base ≤ w.heap.size)
    (h : ∀ v' w', OT w' base v' (ts ++ [t]) → Kept base 9 w w' → wpList Tryz.prog ops Q rest (a.put o.dst v') w') : wpList Tryz.prog ops Q (o :: rest) a (w.alloc (.cells #[.string t] 9)) := by
  refine append_cell w hgd s x 62 9 ho Tryz.underlying62 (.string ⟨#[]⟩) 16 Tryz.infoText rfl base v (ts.map Value.string) hs hown (.string t) rfl hx (by rw [List.length_map]; unfold maxLen; omega) (by rw [List.length_map]; omega) hbase ?_
  intro v' w' h1 k
  refine h v' w' ?_ k
  unfold OT; rw [List.map_append]; exact h1
end Go.Proofs.YtgkbegomekhpcaaGreatDoor
namespace Go.Proofs.YtgkbegomekhpcaaGreatDoor
open Go.RowKit
set_option linter.unusedVariables false

/-- Texts as an argument. -/
structure TA (w : World) (l : List ByteArray) (p : Option Addr) (c : Nat) : Prop where
  tl : TL w p l
  sz : ∀ t ∈ l, t.size ≤ maxLen
  le : l.length ≤ c
  cm : c ≤ maxLen
theorem TA.up {w w' : World} {l : List ByteArray} {p : Option Addr} {c : Nat} (h : TA w l p c) (k : Below w.heap.size w w') : TA w' l p c := ⟨h.tl.up k, h.sz, h.le, h.cm⟩
/-- What a kind's cells lead to. -/
structure KdV (w : World) (k : Kd) (pu : Option Addr) (cu : Nat) (pt : Option Addr) (ct : Nat) : Prop where
  nm : k.nm.size ≤ maxLen
  us : TA w k.up pu cu
  ty : AK w k.ty pt ct
theorem KdV.up {w w' : World} {k : Kd} {pu pt : Option Addr} {cu ct : Nat} (h : KdV w k pu cu pt ct) (hb : Below w.heap.size w w') : KdV w' k pu cu pt ct := ⟨h.nm, h.us.up hb, h.ty.up hb⟩
/-- A list of kinds lies behind an address. -/
def KdL (w : World) (p : Option Addr) (ks : List Kd) : Prop :=
  ks = [] ∨ ∃ b off, p = some ⟨b, off, none⟩ ∧ b < w.heap.size ∧ ∀ i k, ks[i]? = some k → ∃ pu cu pt ct, KdV w k pu cu pt ct ∧
    w.cell? ⟨b, off + i * 3, none⟩ = some (.string k.nm) ∧ w.cell? ⟨b, off + i * 3 + 1, none⟩ = some (.slice pu k.up.length cu) ∧ w.cell? ⟨b, off + i * 3 + 2, none⟩ = some (.slice pt k.ty.length ct)
theorem KdL.up {w w' : World} {p : Option Addr} {ks : List Kd} (h : KdL w p ks) (k : Below w.heap.size w w') : KdL w' p ks := by
  rcases h with h | ⟨b, off, h1, h2, h3⟩
  · exact .inl h
  · refine .inr ⟨b, off, h1, Nat.lt_of_lt_of_le h2 k.size, fun i x hx => ?_⟩
    obtain ⟨pu, cu, pt, ct, q0, q1⟩ := h3 i x hx
    have q : ∀ o, w'.cell? ⟨b, o, none⟩ = w.cell? ⟨b, o, none⟩ := fun o => k.cell (p := ⟨b, o, none⟩) h2
    refine ⟨pu, cu, pt, ct, q0.up k, ?_⟩
    simp only [q]
    exact q1
theorem KdL.at {w : World} {p : Option Addr} {ks : List Kd} (h : KdL w p ks) {i : Nat} (hi : i < ks.length) : ∃ b off pu cu pt ct, p = some ⟨b, off, none⟩ ∧ b < w.heap.size ∧ KdV w ks[i] pu cu pt ct ∧
    w.cell? ⟨b, off + i * 3, none⟩ = some (.string ks[i].nm) ∧ w.cell? ⟨b, off + i * 3 + 1, none⟩ = some (.slice pu ks[i].up.length cu) ∧ w.cell? ⟨b, off + i * 3 + 2, none⟩ = some (.slice pt ks[i].ty.length ct) := by
  rcases h with rfl | ⟨b, off, h1, h2, h3⟩
  · simp at hi
  · obtain ⟨pu, cu, pt, ct, q0, q1, q2, q3⟩ := h3 i _ (List.getElem?_eq_getElem hi)
    exact ⟨b, off, pu, cu, pt, ct, h1, h2, q0, q1, q2, q3⟩
/-- What an act's cells lead to. -/
structure AcV (w : World) (a : Ac) (p0 : Option Addr) (c0 : Nat) (p1 : Option Addr) (c1 : Nat) (pt : Option Addr) (ct : Nat) : Prop where
  id : a.id.size ≤ maxLen
  us : TA w a.who p0 c0
  vs : TA w a.what p1 c1
  ty : AK w a.cx pt ct
theorem AcV.up {w w' : World} {a : Ac} {p0 p1 pt : Option Addr} {c0 c1 ct : Nat} (h : AcV w a p0 c0 p1 c1 pt ct) (hb : Below w.heap.size w w') : AcV w' a p0 c0 p1 c1 pt ct := ⟨h.id, h.us.up hb, h.vs.up hb, h.ty.up hb⟩
/-- A list of acts lies behind an address. -/
def AcL (w : World) (p : Option Addr) (al : List Ac) : Prop :=
  al = [] ∨ ∃ b off, p = some ⟨b, off, none⟩ ∧ b < w.heap.size ∧ ∀ i a, al[i]? = some a → ∃ p0 c0 p1 c1 pt ct, AcV w a p0 c0 p1 c1 pt ct ∧
    w.cell? ⟨b, off + i * 4, none⟩ = some (.string a.id) ∧ w.cell? ⟨b, off + i * 4 + 1, none⟩ = some (.slice p0 a.who.length c0) ∧ w.cell? ⟨b, off + i * 4 + 2, none⟩ = some (.slice p1 a.what.length c1) ∧ w.cell? ⟨b, off + i * 4 + 3, none⟩ = some (.slice pt a.cx.length ct)
theorem AcL.up {w w' : World} {p : Option Addr} {al : List Ac} (h : AcL w p al) (k : Below w.heap.size w w') : AcL w' p al := by
  rcases h with h | ⟨b, off, h1, h2, h3⟩
  · exact .inl h
  · refine .inr ⟨b, off, h1, Nat.lt_of_lt_of_le h2 k.size, fun i x hx => ?_⟩
    obtain ⟨p0, c0, p1, c1, pt, ct, q0, q1⟩ := h3 i x hx
    have q : ∀ o, w'.cell? ⟨b, o, none⟩ = w.cell? ⟨b, o, none⟩ := fun o => k.cell (p := ⟨b, o, none⟩) h2
    refine ⟨p0, c0, p1, c1, pt, ct, q0.up k, ?_⟩
    simp only [q]
    exact q1
theorem AcL.at {w : World} {p : Option Addr} {al : List Ac} (h : AcL w p al) {i : Nat} (hi : i < al.length) : ∃ b off p0 c0 p1 c1 pt ct, p = some ⟨b, off, none⟩ ∧ b < w.heap.size ∧ AcV w al[i] p0 c0 p1 c1 pt ct ∧
    w.cell? ⟨b, off + i * 4, none⟩ = some (.string al[i].id) ∧ w.cell? ⟨b, off + i * 4 + 1, none⟩ = some (.slice p0 al[i].who.length c0) ∧ w.cell? ⟨b, off + i * 4 + 2, none⟩ = some (.slice p1 al[i].what.length c1) ∧ w.cell? ⟨b, off + i * 4 + 3, none⟩ = some (.slice pt al[i].cx.length ct) := by
  rcases h with rfl | ⟨b, off, h1, h2, h3⟩
  · simp at hi
  · obtain ⟨p0, c0, p1, c1, pt, ct, q0, q1, q2, q3, q4⟩ := h3 i _ (List.getElem?_eq_getElem hi)
    exact ⟨b, off, p0, c0, p1, c1, pt, ct, h1, h2, q0, q1, q2, q3, q4⟩
/-- A schema as an argument. -/
structure SA (w : World) (s : Sc) (pk : Option Addr) (ck : Nat) (pa : Option Addr) (ca : Nat) : Prop where
  ks : KdL w pk s.ks
  kl : s.ks.length ≤ ck
  km : ck ≤ maxLen
  asl : AcL w pa s.acs
  al : s.acs.length ≤ ca
  am : ca ≤ maxLen
theorem SA.up {w w' : World} {s : Sc} {pk pa : Option Addr} {ck ca : Nat} (h : SA w s pk ck pa ca) (hb : Below w.heap.size w w') : SA w' s pk ck pa ca := ⟨h.ks.up hb, h.kl, h.km, h.asl.up hb, h.al, h.am⟩
def scV (s : Sc) (pk : Option Addr) (ck : Nat) (pa : Option Addr) (ca : Nat) : Value := .agg #[.slice pk s.ks.length ck, .slice pa s.acs.length ca]
end Go.Proofs.YtgkbegomekhpcaaGreatDoor
namespace Go.Proofs.YtgkbegomekhpcaaGreatDoor
open Go.RowKit Go.Maps Go.WideMaps
set_option linter.unusedVariables false
set_option linter.unusedSimpArgs false
set_option maxRecDepth 100000

theorem tl_neS {a b : ByteArray} (h : a ≠ b) : ¬ a.toList = b.toList := fun e => h (bytes_inj (by simpa only [ByteArray.toList_eq] using e))
theorem skey_law : Keyed Tryz.prog 9 := string_keyed Tryz.underlying9
theorem zeroUnitS (w : World) : (zeroValue 254).run Tryz.prog w = .ok (.agg #[]) w := by kernel_rfl
/-- A set of names: a map of the call's own. -/
def NSet (w : World) (b : Nat) (L : List ByteArray) : Prop :=
  ∃ D : DataW Unit, w.ownsMap Tryz.prog 9 unitElem b L.length D ∧ (∀ s : ByteArray, Maps.has D (.string s.data.toList) = hasT s L) ∧ Maps.size D = L.length
theorem gbS_of {w w' : World} (h : Below w.heap.size w w') : w.grownBy w' none := ⟨h.os, h.tape, h.output, h.size, fun i hi _ => h.block i hi⟩
theorem NSet.made (w : World) : NSet (w.alloc (.map #[] 0)) w.heap.size [] := ⟨.map [], World.ownsMap_made _ _ _ _, fun s => by simp [Maps.has, hasT], rfl⟩
theorem NSet.up {w w' : World} {b : Nat} {L : List ByteArray} (h : NSet w b L) (k : Below w.heap.size w w') : NSet w' b L := by
  obtain ⟨D, h1, h2⟩ := h
  exact ⟨D, h1.kept (gbS_of k) (by simp), h2⟩
theorem NSet.lt {w : World} {b : Nat} {L : List ByteArray} (h : NSet w b L) : b < w.heap.size := by
  obtain ⟨D, h1, _⟩ := h
  exact h1.lt
theorem NSet.put {D : DataW Unit} {L : List ByteArray} {s : ByteArray} (ht : Tidy D) (h2 : ∀ s : ByteArray, Maps.has D (.string s.data.toList) = hasT s L) (h3 : Maps.size D = L.length) (hn : hasT s L = false) (d : DataW Unit) : (∀ v : ByteArray, Maps.has (D.put (.string s.data.toList) d) (.string v.data.toList) = hasT v (L ++ [s])) ∧ Maps.size (D.put (.string s.data.toList) d) = (L ++ [s]).length := by
  have hno : Maps.has D (.string s.data.toList) = false := by rw [h2, hn]
  have hkl : WideAt.IsKeyLit (.string s.data.toList) := trivial
  refine ⟨fun v => ?_, ?_⟩
  · by_cases e : v = s
    · subst e
      rw [has_put_same ht.isMap hkl]
      exact (hasT_iff.2 (by simp)).symm
    · rw [has_put_other (fun q => e (bytes_inj (by injection q))), h2 v, Bool.eq_iff_iff, hasT_iff, hasT_iff]
      simp [e]
  · rw [size_put ht, hno, h3]; simp
set_option maxHeartbeats 1000000 in
theorem sput_twice (b : Nat) (L : List ByteArray) (s : ByteArray) (w : World) (hs : NSet w b L) (hz : s.size ≤ maxLen) (h : hasT s L = true) :
    Calls Tryz.prog 107 #[.map (some b), .string s] w fun e w' => e = .returned (.iface 36 (.int .i64 6)) ∧ Below w.heap.size w w' := by
  obtain ⟨D, h1, h2, _⟩ := hs
  have hD : Maps.has D (.string s.data.toList) = true := by rw [h2, h]
  clear h2 h
  go_enter Tryz.func107, Tryz.ntmps107
  go_wp2_with (at_lookup; refine wpList_lookup_own_unit _ rfl _ _ 180 rfl 9 254 skey_law Tryz.underlying180 (zeroUnitS _) b L.length D rfl h1 _ _ rfl (keyOf_string_mk Tryz.underlying9 hz) ?_; rw [hD])
  go_ret
  exact ⟨rfl, kqx⟩
set_option maxHeartbeats 1000000 in
theorem sput_ok (b : Nat) (L : List ByteArray) (s : ByteArray) (w : World) (hs : NSet w b L) (hz : s.size ≤ maxLen) (h : hasT s L = false) (hl : L.length < 1000) :
    Calls Tryz.prog 107 #[.map (some b), .string s] w fun e w' => e = .returned .nilIface ∧ NSet w' b (L ++ [s]) ∧ w.grownBy w' (some b) := by
  have HS : Hid (NSet w b L) := hs
  obtain ⟨D, h1, h2, h3⟩ := hs
  have hD : Maps.has D (.string s.data.toList) = false := by rw [h2, h]
  have HT : Hid (_ ∧ _) := NSet.put (d := .agg []) (h1.tidy skey_law) h2 h3 h
  clear h2 h3 h
  go_enter Tryz.func107, Tryz.ntmps107
  have h1a := fun o => h1.alloc o
  go_wp2_with (first | (at_lookup; refine wpList_lookup_own_unit _ rfl _ _ 180 rfl 9 254 skey_law Tryz.underlying180 (zeroUnitS _) b L.length D rfl h1 _ _ rfl (keyOf_string_mk Tryz.underlying9 hz) ?_; rw [hD]) | (at_mapUpdate; refine wpList_mapUpdate_own _ rfl _ _ _ 180 rfl 9 254 skey_law Tryz.underlying180 _ b L.length D rfl (h1a _) (by unfold maxLen; omega) _ _ (.string s.data.toList) rfl rfl (keyOf_string_mk Tryz.underlying9 hz) (.agg []) [] unitElem_mk ?_; intro w3 hown3 hg3))
  go_ret
  refine ⟨rfl, ⟨_, by simpa using hown3, HT.out⟩, ((gbS_of kqx).but _).trans hg3⟩
theorem not_takeS {s : ByteArray} {l : List ByteArray} {k : Nat} (h : k < l.length) (h1 : s ∉ l.take k) (h2 : l[k] ≠ s) : s ∉ l.take (k + 1) := by
  rw [List.take_succ_eq_append_getElem h, List.mem_append, List.mem_singleton]
  rintro (h3 | h3)
  · exact h1 h3
  · exact h2 h3.symm
set_option maxHeartbeats 1000000 in
theorem indexS_any (s : ByteArray) (l : List ByteArray) (p : Option Addr) (c : Nat) (w : World) (hl : TL w p l) (hn : l.length ≤ maxLen) :
    Calls Tryz.prog 62 #[.slice p l.length c, .string s] w fun e w' => ∃ k : Int, e = .returned (.int .i64 k) ∧ (0 ≤ k ↔ s ∈ l) ∧ w' = w := by
  unfold maxLen at hn
  go_enter Tryz.func62, Tryz.ntmps62
  go_wp2
  go_loop [8] (fun i => ∃ k : Nat, k ≤ l.length ∧ i = .int .i64 k ∧ Hid (s ∉ l.take k)) (fun i => l.length - (intOf i).toNat)
  case atStart => exact ⟨0, Nat.zero_le _, rfl, fun h => by simp at h⟩
  case round =>
    obtain ⟨k, hk, rfl, HD⟩ := hrel
    by_cases hlt : k < l.length
    · obtain ⟨b1, o1, rfl, hb1, x0⟩ := hl.at hlt
      have i1 : (k : Int) < (l.length : Int) := by omega
      have HM : Hid (l[k] ∈ l) := List.getElem_mem _
      have HN : Hid (l[k] ≠ s → s ∉ l.take (k + 1)) := not_takeS hlt HD.out
      generalize l[k] = x at *
      by_cases h1 : s = x
      · subst h1
        clear HN
        go_wp2
        go_ret
        exact ⟨_, rfl, ⟨fun _ => HM.out, fun _ => by omega⟩, rfl⟩
      · have h1' : (s.toList == x.toList) = false := by simpa using tl_neS h1
        have HN2 : Hid (s ∉ l.take (k + 1)) := HN.out (fun e => h1 e.symm)
        clear HN h1 HM
        go_wp2
        go_round
        case rel => exact ⟨k + 1, by omega, by go_num, HN2⟩
        case measure => simp [intOf]; omega
    · have i1 : ¬ (k : Int) < (l.length : Int) := by omega
      have HS : Hid (s ∉ l) := by
        have := HD.out
        rw [List.take_of_length_le (by omega)] at this
        exact this
      clear HD
      go_wp2
      go_ret
      exact ⟨_, rfl, ⟨fun h => absurd h (by decide), fun h => absurd h HS.out⟩, rfl⟩
theorem containsS_any (s : ByteArray) (l : List ByteArray) (p : Option Addr) (c : Nat) (w : World) (hl : TA w l p c) :
    Calls Tryz.prog 25 #[.slice p l.length c, .string s] w fun e w' => e = .returned (.bool (hasT s l)) ∧ w' = w := by
  have H1 := indexS_any s l p c w hl.tl (Nat.le_trans hl.le hl.cm)
  go_enter Tryz.func25, Tryz.ntmps25
  go_wp2_with fail
  refine H1.mono ?_
  rintro e w1 ⟨k, rfl, hk, rfl⟩
  have HD : Hid (decide (0 ≤ k) = hasT s l) := by show _ = _; rw [Bool.eq_iff_iff, decide_eq_true_eq, hasT_iff]; exact hk
  clear hk H1
  go_wp2
  go_ret
  exact ⟨by rw [← HD.out]; rfl, rfl⟩
theorem nsf_step {l : List ByteArray} {k : Nat} (h : k < l.length) : nsf (l.drop k) = orE (nmf l[k]) (nsf (l.drop (k + 1))) := by rw [List.drop_eq_getElem_cons h]; rfl
set_option maxHeartbeats 1000000 in
theorem checkNames_any (l : List ByteArray) (p : Option Addr) (c : Nat) (w : World) (hl : TA w l p c) :
    Calls Tryz.prog 108 #[.slice p l.length c] w fun e w' => e = .returned (eV (nsf l)) ∧ w' = w := by
  have hn := Nat.le_trans hl.le hl.cm
  unfold maxLen at hn
  go_enter Tryz.func108, Tryz.ntmps108
  go_wp2
  go_loop [8] (fun i => ∃ k : Nat, k ≤ l.length ∧ i = .int .i64 k ∧ Hid (nsf l = nsf (l.drop k))) (fun i => l.length - (intOf i).toNat)
  case atStart => exact ⟨0, Nat.zero_le _, rfl, rfl⟩
  case round =>
    obtain ⟨k, hk, rfl, HD⟩ := hrel
    by_cases hlt : k < l.length
    · obtain ⟨b1, o1, rfl, hb1, x0⟩ := hl.tl.at hlt
      have i1 : (k : Int) < (l.length : Int) := by omega
      have HE : Hid (nsf l = orE (nmf l[k]) (nsf (l.drop (k + 1)))) := by show _ = _; rw [HD.out, nsf_step hlt]
      have HC := check_any l[k] w (hl.sz _ (List.getElem_mem _))
      have e1 : nfault l[k].data.toList = nmf l[k] := rfl
      rw [e1] at HC
      generalize l[k] = x at *
      clear e1 hl
      by_cases h0 : nmf x = 0
      · rw [eV_nil h0] at HC
        have HE2 : Hid (nsf l = nsf (l.drop (k + 1))) := by show _ = _; rw [HE.out, orE_r h0]
        clear HE h0 HD
        go_wp2_with fail
        refine HC.mono ?_
        rintro e w1 ⟨rfl, rfl⟩
        go_wp2
        go_round
        case rel => exact ⟨k + 1, by omega, by go_num, HE2⟩
        case measure => simp [intOf]; omega
      · rw [eV_not h0] at HC
        have HE2 : Hid (eV (nsf l) = .iface 36 (.int .i64 (nmf x))) := by show _ = _; rw [HE.out, orE_l h0, eV_not h0]
        clear HE h0 HD
        generalize nmf x = n at *
        go_wp2_with fail
        refine HC.mono ?_
        rintro e w1 ⟨rfl, rfl⟩
        go_wp2
        go_ret
        exact ⟨by rw [HE2.out]; rfl, rfl⟩
    · have i1 : ¬ (k : Int) < (l.length : Int) := by omega
      have HE2 : Hid (nsf l = 0) := by show _ = _; rw [HD.out, List.drop_of_length_le (by omega)]; rfl
      clear HD
      go_wp2
      go_ret
      exact ⟨by rw [HE2.out]; rfl, rfl⟩
end Go.Proofs.YtgkbegomekhpcaaGreatDoor
namespace Go.Proofs.YtgkbegomekhpcaaGreatDoor
open Go.RowKit
set_option linter.unusedVariables false
set_option maxRecDepth 100000

/-- Check of kinds. -/
theorem kcheck_any (v : List Nd) (w : World) (p : Option Addr) (c : Nat) (hv : NL w p v) (hc : v.length ≤ c) (hcm : c ≤ maxLen) :
    Calls Tryz.prog 179 #[.slice p v.length c] w fun e w' => e = .returned (eV (kfault v)) ∧ Below w.heap.size w w' := by
  by_cases h : kfault v = 0
  · obtain ⟨h1, x, k, h2⟩ := kfault_zero h
    have hC := read_ok v w p c hv hc hcm h1 x k h2
    rw [eV_nil h]
    clear hv h h1 h2
    go_enter Tryz.func179, Tryz.ntmps179
    go_wp2_with fail
    refine hC.mono ?_
    rintro _ w1 ⟨⟨q, c', rfl, _, _⟩, hb⟩
    go_wp2
    go_ret
    exact ⟨rfl, kqA hb⟩
  · have hC := read_err v w p c hv hc hcm h
    rw [eV_not h]
    generalize kfault v = n at *
    clear hv
    go_enter Tryz.func179, Tryz.ntmps179
    go_wp2_with fail
    refine hC.mono ?_
    rintro _ w1 ⟨rfl, hb⟩
    go_wp2
    go_ret
    exact ⟨rfl, kqA hb⟩
end Go.Proofs.YtgkbegomekhpcaaGreatDoor
namespace Go.Proofs.YtgkbegomekhpcaaGreatDoor
open Go.RowKit
set_option linter.unusedVariables false

theorem AK.check {a : List Nd} {w : World} {p : Option Addr} {c : Nat} (ha : AK w a p c) : Calls Tryz.prog 179 #[.slice p a.length c] w fun e w' => e = .returned (eV (kfault a)) ∧ Below w.heap.size w w' := kcheck_any a w p c ha.nl ha.le ha.cm
end Go.Proofs.YtgkbegomekhpcaaGreatDoor
namespace Go.Proofs.YtgkbegomekhpcaaGreatDoor
open Go.RowKit Go.Maps Go.WideMaps
set_option linter.unusedVariables false
set_option linter.unusedSimpArgs false
set_option maxRecDepth 100000

theorem opE_at {t : List Nd} (h : 0 < t.length) : opE t = if t[0].op = 46 then 0 else 2 := by
  cases t with
  | nil => simp at h
  | cons x r => rfl
set_option maxHeartbeats 1000000 in
theorem checkRec_any (t : List Nd) (p : Option Addr) (c : Nat) (w : World) (ht : AK w t p c) :
    Calls Tryz.prog 109 #[.slice p t.length c] w fun e w' => e = .returned (eV (rcf t)) ∧ Below w.heap.size w w' := by
  have HC := ht.check
  by_cases h0 : kfault t = 0
  · rw [eV_nil h0] at HC
    obtain ⟨_, x, k, hk⟩ := kfault_zero h0
    have hl : 0 < t.length := by rw [hk.2]; simp
    have HR : Hid (rcf t = if t[0].op = 46 then 0 else 2) := by show _ = _; unfold rcf; rw [orE_r h0, opE_at hl]
    obtain ⟨b, off, rfl, hbw, x0, hrest⟩ := ht.nl.at hl
    simp only [Nat.zero_mul, Nat.add_zero] at x0
    have i1 : (0 : Int) < (t.length : Int) := by omega
    clear hrest ht hk h0
    generalize t[0] = y at *
    by_cases h6 : y.op = 46
    · have e6 : (y.op != 46) = false := by simpa using h6
      have HE : Hid (eV (rcf t) = .nilIface) := by show _ = _; rw [HR.out, if_pos h6]; rfl
      clear h6 HR
      go_enter Tryz.func109, Tryz.ntmps109
      go_wp2_with fail
      refine HC.mono ?_
      rintro e w1 ⟨rfl, hb1⟩
      have z0 := (hb1.cell (p := ⟨b, off, none⟩) hbw).trans x0
      go_wp2
      go_ret
      exact ⟨by rw [HE.out]; rfl, hb1⟩
    · have e6 : (y.op != 46) = true := by simpa using h6
      have HE : Hid (eV (rcf t) = .iface 36 (.int .i64 2)) := by show _ = _; rw [HR.out, if_neg h6]; rfl
      clear h6 HR
      go_enter Tryz.func109, Tryz.ntmps109
      go_wp2_with fail
      refine HC.mono ?_
      rintro e w1 ⟨rfl, hb1⟩
      have z0 := (hb1.cell (p := ⟨b, off, none⟩) hbw).trans x0
      go_wp2
      go_ret
      exact ⟨by rw [HE.out]; rfl, hb1⟩
  · rw [eV_not h0] at HC
    have HE : Hid (eV (rcf t) = .iface 36 (.int .i64 (kfault t))) := by show _ = _; unfold rcf; rw [orE_l h0, eV_not h0]
    generalize kfault t = n at *
    clear ht h0
    go_enter Tryz.func109, Tryz.ntmps109
    go_wp2_with fail
    refine HC.mono ?_
    rintro e w1 ⟨rfl, hb1⟩
    go_wp2
    go_ret
    exact ⟨by rw [HE.out]; rfl, hb1⟩
theorem ksf_step {ks : List Kd} {k : Nat} (h : k < ks.length) : ksf ((ks.take k).map (·.nm)) (ks.drop k) = orE (kdf ((ks.take k).map (·.nm)) ks[k]) (ksf ((ks.take (k + 1)).map (·.nm)) (ks.drop (k + 1))) := by
  rw [List.take_succ_eq_append_getElem h, List.map_append]
  rw [List.drop_eq_getElem_cons h]
  rfl
/-- Where a kind's error comes from. -/
theorem kdf_ways (seen : List ByteArray) (k : Kd) : (nmf k.nm ≠ 0 ∧ kdf seen k = nmf k.nm) ∨ (nmf k.nm = 0 ∧ hasT k.nm seen = true ∧ kdf seen k = 6) ∨ (nmf k.nm = 0 ∧ hasT k.nm seen = false ∧ 6 < k.up.length ∧ kdf seen k = 4) ∨ (nmf k.nm = 0 ∧ hasT k.nm seen = false ∧ ¬ 6 < k.up.length ∧ nsf k.up ≠ 0 ∧ kdf seen k = nsf k.up) ∨ (nmf k.nm = 0 ∧ hasT k.nm seen = false ∧ ¬ 6 < k.up.length ∧ nsf k.up = 0 ∧ kdf seen k = rcf k.ty) := by
  unfold kdf
  by_cases h1 : nmf k.nm = 0
  · rw [orE_r h1]
    cases h2 : hasT k.nm seen
    · rw [orE_r (by unfold twE; rw [h2]; rfl)]
      by_cases h3 : 6 < k.up.length
      · exact .inr (.inr (.inl ⟨h1, rfl, h3, by rw [decide_eq_true h3]; rfl⟩))
      · rw [orE_r (by rw [decide_eq_false h3]; rfl)]
        by_cases h4 : nsf k.up = 0
        · exact .inr (.inr (.inr (.inr ⟨h1, rfl, h3, h4, orE_r h4⟩)))
        · exact .inr (.inr (.inr (.inl ⟨h1, rfl, h3, h4, orE_l h4⟩)))
    · exact .inr (.inl ⟨h1, rfl, by unfold twE; rw [h2]; rfl⟩)
  · exact .inl ⟨h1, orE_l h1⟩
theorem grown_cell {w w' : World} {r : Nat} (h : w.grownBy w' (some r)) {a : Addr} (hl : a.block < w.heap.size) (hn : a.block ≠ r) : w'.cell? a = w.cell? a := World.cell?_of_block (h.block _ hl (fun e => hn (Option.some.inj e)))
set_option maxHeartbeats 4000000 in
theorem checkKinds_any (ks : List Kd) (p : Option Addr) (c : Nat) (w : World) (hl : KdL w p ks) (h8 : ks.length ≤ 8) :
    Calls Tryz.prog 59 #[.slice p ks.length c] w fun e w' => e = .returned (eV (ksf [] ks)) ∧ Below w.heap.size w w' := by
  have HL : Hid (KdL w p ks) := hl
  have hmm := @run_makeMap Tryz.prog
  clear hl
  go_enter Tryz.func59, Tryz.ntmps59
  go_wp2_with fail
  go_loopw [13] (fun i wr => ∃ k : Nat, k ≤ ks.length ∧ i = .int .i64 k ∧ NSet wr w.heap.size ((ks.take k).map (·.nm)) ∧ Below w.heap.size w wr ∧ Hid (ksf [] ks = ksf ((ks.take k).map (·.nm)) (ks.drop k))) (fun i _ => ks.length - (intOf i).toNat)
  case atStart => exact ⟨0, Nat.zero_le _, rfl, by simpa using NSet.made w, (Below.refl _ _).alloc (Nat.le_refl _) _, by simp [Hid]⟩
  case round =>
    rename World => wr
    obtain ⟨k, hk, rfl, hset, hnx, HR⟩ := hrel
    by_cases hlt : k < ks.length
    · have i1 : (k : Int) < (ks.length : Int) := by omega
      obtain ⟨b, off, pu, cu, pt, ct, rfl, hbl, hkv, c0, c1, c2⟩ := HL.out.at hlt
      replace c0 := (hnx.cell (p := ⟨b, off + k * 3, none⟩) hbl).trans c0
      replace c1 := (hnx.cell (p := ⟨b, off + k * 3 + 1, none⟩) hbl).trans c1
      replace c2 := (hnx.cell (p := ⟨b, off + k * 3 + 2, none⟩) hbl).trans c2
      have HS : Hid (ksf [] ks = orE (kdf ((ks.take k).map (·.nm)) ks[k]) (ksf ((ks.take (k + 1)).map (·.nm)) (ks.drop (k + 1)))) := by show _ = _; rw [HR.out]; exact ksf_step hlt
      have HT : Hid ((ks.take (k + 1)).map (·.nm) = (ks.take k).map (·.nm) ++ [ks[k].nm]) := by show _ = _; rw [List.take_succ_eq_append_getElem hlt, List.map_append]; rfl
      have hsl : ((ks.take k).map (·.nm)).length < 1000 := by simp; omega
      generalize ks[k] = x at *
      obtain ⟨nm, up, ty⟩ := x
      dsimp only at c0 c1 c2
      obtain ⟨V, hV⟩ : ∃ V, V = wr.alloc (.cells #[.string nm, .slice pu up.length cu, .slice pt ty.length ct] 182) := ⟨_, rfl⟩
      have hbV : Below wr.heap.size wr V := by rw [hV]; exact kqx
      have hVs : V.heap.size = wr.heap.size + 1 := by rw [hV]; simp
      have v0 : V.cell? ⟨wr.heap.size, 0, none⟩ = some (.string nm) := by rw [hV]; simp
      have v1 : V.cell? ⟨wr.heap.size, 1, none⟩ = some (.slice pu up.length cu) := by rw [hV]; simp
      have v2 : V.cell? ⟨wr.heap.size, 2, none⟩ = some (.slice pt ty.length ct) := by rw [hV]; simp
      have hwr := hset.lt
      have hbw := kqt hnx hbV
      have HC := check_any nm V hkv.nm
      have eC : nfault nm.data.toList = nmf nm := rfl
      rw [eC] at HC
      have HS2 := hset.up hbV
      rcases kdf_ways ((ks.take k).map (·.nm)) ⟨nm, up, ty⟩ with ⟨n1, e1⟩ | ⟨n1, n2, e1⟩ | ⟨n1, n2, n3, e1⟩ | ⟨n1, n2, n3, n4, e1⟩ | ⟨n1, n2, n3, n4, e1⟩
      · rw [eV_not n1] at HC
        have HE : Hid (eV (ksf [] ks) = .iface 36 (.int .i64 (nmf nm))) := by show _ = _; rw [HS.out, e1, orE_l n1, eV_not n1]
        clear e1 n1 HS HR hset HS2
        generalize nmf nm = n at *
        go_wp2_with fail
        rw [← hV]
        clear hV
        refine HC.mono ?_
        rintro e w1 ⟨rfl, rfl⟩
        go_wp2
        go_ret
        exact ⟨by rw [HE.out]; rfl, hbw⟩
      · rw [eV_nil n1] at HC
        have HE : Hid (eV (ksf [] ks) = .iface 36 (.int .i64 6)) := by show _ = _; rw [HS.out, e1]; rfl
        have HP := sput_twice w.heap.size _ nm V HS2 hkv.nm n2
        clear e1 n1 HS HR hset HS2 n2
        go_wp2_with fail
        rw [← hV]
        clear hV
        refine HC.mono ?_
        rintro e w1 ⟨rfl, rfl⟩
        go_wp2_with fail
        refine HP.mono ?_
        rintro e w2 ⟨rfl, hb2⟩
        go_wp2
        go_ret
        exact ⟨by rw [HE.out]; rfl, kqt hbw hb2⟩
      · rw [eV_nil n1] at HC
        have HE : Hid (eV (ksf [] ks) = .iface 36 (.int .i64 4)) := by show _ = _; rw [HS.out, e1]; rfl
        have HP := sput_ok w.heap.size _ nm V HS2 hkv.nm n2 hsl
        have i6 : (6 : Int) < (up.length : Int) := by dsimp only at n3; omega
        clear e1 n1 HS HR hset HS2 n2 n3
        go_wp2_with fail
        rw [← hV]
        clear hV
        refine HC.mono ?_
        rintro e w1 ⟨rfl, rfl⟩
        go_wp2_with fail
        refine HP.mono ?_
        rintro e w2 ⟨rfl, hset2, hg2⟩
        have u1 := (grown_cell hg2 (a := ⟨wr.heap.size, 1, none⟩) (by show wr.heap.size < _; omega) (by show wr.heap.size ≠ _; omega)).trans v1
        have hb2 := hbw.grown hg2 hbw.size (fun j hj => by cases hj; exact Nat.le_refl _)
        go_wp2
        go_ret
        exact ⟨by rw [HE.out]; rfl, hb2⟩
      · rw [eV_nil n1] at HC
        have HE : Hid (eV (ksf [] ks) = .iface 36 (.int .i64 (nsf up))) := by show _ = _; rw [HS.out, e1, orE_l n4, eV_not n4]
        have HP := sput_ok w.heap.size _ nm V HS2 hkv.nm n2 hsl
        have i6 : ¬ (6 : Int) < (up.length : Int) := by dsimp only at n3; omega
        have HN := fun W (hW : Below w.heap.size w W) => checkNames_any up pu cu W (hkv.us.up hW)
        rw [eV_not n4] at HN
        clear e1 n1 HS HR hset HS2 n2 n3 n4
        dsimp only at HN
        generalize nsf up = n at *
        go_wp2_with fail
        rw [← hV]
        clear hV
        refine HC.mono ?_
        rintro e w1 ⟨rfl, rfl⟩
        go_wp2_with fail
        refine HP.mono ?_
        rintro e w2 ⟨rfl, hset2, hg2⟩
        have u1 := (grown_cell hg2 (a := ⟨wr.heap.size, 1, none⟩) (by show wr.heap.size < _; omega) (by show wr.heap.size ≠ _; omega)).trans v1
        have hb2 := hbw.grown hg2 hbw.size (fun j hj => by cases hj; exact Nat.le_refl _)
        go_wp2_with fail
        refine (HN w2 hb2).mono ?_
        rintro e w3 ⟨rfl, rfl⟩
        go_wp2
        go_ret
        exact ⟨by rw [HE.out]; rfl, hb2⟩
      · rw [eV_nil n1] at HC
        have HP := sput_ok w.heap.size _ nm V HS2 hkv.nm n2 hsl
        have i6 : ¬ (6 : Int) < (up.length : Int) := by dsimp only at n3; omega
        have HN := fun W (hW : Below w.heap.size w W) => checkNames_any up pu cu W (hkv.us.up hW)
        rw [eV_nil n4] at HN
        have HQ := fun W (hW : Below w.heap.size w W) => checkRec_any ty pt ct W (hkv.ty.up hW)
        rw [e1] at HS
        clear e1 n1 hset HS2 n2 n3 n4 HR
        dsimp only at HN HQ HS HT HP
        by_cases h0 : rcf ty = 0
        · have HE : Hid (ksf [] ks = ksf ((ks.take (k + 1)).map (·.nm)) (ks.drop (k + 1))) := by show _ = _; rw [HS.out, orE_r h0]
          rw [eV_nil h0] at HQ
          clear HS h0
          go_wp2_with fail
          rw [← hV]
          clear hV
          refine HC.mono ?_
          rintro e w1 ⟨rfl, rfl⟩
          go_wp2_with fail
          refine HP.mono ?_
          rintro e w2 ⟨rfl, hset2, hg2⟩
          have u1 := (grown_cell hg2 (a := ⟨wr.heap.size, 1, none⟩) (by show wr.heap.size < _; omega) (by show wr.heap.size ≠ _; omega)).trans v1
          have u2 := (grown_cell hg2 (a := ⟨wr.heap.size, 2, none⟩) (by show wr.heap.size < _; omega) (by show wr.heap.size ≠ _; omega)).trans v2
          have hb2 := hbw.grown hg2 hbw.size (fun j hj => by cases hj; exact Nat.le_refl _)
          go_wp2_with fail
          refine (HN w2 hb2).mono ?_
          rintro e w3 ⟨rfl, rfl⟩
          go_wp2_with fail
          refine (HQ _ hb2).mono ?_
          rintro e w4 ⟨rfl, hb4⟩
          have hset4 := hset2.up hb4
          have hb04 := kqt hb2 hb4
          clear hset2
          go_wp2
          go_roundw
          case rel => exact ⟨k + 1, by omega, by go_num, by rw [HT.out]; exact hset4, hb04, HE⟩
          case measure => simp [intOf]; omega
        · have HE : Hid (eV (ksf [] ks) = .iface 36 (.int .i64 (rcf ty))) := by show _ = _; rw [HS.out, orE_l h0, eV_not h0]
          rw [eV_not h0] at HQ
          clear HS h0
          generalize rcf ty = n at *
          go_wp2_with fail
          rw [← hV]
          clear hV
          refine HC.mono ?_
          rintro e w1 ⟨rfl, rfl⟩
          go_wp2_with fail
          refine HP.mono ?_
          rintro e w2 ⟨rfl, hset2, hg2⟩
          have u1 := (grown_cell hg2 (a := ⟨wr.heap.size, 1, none⟩) (by show wr.heap.size < _; omega) (by show wr.heap.size ≠ _; omega)).trans v1
          have u2 := (grown_cell hg2 (a := ⟨wr.heap.size, 2, none⟩) (by show wr.heap.size < _; omega) (by show wr.heap.size ≠ _; omega)).trans v2
          have hb2 := hbw.grown hg2 hbw.size (fun j hj => by cases hj; exact Nat.le_refl _)
          go_wp2_with fail
          refine (HN w2 hb2).mono ?_
          rintro e w3 ⟨rfl, rfl⟩
          go_wp2_with fail
          refine (HQ _ hb2).mono ?_
          rintro e w4 ⟨rfl, hb4⟩
          go_wp2
          go_ret
          exact ⟨by rw [HE.out]; rfl, kqt hb2 hb4⟩
    · have i1 : ¬ (k : Int) < (ks.length : Int) := by omega
      have HE : Hid (ksf [] ks = 0) := by show _ = _; rw [HR.out, List.drop_of_length_le (by omega)]; rfl
      clear HR
      go_wp2
      go_ret
      exact ⟨by rw [HE.out]; rfl, hnx⟩
end Go.Proofs.YtgkbegomekhpcaaGreatDoor
namespace Go.Proofs.YtgkbegomekhpcaaGreatDoor
open Go.RowKit
set_option linter.unusedVariables false

theorem Tryz.infoList : (Tryz.prog.info? 26).map (fun i => (i.zero, i.size, i.bytes)) = some (some (.slice none 0 0), 1, 24) := by kernel_rfl

/-- Lists of nodes in a row of the call's own. -/
def OL (w : World) (base : Nat) (v : Value) (vs : List (List Nd)) : Prop :=
  ∃ xs, Row1 w base 26 v xs ∧ xs.length = vs.length ∧ ∀ (i : Nat) u L, xs[i]? = some u → vs[i]? = some L → ∃ q c, u = .slice q L.length c ∧ NT w base q L ∧ L.length ≤ c ∧ c ≤ maxLen
theorem OL.nil (w : World) (base : Nat) : OL w base (.slice none 0 0) [] := ⟨[], Row1.nil _ _ _, rfl, fun i u L h => by simp at h⟩
theorem OL.kept {w w' : World} {base : Nat} {e : TypeId} {v : Value} {vs : List (List Nd)} (h : OL w base v vs) (k : Kept base e w w') (h1 : 26 ≠ e) (h2 : 33 ≠ e) : OL w' base v vs := by
  obtain ⟨xs, hr, hl, he⟩ := h
  exact ⟨xs, hr.kept k h1, hl, fun i u L hu hL => by
    obtain ⟨q, c, e1, e2, e3⟩ := he i u L hu hL
    exact ⟨q, c, e1, e2.kept k h2, e3⟩⟩
theorem OL.below {w w' : World} {base : Nat} {v : Value} {vs : List (List Nd)} (h : OL w base v vs) (k : Below w.heap.size w w') (hb : base ≤ w.heap.size) : OL w' base v vs :=
  h.kept (e := 428) (Kept.of_below k hb) (by decide) (by decide)
theorem OL.lists {w : World} {base : Nat} {v : Value} {vs : List (List Nd)} (h : OL w base v vs) : ∃ q c, v = .slice q vs.length c ∧ LL w q vs ∧ vs.length ≤ c ∧ c ≤ maxLen := by
  obtain ⟨xs, hr, hl, he⟩ := h
  obtain ⟨q, c, rfl, h1, h2, h3⟩ := hr.slice
  refine ⟨q, c, by rw [hl], ?_, by omega, h2⟩
  rcases h3 with rfl | ⟨g, rfl, ht, _, hc⟩
  · exact .inl (List.eq_nil_of_length_eq_zero (by rw [← hl]; rfl))
  · refine .inr ⟨g, 0, rfl, ht.lt, fun i L hL => ?_⟩
    have hi : i < xs.length := by rw [hl]; exact (List.getElem?_eq_some_iff.1 hL).1
    obtain ⟨q', c', e1, e2, e3⟩ := he i xs[i] L (List.getElem?_eq_getElem hi) hL
    refine ⟨q', c', ?_, e2.1, e3⟩
    rw [Nat.zero_add, ← e1]
    exact hc i _ (List.getElem?_eq_getElem hi)

theorem append_list (w : World) {ops : Array Oper} {rest : List Oper} {o : Oper} {a : Act} {Q : Exit → Act → World → Prop} (hgd : o.guard = none) (s x : Operand)
    (ho : o.op = .call { callee := .builtin .append, args := #[s, x], argTypes := #[87, 87] })
    (base : Nat) (v : Value) (vs : List (List Nd)) (hs : a.eval s = v) (hown : OL w base v vs) (L : List Nd) (q : Option Addr) (c : Nat) (hN : NT w base q L) (hlc : L.length ≤ c) (hcm : c ≤ maxLen)
    (hx : a.eval x = .slice (some ⟨w.heap.size, 0, none⟩) 1 1) (hlen : vs.length + 1 ≤ 1099511627776) (hbase : base ≤ w.heap.size)
    (h : ∀ v' w', OL w' base v' (vs ++ [L]) → Kept base 26 w w' → wpList Tryz.prog ops Q rest (a.put o.dst v') w') : wpList Tryz.prog ops Q (o :: rest) a (w.alloc (.cells #[.slice q L.length c] 26)) := by
  obtain ⟨xs, hr, hl, he⟩ := hown
  refine append_cell w hgd s x 87 26 ho Tryz.underlying87 (.slice none 0 0) 24 Tryz.infoList rfl base v xs hs hr (.slice q L.length c) rfl hx (by unfold maxLen; omega) (by omega) hbase ?_
  intro v' w' h1 k
  refine h v' w' ⟨xs ++ [.slice q L.length c], h1, by simp [hl], fun i u L' hu hL' => ?_⟩ k
  by_cases hi : i < xs.length
  · rw [List.getElem?_append_left hi] at hu
    rw [List.getElem?_append_left (by omega)] at hL'
    obtain ⟨q', c', e1, e2, e3⟩ := he i u L' hu hL'
    exact ⟨q', c', e1, e2.kept k (by decide), e3⟩
  · have hi2 : i = xs.length := by
      have := (List.getElem?_eq_some_iff.1 hu).1
      simp at this; omega
    subst hi2
    rw [List.getElem?_append_right (Nat.le_refl _)] at hu
    rw [List.getElem?_append_right (by omega), hl] at hL'
    simp at hu hL'
    subst hu hL'
    exact ⟨q, c, rfl, hN.kept k (by decide), hlc, hcm⟩
end Go.Proofs.YtgkbegomekhpcaaGreatDoor
namespace Go.Proofs.YtgkbegomekhpcaaGreatDoor
open Go.RowKit
set_option linter.unusedVariables false
set_option maxRecDepth 100000

theorem leaf_any (op : Int) (w : World) :
    Calls Tryz.prog 69 #[.int .i64 op] w fun e w' => e = .returned (.agg #[.int .i64 op, .int .i64 0, .string ⟨#[]⟩, .string ⟨#[]⟩, .slice none 0 0]) ∧ Below w.heap.size w w' := by
  go_enter Tryz.func69, Tryz.ntmps69
  go_wp2
  exact bodyPost_ret (v := .agg #[.int .i64 op, .int .i64 0, .string ⟨#[]⟩, .string ⟨#[]⟩, .slice none 0 0]) (by simp [results, Tryz.results69, go_sem]) rfl ⟨rfl, kqx⟩
/-- A row of one part, laid anew. -/
theorem VK.lay {W : World} {x : Nd} {k : Tp} {q : Option Addr} {c : Nat} {S : Nat → Prop} (h : VK W k (.slice q k.len c) S) (hx : x.wf) {B : Nat} (hB : B = W.heap.size) : VK (W.alloc (.cells #[.int .i64 x.op, .int .i64 x.n, .string x.s, .string x.t, .slice q k.len c] 81)) (.cons x k .nil) (.slice (some ⟨B, 0, none⟩) 1 1) (fun a => S a ∨ a = B) := by
  subst hB
  have hb : Below W.heap.size W (W.alloc (.cells #[.int .i64 x.op, .int .i64 x.n, .string x.s, .string x.t, .slice q k.len c] 81)) := kqx
  refine ⟨pcl x (.slice q k.len c), ⟨rfl, .inr ⟨W.heap.size, 1, _, rfl, Nat.zero_le _, fnew_at rfl, Nat.le_refl _, by unfold maxLen; omega, rfl, rfl⟩⟩, ?_, (RK.one hx ((h.up hb).sub (fun a h => .inl h)))⟩
  intro g hg
  simp only [Value.ownBlock, Option.some.injEq] at hg
  exact .inr hg.symm
set_option maxHeartbeats 2000000 in
theorem setOf_any (x : Nd) (k : Tp) (w : World) (v : Value) (S : Nat → Prop) (hv : VK w k v S) (hx : x.wf) :
    Calls Tryz.prog 71 #[partV x v] w fun e w' => (∃ q c, e = .returned (.agg #[.int .i64 45, .int .i64 0, .string ⟨#[]⟩, .string ⟨#[]⟩, .slice q 1 c]) ∧ VK w' (.cons x k .nil) (.slice q 1 c) (fun a => S a ∨ w.heap.size ≤ a)) ∧ Below w.heap.size w w' := by
  obtain ⟨q, c, rfl, _⟩ := hv.slice
  unfold partV
  have HV : Hid (VK w k (.slice q k.len c) S) := hv
  clear hv
  go_enter Tryz.func71, Tryz.ntmps71
  go_wp2
  refine bodyPost_ret (v := .agg #[.int .i64 45, .int .i64 0, .string ⟨#[]⟩, .string ⟨#[]⟩, .slice (some ⟨w.heap.size + 1 + 1, 0, none⟩) 1 1]) (by simp [results, Tryz.results71, go_sem]) rfl ⟨⟨_, _, rfl, ?_⟩, kqx⟩
  exact (VK.lay (HV.out.up kqx) hx (by simp)).sub (fun a h => h.elim .inl (fun e => .inr (by omega)))
set_option maxHeartbeats 2000000 in
theorem fieldOf_any (s : ByteArray) (n : Int) (x : Nd) (k : Tp) (w : World) (v : Value) (S : Nat → Prop) (hv : VK w k v S) (hx : x.wf) :
    Calls Tryz.prog 72 #[.string s, .int .i64 n, partV x v] w fun e w' => (∃ q c, e = .returned (.agg #[.int .i64 47, .int .i64 n, .string s, .string ⟨#[]⟩, .slice q 1 c]) ∧ VK w' (.cons x k .nil) (.slice q 1 c) (fun a => S a ∨ w.heap.size ≤ a)) ∧ Below w.heap.size w w' := by
  obtain ⟨q, c, rfl, _⟩ := hv.slice
  unfold partV
  have HV : Hid (VK w k (.slice q k.len c) S) := hv
  clear hv
  go_enter Tryz.func72, Tryz.ntmps72
  go_wp2
  refine bodyPost_ret (v := .agg #[.int .i64 47, .int .i64 n, .string s, .string ⟨#[]⟩, .slice (some ⟨w.heap.size + 1 + 1, 0, none⟩) 1 1]) (by simp [results, Tryz.results72, go_sem]) rfl ⟨⟨_, _, rfl, ?_⟩, kqx⟩
  exact (VK.lay (HV.out.up kqx) hx (by simp)).sub (fun a h => h.elim .inl (fun e => .inr (by omega)))
set_option maxHeartbeats 2000000 in
theorem recOf_any (q : Option Addr) (n c : Nat) (w : World) :
    Calls Tryz.prog 73 #[.slice q n c] w fun e w' => e = .returned (.agg #[.int .i64 46, .int .i64 n, .string ⟨#[]⟩, .string ⟨#[]⟩, .slice q n c]) ∧ Below w.heap.size w w' := by
  go_enter Tryz.func73, Tryz.ntmps73
  go_wp2
  exact bodyPost_ret (v := .agg #[.int .i64 46, .int .i64 n, .string ⟨#[]⟩, .string ⟨#[]⟩, .slice q n c]) (by simp [results, Tryz.results73, go_sem]) rfl ⟨rfl, kqx⟩
end Go.Proofs.YtgkbegomekhpcaaGreatDoor
namespace Go.Proofs.YtgkbegomekhpcaaGreatDoor
open Go.RowKit
set_option linter.unusedVariables false
set_option maxRecDepth 100000

theorem NL.lit (w : World) (L : List Nd) (cs : Array Value) (hw : ∀ x ∈ L, x.wf) (hc : cs.toList = ncells L) (hl : L.length ≤ 1000) : NL (w.alloc (.cells cs 33)) (some ⟨w.heap.size, 0, none⟩) L := by
  have hs : cs.size = L.length * 4 := by rw [← ncells_length, ← hc]; simp
  obtain ⟨q, c, e, h, _⟩ := NL.of_row (base := 0) (v := .slice (some ⟨w.heap.size, 0, none⟩) L.length L.length) hw (w := w.alloc (.cells cs 33)) ⟨ncells_length L, .inr ⟨w.heap.size, L.length, cs, rfl, Nat.zero_le _, heap_alloc_new _ _, Nat.le_refl _, by unfold maxLen; omega, hs, by rw [hc, ← ncells_length, List.take_length]⟩⟩
  cases e
  exact h.1
end Go.Proofs.YtgkbegomekhpcaaGreatDoor
