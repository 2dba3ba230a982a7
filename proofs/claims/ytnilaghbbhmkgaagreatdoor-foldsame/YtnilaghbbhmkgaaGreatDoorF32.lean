/- Parts of expressions in memory: rows of parts, each with the row of its own; in which blocks they lie. Package fold: count, isOfTruth, isEnt, onto, by walks of their own texts. Package fold: first, by a walk of its own text. Package val's Parts and Get: what they return, by walks of their own texts. Package tree's partsOf at every node: by walks of its own text. Package tree's pastExpr, pastParts, pastFields: what stands behind an expression, by walks of their own texts. Package tree's Check: by a walk of its own text. -/
import Derived.Test.YtnilaghbbhmkgaaGreatDoorF28
import Derived.Test.YtnilaghbbhmkgaaGreatDoorF22
import Derived.Maps.AppendAt
import Derived.Test.YtnilaghbbhmkgaaGreatDoorF25
import Derived.Test.YtnilaghbbhmkgaaGreatDoorF3
namespace Go.Proofs.YtnilaghbbhmkgaaGreatDoor
open Go.RowKit
set_option linter.unusedVariables false
set_option maxRecDepth 100000

theorem Tryz.infoPart : (Tryz.prog.info? 63).map (fun i => (i.zero, i.size, i.bytes)) = some (some (.agg #[.int .i64 0, .int .i64 0, .string ⟨#[]⟩, .string ⟨#[]⟩, .slice none 0 0]), 5, 72) := by kernel_rfl
def pcl (x : Nd) (v : Value) : List Value := [.int .i64 x.op, .int .i64 x.n, .string x.s, .string x.t, v]
def partV (x : Nd) (v : Value) : Value := .agg #[.int .i64 x.op, .int .i64 x.n, .string x.s, .string x.t, v]
/-- A row of parts by its cells; what lies below it lies in blocks of S, each part's own apart from the others'. -/
def RT (w : World) : Fo → List Value → (Nat → Prop) → Prop
  | .nil, l, S => l = []
  | .cons x k r, l, S => ∃ (v : Value) (l' lk : List Value) (Sk Sr S' : Nat → Prop), l = pcl x v ++ l' ∧ x.wf ∧ (∀ a, Sk a → S a ∧ ¬ Sr a) ∧ (∀ a, Sr a → S a) ∧ RT w r l' Sr ∧
      w.ownsRow 0 63 5 v k.len lk ∧ RT w k lk S' ∧ (∀ g, v.ownBlock = some g → Sk g ∧ ¬ S' g) ∧ (∀ a, S' a → Sk a)
/-- The value that leads to a row of parts. -/
def KV (w : World) (k : Fo) (v : Value) (S : Nat → Prop) : Prop :=
  ∃ (lk : List Value) (S' : Nat → Prop), w.ownsRow 0 63 5 v k.len lk ∧ RT w k lk S' ∧ (∀ g, v.ownBlock = some g → S g ∧ ¬ S' g) ∧ (∀ a, S' a → S a)
theorem RT.cons_iff {w : World} {x : Nd} {k r : Fo} {l : List Value} {S : Nat → Prop} : RT w (.cons x k r) l S ↔ ∃ (v : Value) (l' : List Value) (Sk Sr : Nat → Prop), l = pcl x v ++ l' ∧ x.wf ∧ (∀ a, Sk a → S a ∧ ¬ Sr a) ∧ (∀ a, Sr a → S a) ∧ RT w r l' Sr ∧ KV w k v Sk := by
  constructor
  · rintro ⟨v, l', lk, Sk, Sr, S', h1, h2, h3, h4, h5, h6⟩
    exact ⟨v, l', Sk, Sr, h1, h2, h3, h4, h5, lk, S', h6⟩
  · rintro ⟨v, l', Sk, Sr, h1, h2, h3, h4, h5, lk, S', h6⟩
    exact ⟨v, l', lk, Sk, Sr, S', h1, h2, h3, h4, h5, h6⟩
/-- All blocks are there. -/
def Bd (w : World) (S : Nat → Prop) : Prop := ∀ a, S a → a < w.heap.size
/-- All is kept but what lies in S. -/
structure Keep (S : Nat → Prop) (w w' : World) : Prop where
  os : w'.os = w.os
  tape : w'.tape = w.tape
  output : w'.output = w.output
  size : w.heap.size ≤ w'.heap.size
  block : ∀ a, a < w.heap.size → ¬ S a → w'.heap[a]? = w.heap[a]?
theorem Keep.of_below {S : Nat → Prop} {w w' : World} (h : Below w.heap.size w w') : Keep S w w' := ⟨h.os, h.tape, h.output, h.size, fun a ha _ => h.block a ha⟩
theorem Keep.below {S : Nat → Prop} {w w' : World} (h : Keep S w w') {N : Nat} (hN : N ≤ w.heap.size) (hS : ∀ a, S a → N ≤ a) : Below N w w' := ⟨h.os, h.tape, h.output, h.size, fun a ha => h.block a (by omega) (fun e => by have := hS a e; omega)⟩
theorem Keep.refl (S : Nat → Prop) (w : World) : Keep S w w := ⟨rfl, rfl, rfl, Nat.le_refl _, fun _ _ _ => rfl⟩
theorem Keep.trans {S S2 : Nat → Prop} {w w1 w2 : World} (h : Keep S w w1) (k : Keep S2 w1 w2) (hs : ∀ a, S2 a → S a ∨ w.heap.size ≤ a) : Keep S w w2 :=
  ⟨k.os.trans h.os, k.tape.trans h.tape, k.output.trans h.output, Nat.le_trans h.size k.size, fun a ha hn => (k.block a (Nat.lt_of_lt_of_le ha h.size) (fun e => (hs a e).elim hn (by omega))).trans (h.block a ha hn)⟩
theorem Keep.mono {S S2 : Nat → Prop} {w w1 : World} (h : Keep S w w1) (hs : ∀ a, S a → S2 a) : Keep S2 w w1 := ⟨h.os, h.tape, h.output, h.size, fun a ha hn => h.block a ha (fun e => hn (hs a e))⟩
theorem Keep.cell {S : Nat → Prop} {w w' : World} (h : Keep S w w') {p : Addr} (hl : p.block < w.heap.size) (hn : ¬ S p.block) : w'.cell? p = w.cell? p := World.cell?_of_block (h.block _ hl hn)

theorem ownP_lt {w : World} {base : Nat} {T : TypeId} {m : Nat} {v : Value} {n : Nat} {l : List Value} (h : w.ownsRow base T m v n l) {g : Nat} (hg : v.ownBlock = some g) : g < w.heap.size ∧ base ≤ g := by
  rcases h.2 with ⟨rfl, _⟩ | ⟨g', cap, cur, rfl, hb, hh, _⟩
  · simp [Value.ownBlock] at hg
  · simp only [Value.ownBlock, Option.some.injEq] at hg
    subst hg
    exact ⟨(Array.getElem?_eq_some_iff.1 hh).1, hb⟩
theorem ownP_agree {w w' : World} {base : Nat} {T : TypeId} {m : Nat} {v : Value} {n : Nat} {l : List Value} (h : w.ownsRow base T m v n l) (hw : ∀ g, v.ownBlock = some g → g < w.heap.size → w'.heap[g]? = w.heap[g]?) : w'.ownsRow base T m v n l := by
  refine ⟨h.1, ?_⟩
  rcases h.2 with h2 | ⟨g, cap, cur, rfl, hb, hh, r⟩
  · exact .inl h2
  · exact .inr ⟨g, cap, cur, rfl, hb, (hw g rfl (Array.getElem?_eq_some_iff.1 hh).1).trans hh, r⟩
theorem RT.agree {w w' : World} : ∀ {t : Fo} {l : List Value} {S : Nat → Prop}, RT w t l S → (∀ a, S a → a < w.heap.size → w'.heap[a]? = w.heap[a]?) → RT w' t l S
  | .nil, l, S, h, _ => h
  | .cons x k r, l, S, h, hw => by
    obtain ⟨v, l', lk, Sk, Sr, S', h1, h2, h3, h4, h5, h6, h7, h8, h9⟩ := h
    exact ⟨v, l', lk, Sk, Sr, S', h1, h2, h3, h4, h5.agree (fun a ha => hw a (h4 a ha)), ownP_agree h6 (fun g hg => hw g (h3 g (h8 g hg).1).1), h7.agree (fun a ha => hw a (h3 a (h9 a ha)).1), h8, h9⟩
theorem KV.agree {w w' : World} {k : Fo} {v : Value} {S : Nat → Prop} (h : KV w k v S) (hw : ∀ a, S a → a < w.heap.size → w'.heap[a]? = w.heap[a]?) : KV w' k v S := by
  obtain ⟨lk, S', h1, h2, h3, h4⟩ := h
  exact ⟨lk, S', ownP_agree h1 (fun g hg => hw g (h3 g hg).1), h2.agree (fun a ha => hw a (h4 a ha)), h3, h4⟩
theorem KV.up {w w' : World} {k : Fo} {v : Value} {S : Nat → Prop} (h : KV w k v S) (hb : Below w.heap.size w w') : KV w' k v S := h.agree (fun a _ ha => hb.block a ha)
theorem KV.bel {w w' : World} {k : Fo} {v : Value} {S : Nat → Prop} {N : Nat} (h : KV w k v S) (hb : Below N w w') (hS : ∀ a, S a → a < N) : KV w' k v S := h.agree (fun a ha _ => hb.block a (hS a ha))
theorem RT.sub {w : World} {t : Fo} {l : List Value} {S S2 : Nat → Prop} (h : RT w t l S) (hs : ∀ a, S a → S2 a) : RT w t l S2 := by
  cases t with
  | nil => exact h
  | cons x k r =>
    obtain ⟨v, l', Sk, Sr, h1, h2, h3, h4, h5⟩ := RT.cons_iff.1 h
    exact RT.cons_iff.2 ⟨v, l', Sk, Sr, h1, h2, fun a ha => ⟨hs a (h3 a ha).1, (h3 a ha).2⟩, fun a ha => hs a (h4 a ha), h5⟩
theorem KV.slice {w : World} {k : Fo} {v : Value} {S : Nat → Prop} (h : KV w k v S) : ∃ q c, v = .slice q k.len c ∧ k.len ≤ c ∧ c ≤ maxLen := by
  obtain ⟨lk, S', h1, _⟩ := h
  rcases h1.2 with ⟨rfl, h0⟩ | ⟨g, cap, cur, rfl, _, _, h2, h3, _⟩
  · exact ⟨none, 0, by rw [h0], by omega, Nat.zero_le _⟩
  · exact ⟨_, cap, rfl, h2, h3⟩
/-- Only the blocks that are there. -/
theorem KV.real {w : World} {k : Fo} {v : Value} {S : Nat → Prop} (h : KV w k v S) : KV w k v (fun a => S a ∧ a < w.heap.size) := by
  obtain ⟨lk, S', h1, h2, h3, h4⟩ := h
  have hr : ∀ {t : Fo} {l : List Value} {S : Nat → Prop}, RT w t l S → RT w t l (fun a => S a ∧ a < w.heap.size) := fun {t} => by
    induction t with
    | nil => intro l S h; exact h
    | cons x k r ihk ihr =>
      intro l S h
      obtain ⟨v, l', lk, Sk, Sr, S', h1, h2, h3, h4, h5, h6, h7, h8, h9⟩ := h
      exact ⟨v, l', lk, (fun a => Sk a ∧ a < w.heap.size), (fun a => Sr a ∧ a < w.heap.size), (fun a => S' a ∧ a < w.heap.size), h1, h2, fun a ha => ⟨⟨(h3 a ha.1).1, ha.2⟩, fun e => (h3 a ha.1).2 e.1⟩, fun a ha => ⟨h4 a ha.1, ha.2⟩, ihr h5, h6, ihk h7, fun g hg => ⟨⟨(h8 g hg).1, (ownP_lt h6 hg).1⟩, fun e => (h8 g hg).2 e.1⟩, fun a ha => ⟨h9 a ha.1, ha.2⟩⟩
  exact ⟨lk, _, h1, hr h2, fun g hg => ⟨⟨(h3 g hg).1, (ownP_lt h1 hg).1⟩, fun e => (h3 g hg).2 e.1⟩, fun a ha => ⟨h4 a ha.1, ha.2⟩⟩

def Fo.app : Fo → Fo → Fo
  | .nil, b => b
  | .cons x k r, b => .cons x k (r.app b)
theorem app_len : ∀ a b : Fo, (a.app b).len = a.len + b.len
  | .nil, b => by simp [Fo.app, Fo.len]
  | .cons x k r, b => by simp [Fo.app, Fo.len, app_len r b]; omega
theorem app_flat : ∀ a b : Fo, (a.app b).flat = a.flat ++ b.flat
  | .nil, b => rfl
  | .cons x k r, b => by simp [Fo.app, Fo.flat, app_flat r b]
theorem app_nil : ∀ a : Fo, a.app .nil = a
  | .nil => rfl
  | .cons x k r => by simp [Fo.app, app_nil r]
theorem app_assoc : ∀ a b c : Fo, (a.app b).app c = a.app (b.app c)
  | .nil, b, c => rfl
  | .cons x k r, b, c => by simp [Fo.app, app_assoc r b c]
theorem app_best : ∀ a b : Fo, bstF (a.app b) = (bstF a).app (bstF b)
  | .nil, b => rfl
  | .cons x k r, b => by simp [Fo.app, bstF, app_best r b]
theorem RT.len {w : World} : ∀ {t : Fo} {l : List Value} {S : Nat → Prop}, RT w t l S → l.length = t.len * 5
  | .nil, l, S, h => by rw [show l = [] from h]; simp [Fo.len]
  | .cons x k r, l, S, h => by
    obtain ⟨v, l', Sk, Sr, rfl, _, _, _, h5, _⟩ := RT.cons_iff.1 h
    simp [pcl, Fo.len, h5.len]
    omega
theorem RT.split {w : World} : ∀ {a b : Fo} {l : List Value} {S : Nat → Prop}, RT w (a.app b) l S → ∃ la lb Sa Sb, l = la ++ lb ∧ RT w a la Sa ∧ RT w b lb Sb ∧ (∀ x, Sa x → S x ∧ ¬ Sb x) ∧ (∀ x, Sb x → S x)
  | .nil, b, l, S, h => ⟨[], l, fun _ => False, S, rfl, rfl, h, fun x hx => hx.elim, fun x hx => hx⟩
  | .cons x k r, b, l, S, h => by
    obtain ⟨v, l', Sk, Sr, rfl, h2, h3, h4, h5, h6⟩ := RT.cons_iff.1 h
    obtain ⟨la, lb, Sa, Sb, rfl, h7, h8, h9, h10⟩ := RT.split h5
    refine ⟨pcl x v ++ la, lb, fun a => Sk a ∨ Sa a, Sb, by simp, RT.cons_iff.2 ⟨v, la, Sk, Sa, rfl, h2, fun a ha => ⟨.inl ha, fun e => (h3 a ha).2 (h9 a e).1⟩, fun a ha => .inr ha, h7, h6⟩, h8, fun a ha => ?_, fun a ha => h4 a (h10 a ha)⟩
    rcases ha with ha | ha
    · exact ⟨(h3 a ha).1, fun e => (h3 a ha).2 (h10 a e)⟩
    · exact ⟨h4 a (h9 a ha).1, (h9 a ha).2⟩
theorem RT.join {w : World} : ∀ {a b : Fo} {la lb : List Value} {Sa Sb S : Nat → Prop}, RT w a la Sa → RT w b lb Sb → (∀ x, Sa x → S x ∧ ¬ Sb x) → (∀ x, Sb x → S x) → RT w (a.app b) (la ++ lb) S
  | .nil, b, la, lb, Sa, Sb, S, ha, hb, h1, h2 => by rw [show la = [] from ha]; exact hb.sub h2
  | .cons x k r, b, la, lb, Sa, Sb, S, ha, hb, h1, h2 => by
    obtain ⟨v, l', Sk, Sr, rfl, g2, g3, g4, g5, g6⟩ := RT.cons_iff.1 ha
    refine RT.cons_iff.2 ⟨v, l' ++ lb, Sk, fun a => Sr a ∨ Sb a, by simp, g2, fun a e => ⟨(h1 a (g3 a e).1).1, fun e2 => e2.elim (g3 a e).2 (h1 a (g3 a e).1).2⟩, fun a e => e.elim (fun e => (h1 a (g4 a e)).1) (h2 a), RT.join g5 hb (fun a e => ⟨.inl e, (h1 a (g4 a e)).2⟩) (fun a e => .inr e), g6⟩
theorem RT.one {w : World} {x : Nd} {k : Fo} {v : Value} {S : Nat → Prop} (hx : x.wf) (h : KV w k v S) : RT w (.cons x k .nil) (pcl x v) S := RT.cons_iff.2 ⟨v, [], S, fun _ => False, by simp, hx, fun a ha => ⟨ha, fun e => e⟩, fun a e => e.elim, rfl, h⟩
/-- The cells of a row. -/
theorem ownP_cell {w : World} {base : Nat} {T : TypeId} {m : Nat} {v : Value} {n : Nat} {l : List Value} (h : w.ownsRow base T m v n l) {j : Nat} {u : Value} (hj : l[j]? = some u) : ∃ g cap, v = .slice (some ⟨g, 0, none⟩) n cap ∧ g < w.heap.size ∧ w.cell? ⟨g, j, none⟩ = some u ∧ w.frozen? ⟨g, j, none⟩ = false := by
  rcases h.2 with ⟨rfl, h0⟩ | ⟨g, cap, cur, rfl, hb, hh, _⟩
  · have := h.1
    rw [h0, Nat.zero_mul] at this
    rw [List.eq_nil_of_length_eq_zero this] at hj
    simp at hj
  · have := h.cells (g := g) rfl j u hj
    rw [show (⟨g, 0, none⟩ : Addr).add j = ⟨g, j, none⟩ by unfold Addr.add; split <;> simp_all] at this
    exact ⟨g, cap, rfl, (Array.getElem?_eq_some_iff.1 hh).1, this, by simp [World.frozen?, hh]⟩
/-- A part's cells, at its place. -/
structure PC (w : World) (g o : Nat) (x : Nd) (u : Value) : Prop where
  lt : g < w.heap.size
  cells : w.cell? ⟨g, o, none⟩ = some (.int .i64 x.op) ∧ w.cell? ⟨g, o + 1, none⟩ = some (.int .i64 x.n) ∧ w.cell? ⟨g, o + 2, none⟩ = some (.string x.s) ∧ w.cell? ⟨g, o + 3, none⟩ = some (.string x.t) ∧ w.cell? ⟨g, o + 4, none⟩ = some u
theorem PC.bel {N : Nat} {w w' : World} {g o : Nat} {x : Nd} {u : Value} (h : PC w g o x u) (k : Below N w w') (hl : g < N) : PC w' g o x u := by
  obtain ⟨h0, h1, h2, h3, h4⟩ := h.cells
  exact ⟨Nat.lt_of_lt_of_le h.lt k.size, (k.cell (p := ⟨g, o, none⟩) hl).trans h0, (k.cell (p := ⟨g, o + 1, none⟩) hl).trans h1, (k.cell (p := ⟨g, o + 2, none⟩) hl).trans h2, (k.cell (p := ⟨g, o + 3, none⟩) hl).trans h3, (k.cell (p := ⟨g, o + 4, none⟩) hl).trans h4⟩
theorem PC.up {w w' : World} {g o : Nat} {x : Nd} {u : Value} (h : PC w g o x u) (k : Below w.heap.size w w') : PC w' g o x u := h.bel k h.lt
theorem PC.keep {S : Nat → Prop} {w w' : World} {g o : Nat} {x : Nd} {u : Value} (h : PC w g o x u) (k : Keep S w w') (hn : ¬ S g) : PC w' g o x u := by
  obtain ⟨h0, h1, h2, h3, h4⟩ := h.cells
  exact ⟨Nat.lt_of_lt_of_le h.lt k.size, (k.cell (p := ⟨g, o, none⟩) h.lt hn).trans h0, (k.cell (p := ⟨g, o + 1, none⟩) h.lt hn).trans h1, (k.cell (p := ⟨g, o + 2, none⟩) h.lt hn).trans h2, (k.cell (p := ⟨g, o + 3, none⟩) h.lt hn).trans h3, (k.cell (p := ⟨g, o + 4, none⟩) h.lt hn).trans h4⟩
/-- The part at a place of a row. -/
theorem KV.at {w : World} {a r k : Fo} {x : Nd} {v : Value} {S : Nat → Prop} (h : KV w (a.app (.cons x k r)) v S) : ∃ g cap u Sk, v = .slice (some ⟨g, 0, none⟩) (a.len + (r.len + 1)) cap ∧ PC w g (a.len * 5) x u ∧ x.wf ∧ KV w k u Sk ∧ (∀ b, Sk b → S b ∧ b ≠ g) ∧ S g := by
  obtain ⟨lk, S', h1, h2, h3, h4⟩ := h
  obtain ⟨la, lb, Sa, Sb, rfl, h5, h6, h7, h8⟩ := RT.split h2
  obtain ⟨u, l', Sk, Sr, rfl, g2, g3, g4, g5, g6⟩ := RT.cons_iff.1 h6
  have hla := h5.len
  have hc : ∀ j, j < 5 → (la ++ (pcl x u ++ l'))[a.len * 5 + j]? = (pcl x u)[j]? := fun j hj => by
    rw [List.getElem?_append_right (by omega), List.getElem?_append_left (by simp [pcl]; omega)]
    congr 1; omega
  obtain ⟨g, cap, rfl, hg, c0, _⟩ := ownP_cell h1 (hc 0 (by omega))
  obtain ⟨_, _, e1, _, c1, _⟩ := ownP_cell h1 (hc 1 (by omega))
  cases e1
  obtain ⟨_, _, e1, _, c2, _⟩ := ownP_cell h1 (hc 2 (by omega))
  cases e1
  obtain ⟨_, _, e1, _, c3, _⟩ := ownP_cell h1 (hc 3 (by omega))
  cases e1
  obtain ⟨_, _, e1, _, c4, _⟩ := ownP_cell h1 (hc 4 (by omega))
  cases e1
  refine ⟨g, cap, u, Sk, by rw [app_len]; rfl, ⟨hg, c0, c1, c2, c3, c4⟩, g2, g6, fun b hb => ⟨h4 b (h8 b (g3 b hb).1), fun e => ?_⟩, (h3 g rfl).1⟩
  subst e
  exact (h3 b rfl).2 (h8 b (g3 b hb).1)
/-- One more behind a row. -/
theorem append_part (w : World) {ops : Array Oper} {rest : List Oper} {o : Oper} {a : Act} {Q : Exit → Act → World → Prop} (hgd : o.guard = none) (s x : Operand)
    (ho : o.op = .call { callee := .builtin .append, args := #[s, x], argTypes := #[61, 61] })
    (v : Value) (n : Nat) (l : List Value) (hs : a.eval s = v) (hown : w.ownsRow 0 63 5 v n l) (y : Nd) (u : Value) (hu : u.oneCell' = true)
    (hx : a.eval x = .slice (some ⟨w.heap.size, 0, none⟩) 1 1) (hlen : n + 1 ≤ 1000000)
    (h : ∀ v' w', w'.ownsRow 0 63 5 v' (n + 1) (l ++ pcl y u) → w.grownBy w' v.ownBlock → (∀ g, v'.ownBlock = some g → v.ownBlock = some g ∨ w.heap.size ≤ g) → wpList Tryz.prog ops Q rest (a.put o.dst v') w') :
    wpList Tryz.prog ops Q (o :: rest) a (w.alloc (.cells #[.int .i64 y.op, .int .i64 y.n, .string y.s, .string y.t, u] 63)) := by
  obtain ⟨i0, hi, hz0, hz1, hz2⟩ := info_parts Tryz.infoPart
  have hb : Below w.heap.size w (w.alloc (.cells #[.int .i64 y.op, .int .i64 y.n, .string y.s, .string y.t, u] 63)) := (Below.refl _ _).alloc (Nat.le_refl _) _
  have hown2 := ownP_agree (w' := w.alloc (.cells #[.int .i64 y.op, .int .i64 y.n, .string y.s, .string y.t, u] 63)) hown (fun g _ hg => hb.block g hg)
  refine wpList_append_own_at _ hgd s x 61 ho 0 63 i0 _ 5 72 Tryz.underlying61 hi hz0 hz1 hz2 rfl (by decide) v n l hs hown2 ⟨w.heap.size, 0, none⟩ 1 1 (pcl y u) hx rfl ?_ ?_ (by unfold maxLen; omega) (by omega) (Nat.zero_le _) ?_
  · intro j z hj
    match j, hj with
    | 0, hj => simp [pcl] at hj; subst hj; simp [Addr.add]
    | 1, hj => simp [pcl] at hj; subst hj; simp [Addr.add]
    | 2, hj => simp [pcl] at hj; subst hj; simp [Addr.add]
    | 3, hj => simp [pcl] at hj; subst hj; simp [Addr.add]
    | 4, hj => simp [pcl] at hj; subst hj; simp [Addr.add]
  · intro z hz
    simp only [pcl, List.mem_cons, List.not_mem_nil, or_false] at hz
    rcases hz with rfl | rfl | rfl | rfl | rfl
    · rfl
    · rfl
    · rfl
    · rfl
    · exact hu
  · intro v' w' h1 h2 _ h4
    have hs2 : (w.alloc (.cells #[.int .i64 y.op, .int .i64 y.n, .string y.s, .string y.t, u] 63)).heap.size = w.heap.size + 1 := by simp
    refine h v' w' h1 ⟨h2.os.trans hb.os, h2.tape.trans hb.tape, h2.output.trans hb.output, Nat.le_trans hb.size h2.size, fun k hk hne => (h2.block k (by omega) hne).trans (hb.block k hk)⟩ (fun g hg => ?_)
    rcases h4 with h4 | h4
    · exact .inl (by rw [← h4]; exact hg)
    · rw [h4] at hg
      injection hg with hg
      exact .inr (by omega)
/-- Five cells of a row are changed. -/
theorem set_five {la lb : List Value} {b0 b1 b2 b3 b4 : Value} (a0 a1 a2 a3 a4 : Value) {p : Nat} (hp : la.length = p) : (((((la ++ ([b0, b1, b2, b3, b4] ++ lb)).set p a0).set (p + 1) a1).set (p + 2) a2).set (p + 3) a3).set (p + 4) a4 = la ++ ([a0, a1, a2, a3, a4] ++ lb) := by
  subst hp
  induction la with
  | nil => rfl
  | cons z la ih =>
    simp only [List.cons_append, List.length_cons, show ∀ j, la.length + 1 + j = la.length + j + 1 from fun j => by omega, List.set_cons_succ]
    exact congrArg (z :: ·) ih
theorem keep_set (w : World) (g o : Nat) (z : Value) : Keep (fun a => a = g) w (w.setCell ⟨g, o, none⟩ z) := by
  have h := (Below.refl 0 w).setCell (p := ⟨g, o, none⟩) (Nat.zero_le _) z
  exact ⟨h.os, h.tape, h.output, h.size, fun a _ hne => heap_setCell_other w ⟨g, o, none⟩ a z hne⟩
theorem own_put {w : World} {base : Nat} {T : TypeId} {v : Value} {n : Nat} {la lb : List Value} {x y : Nd} {u u2 : Value} (h : w.ownsRow base T 5 v n (la ++ (pcl x u ++ lb))) {g p : Nat} (hg : v.ownBlock = some g) (hp : la.length = p) {w' : World}
    (hw : w' = ((((w.setCell ⟨g, p, none⟩ (.int .i64 y.op)).setCell ⟨g, p + 1, none⟩ (.int .i64 y.n)).setCell ⟨g, p + 2, none⟩ (.string y.s)).setCell ⟨g, p + 3, none⟩ (.string y.t)).setCell ⟨g, p + 4, none⟩ u2) :
    w'.ownsRow base T 5 v n (la ++ (pcl y u2 ++ lb)) ∧ Keep (fun a => a = g) w w' := by
  have hn := h.1
  rcases h.2 with ⟨rfl, h0⟩ | ⟨g', cap, cur, rfl, hb, hh, h1, h2, h3, h4⟩
  · simp [Value.ownBlock] at hg
  · simp only [Value.ownBlock, Option.some.injEq] at hg
    subst hg
    have e1 := heap_setCell_same w g' p _ _ (.int .i64 y.op) hh
    have e2 := heap_setCell_same _ g' (p + 1) _ _ (.int .i64 y.n) e1
    have e3 := heap_setCell_same _ g' (p + 2) _ _ (.string y.s) e2
    have e4 := heap_setCell_same _ g' (p + 3) _ _ (.string y.t) e3
    have e5 := heap_setCell_same _ g' (p + 4) _ _ u2 e4
    subst hw
    refine ⟨⟨by rw [← hn]; simp [pcl], .inr ⟨g', cap, _, rfl, hb, e5, h1, h2, by simp [h3], ?_⟩⟩, ?_⟩
    · simp only [Array.toList_setIfInBounds, List.take_set, h4]
      exact set_five _ _ _ _ _ hp
    · have q : ∀ (W : World) (o : Nat) (z : Value), Keep (fun a => a = g') W (W.setCell ⟨g', o, none⟩ z) := fun W o z => keep_set W g' o z
      have t : ∀ {a b c : World}, Keep (fun a => a = g') a b → Keep (fun a => a = g') b c → Keep (fun a => a = g') a c := fun h k => h.trans k (fun _ e => .inl e)
      exact t (t (t (t (q _ _ _) (q _ _ _)) (q _ _ _)) (q _ _ _)) (q _ _ _)
end Go.Proofs.YtnilaghbbhmkgaaGreatDoor
namespace Go.Proofs.YtnilaghbbhmkgaaGreatDoor
open Go.RowKit
set_option linter.unusedVariables false
set_option maxRecDepth 100000

/-- How many parts, as the program counts. -/
def cntP (x : Nd) : Int :=
  if x.op = 1 ∨ x.op = 2 ∨ x.op = 3 ∨ x.op = 4 ∨ x.op = 8 then 0 else if x.op = 5 ∨ x.op = 6 then x.n
  else if x.op = 7 ∨ x.op = 9 ∨ x.op = 10 ∨ x.op = 21 ∨ x.op = 22 ∨ x.op = 23 ∨ x.op = 24 then 1 else if x.op = 13 then 3 else 2
set_option maxHeartbeats 2000000 in
theorem count_any (x : Nd) (v : Value) (w : World) :
    Calls Tryz.prog 53 #[partV x v] w fun e w' => e = .returned (.int .i64 (cntP x)) ∧ Below w.heap.size w w' := by
  obtain ⟨xo, xn, xs, xt⟩ := x
  unfold partV cntP
  dsimp only
  by_cases hd : xo = 1 ∨ xo = 2 ∨ xo = 3 ∨ xo = 4 ∨ xo = 8 ∨ xo = 5 ∨ xo = 6 ∨ xo = 7 ∨ xo = 9 ∨ xo = 10 ∨ xo = 21 ∨ xo = 22 ∨ xo = 23 ∨ xo = 24 ∨ xo = 13
  · rcases hd with rfl | rfl | rfl | rfl | rfl | rfl | rfl | rfl | rfl | rfl | rfl | rfl | rfl | rfl | rfl
    all_goals
      go_enter Tryz.func53, Tryz.ntmps53
      go_wp2
      go_ret
      exact ⟨rfl, (Below.refl _ _).alloc (Nat.le_refl _) _⟩
  · have hr : (if xo = 1 ∨ xo = 2 ∨ xo = 3 ∨ xo = 4 ∨ xo = 8 then (0 : Int) else if xo = 5 ∨ xo = 6 then xn else if xo = 7 ∨ xo = 9 ∨ xo = 10 ∨ xo = 21 ∨ xo = 22 ∨ xo = 23 ∨ xo = 24 then 1 else if xo = 13 then 3 else 2) = 2 := by
      rw [if_neg (by omega), if_neg (by omega), if_neg (by omega), if_neg (by omega)]
    rw [hr]
    have e1 : (xo == 1) = false := by rw [beq_eq_false_iff_ne]; omega
    have e2 : (xo == 2) = false := by rw [beq_eq_false_iff_ne]; omega
    have e3 : (xo == 3) = false := by rw [beq_eq_false_iff_ne]; omega
    have e4 : (xo == 4) = false := by rw [beq_eq_false_iff_ne]; omega
    have e5 : (xo == 8) = false := by rw [beq_eq_false_iff_ne]; omega
    have e6 : (xo == 5) = false := by rw [beq_eq_false_iff_ne]; omega
    have e7 : (xo == 6) = false := by rw [beq_eq_false_iff_ne]; omega
    have e8 : (xo == 7) = false := by rw [beq_eq_false_iff_ne]; omega
    have e9 : (xo == 9) = false := by rw [beq_eq_false_iff_ne]; omega
    have e10 : (xo == 10) = false := by rw [beq_eq_false_iff_ne]; omega
    have e11 : (xo == 21) = false := by rw [beq_eq_false_iff_ne]; omega
    have e12 : (xo == 22) = false := by rw [beq_eq_false_iff_ne]; omega
    have e13 : (xo == 23) = false := by rw [beq_eq_false_iff_ne]; omega
    have e14 : (xo == 24) = false := by rw [beq_eq_false_iff_ne]; omega
    have e15 : (xo == 13) = false := by rw [beq_eq_false_iff_ne]; omega
    clear hd hr
    go_enter Tryz.func53, Tryz.ntmps53
    go_wp2
    go_ret
    exact ⟨rfl, (Below.refl _ _).alloc (Nat.le_refl _) _⟩
set_option maxHeartbeats 2000000 in
theorem ofTruth_any (x : Nd) (v : Value) (w : World) :
    Calls Tryz.prog 95 #[partV x v] w fun e w' => e = .returned (.bool (truthB x)) ∧ Below w.heap.size w w' := by
  obtain ⟨xo, xn, xs, xt⟩ := x
  unfold partV truthB
  dsimp only
  by_cases hd : xo = 1 ∨ xo = 9 ∨ xo = 11 ∨ xo = 12 ∨ xo = 14 ∨ xo = 15 ∨ xo = 16 ∨ xo = 20 ∨ xo = 21 ∨ xo = 23 ∨ xo = 24 ∨ xo = 25 ∨ xo = 26 ∨ xo = 27
  · rcases hd with rfl | rfl | rfl | rfl | rfl | rfl | rfl | rfl | rfl | rfl | rfl | rfl | rfl | rfl
    all_goals
      go_enter Tryz.func95, Tryz.ntmps95
      go_wp2
      go_ret
      exact ⟨rfl, (Below.refl _ _).alloc (Nat.le_refl _) _⟩
  · have hr : decide (xo = 1 ∨ xo = 9 ∨ xo = 11 ∨ xo = 12 ∨ 14 ≤ xo ∧ xo ≤ 16 ∨ xo = 20 ∨ xo = 21 ∨ 23 ≤ xo ∧ xo ≤ 27) = false := decide_eq_false (by omega)
    rw [hr]
    have e1 : (xo == 1) = false := by rw [beq_eq_false_iff_ne]; omega
    have e2 : (xo == 9) = false := by rw [beq_eq_false_iff_ne]; omega
    have e3 : (xo == 11) = false := by rw [beq_eq_false_iff_ne]; omega
    have e4 : (xo == 12) = false := by rw [beq_eq_false_iff_ne]; omega
    have e5 : (xo == 14) = false := by rw [beq_eq_false_iff_ne]; omega
    have e6 : (xo == 15) = false := by rw [beq_eq_false_iff_ne]; omega
    have e7 : (xo == 16) = false := by rw [beq_eq_false_iff_ne]; omega
    have e8 : (xo == 20) = false := by rw [beq_eq_false_iff_ne]; omega
    have e9 : (xo == 21) = false := by rw [beq_eq_false_iff_ne]; omega
    have e10 : (xo == 23) = false := by rw [beq_eq_false_iff_ne]; omega
    have e11 : (xo == 24) = false := by rw [beq_eq_false_iff_ne]; omega
    have e12 : (xo == 25) = false := by rw [beq_eq_false_iff_ne]; omega
    have e13 : (xo == 26) = false := by rw [beq_eq_false_iff_ne]; omega
    have e14 : (xo == 27) = false := by rw [beq_eq_false_iff_ne]; omega
    clear hd hr
    go_enter Tryz.func95, Tryz.ntmps95
    go_wp2
    go_ret
    exact ⟨rfl, (Below.refl _ _).alloc (Nat.le_refl _) _⟩
theorem isEnt_any (x : Nd) (w : World) :
    Calls Tryz.prog 196 #[.agg #[.int .i64 x.op, .int .i64 x.n, .string x.s, .string x.t]] w fun e w' => e = .returned (.bool (x.op == 4)) ∧ Below w.heap.size w w' := by
  go_enter Tryz.func196, Tryz.ntmps196
  go_wp2
  go_ret
  exact ⟨rfl, (Below.refl _ _).alloc (Nat.le_refl _) _⟩
theorem fnew_at {w : World} {o : Array Value} {T : TypeId} {N : Nat} (h : N = w.heap.size) : (w.alloc (.cells o T)).heap[N]? = some (.cells o T (0, 0)) := by subst h; exact heap_alloc_new _ _
/-- A part in a block of its own. -/
structure PB (w : World) (B : Nat) (x : Nd) (v : Value) : Prop where
  blk : w.heap[B]? = some (.cells #[.int .i64 x.op, .int .i64 x.n, .string x.s, .string x.t, v] 63 (0, 0))
theorem PB.lt {w : World} {B : Nat} {x : Nd} {v : Value} (h : PB w B x v) : B < w.heap.size := (Array.getElem?_eq_some_iff.1 h.blk).1
theorem PB.up {w w' : World} {B : Nat} {x : Nd} {v : Value} (h : PB w B x v) (hb : Below w.heap.size w w') : PB w' B x v := ⟨(hb.block B h.lt).trans h.blk⟩
theorem PB.keep {S : Nat → Prop} {w w' : World} {B : Nat} {x : Nd} {v : Value} (h : PB w B x v) (hb : Keep S w w') (hl : ¬ S B) : PB w' B x v := ⟨(hb.block B h.lt hl).trans h.blk⟩
theorem PB.kept {w w' : World} {B base : Nat} {x : Nd} {v : Value} (h : PB w B x v) (hb : Kept base 41 w w') : PB w' B x v := ⟨(hb.typed B 63 (by decide) ⟨_, _, h.blk⟩).trans h.blk⟩
theorem PB.new (w : World) (x : Nd) (v : Value) {N : Nat} (h : N = w.heap.size) : PB (w.alloc (.cells #[.int .i64 x.op, .int .i64 x.n, .string x.s, .string x.t, v] 63)) N x v := ⟨fnew_at h⟩
theorem PB.cells {w : World} {B : Nat} {x : Nd} {v : Value} (h : PB w B x v) : w.cell? ⟨B, 0, none⟩ = some (.int .i64 x.op) ∧ w.cell? ⟨B, 1, none⟩ = some (.int .i64 x.n) ∧ w.cell? ⟨B, 2, none⟩ = some (.string x.s) ∧ w.cell? ⟨B, 3, none⟩ = some (.string x.t) ∧ w.cell? ⟨B, 4, none⟩ = some v := by
  have := h.blk
  simp [World.cell?, this]
theorem PB.free {w : World} {B : Nat} {x : Nd} {v : Value} (h : PB w B x v) (j : Nat) : w.frozen? ⟨B, j, none⟩ = false := by
  have := h.blk
  simp [World.frozen?, this]
theorem len_flat : ∀ t : Fo, t.len ≤ t.flat.length
  | .nil => by simp [Fo.len]
  | .cons x k r => by have := len_flat r; simp [Fo.len, Fo.flat]; omega
/-- What onto does. -/
def OntoOk (x : Nd) (k : Fo) : Prop := ∀ (w : World) (v : Value) (S : Nat → Prop) (base : Nat) (ev : Value) (L : List Nd), KV w k v S → (∀ a, S a → a < base) → x.wf → base ≤ w.heap.size → ON w base ev L → L.length + k.flat.length + 1 ≤ 1000000 →
  Calls Tryz.prog 28 #[partV x v, ev] w fun en w' => (∃ ev', en = .returned ev' ∧ ON w' base ev' (L ++ x :: k.flat)) ∧ Kept base 41 w w'
theorem ON.any {w : World} {base : Nat} {v : Value} {L : List Nd} (h : ON w base v L) : ∃ q c, v = .slice q L.length c := by
  rcases h.1.2 with ⟨rfl, h0⟩ | ⟨g, cap, cur, rfl, _⟩
  · exact ⟨none, 0, by rw [h0]⟩
  · exact ⟨_, _, rfl⟩
set_option maxHeartbeats 4000000 in
theorem onto_step (x : Nd) (k : Fo) (ih : ∀ y ky, ky.flat.length < k.flat.length → OntoOk y ky) : OntoOk x k := by
  intro w v S base ev L hv hS hx hbase hO hlen
  obtain ⟨q, c, rfl, hkc, hcm⟩ := hv.slice
  have HV : Hid (KV w k (.slice q k.len c) S) := hv
  have HIH : Hid (∀ y ky, ky.flat.length < k.flat.length → OntoOk y ky) := ih
  have HS : Hid (∀ a, S a → a < base) := hS
  have HL : Hid (L.length + k.flat.length + 1 ≤ 1000000) := hlen
  have hkb : k.len ≤ 1000000 := by have := len_flat k; omega
  clear hv ih hS hlen
  obtain ⟨W, hW⟩ : ∃ W, W = w.alloc (.cells #[.int .i64 x.op, .int .i64 x.n, .string x.s, .string x.t, .slice q k.len c] 63) := ⟨_, rfl⟩
  have hbW : Below w.heap.size w W := by rw [hW]; exact (Below.refl _ _).alloc (Nat.le_refl _) _
  have hB_0 : PB W w.heap.size x (.slice q k.len c) := by rw [hW]; exact PB.new w x _ rfl
  have hWs : W.heap.size = w.heap.size + 1 := by rw [hW]; simp
  have hO_0 := hO.below hbW
  have hk_0 : Kept base 41 w W := Kept.of_below hbW hbase
  obtain ⟨V, hV⟩ : ∃ V, V = W.alloc (.cells #[.int .i64 x.op, .int .i64 x.n, .string x.s, .string x.t] 41) := ⟨_, rfl⟩
  have hbV : Below W.heap.size W V := by rw [hV]; exact (Below.refl _ _).alloc (Nat.le_refl _) _
  have hNL : NL V (some ⟨w.heap.size + 1, 0, none⟩) [x] := by rw [hV]; exact NL.single W _ x hx hWs
  have hO_1 := hO_0.below hbV
  have hB_1 := hB_0.up hbV
  have hk_1 : Kept base 41 w V := hk_0.trans (Kept.of_below hbV (by omega))
  have hbs : base ≤ V.heap.size := Nat.le_trans (by omega) hbV.size
  have hll : L.length + ([x] : List Nd).length ≤ 1099511627776 := by have := HL.out; simp; omega
  obtain ⟨c0, c1, c2, c3, c4⟩ := hB_0.cells
  obtain ⟨eq, ec, rfl⟩ := hO.any
  unfold partV
  go_enter Tryz.func28, Tryz.ntmps28
  go_wp2_with (first | (at_builtin; rw [← hW, ← hV]; refine append_nodes V rfl (.tmp 7) (.tmp 10) rfl base (.slice eq L.length ec) L rfl hO_1 [x] 1 rfl (w.heap.size + 1) 0 1 hNL rfl hll hbs ?_; intro v1 w2 hO_2 hk2; have hB_2 := hB_1.kept hk2; obtain ⟨d0, d1, d2, d3, d4⟩ := hB_2.cells))
  go_loopw [1, 15] (fun e i wr => ∃ done todo : Fo, Hid (done.app todo = k) ∧ i = .int .i64 (done.len : Int) ∧ ON wr base e (L ++ x :: done.flat) ∧ Kept base 41 w wr) (fun _ i _ => k.len - (intOf i).toNat)
  case atStart => exact ⟨.nil, k, rfl, rfl, hO_2, hk_1.trans hk2⟩
  case round =>
    rename World => w3
    obtain ⟨done, todo, HD, rfl, hO_3, hk3⟩ := hrel
    cases todo with
    | nil =>
      have hd : done = k := by have := HD.out; rw [app_nil] at this; exact this
      subst hd
      have i1 : ¬ (done.len : Int) < (done.len : Int) := by omega
      obtain ⟨M, hM⟩ : ∃ M, M = L ++ x :: done.flat := ⟨_, rfl⟩
      have HM : Hid (M = L ++ x :: done.flat) := hM
      rw [← hM] at hO_3
      clear hM
      obtain ⟨q3, c3, rfl⟩ := hO_3.any
      go_wp2
      go_ret
      exact ⟨⟨_, rfl, by rw [← HM.out]; exact hO_3⟩, hk3⟩
    | cons y ky r =>
      have hv3 : KV w3 k (.slice q k.len c) S := HV.out.bel hk3.bel HS.out
      have hkl : k.len = done.len + (r.len + 1) := by rw [← HD.out, app_len]; rfl
      have hkf : k.flat.length = done.flat.length + (ky.flat.length + r.flat.length + 1) := by rw [← HD.out, app_flat]; simp [Fo.flat] <;> omega
      have i1 : (done.len : Int) < (k.len : Int) := by omega
      rw [← HD.out] at hv3
      obtain ⟨g, cap, u, Sk, hu, hP, hyw, hvk, hSk, hSg⟩ := hv3.at
      rw [HD.out, ← hkl] at hu
      cases hu
      obtain ⟨qu, cu, rfl, _⟩ := hvk.slice
      obtain ⟨p0, p1, p2, p3, p4⟩ := hP.cells
      obtain ⟨W4, hW4⟩ : ∃ W4, W4 = w3.alloc (.cells #[.int .i64 y.op, .int .i64 y.n, .string y.s, .string y.t, .slice qu ky.len cu] 63) := ⟨_, rfl⟩
      have hb4 : Below w3.heap.size w3 W4 := by rw [hW4]; exact (Below.refl _ _).alloc (Nat.le_refl _) _
      have hB4 : PB W4 w3.heap.size y (.slice qu ky.len cu) := by rw [hW4]; exact PB.new w3 y _ rfl
      have hbs3 : base ≤ w3.heap.size := Nat.le_trans hbase hk3.bel.size
      have hC := HIH.out y ky (by omega) W4 _ Sk base u1 (L ++ x :: done.flat) (hvk.up hb4) (fun a ha => HS.out a (hSk a ha).1) hyw (Nat.le_trans hbs3 hb4.size) (hO_3.below hb4) (by have := HL.out; simp only [List.length_append, List.length_cons]; omega)
      unfold partV at hC
      obtain ⟨b0, b1, b2, b3, b4⟩ := hB4.cells
      have hk4 : Kept base 41 w W4 := hk3.trans (Kept.of_below hb4 hbs3)
      have HDn : Hid ((done.app (.cons y ky .nil)).app r = k) := by show _ = _; rw [app_assoc, ← HD.out]; rfl
      have HF : Hid (L ++ x :: (done.app (.cons y ky .nil)).flat = L ++ x :: done.flat ++ y :: ky.flat) := by show _ = _; rw [app_flat]; simp [Fo.flat]
      have HKL : Hid (k.len = done.len + (r.len + 1)) := hkl
      clear hv3 hvk hSk hP hkl hkf
      go_wp2_with fail
      rw [← hW4]
      refine hC.mono ?_
      rintro _ w5 ⟨⟨e5, rfl, hO_5⟩, hk5⟩
      go_wp2_with fail
      go_roundw
      case rel => exact ⟨done.app (.cons y ky .nil), r, HDn, by rw [app_len]; simp only [Fo.len]; go_num, by rw [HF.out]; exact hO_5, hk4.trans hk5⟩
      case measure => have := HKL.out; simp [intOf]; omega
theorem onto_any : ∀ (N : Nat) (x : Nd) (k : Fo), k.flat.length < N → OntoOk x k
  | 0, x, k, h => by omega
  | N + 1, x, k, h => onto_step x k (fun y ky hy => onto_any N y ky (by omega))
end Go.Proofs.YtnilaghbbhmkgaaGreatDoor
namespace Go.Proofs.YtnilaghbbhmkgaaGreatDoor
open Go.RowKit
set_option linter.unusedVariables false
set_option maxRecDepth 100000

/-- Each node has as many parts as the program counts. -/
def arP : Fo → Prop
  | .nil => True
  | .cons x k r => cntP x = (k.len : Int) ∧ arP k ∧ arP r
theorem cntP_ex {x : Nd} (h7 : x.op ≠ 7) (hx : exOk x = true) : cntP x = ((prt x).toNat : Int) := by
  have h0 : ¬ prt x < 0 := fun hn => by
    unfold exOk at hx
    by_cases c : 1 ≤ x.op ∧ x.op ≤ 7
    · rw [if_pos c] at hx
      by_cases c5 : x.op = 5 ∨ x.op = 6
      · have := ndOk_n hx c5
        unfold prt at hn
        rw [if_pos c5] at hn
        omega
      · unfold prt at hn
        rw [if_neg c5, if_pos (by omega)] at hn
        omega
    · rw [if_neg c, if_pos hn] at hx
      cases hx
  have h1 : ((prt x).toNat : Int) = prt x := by omega
  rw [h1]
  clear h1
  unfold cntP
  unfold prt at h0 ⊢
  by_cases a : x.op = 5 ∨ x.op = 6
  · rw [if_neg (by omega), if_pos a, if_pos a]
  rw [if_neg a] at h0 ⊢
  rw [if_neg a]
  by_cases b : 1 ≤ x.op ∧ x.op ≤ 4 ∨ x.op = 8
  · rw [if_pos b, if_pos (by omega)]
  rw [if_neg b] at h0 ⊢
  rw [if_neg (by omega)]
  by_cases c : x.op = 7 ∨ x.op = 9 ∨ x.op = 10 ∨ 21 ≤ x.op ∧ x.op ≤ 24
  · rw [if_pos c, if_pos (by omega)]
  rw [if_neg c] at h0 ⊢
  rw [if_neg (by omega)]
  by_cases d : x.op = 13
  · rw [if_pos d, if_pos d]
  rw [if_neg d] at h0 ⊢
  rw [if_neg d]
  by_cases e : 11 ≤ x.op ∧ x.op ≤ 20 ∨ 25 ≤ x.op ∧ x.op ≤ 27
  · rw [if_pos e]
  · rw [if_neg e] at h0
    exact absurd (by decide) h0
theorem okT.arp : ∀ {t : Fo} {m : Option ByteArray}, okT m t → arP t
  | .nil, _, _ => trivial
  | .cons x k r, m, h => by
    have hc := h.cnt
    cases m with
    | none =>
      obtain ⟨h7, hx, hk, hr⟩ := okT.none_cons.1 h
      refine ⟨by rw [cntP_ex h7 hx, hc]; unfold cntT; rw [if_neg h7], ?_, okT.arp hr⟩
      rcases hk with ⟨_, _, hk⟩ | ⟨_, _, hk⟩
      · exact okT.arp hk
      · exact okT.arp hk
    | some l =>
      obtain ⟨⟨h7, _⟩, ⟨hl, hk⟩, hr⟩ := okT.some_cons.1 h
      exact ⟨by rw [hl]; unfold cntP; rw [if_neg (by omega), if_neg (by omega), if_pos (by omega)]; rfl, okT.arp hk, okT.arp hr⟩
theorem arP_app : ∀ {a b : Fo}, arP (a.app b) ↔ arP a ∧ arP b
  | .nil, b => by simp [Fo.app, arP]
  | .cons x k r, b => by simp [Fo.app, arP, arP_app (a := r) (b := b), and_assoc]
def z0 : Nd := ⟨0, 0, ⟨#[]⟩, ⟨#[]⟩⟩
theorem PB.put {w w' : World} {B : Nat} {x y : Nd} {u v : Value} (h : PB w B y v) (hw : w' = ((((w.setCell ⟨B, 0, none⟩ (.int .i64 x.op)).setCell ⟨B, 1, none⟩ (.int .i64 x.n)).setCell ⟨B, 2, none⟩ (.string x.s)).setCell ⟨B, 3, none⟩ (.string x.t)).setCell ⟨B, 4, none⟩ u) : PB w' B x u ∧ Keep (fun a => a = B) w w' := by
  have e1 := heap_setCell_same w B 0 _ _ (.int .i64 x.op) h.blk
  have e2 := heap_setCell_same _ B 1 _ _ (.int .i64 x.n) e1
  have e3 := heap_setCell_same _ B 2 _ _ (.string x.s) e2
  have e4 := heap_setCell_same _ B 3 _ _ (.string x.t) e3
  have e5 := heap_setCell_same _ B 4 _ _ u e4
  subst hw
  have q : ∀ (W : World) (o : Nat) (z : Value), Keep (fun a => a = B) W (W.setCell ⟨B, o, none⟩ z) := fun W o z => keep_set W B o z
  have t : ∀ {a b c : World}, Keep (fun a => a = B) a b → Keep (fun a => a = B) b c → Keep (fun a => a = B) a c := fun h k => h.trans k (fun _ e => .inl e)
  exact ⟨⟨e5⟩, t (t (t (t (q _ _ _) (q _ _ _)) (q _ _ _)) (q _ _ _)) (q _ _ _)⟩
theorem PB.put4 {w w' : World} {B : Nat} {x : Nd} {u v : Value} (h : PB w B x v) (hw : w' = w.setCell ⟨B, 4, none⟩ u) : PB w' B x u ∧ Keep (fun a => a = B) w w' := by
  have e5 := heap_setCell_same _ B 4 _ _ u h.blk
  subst hw
  exact ⟨⟨e5⟩, keep_set w B 4 u⟩
theorem ownP_slice {w : World} {base : Nat} {T : TypeId} {m : Nat} {v : Value} {n : Nat} {l : List Value} (h : w.ownsRow base T m v n l) : ∃ q c, v = .slice q n c := by
  rcases h.2 with ⟨rfl, h0⟩ | ⟨g, cap, cur, rfl, _⟩
  · exact ⟨none, 0, by rw [h0]⟩
  · exact ⟨_, _, rfl⟩
/-- What first does. -/
def FirstOk (x : Nd) (k : Fo) : Prop := ∀ (w0 w : World) (z : List Nd) (n : Nat) (p : Option Addr) (c : Nat), Below w0.heap.size w0 w → NL w0 p (x :: (k.flat ++ z)) → n = k.flat.length + z.length + 1 → n ≤ c → c ≤ maxLen → cntP x = (k.len : Int) → arP k → n ≤ 1000 →
  Calls Tryz.prog 26 #[.slice p n c] w fun en w' => (∃ v q c', en = .returned (.tuple #[partV x v, .slice q z.length c']) ∧ KV w' k v (fun a => w.heap.size ≤ a) ∧ NL w0 q z ∧ z.length ≤ c' ∧ c' ≤ maxLen) ∧ Below w.heap.size w w'
set_option maxHeartbeats 4000000 in
theorem first_step (x : Nd) (k : Fo) (ih : ∀ y ky, ky.flat.length < k.flat.length → FirstOk y ky) : FirstOk x k := by
  intro w0 w z n p c hb0 hv hn hnc hcm hcnt har hn9
  obtain ⟨b, off, rfl, hbw0, x0, x1, x2, x3, xw⟩ := hv.head
  replace x0 := (hb0.cell (p := ⟨b, off, none⟩) hbw0).trans x0
  replace x1 := (hb0.cell (p := ⟨b, off + 1, none⟩) hbw0).trans x1
  replace x2 := (hb0.cell (p := ⟨b, off + 2, none⟩) hbw0).trans x2
  replace x3 := (hb0.cell (p := ⟨b, off + 3, none⟩) hbw0).trans x3
  have hbw : b < w.heap.size := Nat.lt_of_lt_of_le hbw0 hb0.size
  obtain ⟨pr, hpr, hnr⟩ : ∃ pr, (if c = 1 then some (⟨b, off, none⟩ : Addr) else some ⟨b, off + 4, none⟩) = some ⟨b, pr, none⟩ ∧ NL w0 (some ⟨b, pr, none⟩) (k.flat ++ z) := by
    by_cases h : c = 1
    · exact ⟨off, if_pos h, .inl (List.eq_nil_of_length_eq_zero (by rw [List.length_append]; omega))⟩
    · exact ⟨off + 4, if_neg h, hv.tail⟩
  have i0 : (0 : Int) < (n : Int) := by omega
  have i1 : (1 : Int) ≤ (n : Int) := by omega
  have HC := fun w1 v => count_any x v w1
  rw [hcnt] at HC
  have HIH : Hid (∀ y ky, ky.flat.length < k.flat.length → FirstOk y ky) := ih
  have HAR : Hid (arP k) := har
  have HN : Hid (n = k.flat.length + z.length + 1) := hn
  have HPR : Hid _ := hpr
  have hkb : k.len ≤ 1000 := by have := len_flat k; omega
  have hpr2 : (c = 1 ∧ pr = off) ∨ (¬ c = 1 ∧ pr = off + 4) := by
    by_cases h : c = 1
    · rw [if_pos h] at hpr; exact .inl ⟨h, by simpa using hpr.symm⟩
    · rw [if_neg h] at hpr; exact .inr ⟨h, by simpa using hpr.symm⟩
  clear ih har hn hv hcnt hpr HPR
  unfold partV at *
  obtain ⟨W, hW⟩ : ∃ W, W = ((w.alloc (.cells #[.int .i64 0, .int .i64 0, .string ⟨#[]⟩, .string ⟨#[]⟩, .slice none 0 0] 63)).alloc (.cells #[.int .i64 x.op, .int .i64 x.n, .string x.s, .string x.t, .slice none 0 0] 63)).drew := ⟨_, rfl⟩
  have hb_0 : Below w.heap.size w W := by rw [hW]; exact (((Below.refl _ _).alloc (Nat.le_refl _) _).alloc (by simp) _).drew
  have hr_0 : PB W w.heap.size z0 (.slice none 0 0) := by rw [hW]; exact ((PB.new w z0 _ rfl).up ((Below.refl _ _).alloc (Nat.le_refl _) _)).up (Below.refl _ _).drew
  have hp_0 : PB W (w.heap.size + 1) x (.slice none 0 0) := by rw [hW]; exact (PB.new _ x _ (by simp)).up (Below.refl _ _).drew
  have hWs : W.heap.size = w.heap.size + 2 := by rw [hW]; simp [World.drew]
  have HB0 : Hid (Below w0.heap.size w0 w) := hb0
  clear hb0
  have HKL : Hid ((k.flat ++ z).length = k.flat.length + z.length) := List.length_append
  rcases hpr2 with ⟨hc1, rfl⟩ | ⟨hc1, rfl⟩
  all_goals
    go_enter Tryz.func26, Tryz.ntmps26
    go_wp2
    go_region
    go_wp2_with fail
    rw [← hW]
    refine (HC _ _).mono ?_
    rintro _ w1 ⟨rfl, hbb⟩
    have hb_1 : Below w.heap.size w w1 := hb_0.trans (hbb.mono (by omega))
    have hr_1 := hr_0.up hbb
    have hp_1 := hp_0.up hbb
    have hs_1 : w.heap.size + 2 ≤ w1.heap.size := by have := hbb.size; omega
    clear hW hb_0 hr_0 hp_0 hbb HC x0 x1 x2 x3
    go_wp2_with fail
    go_loopw [5, 15] (fun rv i wr => ∃ (done todo : Fo) (q : Option Addr) (m c' : Nat) (qv : Option Addr) (cv : Nat) (ld : List Value) (Sd : Nat → Prop), Hid (done.app todo = k) ∧ i = .int .i64 (done.len : Int) ∧ rv = .slice q m c' ∧ Hid (m = todo.flat.length + z.length) ∧ Hid (NL w0 q (todo.flat ++ z)) ∧ m ≤ c' ∧ c' ≤ maxLen ∧ PB wr (w.heap.size + 1) x (.slice qv done.len cv) ∧ PB wr w.heap.size z0 (.slice none 0 0) ∧ Hid (wr.ownsRow 0 63 5 (.slice qv done.len cv) done.len ld) ∧ Hid (RT wr done ld Sd) ∧ Hid (∀ a, Sd a → w.heap.size + 2 ≤ a ∧ a < wr.heap.size) ∧ Hid (∀ g, (Value.slice qv done.len cv).ownBlock = some g → w.heap.size + 2 ≤ g ∧ ¬ Sd g) ∧ Below w.heap.size w wr ∧ w.heap.size + 2 ≤ wr.heap.size) (fun _ i _ => k.len - (intOf i).toNat)
    case atStart => exact ⟨.nil, k, _, _, _, none, 0, [], fun _ => False, rfl, rfl, rfl, (by have := HN.out; show _ = _; omega), hnr, by omega, by omega, hp_1, hr_1, ⟨rfl, .inl ⟨rfl, rfl⟩⟩, rfl, (fun a h => h.elim), (fun g h => by simp [Value.ownBlock] at h), hb_1, hs_1⟩
    case round =>
      rename World => w3
      obtain ⟨done, todo, q, m, c', qv, cv, ld, Sd, HD, rfl, rfl, HM, hn_3, hmc, hcm', hp_3, hr_3, HO, HT, HS, HG, hb_3, hs_3⟩ := hrel
      cases todo with
      | nil =>
        have hd : done = k := by have := HD.out; rw [app_nil] at this; exact this
        have hm : m = z.length := by have := HM.out; simpa [Fo.flat] using this
        subst hd hm
        have j1 : ¬ (done.len : Int) < (done.len : Int) := by omega
        obtain ⟨p0, p1, p2, p3, p4⟩ := hp_3.cells
        obtain ⟨r0, r1, r2, r3, r4⟩ := hr_3.cells
        have f0 := hr_3.free
        go_wp2
        obtain ⟨V, hV⟩ : ∃ V, V = ((((w3.setCell ⟨w.heap.size, 0, none⟩ (.int .i64 x.op)).setCell ⟨w.heap.size, 1, none⟩ (.int .i64 x.n)).setCell ⟨w.heap.size, 2, none⟩ (.string x.s)).setCell ⟨w.heap.size, 3, none⟩ (.string x.t)).setCell ⟨w.heap.size, 4, none⟩ (.slice qv done.len cv) := ⟨_, rfl⟩
        rw [← hV]
        obtain ⟨hPV, hKV⟩ := hr_3.put hV
        obtain ⟨t0, t1, t2, t3, t4⟩ := hPV.cells
        have hbV : Below w.heap.size w3 V := hKV.below (by omega) (fun a e => by rw [e]; exact Nat.le_refl _)
        refine bodyPost_ret (v := .tuple #[.agg #[.int .i64 x.op, .int .i64 x.n, .string x.s, .string x.t, .slice qv done.len cv], .slice q z.length c']) (by simp [results, Tryz.results26, go_sem, t0, t1, t2, t3, t4]) rfl ⟨⟨_, _, _, rfl, ⟨ld, Sd, ?_, ?_, ?_, ?_⟩, ?_, hmc, hcm'⟩, hb_3.trans hbV⟩
        · exact ownP_agree HO.out (fun g hg hl => hKV.block g hl (fun e => by have := (HG.out g hg).1; omega))
        · exact HT.out.agree (fun a ha hl => hKV.block a hl (fun e => by have := (HS.out a ha).1; omega))
        · exact fun g hg => ⟨by have := (HG.out g hg).1; omega, (HG.out g hg).2⟩
        · exact fun a ha => by have := (HS.out a ha).1; omega
        · exact hn_3.out
      | cons y ky r =>
        have hkl : k.len = done.len + (r.len + 1) := by rw [← HD.out, app_len]; rfl
        have hkf : k.flat.length = done.flat.length + (ky.flat.length + r.flat.length + 1) := by rw [← HD.out, app_flat]; simp [Fo.flat] <;> omega
        have j1 : (done.len : Int) < (k.len : Int) := by omega
        obtain ⟨hcy, hak, har⟩ : arP (.cons y ky r) := (arP_app.1 (by rw [HD.out]; exact HAR.out)).2
        have HKf : Hid (k.len = done.len + (r.len + 1)) := hkl
        have HMr : Hid (m = ky.flat.length + (r.flat ++ z).length + 1) := by have := HM.out; show _ = _; simp [Fo.flat] at this ⊢; omega
        obtain ⟨W4, hW4⟩ : ∃ W4, W4 = w3.alloc (.cells #[.int .i64 0, .int .i64 0, .string ⟨#[]⟩, .string ⟨#[]⟩, .slice none 0 0] 63) := ⟨_, rfl⟩
        have hb4 : Below w3.heap.size w3 W4 := by rw [hW4]; exact (Below.refl _ _).alloc (Nat.le_refl _) _
        have hy_4 : PB W4 w3.heap.size z0 (.slice none 0 0) := by rw [hW4]; exact PB.new w3 z0 _ rfl
        have hm9 : m ≤ 1000 := by have h1 := HM.out; have h2 := HN.out; simp only [Fo.flat, List.length_cons, List.length_append] at h1; omega
        have hb04 : Below w0.heap.size w0 W4 := (HB0.out.trans (hb_3.mono HB0.out.size)).trans (hb4.mono (Nat.le_trans HB0.out.size hb_3.size))
        have hnl4 : NL w0 q (y :: (ky.flat ++ (r.flat ++ z))) := by have := hn_3.out; simpa [Fo.flat] using this
        have hyw : y.wf := hnl4.wfs y (by simp)
        have hC := HIH.out y ky (by omega) w0 W4 (r.flat ++ z) m q c' hb04 hnl4 HMr.out hmc hcm' hcy hak hm9
        have hW4s : W4.heap.size = w3.heap.size + 1 := by rw [hW4]; simp
        clear hkl hkf hb04 hnl4
        obtain ⟨p0, p1, p2, p3, p4⟩ := hp_3.cells
        go_wp2_with fail
        rw [← hW4]
        refine hC.mono ?_
        rintro _ w5 ⟨⟨u, q5, c5, rfl, hu, hn_5, hle5, hcm5⟩, hb5⟩
        obtain ⟨qu, cu, rfl, _⟩ := hu.slice
        have hy_5 := hy_4.up hb5
        have hp_5 := (hp_3.up hb4).up hb5
        have hr_5 := (hr_3.up hb4).up hb5
        obtain ⟨V6, hV6⟩ : ∃ V6, V6 = ((((w5.setCell ⟨w3.heap.size, 0, none⟩ (.int .i64 y.op)).setCell ⟨w3.heap.size, 1, none⟩ (.int .i64 y.n)).setCell ⟨w3.heap.size, 2, none⟩ (.string y.s)).setCell ⟨w3.heap.size, 3, none⟩ (.string y.t)).setCell ⟨w3.heap.size, 4, none⟩ (.slice qu ky.len cu) := ⟨_, rfl⟩
        obtain ⟨hy_6, hK6⟩ := hy_5.put hV6
        have hVs : V6.heap.size = w5.heap.size := by rw [hV6]; simp
        have hs5 : W4.heap.size ≤ w5.heap.size := hb5.size
        have hb35 : Below w3.heap.size w3 w5 := hb4.trans (hb5.mono hb4.size)
        have hp_6 := hp_5.keep hK6 (by omega)
        have hr_6 := hr_5.keep hK6 (by omega)
        have hO6 : V6.ownsRow 0 63 5 (.slice qv done.len cv) done.len ld := ownP_agree HO.out (fun g hg hl => (hK6.block g (by omega) (by omega)).trans (hb35.block g hl))
        have HT6 : Hid (RT V6 done ld Sd) := HT.out.agree (fun a ha hl => (hK6.block a (by omega) (by omega)).trans (hb35.block a hl))
        have HU6 : Hid (KV V6 ky (.slice qu ky.len cu) (fun a => W4.heap.size ≤ a ∧ a < w5.heap.size)) := hu.real.agree (fun a ha hl => hK6.block a hl (by omega))
        have hb6 : Below w.heap.size w V6 := (hb_3.trans (hb35.mono hb_3.size)).trans (hK6.below (by omega) (fun a e => by omega))
        have HGL : Hid (∀ g, (Value.slice qv done.len cv).ownBlock = some g → g < w3.heap.size) := fun g hg => (ownP_lt HO.out hg).1
        have hal : (done.app (.cons y ky .nil)).len = done.len + 1 := by rw [app_len]; rfl
        have HAL : Hid ((done.app (.cons y ky .nil)).len = done.len + 1) := hal
        have HDn : Hid ((done.app (.cons y ky .nil)).app r = k) := by show _ = _; rw [app_assoc, ← HD.out]; rfl
        have hdl : done.len + 1 ≤ 1000000 := by have := HKf.out; omega
        have HN5 : Hid (NL w0 q5 (r.flat ++ z)) := hn_5
        have HM5 : Hid ((r.flat ++ z).length = r.flat.length + z.length) := List.length_append
        obtain ⟨y0, y1, y2, y3, y4⟩ := hy_5.cells
        obtain ⟨b0, b1, b2, b3, b4⟩ := hp_5.cells
        have fy := hy_5.free
        have fb := hp_5.free
        have hne : ¬ w.heap.size + 1 = w3.heap.size := by omega
        have hne2 : ¬ w3.heap.size = w.heap.size + 1 := by omega
        clear hC hW4 hy_4 p0 p1 p2 p3 p4 hu hn_5 hal hK6 hb5 hb4 hb35 hr_5
        generalize (r.flat ++ z).length = m5 at *
        unfold partV
        go_wp2_with (first | (at_builtin; rw [← hV6]; refine append_part V6 rfl (.tmp 23) (.tmp 25) rfl (.slice qv done.len cv) done.len ld rfl hO6 y (.slice qu ky.len cu) rfl (by rw [hVs]; rfl) hdl ?_; intro v7 w7 hO7 hg7 hat7; obtain ⟨q7, c7, rfl⟩ := ownP_slice hO7; have hp_7 : PB w7 (w.heap.size + 1) x (.slice qv done.len cv) := ⟨(hg7.block _ hp_6.lt (fun e => by have := (HG.out _ e.symm).1; omega)).trans hp_6.blk⟩; obtain ⟨d0, d1, d2, d3, d4⟩ := hp_7.cells; have fd := hp_7.free; clear b0 b1 b2 b3 b4 fb y0 y1 y2 y3 y4 fy))
        obtain ⟨V8, hV8⟩ : ∃ V8, V8 = w7.setCell ⟨w.heap.size + 1, 4, none⟩ (.slice q7 (done.len + 1) c7) := ⟨_, rfl⟩
        rw [← hV8]
        obtain ⟨hp_8, hK8⟩ := hp_7.put4 hV8
        have hr_8 : PB V8 w.heap.size z0 (.slice none 0 0) := ⟨(hK8.block _ (Nat.lt_of_lt_of_le hr_6.lt hg7.size) (by omega)).trans ((hg7.block _ hr_6.lt (fun e => by have := (HG.out _ e.symm).1; omega)).trans hr_6.blk)⟩
        have hold : ∀ a, a < V6.heap.size → w.heap.size + 2 ≤ a → (Value.slice qv done.len cv).ownBlock ≠ some a → V8.heap[a]? = V6.heap[a]? := fun a h1 h2 h3 => (hK8.block a (Nat.lt_of_lt_of_le h1 hg7.size) (by omega)).trans (hg7.block a h1 (fun e => h3 e.symm))
        have hO8 : V8.ownsRow 0 63 5 (.slice q7 (done.len + 1) c7) (done.len + 1) (ld ++ pcl y (.slice qu ky.len cu)) := ownP_agree hO7 (fun g hg hl => hK8.block g hl (fun e => by
          rcases hat7 g hg with h | h
          · have := (HG.out g h).1; omega
          · omega))
        have hT8 : RT V8 (done.app (.cons y ky .nil)) (ld ++ pcl y (.slice qu ky.len cu)) (fun a => Sd a ∨ (W4.heap.size ≤ a ∧ a < w5.heap.size)) := by
          refine RT.join (Sa := Sd) (Sb := fun a => W4.heap.size ≤ a ∧ a < w5.heap.size) (HT6.out.agree (fun a ha hl => hold a hl (HS.out a ha).1 (fun e => (HG.out a e).2 ha))) (RT.one hyw (HU6.out.agree (fun a ha hl => hold a hl (by omega) (fun e => by have := HGL.out a e; omega)))) (fun a ha => ⟨.inl ha, fun e => by have := (HS.out a ha).2; omega⟩) (fun a ha => .inr ha)
        have hb8 : Below w.heap.size w V8 := by
          refine hb6.trans ?_
          have h1 : Below w.heap.size V6 w7 := ⟨hg7.os, hg7.tape, hg7.output, hg7.size, fun a ha => hg7.block a (by omega) (fun e => by have := (HG.out a e.symm).1; omega)⟩
          exact h1.trans (hK8.below (by have := hg7.size; omega) (fun a e => by omega))
        have hs8 : V6.heap.size ≤ V8.heap.size := Nat.le_trans hg7.size hK8.size
        go_roundw
        case rel =>
          refine ⟨done.app (.cons y ky .nil), r, q5, m5, c5, q7, c7, ld ++ pcl y (.slice qu ky.len cu), (fun a => Sd a ∨ (W4.heap.size ≤ a ∧ a < w5.heap.size)), HDn, by rw [HAL.out]; go_num, rfl, HM5, HN5, hle5, hcm5, by rw [HAL.out]; exact hp_8, hr_8, by rw [HAL.out]; exact hO8, hT8, ?_, ?_, hb8, by omega⟩
          · intro a ha
            rcases ha with ha | ha
            · have := HS.out a ha; omega
            · omega
          · intro g hg
            rw [HAL.out] at hg
            rcases hat7 g hg with h | h
            · have h1 := HG.out g h
              have h2 := HGL.out g h
              exact ⟨h1.1, fun e => e.elim h1.2 (by omega)⟩
            · exact ⟨by omega, fun e => e.elim (fun e => by have := (HS.out g e).2; omega) (by omega)⟩
        case measure => have := HKf.out; simp [intOf]; omega
theorem first_any : ∀ (N : Nat) (x : Nd) (k : Fo), k.flat.length < N → FirstOk x k
  | 0, x, k, h => by omega
  | N + 1, x, k, h => first_step x k (fun y ky hy => first_any N y ky (by omega))
end Go.Proofs.YtnilaghbbhmkgaaGreatDoor
namespace Go.Proofs.YtnilaghbbhmkgaaGreatDoor
open Go.RowKit
set_option linter.unusedVariables false

theorem OL.none0 {w : World} {base : Nat} {q : Option Addr} {n c : Nat} {vs : List (List Nd)} (h : OL w base (.slice q n c) vs) : q = none → c = 0 := by
  obtain ⟨xs, hr, _⟩ := h
  rcases hr.2 with ⟨e, _⟩ | ⟨g, cap, cur, e, _⟩
  · cases e; intro _; rfl
  · cases e; intro h; cases h

set_option maxRecDepth 100000 in
set_option maxHeartbeats 2000000 in
theorem parts_full (f : Nat) (x : Nd) (r : List Nd) (ss : List (List Nd)) (hss : Segs f r ss) (b off c : Nat) (w : World) (hv : NL w (some ⟨b, off, none⟩) (x :: r)) (hc : (x :: r).length ≤ c) (hcm : c ≤ maxLen) (h : vfault (x :: r) = 0) (h56 : x.op = 5 ∨ x.op = 6) :
    Calls Tryz.prog 185 #[.slice (some ⟨b, off, none⟩) (x :: r).length c] w fun e w' => (∃ q c', e = .returned (.tuple #[.slice q ss.length c', .nilIface]) ∧ LL w' q (ss.map strip) ∧ ss.length ≤ c' ∧ c' ≤ maxLen ∧ (q = none → c' = 0)) ∧ Below w.heap.size w w' := by
  have H1 := vcheck_any (x :: r) _ c w hv hc hcm
  rw [eV_nil h] at H1
  obtain ⟨hl200, _⟩ := isVal_past h
  obtain ⟨b', o', hpe, hbw, x0, _⟩ := hv.head
  obtain ⟨rfl, rfl⟩ : b = b' ∧ off = o' := by simpa using hpe
  have hsl := hss.length
  have hne := hss.ne
  have hsh := hss.short
  have hit := fun w' (hb : Below w.heap.size w w') => items_fn f x r ss hss b off c w' (hv.up hb) (Nat.lt_of_lt_of_le hbw hb.size) hl200 hc hcm
  have HM : Hid (c ≤ maxLen) := hcm
  unfold maxLen at hcm
  have i0 : (0 : Int) < ((x :: r).length : Int) := by simp
  have HNE : Hid (∀ s ∈ ss, s ≠ []) := hne
  have HSH : Hid (∀ s ∈ ss, s.length ≤ r.length) := hsh
  clear h hpe hss hne hsh
  simp only [List.length_cons] at *
  have htest : (x.op != 5) = false ∨ ((x.op != 5) = true ∧ (x.op != 6) = false) := by
    rcases h56 with e | e <;> simp [e]
  clear h56
  go_enter Tryz.func185, Tryz.ntmps185
  go_wp2_with fail
  refine H1.mono ?_
  rintro e w1 ⟨rfl, hb1⟩
  have z0 := (hb1.cell (p := ⟨b, off, none⟩) hbw).trans x0
  have hit1 := hit w1 hb1
  clear x0 hit H1
  rcases htest with e5 | ⟨e5, e6⟩
  all_goals
    go_wp2_with fail
    refine hit1.mono ?_
    rintro e w2 ⟨⟨lv, rfl, hol⟩, hb2'⟩
    have hb2 := hb1.trans (hb2'.mono hb1.size)
    obtain ⟨lq, lc, rfl, hll, hlc, hlm⟩ := hol.lists
    clear hit1 hol hb2'
    go_wp2
    go_loopw [5, 29] (fun pv i wr => ∃ (k : Nat), k ≤ ss.length ∧ i = .int .i64 k ∧ OL wr w2.heap.size pv ((ss.take k).map strip) ∧ Below w2.heap.size w2 wr) (fun _ i _ => ss.length - (intOf i).toNat)
    case atStart => exact ⟨0, Nat.zero_le _, rfl, OL.nil _ _, Below.refl _ _⟩
    case round =>
      obtain ⟨k, hk, rfl, hol, hbr⟩ := hrel
      by_cases hlt : k < ss.length
      · obtain ⟨gb, go, q, c', rfl, hgb, hcell, hnl, h1, h2⟩ := (hll.up hbr).at hlt
        have hmem : ss[k] ∈ ss := List.getElem_mem _
        have hsn := HNE.out _ hmem
        have hss2 := HSH.out _ hmem
        have i1 : (k : Int) < (ss.length : Int) := by omega
        have HT : Hid ((ss.take (k + 1)).map strip = (ss.take k).map strip ++ [strip ss[k]]) := by
          show _ = _
          rw [List.take_succ_eq_append_getElem hlt, List.map_append]; rfl
        generalize ss[k] = s at *
        cases s with
        | nil => exact absurd rfl hsn
        | cons y t =>
          obtain ⟨yb, yo, rfl, hyb, y0, y1, y2, y3, yw⟩ := hnl.head
          have j0 : (0 : Int) < (t.length : Int) + 1 := by omega
          have j1 : (1 : Int) ≤ (t.length : Int) + 1 := by omega
          clear hmem hsn
          have h2' : c' ≤ 9223372036854775807 := h2
          simp only [List.length_cons] at *
          have hol2 := hol
          have HO : Hid (OL wr w2.heap.size u5 ((ss.take k).map strip)) := hol2
          clear hol hol2
          have hdl : ((ss.take k).map strip).length ≤ 200 := by simp; omega
          cases e7 : (y.op == 7)
          · have hclone := cloneNodes_fn (y :: t) yb yo c' wr hnl (by simp; omega)
            simp only [List.length_cons] at hclone
            rw [show strip (y :: t) = y :: t by unfold strip; simp only []; rw [if_neg (by simpa using e7)]] at HT
            go_wp2_with fail
            refine hclone.mono ?_
            rintro e w3 ⟨⟨q3, c3, rfl, hnt, hl3, hm3⟩, hb3⟩
            have hb4 := hbr.trans (hb3.mono hbr.size)
            have hol3 := HO.out.below hb3 hbr.size
            clear hclone HO
            go_wp2_with (at_builtin; refine append_list w3 rfl (.tmp 40) (.tmp 43) rfl w2.heap.size u5 ((ss.take k).map strip) rfl hol3 (y :: t) q3 c3 hnt.any hl3 hm3 rfl (by omega) hb4.size ?_; intro v' w4 hol4 hk4)
            go_roundw
            case rel => exact ⟨k + 1, by omega, by go_num, by rw [HT.out]; exact hol4, hb4.trans hk4.bel⟩
            case measure => simp [intOf]; omega
          · obtain ⟨pr, hpr, hnr⟩ : ∃ pr, (if c' = 1 then some (⟨yb, yo, none⟩ : Addr) else some ⟨yb, yo + 4, none⟩) = some ⟨yb, pr, none⟩ ∧ NL wr (some ⟨yb, pr, none⟩) t := by
              by_cases h : c' = 1
              · exact ⟨yo, if_pos h, .inl (List.eq_nil_of_length_eq_zero (by omega))⟩
              · exact ⟨yo + 4, if_neg h, hnl.tail⟩
            have hclone := cloneNodes_fn t yb pr (c' - 1) wr hnr (by omega)
            rw [show strip (y :: t) = t by unfold strip; simp only []; rw [if_pos (by simpa using e7)]] at HT
            go_wp2_with fail
            refine hclone.mono ?_
            rintro e w3 ⟨⟨q3, c3, rfl, hnt, hl3, hm3⟩, hb3⟩
            have hb4 := hbr.trans (hb3.mono hbr.size)
            have hol3 := HO.out.below hb3 hbr.size
            clear hclone HO
            go_wp2_with (at_builtin; refine append_list w3 rfl (.tmp 40) (.tmp 43) rfl w2.heap.size u5 ((ss.take k).map strip) rfl hol3 t q3 c3 hnt.any hl3 hm3 rfl (by omega) hb4.size ?_; intro v' w4 hol4 hk4)
            go_roundw
            case rel => exact ⟨k + 1, by omega, by go_num, by rw [HT.out]; exact hol4, hb4.trans hk4.bel⟩
            case measure => simp [intOf]; omega
      · have HE : Hid ((ss.take k).map strip = ss.map strip) := by show _ = _; rw [List.take_of_length_le (by omega)]
        have i1 : ¬ (k : Int) < (ss.length : Int) := by omega
        obtain ⟨pq, pc, rfl, hpl, hpc, hpm⟩ := hol.lists
        have hpn := hol.none0
        rw [HE.out] at hpl hpc ⊢
        go_wp2
        go_ret2
        exact ⟨⟨pq, pc, by simp, hpl, by simpa using hpc, hpm, hpn⟩, hb2.trans (hbr.mono hb2.size)⟩
theorem parts_ok (f : Nat) (x : Nd) (r : List Nd) (ss : List (List Nd)) (hss : Segs f r ss) (b off c : Nat) (w : World) (hv : NL w (some ⟨b, off, none⟩) (x :: r)) (hc : (x :: r).length ≤ c) (hcm : c ≤ maxLen) (h : vfault (x :: r) = 0) (h56 : x.op = 5 ∨ x.op = 6) :
    Calls Tryz.prog 185 #[.slice (some ⟨b, off, none⟩) (x :: r).length c] w fun e w' => (∃ q c', e = .returned (.tuple #[.slice q ss.length c', .nilIface]) ∧ LL w' q (ss.map strip) ∧ ss.length ≤ c' ∧ c' ≤ maxLen) ∧ Below w.heap.size w w' :=
  (parts_full f x r ss hss b off c w hv hc hcm h h56).mono fun e w' ⟨⟨q, c', h1, h2, h3, h4, _⟩, h5⟩ => ⟨⟨q, c', h1, h2, h3, h4⟩, h5⟩
end Go.Proofs.YtnilaghbbhmkgaaGreatDoor
namespace Go.Proofs.YtnilaghbbhmkgaaGreatDoor
open Go.RowKit
set_option linter.unusedVariables false

theorem boxs {w w' : World} {x : Nd} {T : TypeId} (hb : Below (w.alloc (.cells #[.int .i64 x.op, .int .i64 x.n, .string x.s, .string x.t] T)).heap.size (w.alloc (.cells #[.int .i64 x.op, .int .i64 x.n, .string x.s, .string x.t] T)) w') : w'.cell? ⟨w.heap.size, 2, none⟩ = some (.string x.s) :=
  (hb.cell (p := ⟨w.heap.size, 2, none⟩) (by simp)).trans (by simp [go_sem])

set_option maxRecDepth 100000 in
set_option maxHeartbeats 1000000 in
theorem partsOf_named (x : Nd) (w : World) (hx : x.wf) (h : x.op = 8 ∨ 21 ≤ x.op ∧ x.op ≤ 24) :
    Calls Tryz.prog 58 #[x.val] w fun e w' => e = .returned (.tuple #[.int .i64 (exCnt x), .bool (exMay x)]) ∧ Below w.heap.size w w' := by
  have hpp : prt x = if x.op = 8 then 0 else 1 := by
    unfold prt
    rw [if_neg (by omega)]
    by_cases h8 : x.op = 8
    · rw [if_pos (by omega), if_pos h8]
    · rw [if_neg (by omega), if_pos (by omega), if_neg h8]
  have hp : 0 ≤ prt x := by rw [hpp]; split <;> omega
  have HC : Hid (exCnt x = _) := (exCnt_of (by omega) hp).trans hpp
  have HM : Hid (exMay x = _) := exMay_of (by omega) hp
  have HJ := fun w => hasJustS_any x w
  have HV := fun w => isVar_any x.s w hx.1
  have HN := fun w => tName_any x.s w hx.1
  have HT := fun w => tText_any x.s w hx.1
  have HB : Hid (∀ w', _ → _) := fun w' => boxs (w := w) (w' := w') (x := x) (T := 41)
  clear hpp hp
  generalize justS x = j at *
  generalize varOk x.s.data.toList = v1 at *
  generalize (nfault x.s.data.toList == 0) = v2 at *
  generalize textOk x.s.data.toList = v3 at *
  generalize exMay x = m at *
  have HL : Hid (∀ o w', Below (w.alloc o).heap.size (w.alloc o) w' → Below w.heap.size w w') := fun o w' h => ((Below.refl _ _).alloc (Nat.le_refl _) _).trans (h.mono (by simp))
  obtain ⟨op, n, s, t⟩ := x
  unfold Nd.val at *
  simp only at HB HV HN HT HM
  have hop : op = 8 ∨ op = 21 ∨ op = 22 ∨ op = 23 ∨ op = 24 := by simp only at h; omega
  clear h
  cases j
  · rcases hop with rfl | rfl | rfl | rfl | rfl
    all_goals
      have HM2 : Hid (m = false) := HM.out
      clear HM
      go_enter Tryz.func58, Tryz.ntmps58
      go_wp2_with fail
      refine (HJ _).mono ?_
      rintro e w1 ⟨rfl, hb⟩
      go_wp2
      go_ret2
      exact ⟨ret_two (by rw [HC.out]; rfl) HM2.out.symm, HL.out _ _ hb⟩
  · rcases hop with rfl | rfl | rfl | rfl | rfl
    · have HM2 : Hid (m = v1) := HM.out
      clear HM
      go_enter Tryz.func58, Tryz.ntmps58
      go_wp2_with fail
      refine (HJ _).mono ?_
      rintro e w1 ⟨rfl, hb⟩
      have hc := HB.out _ hb
      go_wp2_with fail
      refine (HV _).mono ?_
      rintro e w2 ⟨rfl, rfl⟩
      go_wp2
      go_ret2
      exact ⟨ret_two (by rw [HC.out]; rfl) HM2.out.symm, HL.out _ _ hb⟩
    · have HM2 : Hid (m = v2) := HM.out
      clear HM
      go_enter Tryz.func58, Tryz.ntmps58
      go_wp2_with fail
      refine (HJ _).mono ?_
      rintro e w1 ⟨rfl, hb⟩
      have hc := HB.out _ hb
      go_wp2_with fail
      refine (HN _).mono ?_
      rintro e w2 ⟨rfl, rfl⟩
      go_wp2
      go_ret2
      exact ⟨ret_two (by rw [HC.out]; rfl) HM2.out.symm, HL.out _ _ hb⟩
    · have HM2 : Hid (m = v2) := HM.out
      clear HM
      go_enter Tryz.func58, Tryz.ntmps58
      go_wp2_with fail
      refine (HJ _).mono ?_
      rintro e w1 ⟨rfl, hb⟩
      have hc := HB.out _ hb
      go_wp2_with fail
      refine (HN _).mono ?_
      rintro e w2 ⟨rfl, rfl⟩
      go_wp2
      go_ret2
      exact ⟨ret_two (by rw [HC.out]; rfl) HM2.out.symm, HL.out _ _ hb⟩
    · have HM2 : Hid (m = v3) := HM.out
      clear HM
      go_enter Tryz.func58, Tryz.ntmps58
      go_wp2_with fail
      refine (HJ _).mono ?_
      rintro e w1 ⟨rfl, hb⟩
      have hc := HB.out _ hb
      go_wp2_with fail
      refine (HT _).mono ?_
      rintro e w2 ⟨rfl, hb2⟩
      have hb3 := hb.trans (hb2.mono hb.size)
      go_wp2
      go_ret2
      exact ⟨ret_two (by rw [HC.out]; rfl) HM2.out.symm, HL.out _ _ hb3⟩
    · have HM2 : Hid (m = v2) := HM.out
      clear HM
      go_enter Tryz.func58, Tryz.ntmps58
      go_wp2_with fail
      refine (HJ _).mono ?_
      rintro e w1 ⟨rfl, hb⟩
      have hc := HB.out _ hb
      go_wp2_with fail
      refine (HN _).mono ?_
      rintro e w2 ⟨rfl, rfl⟩
      go_wp2
      go_ret2
      exact ⟨ret_two (by rw [HC.out]; rfl) HM2.out.symm, HL.out _ _ hb⟩

set_option maxRecDepth 100000 in
set_option maxHeartbeats 1000000 in
theorem partsOf_many (x : Nd) (w : World) (hx : x.wf) (h : x.op = 5 ∨ x.op = 6) :
    Calls Tryz.prog 58 #[x.val] w fun e w' => e = .returned (.tuple #[.int .i64 (exCnt x), .bool (exMay x)]) ∧ Below w.heap.size w w' := by
  have HC : Hid (exCnt x = x.n) := if_pos h
  have HM : Hid (exMay x = (x.s.data.toList.isEmpty && x.t.data.toList.isEmpty && decide (0 ≤ x.n))) := by
    show _ = _
    unfold exMay exOk ndOk
    rw [if_pos (by omega), if_neg (by omega), if_neg (by omega), if_neg (by omega), if_neg (by omega), if_pos h]
    have : (x.op == 7) = false := by simp; omega
    rw [this]; rfl
  obtain ⟨op, n, s, t⟩ := x
  simp only at HM
  unfold Nd.val
  have es : ((s.toList == []) = s.data.toList.isEmpty) := by rw [ByteArray.toList_eq]; cases s.data.toList <;> rfl
  have et : ((t.toList == []) = t.data.toList.isEmpty) := by rw [ByteArray.toList_eq]; cases t.data.toList <;> rfl
  have hop : op = 5 ∨ op = 6 := h
  clear h
  have HL : Hid (∀ (o : Obj) (m : Nat), Below w.heap.size w ((w.alloc o).drewN m)) := fun o m => by
    have h := (Below.refl w.heap.size w).alloc (Nat.le_refl _) o
    exact ⟨h.os, h.tape, h.output, h.size, h.block⟩
  cases hse : s.data.toList.isEmpty <;> cases hte : t.data.toList.isEmpty <;> rw [hse, hte] at HM <;> rw [hse] at es <;> rw [hte] at et
  all_goals
    by_cases hn : 0 ≤ n
    · have hn2 : decide (0 ≤ n) = true := by simpa using hn
      rw [hn2] at HM
      rcases hop with rfl | rfl
      all_goals
        go_enter Tryz.func58, Tryz.ntmps58
        go_wp2
        go_quiet (fail)
        go_wp2
        go_ret2
        exact ⟨ret_two HC.out.symm HM.out.symm, HL.out _ _⟩
    · have hn2 : decide (0 ≤ n) = false := by simpa using hn
      rw [hn2] at HM
      rcases hop with rfl | rfl
      all_goals
        go_enter Tryz.func58, Tryz.ntmps58
        go_wp2
        go_quiet (fail)
        go_wp2
        go_ret2
        exact ⟨ret_two HC.out.symm HM.out.symm, HL.out _ _⟩

set_option maxRecDepth 100000 in
set_option maxHeartbeats 1000000 in
theorem partsOf_other (x : Nd) (w : World) (hx : x.wf) (h : x.op = 7 ∨ x.op < 1 ∨ 27 < x.op) :
    Calls Tryz.prog 58 #[x.val] w fun e w' => e = .returned (.tuple #[.int .i64 (exCnt x), .bool (exMay x)]) ∧ Below w.heap.size w w' := by
  have HC : Hid (exCnt x = 0) := by
    show _ = _
    unfold exCnt
    rw [if_neg (by omega)]
    by_cases h7 : x.op = 7
    · rw [if_pos (.inl h7)]
    · have : prt x = -1 := by
        unfold prt
        rw [if_neg (by omega), if_neg (by omega), if_neg (by omega), if_neg (by omega), if_neg (by omega)]
      rw [this, if_pos (.inr (by omega))]
  have HM : Hid (exMay x = false) := by
    show _ = _
    unfold exMay exOk
    by_cases h7 : x.op = 7
    · simp [h7]
    · have : prt x = -1 := by
        unfold prt
        rw [if_neg (by omega), if_neg (by omega), if_neg (by omega), if_neg (by omega), if_neg (by omega)]
      rw [if_neg (by omega), this, if_pos (by omega)]; simp
  obtain ⟨op, n, s, t⟩ := x
  unfold Nd.val
  have HL : Hid (∀ o, Below w.heap.size w (w.alloc o)) := fun o => (Below.refl _ _).alloc (Nat.le_refl _) _
  simp only at h
  have e : ∀ k : Int, 1 ≤ k → k ≤ 27 → k ≠ 7 → (op == k) = false := fun k h1 h2 h3 => by simp; omega
  have e1 := e 1 (by omega) (by omega) (by omega)
  have e2 := e 2 (by omega) (by omega) (by omega)
  have e3 := e 3 (by omega) (by omega) (by omega)
  have e4 := e 4 (by omega) (by omega) (by omega)
  have e5 := e 5 (by omega) (by omega) (by omega)
  have e6 := e 6 (by omega) (by omega) (by omega)
  have e8 := e 8 (by omega) (by omega) (by omega)
  have e9 := e 9 (by omega) (by omega) (by omega)
  have e10 := e 10 (by omega) (by omega) (by omega)
  have e11 := e 11 (by omega) (by omega) (by omega)
  have e12 := e 12 (by omega) (by omega) (by omega)
  have e13 := e 13 (by omega) (by omega) (by omega)
  have e14 := e 14 (by omega) (by omega) (by omega)
  have e15 := e 15 (by omega) (by omega) (by omega)
  have e16 := e 16 (by omega) (by omega) (by omega)
  have e17 := e 17 (by omega) (by omega) (by omega)
  have e18 := e 18 (by omega) (by omega) (by omega)
  have e19 := e 19 (by omega) (by omega) (by omega)
  have e20 := e 20 (by omega) (by omega) (by omega)
  have e21 := e 21 (by omega) (by omega) (by omega)
  have e22 := e 22 (by omega) (by omega) (by omega)
  have e23 := e 23 (by omega) (by omega) (by omega)
  have e24 := e 24 (by omega) (by omega) (by omega)
  have e25 := e 25 (by omega) (by omega) (by omega)
  have e26 := e 26 (by omega) (by omega) (by omega)
  have e27 := e 27 (by omega) (by omega) (by omega)
  clear e h
  go_enter Tryz.func58, Tryz.ntmps58
  go_wp2
  go_ret2
  exact ⟨ret_two HC.out.symm HM.out.symm, HL.out _⟩

theorem partsOf_any (x : Nd) (w : World) (hx : x.wf) :
    Calls Tryz.prog 58 #[x.val] w fun e w' => e = .returned (.tuple #[.int .i64 (exCnt x), .bool (exMay x)]) ∧ Below w.heap.size w w' := by
  by_cases h1 : 1 ≤ x.op ∧ x.op ≤ 4
  · exact partsOf_value x w hx h1
  by_cases h2 : x.op = 5 ∨ x.op = 6
  · exact partsOf_many x w hx h2
  by_cases h3 : x.op = 7 ∨ x.op < 1 ∨ 27 < x.op
  · exact partsOf_other x w hx h3
  by_cases h4 : x.op = 8 ∨ 21 ≤ x.op ∧ x.op ≤ 24
  · exact partsOf_named x w hx h4
  exact partsOf_bare x w hx (by omega)
end Go.Proofs.YtnilaghbbhmkgaaGreatDoor
namespace Go.Proofs.YtnilaghbbhmkgaaGreatDoor
open Go.RowKit
set_option linter.unusedVariables false

/-- What is told: the place behind it, and that it is there; or that it is not. -/
def XE (n : Nat) : Option (List Nd) → Value
  | none => .tuple #[.int .i64 0, .bool false]
  | some r => .tuple #[.int .i64 ((n - r.length : Nat) : Int), .bool true]

/-- The contract of pastExpr for what is so short. -/
def XOk (f : Nat) : Prop := ∀ (v : List Nd) (p : Option Addr) (c at_ : Nat) (w : World), at_ ≤ v.length → v.length - at_ < f → NL w p v → v.length ≤ maxLen →
  Calls Tryz.prog 31 #[.slice p v.length c, .int .i64 at_] w fun e w' => e = .returned (XE v.length (pastE f (v.drop at_))) ∧ Below w.heap.size w w'

theorem partsE_none {pv : List Nd → Option (List Nd)} {n k : Nat} (h : k < n) {v : List Nd} (e : pv v = none) : partsE pv (n - k) v = none := by
  rw [show n - k = (n - (k + 1)) + 1 by omega]; simp only [partsE, e]
theorem partsE_some {pv : List Nd → Option (List Nd)} {n k : Nat} (h : k < n) {v rest : List Nd} (e : pv v = some rest) : partsE pv (n - k) v = partsE pv (n - (k + 1)) rest := by
  rw [show n - k = (n - (k + 1)) + 1 by omega]; simp only [partsE, e]
theorem tail_drop {v rest : List Nd} {k : Nat} (ht : IsTail rest (v.drop k)) : v.drop (v.length - rest.length) = rest := by
  obtain ⟨a, ha⟩ := ht
  have hl : v.length - k = a.length + rest.length := by have := congrArg List.length ha; simpa using this
  by_cases h : k ≤ v.length
  · rw [show v.length - rest.length = k + a.length by omega, ← List.drop_drop, ha, List.drop_left]
  · have h1 : rest.length = 0 := by omega
    have h2 := List.eq_nil_of_length_eq_zero h1
    subst h2
    simp

set_option maxHeartbeats 1000000 in
theorem pastParts_any (f : Nat) (ih : XOk f) (v : List Nd) (p : Option Addr) (c at0 : Nat) (cnt : Int) (w : World) (hat0 : at0 ≤ v.length) (hf : v.length - at0 < f) (hv : NL w p v) (hl : v.length ≤ maxLen) (hcn : cnt ≤ 9223372036854775807) :
    Calls Tryz.prog 60 #[.slice p v.length c, .int .i64 at0, .int .i64 cnt] w fun e w' => e = .returned (XE v.length (partsE (pastE f) cnt.toNat (v.drop at0))) ∧ Below w.heap.size w w' := by
  have HM : Hid (v.length ≤ maxLen) := hl
  unfold maxLen at hl
  generalize hR : partsE (pastE f) cnt.toNat (v.drop at0) = R
  have HR : Hid (_ = _) := hR
  clear hR
  have HI : Hid (XOk f) := ih
  clear ih
  go_enter Tryz.func60, Tryz.ntmps60
  go_wp2
  go_loopw [1, 11] (fun sa i wr => ∃ k at_ : Nat, k ≤ cnt.toNat ∧ i = .int .i64 k ∧ sa = .int .i64 at_ ∧ at0 ≤ at_ ∧ at_ ≤ v.length ∧ Hid (partsE (pastE f) (cnt.toNat - k) (v.drop at_) = R) ∧ Below w.heap.size w wr) (fun _ i _ => cnt.toNat - (intOf i).toNat)
  case atStart => exact ⟨0, at0, Nat.zero_le _, rfl, rfl, Nat.le_refl _, hat0, HR, Below.refl _ _⟩
  case round =>
    obtain ⟨k, at_, hk, rfl, rfl, h01, hat, HS, hb⟩ := hrel
    by_cases hlt : (k : Int) < cnt
    · have hkn : k < cnt.toNat := by omega
      have hc := HI.out v p c at_ wr hat (by omega) (hv.up hb) HM.out
      cases hp : pastE f (v.drop at_) with
      | none =>
        rw [hp] at hc
        have HN : Hid (none = R) := by rw [← HS.out, partsE_none hkn hp]; rfl
        clear hp HS HR
        unfold XE at hc
        simp only [] at hc
        go_wp2_with fail
        refine hc.mono ?_
        rintro e w1 ⟨rfl, hb1⟩
        go_wp2
        go_ret2
        exact ⟨by rw [← HN.out]; rfl, hb.trans (hb1.mono hb.size)⟩
      | some rest =>
        rw [hp] at hc
        obtain ⟨hsh, htl⟩ := pastE_shorter hp
        have hsh2 : rest.length < v.length - at_ := by simpa using hsh
        have HN : Hid (partsE (pastE f) (cnt.toNat - (k + 1)) (v.drop (v.length - rest.length)) = R) := by rw [tail_drop htl, ← HS.out, partsE_some hkn hp]; rfl
        clear hp HS HR hsh htl
        unfold XE at hc
        simp only [] at hc
        generalize hen : v.length - rest.length = en at *
        have hen1 : at_ < en := by omega
        have hen2 : en ≤ v.length := by omega
        clear hen hsh2
        go_wp2_with fail
        refine hc.mono ?_
        rintro e w1 ⟨rfl, hb1⟩
        go_wp2
        go_roundw
        case rel => exact ⟨k + 1, en, by omega, by go_num, rfl, by omega, hen2, HN, hb.trans (hb1.mono hb.size)⟩
        case measure => simp [intOf]; omega
    · have HN : Hid (some (v.drop at_) = R) := by
        have := HS.out
        rw [show cnt.toNat - k = 0 by omega] at this
        exact this
      have HE : Hid (v.length - (v.drop at_).length = at_) := by show _ = _; simp; omega
      clear HS HR
      go_wp2
      go_ret2
      exact ⟨by rw [← HN.out]; unfold XE; simp only []; rw [HE.out]; rfl, hb⟩

theorem recLoopE_nil {pv : List Nd → Option (List Nd)} {n k : Nat} (h : k < n) {last : ByteArray} : recLoop pv (n - k) last [] = none := by
  rw [show n - k = (n - (k + 1)) + 1 by omega]; rfl
theorem recLoopE_bad {pv : List Nd → Option (List Nd)} {n k : Nat} (h : k < n) {last : ByteArray} {x : Nd} {r : List Nd} (e : ¬ (x.op = 7 ∧ ndOk x = true ∧ cmpB last x.s < 0)) : recLoop pv (n - k) last (x :: r) = none := by
  rw [show n - k = (n - (k + 1)) + 1 by omega]; simp only [recLoop, if_neg e]
theorem recLoopE_go {pv : List Nd → Option (List Nd)} {n k : Nat} (h : k < n) {last : ByteArray} {x : Nd} {r : List Nd} (e : x.op = 7 ∧ ndOk x = true ∧ cmpB last x.s < 0) :
    recLoop pv (n - k) last (x :: r) = match pv r with | none => none | some rest => recLoop pv (n - (k + 1)) x.s rest := by
  rw [show n - k = (n - (k + 1)) + 1 by omega]; simp only [recLoop, if_pos e]; cases pv r <;> rfl
/-- How '<=' of two texts is told. -/
theorem leq_no {a b : ByteArray} (h : cmpB b a < 0) : Op.bytesLess a.toList b.toList = false ∧ (a.toList == b.toList) = false := by
  rw [bytesLess_cb, ByteArray.toList_eq, ByteArray.toList_eq]
  have h1 := cmpB_is.neg a b
  refine ⟨?_, ?_⟩
  · rw [decide_eq_false_iff_not]
    show ¬ cmpB a b < 0
    omega
  · rw [beq_eq_false_iff_ne]
    intro e
    rw [bytes_inj e, cmpB_is.self] at h
    omega
theorem leq_yes {a b : ByteArray} (h : ¬ cmpB b a < 0) : Op.bytesLess a.toList b.toList = true ∨ (Op.bytesLess a.toList b.toList = false ∧ (a.toList == b.toList) = true) := by
  rw [bytesLess_cb, ByteArray.toList_eq, ByteArray.toList_eq]
  have h1 := cmpB_is.neg a b
  by_cases h0 : cmpB a b < 0
  · exact .inl (decide_eq_true h0)
  · refine .inr ⟨decide_eq_false h0, ?_⟩
    rw [beq_iff_eq]
    have : a = b := (cmpB_is.zero a b).1 (by omega)
    rw [this]
theorem drop_cons' {v : List Nd} {k : Nat} (h : k < v.length) : v.drop k = v[k] :: v.drop (k + 1) := List.drop_eq_getElem_cons h

set_option maxRecDepth 100000 in
set_option maxHeartbeats 2000000 in
theorem pastFields_any (f : Nat) (ih : XOk f) (v : List Nd) (p : Option Addr) (c at0 : Nat) (cnt : Int) (w : World) (hat0 : at0 ≤ v.length) (hf : v.length - at0 < f) (hv : NL w p v) (hl : v.length ≤ maxLen) (hcn : cnt ≤ 9223372036854775807) :
    Calls Tryz.prog 59 #[.slice p v.length c, .int .i64 at0, .int .i64 cnt] w fun e w' => e = .returned (XE v.length (recLoop (pastE f) cnt.toNat ⟨#[]⟩ (v.drop at0))) ∧ Below w.heap.size w w' := by
  have HM : Hid (v.length ≤ maxLen) := hl
  unfold maxLen at hl
  generalize hR : recLoop (pastE f) cnt.toNat ⟨#[]⟩ (v.drop at0) = R
  have HR : Hid (_ = _) := hR
  clear hR
  have HI : Hid (XOk f) := ih
  clear ih
  go_enter Tryz.func59, Tryz.ntmps59
  go_wp2
  go_loopw [1, 8, 12] (fun sa sl i wr => ∃ (k at_ : Nat) (last : ByteArray), k ≤ cnt.toNat ∧ i = .int .i64 k ∧ sa = .int .i64 at_ ∧ sl = .string last ∧ at0 ≤ at_ ∧ at_ ≤ v.length ∧ Hid (recLoop (pastE f) (cnt.toNat - k) last (v.drop at_) = R) ∧ Below w.heap.size w wr) (fun _ _ i _ => cnt.toNat - (intOf i).toNat)
  case atStart => exact ⟨0, at0, ⟨#[]⟩, Nat.zero_le _, rfl, rfl, rfl, Nat.le_refl _, hat0, HR, Below.refl _ _⟩
  case round =>
    obtain ⟨k, at_, last, hk, rfl, rfl, rfl, h01, hat, HS, hb⟩ := hrel
    have hvr := hv.up hb
    by_cases hlt : (k : Int) < cnt
    · have hkn : k < cnt.toNat := by omega
      by_cases halt : at_ < v.length
      · have hdr := drop_cons' halt
        obtain ⟨b, off, rfl, hbw, x0, x1, x2, x3, xw⟩ := hvr.at halt
        rw [hdr] at HS
        clear hdr
        generalize v[at_] = x at *
        have i1 : (at_ : Int) < (v.length : Int) := by omega
        have HF := fun w => isField_any x w xw
        have i2 : ¬ v.length ≤ at_ := by omega
        cases hfd : (x.op == 7 && ndOk x)
        · rw [hfd] at HF
          have HN : Hid (none = R) := by
            rw [← HS.out, recLoopE_bad hkn (fun h => by simp [h.1, h.2.1] at hfd)]; rfl
          clear HS HR hfd
          go_wp2_with fail
          refine (HF _).mono ?_
          rintro e w1 ⟨rfl, hb1⟩
          go_wp2
          go_ret2
          exact ⟨by rw [← HN.out]; rfl, hb.trans (hb1.mono hb.size)⟩
        · rw [hfd] at HF
          have hfd2 : x.op = 7 ∧ ndOk x = true := by simpa using hfd
          by_cases hlt0 : ¬ cmpB last x.s < 0
          · have HN : Hid (none = R) := by
              rw [← HS.out, recLoopE_bad hkn (fun h => hlt0 h.2.2)]; rfl
            have hbl := leq_yes hlt0
            clear HS HR hfd hfd2 hlt0
            rcases hbl with hbl | ⟨hbl, hbl2⟩
            all_goals
              go_wp2_with fail
              refine (HF _).mono ?_
              rintro e w1 ⟨rfl, hb1⟩
              have z2 := (hb1.cell (p := ⟨b, off + at_ * 4 + 2, none⟩) hbw).trans x2
              clear x0 x1 x2 x3
              go_wp2
              go_ret2
              exact ⟨by rw [← HN.out]; rfl, hb.trans (hb1.mono hb.size)⟩
          · have hlt0 := Decidable.not_not.1 hlt0
            have HN := (recLoopE_go (pv := pastE f) (r := v.drop (at_ + 1)) hkn ⟨hfd2.1, hfd2.2, hlt0⟩).symm.trans HS.out
            obtain ⟨hbl, hbl2⟩ := leq_no hlt0
            have hcall := fun w1 (hb1 : Below wr.heap.size wr w1) => HI.out v (some ⟨b, off, none⟩) c (at_ + 1) w1 (by omega) (by omega) (hvr.up hb1) HM.out
            rw [show ((at_ + 1 : Nat) : Int) = (at_ : Int) + 1 by omega] at hcall
            clear HS HR hfd hfd2 hlt0
            cases hp : pastE f (v.drop (at_ + 1)) with
            | none =>
              rw [hp] at hcall HN
              have HN2 : Hid (none = R) := HN
              unfold XE at hcall
              simp only [] at hcall
              clear HN hp
              go_wp2_with fail
              refine (HF _).mono ?_
              rintro e w1 ⟨rfl, hb1⟩
              have z2 := (hb1.cell (p := ⟨b, off + at_ * 4 + 2, none⟩) hbw).trans x2
              have hc1 := hcall _ hb1
              clear x0 x1 x2 x3 hcall
              go_wp2_with fail
              refine hc1.mono ?_
              rintro e w2 ⟨rfl, hb2⟩
              have hb3 := hb1.trans (hb2.mono hb1.size)
              go_wp2
              go_ret2
              exact ⟨by rw [← HN2.out]; rfl, hb.trans (hb3.mono hb.size)⟩
            | some rest =>
              rw [hp] at hcall HN
              obtain ⟨hsh, htl⟩ := pastE_shorter hp
              have hsh2 : rest.length < v.length - (at_ + 1) := by simpa using hsh
              have HN2 : Hid (recLoop (pastE f) (cnt.toNat - (k + 1)) x.s (v.drop (v.length - rest.length)) = R) := by rw [tail_drop htl]; exact HN
              unfold XE at hcall
              simp only [] at hcall
              generalize hen : v.length - rest.length = en at *
              have hen1 : at_ < en := by omega
              have hen2 : en ≤ v.length := by omega
              clear HN hp hsh htl hen hsh2
              go_wp2_with fail
              refine (HF _).mono ?_
              rintro e w1 ⟨rfl, hb1⟩
              have z2 := (hb1.cell (p := ⟨b, off + at_ * 4 + 2, none⟩) hbw).trans x2
              have hc1 := hcall _ hb1
              clear x0 x1 x2 x3 hcall
              go_wp2_with fail
              refine hc1.mono ?_
              rintro e w2 ⟨rfl, hb2⟩
              have z3 := (hb2.cell (p := ⟨b, off + at_ * 4 + 2, none⟩) (Nat.lt_of_lt_of_le hbw hb1.size)).trans z2
              have hb3 := hb1.trans (hb2.mono hb1.size)
              clear z2
              go_wp2
              go_roundw
              case rel => exact ⟨k + 1, en, x.s, by omega, by go_num, rfl, rfl, by omega, hen2, HN2, hb.trans (hb3.mono hb.size)⟩
              case measure => simp [intOf]; omega
      · have i1 : ¬ (at_ : Int) < (v.length : Int) := by omega
        have i2 : (v.length : Int) ≤ (at_ : Int) := by omega
        have HN : Hid (none = R) := by
          have := HS.out
          rw [List.drop_of_length_le (by omega), recLoopE_nil hkn] at this
          exact this
        clear HS HR
        go_wp2
        go_ret2
        exact ⟨by rw [← HN.out]; rfl, hb⟩
    · have HN : Hid (some (v.drop at_) = R) := by
        have := HS.out
        rw [show cnt.toNat - k = 0 by omega] at this
        exact this
      have HE : Hid (v.length - (v.drop at_).length = at_) := by show _ = _; simp; omega
      clear HS HR
      go_wp2
      go_ret2
      exact ⟨by rw [← HN.out]; unfold XE; simp only []; rw [HE.out]; rfl, hb⟩

set_option maxRecDepth 100000 in
set_option maxHeartbeats 1000000 in
theorem pastExpr_step (f : Nat) (ih : XOk f) : XOk (f + 1) := by
  intro v p c at_ w hat hf hv hl
  have HM : Hid (v.length ≤ maxLen) := hl
  unfold maxLen at hl
  by_cases halt : at_ < v.length
  · have hdr := drop_cons' halt
    obtain ⟨b, off, rfl, hbw, x0, x1, x2, x3, xw⟩ := hv.at halt
    rw [hdr]
    clear hdr
    generalize v[at_] = x at *
    have i1 : (at_ : Int) < (v.length : Int) := by omega
    have HP := fun w => partsOf_any x w xw
    cases hm : exMay x
    · rw [hm] at HP
      have HN : Hid (pastE (f + 1) (x :: v.drop (at_ + 1)) = none) := pastE_bad (fun h => by rw [(exMay_iff x).2 h] at hm; cases hm)
      clear hm
      go_enter Tryz.func31, Tryz.ntmps31
      go_wp2_with fail
      refine (HP _).mono ?_
      rintro e w1 ⟨rfl, hb⟩
      go_wp2
      go_ret2
      exact ⟨by rw [HN.out]; rfl, hb⟩
    · rw [hm, exCnt_may hm] at HP
      obtain ⟨h7, hx⟩ := (exMay_iff x).1 hm
      by_cases h6 : x.op = 6
      · have e6 : (x.op == 6) = true := by simpa using h6
        have HN : Hid (pastE (f + 1) (x :: v.drop (at_ + 1)) = _) := pastE_rec h7 hx h6
        have hpn : prt x = x.n := by unfold prt; rw [if_pos (.inr h6)]
        have hc := fun w1 (hb1 : Below w.heap.size w w1) => pastFields_any f ih v (some ⟨b, off, none⟩) c (at_ + 1) (prt x) w1 (by omega) (by omega) (hv.up hb1) HM.out (by rw [hpn]; exact xw.2.2)
        rw [hpn, ← HN.out, show ((at_ + 1 : Nat) : Int) = (at_ : Int) + 1 by omega] at hc
        rw [hpn] at HP
        clear hm h7 hx h6 HN hpn
        generalize pastE (f + 1) (x :: v.drop (at_ + 1)) = R at *
        go_enter Tryz.func31, Tryz.ntmps31
        go_wp2_with fail
        refine (HP _).mono ?_
        rintro e w1 ⟨rfl, hb1⟩
        have z0 := (hb1.cell (p := ⟨b, off + at_ * 4, none⟩) hbw).trans x0
        have hc1 := hc _ hb1
        clear x0 x1 x2 x3 hc
        cases R with
        | none =>
          unfold XE at hc1
          simp only [] at hc1
          go_wp2_with fail
          refine hc1.mono ?_
          rintro e w2 ⟨rfl, hb2⟩
          go_wp2
          go_ret2
          exact ⟨rfl, hb1.trans (hb2.mono hb1.size)⟩
        | some r =>
          unfold XE at hc1
          simp only [] at hc1
          generalize hen : v.length - r.length = en at *
          have HEN : Hid (_ = _) := hen
          clear hen
          go_wp2_with fail
          refine hc1.mono ?_
          rintro e w2 ⟨rfl, hb2⟩
          go_wp2
          go_ret2
          exact ⟨by unfold XE; simp only []; rw [HEN.out]; rfl, hb1.trans (hb2.mono hb1.size)⟩
      · have e6 : (x.op == 6) = false := by simpa using h6
        have HN : Hid (pastE (f + 1) (x :: v.drop (at_ + 1)) = _) := pastE_parts h7 hx h6
        have hc := fun w1 (hb1 : Below w.heap.size w w1) => pastParts_any f ih v (some ⟨b, off, none⟩) c (at_ + 1) (prt x) w1 (by omega) (by omega) (hv.up hb1) HM.out (by have := xw.2.2; unfold prt; repeat' split <;> omega)
        rw [← HN.out, show ((at_ + 1 : Nat) : Int) = (at_ : Int) + 1 by omega] at hc
        clear hm h7 hx h6 HN
        generalize pastE (f + 1) (x :: v.drop (at_ + 1)) = R at *
        generalize prt x = cn at *
        go_enter Tryz.func31, Tryz.ntmps31
        go_wp2_with fail
        refine (HP _).mono ?_
        rintro e w1 ⟨rfl, hb1⟩
        have z0 := (hb1.cell (p := ⟨b, off + at_ * 4, none⟩) hbw).trans x0
        have hc1 := hc _ hb1
        clear x0 x1 x2 x3 hc
        cases R with
        | none =>
          unfold XE at hc1
          simp only [] at hc1
          go_wp2_with fail
          refine hc1.mono ?_
          rintro e w2 ⟨rfl, hb2⟩
          go_wp2
          go_ret2
          exact ⟨rfl, hb1.trans (hb2.mono hb1.size)⟩
        | some r =>
          unfold XE at hc1
          simp only [] at hc1
          generalize hen : v.length - r.length = en at *
          have HEN : Hid (_ = _) := hen
          clear hen
          go_wp2_with fail
          refine hc1.mono ?_
          rintro e w2 ⟨rfl, hb2⟩
          go_wp2
          go_ret2
          exact ⟨by unfold XE; simp only []; rw [HEN.out]; rfl, hb1.trans (hb2.mono hb1.size)⟩
  · have i1 : (v.length : Int) ≤ (at_ : Int) := by omega
    have HN : Hid (pastE (f + 1) (v.drop at_) = none) := by show _ = _; rw [List.drop_of_length_le (by omega)]; rfl
    go_enter Tryz.func31, Tryz.ntmps31
    go_wp2
    go_ret2
    exact ⟨by rw [HN.out]; rfl, Below.refl _ _⟩
theorem pastExpr_any : ∀ f, XOk f
  | 0 => fun v p c at_ w _ h => absurd h (by omega)
  | f + 1 => pastExpr_step f (pastExpr_any f)
end Go.Proofs.YtnilaghbbhmkgaaGreatDoor
namespace Go.Proofs.YtnilaghbbhmkgaaGreatDoor
open Go.RowKit
set_option linter.unusedVariables false

theorem tcheck_any (v : List Nd) (p : Option Addr) (c : Nat) (w : World) (hv : NL w p v) (hl : v.length ≤ maxLen) :
    Calls Tryz.prog 14 #[.slice p v.length c] w fun e w' => e = .returned (eV (xfault v)) ∧ Below w.heap.size w w' := by
  by_cases h : 200 < v.length
  · have HF : Hid (_ = _) := xfault_long h
    have h' : (200 : Int) < (v.length : Int) := by omega
    go_enter Tryz.func14, Tryz.ntmps14
    go_wp2
    go_ret
    exact ⟨by rw [HF.out]; rfl, Below.refl _ _⟩
  · have h' : ¬ (200 : Int) < (v.length : Int) := by omega
    have hc := pastExpr_any (v.length + 1) v p c 0 w (Nat.zero_le _) (by omega) hv hl
    rw [List.drop_zero] at hc
    cases hp : pastE (v.length + 1) v with
    | none =>
      rw [hp] at hc
      have HF : Hid (_ = _) := xfault_bad h (by unfold isEx; rw [hp])
      unfold XE at hc
      simp only [] at hc
      clear hp h
      go_enter Tryz.func14, Tryz.ntmps14
      go_wp2_with fail
      refine hc.mono ?_
      rintro e w1 ⟨rfl, hb⟩
      go_wp2
      go_ret
      exact ⟨by rw [HF.out]; rfl, hb⟩
    | some r =>
      rw [hp] at hc
      have hsh := (pastE_shorter hp).1
      unfold XE at hc
      simp only [] at hc
      cases r with
      | nil =>
        have HF : Hid (_ = _) := xfault_ok h ((isEx_iff v).2 hp)
        rw [List.length_nil, Nat.sub_zero] at hc
        clear hp h hsh
        go_enter Tryz.func14, Tryz.ntmps14
        go_wp2_with fail
        refine hc.mono ?_
        rintro e w1 ⟨rfl, hb⟩
        go_wp2
        go_ret
        exact ⟨by rw [HF.out]; rfl, hb⟩
      | cons y r =>
        have HF : Hid (_ = _) := xfault_bad h (by unfold isEx; rw [hp]; rfl)
        generalize hen : v.length - (y :: r).length = en at *
        have hne : ((en : Int) != (v.length : Int)) = true := by
          rw [List.length_cons] at hen hsh
          simp; omega
        clear hp h hsh hen
        go_enter Tryz.func14, Tryz.ntmps14
        go_wp2_with fail
        refine hc.mono ?_
        rintro e w1 ⟨rfl, hb⟩
        go_wp2
        go_ret
        exact ⟨by rw [HF.out]; rfl, hb⟩
end Go.Proofs.YtnilaghbbhmkgaaGreatDoor
