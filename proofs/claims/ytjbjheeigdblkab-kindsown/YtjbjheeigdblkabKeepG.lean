/- What is kept but for some blocks; rows of the call's own by their cells; parts of five cells. -/
import Derived.Test.YtjbjheeigdblkabNodeRow
import Derived.Maps.AppendAt
namespace Go.Proofs.Ytjbjheeigdblkab
open Go.RowKit
set_option linter.unusedVariables false
set_option maxRecDepth 100000

def pcl (x : Nd) (v : Value) : List Value := [.int .i64 x.op, .int .i64 x.n, .string x.s, .string x.t, v]
def partV (x : Nd) (v : Value) : Value := .agg #[.int .i64 x.op, .int .i64 x.n, .string x.s, .string x.t, v]
/-- All is kept but what lies in S. -/
structure Keep (S : Nat → Prop) (w w' : World) : Prop where
  os : w'.os = w.os
  tape : w'.tape = w.tape
  output : w'.output = w.output
  size : w.heap.size ≤ w'.heap.size
  block : ∀ a, a < w.heap.size → ¬ S a → w'.heap[a]? = w.heap[a]?
theorem Keep.of_below {S : Nat → Prop} {w w' : World} (h : Below w.heap.size w w') : Keep S w w' := ⟨h.os, h.tape, h.output, h.size, fun a ha _ => h.block a ha⟩
theorem Keep.below {S : Nat → Prop} {w w' : World} (h : Keep S w w') {N : Nat} (hN : N ≤ w.heap.size) (hS : ∀ a, S a → N ≤ a) : Below N w w' := ⟨h.os, h.tape, h.output, h.size, fun a ha => h.block a (by omega) (fun e => by have := hS a e; omega)⟩
theorem Keep.refl (S : Nat → Prop) (w : World) : Keep S w w := ⟨rfl, rfl, rfl, Nat.le_refl _, fun _ _ _ => rfl⟩
theorem Keep.trans {S S2 : Nat → Prop} {w w1 w2 : World} (h : Keep S w w1) (k : Keep S2 w1 w2) (hs : ∀ a, S2 a → S a ∨ w.heap.size ≤ a) : Keep S w w2 :=
  ⟨k.os.trans h.os, k.tape.trans h.tape, k.output.trans h.output, Nat.le_trans h.size k.size, fun a ha hn => (k.block a (Nat.lt_of_lt_of_le ha h.size) (fun e => (hs a e).elim hn (by omega))).trans (h.block a ha hn)⟩
theorem Keep.mono {S S2 : Nat → Prop} {w w1 : World} (h : Keep S w w1) (hs : ∀ a, S a → S2 a) : Keep S2 w w1 := ⟨h.os, h.tape, h.output, h.size, fun a ha hn => h.block a ha (fun e => hn (hs a e))⟩
theorem Keep.cell {S : Nat → Prop} {w w' : World} (h : Keep S w w') {p : Addr} (hl : p.block < w.heap.size) (hn : ¬ S p.block) : w'.cell? p = w.cell? p := World.cell?_of_block (h.block _ hl hn)

theorem ownP_lt {w : World} {base : Nat} {T : TypeId} {m : Nat} {v : Value} {n : Nat} {l : List Value} (h : w.ownsRow base T m v n l) {g : Nat} (hg : v.ownBlock = some g) : g < w.heap.size ∧ base ≤ g := by
  rcases h.2 with ⟨rfl, _⟩ | ⟨g', cap, cur, rfl, hb, hh, _⟩
  · simp [Value.ownBlock] at hg
  · simp only [Value.ownBlock, Option.some.injEq] at hg
    subst hg
    exact ⟨(Array.getElem?_eq_some_iff.1 hh).1, hb⟩
theorem ownP_agree {w w' : World} {base : Nat} {T : TypeId} {m : Nat} {v : Value} {n : Nat} {l : List Value} (h : w.ownsRow base T m v n l) (hw : ∀ g, v.ownBlock = some g → g < w.heap.size → w'.heap[g]? = w.heap[g]?) : w'.ownsRow base T m v n l := by
  refine ⟨h.1, ?_⟩
  rcases h.2 with h2 | ⟨g, cap, cur, rfl, hb, hh, r⟩
  · exact .inl h2
  · exact .inr ⟨g, cap, cur, rfl, hb, (hw g rfl (Array.getElem?_eq_some_iff.1 hh).1).trans hh, r⟩
/-- The cells of a row. -/
theorem ownP_cell {w : World} {base : Nat} {T : TypeId} {m : Nat} {v : Value} {n : Nat} {l : List Value} (h : w.ownsRow base T m v n l) {j : Nat} {u : Value} (hj : l[j]? = some u) : ∃ g cap, v = .slice (some ⟨g, 0, none⟩) n cap ∧ g < w.heap.size ∧ w.cell? ⟨g, j, none⟩ = some u ∧ w.frozen? ⟨g, j, none⟩ = false := by
  rcases h.2 with ⟨rfl, h0⟩ | ⟨g, cap, cur, rfl, hb, hh, _⟩
  · have := h.1
    rw [h0, Nat.zero_mul] at this
    rw [List.eq_nil_of_length_eq_zero this] at hj
    simp at hj
  · have := h.cells (g := g) rfl j u hj
    rw [show (⟨g, 0, none⟩ : Addr).add j = ⟨g, j, none⟩ by unfold Addr.add; split <;> simp_all] at this
    exact ⟨g, cap, rfl, (Array.getElem?_eq_some_iff.1 hh).1, this, by simp [World.frozen?, hh]⟩
/-- A part's cells, at its place. -/
structure PC (w : World) (g o : Nat) (x : Nd) (u : Value) : Prop where
  lt : g < w.heap.size
  cells : w.cell? ⟨g, o, none⟩ = some (.int .i64 x.op) ∧ w.cell? ⟨g, o + 1, none⟩ = some (.int .i64 x.n) ∧ w.cell? ⟨g, o + 2, none⟩ = some (.string x.s) ∧ w.cell? ⟨g, o + 3, none⟩ = some (.string x.t) ∧ w.cell? ⟨g, o + 4, none⟩ = some u
theorem PC.bel {N : Nat} {w w' : World} {g o : Nat} {x : Nd} {u : Value} (h : PC w g o x u) (k : Below N w w') (hl : g < N) : PC w' g o x u := by
  obtain ⟨h0, h1, h2, h3, h4⟩ := h.cells
  exact ⟨Nat.lt_of_lt_of_le h.lt k.size, (k.cell (p := ⟨g, o, none⟩) hl).trans h0, (k.cell (p := ⟨g, o + 1, none⟩) hl).trans h1, (k.cell (p := ⟨g, o + 2, none⟩) hl).trans h2, (k.cell (p := ⟨g, o + 3, none⟩) hl).trans h3, (k.cell (p := ⟨g, o + 4, none⟩) hl).trans h4⟩
theorem PC.up {w w' : World} {g o : Nat} {x : Nd} {u : Value} (h : PC w g o x u) (k : Below w.heap.size w w') : PC w' g o x u := h.bel k h.lt
theorem PC.keep {S : Nat → Prop} {w w' : World} {g o : Nat} {x : Nd} {u : Value} (h : PC w g o x u) (k : Keep S w w') (hn : ¬ S g) : PC w' g o x u := by
  obtain ⟨h0, h1, h2, h3, h4⟩ := h.cells
  exact ⟨Nat.lt_of_lt_of_le h.lt k.size, (k.cell (p := ⟨g, o, none⟩) h.lt hn).trans h0, (k.cell (p := ⟨g, o + 1, none⟩) h.lt hn).trans h1, (k.cell (p := ⟨g, o + 2, none⟩) h.lt hn).trans h2, (k.cell (p := ⟨g, o + 3, none⟩) h.lt hn).trans h3, (k.cell (p := ⟨g, o + 4, none⟩) h.lt hn).trans h4⟩
/-- Five cells of a row are changed. -/
theorem set_five {la lb : List Value} {b0 b1 b2 b3 b4 : Value} (a0 a1 a2 a3 a4 : Value) {p : Nat} (hp : la.length = p) : (((((la ++ ([b0, b1, b2, b3, b4] ++ lb)).set p a0).set (p + 1) a1).set (p + 2) a2).set (p + 3) a3).set (p + 4) a4 = la ++ ([a0, a1, a2, a3, a4] ++ lb) := by
  subst hp
  induction la with
  | nil => rfl
  | cons z la ih =>
    simp only [List.cons_append, List.length_cons, show ∀ j, la.length + 1 + j = la.length + j + 1 from fun j => by omega, List.set_cons_succ]
    exact congrArg (z :: ·) ih
theorem keep_set (w : World) (g o : Nat) (z : Value) : Keep (fun a => a = g) w (w.setCell ⟨g, o, none⟩ z) := by
  have h := (Below.refl 0 w).setCell (p := ⟨g, o, none⟩) (Nat.zero_le _) z
  exact ⟨h.os, h.tape, h.output, h.size, fun a _ hne => heap_setCell_other w ⟨g, o, none⟩ a z hne⟩
theorem own_put {w : World} {base : Nat} {T : TypeId} {v : Value} {n : Nat} {la lb : List Value} {x y : Nd} {u u2 : Value} (h : w.ownsRow base T 5 v n (la ++ (pcl x u ++ lb))) {g p : Nat} (hg : v.ownBlock = some g) (hp : la.length = p) {w' : World}
    (hw : w' = ((((w.setCell ⟨g, p, none⟩ (.int .i64 y.op)).setCell ⟨g, p + 1, none⟩ (.int .i64 y.n)).setCell ⟨g, p + 2, none⟩ (.string y.s)).setCell ⟨g, p + 3, none⟩ (.string y.t)).setCell ⟨g, p + 4, none⟩ u2) :
    w'.ownsRow base T 5 v n (la ++ (pcl y u2 ++ lb)) ∧ Keep (fun a => a = g) w w' := by
  have hn := h.1
  rcases h.2 with ⟨rfl, h0⟩ | ⟨g', cap, cur, rfl, hb, hh, h1, h2, h3, h4⟩
  · simp [Value.ownBlock] at hg
  · simp only [Value.ownBlock, Option.some.injEq] at hg
    subst hg
    have e1 := heap_setCell_same w g' p _ _ (.int .i64 y.op) hh
    have e2 := heap_setCell_same _ g' (p + 1) _ _ (.int .i64 y.n) e1
    have e3 := heap_setCell_same _ g' (p + 2) _ _ (.string y.s) e2
    have e4 := heap_setCell_same _ g' (p + 3) _ _ (.string y.t) e3
    have e5 := heap_setCell_same _ g' (p + 4) _ _ u2 e4
    subst hw
    refine ⟨⟨by rw [← hn]; simp [pcl], .inr ⟨g', cap, _, rfl, hb, e5, h1, h2, by simp [h3], ?_⟩⟩, ?_⟩
    · simp only [Array.toList_setIfInBounds, List.take_set, h4]
      exact set_five _ _ _ _ _ hp
    · have q : ∀ (W : World) (o : Nat) (z : Value), Keep (fun a => a = g') W (W.setCell ⟨g', o, none⟩ z) := fun W o z => keep_set W g' o z
      have t : ∀ {a b c : World}, Keep (fun a => a = g') a b → Keep (fun a => a = g') b c → Keep (fun a => a = g') a c := fun h k => h.trans k (fun _ e => .inl e)
      exact t (t (t (t (q _ _ _) (q _ _ _)) (q _ _ _)) (q _ _ _)) (q _ _ _)
theorem ownP_slice {w : World} {base : Nat} {T : TypeId} {m : Nat} {v : Value} {n : Nat} {l : List Value} (h : w.ownsRow base T m v n l) : ∃ q c, v = .slice q n c := by
  rcases h.2 with ⟨rfl, h0⟩ | ⟨g, cap, cur, rfl, _⟩
  · exact ⟨none, 0, by rw [h0]⟩
  · exact ⟨_, _, rfl⟩
theorem fnew_at {w : World} {o : Array Value} {T : TypeId} {N : Nat} (h : N = w.heap.size) : (w.alloc (.cells o T)).heap[N]? = some (.cells o T (0, 0)) := by subst h; exact heap_alloc_new _ _
theorem ON.any {w : World} {base : Nat} {v : Value} {L : List Nd} (h : ON w base v L) : ∃ q c, v = .slice q L.length c := by
  rcases h.1.2 with ⟨rfl, h0⟩ | ⟨g, cap, cur, rfl, _⟩
  · exact ⟨none, 0, by rw [h0]⟩
  · exact ⟨_, _, rfl⟩
theorem kqt {a b c : World} (h : Below a.heap.size a b) (k : Below b.heap.size b c) : Below a.heap.size a c := h.trans (k.mono h.size)
theorem kqA {a b : World} (h : Below a.heap.size a b) {o : Obj} : Below a.heap.size a (b.alloc o) := kqt h ((Below.refl _ _).alloc (Nat.le_refl _) o)
theorem kqD {a b : World} (h : Below a.heap.size a b) : Below a.heap.size a b.drew := ⟨h.os, h.tape, h.output, h.size, h.block⟩
theorem kqx {a b : World} (h : Below a.heap.size a b := by repeat (first | exact Below.refl _ _ | apply kqA | apply kqD)) : Below a.heap.size a b := h
end Go.Proofs.Ytjbjheeigdblkab
