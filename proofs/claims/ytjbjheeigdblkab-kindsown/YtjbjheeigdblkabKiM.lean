/- Parts of types and of values in memory: rows of parts, each with the row of its own; in which blocks they lie. -/
import Derived.Test.YtjbjheeigdblkabKiA
import Derived.Test.YtjbjheeigdblkabKeepG
namespace Go.Proofs.Ytjbjheeigdblkab
open Go.RowKit
set_option linter.unusedVariables false
set_option maxRecDepth 100000

theorem Try.infoPartK : (Try.prog.info? 37).map (fun i => (i.zero, i.size, i.bytes)) = some (some (.agg #[.int .i64 0, .int .i64 0, .string ⟨#[]⟩, .string ⟨#[]⟩, .slice none 0 0]), 5, 72) := by kernel_rfl
/-- A row of parts by its cells; what lies below it lies in blocks of S. -/
def RK (w : World) : Tp → List Value → (Nat → Prop) → Prop
  | .nil, l, S => l = []
  | .cons x k r, l, S => ∃ (v : Value) (l' lk : List Value), l = pcl x v ++ l' ∧ x.wf ∧ w.ownsRow 0 37 5 v k.len lk ∧ (∀ g, v.ownBlock = some g → S g) ∧ RK w k lk S ∧ RK w r l' S
/-- The value that leads to a row of parts. -/
def VK (w : World) (k : Tp) (v : Value) (S : Nat → Prop) : Prop :=
  ∃ lk : List Value, w.ownsRow 0 37 5 v k.len lk ∧ (∀ g, v.ownBlock = some g → S g) ∧ RK w k lk S
theorem RK.cons_iff {w : World} {x : Nd} {k r : Tp} {l : List Value} {S : Nat → Prop} : RK w (.cons x k r) l S ↔ ∃ (v : Value) (l' : List Value), l = pcl x v ++ l' ∧ x.wf ∧ VK w k v S ∧ RK w r l' S := by
  constructor
  · rintro ⟨v, l', lk, h1, h2, h3, h4, h5, h6⟩
    exact ⟨v, l', h1, h2, ⟨lk, h3, h4, h5⟩, h6⟩
  · rintro ⟨v, l', h1, h2, ⟨lk, h3, h4, h5⟩, h6⟩
    exact ⟨v, l', lk, h1, h2, h3, h4, h5, h6⟩
theorem RK.agree {w w' : World} : ∀ {t : Tp} {l : List Value} {S : Nat → Prop}, RK w t l S → (∀ a, S a → a < w.heap.size → w'.heap[a]? = w.heap[a]?) → RK w' t l S
  | .nil, l, S, h, _ => h
  | .cons x k r, l, S, h, hw => by
    obtain ⟨v, l', lk, h1, h2, h3, h4, h5, h6⟩ := h
    exact ⟨v, l', lk, h1, h2, ownP_agree h3 (fun g hg => hw g (h4 g hg)), h4, h5.agree hw, h6.agree hw⟩
theorem VK.agree {w w' : World} {k : Tp} {v : Value} {S : Nat → Prop} (h : VK w k v S) (hw : ∀ a, S a → a < w.heap.size → w'.heap[a]? = w.heap[a]?) : VK w' k v S := by
  obtain ⟨lk, h1, h2, h3⟩ := h
  exact ⟨lk, ownP_agree h1 (fun g hg => hw g (h2 g hg)), h2, h3.agree hw⟩
theorem VK.up {w w' : World} {k : Tp} {v : Value} {S : Nat → Prop} (h : VK w k v S) (hb : Below w.heap.size w w') : VK w' k v S := h.agree (fun a _ ha => hb.block a ha)
theorem RK.up {w w' : World} {k : Tp} {v : List Value} {S : Nat → Prop} (h : RK w k v S) (hb : Below w.heap.size w w') : RK w' k v S := h.agree (fun a _ ha => hb.block a ha)
theorem VK.bel {w w' : World} {k : Tp} {v : Value} {S : Nat → Prop} {N : Nat} (h : VK w k v S) (hb : Below N w w') (hS : ∀ a, S a → a < N) : VK w' k v S := h.agree (fun a ha _ => hb.block a (hS a ha))
theorem RK.sub {w : World} : ∀ {t : Tp} {l : List Value} {S S2 : Nat → Prop}, RK w t l S → (∀ a, S a → S2 a) → RK w t l S2
  | .nil, l, S, S2, h, _ => h
  | .cons x k r, l, S, S2, h, hs => by
    obtain ⟨v, l', lk, h1, h2, h3, h4, h5, h6⟩ := h
    exact ⟨v, l', lk, h1, h2, h3, fun g hg => hs g (h4 g hg), h5.sub hs, h6.sub hs⟩
theorem VK.sub {w : World} {k : Tp} {v : Value} {S S2 : Nat → Prop} (h : VK w k v S) (hs : ∀ a, S a → S2 a) : VK w k v S2 := by
  obtain ⟨lk, h1, h2, h3⟩ := h
  exact ⟨lk, h1, fun g hg => hs g (h2 g hg), h3.sub hs⟩
theorem VK.nil (w : World) (S : Nat → Prop) : VK w .nil (.slice none 0 0) S := ⟨[], ⟨rfl, .inl ⟨rfl, rfl⟩⟩, fun g hg => by simp [Value.ownBlock] at hg, rfl⟩
theorem VK.slice {w : World} {k : Tp} {v : Value} {S : Nat → Prop} (h : VK w k v S) : ∃ q c, v = .slice q k.len c ∧ k.len ≤ c ∧ c ≤ maxLen := by
  obtain ⟨lk, h1, _⟩ := h
  rcases h1.2 with ⟨rfl, h0⟩ | ⟨g, cap, cur, rfl, _, _, h2, h3, _⟩
  · exact ⟨none, 0, by rw [h0], by omega, Nat.zero_le _⟩
  · exact ⟨_, cap, rfl, h2, h3⟩
theorem VK.one {w : World} {k : Tp} {v : Value} {S : Nat → Prop} (h : VK w k v S) : v.oneCell' = true := by
  obtain ⟨q, c, rfl, _⟩ := h.slice
  rfl
theorem RK.real {w : World} : ∀ {t : Tp} {l : List Value} {S : Nat → Prop}, RK w t l S → RK w t l (fun a => S a ∧ a < w.heap.size)
  | .nil, l, S, h => h
  | .cons x k r, l, S, h => by
    obtain ⟨v, l', lk, h1, h2, h3, h4, h5, h6⟩ := h
    exact ⟨v, l', lk, h1, h2, h3, fun g hg => ⟨h4 g hg, (ownP_lt h3 hg).1⟩, h5.real, h6.real⟩
/-- Only the blocks that are there. -/
theorem VK.real {w : World} {k : Tp} {v : Value} {S : Nat → Prop} (h : VK w k v S) : VK w k v (fun a => S a ∧ a < w.heap.size) := by
  obtain ⟨lk, h1, h2, h3⟩ := h
  exact ⟨lk, h1, fun g hg => ⟨h2 g hg, (ownP_lt h1 hg).1⟩, h3.real⟩
theorem RK.len {w : World} : ∀ {t : Tp} {l : List Value} {S : Nat → Prop}, RK w t l S → l.length = t.len * 5
  | .nil, l, S, h => by rw [show l = [] from h]; simp [Tp.len]
  | .cons x k r, l, S, h => by
    obtain ⟨v, l', rfl, _, _, h5⟩ := RK.cons_iff.1 h
    simp [pcl, Tp.len, h5.len]
    omega
theorem RK.split {w : World} : ∀ {a b : Tp} {l : List Value} {S : Nat → Prop}, RK w (a.app b) l S → ∃ la lb, l = la ++ lb ∧ RK w a la S ∧ RK w b lb S
  | .nil, b, l, S, h => ⟨[], l, rfl, rfl, h⟩
  | .cons x k r, b, l, S, h => by
    obtain ⟨v, l', rfl, h2, h3, h4⟩ := RK.cons_iff.1 h
    obtain ⟨la, lb, rfl, h7, h8⟩ := RK.split h4
    exact ⟨pcl x v ++ la, lb, by simp, RK.cons_iff.2 ⟨v, la, rfl, h2, h3, h7⟩, h8⟩
theorem RK.join {w : World} : ∀ {a b : Tp} {la lb : List Value} {S : Nat → Prop}, RK w a la S → RK w b lb S → RK w (a.app b) (la ++ lb) S
  | .nil, b, la, lb, S, ha, hb => by rw [show la = [] from ha]; exact hb
  | .cons x k r, b, la, lb, S, ha, hb => by
    obtain ⟨v, l', rfl, g2, g3, g4⟩ := RK.cons_iff.1 ha
    exact RK.cons_iff.2 ⟨v, l' ++ lb, by simp, g2, g3, RK.join g4 hb⟩
theorem RK.one {w : World} {x : Nd} {k : Tp} {v : Value} {S : Nat → Prop} (hx : x.wf) (h : VK w k v S) : RK w (.cons x k .nil) (pcl x v) S := RK.cons_iff.2 ⟨v, [], by simp, hx, h, rfl⟩
/-- The part at a place of a row. -/
theorem VK.at {w : World} {a r k : Tp} {x : Nd} {v : Value} {S : Nat → Prop} (h : VK w (a.app (.cons x k r)) v S) : ∃ g cap u, v = .slice (some ⟨g, 0, none⟩) (a.len + (r.len + 1)) cap ∧ PC w g (a.len * 5) x u ∧ x.wf ∧ VK w k u S ∧ S g := by
  obtain ⟨lk, h1, h2, h3⟩ := h
  obtain ⟨la, lb, rfl, h5, h6⟩ := RK.split h3
  obtain ⟨u, l', rfl, g2, g3, g4⟩ := RK.cons_iff.1 h6
  have hla := h5.len
  have hc : ∀ j, j < 5 → (la ++ (pcl x u ++ l'))[a.len * 5 + j]? = (pcl x u)[j]? := fun j hj => by
    rw [List.getElem?_append_right (by omega), List.getElem?_append_left (by simp [pcl]; omega)]
    congr 1; omega
  obtain ⟨g, cap, rfl, hg, c0, _⟩ := ownP_cell h1 (hc 0 (by omega))
  obtain ⟨_, _, e1, _, c1, _⟩ := ownP_cell h1 (hc 1 (by omega))
  cases e1
  obtain ⟨_, _, e1, _, c2, _⟩ := ownP_cell h1 (hc 2 (by omega))
  cases e1
  obtain ⟨_, _, e1, _, c3, _⟩ := ownP_cell h1 (hc 3 (by omega))
  cases e1
  obtain ⟨_, _, e1, _, c4, _⟩ := ownP_cell h1 (hc 4 (by omega))
  cases e1
  exact ⟨g, cap, u, by rw [tp_app_len]; rfl, ⟨hg, c0, c1, c2, c3, c4⟩, g2, g3, h2 g rfl⟩
/-- A part in a block of its own. -/
structure PBk (w : World) (B : Nat) (x : Nd) (v : Value) : Prop where
  blk : w.heap[B]? = some (.cells #[.int .i64 x.op, .int .i64 x.n, .string x.s, .string x.t, v] 37 (0, 0))
theorem PBk.lt {w : World} {B : Nat} {x : Nd} {v : Value} (h : PBk w B x v) : B < w.heap.size := (Array.getElem?_eq_some_iff.1 h.blk).1
theorem PBk.up {w w' : World} {B : Nat} {x : Nd} {v : Value} (h : PBk w B x v) (hb : Below w.heap.size w w') : PBk w' B x v := ⟨(hb.block B h.lt).trans h.blk⟩
theorem PBk.bel {N : Nat} {w w' : World} {B : Nat} {x : Nd} {v : Value} (h : PBk w B x v) (hb : Below N w w') (hl : B < N) : PBk w' B x v := ⟨(hb.block B hl).trans h.blk⟩
theorem PBk.keep {S : Nat → Prop} {w w' : World} {B : Nat} {x : Nd} {v : Value} (h : PBk w B x v) (hb : Keep S w w') (hl : ¬ S B) : PBk w' B x v := ⟨(hb.block B h.lt hl).trans h.blk⟩
theorem PBk.kept {w w' : World} {B base : Nat} {x : Nd} {v : Value} (h : PBk w B x v) (hb : Kept base 33 w w') : PBk w' B x v := ⟨(hb.typed B 37 (by decide) ⟨_, _, h.blk⟩).trans h.blk⟩
theorem PBk.new (w : World) (x : Nd) (v : Value) {N : Nat} (h : N = w.heap.size) : PBk (w.alloc (.cells #[.int .i64 x.op, .int .i64 x.n, .string x.s, .string x.t, v] 37)) N x v := ⟨fnew_at h⟩
theorem PBk.cells {w : World} {B : Nat} {x : Nd} {v : Value} (h : PBk w B x v) : w.cell? ⟨B, 0, none⟩ = some (.int .i64 x.op) ∧ w.cell? ⟨B, 1, none⟩ = some (.int .i64 x.n) ∧ w.cell? ⟨B, 2, none⟩ = some (.string x.s) ∧ w.cell? ⟨B, 3, none⟩ = some (.string x.t) ∧ w.cell? ⟨B, 4, none⟩ = some v := by
  have := h.blk
  simp [World.cell?, this]
theorem PBk.free {w : World} {B : Nat} {x : Nd} {v : Value} (h : PBk w B x v) (j : Nat) : w.frozen? ⟨B, j, none⟩ = false := by
  have := h.blk
  simp [World.frozen?, this]
def zN : Nd := ⟨0, 0, ⟨#[]⟩, ⟨#[]⟩⟩
theorem PBk.put {w w' : World} {B : Nat} {x y : Nd} {u v : Value} (h : PBk w B y v) (hw : w' = ((((w.setCell ⟨B, 0, none⟩ (.int .i64 x.op)).setCell ⟨B, 1, none⟩ (.int .i64 x.n)).setCell ⟨B, 2, none⟩ (.string x.s)).setCell ⟨B, 3, none⟩ (.string x.t)).setCell ⟨B, 4, none⟩ u) : PBk w' B x u ∧ Keep (fun a => a = B) w w' := by
  have e1 := heap_setCell_same w B 0 _ _ (.int .i64 x.op) h.blk
  have e2 := heap_setCell_same _ B 1 _ _ (.int .i64 x.n) e1
  have e3 := heap_setCell_same _ B 2 _ _ (.string x.s) e2
  have e4 := heap_setCell_same _ B 3 _ _ (.string x.t) e3
  have e5 := heap_setCell_same _ B 4 _ _ u e4
  subst hw
  have q : ∀ (W : World) (o : Nat) (z : Value), Keep (fun a => a = B) W (W.setCell ⟨B, o, none⟩ z) := fun W o z => keep_set W B o z
  have t : ∀ {a b c : World}, Keep (fun a => a = B) a b → Keep (fun a => a = B) b c → Keep (fun a => a = B) a c := fun h k => h.trans k (fun _ e => .inl e)
  exact ⟨⟨e5⟩, t (t (t (t (q _ _ _) (q _ _ _)) (q _ _ _)) (q _ _ _)) (q _ _ _)⟩
theorem PBk.put4 {w w' : World} {B : Nat} {x : Nd} {u v : Value} (h : PBk w B x v) (hw : w' = w.setCell ⟨B, 4, none⟩ u) : PBk w' B x u ∧ Keep (fun a => a = B) w w' := by
  have e5 := heap_setCell_same _ B 4 _ _ u h.blk
  subst hw
  exact ⟨⟨e5⟩, keep_set w B 4 u⟩
/-- One more behind a row. -/
theorem append_partK (w : World) {ops : Array Oper} {rest : List Oper} {o : Oper} {a : Act} {Q : Exit → Act → World → Prop} (hgd : o.guard = none) (s x : Operand)
    (ho : o.op = .call { callee := .builtin .append, args := #[s, x], argTypes := #[35, 35] })
    (v : Value) (n : Nat) (l : List Value) (hs : a.eval s = v) (hown : w.ownsRow 0 37 5 v n l) (y : Nd) (u : Value) (hu : u.oneCell' = true)
    (hx : a.eval x = .slice (some ⟨w.heap.size, 0, none⟩) 1 1) (hlen : n + 1 ≤ 1000000)
    (h : ∀ v' w', w'.ownsRow 0 37 5 v' (n + 1) (l ++ pcl y u) → w.grownBy w' v.ownBlock → (∀ g, v'.ownBlock = some g → v.ownBlock = some g ∨ w.heap.size ≤ g) → wpList Try.prog ops Q rest (a.put o.dst v') w') :
    wpList Try.prog ops Q (o :: rest) a (w.alloc (.cells #[.int .i64 y.op, .int .i64 y.n, .string y.s, .string y.t, u] 37)) := by
  obtain ⟨i0, hi, hz0, hz1, hz2⟩ := info_parts Try.infoPartK
  have hb : Below w.heap.size w (w.alloc (.cells #[.int .i64 y.op, .int .i64 y.n, .string y.s, .string y.t, u] 37)) := (Below.refl _ _).alloc (Nat.le_refl _) _
  have hown2 := ownP_agree (w' := w.alloc (.cells #[.int .i64 y.op, .int .i64 y.n, .string y.s, .string y.t, u] 37)) hown (fun g _ hg => hb.block g hg)
  refine wpList_append_own_at _ hgd s x 35 ho 0 37 i0 _ 5 72 Try.underlying35 hi hz0 hz1 hz2 rfl (by decide) v n l hs hown2 ⟨w.heap.size, 0, none⟩ 1 1 (pcl y u) hx rfl ?_ ?_ (by unfold maxLen; omega) (by omega) (Nat.zero_le _) ?_
  · intro j z hj
    match j, hj with
    | 0, hj => simp [pcl] at hj; subst hj; simp [Addr.add]
    | 1, hj => simp [pcl] at hj; subst hj; simp [Addr.add]
    | 2, hj => simp [pcl] at hj; subst hj; simp [Addr.add]
    | 3, hj => simp [pcl] at hj; subst hj; simp [Addr.add]
    | 4, hj => simp [pcl] at hj; subst hj; simp [Addr.add]
  · intro z hz
    simp only [pcl, List.mem_cons, List.not_mem_nil, or_false] at hz
    rcases hz with rfl | rfl | rfl | rfl | rfl
    · rfl
    · rfl
    · rfl
    · rfl
    · exact hu
  · intro v' w' h1 h2 _ h4
    have hs2 : (w.alloc (.cells #[.int .i64 y.op, .int .i64 y.n, .string y.s, .string y.t, u] 37)).heap.size = w.heap.size + 1 := by simp
    refine h v' w' h1 ⟨h2.os.trans hb.os, h2.tape.trans hb.tape, h2.output.trans hb.output, Nat.le_trans hb.size h2.size, fun k hk hne => (h2.block k (by omega) hne).trans (hb.block k hk)⟩ (fun g hg => ?_)
    rcases h4 with h4 | h4
    · exact .inl (by rw [← h4]; exact hg)
    · rw [h4] at hg
      injection hg with hg
      exact .inr (by omega)
theorem NL.oneK (W : World) (g : Nat) (x : Nd) (hx : x.wf) (hg : W.heap.size = g) : NL (W.alloc (.cells #[.int .i64 x.op, .int .i64 x.n, .string x.s, .string x.t] 33)) (some ⟨g, 0, none⟩) [x] := by
  subst hg
  refine .inr ⟨W.heap.size, 0, rfl, by simp, fun i y hy => ?_⟩
  rcases i with _ | i
  · simp at hy
    subst hy
    simp [go_sem, hx]
  · simp at hy
end Go.Proofs.Ytjbjheeigdblkab
