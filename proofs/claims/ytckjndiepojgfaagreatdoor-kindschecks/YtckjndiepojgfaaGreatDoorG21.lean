/- A block of cells; an append at an operation: for whatever type. -/
import Derived.Test.YtckjndiepojgfaaGreatDoorG16
import Derived.Maps.AppendAt
import Derived.Laws.AppendOwnNone
namespace Go.Proofs.YtckjndiepojgfaaGreatDoor
open Go.RowKit
set_option linter.unusedVariables false

/-- A block holds these cells. -/
structure Blk (w : World) (B : Nat) (cs : Array Value) (T : TypeId) : Prop where
  blk : w.heap[B]? = some (.cells cs T)
theorem Blk.lt {w : World} {B : Nat} {cs : Array Value} {T : TypeId} (h : Blk w B cs T) : B < w.heap.size := (Array.getElem?_eq_some_iff.1 h.blk).1
theorem Blk.low {N : Nat} {w w' : World} {B : Nat} {cs : Array Value} {T : TypeId} (h : Blk w B cs T) (k : Below N w w') (hB : B < N) : Blk w' B cs T := ⟨(k.block B hB).trans h.blk⟩
theorem Blk.up {w w' : World} {B : Nat} {cs : Array Value} {T : TypeId} (h : Blk w B cs T) (k : Below w.heap.size w w') : Blk w' B cs T := h.low k h.lt
theorem Blk.grown {w w' : World} {B : Nat} {cs : Array Value} {T : TypeId} {r : Option Nat} (h : Blk w B cs T) (k : w.grownBy w' r) (hr : r ≠ some B) : Blk w' B cs T := ⟨(k.block B h.lt (fun e => hr e.symm)).trans h.blk⟩
theorem Blk.keep {S : Nat → Prop} {w w' : World} {B : Nat} {cs : Array Value} {T : TypeId} (h : Blk w B cs T) (k : Keep S w w') (hr : ¬ S B) : Blk w' B cs T := ⟨(k.block B h.lt hr).trans h.blk⟩
theorem Blk.cell {w : World} {B : Nat} {cs : Array Value} {T : TypeId} (h : Blk w B cs T) (j : Nat) : w.cell? ⟨B, j, none⟩ = cs[j]? := by simp [World.cell?, h.blk]
theorem Blk.free {w : World} {B : Nat} {cs : Array Value} {T : TypeId} (h : Blk w B cs T) (j : Nat) : w.frozen? ⟨B, j, none⟩ = false := by simp [World.frozen?, h.blk]
theorem Blk.new (w : World) {B : Nat} (cs : Array Value) (T : TypeId) (hB : B = w.heap.size) : Blk (w.alloc (.cells cs T)) B cs T := by subst hB; exact ⟨(MapKept.heap_alloc w _).1⟩
theorem Blk.set {w w' : World} {B j : Nat} {cs : Array Value} {T : TypeId} {z : Value} (h : Blk w B cs T) (hw : w' = w.setCell ⟨B, j, none⟩ z) : Blk w' B (cs.setIfInBounds j z) T ∧ Keep (fun a => a = B) w w' := by
  subst hw
  exact ⟨⟨heap_setCell_same w B j _ _ z h.blk⟩, keep_set w B j z⟩
theorem grown_belowG {N : Nat} {w w' : World} {r : Option Nat} (h : w.grownBy w' r) (hr : ∀ g, r = some g → N ≤ g) (hN : N ≤ w.heap.size) : Below N w w' := ⟨h.os, h.tape, h.output, h.size, fun a ha => h.block a (by omega) (fun e => by have := hr a e.symm; omega)⟩
/-- append at an operation. -/
theorem wp_append_at {P : Program} (w : World) {o : Oper} {a : Act} {K : Act → World → Prop} {Q : Exit → Act → World → Prop} (s x : Operand) (t : TypeId)
    (ho : o.op = .call { callee := .builtin .append, args := #[s, x], argTypes := #[t, t] })
    (base : Nat) (e : TypeId) (i : TypeInfo) (z : Value) (size bytes : Nat) (ht : P.underlying t = some (.slice e)) (hi : P.info? e = some i) (hz : i.zero = some z)
    (hsize : i.size = size) (hby : i.bytes = bytes) (hzs : z.cells.size = size) (hsz : 0 < size)
    (v : Value) (n : Nat) (xs : List Value) (hs : a.eval s = v) (hown : w.ownsRow base e size v n xs)
    (ad : Addr) (m c : Nat) (news : List Value) (hx : a.eval x = .slice (some ad) m c) (hl : news.length = m * size) (hnews : ∀ j u, news[j]? = some u → w.cell? (ad.add j) = some u) (h1 : ∀ u ∈ news, u.oneCell' = true)
    (h63 : n + m ≤ maxLen) (hbytes : (n + m) * bytes ≤ 140737488355328) (hbase : base ≤ w.heap.size)
    (h : ∀ v' w', w'.ownsRow base e size v' (n + m) (xs ++ news) → w.grownBy w' v.ownBlock → (v'.ownBlock = v.ownBlock ∨ v'.ownBlock = some w.heap.size) → K (a.put o.dst v') w') : o.wp P a w K Q := by
  obtain ⟨v', w', hr, h2, h3, h4, h5⟩ := run_append_own_at (P := P) w base t o.type e i z size bytes ht hi hz hsize hby hzs hsz v n xs hown ad m c news hl hnews h1 h63 hbytes hbase
  unfold Oper.wp execOp
  simp only [ho, resolve, invoke, builtin, Sem.run_bind, Sem.run_pure, Result.andThen_ok, List.map_toArray, List.map_cons, List.map_nil, hs, hx, hr]
  exact h v' w' h2 h3 h5
/-- append of nothing, at an operation. -/
theorem wp_append_none {P : Program} (w : World) {o : Oper} {a : Act} {K : Act → World → Prop} {Q : Exit → Act → World → Prop} (s x : Operand) (t : TypeId)
    (ho : o.op = .call { callee := .builtin .append, args := #[s, x], argTypes := #[t, t] })
    (base : Nat) (e : TypeId) (i : TypeInfo) (size : Nat) (ht : P.underlying t = some (.slice e)) (hi : P.info? e = some i)
    (v : Value) (n : Nat) (xs : List Value) (hs : a.eval s = v) (hown : w.ownsRow base e size v n xs) (hx : a.eval x = .slice none 0 0)
    (h : K (a.put o.dst v) w) : o.wp P a w K Q := by
  have hrun := run_append_owned_none (P := P) (w := w) base t o.type e i size ht hi v n xs hown
  unfold Oper.wp
  simp [execOp, ho, resolve, invoke, builtin, hs, hx, hrun, Result.andThen]
  exact h
end Go.Proofs.YtckjndiepojgfaaGreatDoor
