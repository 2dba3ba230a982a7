/- slices.CompactFunc at pieces with like.bothWild: the needless stars are gone, by a walk of its own text. -/
import Derived.Test.YtilpgiapjijmmaaDoorPRow
import Derived.Test.YtilpgiapjijmmaaDoorBel
import Derived.Lib.SliceRun
namespace Go.Proofs.YtilpgiapjijmmaaDoor
open Go.RowKit
set_option linter.unusedVariables false

/-- Pieces in a block from its beginning on. -/
def PB (w : World) (g : Nat) (l : List Pc) : Prop :=
  ∃ cur : Array Value, w.heap[g]? = some (.cells cur 48 (0, 0)) ∧ l.length * 2 ≤ cur.size ∧ ∀ i x, l[i]? = some x → cur[i * 2]? = some (.bool x.1) ∧ cur[i * 2 + 1]? = some (.int .u8 (x.2.toNat : Int))
theorem PB.up {w w' : World} {B g : Nat} {l : List Pc} (h : PB w g l) (k : Below B w w') (hg : g < B) : PB w' g l := by
  obtain ⟨cur, h1, h2⟩ := h
  exact ⟨cur, (k.block g hg).trans h1, h2⟩
theorem PB.at {w : World} {g : Nat} {l : List Pc} (h : PB w g l) {i : Nat} {x : Pc} (hx : l[i]? = some x) : w.cell? ⟨g, i * 2, none⟩ = some (.bool x.1) ∧ w.cell? ⟨g, i * 2 + 1, none⟩ = some (.int .u8 (x.2.toNat : Int)) := by
  obtain ⟨cur, h1, _, h3⟩ := h
  have hc : ∀ o, w.cell? ⟨g, o, none⟩ = cur[o]? := fun o => by simp [World.cell?, h1]
  rw [hc, hc]
  exact h3 i x hx
theorem PB.free {w : World} {g : Nat} {l : List Pc} (h : PB w g l) (j : Nat) : w.frozen? ⟨g, j, none⟩ = false := by
  obtain ⟨cur, h1, _⟩ := h
  simp [World.frozen?, h1]
theorem PB.there {w : World} {g : Nat} {l : List Pc} (h : PB w g l) {j : Nat} (hj : j < l.length * 2) : (w.cell? ⟨g, j, none⟩).isSome = true := by
  obtain ⟨cur, h1, h2, _⟩ := h
  have hc : w.cell? ⟨g, j, none⟩ = cur[j]? := by simp [World.cell?, h1]
  rw [hc, Array.getElem?_eq_getElem (by omega)]; rfl
theorem PB.lt {w : World} {g : Nat} {l : List Pc} (h : PB w g l) : g < w.heap.size := by
  obtain ⟨cur, h1, _⟩ := h
  exact (Array.getElem?_eq_some_iff.1 h1).1
theorem heap_set3 {w : World} {g j : Nat} {cur : Array Value} {t : TypeId} (hg : w.heap[g]? = some (.cells cur t (0, 0))) (u : Value) : (w.setCell ⟨g, j, none⟩ u).heap[g]? = some (.cells (cur.setIfInBounds j u) t (0, 0)) := by
  simp only [World.setCell, Array.getElem?_modify, hg, if_true, Option.map_some]
  rfl
theorem PB.put {w : World} {g : Nat} {l : List Pc} (h : PB w g l) (k : Nat) (hk : k < l.length) (x : Pc) :
    PB ((w.setCell ⟨g, k * 2, none⟩ (.bool x.1)).setCell ⟨g, k * 2 + 1, none⟩ (.int .u8 (x.2.toNat : Int))) g (l.set k x) := by
  obtain ⟨cur, h1, h2, h3⟩ := h
  refine ⟨_, heap_set3 (heap_set3 h1 _) _, by simpa using h2, fun i y hy => ?_⟩
  by_cases e : i = k
  · subst e
    rw [List.getElem?_set_self hk] at hy
    cases hy
    constructor
    · rw [Array.getElem?_setIfInBounds_ne (by omega), Array.getElem?_setIfInBounds_self_of_lt (by omega)]
    · rw [Array.getElem?_setIfInBounds_self_of_lt (by simp; omega)]
  · rw [List.getElem?_set_ne (by omega)] at hy
    obtain ⟨a, b⟩ := h3 i y hy
    constructor
    · rw [Array.getElem?_setIfInBounds_ne (by omega), Array.getElem?_setIfInBounds_ne (by omega)]; exact a
    · rw [Array.getElem?_setIfInBounds_ne (by omega), Array.getElem?_setIfInBounds_ne (by omega)]; exact b

theorem bothWild_any (x y : Pc) (w : World) : Calls Tryd.prog 23 #[.agg #[.bool x.1, .int .u8 (x.2.toNat : Int)], .agg #[.bool y.1, .int .u8 (y.2.toNat : Int)]] w fun e w' => e = .returned (.bool (x.1 && y.1)) ∧ Below w.heap.size w w' := by
  obtain ⟨x1, x2⟩ := x
  obtain ⟨y1, y2⟩ := y
  cases x1
  · go_enter Tryd.func23, Tryd.ntmps23
    go_wp2
    go_ret
    exact ⟨rfl, ((Below.refl _ _).alloc (Nat.le_refl _) _).alloc (by simp) _⟩
  · go_enter Tryd.func23, Tryd.ntmps23
    go_wp2
    go_ret
    exact ⟨rfl, ((Below.refl _ _).alloc (Nat.le_refl _) _).alloc (by simp) _⟩

def zs (n : Nat) : List Value := (Builtin.zeroCells #[.bool false, .int .u8 0] n).toList
theorem run_clear_pieces (w : World) (ty : TypeId) (b o n c : Nat) (hn : 0 < n) (hc : ∀ j, j < n * 2 → (w.cell? ⟨b, o + j, none⟩).isSome = true) (hf : ∀ j, j < n * 2 → w.frozen? ⟨b, o + j, none⟩ = false) :
    (Builtin.clear_ #[38] ty #[.slice (some ⟨b, o, none⟩) n c]).run Tryd.prog w = .ok (.tuple #[]) (w.setCells b o (zs n)) := by
  have hv : ∀ w, (zeroValue 48).run Tryd.prog w = .ok (.agg #[.bool false, .int .u8 0]) w := fun _ => by kernel_rfl
  have hl : (zs n).length = n * 2 := by simp [zs, Builtin.zeroCells]
  have h1 : ∀ v ∈ zs n, v.oneCell' = true := fun v hv => by
    simp only [zs, Builtin.zeroCells, Array.toList_map, List.mem_map] at hv
    obtain ⟨i, _, rfl⟩ := hv
    have : i % 2 = 0 ∨ i % 2 = 1 := by omega
    rcases this with e | e
    · show ((#[Value.bool false, .int .u8 0] : Array Value)[i % 2]!).oneCell' = true
      rw [e]; rfl
    · show ((#[Value.bool false, .int .u8 0] : Array Value)[i % 2]!).oneCell' = true
      rw [e]; rfl
  have hst := run_storeCells_cells (P := Tryd.prog) b o (zs n) 0 w (by rw [hl]; simpa using hc) (by rw [hl]; simpa using hf) h1
  simp only [Nat.add_zero] at hst
  have hz : (Builtin.zeroCells (Value.agg #[.bool false, .int .u8 0]).cells n).toList = zs n := rfl
  obtain ⟨m, rfl⟩ : ∃ m, n = m + 1 := ⟨n - 1, by omega⟩
  simp [Builtin.clear_, run_underlying Tryd.underlying38, hv, hz, hst]
theorem below_zs (g : Nat) : ∀ (vs : List Value) (o : Nat) (w : World), Below g w (w.setCells g o vs)
  | [], _, w => Below.refl _ _
  | v :: r, o, w => ((Below.refl g w).setCell (p := ⟨g, o, none⟩) (Nat.le_refl _) v).trans (below_zs g r (o + 1) _)

/-- The row while it is made shorter: kk kept of the first m; from m - 1 on as it was. -/
structure PInv (ps dk : List Pc) (m kk : Nat) : Prop where
  size : dk.length = ps.length
  lt : kk < m
  le : m ≤ ps.length
  low : dk.take kk = pcpn ps m
  high : ∀ i, m - 1 ≤ i → dk[i]? = ps[i]?
theorem getD_at {ps : List Pc} {k : Nat} (h : k < ps.length) : ps.getD k (false, 0) = ps[k] := by simp [List.getD, h]
theorem PInv.skip {ps dk : List Pc} {m kk : Nat} (h : PInv ps dk m kk) (hm : m < ps.length) (h0 : 0 < m) (he : (ps[m].1 && (ps[m - 1]'(by omega)).1) = true) : PInv ps dk (m + 1) kk := by
  refine ⟨h.size, by have := h.lt; omega, by omega, ?_, fun i hi => h.high i (by omega)⟩
  rw [h.low, pcpn, getD_at hm, getD_at (show m - 1 < ps.length by omega), he, decide_eq_true h0]; rfl
theorem PInv.keep {ps dk : List Pc} {m kk : Nat} (h : PInv ps dk m kk) (hm : m < ps.length) (h0 : 0 < m) (he : (ps[m].1 && (ps[m - 1]'(by omega)).1) = false) : PInv ps (dk.set kk ps[m]) (m + 1) (kk + 1) := by
  have hl := h.lt
  have hs := h.size
  refine ⟨by simp [hs], by omega, by omega, ?_, fun i hi => ?_⟩
  · rw [pcpn, getD_at hm, getD_at (show m - 1 < ps.length by omega), he, decide_eq_true h0, ← h.low]
    have e : (dk.set kk ps[m]).take (kk + 1) = (dk.set kk ps[m]).take kk ++ [ps[m]] := by
      rw [List.take_succ_eq_append_getElem (by simp; omega)]; simp
    rw [e, List.take_set_of_le (Nat.le_refl _)]; rfl
  · rw [List.getElem?_set_ne (by omega)]; exact h.high i (by omega)
theorem pcpn_same (ps : List Pc) : ∀ k, k ≤ ps.length → (∀ j, 0 < j → (hj : j < k) → (hl : j < ps.length) → (ps[j].1 && (ps[j - 1]'(by omega)).1) = false) → pcpn ps k = ps.take k
  | 0, _, _ => rfl
  | k + 1, hk, h => by
    have hk' : k < ps.length := by omega
    have ih := pcpn_same ps k (by omega) (fun j h1 h2 h3 => h j h1 (by omega) h3)
    rw [pcpn, ih, List.take_succ_eq_append_getElem hk']
    by_cases h0 : 0 < k
    · rw [getD_at hk', getD_at (show k - 1 < ps.length by omega), h k h0 (by omega) hk', Bool.and_false]; rfl
    · rw [decide_eq_false h0, getD_at hk']; rfl

/-- What CompactFunc hands back. -/
def PRet (ps : List Pc) (g cap : Nat) (e : Ending) (w' : World) : Prop :=
  e = .returned (.slice (some ⟨g, 0, none⟩) (pcp false ps).length cap) ∧ PL w' (some ⟨g, 0, none⟩) (pcp false ps)
theorem PB.row {w : World} {g : Nat} {l : List Pc} (h : PB w g l) (n : Nat) : PL w (some ⟨g, 0, none⟩) (l.take n) := by
  refine .inr ⟨g, 0, rfl, h.lt, fun i x hx => ?_⟩
  rw [Nat.zero_add]
  refine h.at ?_
  rw [List.getElem?_take] at hx
  split at hx
  · exact hx
  · cases hx
end Go.Proofs.YtilpgiapjijmmaaDoor
