/- Lists of lists of nodes that are handed in: what they read as, and how many they are by their bulk. -/
import Derived.Test.YthmfgnofhbmogaaDoorNodesArg
import Derived.Test.YthmfgnofhbmogaaDoorLists
namespace Go.Proofs.YthmfgnofhbmogaaDoor
open Go.ChangeShapes Go.WideShapes Go.ChangeAt Go.RowKit Go.Deep
set_option linter.unusedVariables false

theorem bulk_pos {H : Type} (d : DataW H) : 1 ≤ Rows.uptoBulk d := by
  cases d with
  | lit l => cases l <;> simp [Rows.uptoBulk]
  | _ => simp [Rows.uptoBulk]
theorem bulk_all {H : Type} : ∀ (ds : List (DataW H)), ds.length ≤ Rows.uptoBulkAll ds
  | [] => Nat.zero_le _
  | d :: r => by
    have h1 := bulk_pos d
    have h2 := bulk_all r
    simp only [Rows.uptoBulkAll, List.length_cons]; omega

theorem Tryd.cellsList : Tryd.prog.cellsOf 22 = 1 := by kernel_rfl

set_option maxRecDepth 100000 in
theorem open_lists_cells {H : Type} {enc : TypeId × Value → H} {W : World} {base : Nat} {spare : Nat → Bool} {held : Bool} {fuel : Nat} {cs : List Value} {x : DataW H × List MemPlace}
    (h : DataW.trod enc Tryd.prog W base spare held fuel 30 cs = some x) :
    ∃ (v : List (List Nd)) (p : Option Addr) (c : Nat), cs = [.slice p v.length c] ∧ LL W p v ∧ v.length ≤ c ∧ c ≤ maxLen ∧ v.length ≤ Rows.uptoBulk x.1 := by
  rcases open_slice1 Tryd.underlying30 Tryd.cellsList h with ⟨rfl, rfl⟩ | ⟨a, len, cap, m, n, V, D, Pl, rfl, hb, hl, hm, hmm, rfl, hx⟩
  · exact ⟨[], none, 0, rfl, .inl rfl, Nat.le_refl _, Nat.zero_le _, Nat.zero_le _⟩
  · have hlm : len ≤ m := by rw [hmm]; split <;> omega
    obtain ⟨Y, hY⟩ := choose_lt (α := List Nd) (n := len) (p := fun i y => ∃ q c, W.cell? (a.add i) = some (.slice q y.length c) ∧ NL W q y ∧ y.length ≤ c ∧ c ≤ maxLen) (fun i hi => by
      obtain ⟨h1, h2⟩ := hx i (by omega)
      obtain ⟨y, q, c, e, h3, h4, h5⟩ := open_nodes_cells h2
      simp at e
      rw [e] at h1
      exact ⟨y, q, c, h1, h3, h4, h5⟩)
    refine ⟨(List.range len).map Y, some a, cap, by simp, ?_, by simpa using hl, hm, ?_⟩
    · by_cases h0 : len = 0
      · exact .inl (by simp [h0])
      · obtain ⟨b, off, spot⟩ := a
        have hspot : spot = none := by
          obtain ⟨q, c, this, _⟩ := hY 0 (by omega)
          simpa [Addr.add] using World.cell?_spot this
        subst hspot
        have hadd : ∀ j, (⟨b, off, none⟩ : Addr).add j = ⟨b, off + j, none⟩ := fun j => by unfold Addr.add; split <;> simp_all
        have hlt : b < W.heap.size := by
          obtain ⟨q, c, this, _⟩ := hY 0 (by omega)
          rw [hadd] at this
          exact lt_of_cell this
        refine .inr ⟨b, off, rfl, hlt, fun i y hy => ?_⟩
        have hi : i < len := by
          have := (List.getElem?_eq_some_iff.1 hy).1
          simpa using this
        obtain rfl : Y i = y := by simpa [hi] using hy
        obtain ⟨q, c, h1, h2⟩ := hY i hi
        rw [hadd] at h1
        exact ⟨q, c, h1, h2⟩
    · have := bulk_all ((List.range len).map D)
      simp only [List.length_map, List.length_range, Rows.uptoBulk] at this ⊢
      omega

set_option maxRecDepth 100000 in
theorem open_lists {H : Type} {enc : TypeId × Value → H} {W : World} {base b0 : Nat} {spare : Nat → Bool} {held : Bool} {v : Value} {d : DataW H} {p : List MemPlace}
    (hv : Value.okWide Tryd.prog W .any b0 30 v) (h : DataW.Trod enc Tryd.prog W base spare held 30 v d p) :
    ∃ (L : List (List Nd)) (q : Option Addr) (c : Nat), v = .slice q L.length c ∧ LL W q L ∧ L.length ≤ c ∧ c ≤ maxLen ∧ L.length ≤ Rows.uptoBulk d := by
  obtain ⟨a0, len0, cap0, rfl⟩ := okWide_slice Tryd.underlying30 hv
  obtain ⟨fuel, hf⟩ := h
  obtain ⟨L, q, c, h1, h2⟩ := open_lists_cells hf
  simp [Value.cells] at h1
  obtain ⟨rfl, rfl, rfl⟩ := h1
  exact ⟨L, _, _, rfl, h2⟩
end Go.Proofs.YthmfgnofhbmogaaDoor
