/- A list of texts that is handed in: what it reads as, and how many they are by their bulk. -/
import Derived.Test.YthmfgnofhbmogaaDoorListsArg
import Derived.Test.YthmfgnofhbmogaaDoorTexts
namespace Go.Proofs.YthmfgnofhbmogaaDoor
open Go.ChangeShapes Go.WideShapes Go.ChangeAt Go.RowKit Go.Deep
set_option linter.unusedVariables false

instance : Inhabited ByteArray := ⟨⟨#[]⟩⟩
theorem Tryd.cellsText : Tryd.prog.cellsOf 9 = 1 := by kernel_rfl

set_option maxRecDepth 100000 in
theorem open_texts_cells {H : Type} {enc : TypeId × Value → H} {W : World} {base : Nat} {spare : Nat → Bool} {held : Bool} {fuel : Nat} {cs : List Value} {x : DataW H × List MemPlace}
    (h : DataW.trod enc Tryd.prog W base spare held fuel 40 cs = some x) :
    ∃ (v : List ByteArray) (p : Option Addr) (c : Nat), cs = [.slice p v.length c] ∧ TL W p v ∧ (∀ t ∈ v, t.size ≤ maxLen) ∧ v.length ≤ c ∧ c ≤ maxLen ∧ v.length ≤ Rows.uptoBulk x.1 := by
  rcases open_slice1 Tryd.underlying40 Tryd.cellsText h with ⟨rfl, rfl⟩ | ⟨a, len, cap, m, n, V, D, Pl, rfl, hb, hl, hm, hmm, rfl, hx⟩
  · exact ⟨[], none, 0, rfl, .inl rfl, by simp, Nat.le_refl _, Nat.zero_le _, Nat.zero_le _⟩
  · have hlm : len ≤ m := by rw [hmm]; split <;> omega
    obtain ⟨Y, hY⟩ := choose_lt (α := ByteArray) (n := len) (p := fun i y => W.cell? (a.add i) = some (.string y) ∧ y.size ≤ maxLen) (fun i hi => by
      obtain ⟨h1, h2⟩ := hx i (by omega)
      obtain ⟨y, e, _, w0⟩ := DataW.trod_string Tryd.underlying9 h2
      simp at e
      rw [e] at h1
      exact ⟨y, h1, w0⟩)
    refine ⟨(List.range len).map Y, some a, cap, by simp, ?_, fun t ht => ?_, by simpa using hl, hm, ?_⟩
    · by_cases h0 : len = 0
      · exact .inl (by simp [h0])
      · obtain ⟨b, off, spot⟩ := a
        have hspot : spot = none := by
          obtain ⟨this, _⟩ := hY 0 (by omega)
          simpa [Addr.add] using World.cell?_spot this
        subst hspot
        have hadd : ∀ j, (⟨b, off, none⟩ : Addr).add j = ⟨b, off + j, none⟩ := fun j => by unfold Addr.add; split <;> simp_all
        have hlt : b < W.heap.size := by
          obtain ⟨this, _⟩ := hY 0 (by omega)
          rw [hadd] at this
          exact lt_of_cell this
        refine .inr ⟨b, off, rfl, hlt, fun i y hy => ?_⟩
        have hi : i < len := by
          have := (List.getElem?_eq_some_iff.1 hy).1
          simpa using this
        obtain rfl : Y i = y := by simpa [hi] using hy
        obtain ⟨h1, h2⟩ := hY i hi
        rw [hadd] at h1
        exact h1
    · obtain ⟨i, hi, rfl⟩ := List.mem_map.1 ht
      exact (hY i (List.mem_range.1 hi)).2
    · have := bulk_all ((List.range len).map D)
      simp only [List.length_map, List.length_range, Rows.uptoBulk] at this ⊢
      omega

set_option maxRecDepth 100000 in
theorem open_texts {H : Type} {enc : TypeId × Value → H} {W : World} {base b0 : Nat} {spare : Nat → Bool} {held : Bool} {v : Value} {d : DataW H} {p : List MemPlace}
    (hv : Value.okWide Tryd.prog W .any b0 40 v) (h : DataW.Trod enc Tryd.prog W base spare held 40 v d p) :
    ∃ (L : List ByteArray) (q : Option Addr) (c : Nat), v = .slice q L.length c ∧ TL W q L ∧ (∀ t ∈ L, t.size ≤ maxLen) ∧ L.length ≤ c ∧ c ≤ maxLen ∧ L.length ≤ Rows.uptoBulk d := by
  obtain ⟨a0, len0, cap0, rfl⟩ := okWide_slice Tryd.underlying40 hv
  obtain ⟨fuel, hf⟩ := h
  obtain ⟨L, q, c, h1, h2⟩ := open_texts_cells hf
  simp [Value.cells] at h1
  obtain ⟨rfl, rfl, rfl⟩ := h1
  exact ⟨L, _, _, rfl, h2⟩
end Go.Proofs.YthmfgnofhbmogaaDoor
