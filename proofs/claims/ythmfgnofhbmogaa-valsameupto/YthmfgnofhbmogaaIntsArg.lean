/- A list of numbers that is handed in: what it reads as, and how many they are by their bulk. -/
import Derived.Test.YthmfgnofhbmogaaListsArg
namespace Go.Proofs.Ythmfgnofhbmogaa
open Go.ChangeShapes Go.WideShapes Go.ChangeAt Go.RowKit Go.Deep
set_option linter.unusedVariables false

/-- Numbers lie behind an address, one behind the other. -/
def IL (w : World) (p : Option Addr) (l : List Int) : Prop :=
  l = [] ∨ ∃ b off, p = some ⟨b, off, none⟩ ∧ b < w.heap.size ∧ ∀ i n, l[i]? = some n → w.cell? ⟨b, off + i, none⟩ = some (.int .i64 n) ∧ -9223372036854775808 ≤ n ∧ n ≤ 9223372036854775807
theorem IL.up {w w' : World} {p : Option Addr} {l : List Int} (h : IL w p l) (k : Below w.heap.size w w') : IL w' p l := by
  rcases h with h | ⟨b, off, h1, h2, h3⟩
  · exact .inl h
  · refine .inr ⟨b, off, h1, Nat.lt_of_lt_of_le h2 k.size, fun i v hv => ?_⟩
    obtain ⟨h4, h5⟩ := h3 i v hv
    exact ⟨(k.cell (p := ⟨b, off + i, none⟩) h2).trans h4, h5⟩
theorem IL.at {w : World} {p : Option Addr} {l : List Int} (h : IL w p l) {i : Nat} (hi : i < l.length) : ∃ b off, p = some ⟨b, off, none⟩ ∧ b < w.heap.size ∧
    w.cell? ⟨b, off + i, none⟩ = some (.int .i64 l[i]) ∧ -9223372036854775808 ≤ l[i] ∧ l[i] ≤ 9223372036854775807 := by
  rcases h with rfl | ⟨b, off, h1, h2, h3⟩
  · simp at hi
  · exact ⟨b, off, h1, h2, h3 i _ (List.getElem?_eq_getElem hi)⟩

theorem Try.cellsInt : Try.prog.cellsOf 3 = 1 := by kernel_rfl

set_option maxRecDepth 100000 in
theorem open_ints_cells {H : Type} {enc : TypeId × Value → H} {W : World} {base : Nat} {spare : Nat → Bool} {held : Bool} {fuel : Nat} {cs : List Value} {x : DataW H × List MemPlace}
    (h : DataW.trod enc Try.prog W base spare held fuel 31 cs = some x) :
    ∃ (v : List Int) (p : Option Addr) (c : Nat), cs = [.slice p v.length c] ∧ IL W p v ∧ v.length ≤ c ∧ c ≤ maxLen ∧ v.length ≤ Rows.uptoBulk x.1 := by
  rcases open_slice1 Try.underlying31 Try.cellsInt h with ⟨rfl, rfl⟩ | ⟨a, len, cap, m, n, V, D, Pl, rfl, hb, hl, hm, hmm, rfl, hx⟩
  · exact ⟨[], none, 0, rfl, .inl rfl, Nat.le_refl _, Nat.zero_le _, Nat.zero_le _⟩
  · have hlm : len ≤ m := by rw [hmm]; split <;> omega
    obtain ⟨Y, hY⟩ := choose_lt (α := Int) (n := len) (p := fun i y => W.cell? (a.add i) = some (.int .i64 y) ∧ -9223372036854775808 ≤ y ∧ y ≤ 9223372036854775807) (fun i hi => by
      obtain ⟨h1, h2⟩ := hx i (by omega)
      obtain ⟨y, e, _, w0⟩ := DataW.trod_int Try.underlying3 h2
      simp at e
      rw [e] at h1
      simp [Lit.wf] at w0
      exact ⟨y, h1, w0⟩)
    refine ⟨(List.range len).map Y, some a, cap, by simp, ?_, by simpa using hl, hm, ?_⟩
    · by_cases h0 : len = 0
      · exact .inl (by simp [h0])
      · obtain ⟨b, off, spot⟩ := a
        have hspot : spot = none := by
          obtain ⟨this, _⟩ := hY 0 (by omega)
          simpa [Addr.add] using World.cell?_spot this
        subst hspot
        have hadd : ∀ j, (⟨b, off, none⟩ : Addr).add j = ⟨b, off + j, none⟩ := fun j => by unfold Addr.add; split <;> simp_all
        have hlt : b < W.heap.size := by
          obtain ⟨this, _⟩ := hY 0 (by omega)
          rw [hadd] at this
          exact lt_of_cell this
        refine .inr ⟨b, off, rfl, hlt, fun i y hy => ?_⟩
        have hi : i < len := by
          have := (List.getElem?_eq_some_iff.1 hy).1
          simpa using this
        obtain rfl : Y i = y := by simpa [hi] using hy
        obtain ⟨h1, h2⟩ := hY i hi
        rw [hadd] at h1
        exact ⟨h1, h2⟩
    · have := bulk_all ((List.range len).map D)
      simp only [List.length_map, List.length_range, Rows.uptoBulk] at this ⊢
      omega

set_option maxRecDepth 100000 in
theorem open_intList {H : Type} {enc : TypeId × Value → H} {W : World} {base b0 : Nat} {spare : Nat → Bool} {held : Bool} {v : Value} {d : DataW H} {p : List MemPlace}
    (hv : Value.okWide Try.prog W .any b0 31 v) (h : DataW.Trod enc Try.prog W base spare held 31 v d p) :
    ∃ (L : List Int) (q : Option Addr) (c : Nat), v = .slice q L.length c ∧ IL W q L ∧ L.length ≤ c ∧ c ≤ maxLen ∧ L.length ≤ Rows.uptoBulk d := by
  obtain ⟨a0, len0, cap0, rfl⟩ := okWide_slice Try.underlying31 hv
  obtain ⟨fuel, hf⟩ := h
  obtain ⟨L, q, c, h1, h2⟩ := open_ints_cells hf
  simp [Value.cells] at h1
  obtain ⟨rfl, rfl, rfl⟩ := h1
  exact ⟨L, _, _, rfl, h2⟩
end Go.Proofs.Ythmfgnofhbmogaa
