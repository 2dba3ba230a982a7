/- A list of uids that is handed in: what it reads as. -/
import Derived.Test.YtglhjhbhijekjabGreatDoorG36
namespace Go.Proofs.YtglhjhbhijekjabGreatDoor
open Go.ChangeShapes Go.WideShapes Go.ChangeAt Go.RowKit
set_option linter.unusedVariables false

set_option maxRecDepth 100000 in
theorem open_uids {H : Type} {enc : TypeId × Value → H} {W : World} {base b0 : Nat} {spare : Nat → Bool} {held : Bool} {v : Value} {d : DataW H} {p : List MemPlace}
    (hv : Value.okWide Tryz.prog W .any b0 40 v) (h : DataW.Trod enc Tryz.prog W base spare held 40 v d p) :
    ∃ (L : List Ui) (q : Option Addr) (c : Nat), v = .slice q L.length c ∧ UL W q L ∧ (∀ x ∈ L, UOk x) ∧ L.length ≤ c ∧ c ≤ maxLen := by
  obtain ⟨a0, len0, cap0, rfl⟩ := okWide_slice Tryz.underlying40 hv
  obtain ⟨fuel, hf⟩ := h
  obtain ⟨L, q, c, h1, h2⟩ := open_uids_cells hf
  simp [Value.cells] at h1
  obtain ⟨rfl, rfl, rfl⟩ := h1
  exact ⟨L, _, _, rfl, h2⟩
end Go.Proofs.YtglhjhbhijekjabGreatDoor
