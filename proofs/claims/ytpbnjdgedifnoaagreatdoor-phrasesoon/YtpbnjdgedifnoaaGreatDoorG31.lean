/- What a row's list of eight variables gives a walk (DoorP's seven and package errors' own), and a memory that meets the list. -/
import Derived.Test.YtpbnjdgedifnoaaGreatDoorG30
import Derived.Test.YtpbnjdgedifnoaaGreatDoorG26
namespace Go.Proofs.YtpbnjdgedifnoaaGreatDoor
open Go.ChangeShapes Go.WideShapes Go.ChangeAt Go.RowKit
set_option maxRecDepth 100000

theorem Tryz.gErr : Tryz.prog.globalNamed "errors.errorType" = some 0 := by kernel_rfl
theorem Tryz.oneRow : ((List.range 272).filter fun t => Tryz.prog.rowNamed t [101, 114, 114, 111, 114]) = [25] := by kernel_rfl
theorem Tryz.typesSize : Tryz.prog.types.size = 272 := by kernel_rfl
def listed8 : List (String × DataW Unit) := [("math/bits.deBruijn32tab", Rows.laid_math_bits_deBruijn32tab), ("math/bits.deBruijn64tab", Rows.laid_math_bits_deBruijn64tab), ("internal/strconv.uint64pow10", Rows.laid_internal_strconv_uint64pow10), ("unicode/utf8.acceptRanges", Rows.laid_unicode_utf8_acceptRanges), ("errors.errorType", Rows.laid_errors_errorType), ("strconv.ErrRange", Rows.laid_strconv_ErrRange), ("strconv.ErrSyntax", Rows.laid_strconv_ErrSyntax), ("unicode/utf8.first", Rows.laid_unicode_utf8_first)]
theorem errVar_of_handles {W : World} (h : handlesMet Tryz.prog [("errors.errorType", Rows.laid_errors_errorType)] W) : ErrVar W := by
  obtain ⟨name, u, ty, e1, e2, e3, e4, e5⟩ := h _ (List.mem_singleton.2 rfl)
  have en : name = [101, 114, 114, 111, 114] := (Option.some.inj e1).symm
  subst en
  obtain rfl : u = 153 := Option.some.inj (e2.symm.trans (by kernel_rfl))
  have hm : ty ∈ (List.range 272).filter fun t => Tryz.prog.rowNamed t [101, 114, 114, 111, 114] := List.mem_filter.2 ⟨List.mem_range.2 (by rw [← Tryz.typesSize]; exact e3), e4⟩
  rw [Tryz.oneRow] at hm
  obtain rfl := List.mem_singleton.1 hm
  have hh : typeHandle Tryz.prog 25 = .pointer (some ⟨9, 25, none⟩) := by kernel_rfl
  rw [hh] at e5
  unfold ErrVar
  simpa using World.var?_cell Tryz.gErr e5 0
theorem both_of_laid8 {W : World} (h : laidMetH Tryz.prog listed8 W) : ErrIn W ∧ ErrVar W := by
  have h' : laidMet Tryz.prog listed7 W ∧ handlesMet Tryz.prog [("errors.errorType", Rows.laid_errors_errorType)] W := h
  exact ⟨errIn_of_list h'.1, errVar_of_handles h'.2⟩
/-- All eight laid. -/
def layAll8 (w : World) : World := layCells (layAll7 w) 0 [.iface 153 (.agg #[.pointer (some ⟨9, 25, none⟩)])]
theorem laid_run8 (os : Os) (args : Array Value) : laidMet Tryz.prog listed7 ((layAll8 (World.holding Tryz.prog os ⟨#[], #[], []⟩)).forCall (fun _ _ => 0) ⟨#[], args, []⟩).memory :=
  laidMet_of_run (ps := MemPlace.row ⟨5, 0, none⟩ 32 ++ [] ++ (MemPlace.row ⟨6, 0, none⟩ 64 ++ [] ++ (MemPlace.row ⟨1, 0, none⟩ 20 ++ [] ++ (MemPlace.row ⟨4, 0, none⟩ 32 ++ [] ++
    ([.cell 8 0, .cell low 0] ++ ([.cell 7 0, .cell (low + 1) 0] ++ (MemPlace.row ⟨3, 0, none⟩ 256 ++ [] ++ []))))))) 8 (by kernel_rfl) (by kernel_rfl) (by kernel_rfl)
theorem laid_met8 (os : Os) (args : Array Value) : laidMetH Tryz.prog listed8 ((layAll8 (World.holding Tryz.prog os ⟨#[], #[], []⟩)).forCall (fun _ _ => 0) ⟨#[], args, []⟩).memory :=
  laidMetH_of_parts (l := listed8) (laid_run8 os args) (by kernel_rfl)
end Go.Proofs.YtpbnjdgedifnoaaGreatDoor
