/- What a row's list of seven variables gives a walk besides: strconv's powers of ten. -/
import Derived.Test.YtdoeinjilnhijaaGreatDoorG34
import Derived.Test.YtdoeinjilnhijaaGreatDoorG8
namespace Go.Proofs.YtdoeinjilnhijaaGreatDoor
open Go.ChangeShapes Go.WideShapes Go.ChangeAt Go.RowKit
set_option maxRecDepth 100000

theorem Tryz.gPowType : (Tryz.prog.globals[1]?).map (·.type) = some 177 := by kernel_rfl
theorem Tryz.cellsPow : Tryz.prog.cellsOf 177 = 20 := by kernel_rfl
theorem Tryz.cellsU64 : Tryz.prog.cellsOf 162 = 1 := by kernel_rfl
theorem pow_data : Rows.laid_internal_strconv_uint64pow10 = (Lib.tabData .u64 Lib.pow10Tab : DataW Unit) := by kernel_rfl
theorem tab_of_laid7 {W : World} (h : laidMetH Tryz.prog listed7 W) : Tab W := by
  rw [MakeChecks.laidMetH_plain _ _ _ (by kernel_rfl)] at h
  have h2 := h.tail.tail
  rw [pow_data] at h2
  exact Lib.tabIs_of_head Tryz.gPow Tryz.gPowType Tryz.underlying177 Tryz.underlying162 Tryz.cellsU64 Tryz.cellsPow h2
end Go.Proofs.YtdoeinjilnhijaaGreatDoor
