import Derived.Test.YtjkepjbfgeldnaaGreatDoorB26
import Derived.Test.YtjkepjbfgeldnaaGreatDoorB20
set_option linter.unusedVariables false
set_option maxHeartbeats 12000000
namespace Go.Proofs.YtjkepjbfgeldnaaGreatDoor
open Go.ChangeShapes Go.WideShapes Go.ChangeAt Go.RowKit
set_option maxRecDepth 100000
theorem Tryz.gPowType:(Tryz.prog.globals[4]?).map (·.type)=some 246:=by kernel_rfl
theorem Tryz.cellsPow:Tryz.prog.cellsOf 246=20:=by kernel_rfl
theorem Tryz.cellsU64:Tryz.prog.cellsOf 202=1:=by kernel_rfl
theorem pow_data:Rows.laid_internal_strconv_uint64pow10=(Lib.tabData .u64 Lib.pow10Tab:DataW Unit):=by kernel_rfl
theorem tab_of_laid7 {W:World}(h:laidMetH Tryz.prog listed7 W):Tab W:=by
 rw[MakeChecks.laidMetH_plain _ _ _ (by kernel_rfl)]at h
 have h2:=h.tail.tail
 rw[pow_data]at h2
 exact Lib.tabIs_of_head Tryz.gPow Tryz.gPowType Tryz.underlying246 Tryz.underlying202 Tryz.cellsU64 Tryz.cellsPow h2
end Go.Proofs.YtjkepjbfgeldnaaGreatDoor
