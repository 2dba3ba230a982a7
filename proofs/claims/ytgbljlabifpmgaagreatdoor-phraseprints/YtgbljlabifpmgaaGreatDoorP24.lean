import Derived.Test.YtgbljlabifpmgaaGreatDoorP6
import Derived.Test.YtgbljlabifpmgaaGreatDoorP4
import Derived.Test.YtgbljlabifpmgaaGreatDoorP21
import Derived.MakeChecks
import Derived.Stop.LaidErr
import Derived.Lib.LaidTab
set_option linter.unusedVariables false
set_option maxHeartbeats 12000000
namespace Go.Proofs.YtgbljlabifpmgaaGreatDoor
open Go.ChangeShapes Go.WideShapes Go.ChangeAt Go.RowKit
set_option maxRecDepth 100000
theorem Tryz.gPowType4:(Tryz.prog.globals[1]?).map (·.type)=some 140:=by kernel_rfl
theorem Tryz.cellsPow4:Tryz.prog.cellsOf 140=20:=by kernel_rfl
theorem Tryz.cellsU644:Tryz.prog.cellsOf 132=1:=by kernel_rfl
theorem pow_data4:Rows.laid_internal_strconv_uint64pow10=(Lib.tabData .u64 Lib.pow10Tab:DataW Unit):=by kernel_rfl
def listedT:List (String×DataW Unit):=[("math/bits.deBruijn32tab", Rows.laid_math_bits_deBruijn32tab),("math/bits.deBruijn64tab", Rows.laid_math_bits_deBruijn64tab),("internal/strconv.uint64pow10", Rows.laid_internal_strconv_uint64pow10)]
def listed4:List (String×DataW Unit):=[("math/bits.deBruijn32tab", Rows.laid_math_bits_deBruijn32tab),("math/bits.deBruijn64tab", Rows.laid_math_bits_deBruijn64tab),("internal/strconv.uint64pow10", Rows.laid_internal_strconv_uint64pow10),("errors.errorType", Rows.laid_errors_errorType)]
theorem both_of_laid4 {W:World}(h:laidMetH Tryz.prog listed4 W):Tab W∧ErrVar W:=by
 have h':laidMet Tryz.prog listedT W∧handlesMet Tryz.prog listed W:=h
 refine⟨?_,errVar_of_laid (show laidMet Tryz.prog [] W∧handlesMet Tryz.prog listed W from⟨laidMet_nil _ _,h'.2⟩)⟩
 have h1:laidMet Tryz.prog listedT W:=h'.1
 have h2:=h1.tail.tail
 rw[pow_data4]at h2
 exact Lib.tabIs_of_head Tryz.gPow Tryz.gPowType4 Tryz.underlying140 Tryz.underlying132 Tryz.cellsU644 Tryz.cellsPow4 h2
def layAll4 (w:World):World:=
 layCells (layCells (layCells (layErr w) 1 (flatV Rows.laid_internal_strconv_uint64pow10)) 3 (flatV Rows.laid_math_bits_deBruijn64tab)) 2 (flatV Rows.laid_math_bits_deBruijn32tab)
theorem laid_run4 (os:Os)(args:Array Value):laidMet Tryz.prog listedT ((layAll4 (World.holding Tryz.prog os ⟨#[], #[],[]⟩)).forCall (fun _ _=>0) ⟨#[],args,[]⟩).memory:=
 laidMet_of_run (ps:=MemPlace.row ⟨2,0,none⟩ 32++[]++(MemPlace.row ⟨3,0,none⟩ 64++[]++(MemPlace.row ⟨1,0,none⟩ 20++[]++[]))) 8 (by kernel_rfl) (by kernel_rfl) (by kernel_rfl)
theorem laid_met4 (os:Os)(args:Array Value):laidMetH Tryz.prog listed4 ((layAll4 (World.holding Tryz.prog os ⟨#[], #[],[]⟩)).forCall (fun _ _=>0) ⟨#[],args,[]⟩).memory:=
 laidMetH_of_parts (l:=listed4) (laid_run4 os args) (by kernel_rfl)
end Go.Proofs.YtgbljlabifpmgaaGreatDoor
