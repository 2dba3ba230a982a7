/- CheckValues: the closed facts of its row, one by one (written by mkfacts.py). -/
import Derived.Test.YtgkbegomekhpcaaGreatDoorRows
import Derived.Test.YtgkbegomekhpcaaGreatDoorChecked
import Derived.KernelRfl
import Derived.JoinedOf
import Derived.JoinedCond
namespace Go.Proofs.YtgkbegomekhpcaaGreatDoor
open Go.ChangeShapes Go.WideShapes Go.ChangeAt
set_option linter.unusedVariables false

theorem checkValues_andI {a b : Bool} (h : a = true) (k : b = true) : (a && b) = true := by rw [h, k]; rfl
theorem checkValues_c0 : (Rows.checkValuesRow.wf (OpenSpec.ofChange (OpenSpec.ofChange Rows.checkValuesSpec).bare)) = true := by kernel_rfl
theorem checkValues_c1 : (laidOutB Tryz.pinned.checked.prog) = true := by kernel_rfl
theorem checkValues_c2 : (mapsRowed Tryz.pinned.checked.prog) = true := by kernel_rfl
theorem checkValues_c3 : (Tryz.f3.params.all (Tryz.pinned.checked.prog.readableRec ·)) = true := by kernel_rfl
theorem checkValues_c4 : (namedTie Tryz.pinned.checked.prog Rows.checkValuesRow.named (OpenSpec.ofChange Rows.checkValuesSpec).bare.vars) = true := by kernel_rfl
theorem checkValues_c5 : (Rows.checkValuesRow.stops == []) = true := by kernel_rfl
theorem checkValues_c6 : (Tryz.pinned.checked.prog.stops == []) = true := by kernel_rfl
theorem checkValues_c7 : (Rows.checkValuesRow.knobs == []) = true := by kernel_rfl
theorem checkValues_c8 : (Tryz.pinned.checked.prog.stopKnobs == []) = true := by kernel_rfl
theorem checkValues_c9 : (Rows.checkValuesRow.inPlace == Tryz.pinned.checked.prog.inPlace 3) = true := by kernel_rfl
theorem checkValues_c10 : (Rows.checkValuesRow.unfollowed == Tryz.pinned.checked.prog.unfollowed 3) = true := by kernel_rfl
theorem checkValues_c11 : (Rows.checkValuesRow.recurses == Tryz.pinned.checked.prog.recurses 3) = true := by kernel_rfl
theorem checkValues_c12 : (Rows.checkValuesRow.named == Tryz.pinned.checked.prog.varsNamed 3) = true := by kernel_rfl
theorem checkValues_c13 : (Rows.checkValuesRow.maps == (Tryz.f3.params.toList ++ (OpenSpec.ofChange Rows.checkValuesSpec).bare.plain.varTypes Tryz.pinned.checked.prog).any (Tryz.pinned.checked.prog.mapsRec ·)) = true := by kernel_rfl
theorem checkValues_c14 : (Rows.checkValuesRow.ifaces == (Tryz.f3.params.toList ++ (OpenSpec.ofChange Rows.checkValuesSpec).bare.plain.varTypes Tryz.pinned.checked.prog).any (Tryz.pinned.checked.prog.ifacesRec ·)) = true := by kernel_rfl
theorem checkValues_c15 : (Rows.checkValuesRow.mapsOut == Tryz.pinned.checked.prog.mapsAmong Tryz.f3.resultTypes.toList) = true := by kernel_rfl
theorem checkValues_c16 : (Rows.checkValuesRow.loops == (Tryz.f3.params.toList ++ (OpenSpec.ofChange Rows.checkValuesSpec).bare.plain.varTypes Tryz.pinned.checked.prog).any (Tryz.pinned.checked.prog.loopsFrom ·)) = true := by kernel_rfl
theorem checkValues_c17 : (Rows.checkValuesRow.wideKeys == (Tryz.f3.params.toList ++ (OpenSpec.ofChange Rows.checkValuesSpec).bare.plain.varTypes Tryz.pinned.checked.prog ++ Tryz.f3.resultTypes.toList).any (Tryz.pinned.checked.prog.wideKeysFrom ·)) = true := by kernel_rfl
theorem checkValues_c18 : ((OpenSpec.ofChange Rows.checkValuesSpec).bare.vars.all (Tryz.pinned.checked.prog.varReadable ·)) = true := by kernel_rfl
theorem checkValues_c19 : (Tryz.f3.resultTypes.all (fun t => Tryz.pinned.checked.prog.readableRec t && decide (t < Tryz.pinned.checked.prog.types.size))) = true := by kernel_rfl
theorem checkValues_c20 : (Rows.checkValuesRow.ifacesOut == Tryz.f3.resultTypes.toList.any (Tryz.pinned.checked.prog.ifacesRec ·)) = true := by kernel_rfl
theorem checkValues_c21 : (Rows.checkValuesRow.loopsOut == Tryz.f3.resultTypes.toList.any (Tryz.pinned.checked.prog.loopsFrom ·)) = true := by kernel_rfl
theorem checkValues_c22 : (Rows.checkValuesRow.plainKeys == Tryz.pinned.checked.prog.plainKeys) = true := by kernel_rfl
theorem checkValues_c23 : (Rows.checkValuesRow.shortTexts.isNone) = true := by kernel_rfl
theorem checkValues_c24 : (Tryz.pinned.checked.prog.stopsHeard) = true := by kernel_rfl
theorem checkValues_c25 : (Tryz.pinned.checked.prog.mayEnter) = true := by kernel_rfl
theorem checkValues_c26 : (Rows.checkValuesRow.lifted == Tryz.pinned.checked.prog.liftsFinal) = true := by kernel_rfl
theorem checkValues_c27 : (Tryz.pinned.checked.prog.make == some Rows.checkValuesRow.make) = true := by kernel_rfl
theorem checkValues_c28 : (Rows.checkValuesRow.kinds == (if Rows.checkValuesRow.domain.isEmpty then [] else Tryz.f3.params.toList.map fun t => match Tryz.pinned.checked.prog.underlying t with | some (.int k) => some k | _ => none)) = true := by kernel_rfl
theorem checkValues_c29 : (Rows.checkValuesRow.pinned == Rows.checkValuesRow.pinnedBy) = true := by kernel_rfl
theorem checkValues_c30 : (Rows.checkValuesRow.veiled == (Tryz.f3.params.toList ++ (OpenSpec.ofChange Rows.checkValuesSpec).bare.plain.varTypes Tryz.pinned.checked.prog ++ Tryz.f3.resultTypes.toList).any (Tryz.pinned.checked.prog.veiledRec ·)) = true := by kernel_rfl
theorem checkValues_c31 : (Rows.checkValuesRow.veiledFits Tryz.pinned.checked.prog Tryz.f3.params.toList (Tryz.f3.params.toList ++ (OpenSpec.ofChange Rows.checkValuesSpec).bare.plain.varTypes Tryz.pinned.checked.prog ++ Tryz.f3.resultTypes.toList)) = true := by kernel_rfl
set_option maxRecDepth 100000 in
theorem checkValues_closed : joinedFacts Tryz.pinned.checked.prog 3 Tryz.f3 (OpenSpec.ofChange Rows.checkValuesSpec).bare Rows.checkValuesRow = true := (checkValues_andI (checkValues_andI (checkValues_andI (checkValues_andI (checkValues_andI (checkValues_andI (checkValues_andI (checkValues_andI (checkValues_andI (checkValues_andI (checkValues_andI (checkValues_andI (checkValues_andI (checkValues_andI (checkValues_andI (checkValues_andI (checkValues_andI (checkValues_andI (checkValues_andI (checkValues_andI (checkValues_andI (checkValues_andI (checkValues_andI (checkValues_andI (checkValues_andI (checkValues_andI (checkValues_andI (checkValues_andI (checkValues_andI (checkValues_andI (checkValues_andI checkValues_c0 checkValues_c1) checkValues_c2) checkValues_c3) checkValues_c4) checkValues_c5) checkValues_c6) checkValues_c7) checkValues_c8) checkValues_c9) checkValues_c10) checkValues_c11) checkValues_c12) checkValues_c13) checkValues_c14) checkValues_c15) checkValues_c16) checkValues_c17) checkValues_c18) checkValues_c19) checkValues_c20) checkValues_c21) checkValues_c22) checkValues_c23) checkValues_c24) checkValues_c25) checkValues_c26) checkValues_c27) checkValues_c28) checkValues_c29) checkValues_c30) checkValues_c31)
end Go.Proofs.YtgkbegomekhpcaaGreatDoor
