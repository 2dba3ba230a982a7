/- PolExprs: the closed facts of its row, one by one (written by mkfacts.py). -/
import Derived.Test.YtkgfmigleacjdaaGreatDoorRows
import Derived.Test.YtkgfmigleacjdaaGreatDoorChecked
import Derived.KernelRfl
import Derived.JoinedOf
import Derived.JoinedCond
namespace Go.Proofs.YtkgfmigleacjdaaGreatDoor
open Go.ChangeShapes Go.WideShapes Go.ChangeAt
set_option linter.unusedVariables false

theorem polExprs_andI {a b : Bool} (h : a = true) (k : b = true) : (a && b) = true := by rw [h, k]; rfl
theorem polExprs_c0 : (Rows.polExprsRow.wf (OpenSpec.ofChange (OpenSpec.ofChange Rows.polExprsSpec).bare)) = true := by kernel_rfl
theorem polExprs_c1 : (laidOutB Tryz.pinned.checked.prog) = true := by kernel_rfl
theorem polExprs_c2 : (mapsRowed Tryz.pinned.checked.prog) = true := by kernel_rfl
theorem polExprs_c3 : (Tryz.f3.params.all (Tryz.pinned.checked.prog.readableRec ·)) = true := by kernel_rfl
theorem polExprs_c4 : (namedTie Tryz.pinned.checked.prog Rows.polExprsRow.named (OpenSpec.ofChange Rows.polExprsSpec).bare.vars) = true := by kernel_rfl
theorem polExprs_c5 : (Rows.polExprsRow.stops == []) = true := by kernel_rfl
theorem polExprs_c6 : (Tryz.pinned.checked.prog.stops == []) = true := by kernel_rfl
theorem polExprs_c7 : (Rows.polExprsRow.knobs == []) = true := by kernel_rfl
theorem polExprs_c8 : (Tryz.pinned.checked.prog.stopKnobs == []) = true := by kernel_rfl
theorem polExprs_c9 : (Rows.polExprsRow.inPlace == Tryz.pinned.checked.prog.inPlace 3) = true := by kernel_rfl
theorem polExprs_c10 : (Rows.polExprsRow.unfollowed == Tryz.pinned.checked.prog.unfollowed 3) = true := by kernel_rfl
theorem polExprs_c11 : (Rows.polExprsRow.recurses == Tryz.pinned.checked.prog.recurses 3) = true := by kernel_rfl
theorem polExprs_c12 : (Rows.polExprsRow.named == Tryz.pinned.checked.prog.varsNamed 3) = true := by kernel_rfl
theorem polExprs_c13 : (Rows.polExprsRow.maps == (Tryz.f3.params.toList ++ (OpenSpec.ofChange Rows.polExprsSpec).bare.plain.varTypes Tryz.pinned.checked.prog).any (Tryz.pinned.checked.prog.mapsRec ·)) = true := by kernel_rfl
theorem polExprs_c14 : (Rows.polExprsRow.ifaces == (Tryz.f3.params.toList ++ (OpenSpec.ofChange Rows.polExprsSpec).bare.plain.varTypes Tryz.pinned.checked.prog).any (Tryz.pinned.checked.prog.ifacesRec ·)) = true := by kernel_rfl
theorem polExprs_c15 : (Rows.polExprsRow.mapsOut == Tryz.pinned.checked.prog.mapsAmong Tryz.f3.resultTypes.toList) = true := by kernel_rfl
theorem polExprs_c16 : (Rows.polExprsRow.loops == (Tryz.f3.params.toList ++ (OpenSpec.ofChange Rows.polExprsSpec).bare.plain.varTypes Tryz.pinned.checked.prog).any (Tryz.pinned.checked.prog.loopsFrom ·)) = true := by kernel_rfl
theorem polExprs_c17 : (Rows.polExprsRow.wideKeys == (Tryz.f3.params.toList ++ (OpenSpec.ofChange Rows.polExprsSpec).bare.plain.varTypes Tryz.pinned.checked.prog ++ Tryz.f3.resultTypes.toList).any (Tryz.pinned.checked.prog.wideKeysFrom ·)) = true := by kernel_rfl
theorem polExprs_c18 : ((OpenSpec.ofChange Rows.polExprsSpec).bare.vars.all (Tryz.pinned.checked.prog.varReadable ·)) = true := by kernel_rfl
theorem polExprs_c19 : (Tryz.f3.resultTypes.all (fun t => Tryz.pinned.checked.prog.readableRec t && decide (t < Tryz.pinned.checked.prog.types.size))) = true := by kernel_rfl
theorem polExprs_c20 : (Rows.polExprsRow.ifacesOut == Tryz.f3.resultTypes.toList.any (Tryz.pinned.checked.prog.ifacesRec ·)) = true := by kernel_rfl
theorem polExprs_c21 : (Rows.polExprsRow.loopsOut == Tryz.f3.resultTypes.toList.any (Tryz.pinned.checked.prog.loopsFrom ·)) = true := by kernel_rfl
theorem polExprs_c22 : (Rows.polExprsRow.plainKeys == Tryz.pinned.checked.prog.plainKeys) = true := by kernel_rfl
theorem polExprs_c23 : (Rows.polExprsRow.shortTexts.isNone) = true := by kernel_rfl
theorem polExprs_c24 : (Tryz.pinned.checked.prog.stopsHeard) = true := by kernel_rfl
theorem polExprs_c25 : (Tryz.pinned.checked.prog.mayEnter) = true := by kernel_rfl
theorem polExprs_c26 : (Rows.polExprsRow.lifted == Tryz.pinned.checked.prog.liftsFinal) = true := by kernel_rfl
theorem polExprs_c27 : (Tryz.pinned.checked.prog.make == some Rows.polExprsRow.make) = true := by kernel_rfl
theorem polExprs_c28 : (Rows.polExprsRow.kinds == (if Rows.polExprsRow.domain.isEmpty then [] else Tryz.f3.params.toList.map fun t => match Tryz.pinned.checked.prog.underlying t with | some (.int k) => some k | _ => none)) = true := by kernel_rfl
theorem polExprs_c29 : (Rows.polExprsRow.pinned == Rows.polExprsRow.pinnedBy) = true := by kernel_rfl
theorem polExprs_c30 : (Rows.polExprsRow.veiled == (Tryz.f3.params.toList ++ (OpenSpec.ofChange Rows.polExprsSpec).bare.plain.varTypes Tryz.pinned.checked.prog ++ Tryz.f3.resultTypes.toList).any (Tryz.pinned.checked.prog.veiledRec ·)) = true := by kernel_rfl
theorem polExprs_c31 : (Rows.polExprsRow.veiledFits Tryz.pinned.checked.prog Tryz.f3.params.toList (Tryz.f3.params.toList ++ (OpenSpec.ofChange Rows.polExprsSpec).bare.plain.varTypes Tryz.pinned.checked.prog ++ Tryz.f3.resultTypes.toList)) = true := by kernel_rfl
set_option maxRecDepth 100000 in
theorem polExprs_closed : joinedFacts Tryz.pinned.checked.prog 3 Tryz.f3 (OpenSpec.ofChange Rows.polExprsSpec).bare Rows.polExprsRow = true := (polExprs_andI (polExprs_andI (polExprs_andI (polExprs_andI (polExprs_andI (polExprs_andI (polExprs_andI (polExprs_andI (polExprs_andI (polExprs_andI (polExprs_andI (polExprs_andI (polExprs_andI (polExprs_andI (polExprs_andI (polExprs_andI (polExprs_andI (polExprs_andI (polExprs_andI (polExprs_andI (polExprs_andI (polExprs_andI (polExprs_andI (polExprs_andI (polExprs_andI (polExprs_andI (polExprs_andI (polExprs_andI (polExprs_andI (polExprs_andI (polExprs_andI polExprs_c0 polExprs_c1) polExprs_c2) polExprs_c3) polExprs_c4) polExprs_c5) polExprs_c6) polExprs_c7) polExprs_c8) polExprs_c9) polExprs_c10) polExprs_c11) polExprs_c12) polExprs_c13) polExprs_c14) polExprs_c15) polExprs_c16) polExprs_c17) polExprs_c18) polExprs_c19) polExprs_c20) polExprs_c21) polExprs_c22) polExprs_c23) polExprs_c24) polExprs_c25) polExprs_c26) polExprs_c27) polExprs_c28) polExprs_c29) polExprs_c30) polExprs_c31)
end Go.Proofs.YtkgfmigleacjdaaGreatDoor
