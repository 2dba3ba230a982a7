import Derived.Test.YthhijecpookfhaaGreatDoorRows
import Derived.Test.YthhijecpookfhaaGreatDoorChecked
import Derived.KernelRfl
import Derived.JoinedOf
import Derived.JoinedCond
set_option linter.unusedVariables false
set_option maxHeartbeats 12000000
namespace Go.Proofs.YthhijecpookfhaaGreatDoor
open Go.ChangeShapes Go.WideShapes Go.ChangeAt
theorem linkFills_andI {a b:Bool}(h:a=true)(k:b=true):(a && b)=true:=by rw[h,k];rfl
theorem linkFills_c0:(Rows.linkFillsRow.wf (OpenSpec.ofChange (OpenSpec.ofChange Rows.linkFillsSpec).bare))=true:=by kernel_rfl
theorem linkFills_c1:(laidOutB Tryz.pinned.checked.prog)=true:=by kernel_rfl
theorem linkFills_c2:(mapsRowed Tryz.pinned.checked.prog)=true:=by kernel_rfl
theorem linkFills_c3:(Tryz.f3.params.all (Tryz.pinned.checked.prog.readableRec ·))=true:=by kernel_rfl
theorem linkFills_c4:(namedTie Tryz.pinned.checked.prog Rows.linkFillsRow.named (OpenSpec.ofChange Rows.linkFillsSpec).bare.vars)=true:=by kernel_rfl
theorem linkFills_c5:(Rows.linkFillsRow.stops == [])=true:=by kernel_rfl
theorem linkFills_c6:(Tryz.pinned.checked.prog.stops == [])=true:=by kernel_rfl
theorem linkFills_c7:(Rows.linkFillsRow.knobs == [])=true:=by kernel_rfl
theorem linkFills_c8:(Tryz.pinned.checked.prog.stopKnobs == [])=true:=by kernel_rfl
theorem linkFills_c9:(Rows.linkFillsRow.inPlace == Tryz.pinned.checked.prog.inPlace 3)=true:=by kernel_rfl
theorem linkFills_c10:(Rows.linkFillsRow.unfollowed == Tryz.pinned.checked.prog.unfollowed 3)=true:=by kernel_rfl
theorem linkFills_c11:(Rows.linkFillsRow.recurses == Tryz.pinned.checked.prog.recurses 3)=true:=by kernel_rfl
theorem linkFills_c12:(Rows.linkFillsRow.named == Tryz.pinned.checked.prog.varsNamed 3)=true:=by kernel_rfl
theorem linkFills_c13:(Rows.linkFillsRow.maps == (Tryz.f3.params.toList++(OpenSpec.ofChange Rows.linkFillsSpec).bare.plain.varTypes Tryz.pinned.checked.prog).any (Tryz.pinned.checked.prog.mapsRec ·))=true:=by kernel_rfl
theorem linkFills_c14:(Rows.linkFillsRow.ifaces == (Tryz.f3.params.toList++(OpenSpec.ofChange Rows.linkFillsSpec).bare.plain.varTypes Tryz.pinned.checked.prog).any (Tryz.pinned.checked.prog.ifacesRec ·))=true:=by kernel_rfl
theorem linkFills_c15:(Rows.linkFillsRow.mapsOut == Tryz.pinned.checked.prog.mapsAmong Tryz.f3.resultTypes.toList)=true:=by kernel_rfl
theorem linkFills_c16:(Rows.linkFillsRow.loops == (Tryz.f3.params.toList++(OpenSpec.ofChange Rows.linkFillsSpec).bare.plain.varTypes Tryz.pinned.checked.prog).any (Tryz.pinned.checked.prog.loopsFrom ·))=true:=by kernel_rfl
theorem linkFills_c17:(Rows.linkFillsRow.wideKeys == (Tryz.f3.params.toList++(OpenSpec.ofChange Rows.linkFillsSpec).bare.plain.varTypes Tryz.pinned.checked.prog++Tryz.f3.resultTypes.toList).any (Tryz.pinned.checked.prog.wideKeysFrom ·))=true:=by kernel_rfl
theorem linkFills_c18:((OpenSpec.ofChange Rows.linkFillsSpec).bare.vars.all (Tryz.pinned.checked.prog.varReadable ·))=true:=by kernel_rfl
theorem linkFills_c19:(Tryz.f3.resultTypes.all (fun t=>Tryz.pinned.checked.prog.readableRec t && decide (t<Tryz.pinned.checked.prog.types.size)))=true:=by kernel_rfl
theorem linkFills_c20:(Rows.linkFillsRow.ifacesOut == Tryz.f3.resultTypes.toList.any (Tryz.pinned.checked.prog.ifacesRec ·))=true:=by kernel_rfl
theorem linkFills_c21:(Rows.linkFillsRow.loopsOut == Tryz.f3.resultTypes.toList.any (Tryz.pinned.checked.prog.loopsFrom ·))=true:=by kernel_rfl
theorem linkFills_c22:(Rows.linkFillsRow.plainKeys == Tryz.pinned.checked.prog.plainKeys)=true:=by kernel_rfl
theorem linkFills_c23:(Rows.linkFillsRow.shortTexts.isNone)=true:=by kernel_rfl
theorem linkFills_c24:(Tryz.pinned.checked.prog.stopsHeard)=true:=by kernel_rfl
theorem linkFills_c25:(Tryz.pinned.checked.prog.mayEnter)=true:=by kernel_rfl
theorem linkFills_c26:(Rows.linkFillsRow.lifted == Tryz.pinned.checked.prog.liftsFinal)=true:=by kernel_rfl
theorem linkFills_c27:(Tryz.pinned.checked.prog.make == some Rows.linkFillsRow.make)=true:=by kernel_rfl
theorem linkFills_c28:(Rows.linkFillsRow.kinds == (if Rows.linkFillsRow.domain.isEmpty then[]else Tryz.f3.params.toList.map fun t=>match Tryz.pinned.checked.prog.underlying t with | some (.int k)=>some k | _=>none))=true:=by kernel_rfl
theorem linkFills_c29:(Rows.linkFillsRow.pinned == Rows.linkFillsRow.pinnedBy)=true:=by kernel_rfl
theorem linkFills_c30:(Rows.linkFillsRow.veiled == (Tryz.f3.params.toList++(OpenSpec.ofChange Rows.linkFillsSpec).bare.plain.varTypes Tryz.pinned.checked.prog++Tryz.f3.resultTypes.toList).any (Tryz.pinned.checked.prog.veiledRec ·))=true:=by kernel_rfl
theorem linkFills_c31:(Rows.linkFillsRow.veiledFits Tryz.pinned.checked.prog Tryz.f3.params.toList (Tryz.f3.params.toList++(OpenSpec.ofChange Rows.linkFillsSpec).bare.plain.varTypes Tryz.pinned.checked.prog++Tryz.f3.resultTypes.toList))=true:=by kernel_rfl
set_option maxRecDepth 100000 in
theorem linkFills_closed:joinedFacts Tryz.pinned.checked.prog 3 Tryz.f3 (OpenSpec.ofChange Rows.linkFillsSpec).bare Rows.linkFillsRow=true:=(linkFills_andI (linkFills_andI (linkFills_andI (linkFills_andI (linkFills_andI (linkFills_andI (linkFills_andI (linkFills_andI (linkFills_andI (linkFills_andI (linkFills_andI (linkFills_andI (linkFills_andI (linkFills_andI (linkFills_andI (linkFills_andI (linkFills_andI (linkFills_andI (linkFills_andI (linkFills_andI (linkFills_andI (linkFills_andI (linkFills_andI (linkFills_andI (linkFills_andI (linkFills_andI (linkFills_andI (linkFills_andI (linkFills_andI (linkFills_andI (linkFills_andI linkFills_c0 linkFills_c1) linkFills_c2) linkFills_c3) linkFills_c4) linkFills_c5) linkFills_c6) linkFills_c7) linkFills_c8) linkFills_c9) linkFills_c10) linkFills_c11) linkFills_c12) linkFills_c13) linkFills_c14) linkFills_c15) linkFills_c16) linkFills_c17) linkFills_c18) linkFills_c19) linkFills_c20) linkFills_c21) linkFills_c22) linkFills_c23) linkFills_c24) linkFills_c25) linkFills_c26) linkFills_c27) linkFills_c28) linkFills_c29) linkFills_c30) linkFills_c31)
end Go.Proofs.YthhijecpookfhaaGreatDoor
