import Derived.Test.YtipcngglmebiiaaGreatDoorRows
import Derived.Test.YtipcngglmebiiaaGreatDoorChecked
import Derived.KernelRfl
import Derived.JoinedOf
import Derived.JoinedCond
set_option linter.unusedVariables false
set_option maxHeartbeats 12000000
namespace Go.Proofs.YtipcngglmebiiaaGreatDoor
open Go.ChangeShapes Go.WideShapes Go.ChangeAt
theorem authOrder_andI {a b:Bool}(h:a=true)(k:b=true):(a && b)=true:=by rw[h,k];rfl
theorem authOrder_c0:(Rows.authOrderRow.wf (OpenSpec.ofChange (OpenSpec.ofChange Rows.authOrderSpec).bare))=true:=by kernel_rfl
theorem authOrder_c1:(laidOutB Tryz.pinned.checked.prog)=true:=by kernel_rfl
theorem authOrder_c2:(mapsRowed Tryz.pinned.checked.prog)=true:=by kernel_rfl
theorem authOrder_c3:(Tryz.f3.params.all (Tryz.pinned.checked.prog.readableRec ·))=true:=by kernel_rfl
theorem authOrder_c4:(namedTie Tryz.pinned.checked.prog Rows.authOrderRow.named (OpenSpec.ofChange Rows.authOrderSpec).bare.vars)=true:=by kernel_rfl
theorem authOrder_c5:(Rows.authOrderRow.stops == [])=true:=by kernel_rfl
theorem authOrder_c6:(Tryz.pinned.checked.prog.stops == [])=true:=by kernel_rfl
theorem authOrder_c7:(Rows.authOrderRow.knobs == [])=true:=by kernel_rfl
theorem authOrder_c8:(Tryz.pinned.checked.prog.stopKnobs == [])=true:=by kernel_rfl
theorem authOrder_c9:(Rows.authOrderRow.inPlace == Tryz.pinned.checked.prog.inPlace 3)=true:=by kernel_rfl
theorem authOrder_c10:(Rows.authOrderRow.unfollowed == Tryz.pinned.checked.prog.unfollowed 3)=true:=by kernel_rfl
theorem authOrder_c11:(Rows.authOrderRow.recurses == Tryz.pinned.checked.prog.recurses 3)=true:=by kernel_rfl
theorem authOrder_c12:(Rows.authOrderRow.named == Tryz.pinned.checked.prog.varsNamed 3)=true:=by kernel_rfl
theorem authOrder_c13:(Rows.authOrderRow.maps == (Tryz.f3.params.toList++(OpenSpec.ofChange Rows.authOrderSpec).bare.plain.varTypes Tryz.pinned.checked.prog).any (Tryz.pinned.checked.prog.mapsRec ·))=true:=by kernel_rfl
theorem authOrder_c14:(Rows.authOrderRow.ifaces == (Tryz.f3.params.toList++(OpenSpec.ofChange Rows.authOrderSpec).bare.plain.varTypes Tryz.pinned.checked.prog).any (Tryz.pinned.checked.prog.ifacesRec ·))=true:=by kernel_rfl
theorem authOrder_c15:(Rows.authOrderRow.mapsOut == Tryz.pinned.checked.prog.mapsAmong Tryz.f3.resultTypes.toList)=true:=by kernel_rfl
theorem authOrder_c16:(Rows.authOrderRow.loops == (Tryz.f3.params.toList++(OpenSpec.ofChange Rows.authOrderSpec).bare.plain.varTypes Tryz.pinned.checked.prog).any (Tryz.pinned.checked.prog.loopsFrom ·))=true:=by kernel_rfl
theorem authOrder_c17:(Rows.authOrderRow.wideKeys == (Tryz.f3.params.toList++(OpenSpec.ofChange Rows.authOrderSpec).bare.plain.varTypes Tryz.pinned.checked.prog++Tryz.f3.resultTypes.toList).any (Tryz.pinned.checked.prog.wideKeysFrom ·))=true:=by kernel_rfl
theorem authOrder_c18:((OpenSpec.ofChange Rows.authOrderSpec).bare.vars.all (Tryz.pinned.checked.prog.varReadable ·))=true:=by kernel_rfl
theorem authOrder_c19:(Tryz.f3.resultTypes.all (fun t=>Tryz.pinned.checked.prog.readableRec t && decide (t<Tryz.pinned.checked.prog.types.size)))=true:=by kernel_rfl
theorem authOrder_c20:(Rows.authOrderRow.ifacesOut == Tryz.f3.resultTypes.toList.any (Tryz.pinned.checked.prog.ifacesRec ·))=true:=by kernel_rfl
theorem authOrder_c21:(Rows.authOrderRow.loopsOut == Tryz.f3.resultTypes.toList.any (Tryz.pinned.checked.prog.loopsFrom ·))=true:=by kernel_rfl
theorem authOrder_c22:(Rows.authOrderRow.plainKeys == Tryz.pinned.checked.prog.plainKeys)=true:=by kernel_rfl
theorem authOrder_c23:(Rows.authOrderRow.shortTexts.isNone)=true:=by kernel_rfl
theorem authOrder_c24:(Tryz.pinned.checked.prog.stopsHeard)=true:=by kernel_rfl
theorem authOrder_c25:(Tryz.pinned.checked.prog.mayEnter)=true:=by kernel_rfl
theorem authOrder_c26:(Rows.authOrderRow.lifted == Tryz.pinned.checked.prog.liftsFinal)=true:=by kernel_rfl
theorem authOrder_c27:(Tryz.pinned.checked.prog.make == some Rows.authOrderRow.make)=true:=by kernel_rfl
theorem authOrder_c28:(Rows.authOrderRow.kinds == (if Rows.authOrderRow.domain.isEmpty then[]else Tryz.f3.params.toList.map fun t=>match Tryz.pinned.checked.prog.underlying t with | some (.int k)=>some k | _=>none))=true:=by kernel_rfl
theorem authOrder_c29:(Rows.authOrderRow.pinned == Rows.authOrderRow.pinnedBy)=true:=by kernel_rfl
theorem authOrder_c30:(Rows.authOrderRow.veiled == (Tryz.f3.params.toList++(OpenSpec.ofChange Rows.authOrderSpec).bare.plain.varTypes Tryz.pinned.checked.prog++Tryz.f3.resultTypes.toList).any (Tryz.pinned.checked.prog.veiledRec ·))=true:=by kernel_rfl
theorem authOrder_c31:(Rows.authOrderRow.veiledFits Tryz.pinned.checked.prog Tryz.f3.params.toList (Tryz.f3.params.toList++(OpenSpec.ofChange Rows.authOrderSpec).bare.plain.varTypes Tryz.pinned.checked.prog++Tryz.f3.resultTypes.toList))=true:=by kernel_rfl
set_option maxRecDepth 100000 in
theorem authOrder_closed:joinedFacts Tryz.pinned.checked.prog 3 Tryz.f3 (OpenSpec.ofChange Rows.authOrderSpec).bare Rows.authOrderRow=true:=(authOrder_andI (authOrder_andI (authOrder_andI (authOrder_andI (authOrder_andI (authOrder_andI (authOrder_andI (authOrder_andI (authOrder_andI (authOrder_andI (authOrder_andI (authOrder_andI (authOrder_andI (authOrder_andI (authOrder_andI (authOrder_andI (authOrder_andI (authOrder_andI (authOrder_andI (authOrder_andI (authOrder_andI (authOrder_andI (authOrder_andI (authOrder_andI (authOrder_andI (authOrder_andI (authOrder_andI (authOrder_andI (authOrder_andI (authOrder_andI (authOrder_andI authOrder_c0 authOrder_c1) authOrder_c2) authOrder_c3) authOrder_c4) authOrder_c5) authOrder_c6) authOrder_c7) authOrder_c8) authOrder_c9) authOrder_c10) authOrder_c11) authOrder_c12) authOrder_c13) authOrder_c14) authOrder_c15) authOrder_c16) authOrder_c17) authOrder_c18) authOrder_c19) authOrder_c20) authOrder_c21) authOrder_c22) authOrder_c23) authOrder_c24) authOrder_c25) authOrder_c26) authOrder_c27) authOrder_c28) authOrder_c29) authOrder_c30) authOrder_c31)
end Go.Proofs.YtipcngglmebiiaaGreatDoor
