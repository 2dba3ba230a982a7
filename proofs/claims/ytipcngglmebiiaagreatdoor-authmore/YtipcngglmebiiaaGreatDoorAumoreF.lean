import Derived.Test.YtipcngglmebiiaaGreatDoorRows
import Derived.Test.YtipcngglmebiiaaGreatDoorChecked
import Derived.KernelRfl
import Derived.JoinedOf
import Derived.JoinedCond
set_option linter.unusedVariables false
set_option maxHeartbeats 12000000
namespace Go.Proofs.YtipcngglmebiiaaGreatDoor
open Go.ChangeShapes Go.WideShapes Go.ChangeAt
theorem authMore_andI {a b:Bool}(h:a=true)(k:b=true):(a && b)=true:=by rw[h,k];rfl
theorem authMore_c0:(Rows.authMoreRow.wf (OpenSpec.ofChange (OpenSpec.ofChange Rows.authMoreSpec).bare))=true:=by kernel_rfl
theorem authMore_c1:(laidOutB Tryz.pinned.checked.prog)=true:=by kernel_rfl
theorem authMore_c2:(mapsRowed Tryz.pinned.checked.prog)=true:=by kernel_rfl
theorem authMore_c3:(Tryz.f5.params.all (Tryz.pinned.checked.prog.readableRec ·))=true:=by kernel_rfl
theorem authMore_c4:(namedTie Tryz.pinned.checked.prog Rows.authMoreRow.named (OpenSpec.ofChange Rows.authMoreSpec).bare.vars)=true:=by kernel_rfl
theorem authMore_c5:(Rows.authMoreRow.stops == [])=true:=by kernel_rfl
theorem authMore_c6:(Tryz.pinned.checked.prog.stops == [])=true:=by kernel_rfl
theorem authMore_c7:(Rows.authMoreRow.knobs == [])=true:=by kernel_rfl
theorem authMore_c8:(Tryz.pinned.checked.prog.stopKnobs == [])=true:=by kernel_rfl
theorem authMore_c9:(Rows.authMoreRow.inPlace == Tryz.pinned.checked.prog.inPlace 5)=true:=by kernel_rfl
theorem authMore_c10:(Rows.authMoreRow.unfollowed == Tryz.pinned.checked.prog.unfollowed 5)=true:=by kernel_rfl
theorem authMore_c11:(Rows.authMoreRow.recurses == Tryz.pinned.checked.prog.recurses 5)=true:=by kernel_rfl
theorem authMore_c12:(Rows.authMoreRow.named == Tryz.pinned.checked.prog.varsNamed 5)=true:=by kernel_rfl
theorem authMore_c13:(Rows.authMoreRow.maps == (Tryz.f5.params.toList++(OpenSpec.ofChange Rows.authMoreSpec).bare.plain.varTypes Tryz.pinned.checked.prog).any (Tryz.pinned.checked.prog.mapsRec ·))=true:=by kernel_rfl
theorem authMore_c14:(Rows.authMoreRow.ifaces == (Tryz.f5.params.toList++(OpenSpec.ofChange Rows.authMoreSpec).bare.plain.varTypes Tryz.pinned.checked.prog).any (Tryz.pinned.checked.prog.ifacesRec ·))=true:=by kernel_rfl
theorem authMore_c15:(Rows.authMoreRow.mapsOut == Tryz.pinned.checked.prog.mapsAmong Tryz.f5.resultTypes.toList)=true:=by kernel_rfl
theorem authMore_c16:(Rows.authMoreRow.loops == (Tryz.f5.params.toList++(OpenSpec.ofChange Rows.authMoreSpec).bare.plain.varTypes Tryz.pinned.checked.prog).any (Tryz.pinned.checked.prog.loopsFrom ·))=true:=by kernel_rfl
theorem authMore_c17:(Rows.authMoreRow.wideKeys == (Tryz.f5.params.toList++(OpenSpec.ofChange Rows.authMoreSpec).bare.plain.varTypes Tryz.pinned.checked.prog++Tryz.f5.resultTypes.toList).any (Tryz.pinned.checked.prog.wideKeysFrom ·))=true:=by kernel_rfl
theorem authMore_c18:((OpenSpec.ofChange Rows.authMoreSpec).bare.vars.all (Tryz.pinned.checked.prog.varReadable ·))=true:=by kernel_rfl
theorem authMore_c19:(Tryz.f5.resultTypes.all (fun t=>Tryz.pinned.checked.prog.readableRec t && decide (t<Tryz.pinned.checked.prog.types.size)))=true:=by kernel_rfl
theorem authMore_c20:(Rows.authMoreRow.ifacesOut == Tryz.f5.resultTypes.toList.any (Tryz.pinned.checked.prog.ifacesRec ·))=true:=by kernel_rfl
theorem authMore_c21:(Rows.authMoreRow.loopsOut == Tryz.f5.resultTypes.toList.any (Tryz.pinned.checked.prog.loopsFrom ·))=true:=by kernel_rfl
theorem authMore_c22:(Rows.authMoreRow.plainKeys == Tryz.pinned.checked.prog.plainKeys)=true:=by kernel_rfl
theorem authMore_c23:(Rows.authMoreRow.shortTexts.isNone)=true:=by kernel_rfl
theorem authMore_c24:(Tryz.pinned.checked.prog.stopsHeard)=true:=by kernel_rfl
theorem authMore_c25:(Tryz.pinned.checked.prog.mayEnter)=true:=by kernel_rfl
theorem authMore_c26:(Rows.authMoreRow.lifted == Tryz.pinned.checked.prog.liftsFinal)=true:=by kernel_rfl
theorem authMore_c27:(Tryz.pinned.checked.prog.make == some Rows.authMoreRow.make)=true:=by kernel_rfl
theorem authMore_c28:(Rows.authMoreRow.kinds == (if Rows.authMoreRow.domain.isEmpty then[]else Tryz.f5.params.toList.map fun t=>match Tryz.pinned.checked.prog.underlying t with | some (.int k)=>some k | _=>none))=true:=by kernel_rfl
theorem authMore_c29:(Rows.authMoreRow.pinned == Rows.authMoreRow.pinnedBy)=true:=by kernel_rfl
theorem authMore_c30:(Rows.authMoreRow.veiled == (Tryz.f5.params.toList++(OpenSpec.ofChange Rows.authMoreSpec).bare.plain.varTypes Tryz.pinned.checked.prog++Tryz.f5.resultTypes.toList).any (Tryz.pinned.checked.prog.veiledRec ·))=true:=by kernel_rfl
theorem authMore_c31:(Rows.authMoreRow.veiledFits Tryz.pinned.checked.prog Tryz.f5.params.toList (Tryz.f5.params.toList++(OpenSpec.ofChange Rows.authMoreSpec).bare.plain.varTypes Tryz.pinned.checked.prog++Tryz.f5.resultTypes.toList))=true:=by kernel_rfl
set_option maxRecDepth 100000 in
theorem authMore_closed:joinedFacts Tryz.pinned.checked.prog 5 Tryz.f5 (OpenSpec.ofChange Rows.authMoreSpec).bare Rows.authMoreRow=true:=(authMore_andI (authMore_andI (authMore_andI (authMore_andI (authMore_andI (authMore_andI (authMore_andI (authMore_andI (authMore_andI (authMore_andI (authMore_andI (authMore_andI (authMore_andI (authMore_andI (authMore_andI (authMore_andI (authMore_andI (authMore_andI (authMore_andI (authMore_andI (authMore_andI (authMore_andI (authMore_andI (authMore_andI (authMore_andI (authMore_andI (authMore_andI (authMore_andI (authMore_andI (authMore_andI (authMore_andI authMore_c0 authMore_c1) authMore_c2) authMore_c3) authMore_c4) authMore_c5) authMore_c6) authMore_c7) authMore_c8) authMore_c9) authMore_c10) authMore_c11) authMore_c12) authMore_c13) authMore_c14) authMore_c15) authMore_c16) authMore_c17) authMore_c18) authMore_c19) authMore_c20) authMore_c21) authMore_c22) authMore_c23) authMore_c24) authMore_c25) authMore_c26) authMore_c27) authMore_c28) authMore_c29) authMore_c30) authMore_c31)
end Go.Proofs.YtipcngglmebiiaaGreatDoor
