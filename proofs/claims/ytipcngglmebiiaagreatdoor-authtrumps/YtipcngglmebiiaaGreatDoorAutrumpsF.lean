import Derived.Test.YtipcngglmebiiaaGreatDoorRows
import Derived.Test.YtipcngglmebiiaaGreatDoorChecked
import Derived.KernelRfl
import Derived.JoinedOf
import Derived.JoinedCond
set_option linter.unusedVariables false
set_option maxHeartbeats 12000000
namespace Go.Proofs.YtipcngglmebiiaaGreatDoor
open Go.ChangeShapes Go.WideShapes Go.ChangeAt
theorem authTrumps_andI {a b:Bool}(h:a=true)(k:b=true):(a && b)=true:=by rw[h,k];rfl
theorem authTrumps_c0:(Rows.authTrumpsRow.wf (OpenSpec.ofChange (OpenSpec.ofChange Rows.authTrumpsSpec).bare))=true:=by kernel_rfl
theorem authTrumps_c1:(laidOutB Tryz.pinned.checked.prog)=true:=by kernel_rfl
theorem authTrumps_c2:(mapsRowed Tryz.pinned.checked.prog)=true:=by kernel_rfl
theorem authTrumps_c3:(Tryz.f4.params.all (Tryz.pinned.checked.prog.readableRec ·))=true:=by kernel_rfl
theorem authTrumps_c4:(namedTie Tryz.pinned.checked.prog Rows.authTrumpsRow.named (OpenSpec.ofChange Rows.authTrumpsSpec).bare.vars)=true:=by kernel_rfl
theorem authTrumps_c5:(Rows.authTrumpsRow.stops == [])=true:=by kernel_rfl
theorem authTrumps_c6:(Tryz.pinned.checked.prog.stops == [])=true:=by kernel_rfl
theorem authTrumps_c7:(Rows.authTrumpsRow.knobs == [])=true:=by kernel_rfl
theorem authTrumps_c8:(Tryz.pinned.checked.prog.stopKnobs == [])=true:=by kernel_rfl
theorem authTrumps_c9:(Rows.authTrumpsRow.inPlace == Tryz.pinned.checked.prog.inPlace 4)=true:=by kernel_rfl
theorem authTrumps_c10:(Rows.authTrumpsRow.unfollowed == Tryz.pinned.checked.prog.unfollowed 4)=true:=by kernel_rfl
theorem authTrumps_c11:(Rows.authTrumpsRow.recurses == Tryz.pinned.checked.prog.recurses 4)=true:=by kernel_rfl
theorem authTrumps_c12:(Rows.authTrumpsRow.named == Tryz.pinned.checked.prog.varsNamed 4)=true:=by kernel_rfl
theorem authTrumps_c13:(Rows.authTrumpsRow.maps == (Tryz.f4.params.toList++(OpenSpec.ofChange Rows.authTrumpsSpec).bare.plain.varTypes Tryz.pinned.checked.prog).any (Tryz.pinned.checked.prog.mapsRec ·))=true:=by kernel_rfl
theorem authTrumps_c14:(Rows.authTrumpsRow.ifaces == (Tryz.f4.params.toList++(OpenSpec.ofChange Rows.authTrumpsSpec).bare.plain.varTypes Tryz.pinned.checked.prog).any (Tryz.pinned.checked.prog.ifacesRec ·))=true:=by kernel_rfl
theorem authTrumps_c15:(Rows.authTrumpsRow.mapsOut == Tryz.pinned.checked.prog.mapsAmong Tryz.f4.resultTypes.toList)=true:=by kernel_rfl
theorem authTrumps_c16:(Rows.authTrumpsRow.loops == (Tryz.f4.params.toList++(OpenSpec.ofChange Rows.authTrumpsSpec).bare.plain.varTypes Tryz.pinned.checked.prog).any (Tryz.pinned.checked.prog.loopsFrom ·))=true:=by kernel_rfl
theorem authTrumps_c17:(Rows.authTrumpsRow.wideKeys == (Tryz.f4.params.toList++(OpenSpec.ofChange Rows.authTrumpsSpec).bare.plain.varTypes Tryz.pinned.checked.prog++Tryz.f4.resultTypes.toList).any (Tryz.pinned.checked.prog.wideKeysFrom ·))=true:=by kernel_rfl
theorem authTrumps_c18:((OpenSpec.ofChange Rows.authTrumpsSpec).bare.vars.all (Tryz.pinned.checked.prog.varReadable ·))=true:=by kernel_rfl
theorem authTrumps_c19:(Tryz.f4.resultTypes.all (fun t=>Tryz.pinned.checked.prog.readableRec t && decide (t<Tryz.pinned.checked.prog.types.size)))=true:=by kernel_rfl
theorem authTrumps_c20:(Rows.authTrumpsRow.ifacesOut == Tryz.f4.resultTypes.toList.any (Tryz.pinned.checked.prog.ifacesRec ·))=true:=by kernel_rfl
theorem authTrumps_c21:(Rows.authTrumpsRow.loopsOut == Tryz.f4.resultTypes.toList.any (Tryz.pinned.checked.prog.loopsFrom ·))=true:=by kernel_rfl
theorem authTrumps_c22:(Rows.authTrumpsRow.plainKeys == Tryz.pinned.checked.prog.plainKeys)=true:=by kernel_rfl
theorem authTrumps_c23:(Rows.authTrumpsRow.shortTexts.isNone)=true:=by kernel_rfl
theorem authTrumps_c24:(Tryz.pinned.checked.prog.stopsHeard)=true:=by kernel_rfl
theorem authTrumps_c25:(Tryz.pinned.checked.prog.mayEnter)=true:=by kernel_rfl
theorem authTrumps_c26:(Rows.authTrumpsRow.lifted == Tryz.pinned.checked.prog.liftsFinal)=true:=by kernel_rfl
theorem authTrumps_c27:(Tryz.pinned.checked.prog.make == some Rows.authTrumpsRow.make)=true:=by kernel_rfl
theorem authTrumps_c28:(Rows.authTrumpsRow.kinds == (if Rows.authTrumpsRow.domain.isEmpty then[]else Tryz.f4.params.toList.map fun t=>match Tryz.pinned.checked.prog.underlying t with | some (.int k)=>some k | _=>none))=true:=by kernel_rfl
theorem authTrumps_c29:(Rows.authTrumpsRow.pinned == Rows.authTrumpsRow.pinnedBy)=true:=by kernel_rfl
theorem authTrumps_c30:(Rows.authTrumpsRow.veiled == (Tryz.f4.params.toList++(OpenSpec.ofChange Rows.authTrumpsSpec).bare.plain.varTypes Tryz.pinned.checked.prog++Tryz.f4.resultTypes.toList).any (Tryz.pinned.checked.prog.veiledRec ·))=true:=by kernel_rfl
theorem authTrumps_c31:(Rows.authTrumpsRow.veiledFits Tryz.pinned.checked.prog Tryz.f4.params.toList (Tryz.f4.params.toList++(OpenSpec.ofChange Rows.authTrumpsSpec).bare.plain.varTypes Tryz.pinned.checked.prog++Tryz.f4.resultTypes.toList))=true:=by kernel_rfl
set_option maxRecDepth 100000 in
theorem authTrumps_closed:joinedFacts Tryz.pinned.checked.prog 4 Tryz.f4 (OpenSpec.ofChange Rows.authTrumpsSpec).bare Rows.authTrumpsRow=true:=(authTrumps_andI (authTrumps_andI (authTrumps_andI (authTrumps_andI (authTrumps_andI (authTrumps_andI (authTrumps_andI (authTrumps_andI (authTrumps_andI (authTrumps_andI (authTrumps_andI (authTrumps_andI (authTrumps_andI (authTrumps_andI (authTrumps_andI (authTrumps_andI (authTrumps_andI (authTrumps_andI (authTrumps_andI (authTrumps_andI (authTrumps_andI (authTrumps_andI (authTrumps_andI (authTrumps_andI (authTrumps_andI (authTrumps_andI (authTrumps_andI (authTrumps_andI (authTrumps_andI (authTrumps_andI (authTrumps_andI authTrumps_c0 authTrumps_c1) authTrumps_c2) authTrumps_c3) authTrumps_c4) authTrumps_c5) authTrumps_c6) authTrumps_c7) authTrumps_c8) authTrumps_c9) authTrumps_c10) authTrumps_c11) authTrumps_c12) authTrumps_c13) authTrumps_c14) authTrumps_c15) authTrumps_c16) authTrumps_c17) authTrumps_c18) authTrumps_c19) authTrumps_c20) authTrumps_c21) authTrumps_c22) authTrumps_c23) authTrumps_c24) authTrumps_c25) authTrumps_c26) authTrumps_c27) authTrumps_c28) authTrumps_c29) authTrumps_c30) authTrumps_c31)
end Go.Proofs.YtipcngglmebiiaaGreatDoor
