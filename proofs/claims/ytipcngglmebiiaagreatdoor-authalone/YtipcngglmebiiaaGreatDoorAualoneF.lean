import Derived.Test.YtipcngglmebiiaaGreatDoorRows
import Derived.Test.YtipcngglmebiiaaGreatDoorChecked
import Derived.KernelRfl
import Derived.JoinedOf
import Derived.JoinedCond
set_option linter.unusedVariables false
set_option maxHeartbeats 12000000
namespace Go.Proofs.YtipcngglmebiiaaGreatDoor
open Go.ChangeShapes Go.WideShapes Go.ChangeAt
theorem authAlone_andI {a b:Bool}(h:a=true)(k:b=true):(a && b)=true:=by rw[h,k];rfl
theorem authAlone_c0:(Rows.authAloneRow.wf (OpenSpec.ofChange (OpenSpec.ofChange Rows.authAloneSpec).bare))=true:=by kernel_rfl
theorem authAlone_c1:(laidOutB Tryz.pinned.checked.prog)=true:=by kernel_rfl
theorem authAlone_c2:(mapsRowed Tryz.pinned.checked.prog)=true:=by kernel_rfl
theorem authAlone_c3:(Tryz.f6.params.all (Tryz.pinned.checked.prog.readableRec ·))=true:=by kernel_rfl
theorem authAlone_c4:(namedTie Tryz.pinned.checked.prog Rows.authAloneRow.named (OpenSpec.ofChange Rows.authAloneSpec).bare.vars)=true:=by kernel_rfl
theorem authAlone_c5:(Rows.authAloneRow.stops == [])=true:=by kernel_rfl
theorem authAlone_c6:(Tryz.pinned.checked.prog.stops == [])=true:=by kernel_rfl
theorem authAlone_c7:(Rows.authAloneRow.knobs == [])=true:=by kernel_rfl
theorem authAlone_c8:(Tryz.pinned.checked.prog.stopKnobs == [])=true:=by kernel_rfl
theorem authAlone_c9:(Rows.authAloneRow.inPlace == Tryz.pinned.checked.prog.inPlace 6)=true:=by kernel_rfl
theorem authAlone_c10:(Rows.authAloneRow.unfollowed == Tryz.pinned.checked.prog.unfollowed 6)=true:=by kernel_rfl
theorem authAlone_c11:(Rows.authAloneRow.recurses == Tryz.pinned.checked.prog.recurses 6)=true:=by kernel_rfl
theorem authAlone_c12:(Rows.authAloneRow.named == Tryz.pinned.checked.prog.varsNamed 6)=true:=by kernel_rfl
theorem authAlone_c13:(Rows.authAloneRow.maps == (Tryz.f6.params.toList++(OpenSpec.ofChange Rows.authAloneSpec).bare.plain.varTypes Tryz.pinned.checked.prog).any (Tryz.pinned.checked.prog.mapsRec ·))=true:=by kernel_rfl
theorem authAlone_c14:(Rows.authAloneRow.ifaces == (Tryz.f6.params.toList++(OpenSpec.ofChange Rows.authAloneSpec).bare.plain.varTypes Tryz.pinned.checked.prog).any (Tryz.pinned.checked.prog.ifacesRec ·))=true:=by kernel_rfl
theorem authAlone_c15:(Rows.authAloneRow.mapsOut == Tryz.pinned.checked.prog.mapsAmong Tryz.f6.resultTypes.toList)=true:=by kernel_rfl
theorem authAlone_c16:(Rows.authAloneRow.loops == (Tryz.f6.params.toList++(OpenSpec.ofChange Rows.authAloneSpec).bare.plain.varTypes Tryz.pinned.checked.prog).any (Tryz.pinned.checked.prog.loopsFrom ·))=true:=by kernel_rfl
theorem authAlone_c17:(Rows.authAloneRow.wideKeys == (Tryz.f6.params.toList++(OpenSpec.ofChange Rows.authAloneSpec).bare.plain.varTypes Tryz.pinned.checked.prog++Tryz.f6.resultTypes.toList).any (Tryz.pinned.checked.prog.wideKeysFrom ·))=true:=by kernel_rfl
theorem authAlone_c18:((OpenSpec.ofChange Rows.authAloneSpec).bare.vars.all (Tryz.pinned.checked.prog.varReadable ·))=true:=by kernel_rfl
theorem authAlone_c19:(Tryz.f6.resultTypes.all (fun t=>Tryz.pinned.checked.prog.readableRec t && decide (t<Tryz.pinned.checked.prog.types.size)))=true:=by kernel_rfl
theorem authAlone_c20:(Rows.authAloneRow.ifacesOut == Tryz.f6.resultTypes.toList.any (Tryz.pinned.checked.prog.ifacesRec ·))=true:=by kernel_rfl
theorem authAlone_c21:(Rows.authAloneRow.loopsOut == Tryz.f6.resultTypes.toList.any (Tryz.pinned.checked.prog.loopsFrom ·))=true:=by kernel_rfl
theorem authAlone_c22:(Rows.authAloneRow.plainKeys == Tryz.pinned.checked.prog.plainKeys)=true:=by kernel_rfl
theorem authAlone_c23:(Rows.authAloneRow.shortTexts.isNone)=true:=by kernel_rfl
theorem authAlone_c24:(Tryz.pinned.checked.prog.stopsHeard)=true:=by kernel_rfl
theorem authAlone_c25:(Tryz.pinned.checked.prog.mayEnter)=true:=by kernel_rfl
theorem authAlone_c26:(Rows.authAloneRow.lifted == Tryz.pinned.checked.prog.liftsFinal)=true:=by kernel_rfl
theorem authAlone_c27:(Tryz.pinned.checked.prog.make == some Rows.authAloneRow.make)=true:=by kernel_rfl
theorem authAlone_c28:(Rows.authAloneRow.kinds == (if Rows.authAloneRow.domain.isEmpty then[]else Tryz.f6.params.toList.map fun t=>match Tryz.pinned.checked.prog.underlying t with | some (.int k)=>some k | _=>none))=true:=by kernel_rfl
theorem authAlone_c29:(Rows.authAloneRow.pinned == Rows.authAloneRow.pinnedBy)=true:=by kernel_rfl
theorem authAlone_c30:(Rows.authAloneRow.veiled == (Tryz.f6.params.toList++(OpenSpec.ofChange Rows.authAloneSpec).bare.plain.varTypes Tryz.pinned.checked.prog++Tryz.f6.resultTypes.toList).any (Tryz.pinned.checked.prog.veiledRec ·))=true:=by kernel_rfl
theorem authAlone_c31:(Rows.authAloneRow.veiledFits Tryz.pinned.checked.prog Tryz.f6.params.toList (Tryz.f6.params.toList++(OpenSpec.ofChange Rows.authAloneSpec).bare.plain.varTypes Tryz.pinned.checked.prog++Tryz.f6.resultTypes.toList))=true:=by kernel_rfl
set_option maxRecDepth 100000 in
theorem authAlone_closed:joinedFacts Tryz.pinned.checked.prog 6 Tryz.f6 (OpenSpec.ofChange Rows.authAloneSpec).bare Rows.authAloneRow=true:=(authAlone_andI (authAlone_andI (authAlone_andI (authAlone_andI (authAlone_andI (authAlone_andI (authAlone_andI (authAlone_andI (authAlone_andI (authAlone_andI (authAlone_andI (authAlone_andI (authAlone_andI (authAlone_andI (authAlone_andI (authAlone_andI (authAlone_andI (authAlone_andI (authAlone_andI (authAlone_andI (authAlone_andI (authAlone_andI (authAlone_andI (authAlone_andI (authAlone_andI (authAlone_andI (authAlone_andI (authAlone_andI (authAlone_andI (authAlone_andI (authAlone_andI authAlone_c0 authAlone_c1) authAlone_c2) authAlone_c3) authAlone_c4) authAlone_c5) authAlone_c6) authAlone_c7) authAlone_c8) authAlone_c9) authAlone_c10) authAlone_c11) authAlone_c12) authAlone_c13) authAlone_c14) authAlone_c15) authAlone_c16) authAlone_c17) authAlone_c18) authAlone_c19) authAlone_c20) authAlone_c21) authAlone_c22) authAlone_c23) authAlone_c24) authAlone_c25) authAlone_c26) authAlone_c27) authAlone_c28) authAlone_c29) authAlone_c30) authAlone_c31)
end Go.Proofs.YtipcngglmebiiaaGreatDoor
