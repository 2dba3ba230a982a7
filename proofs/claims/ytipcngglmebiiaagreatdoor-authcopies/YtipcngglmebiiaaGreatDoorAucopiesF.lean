import Derived.Test.YtipcngglmebiiaaGreatDoorRows
import Derived.Test.YtipcngglmebiiaaGreatDoorChecked
import Derived.KernelRfl
import Derived.JoinedOf
import Derived.JoinedCond
set_option linter.unusedVariables false
set_option maxHeartbeats 12000000
namespace Go.Proofs.YtipcngglmebiiaaGreatDoor
open Go.ChangeShapes Go.WideShapes Go.ChangeAt
theorem authCopies_andI {a b:Bool}(h:a=true)(k:b=true):(a && b)=true:=by rw[h,k];rfl
theorem authCopies_c0:(Rows.authCopiesRow.wf (OpenSpec.ofChange (OpenSpec.ofChange Rows.authCopiesSpec).bare))=true:=by kernel_rfl
theorem authCopies_c1:(laidOutB Tryz.pinned.checked.prog)=true:=by kernel_rfl
theorem authCopies_c2:(mapsRowed Tryz.pinned.checked.prog)=true:=by kernel_rfl
theorem authCopies_c3:(Tryz.f8.params.all (Tryz.pinned.checked.prog.readableRec ·))=true:=by kernel_rfl
theorem authCopies_c4:(namedTie Tryz.pinned.checked.prog Rows.authCopiesRow.named (OpenSpec.ofChange Rows.authCopiesSpec).bare.vars)=true:=by kernel_rfl
theorem authCopies_c5:(Rows.authCopiesRow.stops == [])=true:=by kernel_rfl
theorem authCopies_c6:(Tryz.pinned.checked.prog.stops == [])=true:=by kernel_rfl
theorem authCopies_c7:(Rows.authCopiesRow.knobs == [])=true:=by kernel_rfl
theorem authCopies_c8:(Tryz.pinned.checked.prog.stopKnobs == [])=true:=by kernel_rfl
theorem authCopies_c9:(Rows.authCopiesRow.inPlace == Tryz.pinned.checked.prog.inPlace 8)=true:=by kernel_rfl
theorem authCopies_c10:(Rows.authCopiesRow.unfollowed == Tryz.pinned.checked.prog.unfollowed 8)=true:=by kernel_rfl
theorem authCopies_c11:(Rows.authCopiesRow.recurses == Tryz.pinned.checked.prog.recurses 8)=true:=by kernel_rfl
theorem authCopies_c12:(Rows.authCopiesRow.named == Tryz.pinned.checked.prog.varsNamed 8)=true:=by kernel_rfl
theorem authCopies_c13:(Rows.authCopiesRow.maps == (Tryz.f8.params.toList++(OpenSpec.ofChange Rows.authCopiesSpec).bare.plain.varTypes Tryz.pinned.checked.prog).any (Tryz.pinned.checked.prog.mapsRec ·))=true:=by kernel_rfl
theorem authCopies_c14:(Rows.authCopiesRow.ifaces == (Tryz.f8.params.toList++(OpenSpec.ofChange Rows.authCopiesSpec).bare.plain.varTypes Tryz.pinned.checked.prog).any (Tryz.pinned.checked.prog.ifacesRec ·))=true:=by kernel_rfl
theorem authCopies_c15:(Rows.authCopiesRow.mapsOut == Tryz.pinned.checked.prog.mapsAmong Tryz.f8.resultTypes.toList)=true:=by kernel_rfl
theorem authCopies_c16:(Rows.authCopiesRow.loops == (Tryz.f8.params.toList++(OpenSpec.ofChange Rows.authCopiesSpec).bare.plain.varTypes Tryz.pinned.checked.prog).any (Tryz.pinned.checked.prog.loopsFrom ·))=true:=by kernel_rfl
theorem authCopies_c17:(Rows.authCopiesRow.wideKeys == (Tryz.f8.params.toList++(OpenSpec.ofChange Rows.authCopiesSpec).bare.plain.varTypes Tryz.pinned.checked.prog++Tryz.f8.resultTypes.toList).any (Tryz.pinned.checked.prog.wideKeysFrom ·))=true:=by kernel_rfl
theorem authCopies_c18:((OpenSpec.ofChange Rows.authCopiesSpec).bare.vars.all (Tryz.pinned.checked.prog.varReadable ·))=true:=by kernel_rfl
theorem authCopies_c19:(Tryz.f8.resultTypes.all (fun t=>Tryz.pinned.checked.prog.readableRec t && decide (t<Tryz.pinned.checked.prog.types.size)))=true:=by kernel_rfl
theorem authCopies_c20:(Rows.authCopiesRow.ifacesOut == Tryz.f8.resultTypes.toList.any (Tryz.pinned.checked.prog.ifacesRec ·))=true:=by kernel_rfl
theorem authCopies_c21:(Rows.authCopiesRow.loopsOut == Tryz.f8.resultTypes.toList.any (Tryz.pinned.checked.prog.loopsFrom ·))=true:=by kernel_rfl
theorem authCopies_c22:(Rows.authCopiesRow.plainKeys == Tryz.pinned.checked.prog.plainKeys)=true:=by kernel_rfl
theorem authCopies_c23:(Rows.authCopiesRow.shortTexts.isNone)=true:=by kernel_rfl
theorem authCopies_c24:(Tryz.pinned.checked.prog.stopsHeard)=true:=by kernel_rfl
theorem authCopies_c25:(Tryz.pinned.checked.prog.mayEnter)=true:=by kernel_rfl
theorem authCopies_c26:(Rows.authCopiesRow.lifted == Tryz.pinned.checked.prog.liftsFinal)=true:=by kernel_rfl
theorem authCopies_c27:(Tryz.pinned.checked.prog.make == some Rows.authCopiesRow.make)=true:=by kernel_rfl
theorem authCopies_c28:(Rows.authCopiesRow.kinds == (if Rows.authCopiesRow.domain.isEmpty then[]else Tryz.f8.params.toList.map fun t=>match Tryz.pinned.checked.prog.underlying t with | some (.int k)=>some k | _=>none))=true:=by kernel_rfl
theorem authCopies_c29:(Rows.authCopiesRow.pinned == Rows.authCopiesRow.pinnedBy)=true:=by kernel_rfl
theorem authCopies_c30:(Rows.authCopiesRow.veiled == (Tryz.f8.params.toList++(OpenSpec.ofChange Rows.authCopiesSpec).bare.plain.varTypes Tryz.pinned.checked.prog++Tryz.f8.resultTypes.toList).any (Tryz.pinned.checked.prog.veiledRec ·))=true:=by kernel_rfl
theorem authCopies_c31:(Rows.authCopiesRow.veiledFits Tryz.pinned.checked.prog Tryz.f8.params.toList (Tryz.f8.params.toList++(OpenSpec.ofChange Rows.authCopiesSpec).bare.plain.varTypes Tryz.pinned.checked.prog++Tryz.f8.resultTypes.toList))=true:=by kernel_rfl
set_option maxRecDepth 100000 in
theorem authCopies_closed:joinedFacts Tryz.pinned.checked.prog 8 Tryz.f8 (OpenSpec.ofChange Rows.authCopiesSpec).bare Rows.authCopiesRow=true:=(authCopies_andI (authCopies_andI (authCopies_andI (authCopies_andI (authCopies_andI (authCopies_andI (authCopies_andI (authCopies_andI (authCopies_andI (authCopies_andI (authCopies_andI (authCopies_andI (authCopies_andI (authCopies_andI (authCopies_andI (authCopies_andI (authCopies_andI (authCopies_andI (authCopies_andI (authCopies_andI (authCopies_andI (authCopies_andI (authCopies_andI (authCopies_andI (authCopies_andI (authCopies_andI (authCopies_andI (authCopies_andI (authCopies_andI (authCopies_andI (authCopies_andI authCopies_c0 authCopies_c1) authCopies_c2) authCopies_c3) authCopies_c4) authCopies_c5) authCopies_c6) authCopies_c7) authCopies_c8) authCopies_c9) authCopies_c10) authCopies_c11) authCopies_c12) authCopies_c13) authCopies_c14) authCopies_c15) authCopies_c16) authCopies_c17) authCopies_c18) authCopies_c19) authCopies_c20) authCopies_c21) authCopies_c22) authCopies_c23) authCopies_c24) authCopies_c25) authCopies_c26) authCopies_c27) authCopies_c28) authCopies_c29) authCopies_c30) authCopies_c31)
end Go.Proofs.YtipcngglmebiiaaGreatDoor
