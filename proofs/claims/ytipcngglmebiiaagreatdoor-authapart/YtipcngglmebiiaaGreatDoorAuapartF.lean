import Derived.Test.YtipcngglmebiiaaGreatDoorRows
import Derived.Test.YtipcngglmebiiaaGreatDoorChecked
import Derived.KernelRfl
import Derived.JoinedOf
import Derived.JoinedCond
set_option linter.unusedVariables false
set_option maxHeartbeats 12000000
namespace Go.Proofs.YtipcngglmebiiaaGreatDoor
open Go.ChangeShapes Go.WideShapes Go.ChangeAt
theorem authApart_andI {a b:Bool}(h:a=true)(k:b=true):(a && b)=true:=by rw[h,k];rfl
theorem authApart_c0:(Rows.authApartRow.wf (OpenSpec.ofChange (OpenSpec.ofChange Rows.authApartSpec).bare))=true:=by kernel_rfl
theorem authApart_c1:(laidOutB Tryz.pinned.checked.prog)=true:=by kernel_rfl
theorem authApart_c2:(mapsRowed Tryz.pinned.checked.prog)=true:=by kernel_rfl
theorem authApart_c3:(Tryz.f7.params.all (Tryz.pinned.checked.prog.readableRec ·))=true:=by kernel_rfl
theorem authApart_c4:(namedTie Tryz.pinned.checked.prog Rows.authApartRow.named (OpenSpec.ofChange Rows.authApartSpec).bare.vars)=true:=by kernel_rfl
theorem authApart_c5:(Rows.authApartRow.stops == [])=true:=by kernel_rfl
theorem authApart_c6:(Tryz.pinned.checked.prog.stops == [])=true:=by kernel_rfl
theorem authApart_c7:(Rows.authApartRow.knobs == [])=true:=by kernel_rfl
theorem authApart_c8:(Tryz.pinned.checked.prog.stopKnobs == [])=true:=by kernel_rfl
theorem authApart_c9:(Rows.authApartRow.inPlace == Tryz.pinned.checked.prog.inPlace 7)=true:=by kernel_rfl
theorem authApart_c10:(Rows.authApartRow.unfollowed == Tryz.pinned.checked.prog.unfollowed 7)=true:=by kernel_rfl
theorem authApart_c11:(Rows.authApartRow.recurses == Tryz.pinned.checked.prog.recurses 7)=true:=by kernel_rfl
theorem authApart_c12:(Rows.authApartRow.named == Tryz.pinned.checked.prog.varsNamed 7)=true:=by kernel_rfl
theorem authApart_c13:(Rows.authApartRow.maps == (Tryz.f7.params.toList++(OpenSpec.ofChange Rows.authApartSpec).bare.plain.varTypes Tryz.pinned.checked.prog).any (Tryz.pinned.checked.prog.mapsRec ·))=true:=by kernel_rfl
theorem authApart_c14:(Rows.authApartRow.ifaces == (Tryz.f7.params.toList++(OpenSpec.ofChange Rows.authApartSpec).bare.plain.varTypes Tryz.pinned.checked.prog).any (Tryz.pinned.checked.prog.ifacesRec ·))=true:=by kernel_rfl
theorem authApart_c15:(Rows.authApartRow.mapsOut == Tryz.pinned.checked.prog.mapsAmong Tryz.f7.resultTypes.toList)=true:=by kernel_rfl
theorem authApart_c16:(Rows.authApartRow.loops == (Tryz.f7.params.toList++(OpenSpec.ofChange Rows.authApartSpec).bare.plain.varTypes Tryz.pinned.checked.prog).any (Tryz.pinned.checked.prog.loopsFrom ·))=true:=by kernel_rfl
theorem authApart_c17:(Rows.authApartRow.wideKeys == (Tryz.f7.params.toList++(OpenSpec.ofChange Rows.authApartSpec).bare.plain.varTypes Tryz.pinned.checked.prog++Tryz.f7.resultTypes.toList).any (Tryz.pinned.checked.prog.wideKeysFrom ·))=true:=by kernel_rfl
theorem authApart_c18:((OpenSpec.ofChange Rows.authApartSpec).bare.vars.all (Tryz.pinned.checked.prog.varReadable ·))=true:=by kernel_rfl
theorem authApart_c19:(Tryz.f7.resultTypes.all (fun t=>Tryz.pinned.checked.prog.readableRec t && decide (t<Tryz.pinned.checked.prog.types.size)))=true:=by kernel_rfl
theorem authApart_c20:(Rows.authApartRow.ifacesOut == Tryz.f7.resultTypes.toList.any (Tryz.pinned.checked.prog.ifacesRec ·))=true:=by kernel_rfl
theorem authApart_c21:(Rows.authApartRow.loopsOut == Tryz.f7.resultTypes.toList.any (Tryz.pinned.checked.prog.loopsFrom ·))=true:=by kernel_rfl
theorem authApart_c22:(Rows.authApartRow.plainKeys == Tryz.pinned.checked.prog.plainKeys)=true:=by kernel_rfl
theorem authApart_c23:(Rows.authApartRow.shortTexts.isNone)=true:=by kernel_rfl
theorem authApart_c24:(Tryz.pinned.checked.prog.stopsHeard)=true:=by kernel_rfl
theorem authApart_c25:(Tryz.pinned.checked.prog.mayEnter)=true:=by kernel_rfl
theorem authApart_c26:(Rows.authApartRow.lifted == Tryz.pinned.checked.prog.liftsFinal)=true:=by kernel_rfl
theorem authApart_c27:(Tryz.pinned.checked.prog.make == some Rows.authApartRow.make)=true:=by kernel_rfl
theorem authApart_c28:(Rows.authApartRow.kinds == (if Rows.authApartRow.domain.isEmpty then[]else Tryz.f7.params.toList.map fun t=>match Tryz.pinned.checked.prog.underlying t with | some (.int k)=>some k | _=>none))=true:=by kernel_rfl
theorem authApart_c29:(Rows.authApartRow.pinned == Rows.authApartRow.pinnedBy)=true:=by kernel_rfl
theorem authApart_c30:(Rows.authApartRow.veiled == (Tryz.f7.params.toList++(OpenSpec.ofChange Rows.authApartSpec).bare.plain.varTypes Tryz.pinned.checked.prog++Tryz.f7.resultTypes.toList).any (Tryz.pinned.checked.prog.veiledRec ·))=true:=by kernel_rfl
theorem authApart_c31:(Rows.authApartRow.veiledFits Tryz.pinned.checked.prog Tryz.f7.params.toList (Tryz.f7.params.toList++(OpenSpec.ofChange Rows.authApartSpec).bare.plain.varTypes Tryz.pinned.checked.prog++Tryz.f7.resultTypes.toList))=true:=by kernel_rfl
set_option maxRecDepth 100000 in
theorem authApart_closed:joinedFacts Tryz.pinned.checked.prog 7 Tryz.f7 (OpenSpec.ofChange Rows.authApartSpec).bare Rows.authApartRow=true:=(authApart_andI (authApart_andI (authApart_andI (authApart_andI (authApart_andI (authApart_andI (authApart_andI (authApart_andI (authApart_andI (authApart_andI (authApart_andI (authApart_andI (authApart_andI (authApart_andI (authApart_andI (authApart_andI (authApart_andI (authApart_andI (authApart_andI (authApart_andI (authApart_andI (authApart_andI (authApart_andI (authApart_andI (authApart_andI (authApart_andI (authApart_andI (authApart_andI (authApart_andI (authApart_andI (authApart_andI authApart_c0 authApart_c1) authApart_c2) authApart_c3) authApart_c4) authApart_c5) authApart_c6) authApart_c7) authApart_c8) authApart_c9) authApart_c10) authApart_c11) authApart_c12) authApart_c13) authApart_c14) authApart_c15) authApart_c16) authApart_c17) authApart_c18) authApart_c19) authApart_c20) authApart_c21) authApart_c22) authApart_c23) authApart_c24) authApart_c25) authApart_c26) authApart_c27) authApart_c28) authApart_c29) authApart_c30) authApart_c31)
end Go.Proofs.YtipcngglmebiiaaGreatDoor
