import Derived.Test.YtlnhaajjoplafaaGreatDoorRows
import Derived.Test.YtlnhaajjoplafaaGreatDoorChecked
import Derived.KernelRfl
import Derived.JoinedOf
import Derived.JoinedCond
set_option linter.unusedVariables false
set_option maxHeartbeats 12000000
namespace Go.Proofs.YtlnhaajjoplafaaGreatDoor
open Go.ChangeShapes Go.WideShapes Go.ChangeAt
theorem topLinked_andI {a b:Bool}(h:a=true)(k:b=true):(a && b)=true:=by rw[h,k];rfl
theorem topLinked_c0:(Rows.topLinkedRow.wf (OpenSpec.ofChange (OpenSpec.ofChange Rows.topLinkedSpec).bare))=true:=by kernel_rfl
theorem topLinked_c1:(laidOutB Tryz.pinned.checked.prog)=true:=by kernel_rfl
theorem topLinked_c2:(mapsRowed Tryz.pinned.checked.prog)=true:=by kernel_rfl
theorem topLinked_c3:(Tryz.f3.params.all (Tryz.pinned.checked.prog.readableRec ·))=true:=by kernel_rfl
theorem topLinked_c4:(namedTie Tryz.pinned.checked.prog Rows.topLinkedRow.named (OpenSpec.ofChange Rows.topLinkedSpec).bare.vars)=true:=by kernel_rfl
theorem topLinked_c5:(Rows.topLinkedRow.stops == [])=true:=by kernel_rfl
theorem topLinked_c6:(Tryz.pinned.checked.prog.stops == [])=true:=by kernel_rfl
theorem topLinked_c7:(Rows.topLinkedRow.knobs == [])=true:=by kernel_rfl
theorem topLinked_c8:(Tryz.pinned.checked.prog.stopKnobs == [])=true:=by kernel_rfl
theorem topLinked_c9:(Rows.topLinkedRow.inPlace == Tryz.pinned.checked.prog.inPlace 3)=true:=by kernel_rfl
theorem topLinked_c10:(Rows.topLinkedRow.unfollowed == Tryz.pinned.checked.prog.unfollowed 3)=true:=by kernel_rfl
theorem topLinked_c11:(Rows.topLinkedRow.recurses == Tryz.pinned.checked.prog.recurses 3)=true:=by kernel_rfl
theorem topLinked_c12:(Rows.topLinkedRow.named == Tryz.pinned.checked.prog.varsNamed 3)=true:=by kernel_rfl
theorem topLinked_c13:(Rows.topLinkedRow.maps == (Tryz.f3.params.toList++(OpenSpec.ofChange Rows.topLinkedSpec).bare.plain.varTypes Tryz.pinned.checked.prog).any (Tryz.pinned.checked.prog.mapsRec ·))=true:=by kernel_rfl
theorem topLinked_c14:(Rows.topLinkedRow.ifaces == (Tryz.f3.params.toList++(OpenSpec.ofChange Rows.topLinkedSpec).bare.plain.varTypes Tryz.pinned.checked.prog).any (Tryz.pinned.checked.prog.ifacesRec ·))=true:=by kernel_rfl
theorem topLinked_c15:(Rows.topLinkedRow.mapsOut == Tryz.pinned.checked.prog.mapsAmong Tryz.f3.resultTypes.toList)=true:=by kernel_rfl
theorem topLinked_c16:(Rows.topLinkedRow.loops == (Tryz.f3.params.toList++(OpenSpec.ofChange Rows.topLinkedSpec).bare.plain.varTypes Tryz.pinned.checked.prog).any (Tryz.pinned.checked.prog.loopsFrom ·))=true:=by kernel_rfl
theorem topLinked_c17:(Rows.topLinkedRow.wideKeys == (Tryz.f3.params.toList++(OpenSpec.ofChange Rows.topLinkedSpec).bare.plain.varTypes Tryz.pinned.checked.prog++Tryz.f3.resultTypes.toList).any (Tryz.pinned.checked.prog.wideKeysFrom ·))=true:=by kernel_rfl
theorem topLinked_c18:((OpenSpec.ofChange Rows.topLinkedSpec).bare.vars.all (Tryz.pinned.checked.prog.varReadable ·))=true:=by kernel_rfl
theorem topLinked_c19:(Tryz.f3.resultTypes.all (fun t=>Tryz.pinned.checked.prog.readableRec t && decide (t<Tryz.pinned.checked.prog.types.size)))=true:=by kernel_rfl
theorem topLinked_c20:(Rows.topLinkedRow.ifacesOut == Tryz.f3.resultTypes.toList.any (Tryz.pinned.checked.prog.ifacesRec ·))=true:=by kernel_rfl
theorem topLinked_c21:(Rows.topLinkedRow.loopsOut == Tryz.f3.resultTypes.toList.any (Tryz.pinned.checked.prog.loopsFrom ·))=true:=by kernel_rfl
theorem topLinked_c22:(Rows.topLinkedRow.plainKeys == Tryz.pinned.checked.prog.plainKeys)=true:=by kernel_rfl
theorem topLinked_c23:(Rows.topLinkedRow.shortTexts.isNone)=true:=by kernel_rfl
theorem topLinked_c24:(Tryz.pinned.checked.prog.stopsHeard)=true:=by kernel_rfl
theorem topLinked_c25:(Tryz.pinned.checked.prog.mayEnter)=true:=by kernel_rfl
theorem topLinked_c26:(Rows.topLinkedRow.lifted == Tryz.pinned.checked.prog.liftsFinal)=true:=by kernel_rfl
theorem topLinked_c27:(Tryz.pinned.checked.prog.make == some Rows.topLinkedRow.make)=true:=by kernel_rfl
theorem topLinked_c28:(Rows.topLinkedRow.kinds == (if Rows.topLinkedRow.domain.isEmpty then[]else Tryz.f3.params.toList.map fun t=>match Tryz.pinned.checked.prog.underlying t with | some (.int k)=>some k | _=>none))=true:=by kernel_rfl
theorem topLinked_c29:(Rows.topLinkedRow.pinned == Rows.topLinkedRow.pinnedBy)=true:=by kernel_rfl
theorem topLinked_c30:(Rows.topLinkedRow.veiled == (Tryz.f3.params.toList++(OpenSpec.ofChange Rows.topLinkedSpec).bare.plain.varTypes Tryz.pinned.checked.prog++Tryz.f3.resultTypes.toList).any (Tryz.pinned.checked.prog.veiledRec ·))=true:=by kernel_rfl
theorem topLinked_c31:(Rows.topLinkedRow.veiledFits Tryz.pinned.checked.prog Tryz.f3.params.toList (Tryz.f3.params.toList++(OpenSpec.ofChange Rows.topLinkedSpec).bare.plain.varTypes Tryz.pinned.checked.prog++Tryz.f3.resultTypes.toList))=true:=by kernel_rfl
set_option maxRecDepth 100000 in
theorem topLinked_closed:joinedFacts Tryz.pinned.checked.prog 3 Tryz.f3 (OpenSpec.ofChange Rows.topLinkedSpec).bare Rows.topLinkedRow=true:=(topLinked_andI (topLinked_andI (topLinked_andI (topLinked_andI (topLinked_andI (topLinked_andI (topLinked_andI (topLinked_andI (topLinked_andI (topLinked_andI (topLinked_andI (topLinked_andI (topLinked_andI (topLinked_andI (topLinked_andI (topLinked_andI (topLinked_andI (topLinked_andI (topLinked_andI (topLinked_andI (topLinked_andI (topLinked_andI (topLinked_andI (topLinked_andI (topLinked_andI (topLinked_andI (topLinked_andI (topLinked_andI (topLinked_andI (topLinked_andI (topLinked_andI topLinked_c0 topLinked_c1) topLinked_c2) topLinked_c3) topLinked_c4) topLinked_c5) topLinked_c6) topLinked_c7) topLinked_c8) topLinked_c9) topLinked_c10) topLinked_c11) topLinked_c12) topLinked_c13) topLinked_c14) topLinked_c15) topLinked_c16) topLinked_c17) topLinked_c18) topLinked_c19) topLinked_c20) topLinked_c21) topLinked_c22) topLinked_c23) topLinked_c24) topLinked_c25) topLinked_c26) topLinked_c27) topLinked_c28) topLinked_c29) topLinked_c30) topLinked_c31)
end Go.Proofs.YtlnhaajjoplafaaGreatDoor
