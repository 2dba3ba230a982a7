import Derived.Test.YtjkepjbfgeldnaaGreatDoorRows
import Derived.Test.YtjkepjbfgeldnaaGreatDoorChecked
import Derived.KernelRfl
import Derived.JoinedOf
import Derived.JoinedCond
set_option linter.unusedVariables false
set_option maxHeartbeats 12000000
namespace Go.Proofs.YtjkepjbfgeldnaaGreatDoor
open Go.ChangeShapes Go.WideShapes Go.ChangeAt
theorem polBack_andI {a b:Bool}(h:a=true)(k:b=true):(a && b)=true:=by rw[h,k];rfl
theorem polBack_c0:(Rows.polBackRow.wf (OpenSpec.ofChange (OpenSpec.ofChange Rows.polBackSpec).bare))=true:=by kernel_rfl
theorem polBack_c1:(laidOutB Tryz.pinned.checked.prog)=true:=by kernel_rfl
theorem polBack_c2:(mapsRowed Tryz.pinned.checked.prog)=true:=by kernel_rfl
theorem polBack_c3:(Tryz.f3.params.all (Tryz.pinned.checked.prog.readableRec ·))=true:=by kernel_rfl
theorem polBack_c4:(namedTie Tryz.pinned.checked.prog Rows.polBackRow.named (OpenSpec.ofChange Rows.polBackSpec).bare.vars)=true:=by kernel_rfl
theorem polBack_c5:(Rows.polBackRow.stops == [])=true:=by kernel_rfl
theorem polBack_c6:(Tryz.pinned.checked.prog.stops == [])=true:=by kernel_rfl
theorem polBack_c7:(Rows.polBackRow.knobs == [])=true:=by kernel_rfl
theorem polBack_c8:(Tryz.pinned.checked.prog.stopKnobs == [])=true:=by kernel_rfl
theorem polBack_c9:(Rows.polBackRow.inPlace == Tryz.pinned.checked.prog.inPlace 3)=true:=by kernel_rfl
theorem polBack_c10:(Rows.polBackRow.unfollowed == Tryz.pinned.checked.prog.unfollowed 3)=true:=by kernel_rfl
theorem polBack_c11:(Rows.polBackRow.recurses == Tryz.pinned.checked.prog.recurses 3)=true:=by kernel_rfl
theorem polBack_c12:(Rows.polBackRow.named == Tryz.pinned.checked.prog.varsNamed 3)=true:=by kernel_rfl
theorem polBack_c13:(Rows.polBackRow.maps == (Tryz.f3.params.toList++(OpenSpec.ofChange Rows.polBackSpec).bare.plain.varTypes Tryz.pinned.checked.prog).any (Tryz.pinned.checked.prog.mapsRec ·))=true:=by kernel_rfl
theorem polBack_c14:(Rows.polBackRow.ifaces == (Tryz.f3.params.toList++(OpenSpec.ofChange Rows.polBackSpec).bare.plain.varTypes Tryz.pinned.checked.prog).any (Tryz.pinned.checked.prog.ifacesRec ·))=true:=by kernel_rfl
theorem polBack_c15:(Rows.polBackRow.mapsOut == Tryz.pinned.checked.prog.mapsAmong Tryz.f3.resultTypes.toList)=true:=by kernel_rfl
theorem polBack_c16:(Rows.polBackRow.loops == (Tryz.f3.params.toList++(OpenSpec.ofChange Rows.polBackSpec).bare.plain.varTypes Tryz.pinned.checked.prog).any (Tryz.pinned.checked.prog.loopsFrom ·))=true:=by kernel_rfl
theorem polBack_c17:(Rows.polBackRow.wideKeys == (Tryz.f3.params.toList++(OpenSpec.ofChange Rows.polBackSpec).bare.plain.varTypes Tryz.pinned.checked.prog++Tryz.f3.resultTypes.toList).any (Tryz.pinned.checked.prog.wideKeysFrom ·))=true:=by kernel_rfl
theorem polBack_c18:((OpenSpec.ofChange Rows.polBackSpec).bare.vars.all (Tryz.pinned.checked.prog.varReadable ·))=true:=by kernel_rfl
theorem polBack_c19:(Tryz.f3.resultTypes.all (fun t=>Tryz.pinned.checked.prog.readableRec t && decide (t<Tryz.pinned.checked.prog.types.size)))=true:=by kernel_rfl
theorem polBack_c20:(Rows.polBackRow.ifacesOut == Tryz.f3.resultTypes.toList.any (Tryz.pinned.checked.prog.ifacesRec ·))=true:=by kernel_rfl
theorem polBack_c21:(Rows.polBackRow.loopsOut == Tryz.f3.resultTypes.toList.any (Tryz.pinned.checked.prog.loopsFrom ·))=true:=by kernel_rfl
theorem polBack_c22:(Rows.polBackRow.plainKeys == Tryz.pinned.checked.prog.plainKeys)=true:=by kernel_rfl
theorem polBack_c23:(Rows.polBackRow.shortTexts.isNone)=true:=by kernel_rfl
theorem polBack_c24:(Tryz.pinned.checked.prog.stopsHeard)=true:=by kernel_rfl
theorem polBack_c25:(Tryz.pinned.checked.prog.mayEnter)=true:=by kernel_rfl
theorem polBack_c26:(Rows.polBackRow.lifted == Tryz.pinned.checked.prog.liftsFinal)=true:=by kernel_rfl
theorem polBack_c27:(Tryz.pinned.checked.prog.make == some Rows.polBackRow.make)=true:=by kernel_rfl
theorem polBack_c28:(Rows.polBackRow.kinds == (if Rows.polBackRow.domain.isEmpty then[]else Tryz.f3.params.toList.map fun t=>match Tryz.pinned.checked.prog.underlying t with | some (.int k)=>some k | _=>none))=true:=by kernel_rfl
theorem polBack_c29:(Rows.polBackRow.pinned == Rows.polBackRow.pinnedBy)=true:=by kernel_rfl
theorem polBack_c30:(Rows.polBackRow.veiled == (Tryz.f3.params.toList++(OpenSpec.ofChange Rows.polBackSpec).bare.plain.varTypes Tryz.pinned.checked.prog++Tryz.f3.resultTypes.toList).any (Tryz.pinned.checked.prog.veiledRec ·))=true:=by kernel_rfl
theorem polBack_c31:(Rows.polBackRow.veiledFits Tryz.pinned.checked.prog Tryz.f3.params.toList (Tryz.f3.params.toList++(OpenSpec.ofChange Rows.polBackSpec).bare.plain.varTypes Tryz.pinned.checked.prog++Tryz.f3.resultTypes.toList))=true:=by kernel_rfl
set_option maxRecDepth 100000 in
theorem polBack_closed:joinedFacts Tryz.pinned.checked.prog 3 Tryz.f3 (OpenSpec.ofChange Rows.polBackSpec).bare Rows.polBackRow=true:=(polBack_andI (polBack_andI (polBack_andI (polBack_andI (polBack_andI (polBack_andI (polBack_andI (polBack_andI (polBack_andI (polBack_andI (polBack_andI (polBack_andI (polBack_andI (polBack_andI (polBack_andI (polBack_andI (polBack_andI (polBack_andI (polBack_andI (polBack_andI (polBack_andI (polBack_andI (polBack_andI (polBack_andI (polBack_andI (polBack_andI (polBack_andI (polBack_andI (polBack_andI (polBack_andI (polBack_andI polBack_c0 polBack_c1) polBack_c2) polBack_c3) polBack_c4) polBack_c5) polBack_c6) polBack_c7) polBack_c8) polBack_c9) polBack_c10) polBack_c11) polBack_c12) polBack_c13) polBack_c14) polBack_c15) polBack_c16) polBack_c17) polBack_c18) polBack_c19) polBack_c20) polBack_c21) polBack_c22) polBack_c23) polBack_c24) polBack_c25) polBack_c26) polBack_c27) polBack_c28) polBack_c29) polBack_c30) polBack_c31)
end Go.Proofs.YtjkepjbfgeldnaaGreatDoor
