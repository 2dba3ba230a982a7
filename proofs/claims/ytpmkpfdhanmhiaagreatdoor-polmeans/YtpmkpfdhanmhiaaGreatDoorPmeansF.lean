import Derived.Test.YtpmkpfdhanmhiaaGreatDoorRows
import Derived.Test.YtpmkpfdhanmhiaaGreatDoorChecked
import Derived.KernelRfl
import Derived.JoinedOf
import Derived.JoinedCond
set_option linter.unusedVariables false
set_option maxHeartbeats 12000000
namespace Go.Proofs.YtpmkpfdhanmhiaaGreatDoor
open Go.ChangeShapes Go.WideShapes Go.ChangeAt
theorem polMeans_andI {a b:Bool}(h:a=true)(k:b=true):(a && b)=true:=by rw[h,k];rfl
theorem polMeans_c0:(Rows.polMeansRow.wf (OpenSpec.ofChange (OpenSpec.ofChange Rows.polMeansSpec).bare))=true:=by kernel_rfl
theorem polMeans_c1:(laidOutB Tryz.pinned.checked.prog)=true:=by kernel_rfl
theorem polMeans_c2:(mapsRowed Tryz.pinned.checked.prog)=true:=by kernel_rfl
theorem polMeans_c3:(Tryz.f3.params.all (Tryz.pinned.checked.prog.readableRec ·))=true:=by kernel_rfl
theorem polMeans_c4:(namedTie Tryz.pinned.checked.prog Rows.polMeansRow.named (OpenSpec.ofChange Rows.polMeansSpec).bare.vars)=true:=by kernel_rfl
theorem polMeans_c5:(Rows.polMeansRow.stops == [])=true:=by kernel_rfl
theorem polMeans_c6:(Tryz.pinned.checked.prog.stops == [])=true:=by kernel_rfl
theorem polMeans_c7:(Rows.polMeansRow.knobs == [])=true:=by kernel_rfl
theorem polMeans_c8:(Tryz.pinned.checked.prog.stopKnobs == [])=true:=by kernel_rfl
theorem polMeans_c9:(Rows.polMeansRow.inPlace == Tryz.pinned.checked.prog.inPlace 3)=true:=by kernel_rfl
theorem polMeans_c10:(Rows.polMeansRow.unfollowed == Tryz.pinned.checked.prog.unfollowed 3)=true:=by kernel_rfl
theorem polMeans_c11:(Rows.polMeansRow.recurses == Tryz.pinned.checked.prog.recurses 3)=true:=by kernel_rfl
theorem polMeans_c12:(Rows.polMeansRow.named == Tryz.pinned.checked.prog.varsNamed 3)=true:=by kernel_rfl
theorem polMeans_c13:(Rows.polMeansRow.maps == (Tryz.f3.params.toList++(OpenSpec.ofChange Rows.polMeansSpec).bare.plain.varTypes Tryz.pinned.checked.prog).any (Tryz.pinned.checked.prog.mapsRec ·))=true:=by kernel_rfl
theorem polMeans_c14:(Rows.polMeansRow.ifaces == (Tryz.f3.params.toList++(OpenSpec.ofChange Rows.polMeansSpec).bare.plain.varTypes Tryz.pinned.checked.prog).any (Tryz.pinned.checked.prog.ifacesRec ·))=true:=by kernel_rfl
theorem polMeans_c15:(Rows.polMeansRow.mapsOut == Tryz.pinned.checked.prog.mapsAmong Tryz.f3.resultTypes.toList)=true:=by kernel_rfl
theorem polMeans_c16:(Rows.polMeansRow.loops == (Tryz.f3.params.toList++(OpenSpec.ofChange Rows.polMeansSpec).bare.plain.varTypes Tryz.pinned.checked.prog).any (Tryz.pinned.checked.prog.loopsFrom ·))=true:=by kernel_rfl
theorem polMeans_c17:(Rows.polMeansRow.wideKeys == (Tryz.f3.params.toList++(OpenSpec.ofChange Rows.polMeansSpec).bare.plain.varTypes Tryz.pinned.checked.prog++Tryz.f3.resultTypes.toList).any (Tryz.pinned.checked.prog.wideKeysFrom ·))=true:=by kernel_rfl
theorem polMeans_c18:((OpenSpec.ofChange Rows.polMeansSpec).bare.vars.all (Tryz.pinned.checked.prog.varReadable ·))=true:=by kernel_rfl
theorem polMeans_c19:(Tryz.f3.resultTypes.all (fun t=>Tryz.pinned.checked.prog.readableRec t && decide (t<Tryz.pinned.checked.prog.types.size)))=true:=by kernel_rfl
theorem polMeans_c20:(Rows.polMeansRow.ifacesOut == Tryz.f3.resultTypes.toList.any (Tryz.pinned.checked.prog.ifacesRec ·))=true:=by kernel_rfl
theorem polMeans_c21:(Rows.polMeansRow.loopsOut == Tryz.f3.resultTypes.toList.any (Tryz.pinned.checked.prog.loopsFrom ·))=true:=by kernel_rfl
theorem polMeans_c22:(Rows.polMeansRow.plainKeys == Tryz.pinned.checked.prog.plainKeys)=true:=by kernel_rfl
theorem polMeans_c23:(Rows.polMeansRow.shortTexts.isNone)=true:=by kernel_rfl
theorem polMeans_c24:(Tryz.pinned.checked.prog.stopsHeard)=true:=by kernel_rfl
theorem polMeans_c25:(Tryz.pinned.checked.prog.mayEnter)=true:=by kernel_rfl
theorem polMeans_c26:(Rows.polMeansRow.lifted == Tryz.pinned.checked.prog.liftsFinal)=true:=by kernel_rfl
theorem polMeans_c27:(Tryz.pinned.checked.prog.make == some Rows.polMeansRow.make)=true:=by kernel_rfl
theorem polMeans_c28:(Rows.polMeansRow.kinds == (if Rows.polMeansRow.domain.isEmpty then[]else Tryz.f3.params.toList.map fun t=>match Tryz.pinned.checked.prog.underlying t with | some (.int k)=>some k | _=>none))=true:=by kernel_rfl
theorem polMeans_c29:(Rows.polMeansRow.pinned == Rows.polMeansRow.pinnedBy)=true:=by kernel_rfl
theorem polMeans_c30:(Rows.polMeansRow.veiled == (Tryz.f3.params.toList++(OpenSpec.ofChange Rows.polMeansSpec).bare.plain.varTypes Tryz.pinned.checked.prog++Tryz.f3.resultTypes.toList).any (Tryz.pinned.checked.prog.veiledRec ·))=true:=by kernel_rfl
theorem polMeans_c31:(Rows.polMeansRow.veiledFits Tryz.pinned.checked.prog Tryz.f3.params.toList (Tryz.f3.params.toList++(OpenSpec.ofChange Rows.polMeansSpec).bare.plain.varTypes Tryz.pinned.checked.prog++Tryz.f3.resultTypes.toList))=true:=by kernel_rfl
set_option maxRecDepth 100000 in
theorem polMeans_closed:joinedFacts Tryz.pinned.checked.prog 3 Tryz.f3 (OpenSpec.ofChange Rows.polMeansSpec).bare Rows.polMeansRow=true:=(polMeans_andI (polMeans_andI (polMeans_andI (polMeans_andI (polMeans_andI (polMeans_andI (polMeans_andI (polMeans_andI (polMeans_andI (polMeans_andI (polMeans_andI (polMeans_andI (polMeans_andI (polMeans_andI (polMeans_andI (polMeans_andI (polMeans_andI (polMeans_andI (polMeans_andI (polMeans_andI (polMeans_andI (polMeans_andI (polMeans_andI (polMeans_andI (polMeans_andI (polMeans_andI (polMeans_andI (polMeans_andI (polMeans_andI (polMeans_andI (polMeans_andI polMeans_c0 polMeans_c1) polMeans_c2) polMeans_c3) polMeans_c4) polMeans_c5) polMeans_c6) polMeans_c7) polMeans_c8) polMeans_c9) polMeans_c10) polMeans_c11) polMeans_c12) polMeans_c13) polMeans_c14) polMeans_c15) polMeans_c16) polMeans_c17) polMeans_c18) polMeans_c19) polMeans_c20) polMeans_c21) polMeans_c22) polMeans_c23) polMeans_c24) polMeans_c25) polMeans_c26) polMeans_c27) polMeans_c28) polMeans_c29) polMeans_c30) polMeans_c31)
end Go.Proofs.YtpmkpfdhanmhiaaGreatDoor
