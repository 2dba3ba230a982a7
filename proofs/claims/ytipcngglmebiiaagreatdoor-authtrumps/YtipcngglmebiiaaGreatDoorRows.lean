/-
  NARROWER THAN 'FOR EVERY INPUT', by the rows' own cells (each row's printed sentence says how): AuthOrder: laid · AuthTrumps: laid · AuthMore: laid · AuthAlone: laid · AuthApart: laid · AuthCopies: laid.
  DERIVED. THE GIVEN ROWS OF THIS SEAT. 6 by the template 'for every input the law returns true; each argument reads behind the call as it read before'; 0 by the template 'total and deterministic' (their statements: YtipcngglmebiiaaGreatDoorTotals.lean).
  GIVEN WITH THE SEED: the statements are not yours to turn. If you find one false, say at which input.
  Laid BY PROGRAM, IN A SANDBOX (cutbox-rows.mjs): the forced cells as the released guide's own fill.sh prints them over the translation 0437ffd8481f9da3… (all of the seat's roots in one cut). By AI agents, Wed Nov 11 2026. No macro, syntax, notation, axiom, sorry.
-/
import Derived.Test.YtipcngglmebiiaaGreatDoorChecked
import GoSem.Claim
import GoSem.ClaimJoined
import GoSem.ClaimMapViews
import Derived.JoinedTies
import Derived.KernelRfl
namespace Go.Proofs.YtipcngglmebiiaaGreatDoor
/- THE CELL 'sum', in the pinned program and in every row, IS THE sha256 OF THE DUMP (.gsa) THAT YtipcngglmebiiaaGreatDoorProg.lean LOADS. Nothing in Lean hashes anything: it is a label: what it is worth is what the hold of that sum in a sandbox is worth. -/
noncomputable def Tryz.pinned : Pinned := { name := "ytipcngglmebiiaagreatdoor", sum := "0437ffd8481f9da36f1bc9acac4ccaca79d3b12411cb6af1768589b0feec46b5", checked := Tryz.checked }
namespace Rows
def none {H : Type} : Left H := { results := [], args := [] }

/- WHAT THE LISTED PACKAGE-LEVEL VARIABLES READ AS WHEN THE CALL BEGINS. Each datum BY PROGRAM (the guide's laid-datum.mjs) off the statement by which the dump's own 'gosem.cut.vars' lays the variable. In a bare row this is a premise. The card (YtipcngglmebiiaaGreatDoorCards.lean) ties it to the program's text. -/
def laid_errors_errorType {H : Type} : DataW H := .iface "internal/reflectlite.rtype" (.agg [.ptr (.lit (.string [101, 114, 114, 111, 114]))])

/-- 'wicketgatelaw4.AuthOrder': WHATEVER THE INPUT: true; the input reads as it did. -/
def authOrderSpec : ChangeSpec := { name := "authOrder", fn := fun _ => fun
  | [d1, d2, d3, d4] => { results := [.lit (.bool true)], args := [d1, d2, d3, d4] }
  | _ => none }
def authOrderRow : OpenClaim := { program := "ytipcngglmebiiaagreatdoor", sum := "0437ffd8481f9da36f1bc9acac4ccaca79d3b12411cb6af1768589b0feec46b5", func := "wicketgate/wicketgatelaw4.AuthOrder", spec := "authOrder", inPlace := ["internal/bytealg.abigen_runtime_cmpstring", "internal/reflectlite.ValueOf", "(internal/reflectlite.Value).Type", "(internal/reflectlite.Value).IsNil", "internal/reflectlite.TypeOf", "(internal/reflectlite.Value).Elem", "(internal/reflectlite.Value).Set"], unfollowed := true, recurses := true, named := ["errors.errorType"], plainKeys := false, apart := false, laid := [("errors.errorType", laid_errors_errorType)] }
def AuthOrderSaid : Prop := authOrderRow.holds Tryz.pinned (OpenSpec.ofChange authOrderSpec)

/-- ITS FALSE NEIGHBOUR: 'it returns false'. Refute it at one input. -/
def authOrderWrong : ChangeSpec := { name := "authOrder", fn := fun _ => fun
  | [d1, d2, d3, d4] => { results := [.lit (.bool false)], args := [d1, d2, d3, d4] }
  | _ => none }
def AuthOrderWrongFalsely : Prop := authOrderRow.holds Tryz.pinned (OpenSpec.ofChange authOrderWrong)

/-- 'wicketgatelaw4.AuthTrumps': WHATEVER THE INPUT: true; the input reads as it did. -/
def authTrumpsSpec : ChangeSpec := { name := "authTrumps", fn := fun _ => fun
  | [d1, d2, d3] => { results := [.lit (.bool true)], args := [d1, d2, d3] }
  | _ => none }
def authTrumpsRow : OpenClaim := { program := "ytipcngglmebiiaagreatdoor", sum := "0437ffd8481f9da36f1bc9acac4ccaca79d3b12411cb6af1768589b0feec46b5", func := "wicketgate/wicketgatelaw4.AuthTrumps", spec := "authTrumps", inPlace := ["internal/bytealg.abigen_runtime_cmpstring", "internal/reflectlite.ValueOf", "(internal/reflectlite.Value).Type", "(internal/reflectlite.Value).IsNil", "internal/reflectlite.TypeOf", "(internal/reflectlite.Value).Elem", "(internal/reflectlite.Value).Set"], unfollowed := true, recurses := true, named := ["errors.errorType"], plainKeys := false, apart := false, laid := [("errors.errorType", laid_errors_errorType)] }
def AuthTrumpsSaid : Prop := authTrumpsRow.holds Tryz.pinned (OpenSpec.ofChange authTrumpsSpec)

/-- ITS FALSE NEIGHBOUR: 'it returns false'. Refute it at one input. -/
def authTrumpsWrong : ChangeSpec := { name := "authTrumps", fn := fun _ => fun
  | [d1, d2, d3] => { results := [.lit (.bool false)], args := [d1, d2, d3] }
  | _ => none }
def AuthTrumpsWrongFalsely : Prop := authTrumpsRow.holds Tryz.pinned (OpenSpec.ofChange authTrumpsWrong)

/-- 'wicketgatelaw4.AuthMore': WHATEVER THE INPUT: true; the input reads as it did. -/
def authMoreSpec : ChangeSpec := { name := "authMore", fn := fun _ => fun
  | [d1, d2, d3, d4] => { results := [.lit (.bool true)], args := [d1, d2, d3, d4] }
  | _ => none }
def authMoreRow : OpenClaim := { program := "ytipcngglmebiiaagreatdoor", sum := "0437ffd8481f9da36f1bc9acac4ccaca79d3b12411cb6af1768589b0feec46b5", func := "wicketgate/wicketgatelaw4.AuthMore", spec := "authMore", inPlace := ["internal/bytealg.abigen_runtime_cmpstring", "internal/reflectlite.ValueOf", "(internal/reflectlite.Value).Type", "(internal/reflectlite.Value).IsNil", "internal/reflectlite.TypeOf", "(internal/reflectlite.Value).Elem", "(internal/reflectlite.Value).Set"], unfollowed := true, recurses := true, named := ["errors.errorType"], plainKeys := false, apart := false, laid := [("errors.errorType", laid_errors_errorType)] }
def AuthMoreSaid : Prop := authMoreRow.holds Tryz.pinned (OpenSpec.ofChange authMoreSpec)

/-- ITS FALSE NEIGHBOUR: 'it returns false'. Refute it at one input. -/
def authMoreWrong : ChangeSpec := { name := "authMore", fn := fun _ => fun
  | [d1, d2, d3, d4] => { results := [.lit (.bool false)], args := [d1, d2, d3, d4] }
  | _ => none }
def AuthMoreWrongFalsely : Prop := authMoreRow.holds Tryz.pinned (OpenSpec.ofChange authMoreWrong)

/-- 'wicketgatelaw4.AuthAlone': WHATEVER THE INPUT: true; the input reads as it did. -/
def authAloneSpec : ChangeSpec := { name := "authAlone", fn := fun _ => fun
  | [d1, d2, d3] => { results := [.lit (.bool true)], args := [d1, d2, d3] }
  | _ => none }
def authAloneRow : OpenClaim := { program := "ytipcngglmebiiaagreatdoor", sum := "0437ffd8481f9da36f1bc9acac4ccaca79d3b12411cb6af1768589b0feec46b5", func := "wicketgate/wicketgatelaw4.AuthAlone", spec := "authAlone", inPlace := ["internal/bytealg.abigen_runtime_cmpstring", "internal/reflectlite.ValueOf", "(internal/reflectlite.Value).Type", "(internal/reflectlite.Value).IsNil", "internal/reflectlite.TypeOf", "(internal/reflectlite.Value).Elem", "(internal/reflectlite.Value).Set"], unfollowed := true, recurses := true, named := ["errors.errorType"], plainKeys := false, apart := false, laid := [("errors.errorType", laid_errors_errorType)] }
def AuthAloneSaid : Prop := authAloneRow.holds Tryz.pinned (OpenSpec.ofChange authAloneSpec)

/-- ITS FALSE NEIGHBOUR: 'it returns false'. Refute it at one input. -/
def authAloneWrong : ChangeSpec := { name := "authAlone", fn := fun _ => fun
  | [d1, d2, d3] => { results := [.lit (.bool false)], args := [d1, d2, d3] }
  | _ => none }
def AuthAloneWrongFalsely : Prop := authAloneRow.holds Tryz.pinned (OpenSpec.ofChange authAloneWrong)

/-- 'wicketgatelaw4.AuthApart': WHATEVER THE INPUT: true; the input reads as it did. -/
def authApartSpec : ChangeSpec := { name := "authApart", fn := fun _ => fun
  | [d1, d2, d3] => { results := [.lit (.bool true)], args := [d1, d2, d3] }
  | _ => none }
def authApartRow : OpenClaim := { program := "ytipcngglmebiiaagreatdoor", sum := "0437ffd8481f9da36f1bc9acac4ccaca79d3b12411cb6af1768589b0feec46b5", func := "wicketgate/wicketgatelaw4.AuthApart", spec := "authApart", inPlace := ["internal/bytealg.abigen_runtime_cmpstring", "internal/reflectlite.ValueOf", "(internal/reflectlite.Value).Type", "(internal/reflectlite.Value).IsNil", "internal/reflectlite.TypeOf", "(internal/reflectlite.Value).Elem", "(internal/reflectlite.Value).Set"], unfollowed := true, recurses := true, named := ["errors.errorType"], plainKeys := false, apart := false, laid := [("errors.errorType", laid_errors_errorType)] }
def AuthApartSaid : Prop := authApartRow.holds Tryz.pinned (OpenSpec.ofChange authApartSpec)

/-- ITS FALSE NEIGHBOUR: 'it returns false'. Refute it at one input. -/
def authApartWrong : ChangeSpec := { name := "authApart", fn := fun _ => fun
  | [d1, d2, d3] => { results := [.lit (.bool false)], args := [d1, d2, d3] }
  | _ => none }
def AuthApartWrongFalsely : Prop := authApartRow.holds Tryz.pinned (OpenSpec.ofChange authApartWrong)

/-- 'wicketgatelaw4.AuthCopies': WHATEVER THE INPUT: true; the input reads as it did. -/
def authCopiesSpec : ChangeSpec := { name := "authCopies", fn := fun _ => fun
  | [d1, d2, d3, d4, d5] => { results := [.lit (.bool true)], args := [d1, d2, d3, d4, d5] }
  | _ => none }
def authCopiesRow : OpenClaim := { program := "ytipcngglmebiiaagreatdoor", sum := "0437ffd8481f9da36f1bc9acac4ccaca79d3b12411cb6af1768589b0feec46b5", func := "wicketgate/wicketgatelaw4.AuthCopies", spec := "authCopies", inPlace := ["internal/bytealg.abigen_runtime_cmpstring", "internal/reflectlite.ValueOf", "(internal/reflectlite.Value).Type", "(internal/reflectlite.Value).IsNil", "internal/reflectlite.TypeOf", "(internal/reflectlite.Value).Elem", "(internal/reflectlite.Value).Set"], unfollowed := true, recurses := true, named := ["errors.errorType"], plainKeys := false, apart := false, laid := [("errors.errorType", laid_errors_errorType)] }
def AuthCopiesSaid : Prop := authCopiesRow.holds Tryz.pinned (OpenSpec.ofChange authCopiesSpec)

/-- ITS FALSE NEIGHBOUR: 'it returns false'. Refute it at one input. -/
def authCopiesWrong : ChangeSpec := { name := "authCopies", fn := fun _ => fun
  | [d1, d2, d3, d4, d5] => { results := [.lit (.bool false)], args := [d1, d2, d3, d4, d5] }
  | _ => none }
def AuthCopiesWrongFalsely : Prop := authCopiesRow.holds Tryz.pinned (OpenSpec.ofChange authCopiesWrong)

/- THE SECOND FORM. 'bulk': how many values and letters a reading holds, each counted each time it is reached (what is shared counts as often as it is met; a slice's spare places count too). A statement '..UptoSaid' is the law's where the arguments, and the package variables that the reading takes, are together of bulk at most 1048576: NARROWER than '..Said'. Prove '..Said' where nothing that the law and all that it calls make is longer than what came in: it says more and counts as full. Else prove '..UptoSaid'. A law counts once. -/
mutual
def uptoBulk {H : Type} : DataW H → Nat
  | .lit (.string bytes) => bytes.length + 1
  | .lit _ => 1
  | .nil => 1
  | .ptr d => uptoBulk d + 1
  | .slice elems spare => uptoBulkAll elems + uptoBulkAll spare + 1
  | .agg parts => uptoBulkAll parts + 1
  | .iface _ d => uptoBulk d + 1
  | .map entries => uptoBulkEntries entries + 1
  | .held _ => 1
def uptoBulkAll {H : Type} : List (DataW H) → Nat
  | [] => 0
  | d :: r => uptoBulk d + uptoBulkAll r
def uptoBulkEntries {H : Type} : List (Lit × DataW H) → Nat
  | [] => 0
  | x :: r => uptoBulkEntry x + uptoBulkEntries r
def uptoBulkEntry {H : Type} : Lit × DataW H → Nat
  | (.string bytes, d) => bytes.length + uptoBulk d + 1
  | (_, d) => uptoBulk d + 1
 end
def uptoSmall : (H : Type) → List (DataW H) → Bool := fun _ ds => decide (uptoBulkAll ds ≤ 1048576)
def OpenSpec.upto (s : _root_.Go.ChangeSpec) : _root_.Go.OpenSpec := { _root_.Go.OpenSpec.ofChange s with cond := some uptoSmall }

/-- 'wicketgatelaw4.AuthOrder', WHERE WHAT IT READS IS OF BULK AT MOST 1048576: true; the input reads as it did. -/
def authOrderUptoRow : OpenClaim := { program := "ytipcngglmebiiaagreatdoor", sum := "0437ffd8481f9da36f1bc9acac4ccaca79d3b12411cb6af1768589b0feec46b5", func := "wicketgate/wicketgatelaw4.AuthOrder", spec := "authOrder", inPlace := ["internal/bytealg.abigen_runtime_cmpstring", "internal/reflectlite.ValueOf", "(internal/reflectlite.Value).Type", "(internal/reflectlite.Value).IsNil", "internal/reflectlite.TypeOf", "(internal/reflectlite.Value).Elem", "(internal/reflectlite.Value).Set"], unfollowed := true, recurses := true, named := ["errors.errorType"], plainKeys := false, apart := false, laid := [("errors.errorType", laid_errors_errorType)], narrowed := true }
def AuthOrderUptoSaid : Prop := authOrderUptoRow.holds Tryz.pinned (OpenSpec.upto authOrderSpec)

/-- 'wicketgatelaw4.AuthTrumps', WHERE WHAT IT READS IS OF BULK AT MOST 1048576: true; the input reads as it did. -/
def authTrumpsUptoRow : OpenClaim := { program := "ytipcngglmebiiaagreatdoor", sum := "0437ffd8481f9da36f1bc9acac4ccaca79d3b12411cb6af1768589b0feec46b5", func := "wicketgate/wicketgatelaw4.AuthTrumps", spec := "authTrumps", inPlace := ["internal/bytealg.abigen_runtime_cmpstring", "internal/reflectlite.ValueOf", "(internal/reflectlite.Value).Type", "(internal/reflectlite.Value).IsNil", "internal/reflectlite.TypeOf", "(internal/reflectlite.Value).Elem", "(internal/reflectlite.Value).Set"], unfollowed := true, recurses := true, named := ["errors.errorType"], plainKeys := false, apart := false, laid := [("errors.errorType", laid_errors_errorType)], narrowed := true }
def AuthTrumpsUptoSaid : Prop := authTrumpsUptoRow.holds Tryz.pinned (OpenSpec.upto authTrumpsSpec)

/-- 'wicketgatelaw4.AuthMore', WHERE WHAT IT READS IS OF BULK AT MOST 1048576: true; the input reads as it did. -/
def authMoreUptoRow : OpenClaim := { program := "ytipcngglmebiiaagreatdoor", sum := "0437ffd8481f9da36f1bc9acac4ccaca79d3b12411cb6af1768589b0feec46b5", func := "wicketgate/wicketgatelaw4.AuthMore", spec := "authMore", inPlace := ["internal/bytealg.abigen_runtime_cmpstring", "internal/reflectlite.ValueOf", "(internal/reflectlite.Value).Type", "(internal/reflectlite.Value).IsNil", "internal/reflectlite.TypeOf", "(internal/reflectlite.Value).Elem", "(internal/reflectlite.Value).Set"], unfollowed := true, recurses := true, named := ["errors.errorType"], plainKeys := false, apart := false, laid := [("errors.errorType", laid_errors_errorType)], narrowed := true }
def AuthMoreUptoSaid : Prop := authMoreUptoRow.holds Tryz.pinned (OpenSpec.upto authMoreSpec)

/-- 'wicketgatelaw4.AuthAlone', WHERE WHAT IT READS IS OF BULK AT MOST 1048576: true; the input reads as it did. -/
def authAloneUptoRow : OpenClaim := { program := "ytipcngglmebiiaagreatdoor", sum := "0437ffd8481f9da36f1bc9acac4ccaca79d3b12411cb6af1768589b0feec46b5", func := "wicketgate/wicketgatelaw4.AuthAlone", spec := "authAlone", inPlace := ["internal/bytealg.abigen_runtime_cmpstring", "internal/reflectlite.ValueOf", "(internal/reflectlite.Value).Type", "(internal/reflectlite.Value).IsNil", "internal/reflectlite.TypeOf", "(internal/reflectlite.Value).Elem", "(internal/reflectlite.Value).Set"], unfollowed := true, recurses := true, named := ["errors.errorType"], plainKeys := false, apart := false, laid := [("errors.errorType", laid_errors_errorType)], narrowed := true }
def AuthAloneUptoSaid : Prop := authAloneUptoRow.holds Tryz.pinned (OpenSpec.upto authAloneSpec)

/-- 'wicketgatelaw4.AuthApart', WHERE WHAT IT READS IS OF BULK AT MOST 1048576: true; the input reads as it did. -/
def authApartUptoRow : OpenClaim := { program := "ytipcngglmebiiaagreatdoor", sum := "0437ffd8481f9da36f1bc9acac4ccaca79d3b12411cb6af1768589b0feec46b5", func := "wicketgate/wicketgatelaw4.AuthApart", spec := "authApart", inPlace := ["internal/bytealg.abigen_runtime_cmpstring", "internal/reflectlite.ValueOf", "(internal/reflectlite.Value).Type", "(internal/reflectlite.Value).IsNil", "internal/reflectlite.TypeOf", "(internal/reflectlite.Value).Elem", "(internal/reflectlite.Value).Set"], unfollowed := true, recurses := true, named := ["errors.errorType"], plainKeys := false, apart := false, laid := [("errors.errorType", laid_errors_errorType)], narrowed := true }
def AuthApartUptoSaid : Prop := authApartUptoRow.holds Tryz.pinned (OpenSpec.upto authApartSpec)

/-- 'wicketgatelaw4.AuthCopies', WHERE WHAT IT READS IS OF BULK AT MOST 1048576: true; the input reads as it did. -/
def authCopiesUptoRow : OpenClaim := { program := "ytipcngglmebiiaagreatdoor", sum := "0437ffd8481f9da36f1bc9acac4ccaca79d3b12411cb6af1768589b0feec46b5", func := "wicketgate/wicketgatelaw4.AuthCopies", spec := "authCopies", inPlace := ["internal/bytealg.abigen_runtime_cmpstring", "internal/reflectlite.ValueOf", "(internal/reflectlite.Value).Type", "(internal/reflectlite.Value).IsNil", "internal/reflectlite.TypeOf", "(internal/reflectlite.Value).Elem", "(internal/reflectlite.Value).Set"], unfollowed := true, recurses := true, named := ["errors.errorType"], plainKeys := false, apart := false, laid := [("errors.errorType", laid_errors_errorType)], narrowed := true }
def AuthCopiesUptoSaid : Prop := authCopiesUptoRow.holds Tryz.pinned (OpenSpec.upto authCopiesSpec)

end Rows
end Go.Proofs.YtipcngglmebiiaaGreatDoor
