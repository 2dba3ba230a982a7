/-
  NARROWER THAN 'FOR EVERY INPUT', by the rows' own cells (each row's printed sentence says how): BagAsks: laid · BagAlgebra: laid · BagChain: laid.
  DERIVED. THE GIVEN ROWS OF THIS SEAT. 3 by the template 'for every input the law returns true; each argument reads behind the call as it read before'; 0 by the template 'total and deterministic' (their statements: YtncmjcjnldhhhaaDoorTotals.lean).
  GIVEN WITH THE SEED: the statements are not yours to turn. If you find one false, say at which input.
  Laid BY PROGRAM, IN A SANDBOX (cutbox-rows.mjs): the forced cells as the released guide's own fill.sh prints them over the translation bc913bb7b724c43a… (all of the seat's roots in one cut). By AI agents, Wed Nov 11 2026. No macro, syntax, notation, axiom, sorry.
-/
import Derived.Test.YtncmjcjnldhhhaaDoorChecked
import GoSem.Claim
import GoSem.ClaimJoined
import GoSem.ClaimMapViews
import Derived.JoinedTies
import Derived.KernelRfl
namespace Go.Proofs.YtncmjcjnldhhhaaDoor
/- THE CELL 'sum', in the pinned program and in every row, IS THE sha256 OF THE DUMP (.gsa) THAT YtncmjcjnldhhhaaDoorProg.lean LOADS. Nothing in Lean hashes anything: it is a label: what it is worth is what the hold of that sum in a sandbox is worth. -/
noncomputable def Tryd.pinned : Pinned := { name := "ytncmjcjnldhhhaadoor", sum := "bc913bb7b724c43acdeaca29204b84924b2ea2106743eeb652ed3d50793e7779", checked := Tryd.checked }
namespace Rows
def none {H : Type} : Left H := { results := [], args := [] }

/- WHAT THE LISTED PACKAGE-LEVEL VARIABLES READ AS WHEN THE CALL BEGINS. Each datum BY PROGRAM (the guide's laid-datum.mjs) off the statement by which the dump's own 'gosem.cut.vars' lays the variable. In a bare row this is a premise. The card (YtncmjcjnldhhhaaDoorCards.lean) ties it to the program's text. -/
def laid_errors_errorType {H : Type} : DataW H := .iface "internal/reflectlite.rtype" (.agg [.ptr (.lit (.string [101, 114, 114, 111, 114]))])

/-- 'wicketgatelaw1.BagAsks': WHATEVER THE INPUT: true; the input reads as it did. -/
def bagAsksSpec : ChangeSpec := { name := "bagAsks", fn := fun _ => fun
  | [d1, d2] => { results := [.lit (.bool true)], args := [d1, d2] }
  | _ => none }
def bagAsksRow : OpenClaim := { program := "ytncmjcjnldhhhaadoor", sum := "bc913bb7b724c43acdeaca29204b84924b2ea2106743eeb652ed3d50793e7779", func := "wicketgate/wicketgatelaw1.BagAsks", spec := "bagAsks", inPlace := ["internal/bytealg.abigen_runtime_cmpstring", "internal/reflectlite.ValueOf", "(internal/reflectlite.Value).Type", "(internal/reflectlite.Value).IsNil", "internal/reflectlite.TypeOf", "(internal/reflectlite.Value).Elem", "(internal/reflectlite.Value).Set"], unfollowed := true, recurses := true, named := ["errors.errorType"], apart := false, laid := [("errors.errorType", laid_errors_errorType)] }
def BagAsksSaid : Prop := bagAsksRow.holds Tryd.pinned (OpenSpec.ofChange bagAsksSpec)

/-- ITS FALSE NEIGHBOUR: 'it returns false'. Refute it at one input. -/
def bagAsksWrong : ChangeSpec := { name := "bagAsks", fn := fun _ => fun
  | [d1, d2] => { results := [.lit (.bool false)], args := [d1, d2] }
  | _ => none }
def BagAsksWrongFalsely : Prop := bagAsksRow.holds Tryd.pinned (OpenSpec.ofChange bagAsksWrong)

/-- 'wicketgatelaw1.BagAlgebra': WHATEVER THE INPUT: true; the input reads as it did. -/
def bagAlgebraSpec : ChangeSpec := { name := "bagAlgebra", fn := fun _ => fun
  | [d1, d2, d3] => { results := [.lit (.bool true)], args := [d1, d2, d3] }
  | _ => none }
def bagAlgebraRow : OpenClaim := { program := "ytncmjcjnldhhhaadoor", sum := "bc913bb7b724c43acdeaca29204b84924b2ea2106743eeb652ed3d50793e7779", func := "wicketgate/wicketgatelaw1.BagAlgebra", spec := "bagAlgebra", inPlace := ["internal/bytealg.abigen_runtime_cmpstring", "internal/reflectlite.ValueOf", "(internal/reflectlite.Value).Type", "(internal/reflectlite.Value).IsNil", "internal/reflectlite.TypeOf", "(internal/reflectlite.Value).Elem", "(internal/reflectlite.Value).Set"], unfollowed := true, recurses := true, named := ["errors.errorType"], apart := false, laid := [("errors.errorType", laid_errors_errorType)] }
def BagAlgebraSaid : Prop := bagAlgebraRow.holds Tryd.pinned (OpenSpec.ofChange bagAlgebraSpec)

/-- ITS FALSE NEIGHBOUR: 'it returns false'. Refute it at one input. -/
def bagAlgebraWrong : ChangeSpec := { name := "bagAlgebra", fn := fun _ => fun
  | [d1, d2, d3] => { results := [.lit (.bool false)], args := [d1, d2, d3] }
  | _ => none }
def BagAlgebraWrongFalsely : Prop := bagAlgebraRow.holds Tryd.pinned (OpenSpec.ofChange bagAlgebraWrong)

/-- 'wicketgatelaw1.BagChain': WHATEVER THE INPUT: true; the input reads as it did. -/
def bagChainSpec : ChangeSpec := { name := "bagChain", fn := fun _ => fun
  | [d1, d2, d3] => { results := [.lit (.bool true)], args := [d1, d2, d3] }
  | _ => none }
def bagChainRow : OpenClaim := { program := "ytncmjcjnldhhhaadoor", sum := "bc913bb7b724c43acdeaca29204b84924b2ea2106743eeb652ed3d50793e7779", func := "wicketgate/wicketgatelaw1.BagChain", spec := "bagChain", inPlace := ["internal/bytealg.abigen_runtime_cmpstring", "internal/reflectlite.ValueOf", "(internal/reflectlite.Value).Type", "(internal/reflectlite.Value).IsNil", "internal/reflectlite.TypeOf", "(internal/reflectlite.Value).Elem", "(internal/reflectlite.Value).Set"], unfollowed := true, recurses := true, named := ["errors.errorType"], apart := false, laid := [("errors.errorType", laid_errors_errorType)] }
def BagChainSaid : Prop := bagChainRow.holds Tryd.pinned (OpenSpec.ofChange bagChainSpec)

/-- ITS FALSE NEIGHBOUR: 'it returns false'. Refute it at one input. -/
def bagChainWrong : ChangeSpec := { name := "bagChain", fn := fun _ => fun
  | [d1, d2, d3] => { results := [.lit (.bool false)], args := [d1, d2, d3] }
  | _ => none }
def BagChainWrongFalsely : Prop := bagChainRow.holds Tryd.pinned (OpenSpec.ofChange bagChainWrong)

/- THE SECOND FORM. 'bulk': how many values and letters a reading holds, each counted each time it is reached (what is shared counts as often as it is met; a slice's spare places count too). A statement '..UptoSaid' is the law's where the arguments, and the package variables that the reading takes, are together of bulk at most 1048576: NARROWER than '..Said'. Prove '..Said' where nothing that the law and all that it calls make is longer than what came in: it says more and counts as full. Else prove '..UptoSaid'. A law counts once. -/
mutual
def uptoBulk {H : Type} : DataW H → Nat
  | .lit (.string bytes) => bytes.length + 1
  | .lit _ => 1
  | .nil => 1
  | .ptr d => uptoBulk d + 1
  | .slice elems spare => uptoBulkAll elems + uptoBulkAll spare + 1
  | .agg parts => uptoBulkAll parts + 1
  | .iface _ d => uptoBulk d + 1
  | .map entries => uptoBulkEntries entries + 1
  | .held _ => 1
def uptoBulkAll {H : Type} : List (DataW H) → Nat
  | [] => 0
  | d :: r => uptoBulk d + uptoBulkAll r
def uptoBulkEntries {H : Type} : List (Lit × DataW H) → Nat
  | [] => 0
  | x :: r => uptoBulkEntry x + uptoBulkEntries r
def uptoBulkEntry {H : Type} : Lit × DataW H → Nat
  | (.string bytes, d) => bytes.length + uptoBulk d + 1
  | (_, d) => uptoBulk d + 1
 end
def uptoSmall : (H : Type) → List (DataW H) → Bool := fun _ ds => decide (uptoBulkAll ds ≤ 1048576)
def OpenSpec.upto (s : _root_.Go.ChangeSpec) : _root_.Go.OpenSpec := { _root_.Go.OpenSpec.ofChange s with cond := some uptoSmall }

/-- 'wicketgatelaw1.BagAsks', WHERE WHAT IT READS IS OF BULK AT MOST 1048576: true; the input reads as it did. -/
def bagAsksUptoRow : OpenClaim := { program := "ytncmjcjnldhhhaadoor", sum := "bc913bb7b724c43acdeaca29204b84924b2ea2106743eeb652ed3d50793e7779", func := "wicketgate/wicketgatelaw1.BagAsks", spec := "bagAsks", inPlace := ["internal/bytealg.abigen_runtime_cmpstring", "internal/reflectlite.ValueOf", "(internal/reflectlite.Value).Type", "(internal/reflectlite.Value).IsNil", "internal/reflectlite.TypeOf", "(internal/reflectlite.Value).Elem", "(internal/reflectlite.Value).Set"], unfollowed := true, recurses := true, named := ["errors.errorType"], apart := false, laid := [("errors.errorType", laid_errors_errorType)], narrowed := true }
def BagAsksUptoSaid : Prop := bagAsksUptoRow.holds Tryd.pinned (OpenSpec.upto bagAsksSpec)

/-- 'wicketgatelaw1.BagAlgebra', WHERE WHAT IT READS IS OF BULK AT MOST 1048576: true; the input reads as it did. -/
def bagAlgebraUptoRow : OpenClaim := { program := "ytncmjcjnldhhhaadoor", sum := "bc913bb7b724c43acdeaca29204b84924b2ea2106743eeb652ed3d50793e7779", func := "wicketgate/wicketgatelaw1.BagAlgebra", spec := "bagAlgebra", inPlace := ["internal/bytealg.abigen_runtime_cmpstring", "internal/reflectlite.ValueOf", "(internal/reflectlite.Value).Type", "(internal/reflectlite.Value).IsNil", "internal/reflectlite.TypeOf", "(internal/reflectlite.Value).Elem", "(internal/reflectlite.Value).Set"], unfollowed := true, recurses := true, named := ["errors.errorType"], apart := false, laid := [("errors.errorType", laid_errors_errorType)], narrowed := true }
def BagAlgebraUptoSaid : Prop := bagAlgebraUptoRow.holds Tryd.pinned (OpenSpec.upto bagAlgebraSpec)

/-- 'wicketgatelaw1.BagChain', WHERE WHAT IT READS IS OF BULK AT MOST 1048576: true; the input reads as it did. -/
def bagChainUptoRow : OpenClaim := { program := "ytncmjcjnldhhhaadoor", sum := "bc913bb7b724c43acdeaca29204b84924b2ea2106743eeb652ed3d50793e7779", func := "wicketgate/wicketgatelaw1.BagChain", spec := "bagChain", inPlace := ["internal/bytealg.abigen_runtime_cmpstring", "internal/reflectlite.ValueOf", "(internal/reflectlite.Value).Type", "(internal/reflectlite.Value).IsNil", "internal/reflectlite.TypeOf", "(internal/reflectlite.Value).Elem", "(internal/reflectlite.Value).Set"], unfollowed := true, recurses := true, named := ["errors.errorType"], apart := false, laid := [("errors.errorType", laid_errors_errorType)], narrowed := true }
def BagChainUptoSaid : Prop := bagChainUptoRow.holds Tryd.pinned (OpenSpec.upto bagChainSpec)

end Rows
end Go.Proofs.YtncmjcjnldhhhaaDoor
