/-
  No cell of these rows narrows 'for every input' (looked for: loops, veiled, ifaces, maps, wideKeys, modest, calm, conditions, laid).
  DERIVED. THE GIVEN ROWS OF THIS SEAT. 3 by the template 'for every input the law returns true; each argument reads behind the call as it read before'; 0 by the template 'total and deterministic' (their statements: YtilpgiapjijmmaaTotals.lean).
  GIVEN WITH THE SEED: the statements are not yours to turn. If you find one false, say at which input.
  Laid BY PROGRAM, IN A SANDBOX (cutbox-rows.mjs): the forced cells as the released guide's own fill.sh prints them over the translation d73e4221ad5f2d83… (all of the seat's roots in one cut). By AI agents, Wed Nov 11 2026. No macro, syntax, notation, axiom, sorry.
-/
import Derived.Test.YtilpgiapjijmmaaChecked
import GoSem.Claim
import GoSem.ClaimJoined
import GoSem.ClaimMapViews
import Derived.JoinedTies
import Derived.KernelRfl
namespace Go.Proofs.Ytilpgiapjijmmaa
/- THE CELL 'sum', in the pinned program and in every row, IS THE sha256 OF THE DUMP (.gsa) THAT YtilpgiapjijmmaaProg.lean LOADS. Nothing in Lean hashes anything: it is a label: what it is worth is what the hold of that sum in a sandbox is worth. -/
noncomputable def Try.pinned : Pinned := { name := "ytilpgiapjijmmaa", sum := "d73e4221ad5f2d832bb3deeb5c744b68a28e69c1bca96a50c54a5c07619b1593", checked := Try.checked }
namespace Rows
def none {H : Type} : Left H := { results := [], args := [] }

/-- 'wicketgatelaw1.LikeJust': WHATEVER THE INPUT: true; the input reads as it did. -/
def likeJustSpec : ChangeSpec := { name := "likeJust", fn := fun _ => fun
  | [d1, d2] => { results := [.lit (.bool true)], args := [d1, d2] }
  | _ => none }
def likeJustRow : OpenClaim := { program := "ytilpgiapjijmmaa", sum := "d73e4221ad5f2d832bb3deeb5c744b68a28e69c1bca96a50c54a5c07619b1593", func := "wicketgate/wicketgatelaw1.LikeJust", spec := "likeJust", apart := false }
def LikeJustSaid : Prop := likeJustRow.holds Try.pinned (OpenSpec.ofChange likeJustSpec)

/-- ITS FALSE NEIGHBOUR: 'it returns false'. Refute it at one input. -/
def likeJustWrong : ChangeSpec := { name := "likeJust", fn := fun _ => fun
  | [d1, d2] => { results := [.lit (.bool false)], args := [d1, d2] }
  | _ => none }
def LikeJustWrongFalsely : Prop := likeJustRow.holds Try.pinned (OpenSpec.ofChange likeJustWrong)

/-- 'wicketgatelaw1.LikeBegins': WHATEVER THE INPUT: true; the input reads as it did. -/
def likeBeginsSpec : ChangeSpec := { name := "likeBegins", fn := fun _ => fun
  | [d1, d2] => { results := [.lit (.bool true)], args := [d1, d2] }
  | _ => none }
def likeBeginsRow : OpenClaim := { program := "ytilpgiapjijmmaa", sum := "d73e4221ad5f2d832bb3deeb5c744b68a28e69c1bca96a50c54a5c07619b1593", func := "wicketgate/wicketgatelaw1.LikeBegins", spec := "likeBegins", apart := false }
def LikeBeginsSaid : Prop := likeBeginsRow.holds Try.pinned (OpenSpec.ofChange likeBeginsSpec)

/-- ITS FALSE NEIGHBOUR: 'it returns false'. Refute it at one input. -/
def likeBeginsWrong : ChangeSpec := { name := "likeBegins", fn := fun _ => fun
  | [d1, d2] => { results := [.lit (.bool false)], args := [d1, d2] }
  | _ => none }
def LikeBeginsWrongFalsely : Prop := likeBeginsRow.holds Try.pinned (OpenSpec.ofChange likeBeginsWrong)

/-- 'wicketgatelaw1.LikeSplits': WHATEVER THE INPUT: true; the input reads as it did. -/
def likeSplitsSpec : ChangeSpec := { name := "likeSplits", fn := fun _ => fun
  | [d1, d2, d3] => { results := [.lit (.bool true)], args := [d1, d2, d3] }
  | _ => none }
def likeSplitsRow : OpenClaim := { program := "ytilpgiapjijmmaa", sum := "d73e4221ad5f2d832bb3deeb5c744b68a28e69c1bca96a50c54a5c07619b1593", func := "wicketgate/wicketgatelaw1.LikeSplits", spec := "likeSplits", apart := false }
def LikeSplitsSaid : Prop := likeSplitsRow.holds Try.pinned (OpenSpec.ofChange likeSplitsSpec)

/-- ITS FALSE NEIGHBOUR: 'it returns false'. Refute it at one input. -/
def likeSplitsWrong : ChangeSpec := { name := "likeSplits", fn := fun _ => fun
  | [d1, d2, d3] => { results := [.lit (.bool false)], args := [d1, d2, d3] }
  | _ => none }
def LikeSplitsWrongFalsely : Prop := likeSplitsRow.holds Try.pinned (OpenSpec.ofChange likeSplitsWrong)

/- THE SECOND FORM. 'bulk': how many values and letters a reading holds, each counted each time it is reached (what is shared counts as often as it is met; a slice's spare places count too). A statement '..UptoSaid' is the law's where the arguments, and the package variables that the reading takes, are together of bulk at most 1048576: NARROWER than '..Said'. Prove '..Said' where nothing that the law and all that it calls make is longer than what came in: it says more and counts as full. Else prove '..UptoSaid'. A law counts once. -/
mutual
def uptoBulk {H : Type} : DataW H → Nat
  | .lit (.string bytes) => bytes.length + 1
  | .lit _ => 1
  | .nil => 1
  | .ptr d => uptoBulk d + 1
  | .slice elems spare => uptoBulkAll elems + uptoBulkAll spare + 1
  | .agg parts => uptoBulkAll parts + 1
  | .iface _ d => uptoBulk d + 1
  | .map entries => uptoBulkEntries entries + 1
  | .held _ => 1
def uptoBulkAll {H : Type} : List (DataW H) → Nat
  | [] => 0
  | d :: r => uptoBulk d + uptoBulkAll r
def uptoBulkEntries {H : Type} : List (Lit × DataW H) → Nat
  | [] => 0
  | x :: r => uptoBulkEntry x + uptoBulkEntries r
def uptoBulkEntry {H : Type} : Lit × DataW H → Nat
  | (.string bytes, d) => bytes.length + uptoBulk d + 1
  | (_, d) => uptoBulk d + 1
 end
def uptoSmall : (H : Type) → List (DataW H) → Bool := fun _ ds => decide (uptoBulkAll ds ≤ 1048576)
def OpenSpec.upto (s : _root_.Go.ChangeSpec) : _root_.Go.OpenSpec := { _root_.Go.OpenSpec.ofChange s with cond := some uptoSmall }

/-- 'wicketgatelaw1.LikeJust', WHERE WHAT IT READS IS OF BULK AT MOST 1048576: true; the input reads as it did. -/
def likeJustUptoRow : OpenClaim := { program := "ytilpgiapjijmmaa", sum := "d73e4221ad5f2d832bb3deeb5c744b68a28e69c1bca96a50c54a5c07619b1593", func := "wicketgate/wicketgatelaw1.LikeJust", spec := "likeJust", apart := false, narrowed := true }
def LikeJustUptoSaid : Prop := likeJustUptoRow.holds Try.pinned (OpenSpec.upto likeJustSpec)

/-- 'wicketgatelaw1.LikeBegins', WHERE WHAT IT READS IS OF BULK AT MOST 1048576: true; the input reads as it did. -/
def likeBeginsUptoRow : OpenClaim := { program := "ytilpgiapjijmmaa", sum := "d73e4221ad5f2d832bb3deeb5c744b68a28e69c1bca96a50c54a5c07619b1593", func := "wicketgate/wicketgatelaw1.LikeBegins", spec := "likeBegins", apart := false, narrowed := true }
def LikeBeginsUptoSaid : Prop := likeBeginsUptoRow.holds Try.pinned (OpenSpec.upto likeBeginsSpec)

/-- 'wicketgatelaw1.LikeSplits', WHERE WHAT IT READS IS OF BULK AT MOST 1048576: true; the input reads as it did. -/
def likeSplitsUptoRow : OpenClaim := { program := "ytilpgiapjijmmaa", sum := "d73e4221ad5f2d832bb3deeb5c744b68a28e69c1bca96a50c54a5c07619b1593", func := "wicketgate/wicketgatelaw1.LikeSplits", spec := "likeSplits", apart := false, narrowed := true }
def LikeSplitsUptoSaid : Prop := likeSplitsUptoRow.holds Try.pinned (OpenSpec.upto likeSplitsSpec)

end Rows
end Go.Proofs.Ytilpgiapjijmmaa
