/-
  DERIVED. GIVEN WITH THE SEED: THE CARDS: each row of YtglhjhbhijekjabGreatDoorRows.lean that lists a variable, with what it lists TIED to the program's text (the seventh form; the later family's looks); each row that meets fmt, with fmt's text TOLD by the authors' own Lean function (tested against real Go, not proved from fmt's source: count such statements apart). THE CARD IS WHAT COUNTS. Prove the row's statement (the work); the ties are given (YtglhjhbhijekjabGreatDoorTie.lean); close each card by the builder's one call (the guide's Derived/Test/ToyasCard.lean, 'card_holds'). Laid BY PROGRAM, IN A SANDBOX (cutbox-door.mjs). By AI agents, Wed Nov 11 2026. No macro, syntax, notation, axiom, sorry.
-/
import Derived.Test.YtglhjhbhijekjabGreatDoorRows
import GoSem.ClaimSeven
namespace Go.Proofs.YtglhjhbhijekjabGreatDoor
namespace Rows

/-- THE TIED CARD OF 'wicketgatelaw3.EvalSets'. -/
def evalSetsCard : Claim7 := { stood := { row := evalSetsRow, standIns := [], harness := (true, "b2a97e412fa54ee3b51e7eb40e083f635c7bec460b5e2c1899c9b73d8ff6f6e2"), looks := true }, kinds := [], alts := [], laidByText := true, laidKinds := [.handle], laidTests := true, laidLooks := .later }
def EvalSetsCardSaid : Prop := Claim7.holds Tryz.pinned (.plain (OpenSpec.ofChange evalSetsSpec)) evalSetsCard

/-- THE TIED CARD OF 'wicketgatelaw3.EvalBelow'. -/
def evalBelowCard : Claim7 := { stood := { row := evalBelowRow, standIns := [], harness := (true, "b2a97e412fa54ee3b51e7eb40e083f635c7bec460b5e2c1899c9b73d8ff6f6e2"), looks := true }, kinds := [], alts := [], laidByText := true, laidKinds := [.handle], laidTests := true, laidLooks := .later }
def EvalBelowCardSaid : Prop := Claim7.holds Tryz.pinned (.plain (OpenSpec.ofChange evalBelowSpec)) evalBelowCard

/-- THE SECOND FORM's CARD OF 'wicketgatelaw3.EvalSets'. -/
def evalSetsUptoCard : Claim7 := { stood := { row := evalSetsUptoRow, standIns := [], harness := (true, "b2a97e412fa54ee3b51e7eb40e083f635c7bec460b5e2c1899c9b73d8ff6f6e2"), looks := true }, kinds := [], alts := [], laidByText := true, laidKinds := [.handle], laidTests := true, laidLooks := .later }
def EvalSetsUptoCardSaid : Prop := Claim7.holds Tryz.pinned (.plain (OpenSpec.upto evalSetsSpec)) evalSetsUptoCard

/-- THE SECOND FORM's CARD OF 'wicketgatelaw3.EvalBelow'. -/
def evalBelowUptoCard : Claim7 := { stood := { row := evalBelowUptoRow, standIns := [], harness := (true, "b2a97e412fa54ee3b51e7eb40e083f635c7bec460b5e2c1899c9b73d8ff6f6e2"), looks := true }, kinds := [], alts := [], laidByText := true, laidKinds := [.handle], laidTests := true, laidLooks := .later }
def EvalBelowUptoCardSaid : Prop := Claim7.holds Tryz.pinned (.plain (OpenSpec.upto evalBelowSpec)) evalBelowUptoCard
end Rows
end Go.Proofs.YtglhjhbhijekjabGreatDoor
