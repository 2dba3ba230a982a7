/-
  DERIVED. GIVEN WITH THE SEED: THE CARDS: each row of YthhijecpookfhaaGreatDoorRows.lean that lists a variable, with what it lists TIED to the program's text (the seventh form; the later family's looks); each row that meets fmt, with fmt's text TOLD by the authors' own Lean function (tested against real Go, not proved from fmt's source: count such statements apart). THE CARD IS WHAT COUNTS. Prove the row's statement (the work); the ties are given (YthhijecpookfhaaGreatDoorTie.lean); close each card by the builder's one call (the guide's Derived/Test/ToyasCard.lean, 'card_holds'). Laid BY PROGRAM, IN A SANDBOX (cutbox-door.mjs). By AI agents, Wed Nov 11 2026. No macro, syntax, notation, axiom, sorry.
-/
import Derived.Test.YthhijecpookfhaaGreatDoorRows
import GoSem.ClaimSeven
namespace Go.Proofs.YthhijecpookfhaaGreatDoor
namespace Rows

/-- THE TIED CARD OF 'wicketgatelaw4.LinkFills'. -/
def linkFillsCard : Claim7 := { stood := { row := linkFillsRow, standIns := [], harness := (true, "cf08cab2c8736740f2aa79e3a28e9b64c4734d7cb3801fb5a8d72e09ddaa21f2"), looks := true }, kinds := [], alts := [], laidByText := true, laidKinds := [.handle], laidTests := true, laidLooks := .later }
def LinkFillsCardSaid : Prop := Claim7.holds Tryz.pinned (.plain (OpenSpec.ofChange linkFillsSpec)) linkFillsCard

/-- THE SECOND FORM's CARD OF 'wicketgatelaw4.LinkFills'. -/
def linkFillsUptoCard : Claim7 := { stood := { row := linkFillsUptoRow, standIns := [], harness := (true, "cf08cab2c8736740f2aa79e3a28e9b64c4734d7cb3801fb5a8d72e09ddaa21f2"), looks := true }, kinds := [], alts := [], laidByText := true, laidKinds := [.handle], laidTests := true, laidLooks := .later }
def LinkFillsUptoCardSaid : Prop := Claim7.holds Tryz.pinned (.plain (OpenSpec.upto linkFillsSpec)) linkFillsUptoCard
end Rows
end Go.Proofs.YthhijecpookfhaaGreatDoor
