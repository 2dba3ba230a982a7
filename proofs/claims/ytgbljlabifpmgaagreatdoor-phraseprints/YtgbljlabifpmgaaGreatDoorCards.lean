/-
  DERIVED. GIVEN WITH THE SEED: THE CARDS: each row of YtgbljlabifpmgaaGreatDoorRows.lean that lists a variable, with what it lists TIED to the program's text (the seventh form; the later family's looks); each row that meets fmt, with fmt's text TOLD by the authors' own Lean function (tested against real Go, not proved from fmt's source: count such statements apart). THE CARD IS WHAT COUNTS. Prove the row's statement (the work); the ties are given (YtgbljlabifpmgaaGreatDoorTie.lean); close each card by the builder's one call (the guide's Derived/Test/ToyasCard.lean, 'card_holds'). Laid BY PROGRAM, IN A SANDBOX (cutbox-door.mjs). By AI agents, Wed Nov 11 2026. No macro, syntax, notation, axiom, sorry.
-/
import Derived.Test.YtgbljlabifpmgaaGreatDoorRows
import GoSem.ClaimSeven
namespace Go.Proofs.YtgbljlabifpmgaaGreatDoor
namespace Rows

/-- THE TIED CARD OF 'wicketgatelaw2.PhrasePrints'. -/
def phrasePrintsCard : Claim7 := { stood := { row := phrasePrintsRow, standIns := [], harness := (true, "fb1a1c0ca46b6c34a211d10c4415475137cd31cc5e26b20bf94ab69248545b53"), looks := true }, kinds := [], alts := [], laidByText := true, laidKinds := [.data, .data, .data, .handle], laidTests := true, laidLooks := .later }
def PhrasePrintsCardSaid : Prop := Claim7.holds Tryz.pinned (.plain (OpenSpec.ofChange phrasePrintsSpec)) phrasePrintsCard

/-- THE SECOND FORM's CARD OF 'wicketgatelaw2.PhrasePrints'. -/
def phrasePrintsUptoCard : Claim7 := { stood := { row := phrasePrintsUptoRow, standIns := [], harness := (true, "fb1a1c0ca46b6c34a211d10c4415475137cd31cc5e26b20bf94ab69248545b53"), looks := true }, kinds := [], alts := [], laidByText := true, laidKinds := [.data, .data, .data, .handle], laidTests := true, laidLooks := .later }
def PhrasePrintsUptoCardSaid : Prop := Claim7.holds Tryz.pinned (.plain (OpenSpec.upto phrasePrintsSpec)) phrasePrintsUptoCard
end Rows
end Go.Proofs.YtgbljlabifpmgaaGreatDoor
