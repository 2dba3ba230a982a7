/-
  DERIVED. GIVEN WITH THE SEED: THE CARDS: each row of YtkpbholhempmmaaGreatDoorRows.lean that lists a variable, with what it lists TIED to the program's text (the seventh form; the later family's looks); each row that meets fmt, with fmt's text TOLD by the authors' own Lean function (tested against real Go, not proved from fmt's source: count such statements apart). THE CARD IS WHAT COUNTS. Prove the row's statement (the work); the ties are given (YtkpbholhempmmaaGreatDoorTie.lean); close each card by the builder's one call (the guide's Derived/Test/ToyasCard.lean, 'card_holds'). Laid BY PROGRAM, IN A SANDBOX (cutbox-door.mjs). By AI agents, Wed Nov 11 2026. No macro, syntax, notation, axiom, sorry.
-/
import Derived.Test.YtkpbholhempmmaaGreatDoorRows
import GoSem.ClaimSeven
namespace Go.Proofs.YtkpbholhempmmaaGreatDoor
namespace Rows

/-- THE TIED CARD OF 'wicketgatelaw1.EntAbove'. -/
def entAboveCard : Claim7 := { stood := { row := entAboveRow, standIns := [], harness := (true, "2e9f28ee492bfe706e96687e14db6ac87e1f069036111e65c18c47baadef845c"), looks := true }, kinds := [], alts := [], laidByText := true, laidKinds := [.handle], laidTests := true, laidLooks := .later }
def EntAboveCardSaid : Prop := Claim7.holds Tryz.pinned (.plain (OpenSpec.ofChange entAboveSpec)) entAboveCard

/-- THE SECOND FORM's CARD OF 'wicketgatelaw1.EntAbove'. -/
def entAboveUptoCard : Claim7 := { stood := { row := entAboveUptoRow, standIns := [], harness := (true, "2e9f28ee492bfe706e96687e14db6ac87e1f069036111e65c18c47baadef845c"), looks := true }, kinds := [], alts := [], laidByText := true, laidKinds := [.handle], laidTests := true, laidLooks := .later }
def EntAboveUptoCardSaid : Prop := Claim7.holds Tryz.pinned (.plain (OpenSpec.upto entAboveSpec)) entAboveUptoCard
end Rows
end Go.Proofs.YtkpbholhempmmaaGreatDoor
