/-
  DERIVED. GIVEN WITH THE SEED: THE CARDS: each row of YtlnhaajjoplafaaGreatDoorRows.lean that lists a variable, with what it lists TIED to the program's text (the seventh form; the later family's looks); each row that meets fmt, with fmt's text TOLD by the authors' own Lean function (tested against real Go, not proved from fmt's source: count such statements apart). THE CARD IS WHAT COUNTS. Prove the row's statement (the work); the ties are given (YtlnhaajjoplafaaGreatDoorTie.lean); close each card by the builder's one call (the guide's Derived/Test/ToyasCard.lean, 'card_holds'). Laid BY PROGRAM, IN A SANDBOX (cutbox-door.mjs). By AI agents, Wed Nov 11 2026. No macro, syntax, notation, axiom, sorry.
-/
import Derived.Test.YtlnhaajjoplafaaGreatDoorRows
import GoSem.ClaimSeven
namespace Go.Proofs.YtlnhaajjoplafaaGreatDoor
namespace Rows

/-- THE TIED CARD OF 'wicketgatetop.TopLinked'. -/
def topLinkedCard : Claim7 := { stood := { row := topLinkedRow, standIns := [], harness := (true, "dae8693d1bd6a0756e6bad239b31cf7ffb14336e4571b5a3a86ecbf8cc86bacd"), looks := true }, kinds := [], alts := [], laidByText := true, laidKinds := [.handle], laidTests := true, laidLooks := .later }
def TopLinkedCardSaid : Prop := Claim7.holds Tryz.pinned (.plain (OpenSpec.ofChange topLinkedSpec)) topLinkedCard

/-- THE SECOND FORM's CARD OF 'wicketgatetop.TopLinked'. -/
def topLinkedUptoCard : Claim7 := { stood := { row := topLinkedUptoRow, standIns := [], harness := (true, "dae8693d1bd6a0756e6bad239b31cf7ffb14336e4571b5a3a86ecbf8cc86bacd"), looks := true }, kinds := [], alts := [], laidByText := true, laidKinds := [.handle], laidTests := true, laidLooks := .later }
def TopLinkedUptoCardSaid : Prop := Claim7.holds Tryz.pinned (.plain (OpenSpec.upto topLinkedSpec)) topLinkedUptoCard
end Rows
end Go.Proofs.YtlnhaajjoplafaaGreatDoor
