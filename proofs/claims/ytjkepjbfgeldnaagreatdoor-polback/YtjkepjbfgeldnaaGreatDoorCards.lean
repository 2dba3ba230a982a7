/-
  DERIVED. GIVEN WITH THE SEED: THE CARDS: each row of YtjkepjbfgeldnaaGreatDoorRows.lean that lists a variable, with what it lists TIED to the program's text (the seventh form; the later family's looks); each row that meets fmt, with fmt's text TOLD by the authors' own Lean function (tested against real Go, not proved from fmt's source: count such statements apart). THE CARD IS WHAT COUNTS. Prove the row's statement (the work); the ties are given (YtjkepjbfgeldnaaGreatDoorTie.lean); close each card by the builder's one call (the guide's Derived/Test/ToyasCard.lean, 'card_holds'). Laid BY PROGRAM, IN A SANDBOX (cutbox-door.mjs). By AI agents, Wed Nov 11 2026. No macro, syntax, notation, axiom, sorry.
-/
import Derived.Test.YtjkepjbfgeldnaaGreatDoorRows
import GoSem.ClaimSeven
namespace Go.Proofs.YtjkepjbfgeldnaaGreatDoor
namespace Rows

/-- THE TIED CARD OF 'wicketgatelaw4.PolBack'. -/
def polBackCard : Claim7 := { stood := { row := polBackRow, standIns := [], harness := (true, "5fd473cbc4fc7be270579c0b0a6984387fa14ee21d690e85a2a077d6a6c36647"), looks := true }, kinds := [], alts := [], laidByText := true, laidKinds := [.data, .data, .data, .data, .sentinel, .sentinel, .pinned], laidTests := true, laidLooks := .later }
def PolBackCardSaid : Prop := Claim7.holds Tryz.pinned (.plain (OpenSpec.ofChange polBackSpec)) polBackCard

/-- THE TIED CARD OF 'wicketgatelaw4.LinkFills'. -/
def linkFillsCard : Claim7 := { stood := { row := linkFillsRow, standIns := [], harness := (true, "5fd473cbc4fc7be270579c0b0a6984387fa14ee21d690e85a2a077d6a6c36647"), looks := true }, kinds := [], alts := [], laidByText := true, laidKinds := [.handle], laidTests := true, laidLooks := .later }
def LinkFillsCardSaid : Prop := Claim7.holds Tryz.pinned (.plain (OpenSpec.ofChange linkFillsSpec)) linkFillsCard

/-- THE SECOND FORM's CARD OF 'wicketgatelaw4.PolBack'. -/
def polBackUptoCard : Claim7 := { stood := { row := polBackUptoRow, standIns := [], harness := (true, "5fd473cbc4fc7be270579c0b0a6984387fa14ee21d690e85a2a077d6a6c36647"), looks := true }, kinds := [], alts := [], laidByText := true, laidKinds := [.data, .data, .data, .data, .sentinel, .sentinel, .pinned], laidTests := true, laidLooks := .later }
def PolBackUptoCardSaid : Prop := Claim7.holds Tryz.pinned (.plain (OpenSpec.upto polBackSpec)) polBackUptoCard

/-- THE SECOND FORM's CARD OF 'wicketgatelaw4.LinkFills'. -/
def linkFillsUptoCard : Claim7 := { stood := { row := linkFillsUptoRow, standIns := [], harness := (true, "5fd473cbc4fc7be270579c0b0a6984387fa14ee21d690e85a2a077d6a6c36647"), looks := true }, kinds := [], alts := [], laidByText := true, laidKinds := [.handle], laidTests := true, laidLooks := .later }
def LinkFillsUptoCardSaid : Prop := Claim7.holds Tryz.pinned (.plain (OpenSpec.upto linkFillsSpec)) linkFillsUptoCard
end Rows
end Go.Proofs.YtjkepjbfgeldnaaGreatDoor
