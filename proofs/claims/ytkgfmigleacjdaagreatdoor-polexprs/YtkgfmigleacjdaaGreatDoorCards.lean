/-
  DERIVED. GIVEN WITH THE SEED: THE CARDS: each row of YtkgfmigleacjdaaGreatDoorRows.lean that lists a variable, with what it lists TIED to the program's text (the seventh form; the later family's looks); each row that meets fmt, with fmt's text TOLD by the authors' own Lean function (tested against real Go, not proved from fmt's source: count such statements apart). THE CARD IS WHAT COUNTS. Prove the row's statement (the work); the ties are given (YtkgfmigleacjdaaGreatDoorTie.lean); close each card by the builder's one call (the guide's Derived/Test/ToyasCard.lean, 'card_holds'). Laid BY PROGRAM, IN A SANDBOX (cutbox-door.mjs). By AI agents, Wed Nov 11 2026. No macro, syntax, notation, axiom, sorry.
-/
import Derived.Test.YtkgfmigleacjdaaGreatDoorRows
import GoSem.ClaimSeven
namespace Go.Proofs.YtkgfmigleacjdaaGreatDoor
namespace Rows

/-- THE TIED CARD OF 'wicketgatelaw4.PolExprs'. -/
def polExprsCard : Claim7 := { stood := { row := polExprsRow, standIns := [], harness := (true, "f0a06101f9cfb150219056e33b06d31f2353a049c161b691b1e628d222c0e759"), looks := true }, kinds := [], alts := [], laidByText := true, laidKinds := [.handle], laidTests := true, laidLooks := .later }
def PolExprsCardSaid : Prop := Claim7.holds Tryz.pinned (.plain (OpenSpec.ofChange polExprsSpec)) polExprsCard

/-- THE TIED CARD OF 'wicketgatelaw4.PolBack'. -/
def polBackCard : Claim7 := { stood := { row := polBackRow, standIns := [], harness := (true, "f0a06101f9cfb150219056e33b06d31f2353a049c161b691b1e628d222c0e759"), looks := true }, kinds := [], alts := [], laidByText := true, laidKinds := [.data, .data, .data, .data, .sentinel, .sentinel, .pinned], laidTests := true, laidLooks := .later }
def PolBackCardSaid : Prop := Claim7.holds Tryz.pinned (.plain (OpenSpec.ofChange polBackSpec)) polBackCard

/-- THE SECOND FORM's CARD OF 'wicketgatelaw4.PolExprs'. -/
def polExprsUptoCard : Claim7 := { stood := { row := polExprsUptoRow, standIns := [], harness := (true, "f0a06101f9cfb150219056e33b06d31f2353a049c161b691b1e628d222c0e759"), looks := true }, kinds := [], alts := [], laidByText := true, laidKinds := [.handle], laidTests := true, laidLooks := .later }
def PolExprsUptoCardSaid : Prop := Claim7.holds Tryz.pinned (.plain (OpenSpec.upto polExprsSpec)) polExprsUptoCard

/-- THE SECOND FORM's CARD OF 'wicketgatelaw4.PolBack'. -/
def polBackUptoCard : Claim7 := { stood := { row := polBackUptoRow, standIns := [], harness := (true, "f0a06101f9cfb150219056e33b06d31f2353a049c161b691b1e628d222c0e759"), looks := true }, kinds := [], alts := [], laidByText := true, laidKinds := [.data, .data, .data, .data, .sentinel, .sentinel, .pinned], laidTests := true, laidLooks := .later }
def PolBackUptoCardSaid : Prop := Claim7.holds Tryz.pinned (.plain (OpenSpec.upto polBackSpec)) polBackUptoCard
end Rows
end Go.Proofs.YtkgfmigleacjdaaGreatDoor
