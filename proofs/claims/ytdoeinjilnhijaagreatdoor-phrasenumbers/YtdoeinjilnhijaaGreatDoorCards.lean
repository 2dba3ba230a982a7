/-
  DERIVED. GIVEN WITH THE SEED: THE CARDS: each row of YtdoeinjilnhijaaGreatDoorRows.lean that lists a variable, with what it lists TIED to the program's text (the seventh form; the later family's looks); each row that meets fmt, with fmt's text TOLD by the authors' own Lean function (tested against real Go, not proved from fmt's source: count such statements apart). THE CARD IS WHAT COUNTS. Prove the row's statement (the work); the ties are given (YtdoeinjilnhijaaGreatDoorTie.lean); close each card by the builder's one call (the guide's Derived/Test/ToyasCard.lean, 'card_holds'). Laid BY PROGRAM, IN A SANDBOX (cutbox-door.mjs). By AI agents, Wed Nov 11 2026. No macro, syntax, notation, axiom, sorry.
-/
import Derived.Test.YtdoeinjilnhijaaGreatDoorRows
import GoSem.ClaimSeven
namespace Go.Proofs.YtdoeinjilnhijaaGreatDoor
namespace Rows

/-- THE TIED CARD OF 'wicketgatelaw2.PhrasePrints'. -/
def phrasePrintsCard : Claim7 := { stood := { row := phrasePrintsRow, standIns := [], harness := (true, "4aeb0a10c942d956ef47228f18855a7445231a1de6e08bf00f12a42b0b1525f0"), looks := true }, kinds := [], alts := [], laidByText := true, laidKinds := [.data, .data, .data, .handle], laidTests := true, laidLooks := .later }
def PhrasePrintsCardSaid : Prop := Claim7.holds Tryz.pinned (.plain (OpenSpec.ofChange phrasePrintsSpec)) phrasePrintsCard

/-- THE TIED CARD OF 'wicketgatelaw2.PhraseBack'. -/
def phraseBackCard : Claim7 := { stood := { row := phraseBackRow, standIns := [], harness := (true, "4aeb0a10c942d956ef47228f18855a7445231a1de6e08bf00f12a42b0b1525f0"), looks := true }, kinds := [], alts := [], laidByText := true, laidKinds := [.data, .data, .data, .data, .sentinel, .sentinel, .pinned], laidTests := true, laidLooks := .later }
def PhraseBackCardSaid : Prop := Claim7.holds Tryz.pinned (.plain (OpenSpec.ofChange phraseBackSpec)) phraseBackCard

/-- THE TIED CARD OF 'wicketgatelaw2.PhraseNumbers'. -/
def phraseNumbersCard : Claim7 := { stood := { row := phraseNumbersRow, standIns := [], harness := (true, "4aeb0a10c942d956ef47228f18855a7445231a1de6e08bf00f12a42b0b1525f0"), looks := true }, kinds := [], alts := [], laidByText := true, laidKinds := [.data, .data, .data, .data, .sentinel, .sentinel, .pinned], laidTests := true, laidLooks := .later }
def PhraseNumbersCardSaid : Prop := Claim7.holds Tryz.pinned (.plain (OpenSpec.ofChange phraseNumbersSpec)) phraseNumbersCard

/-- THE SECOND FORM's CARD OF 'wicketgatelaw2.PhrasePrints'. -/
def phrasePrintsUptoCard : Claim7 := { stood := { row := phrasePrintsUptoRow, standIns := [], harness := (true, "4aeb0a10c942d956ef47228f18855a7445231a1de6e08bf00f12a42b0b1525f0"), looks := true }, kinds := [], alts := [], laidByText := true, laidKinds := [.data, .data, .data, .handle], laidTests := true, laidLooks := .later }
def PhrasePrintsUptoCardSaid : Prop := Claim7.holds Tryz.pinned (.plain (OpenSpec.upto phrasePrintsSpec)) phrasePrintsUptoCard

/-- THE SECOND FORM's CARD OF 'wicketgatelaw2.PhraseBack'. -/
def phraseBackUptoCard : Claim7 := { stood := { row := phraseBackUptoRow, standIns := [], harness := (true, "4aeb0a10c942d956ef47228f18855a7445231a1de6e08bf00f12a42b0b1525f0"), looks := true }, kinds := [], alts := [], laidByText := true, laidKinds := [.data, .data, .data, .data, .sentinel, .sentinel, .pinned], laidTests := true, laidLooks := .later }
def PhraseBackUptoCardSaid : Prop := Claim7.holds Tryz.pinned (.plain (OpenSpec.upto phraseBackSpec)) phraseBackUptoCard

/-- THE SECOND FORM's CARD OF 'wicketgatelaw2.PhraseNumbers'. -/
def phraseNumbersUptoCard : Claim7 := { stood := { row := phraseNumbersUptoRow, standIns := [], harness := (true, "4aeb0a10c942d956ef47228f18855a7445231a1de6e08bf00f12a42b0b1525f0"), looks := true }, kinds := [], alts := [], laidByText := true, laidKinds := [.data, .data, .data, .data, .sentinel, .sentinel, .pinned], laidTests := true, laidLooks := .later }
def PhraseNumbersUptoCardSaid : Prop := Claim7.holds Tryz.pinned (.plain (OpenSpec.upto phraseNumbersSpec)) phraseNumbersUptoCard
end Rows
end Go.Proofs.YtdoeinjilnhijaaGreatDoor
