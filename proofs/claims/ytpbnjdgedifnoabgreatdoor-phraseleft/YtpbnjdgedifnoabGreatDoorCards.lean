/-
  DERIVED. GIVEN WITH THE SEED: THE CARDS: each row of YtpbnjdgedifnoabGreatDoorRows.lean that lists a variable, with what it lists TIED to the program's text (the seventh form; the later family's looks); each row that meets fmt, with fmt's text TOLD by the authors' own Lean function (tested against real Go, not proved from fmt's source: count such statements apart). THE CARD IS WHAT COUNTS. Prove the row's statement (the work); the ties are given (YtpbnjdgedifnoabGreatDoorTie.lean); close each card by the builder's one call (the guide's Derived/Test/ToyasCard.lean, 'card_holds'). Laid BY PROGRAM, IN A SANDBOX (cutbox-door.mjs). By AI agents, Wed Nov 11 2026. No macro, syntax, notation, axiom, sorry.
-/
import Derived.Test.YtpbnjdgedifnoabGreatDoorRows
import GoSem.ClaimSeven
namespace Go.Proofs.YtpbnjdgedifnoabGreatDoor
namespace Rows

/-- THE TIED CARD OF 'wicketgatelaw2.PhraseLeft'. -/
def phraseLeftCard : Claim7 := { stood := { row := phraseLeftRow, standIns := [], harness := (true, "44685a8d08ac6c7a0f90f4e057df43d2b7a994e0b8125536394e485a0ebb3f02"), looks := true }, kinds := [], alts := [], laidByText := true, laidKinds := [.data, .data, .data, .data, .sentinel, .sentinel, .pinned], laidTests := true, laidLooks := .later }
def PhraseLeftCardSaid : Prop := Claim7.holds Tryz.pinned (.plain (OpenSpec.ofChange phraseLeftSpec)) phraseLeftCard

/-- THE TIED CARD OF 'wicketgatelaw2.PhraseNumbers'. -/
def phraseNumbersCard : Claim7 := { stood := { row := phraseNumbersRow, standIns := [], harness := (true, "44685a8d08ac6c7a0f90f4e057df43d2b7a994e0b8125536394e485a0ebb3f02"), looks := true }, kinds := [], alts := [], laidByText := true, laidKinds := [.data, .data, .data, .data, .sentinel, .sentinel, .pinned], laidTests := true, laidLooks := .later }
def PhraseNumbersCardSaid : Prop := Claim7.holds Tryz.pinned (.plain (OpenSpec.ofChange phraseNumbersSpec)) phraseNumbersCard

/-- THE SECOND FORM's CARD OF 'wicketgatelaw2.PhraseLeft'. -/
def phraseLeftUptoCard : Claim7 := { stood := { row := phraseLeftUptoRow, standIns := [], harness := (true, "44685a8d08ac6c7a0f90f4e057df43d2b7a994e0b8125536394e485a0ebb3f02"), looks := true }, kinds := [], alts := [], laidByText := true, laidKinds := [.data, .data, .data, .data, .sentinel, .sentinel, .pinned], laidTests := true, laidLooks := .later }
def PhraseLeftUptoCardSaid : Prop := Claim7.holds Tryz.pinned (.plain (OpenSpec.upto phraseLeftSpec)) phraseLeftUptoCard

/-- THE SECOND FORM's CARD OF 'wicketgatelaw2.PhraseNumbers'. -/
def phraseNumbersUptoCard : Claim7 := { stood := { row := phraseNumbersUptoRow, standIns := [], harness := (true, "44685a8d08ac6c7a0f90f4e057df43d2b7a994e0b8125536394e485a0ebb3f02"), looks := true }, kinds := [], alts := [], laidByText := true, laidKinds := [.data, .data, .data, .data, .sentinel, .sentinel, .pinned], laidTests := true, laidLooks := .later }
def PhraseNumbersUptoCardSaid : Prop := Claim7.holds Tryz.pinned (.plain (OpenSpec.upto phraseNumbersSpec)) phraseNumbersUptoCard
end Rows
end Go.Proofs.YtpbnjdgedifnoabGreatDoor
