/-
  DERIVED. GIVEN WITH THE SEED: THE CARDS: each row of YtpbnjdgedifnoaaGreatDoorRows.lean that lists a variable, with what it lists TIED to the program's text (the seventh form; the later family's looks); each row that meets fmt, with fmt's text TOLD by the authors' own Lean function (tested against real Go, not proved from fmt's source: count such statements apart). THE CARD IS WHAT COUNTS. Prove the row's statement (the work); the ties are given (YtpbnjdgedifnoaaGreatDoorTie.lean); close each card by the builder's one call (the guide's Derived/Test/ToyasCard.lean, 'card_holds'). Laid BY PROGRAM, IN A SANDBOX (cutbox-door.mjs). By AI agents, Wed Nov 11 2026. No macro, syntax, notation, axiom, sorry.
-/
import Derived.Test.YtpbnjdgedifnoaaGreatDoorRows
import GoSem.ClaimSeven
namespace Go.Proofs.YtpbnjdgedifnoaaGreatDoor
namespace Rows

/-- THE TIED CARD OF 'wicketgatelaw2.PhraseParses'. -/
def phraseParsesCard : Claim7 := { stood := { row := phraseParsesRow, standIns := [], harness := (true, "31aa62eb171b8ff23e0641597722871d0a2f20144dbfce8716350a50a4852bc2"), looks := true }, kinds := [], alts := [], laidByText := true, laidKinds := [.data, .data, .data, .data, .handle, .sentinel, .sentinel, .pinned], laidTests := true, laidLooks := .later }
def PhraseParsesCardSaid : Prop := Claim7.holds Tryz.pinned (.plain (OpenSpec.ofChange phraseParsesSpec)) phraseParsesCard

/-- THE TIED CARD OF 'wicketgatelaw2.PhrasePrints'. -/
def phrasePrintsCard : Claim7 := { stood := { row := phrasePrintsRow, standIns := [], harness := (true, "31aa62eb171b8ff23e0641597722871d0a2f20144dbfce8716350a50a4852bc2"), looks := true }, kinds := [], alts := [], laidByText := true, laidKinds := [.data, .data, .data, .handle], laidTests := true, laidLooks := .later }
def PhrasePrintsCardSaid : Prop := Claim7.holds Tryz.pinned (.plain (OpenSpec.ofChange phrasePrintsSpec)) phrasePrintsCard

/-- THE TIED CARD OF 'wicketgatelaw2.PhraseBack'. -/
def phraseBackCard : Claim7 := { stood := { row := phraseBackRow, standIns := [], harness := (true, "31aa62eb171b8ff23e0641597722871d0a2f20144dbfce8716350a50a4852bc2"), looks := true }, kinds := [], alts := [], laidByText := true, laidKinds := [.data, .data, .data, .data, .sentinel, .sentinel, .pinned], laidTests := true, laidLooks := .later }
def PhraseBackCardSaid : Prop := Claim7.holds Tryz.pinned (.plain (OpenSpec.ofChange phraseBackSpec)) phraseBackCard

/-- THE TIED CARD OF 'wicketgatelaw2.PhraseAgain'. -/
def phraseAgainCard : Claim7 := { stood := { row := phraseAgainRow, standIns := [], harness := (true, "31aa62eb171b8ff23e0641597722871d0a2f20144dbfce8716350a50a4852bc2"), looks := true }, kinds := [], alts := [], laidByText := true, laidKinds := [.data, .data, .data, .data, .sentinel, .sentinel, .pinned], laidTests := true, laidLooks := .later }
def PhraseAgainCardSaid : Prop := Claim7.holds Tryz.pinned (.plain (OpenSpec.ofChange phraseAgainSpec)) phraseAgainCard

/-- THE TIED CARD OF 'wicketgatelaw2.PhraseBrackets'. -/
def phraseBracketsCard : Claim7 := { stood := { row := phraseBracketsRow, standIns := [], harness := (true, "31aa62eb171b8ff23e0641597722871d0a2f20144dbfce8716350a50a4852bc2"), looks := true }, kinds := [], alts := [], laidByText := true, laidKinds := [.data, .data, .data, .data, .sentinel, .sentinel, .pinned], laidTests := true, laidLooks := .later }
def PhraseBracketsCardSaid : Prop := Claim7.holds Tryz.pinned (.plain (OpenSpec.ofChange phraseBracketsSpec)) phraseBracketsCard

/-- THE TIED CARD OF 'wicketgatelaw2.PhraseSoon'. -/
def phraseSoonCard : Claim7 := { stood := { row := phraseSoonRow, standIns := [], harness := (true, "31aa62eb171b8ff23e0641597722871d0a2f20144dbfce8716350a50a4852bc2"), looks := true }, kinds := [], alts := [], laidByText := true, laidKinds := [.data, .data, .data, .data, .handle, .sentinel, .sentinel, .pinned], laidTests := true, laidLooks := .later }
def PhraseSoonCardSaid : Prop := Claim7.holds Tryz.pinned (.plain (OpenSpec.ofChange phraseSoonSpec)) phraseSoonCard

/-- THE SECOND FORM's CARD OF 'wicketgatelaw2.PhraseParses'. -/
def phraseParsesUptoCard : Claim7 := { stood := { row := phraseParsesUptoRow, standIns := [], harness := (true, "31aa62eb171b8ff23e0641597722871d0a2f20144dbfce8716350a50a4852bc2"), looks := true }, kinds := [], alts := [], laidByText := true, laidKinds := [.data, .data, .data, .data, .handle, .sentinel, .sentinel, .pinned], laidTests := true, laidLooks := .later }
def PhraseParsesUptoCardSaid : Prop := Claim7.holds Tryz.pinned (.plain (OpenSpec.upto phraseParsesSpec)) phraseParsesUptoCard

/-- THE SECOND FORM's CARD OF 'wicketgatelaw2.PhrasePrints'. -/
def phrasePrintsUptoCard : Claim7 := { stood := { row := phrasePrintsUptoRow, standIns := [], harness := (true, "31aa62eb171b8ff23e0641597722871d0a2f20144dbfce8716350a50a4852bc2"), looks := true }, kinds := [], alts := [], laidByText := true, laidKinds := [.data, .data, .data, .handle], laidTests := true, laidLooks := .later }
def PhrasePrintsUptoCardSaid : Prop := Claim7.holds Tryz.pinned (.plain (OpenSpec.upto phrasePrintsSpec)) phrasePrintsUptoCard

/-- THE SECOND FORM's CARD OF 'wicketgatelaw2.PhraseBack'. -/
def phraseBackUptoCard : Claim7 := { stood := { row := phraseBackUptoRow, standIns := [], harness := (true, "31aa62eb171b8ff23e0641597722871d0a2f20144dbfce8716350a50a4852bc2"), looks := true }, kinds := [], alts := [], laidByText := true, laidKinds := [.data, .data, .data, .data, .sentinel, .sentinel, .pinned], laidTests := true, laidLooks := .later }
def PhraseBackUptoCardSaid : Prop := Claim7.holds Tryz.pinned (.plain (OpenSpec.upto phraseBackSpec)) phraseBackUptoCard

/-- THE SECOND FORM's CARD OF 'wicketgatelaw2.PhraseAgain'. -/
def phraseAgainUptoCard : Claim7 := { stood := { row := phraseAgainUptoRow, standIns := [], harness := (true, "31aa62eb171b8ff23e0641597722871d0a2f20144dbfce8716350a50a4852bc2"), looks := true }, kinds := [], alts := [], laidByText := true, laidKinds := [.data, .data, .data, .data, .sentinel, .sentinel, .pinned], laidTests := true, laidLooks := .later }
def PhraseAgainUptoCardSaid : Prop := Claim7.holds Tryz.pinned (.plain (OpenSpec.upto phraseAgainSpec)) phraseAgainUptoCard

/-- THE SECOND FORM's CARD OF 'wicketgatelaw2.PhraseBrackets'. -/
def phraseBracketsUptoCard : Claim7 := { stood := { row := phraseBracketsUptoRow, standIns := [], harness := (true, "31aa62eb171b8ff23e0641597722871d0a2f20144dbfce8716350a50a4852bc2"), looks := true }, kinds := [], alts := [], laidByText := true, laidKinds := [.data, .data, .data, .data, .sentinel, .sentinel, .pinned], laidTests := true, laidLooks := .later }
def PhraseBracketsUptoCardSaid : Prop := Claim7.holds Tryz.pinned (.plain (OpenSpec.upto phraseBracketsSpec)) phraseBracketsUptoCard

/-- THE SECOND FORM's CARD OF 'wicketgatelaw2.PhraseSoon'. -/
def phraseSoonUptoCard : Claim7 := { stood := { row := phraseSoonUptoRow, standIns := [], harness := (true, "31aa62eb171b8ff23e0641597722871d0a2f20144dbfce8716350a50a4852bc2"), looks := true }, kinds := [], alts := [], laidByText := true, laidKinds := [.data, .data, .data, .data, .handle, .sentinel, .sentinel, .pinned], laidTests := true, laidLooks := .later }
def PhraseSoonUptoCardSaid : Prop := Claim7.holds Tryz.pinned (.plain (OpenSpec.upto phraseSoonSpec)) phraseSoonUptoCard
end Rows
end Go.Proofs.YtpbnjdgedifnoaaGreatDoor
