/-
  DERIVED. GIVEN WITH THE SEED: THE CARDS: each row of YthjeeppnijehoaaDoorRows.lean that lists a variable, with what it lists TIED to the program's text (the seventh form; the later family's looks); each row that meets fmt, with fmt's text TOLD by the authors' own Lean function (tested against real Go, not proved from fmt's source: count such statements apart). THE CARD IS WHAT COUNTS. Prove the row's statement (the work); the ties are given (YthjeeppnijehoaaDoorTie.lean); close each card by the builder's one call (the guide's Derived/Test/ToyasCard.lean, 'card_holds'). Laid BY PROGRAM, IN A SANDBOX (cutbox-door.mjs). By AI agents, Wed Nov 11 2026. No macro, syntax, notation, axiom, sorry.
-/
import Derived.Test.YthjeeppnijehoaaDoorRows
import GoSem.ClaimSeven
namespace Go.Proofs.YthjeeppnijehoaaDoor
namespace Rows

/-- THE TIED CARD OF 'wicketgatelaw1.NameChecks'. -/
def nameChecksCard : Claim7 := { stood := { row := nameChecksRow, standIns := [], harness := (true, "31ecb106264da92f33f5814b6d77bc1a81dadf93fede439734b05ddaeb1df979"), looks := true }, kinds := [], alts := [], laidByText := true, laidKinds := [.handle], laidTests := true, laidLooks := .later }
def NameChecksCardSaid : Prop := Claim7.holds Tryd.pinned (.plain (OpenSpec.ofChange nameChecksSpec)) nameChecksCard

/-- THE TIED CARD OF 'wicketgatelaw1.NameQuotes'. -/
def nameQuotesCard : Claim7 := { stood := { row := nameQuotesRow, standIns := [], harness := (true, "31ecb106264da92f33f5814b6d77bc1a81dadf93fede439734b05ddaeb1df979"), looks := true }, kinds := [], alts := [], laidByText := true, laidKinds := [.handle], laidTests := true, laidLooks := .later }
def NameQuotesCardSaid : Prop := Claim7.holds Tryd.pinned (.plain (OpenSpec.ofChange nameQuotesSpec)) nameQuotesCard

/-- THE TIED CARD OF 'wicketgatelaw1.NameUids'. -/
def nameUidsCard : Claim7 := { stood := { row := nameUidsRow, standIns := [], harness := (true, "31ecb106264da92f33f5814b6d77bc1a81dadf93fede439734b05ddaeb1df979"), looks := true }, kinds := [], alts := [], laidByText := true, laidKinds := [.handle], laidTests := true, laidLooks := .later }
def NameUidsCardSaid : Prop := Claim7.holds Tryd.pinned (.plain (OpenSpec.ofChange nameUidsSpec)) nameUidsCard

/-- THE SECOND FORM's CARD OF 'wicketgatelaw1.NameChecks'. -/
def nameChecksUptoCard : Claim7 := { stood := { row := nameChecksUptoRow, standIns := [], harness := (true, "31ecb106264da92f33f5814b6d77bc1a81dadf93fede439734b05ddaeb1df979"), looks := true }, kinds := [], alts := [], laidByText := true, laidKinds := [.handle], laidTests := true, laidLooks := .later }
def NameChecksUptoCardSaid : Prop := Claim7.holds Tryd.pinned (.plain (OpenSpec.upto nameChecksSpec)) nameChecksUptoCard

/-- THE SECOND FORM's CARD OF 'wicketgatelaw1.NameQuotes'. -/
def nameQuotesUptoCard : Claim7 := { stood := { row := nameQuotesUptoRow, standIns := [], harness := (true, "31ecb106264da92f33f5814b6d77bc1a81dadf93fede439734b05ddaeb1df979"), looks := true }, kinds := [], alts := [], laidByText := true, laidKinds := [.handle], laidTests := true, laidLooks := .later }
def NameQuotesUptoCardSaid : Prop := Claim7.holds Tryd.pinned (.plain (OpenSpec.upto nameQuotesSpec)) nameQuotesUptoCard

/-- THE SECOND FORM's CARD OF 'wicketgatelaw1.NameUids'. -/
def nameUidsUptoCard : Claim7 := { stood := { row := nameUidsUptoRow, standIns := [], harness := (true, "31ecb106264da92f33f5814b6d77bc1a81dadf93fede439734b05ddaeb1df979"), looks := true }, kinds := [], alts := [], laidByText := true, laidKinds := [.handle], laidTests := true, laidLooks := .later }
def NameUidsUptoCardSaid : Prop := Claim7.holds Tryd.pinned (.plain (OpenSpec.upto nameUidsSpec)) nameUidsUptoCard
end Rows
end Go.Proofs.YthjeeppnijehoaaDoor
