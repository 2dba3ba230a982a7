/-
  DERIVED. GIVEN WITH THE SEED: THE CARDS: each row of YthmfgnofhbmogaaDoorRows.lean that lists a variable, with what it lists TIED to the program's text (the seventh form; the later family's looks); each row that meets fmt, with fmt's text TOLD by the authors' own Lean function (tested against real Go, not proved from fmt's source: count such statements apart). THE CARD IS WHAT COUNTS. Prove the row's statement (the work); the ties are given (YthmfgnofhbmogaaDoorTie.lean); close each card by the builder's one call (the guide's Derived/Test/ToyasCard.lean, 'card_holds'). Laid BY PROGRAM, IN A SANDBOX (cutbox-door.mjs). By AI agents, Wed Nov 11 2026. No macro, syntax, notation, axiom, sorry.
-/
import Derived.Test.YthmfgnofhbmogaaDoorRows
import GoSem.ClaimSeven
namespace Go.Proofs.YthmfgnofhbmogaaDoor
namespace Rows

/-- THE TIED CARD OF 'wicketgatelaw1.ValChecks'. -/
def valChecksCard : Claim7 := { stood := { row := valChecksRow, standIns := [], harness := (true, "0da1a74ec7ef4404c7d1f6dabe475ed3c3b0b4e5ec52d93d5e68c822bf2d6532"), looks := true }, kinds := [], alts := [], laidByText := true, laidKinds := [.handle], laidTests := true, laidLooks := .later }
def ValChecksCardSaid : Prop := Claim7.holds Tryd.pinned (.plain (OpenSpec.ofChange valChecksSpec)) valChecksCard

/-- THE TIED CARD OF 'wicketgatelaw1.ValSets'. -/
def valSetsCard : Claim7 := { stood := { row := valSetsRow, standIns := [], harness := (true, "0da1a74ec7ef4404c7d1f6dabe475ed3c3b0b4e5ec52d93d5e68c822bf2d6532"), looks := true }, kinds := [], alts := [], laidByText := true, laidKinds := [.handle], laidTests := true, laidLooks := .later }
def ValSetsCardSaid : Prop := Claim7.holds Tryd.pinned (.plain (OpenSpec.ofChange valSetsSpec)) valSetsCard

/-- THE TIED CARD OF 'wicketgatelaw1.ValRecs'. -/
def valRecsCard : Claim7 := { stood := { row := valRecsRow, standIns := [], harness := (true, "0da1a74ec7ef4404c7d1f6dabe475ed3c3b0b4e5ec52d93d5e68c822bf2d6532"), looks := true }, kinds := [], alts := [], laidByText := true, laidKinds := [.handle], laidTests := true, laidLooks := .later }
def ValRecsCardSaid : Prop := Claim7.holds Tryd.pinned (.plain (OpenSpec.ofChange valRecsSpec)) valRecsCard

/-- THE TIED CARD OF 'wicketgatelaw1.ValParts'. -/
def valPartsCard : Claim7 := { stood := { row := valPartsRow, standIns := [], harness := (true, "0da1a74ec7ef4404c7d1f6dabe475ed3c3b0b4e5ec52d93d5e68c822bf2d6532"), looks := true }, kinds := [], alts := [], laidByText := true, laidKinds := [.handle], laidTests := true, laidLooks := .later }
def ValPartsCardSaid : Prop := Claim7.holds Tryd.pinned (.plain (OpenSpec.ofChange valPartsSpec)) valPartsCard

/-- THE SECOND FORM's CARD OF 'wicketgatelaw1.ValChecks'. -/
def valChecksUptoCard : Claim7 := { stood := { row := valChecksUptoRow, standIns := [], harness := (true, "0da1a74ec7ef4404c7d1f6dabe475ed3c3b0b4e5ec52d93d5e68c822bf2d6532"), looks := true }, kinds := [], alts := [], laidByText := true, laidKinds := [.handle], laidTests := true, laidLooks := .later }
def ValChecksUptoCardSaid : Prop := Claim7.holds Tryd.pinned (.plain (OpenSpec.upto valChecksSpec)) valChecksUptoCard

/-- THE SECOND FORM's CARD OF 'wicketgatelaw1.ValSets'. -/
def valSetsUptoCard : Claim7 := { stood := { row := valSetsUptoRow, standIns := [], harness := (true, "0da1a74ec7ef4404c7d1f6dabe475ed3c3b0b4e5ec52d93d5e68c822bf2d6532"), looks := true }, kinds := [], alts := [], laidByText := true, laidKinds := [.handle], laidTests := true, laidLooks := .later }
def ValSetsUptoCardSaid : Prop := Claim7.holds Tryd.pinned (.plain (OpenSpec.upto valSetsSpec)) valSetsUptoCard

/-- THE SECOND FORM's CARD OF 'wicketgatelaw1.ValRecs'. -/
def valRecsUptoCard : Claim7 := { stood := { row := valRecsUptoRow, standIns := [], harness := (true, "0da1a74ec7ef4404c7d1f6dabe475ed3c3b0b4e5ec52d93d5e68c822bf2d6532"), looks := true }, kinds := [], alts := [], laidByText := true, laidKinds := [.handle], laidTests := true, laidLooks := .later }
def ValRecsUptoCardSaid : Prop := Claim7.holds Tryd.pinned (.plain (OpenSpec.upto valRecsSpec)) valRecsUptoCard

/-- THE SECOND FORM's CARD OF 'wicketgatelaw1.ValParts'. -/
def valPartsUptoCard : Claim7 := { stood := { row := valPartsUptoRow, standIns := [], harness := (true, "0da1a74ec7ef4404c7d1f6dabe475ed3c3b0b4e5ec52d93d5e68c822bf2d6532"), looks := true }, kinds := [], alts := [], laidByText := true, laidKinds := [.handle], laidTests := true, laidLooks := .later }
def ValPartsUptoCardSaid : Prop := Claim7.holds Tryd.pinned (.plain (OpenSpec.upto valPartsSpec)) valPartsUptoCard
end Rows
end Go.Proofs.YthmfgnofhbmogaaDoor
