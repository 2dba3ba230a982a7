/-
  DERIVED. GIVEN WITH THE SEED: THE CARDS: each row of YtipcngglmebiiaaGreatDoorRows.lean that lists a variable, with what it lists TIED to the program's text (the seventh form; the later family's looks); each row that meets fmt, with fmt's text TOLD by the authors' own Lean function (tested against real Go, not proved from fmt's source: count such statements apart). THE CARD IS WHAT COUNTS. Prove the row's statement (the work); the ties are given (YtipcngglmebiiaaGreatDoorTie.lean); close each card by the builder's one call (the guide's Derived/Test/ToyasCard.lean, 'card_holds'). Laid BY PROGRAM, IN A SANDBOX (cutbox-door.mjs). By AI agents, Wed Nov 11 2026. No macro, syntax, notation, axiom, sorry.
-/
import Derived.Test.YtipcngglmebiiaaGreatDoorRows
import GoSem.ClaimSeven
namespace Go.Proofs.YtipcngglmebiiaaGreatDoor
namespace Rows

/-- THE TIED CARD OF 'wicketgatelaw4.AuthOrder'. -/
def authOrderCard : Claim7 := { stood := { row := authOrderRow, standIns := [], harness := (true, "4b458af11bc2edf5c371300145a4171248073b28163ac41b99deb9727cd2c49c"), looks := true }, kinds := [], alts := [], laidByText := true, laidKinds := [.handle], laidTests := true, laidLooks := .later }
def AuthOrderCardSaid : Prop := Claim7.holds Tryz.pinned (.plain (OpenSpec.ofChange authOrderSpec)) authOrderCard

/-- THE TIED CARD OF 'wicketgatelaw4.AuthTrumps'. -/
def authTrumpsCard : Claim7 := { stood := { row := authTrumpsRow, standIns := [], harness := (true, "4b458af11bc2edf5c371300145a4171248073b28163ac41b99deb9727cd2c49c"), looks := true }, kinds := [], alts := [], laidByText := true, laidKinds := [.handle], laidTests := true, laidLooks := .later }
def AuthTrumpsCardSaid : Prop := Claim7.holds Tryz.pinned (.plain (OpenSpec.ofChange authTrumpsSpec)) authTrumpsCard

/-- THE TIED CARD OF 'wicketgatelaw4.AuthMore'. -/
def authMoreCard : Claim7 := { stood := { row := authMoreRow, standIns := [], harness := (true, "4b458af11bc2edf5c371300145a4171248073b28163ac41b99deb9727cd2c49c"), looks := true }, kinds := [], alts := [], laidByText := true, laidKinds := [.handle], laidTests := true, laidLooks := .later }
def AuthMoreCardSaid : Prop := Claim7.holds Tryz.pinned (.plain (OpenSpec.ofChange authMoreSpec)) authMoreCard

/-- THE TIED CARD OF 'wicketgatelaw4.AuthAlone'. -/
def authAloneCard : Claim7 := { stood := { row := authAloneRow, standIns := [], harness := (true, "4b458af11bc2edf5c371300145a4171248073b28163ac41b99deb9727cd2c49c"), looks := true }, kinds := [], alts := [], laidByText := true, laidKinds := [.handle], laidTests := true, laidLooks := .later }
def AuthAloneCardSaid : Prop := Claim7.holds Tryz.pinned (.plain (OpenSpec.ofChange authAloneSpec)) authAloneCard

/-- THE TIED CARD OF 'wicketgatelaw4.AuthApart'. -/
def authApartCard : Claim7 := { stood := { row := authApartRow, standIns := [], harness := (true, "4b458af11bc2edf5c371300145a4171248073b28163ac41b99deb9727cd2c49c"), looks := true }, kinds := [], alts := [], laidByText := true, laidKinds := [.handle], laidTests := true, laidLooks := .later }
def AuthApartCardSaid : Prop := Claim7.holds Tryz.pinned (.plain (OpenSpec.ofChange authApartSpec)) authApartCard

/-- THE TIED CARD OF 'wicketgatelaw4.AuthCopies'. -/
def authCopiesCard : Claim7 := { stood := { row := authCopiesRow, standIns := [], harness := (true, "4b458af11bc2edf5c371300145a4171248073b28163ac41b99deb9727cd2c49c"), looks := true }, kinds := [], alts := [], laidByText := true, laidKinds := [.handle], laidTests := true, laidLooks := .later }
def AuthCopiesCardSaid : Prop := Claim7.holds Tryz.pinned (.plain (OpenSpec.ofChange authCopiesSpec)) authCopiesCard

/-- THE SECOND FORM's CARD OF 'wicketgatelaw4.AuthOrder'. -/
def authOrderUptoCard : Claim7 := { stood := { row := authOrderUptoRow, standIns := [], harness := (true, "4b458af11bc2edf5c371300145a4171248073b28163ac41b99deb9727cd2c49c"), looks := true }, kinds := [], alts := [], laidByText := true, laidKinds := [.handle], laidTests := true, laidLooks := .later }
def AuthOrderUptoCardSaid : Prop := Claim7.holds Tryz.pinned (.plain (OpenSpec.upto authOrderSpec)) authOrderUptoCard

/-- THE SECOND FORM's CARD OF 'wicketgatelaw4.AuthTrumps'. -/
def authTrumpsUptoCard : Claim7 := { stood := { row := authTrumpsUptoRow, standIns := [], harness := (true, "4b458af11bc2edf5c371300145a4171248073b28163ac41b99deb9727cd2c49c"), looks := true }, kinds := [], alts := [], laidByText := true, laidKinds := [.handle], laidTests := true, laidLooks := .later }
def AuthTrumpsUptoCardSaid : Prop := Claim7.holds Tryz.pinned (.plain (OpenSpec.upto authTrumpsSpec)) authTrumpsUptoCard

/-- THE SECOND FORM's CARD OF 'wicketgatelaw4.AuthMore'. -/
def authMoreUptoCard : Claim7 := { stood := { row := authMoreUptoRow, standIns := [], harness := (true, "4b458af11bc2edf5c371300145a4171248073b28163ac41b99deb9727cd2c49c"), looks := true }, kinds := [], alts := [], laidByText := true, laidKinds := [.handle], laidTests := true, laidLooks := .later }
def AuthMoreUptoCardSaid : Prop := Claim7.holds Tryz.pinned (.plain (OpenSpec.upto authMoreSpec)) authMoreUptoCard

/-- THE SECOND FORM's CARD OF 'wicketgatelaw4.AuthAlone'. -/
def authAloneUptoCard : Claim7 := { stood := { row := authAloneUptoRow, standIns := [], harness := (true, "4b458af11bc2edf5c371300145a4171248073b28163ac41b99deb9727cd2c49c"), looks := true }, kinds := [], alts := [], laidByText := true, laidKinds := [.handle], laidTests := true, laidLooks := .later }
def AuthAloneUptoCardSaid : Prop := Claim7.holds Tryz.pinned (.plain (OpenSpec.upto authAloneSpec)) authAloneUptoCard

/-- THE SECOND FORM's CARD OF 'wicketgatelaw4.AuthApart'. -/
def authApartUptoCard : Claim7 := { stood := { row := authApartUptoRow, standIns := [], harness := (true, "4b458af11bc2edf5c371300145a4171248073b28163ac41b99deb9727cd2c49c"), looks := true }, kinds := [], alts := [], laidByText := true, laidKinds := [.handle], laidTests := true, laidLooks := .later }
def AuthApartUptoCardSaid : Prop := Claim7.holds Tryz.pinned (.plain (OpenSpec.upto authApartSpec)) authApartUptoCard

/-- THE SECOND FORM's CARD OF 'wicketgatelaw4.AuthCopies'. -/
def authCopiesUptoCard : Claim7 := { stood := { row := authCopiesUptoRow, standIns := [], harness := (true, "4b458af11bc2edf5c371300145a4171248073b28163ac41b99deb9727cd2c49c"), looks := true }, kinds := [], alts := [], laidByText := true, laidKinds := [.handle], laidTests := true, laidLooks := .later }
def AuthCopiesUptoCardSaid : Prop := Claim7.holds Tryz.pinned (.plain (OpenSpec.upto authCopiesSpec)) authCopiesUptoCard
end Rows
end Go.Proofs.YtipcngglmebiiaaGreatDoor
