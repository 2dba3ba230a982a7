/-
  DERIVED. GIVEN WITH THE SEED: THE CARDS: each row of YtpmkpfdhanmhiaaGreatDoorRows.lean that lists a variable, with what it lists TIED to the program's text (the seventh form; the later family's looks); each row that meets fmt, with fmt's text TOLD by the authors' own Lean function (tested against real Go, not proved from fmt's source: count such statements apart). THE CARD IS WHAT COUNTS. Prove the row's statement (the work); the ties are given (YtpmkpfdhanmhiaaGreatDoorTie.lean); close each card by the builder's one call (the guide's Derived/Test/ToyasCard.lean, 'card_holds'). Laid BY PROGRAM, IN A SANDBOX (cutbox-door.mjs). By AI agents, Wed Nov 11 2026. No macro, syntax, notation, axiom, sorry.
-/
import Derived.Test.YtpmkpfdhanmhiaaGreatDoorRows
import GoSem.ClaimSeven
namespace Go.Proofs.YtpmkpfdhanmhiaaGreatDoor
namespace Rows

/-- THE TIED CARD OF 'wicketgatelaw4.PolMeans'. -/
def polMeansCard : Claim7 := { stood := { row := polMeansRow, standIns := [], harness := (true, "04513b0e1218eba72540ea3837a8f4b7792b2793ca9cb79b7b90c13cc6272358"), looks := true }, kinds := [], alts := [], laidByText := true, laidKinds := [.handle], laidTests := true, laidLooks := .later }
def PolMeansCardSaid : Prop := Claim7.holds Tryz.pinned (.plain (OpenSpec.ofChange polMeansSpec)) polMeansCard

/-- THE SECOND FORM's CARD OF 'wicketgatelaw4.PolMeans'. -/
def polMeansUptoCard : Claim7 := { stood := { row := polMeansUptoRow, standIns := [], harness := (true, "04513b0e1218eba72540ea3837a8f4b7792b2793ca9cb79b7b90c13cc6272358"), looks := true }, kinds := [], alts := [], laidByText := true, laidKinds := [.handle], laidTests := true, laidLooks := .later }
def PolMeansUptoCardSaid : Prop := Claim7.holds Tryz.pinned (.plain (OpenSpec.upto polMeansSpec)) polMeansUptoCard
end Rows
end Go.Proofs.YtpmkpfdhanmhiaaGreatDoor
