/-
  DERIVED. GIVEN WITH THE SEED: THE CARDS: each row of YtncmjcjnldhhhaaGreatDoorRows.lean that lists a variable, with what it lists TIED to the program's text (the seventh form; the later family's looks); each row that meets fmt, with fmt's text TOLD by the authors' own Lean function (tested against real Go, not proved from fmt's source: count such statements apart). THE CARD IS WHAT COUNTS. Prove the row's statement (the work); the ties are given (YtncmjcjnldhhhaaGreatDoorTie.lean); close each card by the builder's one call (the guide's Derived/Test/ToyasCard.lean, 'card_holds'). Laid BY PROGRAM, IN A SANDBOX (cutbox-door.mjs). By AI agents, Wed Nov 11 2026. No macro, syntax, notation, axiom, sorry.
-/
import Derived.Test.YtncmjcjnldhhhaaGreatDoorRows
import GoSem.ClaimSeven
namespace Go.Proofs.YtncmjcjnldhhhaaGreatDoor
namespace Rows

/-- THE TIED CARD OF 'wicketgatelaw1.BagMakes'. -/
def bagMakesCard : Claim7 := { stood := { row := bagMakesRow, standIns := [], harness := (true, "af74a99e3b28e342f0dc16d35d223edabddec67ae45128f8fd5dba15f4ea06ca"), looks := true }, kinds := [], alts := [], laidByText := true, laidKinds := [.handle], laidTests := true, laidLooks := .later }
def BagMakesCardSaid : Prop := Claim7.holds Tryz.pinned (.plain (OpenSpec.ofChange bagMakesSpec)) bagMakesCard

/-- THE SECOND FORM's CARD OF 'wicketgatelaw1.BagMakes'. -/
def bagMakesUptoCard : Claim7 := { stood := { row := bagMakesUptoRow, standIns := [], harness := (true, "af74a99e3b28e342f0dc16d35d223edabddec67ae45128f8fd5dba15f4ea06ca"), looks := true }, kinds := [], alts := [], laidByText := true, laidKinds := [.handle], laidTests := true, laidLooks := .later }
def BagMakesUptoCardSaid : Prop := Claim7.holds Tryz.pinned (.plain (OpenSpec.upto bagMakesSpec)) bagMakesUptoCard
end Rows
end Go.Proofs.YtncmjcjnldhhhaaGreatDoor
