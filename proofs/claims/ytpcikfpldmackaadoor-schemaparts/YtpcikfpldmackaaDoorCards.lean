/-
  DERIVED. GIVEN WITH THE SEED: THE CARDS: each row of YtpcikfpldmackaaDoorRows.lean that lists a variable, with what it lists TIED to the program's text (the seventh form; the later family's looks); each row that meets fmt, with fmt's text TOLD by the authors' own Lean function (tested against real Go, not proved from fmt's source: count such statements apart). THE CARD IS WHAT COUNTS. Prove the row's statement (the work); the ties are given (YtpcikfpldmackaaDoorTie.lean); close each card by the builder's one call (the guide's Derived/Test/ToyasCard.lean, 'card_holds'). Laid BY PROGRAM, IN A SANDBOX (cutbox-door.mjs). By AI agents, Wed Nov 11 2026. No macro, syntax, notation, axiom, sorry.
-/
import Derived.Test.YtpcikfpldmackaaDoorRows
import GoSem.ClaimSeven
namespace Go.Proofs.YtpcikfpldmackaaDoor
namespace Rows

/-- THE TIED CARD OF 'wicketgatelaw3.KindsJoins'. -/
def kindsJoinsCard : Claim7 := { stood := { row := kindsJoinsRow, standIns := [], harness := (true, "99c02e5c5b6abc6d544f833c59e91e7b6991176acb6f109ef827fb5603e85cea"), looks := true }, kinds := [], alts := [], laidByText := true, laidKinds := [.handle], laidTests := true, laidLooks := .later }
def KindsJoinsCardSaid : Prop := Claim7.holds Tryd.pinned (.plain (OpenSpec.ofChange kindsJoinsSpec)) kindsJoinsCard

/-- THE TIED CARD OF 'wicketgatelaw3.SchemaParts'. -/
def schemaPartsCard : Claim7 := { stood := { row := schemaPartsRow, standIns := [], harness := (true, "99c02e5c5b6abc6d544f833c59e91e7b6991176acb6f109ef827fb5603e85cea"), looks := true }, kinds := [], alts := [], laidByText := true, laidKinds := [.handle], laidTests := true, laidLooks := .later }
def SchemaPartsCardSaid : Prop := Claim7.holds Tryd.pinned (.plain (OpenSpec.ofChange schemaPartsSpec)) schemaPartsCard

/-- THE TIED CARD OF 'wicketgatelaw3.SchemaWider'. -/
def schemaWiderCard : Claim7 := { stood := { row := schemaWiderRow, standIns := [], harness := (true, "99c02e5c5b6abc6d544f833c59e91e7b6991176acb6f109ef827fb5603e85cea"), looks := true }, kinds := [], alts := [], laidByText := true, laidKinds := [.handle], laidTests := true, laidLooks := .later }
def SchemaWiderCardSaid : Prop := Claim7.holds Tryd.pinned (.plain (OpenSpec.ofChange schemaWiderSpec)) schemaWiderCard

/-- THE SECOND FORM's CARD OF 'wicketgatelaw3.KindsJoins'. -/
def kindsJoinsUptoCard : Claim7 := { stood := { row := kindsJoinsUptoRow, standIns := [], harness := (true, "99c02e5c5b6abc6d544f833c59e91e7b6991176acb6f109ef827fb5603e85cea"), looks := true }, kinds := [], alts := [], laidByText := true, laidKinds := [.handle], laidTests := true, laidLooks := .later }
def KindsJoinsUptoCardSaid : Prop := Claim7.holds Tryd.pinned (.plain (OpenSpec.upto kindsJoinsSpec)) kindsJoinsUptoCard

/-- THE SECOND FORM's CARD OF 'wicketgatelaw3.SchemaParts'. -/
def schemaPartsUptoCard : Claim7 := { stood := { row := schemaPartsUptoRow, standIns := [], harness := (true, "99c02e5c5b6abc6d544f833c59e91e7b6991176acb6f109ef827fb5603e85cea"), looks := true }, kinds := [], alts := [], laidByText := true, laidKinds := [.handle], laidTests := true, laidLooks := .later }
def SchemaPartsUptoCardSaid : Prop := Claim7.holds Tryd.pinned (.plain (OpenSpec.upto schemaPartsSpec)) schemaPartsUptoCard

/-- THE SECOND FORM's CARD OF 'wicketgatelaw3.SchemaWider'. -/
def schemaWiderUptoCard : Claim7 := { stood := { row := schemaWiderUptoRow, standIns := [], harness := (true, "99c02e5c5b6abc6d544f833c59e91e7b6991176acb6f109ef827fb5603e85cea"), looks := true }, kinds := [], alts := [], laidByText := true, laidKinds := [.handle], laidTests := true, laidLooks := .later }
def SchemaWiderUptoCardSaid : Prop := Claim7.holds Tryd.pinned (.plain (OpenSpec.upto schemaWiderSpec)) schemaWiderUptoCard
end Rows
end Go.Proofs.YtpcikfpldmackaaDoor
