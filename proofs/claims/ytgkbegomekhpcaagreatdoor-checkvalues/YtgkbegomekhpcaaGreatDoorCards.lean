/-
  DERIVED. GIVEN WITH THE SEED: THE CARDS: each row of YtgkbegomekhpcaaGreatDoorRows.lean that lists a variable, with what it lists TIED to the program's text (the seventh form; the later family's looks); each row that meets fmt, with fmt's text TOLD by the authors' own Lean function (tested against real Go, not proved from fmt's source: count such statements apart). THE CARD IS WHAT COUNTS. Prove the row's statement (the work); the ties are given (YtgkbegomekhpcaaGreatDoorTie.lean); close each card by the builder's one call (the guide's Derived/Test/ToyasCard.lean, 'card_holds'). Laid BY PROGRAM, IN A SANDBOX (cutbox-door.mjs). By AI agents, Wed Nov 11 2026. No macro, syntax, notation, axiom, sorry.
-/
import Derived.Test.YtgkbegomekhpcaaGreatDoorRows
import GoSem.ClaimSeven
namespace Go.Proofs.YtgkbegomekhpcaaGreatDoor
namespace Rows

/-- THE TIED CARD OF 'wicketgatelaw3.CheckValues'. -/
def checkValuesCard : Claim7 := { stood := { row := checkValuesRow, standIns := [], harness := (true, "f99cdd57189089c63aefda79b3ae54c92173893d2c54639cf819aa5fb56a808d"), looks := true }, kinds := [], alts := [], laidByText := true, laidKinds := [.handle], laidTests := true, laidLooks := .later }
def CheckValuesCardSaid : Prop := Claim7.holds Tryz.pinned (.plain (OpenSpec.ofChange checkValuesSpec)) checkValuesCard

/-- THE TIED CARD OF 'wicketgatelaw4.PolExprs'. -/
def polExprsCard : Claim7 := { stood := { row := polExprsRow, standIns := [], harness := (true, "f99cdd57189089c63aefda79b3ae54c92173893d2c54639cf819aa5fb56a808d"), looks := true }, kinds := [], alts := [], laidByText := true, laidKinds := [.handle], laidTests := true, laidLooks := .later }
def PolExprsCardSaid : Prop := Claim7.holds Tryz.pinned (.plain (OpenSpec.ofChange polExprsSpec)) polExprsCard

/-- THE TIED CARD OF 'wicketgatelaw4.PolWrites'. -/
def polWritesCard : Claim7 := { stood := { row := polWritesRow, standIns := [], harness := (true, "f99cdd57189089c63aefda79b3ae54c92173893d2c54639cf819aa5fb56a808d"), looks := true }, kinds := [], alts := [], laidByText := true, laidKinds := [.data, .data, .data, .data, .handle, .sentinel, .sentinel, .pinned], laidTests := true, laidLooks := .later }
def PolWritesCardSaid : Prop := Claim7.holds Tryz.pinned (.plain (OpenSpec.ofChange polWritesSpec)) polWritesCard

/-- THE TIED CARD OF 'wicketgatelaw4.PolBack'. -/
def polBackCard : Claim7 := { stood := { row := polBackRow, standIns := [], harness := (true, "f99cdd57189089c63aefda79b3ae54c92173893d2c54639cf819aa5fb56a808d"), looks := true }, kinds := [], alts := [], laidByText := true, laidKinds := [.data, .data, .data, .data, .sentinel, .sentinel, .pinned], laidTests := true, laidLooks := .later }
def PolBackCardSaid : Prop := Claim7.holds Tryz.pinned (.plain (OpenSpec.ofChange polBackSpec)) polBackCard

/-- THE SECOND FORM's CARD OF 'wicketgatelaw3.CheckValues'. -/
def checkValuesUptoCard : Claim7 := { stood := { row := checkValuesUptoRow, standIns := [], harness := (true, "f99cdd57189089c63aefda79b3ae54c92173893d2c54639cf819aa5fb56a808d"), looks := true }, kinds := [], alts := [], laidByText := true, laidKinds := [.handle], laidTests := true, laidLooks := .later }
def CheckValuesUptoCardSaid : Prop := Claim7.holds Tryz.pinned (.plain (OpenSpec.upto checkValuesSpec)) checkValuesUptoCard

/-- THE SECOND FORM's CARD OF 'wicketgatelaw4.PolExprs'. -/
def polExprsUptoCard : Claim7 := { stood := { row := polExprsUptoRow, standIns := [], harness := (true, "f99cdd57189089c63aefda79b3ae54c92173893d2c54639cf819aa5fb56a808d"), looks := true }, kinds := [], alts := [], laidByText := true, laidKinds := [.handle], laidTests := true, laidLooks := .later }
def PolExprsUptoCardSaid : Prop := Claim7.holds Tryz.pinned (.plain (OpenSpec.upto polExprsSpec)) polExprsUptoCard

/-- THE SECOND FORM's CARD OF 'wicketgatelaw4.PolWrites'. -/
def polWritesUptoCard : Claim7 := { stood := { row := polWritesUptoRow, standIns := [], harness := (true, "f99cdd57189089c63aefda79b3ae54c92173893d2c54639cf819aa5fb56a808d"), looks := true }, kinds := [], alts := [], laidByText := true, laidKinds := [.data, .data, .data, .data, .handle, .sentinel, .sentinel, .pinned], laidTests := true, laidLooks := .later }
def PolWritesUptoCardSaid : Prop := Claim7.holds Tryz.pinned (.plain (OpenSpec.upto polWritesSpec)) polWritesUptoCard

/-- THE SECOND FORM's CARD OF 'wicketgatelaw4.PolBack'. -/
def polBackUptoCard : Claim7 := { stood := { row := polBackUptoRow, standIns := [], harness := (true, "f99cdd57189089c63aefda79b3ae54c92173893d2c54639cf819aa5fb56a808d"), looks := true }, kinds := [], alts := [], laidByText := true, laidKinds := [.data, .data, .data, .data, .sentinel, .sentinel, .pinned], laidTests := true, laidLooks := .later }
def PolBackUptoCardSaid : Prop := Claim7.holds Tryz.pinned (.plain (OpenSpec.upto polBackSpec)) polBackUptoCard
end Rows
end Go.Proofs.YtgkbegomekhpcaaGreatDoor
