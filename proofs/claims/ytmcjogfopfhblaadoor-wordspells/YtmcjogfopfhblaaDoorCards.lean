/-
  DERIVED. GIVEN WITH THE SEED: THE CARDS: each row of YtmcjogfopfhblaaDoorRows.lean that lists a variable, with what it lists TIED to the program's text (the seventh form; the later family's looks); each row that meets fmt, with fmt's text TOLD by the authors' own Lean function (tested against real Go, not proved from fmt's source: count such statements apart). THE CARD IS WHAT COUNTS. Prove the row's statement (the work); the ties are given (YtmcjogfopfhblaaDoorTie.lean); close each card by the builder's one call (the guide's Derived/Test/ToyasCard.lean, 'card_holds'). Laid BY PROGRAM, IN A SANDBOX (cutbox-door.mjs). By AI agents, Wed Nov 11 2026. No macro, syntax, notation, axiom, sorry.
-/
import Derived.Test.YtmcjogfopfhblaaDoorRows
import GoSem.ClaimSeven
namespace Go.Proofs.YtmcjogfopfhblaaDoor
namespace Rows

/-- THE TIED CARD OF 'wicketgatelaw2.WordReads'. -/
def wordReadsCard : Claim7 := { stood := { row := wordReadsRow, standIns := [], harness := (true, "3290b2ce4e43539f813b47b7a3b8cd8e192d40d09219310d1497b20778caf2c8"), looks := true }, kinds := [], alts := [], laidByText := true, laidKinds := [.data, .handle, .pinned], laidTests := true, laidLooks := .later }
def WordReadsCardSaid : Prop := Claim7.holds Tryd.pinned (.plain (OpenSpec.ofChange wordReadsSpec)) wordReadsCard

/-- THE TIED CARD OF 'wicketgatelaw2.WordSpells'. -/
def wordSpellsCard : Claim7 := { stood := { row := wordSpellsRow, standIns := [], harness := (true, "3290b2ce4e43539f813b47b7a3b8cd8e192d40d09219310d1497b20778caf2c8"), looks := true }, kinds := [], alts := [], laidByText := true, laidKinds := [.data, .handle, .pinned], laidTests := true, laidLooks := .later }
def WordSpellsCardSaid : Prop := Claim7.holds Tryd.pinned (.plain (OpenSpec.ofChange wordSpellsSpec)) wordSpellsCard

/-- THE TIED CARD OF 'wicketgatelaw2.WordBack'. -/
def wordBackCard : Claim7 := { stood := { row := wordBackRow, standIns := [], harness := (true, "3290b2ce4e43539f813b47b7a3b8cd8e192d40d09219310d1497b20778caf2c8"), looks := true }, kinds := [], alts := [], laidByText := true, laidKinds := [.data, .handle, .pinned], laidTests := true, laidLooks := .later }
def WordBackCardSaid : Prop := Claim7.holds Tryd.pinned (.plain (OpenSpec.ofChange wordBackSpec)) wordBackCard

/-- THE TIED CARD OF 'wicketgatelaw2.WordJoins'. -/
def wordJoinsCard : Claim7 := { stood := { row := wordJoinsRow, standIns := [], harness := (true, "3290b2ce4e43539f813b47b7a3b8cd8e192d40d09219310d1497b20778caf2c8"), looks := true }, kinds := [], alts := [], laidByText := true, laidKinds := [.data, .pinned], laidTests := true, laidLooks := .later }
def WordJoinsCardSaid : Prop := Claim7.holds Tryd.pinned (.plain (OpenSpec.ofChange wordJoinsSpec)) wordJoinsCard

/-- THE SECOND FORM's CARD OF 'wicketgatelaw2.WordReads'. -/
def wordReadsUptoCard : Claim7 := { stood := { row := wordReadsUptoRow, standIns := [], harness := (true, "3290b2ce4e43539f813b47b7a3b8cd8e192d40d09219310d1497b20778caf2c8"), looks := true }, kinds := [], alts := [], laidByText := true, laidKinds := [.data, .handle, .pinned], laidTests := true, laidLooks := .later }
def WordReadsUptoCardSaid : Prop := Claim7.holds Tryd.pinned (.plain (OpenSpec.upto wordReadsSpec)) wordReadsUptoCard

/-- THE SECOND FORM's CARD OF 'wicketgatelaw2.WordSpells'. -/
def wordSpellsUptoCard : Claim7 := { stood := { row := wordSpellsUptoRow, standIns := [], harness := (true, "3290b2ce4e43539f813b47b7a3b8cd8e192d40d09219310d1497b20778caf2c8"), looks := true }, kinds := [], alts := [], laidByText := true, laidKinds := [.data, .handle, .pinned], laidTests := true, laidLooks := .later }
def WordSpellsUptoCardSaid : Prop := Claim7.holds Tryd.pinned (.plain (OpenSpec.upto wordSpellsSpec)) wordSpellsUptoCard

/-- THE SECOND FORM's CARD OF 'wicketgatelaw2.WordBack'. -/
def wordBackUptoCard : Claim7 := { stood := { row := wordBackUptoRow, standIns := [], harness := (true, "3290b2ce4e43539f813b47b7a3b8cd8e192d40d09219310d1497b20778caf2c8"), looks := true }, kinds := [], alts := [], laidByText := true, laidKinds := [.data, .handle, .pinned], laidTests := true, laidLooks := .later }
def WordBackUptoCardSaid : Prop := Claim7.holds Tryd.pinned (.plain (OpenSpec.upto wordBackSpec)) wordBackUptoCard

/-- THE SECOND FORM's CARD OF 'wicketgatelaw2.WordJoins'. -/
def wordJoinsUptoCard : Claim7 := { stood := { row := wordJoinsUptoRow, standIns := [], harness := (true, "3290b2ce4e43539f813b47b7a3b8cd8e192d40d09219310d1497b20778caf2c8"), looks := true }, kinds := [], alts := [], laidByText := true, laidKinds := [.data, .pinned], laidTests := true, laidLooks := .later }
def WordJoinsUptoCardSaid : Prop := Claim7.holds Tryd.pinned (.plain (OpenSpec.upto wordJoinsSpec)) wordJoinsUptoCard
end Rows
end Go.Proofs.YtmcjogfopfhblaaDoor
