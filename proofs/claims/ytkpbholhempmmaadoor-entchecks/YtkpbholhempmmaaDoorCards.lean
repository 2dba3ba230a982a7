/-
  DERIVED. GIVEN WITH THE SEED: THE CARDS: each row of YtkpbholhempmmaaDoorRows.lean that lists a variable, with what it lists TIED to the program's text (the seventh form; the later family's looks); each row that meets fmt, with fmt's text TOLD by the authors' own Lean function (tested against real Go, not proved from fmt's source: count such statements apart). THE CARD IS WHAT COUNTS. Prove the row's statement (the work); the ties are given (YtkpbholhempmmaaDoorTie.lean); close each card by the builder's one call (the guide's Derived/Test/ToyasCard.lean, 'card_holds'). Laid BY PROGRAM, IN A SANDBOX (cutbox-door.mjs). By AI agents, Wed Nov 11 2026. No macro, syntax, notation, axiom, sorry.
-/
import Derived.Test.YtkpbholhempmmaaDoorRows
import GoSem.ClaimSeven
namespace Go.Proofs.YtkpbholhempmmaaDoor
namespace Rows

/-- THE TIED CARD OF 'wicketgatelaw1.EntChecks'. -/
def entChecksCard : Claim7 := { stood := { row := entChecksRow, standIns := [], harness := (true, "4575bcb9e7726a0b3b0044adaa12538a5969137eb0d07a794a12b0fee144f31a"), looks := true }, kinds := [], alts := [], laidByText := true, laidKinds := [.handle], laidTests := true, laidLooks := .later }
def EntChecksCardSaid : Prop := Claim7.holds Tryd.pinned (.plain (OpenSpec.ofChange entChecksSpec)) entChecksCard

/-- THE SECOND FORM's CARD OF 'wicketgatelaw1.EntChecks'. -/
def entChecksUptoCard : Claim7 := { stood := { row := entChecksUptoRow, standIns := [], harness := (true, "4575bcb9e7726a0b3b0044adaa12538a5969137eb0d07a794a12b0fee144f31a"), looks := true }, kinds := [], alts := [], laidByText := true, laidKinds := [.handle], laidTests := true, laidLooks := .later }
def EntChecksUptoCardSaid : Prop := Claim7.holds Tryd.pinned (.plain (OpenSpec.upto entChecksSpec)) entChecksUptoCard
end Rows
end Go.Proofs.YtkpbholhempmmaaDoor
