/-
  DERIVED. GIVEN WITH THE SEED: THE CARDS: each row of YtncmjcjnldhhhaaDoorRows.lean that lists a variable, with what it lists TIED to the program's text (the seventh form; the later family's looks); each row that meets fmt, with fmt's text TOLD by the authors' own Lean function (tested against real Go, not proved from fmt's source: count such statements apart). THE CARD IS WHAT COUNTS. Prove the row's statement (the work); the ties are given (YtncmjcjnldhhhaaDoorTie.lean); close each card by the builder's one call (the guide's Derived/Test/ToyasCard.lean, 'card_holds'). Laid BY PROGRAM, IN A SANDBOX (cutbox-door.mjs). By AI agents, Wed Nov 11 2026. No macro, syntax, notation, axiom, sorry.
-/
import Derived.Test.YtncmjcjnldhhhaaDoorRows
import GoSem.ClaimSeven
namespace Go.Proofs.YtncmjcjnldhhhaaDoor
namespace Rows

/-- THE TIED CARD OF 'wicketgatelaw1.BagAsks'. -/
def bagAsksCard : Claim7 := { stood := { row := bagAsksRow, standIns := [], harness := (true, "553a2478d58a6560abac994396eb16d4014afa429cad867d4ffcbf39d7db08ba"), looks := true }, kinds := [], alts := [], laidByText := true, laidKinds := [.handle], laidTests := true, laidLooks := .later }
def BagAsksCardSaid : Prop := Claim7.holds Tryd.pinned (.plain (OpenSpec.ofChange bagAsksSpec)) bagAsksCard

/-- THE TIED CARD OF 'wicketgatelaw1.BagAlgebra'. -/
def bagAlgebraCard : Claim7 := { stood := { row := bagAlgebraRow, standIns := [], harness := (true, "553a2478d58a6560abac994396eb16d4014afa429cad867d4ffcbf39d7db08ba"), looks := true }, kinds := [], alts := [], laidByText := true, laidKinds := [.handle], laidTests := true, laidLooks := .later }
def BagAlgebraCardSaid : Prop := Claim7.holds Tryd.pinned (.plain (OpenSpec.ofChange bagAlgebraSpec)) bagAlgebraCard

/-- THE TIED CARD OF 'wicketgatelaw1.BagChain'. -/
def bagChainCard : Claim7 := { stood := { row := bagChainRow, standIns := [], harness := (true, "553a2478d58a6560abac994396eb16d4014afa429cad867d4ffcbf39d7db08ba"), looks := true }, kinds := [], alts := [], laidByText := true, laidKinds := [.handle], laidTests := true, laidLooks := .later }
def BagChainCardSaid : Prop := Claim7.holds Tryd.pinned (.plain (OpenSpec.ofChange bagChainSpec)) bagChainCard

/-- THE SECOND FORM's CARD OF 'wicketgatelaw1.BagAsks'. -/
def bagAsksUptoCard : Claim7 := { stood := { row := bagAsksUptoRow, standIns := [], harness := (true, "553a2478d58a6560abac994396eb16d4014afa429cad867d4ffcbf39d7db08ba"), looks := true }, kinds := [], alts := [], laidByText := true, laidKinds := [.handle], laidTests := true, laidLooks := .later }
def BagAsksUptoCardSaid : Prop := Claim7.holds Tryd.pinned (.plain (OpenSpec.upto bagAsksSpec)) bagAsksUptoCard

/-- THE SECOND FORM's CARD OF 'wicketgatelaw1.BagAlgebra'. -/
def bagAlgebraUptoCard : Claim7 := { stood := { row := bagAlgebraUptoRow, standIns := [], harness := (true, "553a2478d58a6560abac994396eb16d4014afa429cad867d4ffcbf39d7db08ba"), looks := true }, kinds := [], alts := [], laidByText := true, laidKinds := [.handle], laidTests := true, laidLooks := .later }
def BagAlgebraUptoCardSaid : Prop := Claim7.holds Tryd.pinned (.plain (OpenSpec.upto bagAlgebraSpec)) bagAlgebraUptoCard

/-- THE SECOND FORM's CARD OF 'wicketgatelaw1.BagChain'. -/
def bagChainUptoCard : Claim7 := { stood := { row := bagChainUptoRow, standIns := [], harness := (true, "553a2478d58a6560abac994396eb16d4014afa429cad867d4ffcbf39d7db08ba"), looks := true }, kinds := [], alts := [], laidByText := true, laidKinds := [.handle], laidTests := true, laidLooks := .later }
def BagChainUptoCardSaid : Prop := Claim7.holds Tryd.pinned (.plain (OpenSpec.upto bagChainSpec)) bagChainUptoCard
end Rows
end Go.Proofs.YtncmjcjnldhhhaaDoor
