/-
  DERIVED. GIVEN WITH THE SEED: THE CARDS: each row of YtilpgiapjijmmaaDoorRows.lean that lists a variable, with what it lists TIED to the program's text (the seventh form; the later family's looks); each row that meets fmt, with fmt's text TOLD by the authors' own Lean function (tested against real Go, not proved from fmt's source: count such statements apart). THE CARD IS WHAT COUNTS. Prove the row's statement (the work); the ties are given (YtilpgiapjijmmaaDoorTie.lean); close each card by the builder's one call (the guide's Derived/Test/ToyasCard.lean, 'card_holds'). Laid BY PROGRAM, IN A SANDBOX (cutbox-door.mjs). By AI agents, Wed Nov 11 2026. No macro, syntax, notation, axiom, sorry.
-/
import Derived.Test.YtilpgiapjijmmaaDoorRows
import GoSem.ClaimSeven
namespace Go.Proofs.YtilpgiapjijmmaaDoor
namespace Rows

/-- THE TIED CARD OF 'wicketgatelaw1.LikeMatches'. -/
def likeMatchesCard : Claim7 := { stood := { row := likeMatchesRow, standIns := [], harness := (true, "f45efd2481a0013aec4ec300f899b64dc0660e334554d08e8d8b0ba8b236ce17"), looks := true }, kinds := [], alts := [], laidByText := true, laidKinds := [.handle], laidTests := true, laidLooks := .later }
def LikeMatchesCardSaid : Prop := Claim7.holds Tryd.pinned (.plain (OpenSpec.ofChange likeMatchesSpec)) likeMatchesCard

/-- THE TIED CARD OF 'wicketgatelaw1.LikeWrites'. -/
def likeWritesCard : Claim7 := { stood := { row := likeWritesRow, standIns := [], harness := (true, "f45efd2481a0013aec4ec300f899b64dc0660e334554d08e8d8b0ba8b236ce17"), looks := true }, kinds := [], alts := [], laidByText := true, laidKinds := [.handle], laidTests := true, laidLooks := .later }
def LikeWritesCardSaid : Prop := Claim7.holds Tryd.pinned (.plain (OpenSpec.ofChange likeWritesSpec)) likeWritesCard

/-- THE TIED CARD OF 'wicketgatelaw1.LikeShort'. -/
def likeShortCard : Claim7 := { stood := { row := likeShortRow, standIns := [], harness := (true, "f45efd2481a0013aec4ec300f899b64dc0660e334554d08e8d8b0ba8b236ce17"), looks := true }, kinds := [], alts := [], laidByText := true, laidKinds := [.handle], laidTests := true, laidLooks := .later }
def LikeShortCardSaid : Prop := Claim7.holds Tryd.pinned (.plain (OpenSpec.ofChange likeShortSpec)) likeShortCard

/-- THE SECOND FORM's CARD OF 'wicketgatelaw1.LikeMatches'. -/
def likeMatchesUptoCard : Claim7 := { stood := { row := likeMatchesUptoRow, standIns := [], harness := (true, "f45efd2481a0013aec4ec300f899b64dc0660e334554d08e8d8b0ba8b236ce17"), looks := true }, kinds := [], alts := [], laidByText := true, laidKinds := [.handle], laidTests := true, laidLooks := .later }
def LikeMatchesUptoCardSaid : Prop := Claim7.holds Tryd.pinned (.plain (OpenSpec.upto likeMatchesSpec)) likeMatchesUptoCard

/-- THE SECOND FORM's CARD OF 'wicketgatelaw1.LikeWrites'. -/
def likeWritesUptoCard : Claim7 := { stood := { row := likeWritesUptoRow, standIns := [], harness := (true, "f45efd2481a0013aec4ec300f899b64dc0660e334554d08e8d8b0ba8b236ce17"), looks := true }, kinds := [], alts := [], laidByText := true, laidKinds := [.handle], laidTests := true, laidLooks := .later }
def LikeWritesUptoCardSaid : Prop := Claim7.holds Tryd.pinned (.plain (OpenSpec.upto likeWritesSpec)) likeWritesUptoCard

/-- THE SECOND FORM's CARD OF 'wicketgatelaw1.LikeShort'. -/
def likeShortUptoCard : Claim7 := { stood := { row := likeShortUptoRow, standIns := [], harness := (true, "f45efd2481a0013aec4ec300f899b64dc0660e334554d08e8d8b0ba8b236ce17"), looks := true }, kinds := [], alts := [], laidByText := true, laidKinds := [.handle], laidTests := true, laidLooks := .later }
def LikeShortUptoCardSaid : Prop := Claim7.holds Tryd.pinned (.plain (OpenSpec.upto likeShortSpec)) likeShortUptoCard
end Rows
end Go.Proofs.YtilpgiapjijmmaaDoor
