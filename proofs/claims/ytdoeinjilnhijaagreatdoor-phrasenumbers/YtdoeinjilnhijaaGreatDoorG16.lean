/- What name.Quote tells of any text: some text, and its error by its number. -/
import Derived.Test.YtdoeinjilnhijaaGreatDoorG3
import Derived.Test.YtdoeinjilnhijaaGreatDoorG11
import Derived.Test.YtdoeinjilnhijaaGreatDoorG1
namespace Go.Proofs.YtdoeinjilnhijaaGreatDoor
open Go.RowKit
set_option linter.unusedVariables false

/-- What Quote tells: some text, and its error. -/
theorem quoteN_any (s : ByteArray) (w : World) (hs : s.size ≤ maxLen) :
    Calls Tryz.prog 99 #[.string s] w fun e w' => ∃ q : ByteArray, q.size ≤ 122 ∧ e = .returned (.tuple #[.string q, eV (tfault s.data.toList)]) ∧ Below w.heap.size w w' := by
  have hl : s.data.toList.length = s.size := by simp
  by_cases h1 : s.size ≤ 60
  · refine (quote_short s w h1).mono ?_
    rintro e w' ⟨rfl, hb⟩
    cases h2 : s.data.toList.all okb
    · exact ⟨⟨#[]⟩, Nat.zero_le _, by rw [qres_bad h2, tfault_bad (by rw [hl]; exact h1) h2]; rfl, hb⟩
    · refine ⟨⟨(quoted s.data.toList).toArray⟩, ?_, ?_, hb⟩
      · have := body_length s.data.toList
        show (quoted s.data.toList).length ≤ 122
        unfold quoted
        rw [List.length_cons, List.length_append, List.length_cons, List.length_nil]; omega
      · rw [qres_ok h2, tfault_ok (by unfold textOk; rw [decide_eq_true (by rw [hl]; exact h1), h2]; rfl)]; rfl
  · refine (quote_full s w hs (by omega)).mono ?_
    rintro e w' ⟨rfl, rfl⟩
    exact ⟨⟨#[]⟩, Nat.zero_le _, by rw [tfault_long (by rw [hl]; exact h1)]; rfl, Below.refl _ _⟩
end Go.Proofs.YtdoeinjilnhijaaGreatDoor
