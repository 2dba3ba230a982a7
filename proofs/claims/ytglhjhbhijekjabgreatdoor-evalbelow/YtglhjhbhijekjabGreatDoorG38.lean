/- The document's UidFault: by a walk of its own text. -/
import Derived.Test.YtglhjhbhijekjabGreatDoorG14
import Derived.Test.YtglhjhbhijekjabGreatDoorG13
import Derived.Test.YtglhjhbhijekjabGreatDoorG2
import Derived.Test.YtglhjhbhijekjabGreatDoorG1
import Derived.Deep.QuietTactic
import Derived.BigQuiet
namespace Go.Proofs.YtglhjhbhijekjabGreatDoor
open Go.RowKit
set_option linter.unusedVariables false

set_option maxHeartbeats 1000000 in
theorem uidFault_any (t i : ByteArray) (w : World) (ht : t.size ≤ maxLen) (hi : i.size ≤ maxLen) :
    Calls Tryz.prog 13 #[.agg #[.string t, .string i]] w fun e w' => e = .returned (.int .i64 (ufault t.data.toList i.data.toList)) ∧ Below w.heap.size w w' := by
  by_cases h0 : nfault t.data.toList = 0
  · have h0' : (nfault t.data.toList == 0) = true := by simpa using h0
    have HF : Hid (ufault t.data.toList i.data.toList = tfault i.data.toList) := if_pos h0
    clear h0
    go_enter Tryz.func13, Tryz.ntmps13
    go_wp2_with fail
    refine (nameFault_any t _ ht).mono ?_
    rintro e w1 ⟨rfl, rfl⟩
    go_wp2_with fail
    refine (textFault_any i _ hi).mono ?_
    rintro e w1 ⟨rfl, rfl⟩
    go_wp2_with fail
    go_ret
    exact ⟨ret_num HF.out.symm, (Below.refl _ _).alloc (Nat.le_refl _) _⟩
  · have h0' : (nfault t.data.toList == 0) = false := by simpa using h0
    have HF : Hid (ufault t.data.toList i.data.toList = nfault t.data.toList) := if_neg h0
    clear h0
    go_enter Tryz.func13, Tryz.ntmps13
    go_wp2_with fail
    refine (nameFault_any t _ ht).mono ?_
    rintro e w1 ⟨rfl, rfl⟩
    go_wp2_with fail
    go_ret
    exact ⟨ret_num HF.out.symm, (Below.refl _ _).alloc (Nat.le_refl _) _⟩
end Go.Proofs.YtglhjhbhijekjabGreatDoor
