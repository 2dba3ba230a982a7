/- The document's UidFault: by a walk of its own text. What the document's own TextFault, UidFault, Numbers, Texts return where package name's other functions are not at hand: by walks of their own texts. -/
import Derived.Test.YtkgfmigleacjdaaGreatDoorG10
import Derived.Test.YtkgfmigleacjdaaGreatDoorG9
import Derived.Test.YtkgfmigleacjdaaGreatDoorG3
import Derived.Test.YtkgfmigleacjdaaGreatDoorG2
import Derived.Deep.QuietTactic
import Derived.BigQuiet
import Derived.Test.YtkgfmigleacjdaaGreatDoorG6
namespace Go.Proofs.YtkgfmigleacjdaaGreatDoor
open Go.RowKit
set_option linter.unusedVariables false

set_option maxHeartbeats 1000000 in
theorem uidFault_any (t i : ByteArray) (w : World) (ht : t.size ≤ maxLen) (hi : i.size ≤ maxLen) :
    Calls Tryz.prog 43 #[.agg #[.string t, .string i]] w fun e w' => e = .returned (.int .i64 (ufault t.data.toList i.data.toList)) ∧ Below w.heap.size w w' := by
  by_cases h0 : nfault t.data.toList = 0
  · have h0' : (nfault t.data.toList == 0) = true := by simpa using h0
    have HF : Hid (ufault t.data.toList i.data.toList = tfault i.data.toList) := if_pos h0
    clear h0
    go_enter Tryz.func43, Tryz.ntmps43
    go_wp2_with fail
    refine (nameFault_any t _ ht).mono ?_
    rintro e w1 ⟨rfl, rfl⟩
    go_wp2_with fail
    refine (textFault_any i _ hi).mono ?_
    rintro e w1 ⟨rfl, rfl⟩
    go_wp2_with fail
    go_ret
    exact ⟨ret_num HF.out.symm, (Below.refl _ _).alloc (Nat.le_refl _) _⟩
  · have h0' : (nfault t.data.toList == 0) = false := by simpa using h0
    have HF : Hid (ufault t.data.toList i.data.toList = nfault t.data.toList) := if_neg h0
    clear h0
    go_enter Tryz.func43, Tryz.ntmps43
    go_wp2_with fail
    refine (nameFault_any t _ ht).mono ?_
    rintro e w1 ⟨rfl, rfl⟩
    go_wp2_with fail
    go_ret
    exact ⟨ret_num HF.out.symm, (Below.refl _ _).alloc (Nat.le_refl _) _⟩
end Go.Proofs.YtkgfmigleacjdaaGreatDoor
namespace Go.Proofs.YtkgfmigleacjdaaGreatDoor
open Go.RowKit
set_option linter.unusedVariables false

theorem numC_any (a b : Int) (w : World) :
    Calls Tryz.prog 71 #[.int .i64 a, .int .i64 b] w fun e w' => e = .returned (.int .i64 (cmpI a b)) ∧ w' = w := numbers_any a b w
theorem textC_any (a b : ByteArray) (w : World) (ha : a.size ≤ maxLen) (hb : b.size ≤ maxLen) :
    Calls Tryz.prog 45 #[.string a, .string b] w fun e w' => e = .returned (.int .i64 (cmpB a b)) ∧ ∃ n, w' = w.drewN n := texts_any a b w ha hb
end Go.Proofs.YtkgfmigleacjdaaGreatDoor
