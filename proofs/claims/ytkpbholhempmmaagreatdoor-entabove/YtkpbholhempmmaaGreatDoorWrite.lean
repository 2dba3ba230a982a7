/- What name.Write tells of a uid, where package name's other functions are not at hand: by a walk of its own text. -/
import Derived.Test.YtkpbholhempmmaaGreatDoorChecked
import Derived.Test.YtkpbholhempmmaaGreatDoorQuote
import Derived.Test.YtkpbholhempmmaaGreatDoorName
import Derived.Test.YtkpbholhempmmaaGreatDoorTFault
namespace Go.Proofs.YtkpbholhempmmaaGreatDoor
open Go.RowKit
set_option linter.unusedVariables false
set_option linter.unusedSimpArgs false

/-- What Quote tells: some text, and its error. -/
theorem quoteN_any (s : ByteArray) (w : World) (hs : s.size ≤ maxLen) :
    Calls Tryz.prog 57 #[.string s] w fun e w' => ∃ q : ByteArray, q.size ≤ 122 ∧ e = .returned (.tuple #[.string q, eV (tfault s.data.toList)]) ∧ Below w.heap.size w w' := by
  have hl : s.data.toList.length = s.size := by simp
  by_cases h1 : s.size ≤ 60
  · refine (quote_short s w h1).mono ?_
    rintro e w' ⟨rfl, hb⟩
    cases h2 : s.data.toList.all okb
    · exact ⟨⟨#[]⟩, Nat.zero_le _, by rw [qres_bad h2, tfault_bad (by rw [hl]; exact h1) h2]; rfl, hb⟩
    · refine ⟨⟨(quoted s.data.toList).toArray⟩, ?_, ?_, hb⟩
      · have := body_length s.data.toList
        show (quoted s.data.toList).length ≤ 122
        unfold quoted
        rw [List.length_cons, List.length_append, List.length_cons, List.length_nil]; omega
      · rw [qres_ok h2, tfault_ok (by unfold textOk; rw [decide_eq_true (by rw [hl]; exact h1), h2]; rfl)]; rfl
  · refine (quote_full s w hs (by omega)).mono ?_
    rintro e w' ⟨rfl, rfl⟩
    exact ⟨⟨#[]⟩, Nat.zero_le _, by rw [tfault_long (by rw [hl]; exact h1)]; rfl, Below.refl _ _⟩

set_option maxHeartbeats 1000000 in
theorem write_any (t i : ByteArray) (w : World) (htm : t.size ≤ maxLen) (him : i.size ≤ maxLen) :
    Calls Tryz.prog 44 #[.agg #[.string t, .string i]] w fun e w' => ∃ q : ByteArray, e = .returned (.tuple #[.string q, eV (ufault t.data.toList i.data.toList)]) ∧ Below w.heap.size w w' := by
  by_cases ht : nfault t.data.toList = 0
  · have htl : t.size ≤ 20 := by have := nfault_small ht; simpa using this
    have HE : Hid (eV (nfault t.data.toList) = .nilIface) := eV_nil ht
    have HU : Hid (ufault t.data.toList i.data.toList = tfault i.data.toList) := if_pos ht
    clear ht
    by_cases hi : tfault i.data.toList = 0
    · have HI : Hid (eV (tfault i.data.toList) = .nilIface) := eV_nil hi
      clear hi
      go_enter Tryz.func44, Tryz.ntmps44
      go_wp2_with fail
      refine (check_any t _ htm).mono ?_
      rintro e w1 ⟨rfl, rfl⟩
      rw [HE.out]
      go_wp2_with fail
      refine (quoteN_any i _ him).mono ?_
      rintro e w2 ⟨q, hq, rfl, hb2⟩
      rw [HI.out]
      have hc2 : ∀ o, w2.cell? ⟨w.heap.size, o, none⟩ = _ := fun o => hb2.cell (p := ⟨w.heap.size, o, none⟩) (by simp)
      go_wp2_with fail
      go_ret2
      exact ⟨t ++ ⟨#[58, 58]⟩ ++ q, by rw [HU.out, HI.out]; rfl, ((Below.refl _ _).alloc (Nat.le_refl _) _).trans (hb2.mono (by simp))⟩
    · have HI : Hid (eV (tfault i.data.toList) = .iface 25 (.int .i64 (tfault i.data.toList))) := eV_not hi
      clear hi
      go_enter Tryz.func44, Tryz.ntmps44
      go_wp2_with fail
      refine (check_any t _ htm).mono ?_
      rintro e w1 ⟨rfl, rfl⟩
      rw [HE.out]
      go_wp2_with fail
      refine (quoteN_any i _ him).mono ?_
      rintro e w2 ⟨q, hq, rfl, hb2⟩
      rw [HI.out]
      go_wp2_with fail
      go_ret2
      exact ⟨⟨#[]⟩, by rw [HU.out, HI.out]; rfl, ((Below.refl _ _).alloc (Nat.le_refl _) _).trans (hb2.mono (by simp))⟩
  · have HE : Hid (eV (nfault t.data.toList) = .iface 25 (.int .i64 (nfault t.data.toList))) := eV_not ht
    have HU : Hid (ufault t.data.toList i.data.toList = nfault t.data.toList) := if_neg ht
    clear ht
    go_enter Tryz.func44, Tryz.ntmps44
    go_wp2_with fail
    refine (check_any t _ htm).mono ?_
    rintro e w1 ⟨rfl, rfl⟩
    rw [HE.out]
    go_wp2_with fail
    go_ret2
    exact ⟨⟨#[]⟩, by rw [HU.out, HE.out]; rfl, (Below.refl _ _).alloc (Nat.le_refl _) _⟩
end Go.Proofs.YtkpbholhempmmaaGreatDoor
