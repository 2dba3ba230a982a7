/- The statement LikeWrites: its walk. -/
import Derived.Test.YtilpgiapjijmmaaDoorLikeShort
import Derived.Test.YtilpgiapjijmmaaDoorLikeRef2
import Derived.Test.YtilpgiapjijmmaaDoorTextF
import Derived.Test.YtilpgiapjijmmaaDoorToldTwo
namespace Go.Proofs.YtilpgiapjijmmaaDoor
open Go.RowKit
set_option linter.unusedVariables false

theorem short_fact2 (w : World) : Calls Tryd.prog 10 #[.string ⟨#[97, 42, 42]⟩] w fun e w' => e = .returned (.tuple #[.string ⟨#[97, 42]⟩, .nilIface]) ∧ Below w.heap.size w w' :=
  short_good ⟨#[97, 42, 42]⟩ w (by decide)

set_option maxHeartbeats 2000000 in
theorem lwrites_walk (s : ByteArray) (w : World) (hL : ErrVar w) (hs : s.size ≤ maxLen) :
    Calls Tryd.prog 4 #[.string s] w fun e w' => e = .returned (.bool true) ∧ Below w.heap.size w w' := by
  have HL : Hid (ErrVar w) := hL
  clear hL
  by_cases h0 : tfault s.data.toList = 0
  · have hs0 := tfault_zero h0
    have hs6 := text_size hs0
    have HT : Hid (tfault s.data.toList = 0) := h0
    by_cases h6 : 60 < (pwr (plit s.data.toList)).length
    · have j1 : (60 : Int) < ((pwr (plit s.data.toList)).length : Int) := by omega
      have hj : jfault s.data.toList = 4 := by unfold jfault; rw [if_pos h0, if_pos h6]
      have HJ : Hid (_ = _) := hj
      have hjn : jfault s.data.toList ≠ 0 := by rw [hj]; decide
      clear hj h0 h6
      go_enter Tryd.func4, Tryd.ntmps4
      go_wp2_with fail
      refine (short_fact2 _).mono ?_
      rintro e w1 ⟨rfl, hb1⟩
      go_wp2_with fail
      refine (textFault_any s _ hs).mono ?_
      rintro e w1' ⟨rfl, rfl⟩
      rw [HT.out]
      go_wp2_with fail
      refine (escaped_any s _ hs6).mono ?_
      rintro e w1' ⟨rfl, rfl⟩
      go_wp2_with fail
      refine (just_bad s _ hs hjn).mono ?_
      rintro e w2 ⟨rfl, hb2'⟩
      have hb2 := belt hb1 hb2'
      rw [HJ.out]
      go_wp2_with fail
      refine (same_errno 4 4 _ (evUp HL.out hb2)).mono ?_
      rintro e w3 ⟨rfl, hb3'⟩
      have hb3 := belt hb2 hb3'
      go_wp2_with fail
      refine (textFault_any s _ hs).mono ?_
      rintro e w3' ⟨rfl, rfl⟩
      rw [HT.out]
      go_wp2_with fail
      refine (shortened_any s _ hs6).mono ?_
      rintro e w4 ⟨rfl, hb4'⟩
      have hb4 := belt hb3 hb4'
      go_wp2_with fail
      refine (short_good s _ hs0).mono ?_
      rintro e w5 ⟨rfl, hb5'⟩
      have hb5 := belt hb4 hb5'
      go_wp2_with fail
      refine (same_nil 0 _).mono ?_
      rintro e w5' ⟨rfl, rfl⟩
      go_wp2_with fail
      go_ret
      exact ⟨ret_bool (by simp), hb5⟩
    · have j1 : ¬ (60 : Int) < ((pwr (plit s.data.toList)).length : Int) := by omega
      have hj : jfault s.data.toList = 0 := jfault_zero hs0 (by omega)
      clear h0 h6
      go_enter Tryd.func4, Tryd.ntmps4
      go_wp2_with fail
      refine (short_fact2 _).mono ?_
      rintro e w1 ⟨rfl, hb1⟩
      go_wp2_with fail
      refine (textFault_any s _ hs).mono ?_
      rintro e w1' ⟨rfl, rfl⟩
      rw [HT.out]
      go_wp2_with fail
      refine (escaped_any s _ hs6).mono ?_
      rintro e w1' ⟨rfl, rfl⟩
      go_wp2_with fail
      refine (just_ok s _ hj).mono ?_
      rintro e w2 ⟨rfl, hb2'⟩
      have hb2 := belt hb1 hb2'
      go_wp2_with fail
      refine (same_nil 0 _).mono ?_
      rintro e w2' ⟨rfl, rfl⟩
      go_wp2_with fail
      refine (textFault_any s _ hs).mono ?_
      rintro e w3' ⟨rfl, rfl⟩
      rw [HT.out]
      go_wp2_with fail
      refine (shortened_any s _ hs6).mono ?_
      rintro e w4 ⟨rfl, hb4'⟩
      have hb4 := belt hb2 hb4'
      go_wp2_with fail
      refine (short_good s _ hs0).mono ?_
      rintro e w5 ⟨rfl, hb5'⟩
      have hb5 := belt hb4 hb5'
      go_wp2_with fail
      refine (same_nil 0 _).mono ?_
      rintro e w5' ⟨rfl, rfl⟩
      go_wp2_with fail
      go_ret
      exact ⟨ret_bool (by simp), hb5⟩
  · have hj : jfault s.data.toList = tfault s.data.toList := if_neg h0
    have HJ : Hid (_ = _) := hj
    have hjn : jfault s.data.toList ≠ 0 := by rw [hj]; exact h0
    have hb0 : (tfault s.data.toList == 0) = false := by simpa using h0
    clear hj
    go_enter Tryd.func4, Tryd.ntmps4
    go_wp2_with fail
    refine (short_fact2 _).mono ?_
    rintro e w1 ⟨rfl, hb1⟩
    go_wp2_with fail
    refine (textFault_any s _ hs).mono ?_
    rintro e w1' ⟨rfl, rfl⟩
    go_wp2_with fail
    refine (just_bad s _ hs hjn).mono ?_
    rintro e w2 ⟨rfl, hb2'⟩
    have hb2 := belt hb1 hb2'
    rw [HJ.out]
    go_wp2_with fail
    refine (same_errno _ _ _ (evUp HL.out hb2)).mono ?_
    rintro e w3 ⟨rfl, hb3'⟩
    have hb3 := belt hb2 hb3'
    rw [beq_self_eq_true]
    go_wp2_with fail
    refine (textFault_any s _ hs).mono ?_
    rintro e w3' ⟨rfl, rfl⟩
    go_wp2_with fail
    refine (short_bad s _ hs h0).mono ?_
    rintro e w4 ⟨rfl, hb4'⟩
    have hb4 := belt hb3 hb4'
    go_wp2_with fail
    refine (same_errno _ _ _ (evUp HL.out hb4)).mono ?_
    rintro e w5 ⟨rfl, hb5'⟩
    have hb5 := belt hb4 hb5'
    rw [beq_self_eq_true]
    go_wp2_with fail
    go_ret
    exact ⟨rfl, hb5⟩
end Go.Proofs.YtilpgiapjijmmaaDoor
