/- The statement LikeMatches: its walk. -/
import Derived.Test.YtilpgiapjijmmaaDoorLikeRef3
import Derived.Test.YtilpgiapjijmmaaDoorLikeFace
import Derived.Test.YtilpgiapjijmmaaDoorTextF
import Derived.Test.YtilpgiapjijmmaaDoorToldTwo
namespace Go.Proofs.YtilpgiapjijmmaaDoor
open Go.RowKit
set_option linter.unusedVariables false

theorem match_fact (w : World) : Calls Tryd.prog 6 #[.string ⟨#[97, 42]⟩, .string ⟨#[97, 98, 99]⟩] w fun e w' => e = .returned (.tuple #[.bool true, .nilIface]) ∧ Below w.heap.size w w' :=
  match_ok ⟨#[97, 42]⟩ ⟨#[97, 98, 99]⟩ w (by decide) (by decide)

set_option maxHeartbeats 2000000 in
theorem lmatch_walk (p s : ByteArray) (w : World) (hL : ErrVar w) (hp : p.size ≤ maxLen) (hs : s.size ≤ maxLen) :
    Calls Tryd.prog 3 #[.string p, .string s] w fun e w' => e = .returned (.bool true) ∧ Below w.heap.size w w' := by
  have HL : Hid (ErrVar w) := hL
  clear hL
  by_cases h0 : tfault p.data.toList = 0
  · have hp0 := tfault_zero h0
    have hp6 := text_size hp0
    have HTP : Hid (tfault p.data.toList = 0) := h0
    by_cases h1 : tfault s.data.toList = 0
    · have hs0 := tfault_zero h1
      have hs6 := text_size hs0
      have HTS : Hid (tfault s.data.toList = 0) := h1
      clear h0 h1
      go_enter Tryd.func3, Tryd.ntmps3
      go_wp2_with fail
      refine (match_fact _).mono ?_
      rintro e w1 ⟨rfl, hb1⟩
      go_wp2_with fail
      refine (textFault_any p _ hp).mono ?_
      rintro e w1' ⟨rfl, rfl⟩
      rw [HTP.out]
      go_wp2_with fail
      refine (textFault_any s _ hs).mono ?_
      rintro e w1' ⟨rfl, rfl⟩
      rw [HTS.out]
      go_wp2_with fail
      refine (refFits_any p s _ hp6 hs6).mono ?_
      rintro e w2 ⟨rfl, hb2'⟩
      have hb2 := belt hb1 hb2'
      go_wp2_with fail
      refine (match_ok p s _ hp0 hs0).mono ?_
      rintro e w3 ⟨rfl, hb3'⟩
      have hb3 := belt hb2 hb3'
      generalize pM (pcs p.data.toList) s.data.toList = B
      go_wp2_with fail
      refine (same_nil 0 _).mono ?_
      rintro e w4 ⟨rfl, rfl⟩
      go_wp2_with fail
      go_ret
      exact ⟨ret_bool (by simp), hb3⟩
    · have hm : mfault p.data.toList s.data.toList = tfault s.data.toList := if_pos h0
      have n1 : mfault p.data.toList s.data.toList ≠ 0 := by rw [hm]; exact h1
      have HM : Hid (_ = _) := hm
      have hb0 : (tfault s.data.toList == 0) = false := by simpa using h1
      clear hm h0
      go_enter Tryd.func3, Tryd.ntmps3
      go_wp2_with fail
      refine (match_fact _).mono ?_
      rintro e w1 ⟨rfl, hb1⟩
      go_wp2_with fail
      refine (textFault_any p _ hp).mono ?_
      rintro e w1' ⟨rfl, rfl⟩
      rw [HTP.out]
      go_wp2_with fail
      refine (textFault_any s _ hs).mono ?_
      rintro e w1' ⟨rfl, rfl⟩
      go_wp2_with fail
      refine (match_bad p s _ hp hs n1).mono ?_
      rintro e w3 ⟨rfl, hb3'⟩
      have hb3 := belt hb1 hb3'
      rw [HM.out]
      go_wp2_with fail
      refine (same_errno _ _ _ (evUp HL.out hb3)).mono ?_
      rintro e w4 ⟨rfl, hb4'⟩
      have hb4 := belt hb3 hb4'
      rw [beq_self_eq_true]
      go_wp2_with fail
      go_ret
      exact ⟨rfl, hb4⟩
  · have hm : mfault p.data.toList s.data.toList = tfault p.data.toList := if_neg h0
    have n1 : mfault p.data.toList s.data.toList ≠ 0 := by rw [hm]; exact h0
    have HM : Hid (_ = _) := hm
    have hb0 : (tfault p.data.toList == 0) = false := by simpa using h0
    clear hm
    go_enter Tryd.func3, Tryd.ntmps3
    go_wp2_with fail
    refine (match_fact _).mono ?_
    rintro e w1 ⟨rfl, hb1⟩
    go_wp2_with fail
    refine (textFault_any p _ hp).mono ?_
    rintro e w1' ⟨rfl, rfl⟩
    go_wp2_with fail
    refine (match_bad p s _ hp hs n1).mono ?_
    rintro e w3 ⟨rfl, hb3'⟩
    have hb3 := belt hb1 hb3'
    rw [HM.out]
    go_wp2_with fail
    refine (same_errno _ _ _ (evUp HL.out hb3)).mono ?_
    rintro e w4 ⟨rfl, hb4'⟩
    have hb4 := belt hb3 hb4'
    rw [beq_self_eq_true]
    go_wp2_with fail
    go_ret
    exact ⟨rfl, hb4⟩
end Go.Proofs.YtilpgiapjijmmaaDoor
