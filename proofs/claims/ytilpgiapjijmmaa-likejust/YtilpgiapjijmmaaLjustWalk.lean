/- The statement LikeJust: its walk. -/
import Derived.Test.YtilpgiapjijmmaaLikeFace
namespace Go.Proofs.Ytilpgiapjijmmaa
open Go.RowKit
set_option linter.unusedVariables false

theorem just_text {l : List UInt8} (h : jfault l = 0) : textOk (pwr (plit l)) = true := by
  obtain ⟨h1, h2⟩ := jfault_ok h
  unfold textOk at *
  rw [Bool.and_eq_true, decide_eq_true_eq] at h1 ⊢
  exact ⟨h2, lit_all l h1.2⟩
theorem just_fact (w : World) : Calls Try.prog 6 #[.string ⟨#[97, 42]⟩] w fun e w' => e = .returned (.tuple #[.string ⟨#[97, 92, 42]⟩, .nilIface]) ∧ Below w.heap.size w w' :=
  just_ok ⟨#[97, 42]⟩ w (by decide)
theorem lists_eq (s t : ByteArray) : (s.data.toList == t.data.toList) = (s.toList == t.toList) := by rw [ByteArray.toList_eq, ByteArray.toList_eq]

set_option maxHeartbeats 2000000 in
theorem ljust_walk (s t : ByteArray) (w : World) (hs : s.size ≤ maxLen) (ht : t.size ≤ maxLen) :
    Calls Try.prog 3 #[.string s, .string t] w fun e w' => e = .returned (.bool true) ∧ Below w.heap.size w w' := by
  by_cases hj : jfault s.data.toList = 0
  · have h1 := (jfault_ok hj).1
    have hp := just_text hj
    have HM : Hid (pM (pcs (pwr (plit s.data.toList))) s.data.toList = true) := by show _ = _; rw [pcs_lit, M_lit]; simp
    have HT : Hid (pM (pcs (pwr (plit s.data.toList))) t.data.toList = (s.toList == t.toList)) := by show _ = _; rw [pcs_lit, M_lit, lists_eq]
    cases h2 : textOk t.data.toList
    · have hm : mfault (pwr (plit s.data.toList)) t.data.toList ≠ 0 := fun h => by
        have := (mfault_ok h).2; rw [h2] at this; cases this
      go_enter Try.func3, Try.ntmps3
      go_wp2_with fail
      refine (just_fact _).mono ?_
      rintro e w1 ⟨rfl, hb1⟩
      go_wp2_with fail
      refine (just_ok s _ hj).mono ?_
      rintro e w2 ⟨rfl, hb2'⟩
      have hb2 := belt hb1 hb2'
      go_wp2_with fail
      refine (match_ok ⟨(pwr (plit s.data.toList)).toArray⟩ s _ hp h1).mono ?_
      rintro e w3 ⟨rfl, hb3'⟩
      have hb3 := belt hb2 hb3'
      rw [show pM (pcs (⟨(pwr (plit s.data.toList)).toArray⟩ : ByteArray).data.toList) s.data.toList = true from HM.out]
      go_wp2_with fail
      refine (match_bad ⟨(pwr (plit s.data.toList)).toArray⟩ t _ (by have := text_size (s := ⟨(pwr (plit s.data.toList)).toArray⟩) hp; unfold maxLen; omega) ht hm).mono ?_
      rintro e w4 ⟨rfl, hb4'⟩
      have hb4 := belt hb3 hb4'
      go_wp2_with fail
      go_ret
      exact ⟨rfl, hb4⟩
    · go_enter Try.func3, Try.ntmps3
      go_wp2_with fail
      refine (just_fact _).mono ?_
      rintro e w1 ⟨rfl, hb1⟩
      go_wp2_with fail
      refine (just_ok s _ hj).mono ?_
      rintro e w2 ⟨rfl, hb2'⟩
      have hb2 := belt hb1 hb2'
      go_wp2_with fail
      refine (match_ok ⟨(pwr (plit s.data.toList)).toArray⟩ s _ hp h1).mono ?_
      rintro e w3 ⟨rfl, hb3'⟩
      have hb3 := belt hb2 hb3'
      rw [show pM (pcs (⟨(pwr (plit s.data.toList)).toArray⟩ : ByteArray).data.toList) s.data.toList = true from HM.out]
      go_wp2_with fail
      refine (match_ok ⟨(pwr (plit s.data.toList)).toArray⟩ t _ hp h2).mono ?_
      rintro e w4 ⟨rfl, hb4'⟩
      have hb4 := belt hb3 hb4'
      rw [show pM (pcs (⟨(pwr (plit s.data.toList)).toArray⟩ : ByteArray).data.toList) t.data.toList = (s.toList == t.toList) from HT.out]
      go_wp2_with fail
      go_ret
      exact ⟨by simp, hb4⟩
  · go_enter Try.func3, Try.ntmps3
    go_wp2_with fail
    refine (just_fact _).mono ?_
    rintro e w1 ⟨rfl, hb1⟩
    go_wp2_with fail
    refine (just_bad s _ hs hj).mono ?_
    rintro e w2 ⟨rfl, hb2'⟩
    have hb2 := belt hb1 hb2'
    go_wp2_with fail
    go_ret
    exact ⟨rfl, hb2⟩
end Go.Proofs.Ytilpgiapjijmmaa
