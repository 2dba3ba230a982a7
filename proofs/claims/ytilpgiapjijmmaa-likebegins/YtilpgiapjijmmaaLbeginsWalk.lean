/- The statement LikeBegins: its walk. -/
import Derived.Test.YtilpgiapjijmmaaLikeFace
import Derived.Test.YtilpgiapjijmmaaTextF
import Derived.Test.YtilpgiapjijmmaaLikeText
namespace Go.Proofs.Ytilpgiapjijmmaa
open Go.RowKit
set_option linter.unusedVariables false

theorem begin_fact (w : World) : Calls Try.prog 7 #[.string ⟨#[97, 98, 42]⟩, .string ⟨#[97, 98, 99]⟩] w fun e w' => e = .returned (.tuple #[.bool true, .nilIface]) ∧ Below w.heap.size w w' :=
  match_ok ⟨#[97, 98, 42]⟩ ⟨#[97, 98, 99]⟩ w (by decide) (by decide)
theorem begins_text {l : List UInt8} (h : jfault l = 0) (k : (pwr (plit l)).length < 60) : textOk ((⟨(pwr (plit l)).toArray⟩ : ByteArray) ++ ⟨#[42]⟩).data.toList = true := by
  obtain ⟨h1, h2⟩ := jfault_ok h
  rw [glue]
  show textOk (pwr (plit l) ++ [42]) = true
  unfold textOk at *
  rw [Bool.and_eq_true, decide_eq_true_eq] at h1 ⊢
  refine ⟨by rw [List.length_append, List.length_cons, List.length_nil]; omega, ?_⟩
  rw [List.all_append, lit_all l h1.2]; rfl

set_option maxHeartbeats 2000000 in
theorem lbegins_walk (s t : ByteArray) (w : World) (hs : s.size ≤ maxLen) (ht : t.size ≤ maxLen) :
    Calls Try.prog 4 #[.string s, .string t] w fun e w' => e = .returned (.bool true) ∧ Below w.heap.size w w' := by
  by_cases hj : jfault s.data.toList = 0
  · have hp6 := (jfault_ok hj).2
    have hs6 := text_size (jfault_ok hj).1
    by_cases h60 : (pwr (plit s.data.toList)).length < 60
    · have j1 : ¬ (60 : Int) ≤ ((pwr (plit s.data.toList)).length : Int) := by omega
      have hpt := begins_text hj h60
      have HPT : Hid (textOk _ = true) := hpt
      clear hpt
      by_cases hlast : s.data.toList.getLast? = some 92
      · have h0 : 0 < s.size := by
          rcases Nat.eq_zero_or_pos s.size with h | h
          · have : s.data.toList = [] := List.eq_nil_of_length_eq_zero (by simpa using h)
            rw [this] at hlast; cases hlast
          · exact h
        have k0 : (0 : Int) < (s.size : Int) := by omega
        have k1 : (1 : Int) ≤ (s.size : Int) := by omega
        rw [last_byte s h0] at hlast
        have e92 : s[s.size - 1] = 92 := by simpa using hlast
        have b92 : ((s[s.size - 1].toNat : Int) == 92) = true := by rw [e92]; rfl
        clear hlast e92
        go_enter Try.func4, Try.ntmps4
        go_wp2_with fail
        refine (begin_fact _).mono ?_
        rintro e w1 ⟨rfl, hb1⟩
        go_wp2_with fail
        refine (just_ok s _ hj).mono ?_
        rintro e w2 ⟨rfl, hb2'⟩
        have hb2 := belt hb1 hb2'
        go_wp2_with fail
        go_ret
        exact ⟨rfl, hb2⟩
      · have HT : Hid (pM (pcs ((⟨(pwr (plit s.data.toList)).toArray⟩ : ByteArray) ++ ⟨#[42]⟩).data.toList) t.data.toList = s.data.toList.isPrefixOf t.data.toList) := by
          show _ = _
          rw [glue]
          show pM (pcs (pwr (plit s.data.toList) ++ [42])) _ = _
          rw [pcs_begins _ hlast, M_begins]
        have hcase : (s.size = 0) ∨ (0 < s.size ∧ ∃ h : s.size - 1 < s.size, ((s[s.size - 1].toNat : Int) == 92) = false) := by
          rcases Nat.eq_zero_or_pos s.size with h | h
          · exact .inl h
          · refine .inr ⟨h, by omega, ?_⟩
            rw [last_byte s h] at hlast
            cases hb : ((s[s.size - 1].toNat : Int) == 92)
            · rfl
            · exfalso
              apply hlast
              have : s[s.size - 1].toNat = 92 := by have := beq_iff_eq.1 hb; omega
              rw [show s[s.size - 1] = 92 from byte_same this]
        clear hlast
        by_cases h2 : tfault t.data.toList = 0
        · have h2' := tfault_zero h2
          by_cases hge : s.size ≤ t.size
          · have g1 : (s.size : Int) ≤ (t.size : Int) := by omega
            have HT2 : Hid (pM (pcs ((⟨(pwr (plit s.data.toList)).toArray⟩ : ByteArray) ++ ⟨#[42]⟩).data.toList) t.data.toList = ((t.extract 0 s.size).toList == s.toList)) := by
              show _ = _
              rw [HT.out, prefix_take, ByteArray.toList_eq, ByteArray.toList_eq, head_of, decide_eq_true (by simpa using hge), Bool.true_and]
              simp
            clear HT
            rcases hcase with h0 | ⟨h0, hlt, b92⟩
            · have k0 : ¬ (0 : Int) < (s.size : Int) := by omega
              go_enter Try.func4, Try.ntmps4
              go_wp2_with fail
              refine (begin_fact _).mono ?_
              rintro e w1 ⟨rfl, hb1⟩
              go_wp2_with fail
              refine (just_ok s _ hj).mono ?_
              rintro e w2 ⟨rfl, hb2'⟩
              have hb2 := belt hb1 hb2'
              go_wp2_with fail
              refine (match_ok _ t _ HPT.out h2').mono ?_
              rintro e w3 ⟨rfl, hb3'⟩
              have hb3 := belt hb2 hb3'
              rw [HT2.out]
              go_wp2_with fail
              go_ret
              exact ⟨by simp, hb3⟩
            · have k0 : (0 : Int) < (s.size : Int) := by omega
              have k1 : (1 : Int) ≤ (s.size : Int) := by omega
              go_enter Try.func4, Try.ntmps4
              go_wp2_with fail
              refine (begin_fact _).mono ?_
              rintro e w1 ⟨rfl, hb1⟩
              go_wp2_with fail
              refine (just_ok s _ hj).mono ?_
              rintro e w2 ⟨rfl, hb2'⟩
              have hb2 := belt hb1 hb2'
              go_wp2_with fail
              refine (match_ok _ t _ HPT.out h2').mono ?_
              rintro e w3 ⟨rfl, hb3'⟩
              have hb3 := belt hb2 hb3'
              rw [HT2.out]
              go_wp2_with fail
              go_ret
              exact ⟨by simp, hb3⟩
          · have g1 : ¬ (s.size : Int) ≤ (t.size : Int) := by omega
            have HT2 : Hid (pM (pcs ((⟨(pwr (plit s.data.toList)).toArray⟩ : ByteArray) ++ ⟨#[42]⟩).data.toList) t.data.toList = false) := by
              show _ = _
              rw [HT.out, prefix_take, decide_eq_false (by simpa using hge), Bool.false_and]
            clear HT
            rcases hcase with h0 | ⟨h0, hlt, b92⟩
            · omega
            · have k0 : (0 : Int) < (s.size : Int) := by omega
              have k1 : (1 : Int) ≤ (s.size : Int) := by omega
              go_enter Try.func4, Try.ntmps4
              go_wp2_with fail
              refine (begin_fact _).mono ?_
              rintro e w1 ⟨rfl, hb1⟩
              go_wp2_with fail
              refine (just_ok s _ hj).mono ?_
              rintro e w2 ⟨rfl, hb2'⟩
              have hb2 := belt hb1 hb2'
              go_wp2_with fail
              refine (match_ok _ t _ HPT.out h2').mono ?_
              rintro e w3 ⟨rfl, hb3'⟩
              have hb3 := belt hb2 hb3'
              rw [HT2.out]
              go_wp2_with fail
              go_ret
              exact ⟨rfl, hb3⟩
        · have hm : mfault ((⟨(pwr (plit s.data.toList)).toArray⟩ : ByteArray) ++ ⟨#[42]⟩).data.toList t.data.toList ≠ 0 := fun h => h2 (tfault_ok (mfault_ok h).2)
          have HM : Hid (mfault _ _ ≠ 0) := hm
          have h2b : (tfault t.data.toList == 0) = false := by simpa using h2
          clear HT hm
          rcases hcase with h0 | ⟨h0, hlt, b92⟩
          · have k0 : ¬ (0 : Int) < (s.size : Int) := by omega
            go_enter Try.func4, Try.ntmps4
            go_wp2_with fail
            refine (begin_fact _).mono ?_
            rintro e w1 ⟨rfl, hb1⟩
            go_wp2_with fail
            refine (just_ok s _ hj).mono ?_
            rintro e w2 ⟨rfl, hb2'⟩
            have hb2 := belt hb1 hb2'
            go_wp2_with fail
            refine (match_bad _ t _ (by have := text_size HPT.out; unfold maxLen; omega) ht HM.out).mono ?_
            rintro e w3 ⟨rfl, hb3'⟩
            have hb3 := belt hb2 hb3'
            go_wp2_with fail
            refine (textFault_any t _ ht).mono ?_
            rintro e w4 ⟨rfl, rfl⟩
            go_wp2_with fail
            go_ret
            exact ⟨ret_bool (by rw [bne, h2b]; rfl), hb3⟩
          · have k0 : (0 : Int) < (s.size : Int) := by omega
            have k1 : (1 : Int) ≤ (s.size : Int) := by omega
            go_enter Try.func4, Try.ntmps4
            go_wp2_with fail
            refine (begin_fact _).mono ?_
            rintro e w1 ⟨rfl, hb1⟩
            go_wp2_with fail
            refine (just_ok s _ hj).mono ?_
            rintro e w2 ⟨rfl, hb2'⟩
            have hb2 := belt hb1 hb2'
            go_wp2_with fail
            refine (match_bad _ t _ (by have := text_size HPT.out; unfold maxLen; omega) ht HM.out).mono ?_
            rintro e w3 ⟨rfl, hb3'⟩
            have hb3 := belt hb2 hb3'
            go_wp2_with fail
            refine (textFault_any t _ ht).mono ?_
            rintro e w4 ⟨rfl, rfl⟩
            go_wp2_with fail
            go_ret
            exact ⟨ret_bool (by rw [bne, h2b]; rfl), hb3⟩
    · have j1 : (60 : Int) ≤ ((pwr (plit s.data.toList)).length : Int) := by omega
      go_enter Try.func4, Try.ntmps4
      go_wp2_with fail
      refine (begin_fact _).mono ?_
      rintro e w1 ⟨rfl, hb1⟩
      go_wp2_with fail
      refine (just_ok s _ hj).mono ?_
      rintro e w2 ⟨rfl, hb2'⟩
      have hb2 := belt hb1 hb2'
      go_wp2_with fail
      go_ret
      exact ⟨rfl, hb2⟩
  · go_enter Try.func4, Try.ntmps4
    go_wp2_with fail
    refine (begin_fact _).mono ?_
    rintro e w1 ⟨rfl, hb1⟩
    go_wp2_with fail
    refine (just_bad s _ hs hj).mono ?_
    rintro e w2 ⟨rfl, hb2'⟩
    have hb2 := belt hb1 hb2'
    go_wp2_with fail
    go_ret
    exact ⟨rfl, hb2⟩
end Go.Proofs.Ytilpgiapjijmmaa
