/- The statement LikeShort: its walk. -/
import Derived.Test.YtilpgiapjijmmaaDoorLikeShort
import Derived.Test.YtilpgiapjijmmaaDoorToldTwo
namespace Go.Proofs.YtilpgiapjijmmaaDoor
open Go.RowKit
set_option linter.unusedVariables false

theorem short_fact (w : World) : Calls Tryd.prog 10 #[.string ⟨#[42, 42]⟩] w fun e w' => e = .returned (.tuple #[.string ⟨#[42]⟩, .nilIface]) ∧ Below w.heap.size w w' :=
  short_good ⟨#[42, 42]⟩ w (by decide)
/-- A pattern without needless stars, as bytes. -/
def shb (p : ByteArray) : ByteArray := ⟨(pwr (pcp false (pcs p.data.toList))).toArray⟩
theorem shb_list (p : ByteArray) : (shb p).data.toList = pwr (pcp false (pcs p.data.toList)) := rfl
theorem shb_twice (p : ByteArray) : (⟨(pwr (pcp false (pcs (shb p).data.toList))).toArray⟩ : ByteArray) = shb p := by
  rw [shb_list, pcs_short, cp_cp]; rfl
theorem shb_size (p : ByteArray) : (shb p).size ≤ p.size := by
  have h := short_len p.data.toList
  have e : p.data.toList.length = p.size := by simp
  have e2 : (shb p).size = (pwr (pcp false (pcs p.data.toList))).length := by
    rw [← shb_list]; simp
  omega

set_option maxHeartbeats 2000000 in
theorem lshort_walk (p s : ByteArray) (w : World) (hL : ErrVar w) (hp : p.size ≤ maxLen) (hs : s.size ≤ maxLen) :
    Calls Tryd.prog 5 #[.string p, .string s] w fun e w' => e = .returned (.bool true) ∧ Below w.heap.size w w' := by
  have HL : Hid (ErrVar w) := hL
  clear hL
  by_cases h0 : tfault p.data.toList = 0
  · have hp0 := tfault_zero h0
    have hq0 : textOk (shb p).data.toList = true := short_ok hp0
    have HPC : Hid (pM (pcs (shb p).data.toList) s.data.toList = pM (pcs p.data.toList) s.data.toList) := by show _ = _; rw [shb_list, pcs_short, M_cp]
    have HTW : Hid ((⟨(pwr (pcp false (pcs (shb p).data.toList))).toArray⟩ : ByteArray) = shb p) := shb_twice p
    have hle := shb_size p
    have k1 : ¬ (p.size : Int) < ((shb p).size : Int) := by omega
    have hqm : (shb p).size ≤ maxLen := by omega
    by_cases h1 : tfault s.data.toList = 0
    · have hs0 := tfault_zero h1
      go_enter Tryd.func5, Tryd.ntmps5
      go_wp2_with fail
      refine (short_fact _).mono ?_
      rintro e w1 ⟨rfl, hb1⟩
      go_wp2_with fail
      refine (short_good p _ hp0).mono ?_
      rintro e w2 ⟨rfl, hb2'⟩
      have hb2 := belt hb1 hb2'
      rw [show (⟨(pwr (pcp false (pcs p.data.toList))).toArray⟩ : ByteArray) = shb p from rfl]
      generalize gq : shb p = q at *
      have GQ : Hid (_ = _) := gq
      clear gq
      go_wp2_with fail
      refine (match_ok p s _ hp0 hs0).mono ?_
      rintro e w3 ⟨rfl, hb3'⟩
      have hb3 := belt hb2 hb3'
      go_wp2_with fail
      refine (match_ok q s _ hq0 hs0).mono ?_
      rintro e w4 ⟨rfl, hb4'⟩
      have hb4 := belt hb3 hb4'
      rw [HPC.out]
      generalize pM (pcs p.data.toList) s.data.toList = B
      go_wp2_with fail
      refine (short_good q _ hq0).mono ?_
      rintro e w5 ⟨rfl, hb5'⟩
      have hb5 := belt hb4 hb5'
      rw [HTW.out]
      go_wp2_with fail
      refine (told2_nil _).mono ?_
      rintro e w6 ⟨rfl, rfl⟩
      go_wp2_with fail
      go_ret
      exact ⟨ret_bool (by simp), hb5⟩
    · have hm : mfault p.data.toList s.data.toList = tfault s.data.toList := if_pos h0
      have hm2 : mfault (shb p).data.toList s.data.toList = tfault s.data.toList := if_pos (tfault_ok hq0)
      have n1 : mfault p.data.toList s.data.toList ≠ 0 := by rw [hm]; exact h1
      have n2 : mfault (shb p).data.toList s.data.toList ≠ 0 := by rw [hm2]; exact h1
      have HM : Hid (mfault p.data.toList s.data.toList = tfault s.data.toList) := hm
      have HM2 : Hid (mfault (shb p).data.toList s.data.toList = tfault s.data.toList) := hm2
      clear hm hm2 HPC
      go_enter Tryd.func5, Tryd.ntmps5
      go_wp2_with fail
      refine (short_fact _).mono ?_
      rintro e w1 ⟨rfl, hb1⟩
      go_wp2_with fail
      refine (short_good p _ hp0).mono ?_
      rintro e w2 ⟨rfl, hb2'⟩
      have hb2 := belt hb1 hb2'
      rw [show (⟨(pwr (pcp false (pcs p.data.toList))).toArray⟩ : ByteArray) = shb p from rfl]
      generalize gq : shb p = q at *
      have GQ : Hid (_ = _) := gq
      clear gq
      go_wp2_with fail
      refine (match_bad p s _ hp hs n1).mono ?_
      rintro e w3 ⟨rfl, hb3'⟩
      have hb3 := belt hb2 hb3'
      rw [HM.out]
      go_wp2_with fail
      refine (match_bad q s _ hqm hs n2).mono ?_
      rintro e w4 ⟨rfl, hb4'⟩
      have hb4 := belt hb3 hb4'
      rw [HM2.out]
      generalize tfault s.data.toList = n
      go_wp2_with fail
      refine (short_good q _ hq0).mono ?_
      rintro e w5 ⟨rfl, hb5'⟩
      have hb5 := belt hb4 hb5'
      rw [HTW.out]
      go_wp2_with fail
      refine (told2_errno n n _ (evUp HL.out hb5)).mono ?_
      rintro e w6 ⟨rfl, hb6'⟩
      have hb6 := belt hb5 hb6'
      rw [beq_self_eq_true]
      go_wp2_with fail
      go_ret
      exact ⟨rfl, hb6⟩
  · go_enter Tryd.func5, Tryd.ntmps5
    go_wp2_with fail
    refine (short_fact _).mono ?_
    rintro e w1 ⟨rfl, hb1⟩
    go_wp2_with fail
    refine (short_bad p _ hp h0).mono ?_
    rintro e w2 ⟨rfl, hb2'⟩
    have hb2 := belt hb1 hb2'
    go_wp2_with fail
    go_ret
    exact ⟨rfl, hb2⟩
end Go.Proofs.YtilpgiapjijmmaaDoor
