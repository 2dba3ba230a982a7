/- NameQuotes: the walk of the statement's own function. -/
import Derived.Test.YthjeeppnijehoaaDoorQuoteRef
import Derived.Test.YthjeeppnijehoaaDoorToldWalk
namespace Go.Proofs.YthjeeppnijehoaaDoor
open Go.RowKit
set_option linter.unusedVariables false

theorem fact_q : quoted [97, 34, 98] = [34, 97, 92, 34, 98, 34] := by decide

theorem errVar_bt {W w1 : World} (h : ErrVar W) (hb : Below W.heap.size W w1) : ErrVar w1 := errVar_below h hb (Nat.le_refl _)

set_option maxHeartbeats 4000000 in
theorem quotes_walk (s : ByteArray) (w : World) (hs : s.size ≤ 140737488351232) (hg : ErrVar w) :
    Calls Tryd.prog 4 #[.string s] w fun e w' => e = .returned (.bool true) ∧ Below w.heap.size w w' := by
  have Hg : Hid (ErrVar w) := hg
  have hm : s.size ≤ maxLen := by unfold maxLen; omega
  clear hg
  rcases is_quoted s.data.toList with ⟨t, ht, hq⟩ | hno
  · have HS : Hid (_ = _) := ba_of hq
    have HQ : Hid (quoted t = s.data.toList) := hq
    have HO : Hid (bareOk s.data.toList = true) := by show _ = _; rw [← hq]; exact bareOk_quoted t ht
    have HBL : Hid (bl (s.data.toList.drop 1) = t) := by show _ = _; rw [← hq]; exact bl_quoted t
    clear hq
    cases hA : textOk s.data.toList
    · have h0 : (tfault s.data.toList == 0) = false := by simpa using tfault_not hA
      have HT : Hid (tfault s.data.toList = qerr s.data.toList) := tfault_qerr hA
      go_enter Tryd.func4, Tryd.ntmps4
      go_wp2_with fail
      refine (quote_good ⟨#[97, 34, 98]⟩ _ (by decide)).mono ?_
      rintro e w1 ⟨rfl, hb1⟩
      rw [show quoted (⟨#[97, 34, 98]⟩ : ByteArray).data.toList = [34, 97, 92, 34, 98, 34] from fact_q]
      go_wp2_with fail
      refine (textFault_any s _ hm).mono ?_
      rintro e w2 ⟨rfl, rfl⟩
      go_wp2_with fail
      refine (quote_err s _ hm hA).mono ?_
      rintro e w3 ⟨rfl, hb3'⟩
      have hb3 := btw hb1 hb3'
      clear hb1 hb3'
      have Hg3 : Hid (ErrVar w3) := errVar_bt Hg.out hb3
      go_wp2_with fail
      refine (same_errno _ _ _ Hg3.out).mono ?_
      rintro e w4 ⟨rfl, hb4'⟩
      have hb4 := btw hb3 hb4'
      clear hb3 hb4' Hg3
      rw [HT.out, beq_self_eq_true]
      go_wp2_with fail
      refine (bare_any s _ hs).mono ?_
      rintro e w5 ⟨rfl, rfl⟩
      rw [HO.out, HBL.out]
      go_wp2_with fail
      rw [← HS.out]
      refine (unquote_yes t _ ht).mono ?_
      rintro e w6 ⟨rfl, hb6'⟩
      have hb6 := btw hb4 hb6'
      clear hb4 hb6'
      go_wp2_with fail
      refine (same_nil _ _).mono ?_
      rintro e w7 ⟨rfl, rfl⟩
      go_wp2_with fail
      go_ret
      exact ⟨rfl, hb6⟩
    · have HT : Hid (tfault s.data.toList = 0) := tfault_ok hA
      have h60 : s.size ≤ 60 := by rw [size_list]; exact (textOk_parts hA).1
      go_enter Tryd.func4, Tryd.ntmps4
      go_wp2_with fail
      refine (quote_good ⟨#[97, 34, 98]⟩ _ (by decide)).mono ?_
      rintro e w1 ⟨rfl, hb1⟩
      rw [show quoted (⟨#[97, 34, 98]⟩ : ByteArray).data.toList = [34, 97, 92, 34, 98, 34] from fact_q]
      go_wp2_with fail
      refine (textFault_any s _ hm).mono ?_
      rintro e w2 ⟨rfl, rfl⟩
      rw [HT.out]
      go_wp2_with fail
      refine (rQuoted_any s _ h60).mono ?_
      rintro e w3 ⟨rfl, rfl⟩
      go_wp2_with fail
      refine (quote_good s _ hA).mono ?_
      rintro e w3 ⟨rfl, hb3'⟩
      have hb3 := btw hb1 hb3'
      clear hb1 hb3'
      go_wp2_with fail
      refine (same_nil _ _).mono ?_
      rintro e w4 ⟨rfl, rfl⟩
      have hb4 := hb3
      clear hb3
      go_wp2_with fail
      refine (bare_any s _ hs).mono ?_
      rintro e w5 ⟨rfl, rfl⟩
      rw [HO.out, HBL.out]
      go_wp2_with fail
      rw [← HS.out]
      refine (unquote_yes t _ ht).mono ?_
      rintro e w6 ⟨rfl, hb6'⟩
      have hb6 := btw hb4 hb6'
      clear hb4 hb6'
      go_wp2_with fail
      refine (same_nil _ _).mono ?_
      rintro e w7 ⟨rfl, rfl⟩
      go_wp2_with fail
      go_ret
      exact ⟨rfl, hb6⟩
  · have HN : Hid (∀ _, _) := hno
    have HO : Hid (bareOk s.data.toList = false) := bareOk_none hno
    clear hno
    cases hA : textOk s.data.toList
    · have h0 : (tfault s.data.toList == 0) = false := by simpa using tfault_not hA
      have HT : Hid (tfault s.data.toList = qerr s.data.toList) := tfault_qerr hA
      go_enter Tryd.func4, Tryd.ntmps4
      go_wp2_with fail
      refine (quote_good ⟨#[97, 34, 98]⟩ _ (by decide)).mono ?_
      rintro e w1 ⟨rfl, hb1⟩
      rw [show quoted (⟨#[97, 34, 98]⟩ : ByteArray).data.toList = [34, 97, 92, 34, 98, 34] from fact_q]
      go_wp2_with fail
      refine (textFault_any s _ hm).mono ?_
      rintro e w2 ⟨rfl, rfl⟩
      go_wp2_with fail
      refine (quote_err s _ hm hA).mono ?_
      rintro e w3 ⟨rfl, hb3'⟩
      have hb3 := btw hb1 hb3'
      clear hb1 hb3'
      have Hg3 : Hid (ErrVar w3) := errVar_bt Hg.out hb3
      go_wp2_with fail
      refine (same_errno _ _ _ Hg3.out).mono ?_
      rintro e w4 ⟨rfl, hb4'⟩
      have hb4 := btw hb3 hb4'
      clear hb3 hb4' Hg3
      rw [HT.out, beq_self_eq_true]
      go_wp2_with fail
      refine (bare_any s _ hs).mono ?_
      rintro e w5 ⟨rfl, rfl⟩
      rw [HO.out]
      go_wp2_with fail
      refine (unquote_no s _ (by omega) HN.out).mono ?_
      rintro e w6 ⟨rfl, hb6'⟩
      have hb6 := btw hb4 hb6'
      have Hg6 : Hid (ErrVar w6) := errVar_bt Hg.out hb6
      clear hb4 hb6'
      go_wp2_with fail
      refine (same_errno _ _ _ Hg6.out).mono ?_
      rintro e w7 ⟨rfl, hb7'⟩
      have hb7 := btw hb6 hb7'
      go_wp2_with fail
      go_ret
      exact ⟨rfl, hb7⟩
    · have HT : Hid (tfault s.data.toList = 0) := tfault_ok hA
      have h60 : s.size ≤ 60 := by rw [size_list]; exact (textOk_parts hA).1
      go_enter Tryd.func4, Tryd.ntmps4
      go_wp2_with fail
      refine (quote_good ⟨#[97, 34, 98]⟩ _ (by decide)).mono ?_
      rintro e w1 ⟨rfl, hb1⟩
      rw [show quoted (⟨#[97, 34, 98]⟩ : ByteArray).data.toList = [34, 97, 92, 34, 98, 34] from fact_q]
      go_wp2_with fail
      refine (textFault_any s _ hm).mono ?_
      rintro e w2 ⟨rfl, rfl⟩
      rw [HT.out]
      go_wp2_with fail
      refine (rQuoted_any s _ h60).mono ?_
      rintro e w3 ⟨rfl, rfl⟩
      go_wp2_with fail
      refine (quote_good s _ hA).mono ?_
      rintro e w3 ⟨rfl, hb3'⟩
      have hb3 := btw hb1 hb3'
      clear hb1 hb3'
      go_wp2_with fail
      refine (same_nil _ _).mono ?_
      rintro e w4 ⟨rfl, rfl⟩
      have hb4 := hb3
      clear hb3
      go_wp2_with fail
      refine (bare_any s _ hs).mono ?_
      rintro e w5 ⟨rfl, rfl⟩
      rw [HO.out]
      go_wp2_with fail
      refine (unquote_no s _ (by omega) HN.out).mono ?_
      rintro e w6 ⟨rfl, hb6'⟩
      have hb6 := btw hb4 hb6'
      have Hg6 : Hid (ErrVar w6) := errVar_bt Hg.out hb6
      clear hb4 hb6'
      go_wp2_with fail
      refine (same_errno _ _ _ Hg6.out).mono ?_
      rintro e w7 ⟨rfl, hb7'⟩
      have hb7 := btw hb6 hb7'
      go_wp2_with fail
      go_ret
      exact ⟨rfl, hb7⟩
end Go.Proofs.YthjeeppnijehoaaDoor
