/- PROVED: for every text, whatever its bytes and its length, the statement NameBack returns true and leaves its argument as it reads; no condition stands behind it but the row's own. -/
import Derived.Test.YthjeeppnijehoaaStrip
import Derived.Test.YthjeeppnijehoaaRows
import Derived.ProofKit
import Derived.OpenShut
import Derived.ShutString
import Derived.ChangeOld
import Derived.SizedLaws
namespace Go.Proofs.Ythjeeppnijehoaa
open Go.ChangeShapes Go.WideShapes Go.ChangeAt Go.RowKit
open Go.ChangeMaps (open_string shut_string)
set_option linter.unusedVariables false

/-- The law's first lines: one text that is told by name. -/
theorem fact_text : (⟨#[34, 97, 92, 92, 34]⟩ : ByteArray) = ⟨(quoted [97, 92]).toArray⟩ := by decide

set_option maxHeartbeats 2000000 in
theorem back_walk (s : ByteArray) (w : World) (hs : s.size ≤ 140737488351232) :
    Calls Try.prog 3 #[.string s] w fun e w' => e = .returned (.bool true) ∧ Below w.heap.size w w' := by
  have hm : s.size ≤ maxLen := by unfold maxLen; omega
  rcases is_quoted s.data.toList with ⟨t, ht, hq⟩ | hno
  · have HS : Hid (_ = _) := ba_of hq
    cases hA : textOk s.data.toList
    · go_enter Try.func3, Try.ntmps3
      go_wp2_with fail
      rw [fact_text]
      refine (unquote_yes [97, 92] _ (by decide)).mono ?_
      rintro e w1 ⟨rfl, hb1⟩
      go_wp2_with fail
      refine (quote_err s _ hm hA).mono ?_
      rintro e w2 ⟨rfl, hb2'⟩
      have hb2 := btw hb1 hb2'
      go_wp2_with fail
      rw [← HS.out]
      refine (unquote_yes t _ ht).mono ?_
      rintro e w3 ⟨rfl, hb3'⟩
      have hb3 := btw hb2 hb3'
      go_wp2_with fail
      refine (quote_good ⟨t.toArray⟩ _ ht).mono ?_
      rintro e w4 ⟨rfl, hb4'⟩
      have hb4 := btw hb3 hb4'
      go_wp2_with fail
      go_ret
      exact ⟨rfl, hb4⟩
    · go_enter Try.func3, Try.ntmps3
      go_wp2_with fail
      rw [fact_text]
      refine (unquote_yes [97, 92] _ (by decide)).mono ?_
      rintro e w1 ⟨rfl, hb1⟩
      go_wp2_with fail
      refine (quote_good s _ hA).mono ?_
      rintro e wq ⟨rfl, hbq'⟩
      have hbq := btw hb1 hbq'
      go_wp2_with fail
      refine (unquote_yes s.data.toList _ hA).mono ?_
      rintro e w2 ⟨rfl, hb2'⟩
      have hb2 := btw hbq hb2'
      rw [ba_eta s]
      go_wp2_with fail
      rw [← HS.out]
      refine (unquote_yes t _ ht).mono ?_
      rintro e w3 ⟨rfl, hb3'⟩
      have hb3 := btw hb2 hb3'
      go_wp2_with fail
      refine (quote_good ⟨t.toArray⟩ _ ht).mono ?_
      rintro e w4 ⟨rfl, hb4'⟩
      have hb4 := btw hb3 hb4'
      go_wp2_with fail
      go_ret
      exact ⟨rfl, hb4⟩
  · have HN : Hid (∀ _, _) := hno
    clear hno
    cases hA : textOk s.data.toList
    · go_enter Try.func3, Try.ntmps3
      go_wp2_with fail
      rw [fact_text]
      refine (unquote_yes [97, 92] _ (by decide)).mono ?_
      rintro e w1 ⟨rfl, hb1⟩
      go_wp2_with fail
      refine (quote_err s _ hm hA).mono ?_
      rintro e w2 ⟨rfl, hb2'⟩
      have hb2 := btw hb1 hb2'
      go_wp2_with fail
      refine (unquote_no s _ (by omega) HN.out).mono ?_
      rintro e w3 ⟨rfl, hb3'⟩
      have hb3 := btw hb2 hb3'
      go_wp2_with fail
      go_ret
      exact ⟨rfl, hb3⟩
    · go_enter Try.func3, Try.ntmps3
      go_wp2_with fail
      rw [fact_text]
      refine (unquote_yes [97, 92] _ (by decide)).mono ?_
      rintro e w1 ⟨rfl, hb1⟩
      go_wp2_with fail
      refine (quote_good s _ hA).mono ?_
      rintro e wq ⟨rfl, hbq'⟩
      have hbq := btw hb1 hbq'
      go_wp2_with fail
      refine (unquote_yes s.data.toList _ hA).mono ?_
      rintro e w2 ⟨rfl, hb2'⟩
      have hb2 := btw hbq hb2'
      rw [ba_eta s]
      go_wp2_with fail
      refine (unquote_no s _ (by omega) HN.out).mono ?_
      rintro e w3 ⟨rfl, hb3'⟩
      have hb3 := btw hb2 hb3'
      go_wp2_with fail
      go_ret
      exact ⟨rfl, hb3⟩

set_option maxRecDepth 100000 in
theorem back_lifted (os : Os) (started : os.Started) (H : Type) (enc : TypeId × Value → H) :
    ReturnsInHanded {} Try.checked os 3 .any (Rows.nameBackSpec.pre6 enc Try.prog Try.f3 Rows.nameBackRow.domain false) (Rows.nameBackSpec.post enc Try.prog Try.f3 false true false false) := by
  refine returnsInHanded_of_change_sized (C := Try.checked) (by kernel_rfl) started (by kernel_rfl) Try.func3
    (ChangeSpec.witness6 (enc := enc) (C := Try.checked) false ⟨#[], #[.string ByteArray.empty], []⟩ 8 (by kernel_rfl) (by kernel_rfl) (by kernel_rfl) (by kernel_rfl)) ?_
  intro W base args ds gs before hval0 hW hcnd0 hsz0 hholds
  have hval : ∀ (j : Nat) t v, Try.f3.params[j]? = some t → args[j]? = some v → Value.okWide Try.prog W .any base t v := hval0
  have hsz : (DataW.weightsEach Try.prog (Try.f3.params.toList ++ Rows.nameBackSpec.plain.varTypes Try.prog) (ds ++ gs)).all (· ≤ reachBytes) = true := hsz0
  have hW' := hW
  obtain ⟨p, q, hA0, hV, rfl, hfz, hnd⟩ := hW
  have hA : DataW.TrodAll enc Try.prog W 0 (fun _ => true) true Try.f3.params.toList args.toList ds p := hA0
  rw [Try.params3] at hA hval hsz
  obtain ⟨v0, vs0, d0, ds0, p0, q0, hargs, rfl, rfl, h0, r0⟩ := trodAll_cons hA
  obtain ⟨rfl, rfl, rfl⟩ := trodAll_nil r0
  obtain rfl : args = #[v0] := by cases args; simp_all
  obtain ⟨rfl, rfl⟩ := trodVars_none hV
  obtain ⟨a0, rfl, rfl, rfl, w0⟩ := open_string Try.underlying9 (hval 0 9 v0 rfl rfl) h0
  have hr := sized_string hsz (j := 0) (t := 9) rfl rfl
  clear hA0 hval0
  simp only [List.append_nil] at hW'
  refine (back_walk a0 W (by simpa [reachBytes] using hr)).mono fun e W' ⟨he, bel⟩ => ?_
  subst he
  exact ⟨_, rfl, _, _, _, [], [], [], hW', trodAll_mk1 (shut_bool Try.underlying4 _), trodAll_cons_mk (shut_string Try.underlying9 w0) trodAll_mk0, rfl, bel.frame _, fun h => by cases h⟩

theorem back_holds : Rows.NameBackSaid :=
  OpenClaim.holds_of_wide 3 Try.f3 rfl rfl rfl rfl rfl rfl rfl ⟨rfl, rfl, rfl, rfl, rfl⟩ rfl rfl rfl rfl rfl (by kernel_rfl) Try.func3 (by kernel_rfl)
    (of_decide_eq_true (by kernel_rfl)) (by unfold Func.isWrapper; rw [if_neg (of_decide_eq_false (by kernel_rfl))]; exact ⟨rfl, rfl⟩)
    (fun os started H enc _ => back_lifted os started H enc)
#print axioms back_holds
end Go.Proofs.Ythjeeppnijehoaa
