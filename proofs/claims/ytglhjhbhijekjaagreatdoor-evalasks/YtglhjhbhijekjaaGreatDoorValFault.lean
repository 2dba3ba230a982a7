/- The document's ValueEnd at every place, ValueFault and Faults: what they return, by walks of their own texts. -/
import Derived.Test.YtglhjhbhijekjaaGreatDoorValEnd
namespace Go.Proofs.YtglhjhbhijekjaaGreatDoor
open Go.RowKit
set_option linter.unusedVariables false

theorem ok_count {x : Nd} (h : ndOk x = true) (h5 : x.op = 5 ∨ x.op = 6) : 0 ≤ x.n := by
  unfold ndOk at h
  rcases h5 with e | e <;> simp [e] at h <;> exact h.2

set_option maxRecDepth 100000 in
set_option maxHeartbeats 4000000 in
theorem valueEnd_step (f : Nat) (ih : EndOk f) : EndOk (f + 1) := by
  intro v b off c at_ field w hat hf hv hbw hc hcm
  by_cases halt : at_ < v.length
  · have hdr : v.drop at_ = v[at_] :: v.drop (at_ + 1) := List.drop_eq_getElem_cons halt
    obtain ⟨b', o', hpe, _, x0, x1, x2, x3, xw⟩ := hv.at halt
    obtain ⟨rfl, rfl⟩ : b = b' ∧ off = o' := by simpa using hpe
    have hlr : (v.drop (at_ + 1)).length = v.length - (at_ + 1) := by simp
    generalize v[at_] = x at *
    generalize hr : v.drop (at_ + 1) = r at *
    have HRD : Hid (_ = _) := hr
    have i1 : (at_ : Int) < (v.length : Int) := by omega
    have HN := fun w => valueNode_any x w xw
    clear hpe
    by_cases h7 : (x.op == 7) = field
    · cases hx : ndOk x
      · rw [hdr, pastF_bad hx]
        rw [hx] at HN
        have HM : Hid (c ≤ maxLen) := hcm
        unfold maxLen at hcm
        clear hdr hr
        go_enter Tryz.func43, Tryz.ntmps43
        go_wp2_with fail
        refine (HN _).mono ?_
        rintro e w1 ⟨rfl, hb1⟩
        go_wp2
        go_ret
        exact ⟨rfl, (node_cells hb1).2.2.1⟩
      · cases field with
        | true =>
          have h7' : x.op = 7 := by simpa using h7
          rw [hdr, pastF_field h7' hx, pastV_fuel (f + 1) f r (by omega) (by omega)]
          rw [hx] at HN
          have HE : Hid (EndOk f) := ih
          have HM : Hid (c ≤ maxLen) := hcm
          have h70 : (x.op == 7) = true := by simpa using h7'
          unfold maxLen at hcm
          clear hdr hr h7' h7 ih
          go_enter Tryz.func43, Tryz.ntmps43
          go_wp2_with fail
          refine (HN _).mono ?_
          rintro e w1 ⟨rfl, hb1⟩
          obtain ⟨z0, z1, hbw1, hnb⟩ := node_cells hb1
          clear hb1
          have hcall := HE.out v b off c (at_ + 1) false w1 (by omega) (by omega) (hv.up hbw1) (Nat.lt_of_lt_of_le hbw hbw1.size) hc HM.out
          rw [HRD.out, pastF_value, show ((at_ + 1 : Nat) : Int) = (at_ : Int) + 1 by omega] at hcall
          go_wp2_with fail
          refine hcall.mono ?_
          rintro e w2 ⟨rfl, hb2⟩
          go_wp2
          go_ret
          exact ⟨rfl, hbw1.trans (hb2.mono hbw1.size)⟩
        | false =>
          have h7' : ¬ x.op = 7 := by simpa using h7
          have hpv : pastF (f + 1) false (v.drop at_) = if x.op = 5 then setLoop (pastV f) x.n.toNat none r else if x.op = 6 then recLoop (pastV f) x.n.toNat ⟨#[]⟩ r else some r := by
            rw [pastF_value, hdr]; simp only [pastV]; rw [if_pos ⟨h7', hx⟩]
          rw [hpv]
          by_cases h5 : x.op = 5
          · rw [if_pos h5]
            exact valueEnd_set f ih v b off c at_ x r w hdr hf hv hbw hc hcm h5 hx (ok_count hx (.inl h5)) xw.2.2
          · rw [if_neg h5]
            by_cases h6 : x.op = 6
            · rw [if_pos h6]
              exact valueEnd_rec f ih v b off c at_ x r w hdr hf hv hbw hc hcm h6 hx (ok_count hx (.inr h6)) xw.2.2
            · rw [if_neg h6, endI_cons hdr]
              rw [hx] at HN
              have e5 : (x.op != 5) = true := by simpa using h5
              have e6 : (x.op != 6) = true := by simpa using h6
              have HM : Hid (c ≤ maxLen) := hcm
              unfold maxLen at hcm
              clear hdr hr h5 h6 h7' hpv
              go_enter Tryz.func43, Tryz.ntmps43
              go_wp2_with fail
              refine (HN _).mono ?_
              rintro e w1 ⟨rfl, hb1⟩
              obtain ⟨z0, z1, hbw1, hnb⟩ := node_cells hb1
              clear hb1
              go_wp2
              go_ret
              exact ⟨rfl, hbw1⟩
    · rw [hdr, pastF_other h7]
      have HM : Hid (c ≤ maxLen) := hcm
      unfold maxLen at hcm
      clear hdr hr
      cases hx : ndOk x <;> rw [hx] at HN
      · go_enter Tryz.func43, Tryz.ntmps43
        go_wp2_with fail
        refine (HN _).mono ?_
        rintro e w1 ⟨rfl, hb1⟩
        go_wp2
        go_ret
        exact ⟨rfl, (node_cells hb1).2.2.1⟩
      · cases h70 : (x.op == 7) <;> cases field
        · exact absurd h70 h7
        · clear h7
          go_enter Tryz.func43, Tryz.ntmps43
          go_wp2_with fail
          refine (HN _).mono ?_
          rintro e w1 ⟨rfl, hb1⟩
          obtain ⟨z0, z1, hbw1, hnb⟩ := node_cells hb1
          clear hb1
          go_wp2
          go_ret
          exact ⟨rfl, hbw1⟩
        · clear h7
          go_enter Tryz.func43, Tryz.ntmps43
          go_wp2_with fail
          refine (HN _).mono ?_
          rintro e w1 ⟨rfl, hb1⟩
          obtain ⟨z0, z1, hbw1, hnb⟩ := node_cells hb1
          clear hb1
          go_wp2
          go_ret
          exact ⟨rfl, hbw1⟩
        · exact absurd h70 h7
  · obtain rfl : at_ = v.length := by omega
    refine (valueEnd_past (some ⟨b, off, none⟩) v.length c field w (Nat.le_trans hc hcm)).mono ?_
    rintro e w' ⟨rfl, rfl⟩
    refine ⟨?_, Below.refl _ _⟩
    rw [List.drop_length]
    cases field <;> rfl
theorem valueEnd_any : ∀ f, EndOk f
  | 0 => fun v b off c at_ field w h1 h2 => absurd h2 (by omega)
  | f + 1 => valueEnd_step f (valueEnd_any f)

theorem endI_all {v : List Nd} : (endI v.length (pastV (v.length + 1) v) != (v.length : Int)) = !isVal v := by
  unfold isVal
  cases h : pastV (v.length + 1) v with
  | none => simp [endI] <;> omega
  | some r =>
    have := (pastV_shorter h).1
    cases r with
    | nil => simp [endI]
    | cons y r => simp [endI] <;> omega

theorem valueFault_any (v : List Nd) (p : Option Addr) (c : Nat) (w : World) (hv : NL w p v) (hc : v.length ≤ c) (hcm : c ≤ maxLen) :
    Calls Tryz.prog 26 #[.slice p v.length c] w fun e w' => e = .returned (.int .i64 (vfault v)) ∧ Below w.heap.size w w' := by
  by_cases h : 200 < v.length
  · have HF : Hid (vfault v = 4) := by show _ = _; unfold vfault; rw [if_pos h]
    have h' : (200 : Int) < (v.length : Int) := by omega
    go_enter Tryz.func26, Tryz.ntmps26
    go_wp2
    go_ret
    exact ⟨ret_n HF.out.symm, Below.refl _ _⟩
  · have HF : Hid (vfault v = if isVal v then 0 else 1) := by show _ = _; unfold vfault; rw [if_neg h]
    have h' : ¬ (200 : Int) < (v.length : Int) := by omega
    have hend : Calls Tryz.prog 43 #[.slice p v.length c, .int .i64 0, .bool false] w fun e w' => e = .returned (.int .i64 (endI v.length (pastV (v.length + 1) v))) ∧ Below w.heap.size w w' := by
      cases v with
      | nil =>
        refine (valueEnd_past p 0 c false w (Nat.zero_le _)).mono ?_
        rintro e w' ⟨rfl, rfl⟩
        exact ⟨rfl, Below.refl _ _⟩
      | cons x r =>
        rcases hv with hv | ⟨b, off, rfl, hbw, hh⟩
        · cases hv
        · exact valueEnd_any ((x :: r).length + 1) (x :: r) b off c 0 false w (Nat.zero_le _) (by simp) (.inr ⟨b, off, rfl, hbw, hh⟩) hbw hc hcm
    have he := endI_all (v := v)
    generalize endI v.length (pastV (v.length + 1) v) = z at hend he
    cases hi : isVal v <;> rw [hi] at he HF <;> simp only [Bool.not_false, Bool.not_true] at he
    all_goals
      go_enter Tryz.func26, Tryz.ntmps26
      go_wp2_with fail
      refine hend.mono ?_
      rintro e w1 ⟨rfl, hb⟩
      go_wp2
      go_ret
      exact ⟨ret_n (by rw [HF.out]; rfl), hb⟩
end Go.Proofs.YtglhjhbhijekjaaGreatDoor
