/- The document's Behind at records and at every place, and its Fault: by walks of their own texts. -/
import Derived.Test.YtnpneglipogehaaGreatDoorTreeRb
namespace Go.Proofs.YtnpneglipogehaaGreatDoor
open Go.RowKit
set_option linter.unusedVariables false

theorem below_dn {a b : World} {B : Nat} (h : Below B a b) (n : Nat) : Below B a (b.drewN n) := ⟨h.os, h.tape, h.output, h.size, h.block⟩
theorem exOk_seven {y : Nd} (h : y.op = 7) : exOk y = ndOk y := by unfold exOk; rw [if_pos (by omega)]

set_option maxRecDepth 100000 in
set_option maxHeartbeats 4000000 in
theorem behind_rec (f : Nat) (ih : BOk f) (v : List Nd) (p : Option Addr) (c at0 : Nat) (w : World) (hk : at0 < v.length) (hf : v.length - at0 < f + 1) (hv : NL w p v) (hl : v.length ≤ maxLen)
    (hx : exOk v[at0] = true) (h6 : v[at0].op = 6) :
    Calls Tryz.prog 12 #[.slice p v.length c, .int .i64 at0] w fun e w' => e = .returned (.int .i64 (endI v.length (recLoop (pastE f) (prt v[at0]).toNat ⟨#[]⟩ (v.drop (at0 + 1))))) ∧ Below w.heap.size w w' := by
  have HM : Hid (v.length ≤ maxLen) := hl
  unfold maxLen at hl
  have HI : Hid (BOk f) := ih
  clear ih
  obtain ⟨b, off, rfl, hbw, x0, x1, x2, x3, xw⟩ := hv.at hk
  generalize v[at0] = x at *
  have i1 : (at0 : Int) < (v.length : Int) := by omega
  have i2 : ¬ (at0 : Int) < 0 := by omega
  have i3 : ¬ v.length ≤ at0 := by omega
  have HF := fun w => refFields_any x w xw
  rw [hx] at HF
  have HP := fun w => refPrt_any x w
  have e7 : (x.op == 7) = false := by simp; omega
  have e6 : (x.op == 6) = true := by simpa using h6
  have hcn : prt x ≤ 9223372036854775807 := by have := xw.2.2; unfold prt; repeat' split <;> omega
  generalize hR : recLoop (pastE f) (prt x).toNat ⟨#[]⟩ (v.drop (at0 + 1)) = R
  have HR : Hid (_ = _) := hR
  clear hR hx h6
  go_enter Tryz.func12, Tryz.ntmps12
  go_wp2_with fail
  refine (HF _).mono ?_
  rintro e w1 ⟨rfl, hb1⟩
  have y0 := (hb1.cell (p := ⟨b, off + at0 * 4, none⟩) hbw).trans x0
  have y1 := (hb1.cell (p := ⟨b, off + at0 * 4 + 1, none⟩) hbw).trans x1
  have y2 := (hb1.cell (p := ⟨b, off + at0 * 4 + 2, none⟩) hbw).trans x2
  have y3 := (hb1.cell (p := ⟨b, off + at0 * 4 + 3, none⟩) hbw).trans x3
  clear x0 x1 x2 x3 HF
  have hb2 : Below w1.heap.size w1 (w1.alloc (.cells #[.int .i64 x.op, .int .i64 x.n, .string x.s, .string x.t] 28)) := (Below.refl _ _).alloc (Nat.le_refl _) _
  have HW : Hid (∀ w2, w2 = w1.alloc (.cells #[.int .i64 x.op, .int .i64 x.n, .string x.s, .string x.t] 28) → ∀ wr, Below w2.heap.size w2 wr → _) := fun w2 h wr hb => own_cells (x := x) (T := 28) h hb
  go_wp2
  clear y0 y1 y2 y3
  generalize w1.alloc (.cells #[.int .i64 x.op, .int .i64 x.n, .string x.s, .string x.t] 28) = w2 at *
  go_loopw [1, 6, 7] (fun sa sl i wr => ∃ (k fr : Nat) (last : ByteArray), k ≤ (prt x).toNat ∧ i = .int .i64 k ∧ sa = .int .i64 fr ∧ sl = .string last ∧ last.size ≤ 9223372036854775807 ∧ at0 < fr ∧ fr ≤ v.length ∧ Hid (recLoop (pastE f) ((prt x).toNat - k) last (v.drop fr) = R) ∧ Below w2.heap.size w2 wr) (fun _ _ i _ => (prt x).toNat - (intOf i).toNat)
  case atStart => exact ⟨0, at0 + 1, ⟨#[]⟩, Nat.zero_le _, rfl, by go_num, rfl, Nat.zero_le _, by omega, by omega, HR, Below.refl _ _⟩
  case round =>
    obtain ⟨k, fr, last, hkk, rfl, rfl, rfl, hls, h01, hfr, HS, hb⟩ := hrel
    obtain ⟨z0, z1, z2, z3, hzl⟩ := HW.out w2 rfl wr hb
    have hb3 : Below w.heap.size w wr := hb1.trans ((hb2.trans (hb.mono hb2.size)).mono hb1.size)
    have hvr := hv.up hb3
    have hbr : b < wr.heap.size := Nat.lt_of_lt_of_le hbw hb3.size
    by_cases hlt : (k : Int) < prt x
    · have hkn : k < (prt x).toNat := by omega
      by_cases halt : fr < v.length
      · have hdr : v.drop fr = v[fr] :: v.drop (fr + 1) := List.drop_eq_getElem_cons halt
        obtain ⟨b', off', hpe, _, q0, q1, q2, q3, yw⟩ := hvr.at halt
        obtain ⟨rfl, rfl⟩ : b = b' ∧ off = off' := by simpa using hpe
        rw [hdr] at HS
        clear hdr hpe
        generalize v[fr] = y at *
        have j1 : (fr : Int) < (v.length : Int) := by omega
        have j2 : ¬ v.length ≤ fr := by omega
        by_cases h7 : y.op = 7
        · have f7 : (y.op != 7) = false := by simpa using h7
          have HFy := fun w => refFields_any y w yw
          rw [exOk_seven h7] at HFy
          cases hok : ndOk y
          · rw [hok] at HFy
            have HN : Hid (none = R) := by rw [← HS.out, recB_bad hkn (fun h => by rw [h.2.1] at hok; cases hok)]; rfl
            clear HS HR hok h7
            generalize prt x = pr at *
            go_wp2_with fail
            refine (HP _).mono ?_
            rintro e w4 ⟨rfl, hb4⟩
            have u0 := (hb4.cell (p := ⟨w1.heap.size, 0, none⟩) hzl).trans z0
            have r0 := (hb4.cell (p := ⟨b, off + fr * 4, none⟩) hbr).trans q0
            have r1 := (hb4.cell (p := ⟨b, off + fr * 4 + 1, none⟩) hbr).trans q1
            have r2 := (hb4.cell (p := ⟨b, off + fr * 4 + 2, none⟩) hbr).trans q2
            have r3 := (hb4.cell (p := ⟨b, off + fr * 4 + 3, none⟩) hbr).trans q3
            clear z0 z1 z2 z3 q0 q1 q2 q3
            go_wp2_with fail
            refine (HFy _).mono ?_
            rintro e w5 ⟨rfl, hb5⟩
            have hb6 := hb4.trans (hb5.mono hb4.size)
            go_wp2
            go_ret
            exact ⟨by rw [← HN.out]; rfl, hb3.trans (hb6.mono hb3.size)⟩
          · rw [hok] at HFy
            have HC := fun w => textC_any last y.s w (by unfold maxLen; omega) yw.1
            by_cases hcmp : cmpB last y.s < 0
            · have HN := (recB_go (pv := pastE f) (r := v.drop (fr + 1)) hkn ⟨h7, hok, hcmp⟩).symm.trans HS.out
              have hcl := fun w4 (hb4 : Below wr.heap.size wr w4) => HI.out v (some ⟨b, off, none⟩) c (fr + 1) w4 (by omega) (by omega) (hvr.up hb4) HM.out
              rw [show ((fr + 1 : Nat) : Int) = (fr : Int) + 1 by omega] at hcl
              have hc0 : ¬ 0 ≤ cmpB last y.s := by omega
              have hys : y.s.size ≤ 9223372036854775807 := by have := yw.1; unfold maxLen at this; omega
              clear HS HR hok h7 hcmp
              generalize cmpB last y.s = cp at *
              cases hp : pastE f (v.drop (fr + 1)) with
              | none =>
                rw [hp] at hcl HN
                have HN2 : Hid (none = R) := HN
                clear hp HN
                unfold endI at hcl
                simp only [] at hcl
                generalize prt x = pr at *
                go_wp2_with fail
                refine (HP _).mono ?_
                rintro e w4 ⟨rfl, hb4⟩
                have u0 := (hb4.cell (p := ⟨w1.heap.size, 0, none⟩) hzl).trans z0
                have r0 := (hb4.cell (p := ⟨b, off + fr * 4, none⟩) hbr).trans q0
                have r1 := (hb4.cell (p := ⟨b, off + fr * 4 + 1, none⟩) hbr).trans q1
                have r2 := (hb4.cell (p := ⟨b, off + fr * 4 + 2, none⟩) hbr).trans q2
                have r3 := (hb4.cell (p := ⟨b, off + fr * 4 + 3, none⟩) hbr).trans q3
                clear z0 z1 z2 z3 q0 q1 q2 q3
                go_wp2_with fail
                refine (HFy _).mono ?_
                rintro e w5 ⟨rfl, hb5⟩
                have hb6 := hb4.trans (hb5.mono hb4.size)
                have s2 := (hb5.cell (p := ⟨b, off + fr * 4 + 2, none⟩) (Nat.lt_of_lt_of_le hbr hb4.size)).trans r2
                clear r0 r1 r2 r3
                go_wp2_with fail
                refine (HC _).mono ?_
                rintro e w6 ⟨rfl, n6, rfl⟩
                have hb7 := below_dn hb6 n6
                have hc1 := hcl _ hb7
                clear hcl
                go_wp2_with fail
                refine hc1.mono ?_
                rintro e w7 ⟨rfl, hb8⟩
                have hb9 := hb7.trans (hb8.mono hb7.size)
                go_wp2
                go_ret
                exact ⟨by rw [← HN2.out]; rfl, hb3.trans (hb9.mono hb3.size)⟩
              | some rest =>
                rw [hp] at hcl HN
                obtain ⟨hsh, htl⟩ := pastE_shorter hp
                have hsh2 : rest.length < v.length - (fr + 1) := by simpa using hsh
                rw [endI_some (by omega)] at hcl
                have HN2 : Hid (recLoop (pastE f) ((prt x).toNat - (k + 1)) y.s (v.drop (v.length - rest.length)) = R) := by rw [dropB htl]; exact HN
                clear hp HN hsh htl
                generalize hen : v.length - rest.length = en at *
                have hen1 : fr < en := by omega
                have hen2 : en ≤ v.length := by omega
                have hen3 : ¬ (en : Int) < 0 := by omega
                clear hen hsh2
                generalize prt x = pr at *
                go_wp2_with fail
                refine (HP _).mono ?_
                rintro e w4 ⟨rfl, hb4⟩
                have u0 := (hb4.cell (p := ⟨w1.heap.size, 0, none⟩) hzl).trans z0
                have r0 := (hb4.cell (p := ⟨b, off + fr * 4, none⟩) hbr).trans q0
                have r1 := (hb4.cell (p := ⟨b, off + fr * 4 + 1, none⟩) hbr).trans q1
                have r2 := (hb4.cell (p := ⟨b, off + fr * 4 + 2, none⟩) hbr).trans q2
                have r3 := (hb4.cell (p := ⟨b, off + fr * 4 + 3, none⟩) hbr).trans q3
                clear z0 z1 z2 z3 q0 q1 q2 q3
                go_wp2_with fail
                refine (HFy _).mono ?_
                rintro e w5 ⟨rfl, hb5⟩
                have hb6 := hb4.trans (hb5.mono hb4.size)
                have s2 := (hb5.cell (p := ⟨b, off + fr * 4 + 2, none⟩) (Nat.lt_of_lt_of_le hbr hb4.size)).trans r2
                clear r0 r1 r2 r3
                go_wp2_with fail
                refine (HC _).mono ?_
                rintro e w6 ⟨rfl, n6, rfl⟩
                have hb7 := below_dn hb6 n6
                have hc1 := hcl _ hb7
                clear hcl
                go_wp2_with fail
                refine hc1.mono ?_
                rintro e w7 ⟨rfl, hb8⟩
                have hb9 := hb7.trans (hb8.mono hb7.size)
                go_wp2
                go_roundw
                case rel => exact ⟨k + 1, en, y.s, by omega, by go_num, rfl, rfl, hys, by omega, hen2, HN2, hb.trans (hb9.mono hb.size)⟩
                case measure => simp [intOf]; omega
            · have HN : Hid (none = R) := by rw [← HS.out, recB_bad hkn (fun h => hcmp h.2.2)]; rfl
              have hc0 : 0 ≤ cmpB last y.s := by omega
              clear HS HR hok h7 hcmp
              generalize cmpB last y.s = cp at *
              generalize prt x = pr at *
              go_wp2_with fail
              refine (HP _).mono ?_
              rintro e w4 ⟨rfl, hb4⟩
              have u0 := (hb4.cell (p := ⟨w1.heap.size, 0, none⟩) hzl).trans z0
              have r0 := (hb4.cell (p := ⟨b, off + fr * 4, none⟩) hbr).trans q0
              have r1 := (hb4.cell (p := ⟨b, off + fr * 4 + 1, none⟩) hbr).trans q1
              have r2 := (hb4.cell (p := ⟨b, off + fr * 4 + 2, none⟩) hbr).trans q2
              have r3 := (hb4.cell (p := ⟨b, off + fr * 4 + 3, none⟩) hbr).trans q3
              clear z0 z1 z2 z3 q0 q1 q2 q3
              go_wp2_with fail
              refine (HFy _).mono ?_
              rintro e w5 ⟨rfl, hb5⟩
              have hb6 := hb4.trans (hb5.mono hb4.size)
              have s2 := (hb5.cell (p := ⟨b, off + fr * 4 + 2, none⟩) (Nat.lt_of_lt_of_le hbr hb4.size)).trans r2
              clear r0 r1 r2 r3
              go_wp2_with fail
              refine (HC _).mono ?_
              rintro e w6 ⟨rfl, n6, rfl⟩
              have hb7 := below_dn hb6 n6
              go_wp2
              go_ret
              exact ⟨by rw [← HN.out]; rfl, hb3.trans (hb7.mono hb3.size)⟩
        · have f7 : (y.op != 7) = true := by simpa using h7
          have HN : Hid (none = R) := by rw [← HS.out, recB_bad hkn (fun h => h7 h.1)]; rfl
          clear HS HR h7
          generalize prt x = pr at *
          go_wp2_with fail
          refine (HP _).mono ?_
          rintro e w4 ⟨rfl, hb4⟩
          have u0 := (hb4.cell (p := ⟨w1.heap.size, 0, none⟩) hzl).trans z0
          have r0 := (hb4.cell (p := ⟨b, off + fr * 4, none⟩) hbr).trans q0
          clear z0 z1 z2 z3 q0 q1 q2 q3
          go_wp2
          go_ret
          exact ⟨by rw [← HN.out]; rfl, hb3.trans (hb4.mono hb3.size)⟩
      · have j1 : (v.length : Int) ≤ (fr : Int) := by omega
        have HN : Hid (none = R) := by
          have := HS.out
          rw [List.drop_of_length_le (by omega), recB_nil hkn] at this
          exact this
        clear HS HR
        generalize prt x = pr at *
        go_wp2_with fail
        refine (HP _).mono ?_
        rintro e w4 ⟨rfl, hb4⟩
        have u0 := (hb4.cell (p := ⟨w1.heap.size, 0, none⟩) hzl).trans z0
        go_wp2
        go_ret
        exact ⟨by rw [← HN.out]; rfl, hb3.trans (hb4.mono hb3.size)⟩
    · have HN : Hid (some (v.drop fr) = R) := by
        have := HS.out
        rw [show (prt x).toNat - k = 0 by omega] at this
        exact this
      have HE : Hid (_ = _) := endI_drop (v := v) hfr
      clear HS HR
      generalize prt x = pr at *
      go_wp2_with fail
      refine (HP _).mono ?_
      rintro e w4 ⟨rfl, hb4⟩
      go_wp2
      go_ret
      exact ⟨by rw [← HN.out, HE.out]; rfl, hb3.trans (hb4.mono hb3.size)⟩

set_option maxRecDepth 100000 in
set_option maxHeartbeats 1000000 in
theorem behind_step (f : Nat) (ih : BOk f) : BOk (f + 1) := by
  intro v p c at_ w hat hf hv hl
  by_cases halt : at_ < v.length
  · have hdr : v.drop at_ = v[at_] :: v.drop (at_ + 1) := List.drop_eq_getElem_cons halt
    rw [hdr]
    by_cases hok : v[at_].op ≠ 7 ∧ exOk v[at_] = true
    · by_cases h6 : v[at_].op = 6
      · rw [pastE_rec hok.1 hok.2 h6]
        have := behind_rec f ih v p c at_ w halt hf hv hl hok.2 h6
        rw [show prt v[at_] = v[at_].n by unfold prt; rw [if_pos (.inr h6)]] at this
        exact this
      · rw [pastE_parts hok.1 hok.2 h6]
        exact behind_parts f ih v p c at_ w halt hf hv hl hok.1 hok.2 h6
    · rw [pastE_bad hok]
      have HO : Hid (¬ (v[at_].op ≠ 7 ∧ exOk v[at_] = true)) := hok
      clear hdr hok
      unfold maxLen at hl
      obtain ⟨b, off, rfl, hbw, x0, x1, x2, x3, xw⟩ := hv.at halt
      generalize v[at_] = x at *
      have i1 : (at_ : Int) < (v.length : Int) := by omega
      have i2 : ¬ (at_ : Int) < 0 := by omega
      have i3 : ¬ v.length ≤ at_ := by omega
      have HF := fun w => refFields_any x w xw
      cases hx : exOk x
      · rw [hx] at HF
        clear HO hx
        go_enter Tryz.func12, Tryz.ntmps12
        go_wp2_with fail
        refine (HF _).mono ?_
        rintro e w1 ⟨rfl, hb1⟩
        go_wp2
        go_ret
        exact ⟨rfl, hb1⟩
      · rw [hx] at HF
        have h7 : x.op = 7 := Decidable.byContradiction fun h => HO.out ⟨h, hx⟩
        have e7 : (x.op == 7) = true := by simpa using h7
        clear HO hx h7
        go_enter Tryz.func12, Tryz.ntmps12
        go_wp2_with fail
        refine (HF _).mono ?_
        rintro e w1 ⟨rfl, hb1⟩
        have y0 := (hb1.cell (p := ⟨b, off + at_ * 4, none⟩) hbw).trans x0
        clear x0 x1 x2 x3
        go_wp2
        go_ret
        exact ⟨rfl, hb1⟩
  · rw [List.drop_of_length_le (by omega), pastE_nil]
    have i1 : (v.length : Int) ≤ (at_ : Int) := by omega
    have i2 : ¬ (at_ : Int) < 0 := by omega
    go_enter Tryz.func12, Tryz.ntmps12
    go_wp2
    go_ret
    exact ⟨rfl, Below.refl _ _⟩
theorem behind_any : ∀ f, BOk f
  | 0 => fun v p c at_ w _ h => absurd h (by omega)
  | f + 1 => behind_step f (behind_any f)

theorem refFault_any (v : List Nd) (p : Option Addr) (c : Nat) (w : World) (hv : NL w p v) (hl : v.length ≤ maxLen) :
    Calls Tryz.prog 6 #[.slice p v.length c] w fun e w' => e = .returned (.int .i64 (xfault v)) ∧ Below w.heap.size w w' := by
  by_cases h : 200 < v.length
  · have HF : Hid (_ = _) := xfault_long h
    have h' : (200 : Int) < (v.length : Int) := by omega
    go_enter Tryz.func6, Tryz.ntmps6
    go_wp2
    go_ret
    exact ⟨by rw [HF.out]; rfl, Below.refl _ _⟩
  · have h' : ¬ (200 : Int) < (v.length : Int) := by omega
    have hc := behind_any (v.length + 1) v p c 0 w (Nat.zero_le _) (by omega) hv hl
    rw [List.drop_zero] at hc
    cases hx : isEx v
    · have HF : Hid (_ = _) := xfault_bad h hx
      generalize hen : endI v.length (pastE (v.length + 1) v) = en at *
      have hne : (en != (v.length : Int)) = true := by
        rw [← hen]
        unfold isEx at hx
        cases hp : pastE (v.length + 1) v with
        | none => simp [endI]
        | some r =>
          rw [hp] at hx
          have hsh := (pastE_shorter hp).1
          cases r with
          | nil => cases hx
          | cons y r => simp [endI] at hsh ⊢; omega
      clear hen hx h
      go_enter Tryz.func6, Tryz.ntmps6
      go_wp2_with fail
      refine hc.mono ?_
      rintro e w1 ⟨rfl, hb⟩
      go_wp2
      go_ret
      exact ⟨by rw [HF.out]; rfl, hb⟩
    · have HF : Hid (_ = _) := xfault_ok h hx
      rw [(isEx_iff v).1 hx] at hc
      have hen : endI v.length (some []) = (v.length : Int) := by simp [endI]
      rw [hen] at hc
      clear hx h hen
      go_enter Tryz.func6, Tryz.ntmps6
      go_wp2_with fail
      refine hc.mono ?_
      rintro e w1 ⟨rfl, hb⟩
      go_wp2
      go_ret
      exact ⟨by rw [HF.out]; rfl, hb⟩
end Go.Proofs.YtnpneglipogehaaGreatDoor
