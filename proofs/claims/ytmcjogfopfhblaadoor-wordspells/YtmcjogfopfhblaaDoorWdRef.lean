/- The document's isLetter, isDigit, run, begins, quoted (package wicketgateref2): by walks of their own texts. -/
import Derived.Test.YtmcjogfopfhblaaDoorWordF
namespace Go.Proofs.YtmcjogfopfhblaaDoor
open Go.RowKit
set_option linter.unusedVariables false

theorem r2Letter_any (c : UInt8) (w : World) :
    Calls Tryd.prog 26 #[.int .u8 (c.toNat : Int)] w fun e w' => e = .returned (.bool (letb c)) ∧ w' = w := by
  go_enter Tryd.func26, Tryd.ntmps26
  go_wp2
  all_goals
    go_ret
    refine ⟨ret_bool ?_, rfl⟩
    rw [Bool.eq_iff_iff]
    simp [letb]
    omega
theorem r2Digit_any (c : UInt8) (w : World) :
    Calls Tryd.prog 24 #[.int .u8 (c.toNat : Int)] w fun e w' => e = .returned (.bool (digb c)) ∧ w' = w := by
  go_enter Tryd.func24, Tryd.ntmps24
  go_wp2
  all_goals
    go_ret
    refine ⟨ret_bool ?_, rfl⟩
    rw [Bool.eq_iff_iff]
    simp [digb]
    omega

theorem runL_yes {p : UInt8 → Bool} {c : UInt8} (h : p c = true) (r : List UInt8) : runL p (c :: r) = runL p r + 1 := by
  unfold runL; rw [List.takeWhile_cons, if_pos h]; rfl
theorem runL_no {p : UInt8 → Bool} {c : UInt8} (h : p c = false) (r : List UInt8) : runL p (c :: r) = 0 := by
  unfold runL; rw [List.takeWhile_cons, if_neg (by rw [h]; decide)]; rfl
theorem runL_nil {p : UInt8 → Bool} : runL p [] = 0 := rfl

/-- The set that run goes by. -/
def setOf (dg : Bool) : UInt8 → Bool := if dg then digb else namb
set_option maxHeartbeats 1000000 in
theorem refRun_any (s : ByteArray) (k : Nat) (dg : Bool) (w : World) (hk : k ≤ s.size) (hs : s.size ≤ maxLen) :
    Calls Tryd.prog 25 #[.string s, .int .i64 k, .bool dg] w fun e w' => e = .returned (.int .i64 ((k + runL (setOf dg) (s.data.toList.drop k) : Nat) : Int)) ∧ w' = w := by
  unfold maxLen at hs
  generalize hR : k + runL (setOf dg) (s.data.toList.drop k) = R
  have HR : Hid (k + runL (setOf dg) (s.data.toList.drop k) = R) := hR
  clear hR
  cases dg
  all_goals
    go_enter Tryd.func25, Tryd.ntmps25
    go_wp2
  · go_loop [1] (fun i => ∃ j : Nat, j ≤ s.size ∧ i = .int .i64 j ∧ Hid (j + runL (setOf false) (s.data.toList.drop j) = R)) (fun i => s.size - (intOf i).toNat)
    case atStart => exact ⟨k, hk, rfl, HR⟩
    case round =>
      clear HR hk
      obtain ⟨j, hj, rfl, HR⟩ := hrel
      by_cases hlt : j < s.size
      · have i1 : (j : Int) < (s.size : Int) := by omega
        have HD : Hid (_ = _) := drop_at s j hlt
        cases hd : digb s[j] <;> cases hl : letb s[j]
        · have HN : Hid (R = j) := by
            have := HR.out
            rw [HD.out, runL_no (by show namb _ = _; unfold namb; rw [hd, hl]; rfl)] at this
            exact this.symm
          go_wp2_with (first | (go_at_call 26; refine (r2Letter_any _ _).mono ?_; rintro e w' ⟨rfl, rfl⟩; rw [hl]) | (go_at_call 24; refine (r2Digit_any _ _).mono ?_; rintro e w' ⟨rfl, rfl⟩; rw [hd]))
          go_ret
          exact ⟨by rw [HN.out]; rfl, rfl⟩
        all_goals
          have HN : Hid (j + 1 + runL (setOf false) (s.data.toList.drop (j + 1)) = R) := by
            have := HR.out
            rw [HD.out, runL_yes (by show namb _ = _; unfold namb; rw [hd, hl]; rfl)] at this
            show _ = _
            omega
          go_wp2_with (first | (go_at_call 26; refine (r2Letter_any _ _).mono ?_; rintro e w' ⟨rfl, rfl⟩; rw [hl]) | (go_at_call 24; refine (r2Digit_any _ _).mono ?_; rintro e w' ⟨rfl, rfl⟩; rw [hd]))
          go_round
          case rel => exact ⟨j + 1, by omega, by go_num, HN⟩
          case measure => simp [intOf]; omega
      · obtain rfl : j = s.size := by omega
        have i1 : ¬ (s.size : Int) < (s.size : Int) := by omega
        have HN : Hid (R = s.size) := by
          have := HR.out
          rw [List.drop_of_length_le (by simp), runL_nil] at this
          exact this.symm
        go_wp2
        go_ret
        exact ⟨by rw [HN.out]; rfl, rfl⟩
  · go_loop [1] (fun i => ∃ j : Nat, j ≤ s.size ∧ i = .int .i64 j ∧ Hid (j + runL (setOf true) (s.data.toList.drop j) = R)) (fun i => s.size - (intOf i).toNat)
    case atStart => exact ⟨k, hk, rfl, HR⟩
    case round =>
      clear HR hk
      obtain ⟨j, hj, rfl, HR⟩ := hrel
      by_cases hlt : j < s.size
      · have i1 : (j : Int) < (s.size : Int) := by omega
        have HD : Hid (_ = _) := drop_at s j hlt
        cases hd : digb s[j]
        · have HN : Hid (R = j) := by
            have := HR.out
            rw [HD.out, runL_no (show setOf true _ = _ from hd)] at this
            exact this.symm
          go_wp2_with (go_at_call 24; refine (r2Digit_any _ _).mono ?_; rintro e w' ⟨rfl, rfl⟩; rw [hd])
          go_ret
          exact ⟨by rw [HN.out]; rfl, rfl⟩
        · have HN : Hid (j + 1 + runL (setOf true) (s.data.toList.drop (j + 1)) = R) := by
            have := HR.out
            rw [HD.out, runL_yes (show setOf true _ = _ from hd)] at this
            show _ = _
            omega
          go_wp2_with (go_at_call 24; refine (r2Digit_any _ _).mono ?_; rintro e w' ⟨rfl, rfl⟩; rw [hd])
          go_round
          case rel => exact ⟨j + 1, by omega, by go_num, HN⟩
          case measure => simp [intOf]; omega
      · obtain rfl : j = s.size := by omega
        have i1 : ¬ (s.size : Int) < (s.size : Int) := by omega
        have HN : Hid (R = s.size) := by
          have := HR.out
          rw [List.drop_of_length_le (by simp), runL_nil] at this
          exact this.symm
        go_wp2
        go_ret
        exact ⟨by rw [HN.out]; rfl, rfl⟩

/-- Does a list begin so? -/
def bgn (x l : List UInt8) : Bool := x == l.take x.length
theorem bgn_short {x l : List UInt8} (h : l.length < x.length) : bgn x l = false := by
  unfold bgn
  cases e : (x == l.take x.length) with
  | false => rfl
  | true =>
    have := congrArg List.length (beq_iff_eq.1 e)
    rw [List.length_take] at this
    omega

set_option maxHeartbeats 1000000 in
theorem begins_any (s x : ByteArray) (k : Nat) (w : World) (hk : k ≤ s.size) (hs : s.size ≤ maxLen) (hx : x.size ≤ 1000) :
    Calls Tryd.prog 29 #[.string s, .int .i64 k, .string x] w fun e w' => e = .returned (.bool (bgn x.data.toList (s.data.toList.drop k))) ∧ ∃ n, w' = w.drewN n := by
  unfold maxLen at hs
  have hl : s.data.toList.length = s.size := by simp
  have hxl : x.data.toList.length = x.size := by simp
  by_cases h0 : s.size - k < x.size
  · have HB : Hid (bgn x.data.toList (s.data.toList.drop k) = false) := bgn_short (by rw [List.length_drop]; omega)
    have i1 : (s.size : Int) - (k : Int) < (x.size : Int) := by omega
    go_enter Tryd.func29, Tryd.ntmps29
    go_wp2
    go_ret
    exact ⟨by rw [HB.out]; rfl, 0, rfl⟩
  · have i1 : ¬ (s.size : Int) - (k : Int) < (x.size : Int) := by omega
    go_enter Tryd.func29, Tryd.ntmps29
    go_wp2
    go_loopw [7] (fun i wr => ∃ j n : Nat, j ≤ x.size ∧ i = .int .i64 j ∧ wr = w.drewN n ∧ Hid (x.data.toList.take j = (s.data.toList.drop k).take j)) (fun i _ => x.size - (intOf i).toNat)
    case atStart => exact ⟨0, 0, Nat.zero_le _, rfl, rfl, rfl⟩
    case round =>
      obtain ⟨j, n, hj, rfl, rfl, HE⟩ := hrel
      by_cases hlt : j < x.size
      · have i2 : (j : Int) < (x.size : Int) := by omega
        have i3 : (k : Int) + (j : Int) < (s.size : Int) := by omega
        have hkj : k + j < s.size := by omega
        have hkj2 : ((k : Int) + (j : Int)).toNat < s.size := by omega
        have hwr : IntKind.i64.wrap ((k : Int) + (j : Int)) = (k : Int) + (j : Int) := IntWalk.i64_in _ (by omega)
        have i4 : (0 : Int) ≤ (k : Int) + (j : Int) := by omega
        have HX : Hid (x.data.toList.take (j + 1) = x.data.toList.take j ++ [x[j]]) := take_snoc x j hlt
        have HS : Hid ((s.data.toList.drop k).take (j + 1) = (s.data.toList.drop k).take j ++ [s[k + j]]) := by
          show _ = _
          rw [List.take_succ_eq_append_getElem (by rw [List.length_drop]; omega), List.getElem_drop]; rfl
        by_cases he : s[k + j] = x[j]
        · have HE2 : Hid (x.data.toList.take (j + 1) = (s.data.toList.drop k).take (j + 1)) := by
            show _ = _; rw [HX.out, HS.out, HE.out, he]
          have he' : (((s[((k : Int) + (j : Int)).toNat]'hkj2).toNat : Int) != (x[j].toNat : Int)) = false := by
            have htn : ((k : Int) + (j : Int)).toNat = k + j := by omega
            simp only [htn, he]; simp
          clear he HX HS HE
          go_wp2
          go_quiet (fail)
          go_wp2
          go_roundw
          case rel => exact ⟨j + 1, _, by omega, by go_num, rfl, HE2⟩
          case measure => simp [intOf]; omega
        · have HB : Hid (bgn x.data.toList (s.data.toList.drop k) = false) := by
            show _ = _
            unfold bgn
            cases e : (x.data.toList == (s.data.toList.drop k).take x.data.toList.length) with
            | false => rfl
            | true =>
              have e1 := congrArg (List.take (j + 1)) (beq_iff_eq.1 e)
              rw [List.take_take, Nat.min_eq_left (by omega), HX.out, HS.out] at e1
              have e2 := List.append_inj_right' e1 rfl
              simp only [List.cons.injEq, and_true] at e2
              exact absurd e2.symm he
          have he' : (((s[((k : Int) + (j : Int)).toNat]'hkj2).toNat : Int) != (x[j].toNat : Int)) = true := by
            have htn : ((k : Int) + (j : Int)).toNat = k + j := by omega
            simp only [htn]
            simp only [bne_iff_ne, ne_eq]
            exact fun h => he (UInt8.toNat_inj.1 (by omega))
          clear he HX HS HE
          go_wp2
          go_quiet (fail)
          go_wp2
          go_ret
          exact ⟨by rw [HB.out]; rfl, _, by rw [World.drewN_drewN]⟩
      · obtain rfl : j = x.size := by omega
        have i2 : ¬ (x.size : Int) < (x.size : Int) := by omega
        have HB : Hid (bgn x.data.toList (s.data.toList.drop k) = true) := by
          show _ = _
          unfold bgn
          have := HE.out
          rw [take_all] at this
          rw [hxl, ← this]; simp
        go_wp2
        go_ret
        exact ⟨by rw [HB.out]; rfl, _, rfl⟩
end Go.Proofs.YtmcjogfopfhblaaDoor
