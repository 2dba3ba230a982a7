/- The statement NumRing: its walk. -/
import Derived.Test.YtglgfbflolbjdaaDoorNumFns
import Derived.Test.YtglgfbflolbjdaaDoorToldTwo
namespace Go.Proofs.YtglgfbflolbjdaaDoor
open Go.RowKit
set_option linter.unusedVariables false

theorem ring_fact (w : World) : Calls Tryd.prog 5 #[.int .i64 17, .int .i64 3, .int .i64 (-4)] w fun e w' => e = .returned (.tuple #[.int .i64 (-1), .nilIface]) ∧ w' = w :=
  do_good 17 3 (-4) w (by decide) (by decide) (by decide)
theorem hid_em (p : Prop) : Hid p ∨ Hid (¬ p) := Classical.em p
/-- What was added is taken away. -/
theorem away_any (a b : Int) (w : World) (ha : Fit a) (hb : Fit b) (h : nfault 17 a b = 0) :
    Calls Tryd.prog 5 #[.int .i64 18, .int .i64 (nval 17 a b), .int .i64 b] w fun e w' => e = .returned (.tuple #[.int .i64 a, .nilIface]) ∧ w' = w := by
  have hx := nv_ok h
  rw [nx_add] at hx
  have hf : nfault 18 (nval 17 a b) b = 0 := by rw [hx]; exact nf_away ha
  have hv : nval 18 (nval 17 a b) b = a := by rw [hx]; exact nv_away ha
  have hc := do_good 18 (nval 17 a b) b w (nv_fit 17 a b) hb hf
  rw [hv] at hc
  exact hc
theorem negneg_any (a : Int) (w : World) (ha : Fit a) (h : Fit (-a)) :
    Calls Tryd.prog 8 #[.int .i64 (-a)] w fun e w' => e = .returned (.tuple #[.int .i64 a, .nilIface]) ∧ w' = w := by
  have hc := neg_good (-a) w h (by rw [Int.neg_neg]; exact ha)
  rw [Int.neg_neg] at hc
  exact hc
theorem dist_f (a b c : Int) (h5 : nfault 19 a b = 0) (h6 : nfault 19 a c = 0) (h7 : nfault 17 b c = 0) :
    nfault 19 a (nval 17 b c) = nfault 17 (nval 19 a b) (nval 19 a c) := by
  rw [nv_ok h5, nv_ok h6, nv_ok h7, nx_mul, nx_mul, nx_add]; exact nf_dist a b c
theorem dist_v (a b c : Int) (h5 : nfault 19 a b = 0) (h6 : nfault 19 a c = 0) (h7 : nfault 17 b c = 0) :
    nval 19 a (nval 17 b c) = nval 17 (nval 19 a b) (nval 19 a c) := by
  rw [nv_ok h5, nv_ok h6, nv_ok h7, nx_mul, nx_mul, nx_add]; exact nv_dist a b c

set_option maxHeartbeats 4000000 in
theorem nring_walk (a b c : Int) (w : World) (hL : ErrVar w) (ha : Fit a) (hb : Fit b) (hc : Fit c) :
    Calls Tryd.prog 4 #[.int .i64 a, .int .i64 b, .int .i64 c] w fun e w' => e = .returned (.bool true) ∧ Below w.heap.size w w' := by
  have HL : Hid (ErrVar w) := hL
  have HA : Hid (Fit a) := ha
  have HB : Hid (Fit b) := hb
  have HC : Hid (Fit c) := hc
  clear hL ha hb hc
  go_enter Tryd.func4, Tryd.ntmps4
  go_wp2_with fail
  refine (ring_fact _).mono ?_
  rintro e w0 ⟨rfl, rfl⟩
  go_wp2_with fail
  go_loopw [9] (fun i wr => ∃ k : Int, (k = 17 ∨ k = 19 ∨ k = 21) ∧ i = .int .i64 k ∧ Below w0.heap.size w0 wr) (fun i _ => (21 - intOf i).toNat)
  case atStart => exact ⟨17, .inl rfl, rfl, Below.refl _ _⟩
  case round =>
    obtain ⟨k, hk, rfl, hnx⟩ := hrel
    have HL2 := evUp HL.out hnx
    have HL3 : Hid (ErrVar _) := HL2
    clear HL2
    by_cases hlt : k ≤ 19
    · have ho : k = 17 ∨ k = 19 := by omega
      have HF : Hid (nfault k b a = nfault k a b) := nf_comm ho
      have HV : Hid (nval k b a = nval k a b) := nv_comm ho
      rcases hid_em (nfault k a b = 0) with H | H
      · clear ho
        go_wp2_with fail
        refine (do_good k a b _ HA.out HB.out H.out).mono ?_
        rintro e w1 ⟨rfl, rfl⟩
        go_wp2_with fail
        refine (do_good k b a _ HB.out HA.out (by rw [HF.out]; exact H.out)).mono ?_
        rintro e w1 ⟨rfl, rfl⟩
        rw [HV.out]
        generalize nval k a b = x
        go_wp2_with fail
        refine (told2_nil _).mono ?_
        rintro e w1 ⟨rfl, rfl⟩
        go_wp2_with fail
        go_roundw
        case rel => exact ⟨k + 2, by omega, by go_num, hnx⟩
        case measure => simp [intOf]; omega
      · clear ho
        go_wp2_with fail
        refine (do_bad k a b _ HA.out HB.out H.out).mono ?_
        rintro e w1 ⟨rfl, rfl⟩
        go_wp2_with fail
        refine (do_bad k b a _ HB.out HA.out (by rw [HF.out]; exact H.out)).mono ?_
        rintro e w1 ⟨rfl, rfl⟩
        rw [HF.out]
        generalize nfault k a b = n
        go_wp2_with fail
        refine (told2_errno n n _ HL3.out).mono ?_
        rintro e w1 ⟨rfl, hb1⟩
        rw [beq_self_eq_true]
        go_wp2_with fail
        go_roundw
        case rel => exact ⟨k + 2, by omega, by go_num, hnx.trans (hb1.mono hnx.size)⟩
        case measure => simp [intOf]; omega
    · have hk2 : k = 21 := by omega
      subst hk2
      clear hk hlt
      go_wp2_with fail
      rcases hid_em (nfault 17 a b = 0) with H1 | H1
      focus
        refine (do_good 17 a b _ HA.out HB.out H1.out).mono ?_
        rintro e w1 ⟨rfl, rfl⟩
        go_wp2_with fail
        refine (away_any a b _ HA.out HB.out H1.out).mono ?_
        rintro e w1 ⟨rfl, rfl⟩
        generalize nval 17 a b = x
        go_wp2_with fail
      rotate_left
      focus
        refine (do_bad 17 a b _ HA.out HB.out H1.out).mono ?_
        rintro e w1 ⟨rfl, rfl⟩
        generalize nfault 17 a b = x
        go_wp2_with fail
      all_goals
        clear H1
        rcases hid_em (Fit (-a)) with H2 | H2
        focus
          refine (neg_good a _ HA.out H2.out).mono ?_
          rintro e w1 ⟨rfl, rfl⟩
          go_wp2_with fail
          refine (negneg_any a _ HA.out H2.out).mono ?_
          rintro e w1 ⟨rfl, rfl⟩
          generalize -a = y
          go_wp2_with fail
        rotate_left
        focus
          refine (neg_over a _ HA.out H2.out).mono ?_
          rintro e w1 ⟨rfl, rfl⟩
          go_wp2_with fail
        all_goals
          clear H2
          rcases hid_em (nfault 19 a b = 0) with H5 | H5 <;> rcases hid_em (nfault 19 a c = 0) with H6 | H6 <;> rcases hid_em (nfault 17 b c = 0) with H7 | H7
          all_goals
            first
              | refine (do_good 19 a b _ HA.out HB.out H5.out).mono ?_
              | refine (do_bad 19 a b _ HA.out HB.out H5.out).mono ?_
            rintro e w1 ⟨rfl, rfl⟩
            go_wp2_with fail
            first
              | refine (do_good 19 a c _ HA.out HC.out H6.out).mono ?_
              | refine (do_bad 19 a c _ HA.out HC.out H6.out).mono ?_
            rintro e w1 ⟨rfl, rfl⟩
            go_wp2_with fail
            first
              | refine (do_good 17 b c _ HB.out HC.out H7.out).mono ?_
              | refine (do_bad 17 b c _ HB.out HC.out H7.out).mono ?_
            rintro e w1 ⟨rfl, rfl⟩
          focus
            have HP : Hid (Fit (nval 19 a b)) := nv_fit 19 a b
            have HQ : Hid (Fit (nval 19 a c)) := nv_fit 19 a c
            have HS : Hid (Fit (nval 17 b c)) := nv_fit 17 b c
            have HDF : Hid (nfault 19 a (nval 17 b c) = nfault 17 (nval 19 a b) (nval 19 a c)) := dist_f a b c H5.out H6.out H7.out
            have HDV : Hid (nval 19 a (nval 17 b c) = nval 17 (nval 19 a b) (nval 19 a c)) := dist_v a b c H5.out H6.out H7.out
            clear H5 H6 H7
            generalize nval 19 a b = p at *
            generalize nval 19 a c = q at *
            generalize nval 17 b c = s at *
            go_wp2_with fail
            rcases hid_em (nfault 17 p q = 0) with H8 | H8
            · refine (do_good 17 p q _ HP.out HQ.out H8.out).mono ?_
              rintro e w1 ⟨rfl, rfl⟩
              go_wp2_with fail
              refine (do_good 19 a s _ HA.out HS.out (by rw [HDF.out]; exact H8.out)).mono ?_
              rintro e w1 ⟨rfl, rfl⟩
              rw [HDV.out]
              generalize nval 17 p q = t
              go_wp2_with fail
              refine (told2_nil _).mono ?_
              rintro e w1 ⟨rfl, rfl⟩
              go_wp2_with fail
              go_ret
              exact ⟨ret_bool (by simp), hnx⟩
            · refine (do_bad 17 p q _ HP.out HQ.out H8.out).mono ?_
              rintro e w1 ⟨rfl, rfl⟩
              go_wp2_with fail
              refine (do_bad 19 a s _ HA.out HS.out (by rw [HDF.out]; exact H8.out)).mono ?_
              rintro e w1 ⟨rfl, rfl⟩
              rw [HDF.out]
              generalize nfault 17 p q = n
              go_wp2_with fail
              refine (told2_errno n n _ HL3.out).mono ?_
              rintro e w1 ⟨rfl, hb1⟩
              rw [beq_self_eq_true]
              go_wp2_with fail
              go_ret
              exact ⟨rfl, hnx.trans (hb1.mono hnx.size)⟩
          all_goals
            go_wp2_with fail
            go_ret
            exact ⟨rfl, hnx⟩
end Go.Proofs.YtglgfbflolbjdaaDoor
