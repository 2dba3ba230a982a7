/- Package eval: set, given what value does: by a walk of its own text. -/
import Derived.Test.YtglhjhbhijekjaaGreatDoorG30
import Derived.Test.YtglhjhbhijekjaaGreatDoorG31
import Derived.Test.YtglhjhbhijekjaaGreatDoorG37
namespace Go.Proofs.YtglhjhbhijekjaaGreatDoor
open Go.RowKit
set_option linter.unusedVariables false
set_option linter.unusedSimpArgs false
set_option linter.unusedSectionVars false
set_option maxRecDepth 100000

theorem BX.low {B N : Nat} {a w w' : World} (h : BX B a w) (k : Below N w w') (hN : a.heap.size ≤ N) : BX B a w' :=
  ⟨k.os.trans h.os, k.tape.trans h.tape, k.output.trans h.output, Nat.le_trans h.size k.size, fun i hi hn => (k.block i (Nat.lt_of_lt_of_le hi hN)).trans (h.block i hi hn)⟩
theorem AS.low {E : EvEnv} {w w' : World} {B k N : Nat} (h : AS E w B k) (hb : Below N w w') (hN : B < N) : AS E w' B k :=
  ⟨(hb.block B hN).trans h.blk, h.bel.trans (hb.mono (by have := h.ge; omega)), h.ge, h.le⟩
theorem partsE_one {pv : List Nd → Option (List Nd)} {k : Nat} {v r : List Nd} (h : partsE pv (k + 1) v = some r) : ∃ s, pv v = some s ∧ partsE pv k s = some r := by
  simp only [partsE] at h
  cases e : pv v with
  | none => rw [e] at h; cases h
  | some s => rw [e] at h; exact ⟨s, rfl, h⟩
theorem partsE_end {pv : List Nd → Option (List Nd)} {v r : List Nd} (h : partsE pv 0 v = some r) : v = r := by simpa [partsE] using h
/-- What is told of the parts, these ones ahead. -/
def accS (vs : List (List Nd)) (R : Except Int (List (List Nd))) : Except Int (List (List Nd)) := match R with | .error n => .error n | .ok l => .ok (vs ++ l)
section
variable {E : EvEnv} {B f : Nat} (ho : E.Ok) (hV : ValOk E B f) (w : World) (k : Nat) (m r : List Nd)
include ho hV
set_option maxHeartbeats 4000000 in
theorem set_any (N : Nat) (hN : N ≤ 200) (hs : AS E w B k) (hm : E.e.drop k = m) (hp : partsE (pastE f) N m = some r) :
    Calls Tryz.prog 92 #[.pointer (some ⟨B, 0, none⟩), .int .i64 (N : Int)] w (VE E B (E.e.length - r.length) w (bindE (evS (evE E.es E.q f) (bh f) N m) setE)) := by
  have HR : Hid (∀ R0, evS (evE E.es E.q f) (bh f) N m = R0 → bindE (evS (evE E.es E.q f) (bh f) N m) setE = bindE R0 setE) := fun R0 h => by rw [h]
  generalize hX : evS (evE E.es E.q f) (bh f) N m = X at *
  have HX : Hid (evS (evE E.es E.q f) (bh f) N m = X) := hX
  clear hX HR
  have hBw := hs.lt
  go_enter Tryz.func92, Tryz.ntmps92
  go_wp2_with fail
  go_loopw [5, 7] (fun v i wr => ∃ (j kj : Nat) (mj : List Nd) (vs : List (List Nd)), j ≤ N ∧ i = .int .i64 j ∧ AS E wr B kj ∧ E.e.drop kj = mj ∧ partsE (pastE f) (N - j) mj = some r ∧ OV wr w.heap.size v vs ∧ vs.length = j ∧ Hid (∀ v ∈ vs, IsV v) ∧ Hid (accS vs (evS (evE E.es E.q f) (bh f) (N - j) mj) = X) ∧ BX B w wr) (fun _ i _ => N - (intOf i).toNat)
  case atStart =>
    refine ⟨0, k, m, [], Nat.zero_le _, rfl, hs, hm, by simpa using hp, OV.nil _ _, rfl, by simp [Hid], ?_, BX.refl _ _⟩
    have := HX.out
    show accS [] (evS _ _ (N - 0) m) = X
    rw [Nat.sub_zero, this]
    cases X <;> rfl
  case round =>
    rename World => wr
    obtain ⟨j, kj, mj, vs, hj, rfl, hsj, hmj, hpj, hov, hvl, HI, HA, hbx⟩ := hrel
    by_cases hlt : j < N
    · have i1 : (j : Int) < (N : Int) := by omega
      have eN : N - j = (N - (j + 1)) + 1 := by omega
      rw [eN] at hpj HA
      obtain ⟨s, p1, p2⟩ := partsE_one hpj
      have H1 := val_at hV wr kj mj s _ _ hsj hmj p1 rfl rfl
      have hms : E.e.drop (E.e.length - s.length) = s := (nd_suffix (by rw [hmj]; exact p1)).1
      cases hE : evE E.es E.q f mj with
      | error e =>
        rw [hE] at H1
        have HA2 : Hid (X = .error e) := by
          have := HA.out
          simp only [evS, hE] at this
          exact this.symm
        clear HA HI
        go_wp2_with (go_at_call 57; refine H1.mono ?_; rintro e' w1 ⟨rfl, hb1⟩)
        rw [HA2.out]
        exact ⟨rfl, rfl, hbx.trans hb1⟩
      | ok a =>
        rw [hE] at H1
        have HA2 : Hid (accS (vs ++ [a]) (evS (evE E.es E.q f) (bh f) (N - (j + 1)) s) = X) := by
          have := HA.out
          simp only [evS, hE, bh_of p1] at this
          show _ = _
          rw [← this]
          cases evS (evE E.es E.q f) (bh f) (N - (j + 1)) s <;> simp [accS]
        clear HA
        go_wp2_with (first
          | (go_at_call 57; refine H1.mono ?_; rintro e' w1 ⟨⟨q1, c1, rfl, hv1⟩, hs1, hb1⟩; have ho1 := hov.bx hsj hb1; have hz1 : w.heap.size ≤ w1.heap.size := Nat.le_trans hbx.size hb1.size)
          | (at_builtin; refine append_val w1 rfl (.tmp 9) (.tmp 12) rfl w.heap.size u5 vs rfl ho1 a q1 c1 hv1.nl hv1.le hv1.cm hv1.is.ne rfl (by omega) hz1 ?_; intro v' w2 ho2 hb2 _))
        go_roundw
        case rel =>
          refine ⟨j + 1, E.e.length - s.length, s, vs ++ [a], by omega, by go_num, hs1.low hb2 hBw, hms, p2, ho2, by simp [hvl], ?_, HA2, (hbx.trans hb1).low hb2 (Nat.le_refl _)⟩
          intro v hv
          rcases List.mem_append.1 hv with hv | hv
          · exact HI.out v hv
          · simp only [List.mem_singleton] at hv; subst hv; exact hv1.is
        case measure => simp [intOf]; omega
    · have i1 : ¬ (j : Int) < (N : Int) := by omega
      obtain rfl : j = N := by omega
      rw [Nat.sub_self] at hpj HA
      have := partsE_end hpj
      subst this
      have HX2 : Hid (X = .ok vs) := by
        have := HA.out
        simp only [evS, accS, List.append_nil] at this
        exact this.symm
      obtain ⟨q3, c3, rfl, hll, hc1, hc2⟩ := hov.slice
      have hkj : E.e.length - mj.length = kj := by
        rw [← hmj, List.length_drop]
        have := hsj.le
        omega
      have hval : ∀ v ∈ vs, vfault v = 0 := fun v hv => (HI.out v hv).val
      have HIV := HI
      clear HA
      by_cases hfit : (setN (setL vs)).length ≤ 200
      · have HS := setOf_fit vs _ rfl q3 c3 wr hll (by omega) hval hfit
        rw [hvl] at HS
        have HE : Hid (bindE X setE = .ok (setN (setL vs))) := by
          show _ = _
          rw [HX2.out]
          unfold bindE setE
          simp only [if_pos hfit]
        have HV2 : Hid (IsV (setN (setL vs))) := (setE_is (fun v hv => HIV.out v hv) (by unfold setE; rw [if_pos hfit])).1
        clear hval hfit HI HIV
        generalize setN (setL vs) = S at *
        go_wp2_with fail
        refine HS.mono ?_
        rintro e w3 ⟨⟨q4, c4, rfl, hn4, hl4, hm4⟩, hb3⟩
        go_wp2_with fail
        refine (sureN_ok w3 q4 _ c4).mono ?_
        rintro e w4 ⟨rfl, rfl⟩
        go_wp2
        go_ret
        rw [HE.out, hkj]
        exact ⟨⟨q4, c4, rfl, rfl, hn4, hl4, hm4, HV2.out⟩, hsj.up hb3, hbx.up hb3⟩
      · have HS := setOf_over vs q3 c3 wr hll (by omega) hval hfit
        rw [eV_not (by decide), hvl] at HS
        have HE : Hid (bindE X setE = .error 4) := by
          show _ = _
          rw [HX2.out]
          unfold bindE setE
          simp only [if_neg hfit]
        clear hval hfit HI HIV
        go_wp2_with fail
        refine HS.mono ?_
        rintro e w3 ⟨rfl, hb3⟩
        go_wp2_with fail
        refine (sureN_bad w3 none 0 0 4).mono ?_
        rintro e w4 ⟨rfl, rfl⟩
        rw [HE.out]
        exact ⟨rfl, rfl, hbx.up hb3⟩
end
end Go.Proofs.YtglhjhbhijekjaaGreatDoor
