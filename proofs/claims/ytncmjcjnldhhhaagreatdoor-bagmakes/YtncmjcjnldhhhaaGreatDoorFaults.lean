/- The document's Faults: what it returns, by a walk of its own text. -/
import Derived.Test.YtncmjcjnldhhhaaGreatDoorValFault
import Derived.Test.YtncmjcjnldhhhaaGreatDoorLists
namespace Go.Proofs.YtncmjcjnldhhhaaGreatDoor
open Go.RowKit
set_option linter.unusedVariables false

theorem faults_any (vs : List (List Nd)) (p : Option Addr) (c : Nat) (w : World) (hv : LL w p vs) (hl : vs.length ≤ maxLen) :
    Calls Tryz.prog 13 #[.slice p vs.length c] w fun e w' => e = .returned (.int .i64 (ffault vs)) ∧ Below w.heap.size w w' := by
  unfold maxLen at hl
  go_enter Tryz.func13, Tryz.ntmps13
  go_wp2
  go_loopw [3] (fun i wr => ∃ k : Nat, k ≤ vs.length ∧ i = .int .i64 k ∧ Hid (ffault (vs.drop k) = ffault vs) ∧ Below w.heap.size w wr) (fun i _ => vs.length - (intOf i).toNat)
  case atStart => exact ⟨0, Nat.zero_le _, rfl, rfl, Below.refl _ _⟩
  case round =>
    obtain ⟨k, hk, rfl, HD, hb⟩ := hrel
    by_cases hlt : k < vs.length
    · have i1 : (k : Int) < (vs.length : Int) := by omega
      obtain ⟨b, off, q, c', rfl, hbw, hcell, hnl, h1, h2⟩ := (hv.up hb).at hlt
      have HS : Hid (_ = _) := ffault_step vs k hlt
      generalize vs[k] = v at *
      go_wp2_with fail
      refine (valueFault_any v q c' _ hnl h1 h2).mono ?_
      rintro e w1 ⟨rfl, hb1⟩
      have hb2 := hb.trans (hb1.mono hb.size)
      generalize vfault v = z at *
      cases hz : (z != 0)
      · have hz0 : z = 0 := by simpa using hz
        subst hz0
        go_wp2
        go_roundw
        case rel => exact ⟨k + 1, by omega, by go_num, by show _ = _; rw [← HD.out, HS.out]; simp, hb2⟩
        case measure => simp [intOf]; omega
      · go_wp2
        go_ret
        exact ⟨ret_n (by rw [← HD.out, HS.out, if_neg (by simpa using hz)]), hb2⟩
    · have i1 : ¬ (k : Int) < (vs.length : Int) := by omega
      have HZ : Hid (0 = ffault vs) := by
        have := HD.out
        rw [List.drop_of_length_le (by omega)] at this
        exact this
      clear HD
      go_wp2
      go_ret
      exact ⟨ret_n HZ.out, hb⟩
end Go.Proofs.YtncmjcjnldhhhaaGreatDoor
