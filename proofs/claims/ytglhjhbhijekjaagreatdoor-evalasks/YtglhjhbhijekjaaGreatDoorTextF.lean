/- What the document's own TextFault returns: by a walk of its own text. -/
import Derived.Test.YtglhjhbhijekjaaGreatDoorG12
import Derived.Test.YtglhjhbhijekjaaGreatDoorG1
namespace Go.Proofs.YtglhjhbhijekjaaGreatDoor
open Go.RowKit
set_option linter.unusedVariables false

theorem ret_num {k : IntKind} {a b : Int} (h : a = b) : Ending.returned (.int k a) = .returned (.int k b) := by rw [h]
set_option maxHeartbeats 1000000 in
theorem textFault_any (s : ByteArray) (w : World) (hs : s.size ≤ maxLen) :
    Calls Tryz.prog 42 #[.string s] w fun e w' => e = .returned (.int .i64 (tfault s.data.toList)) ∧ w' = w := by
  have hl : s.data.toList.length = s.size := by simp
  by_cases h60 : s.size ≤ 60
  · have h' : ¬ (60 : Int) < (s.size : Int) := by omega
    go_enter Tryz.func42, Tryz.ntmps42
    go_wp2
    go_loop [3] (fun i => ∃ k : Nat, k ≤ s.size ∧ i = .int .i64 k ∧ Hid ((s.data.toList.take k).all okb = true)) (fun i => s.size - (intOf i).toNat)
    case atStart => exact ⟨0, Nat.zero_le _, rfl, rfl⟩
    case round =>
      obtain ⟨k, hk, rfl, HA⟩ := hrel
      by_cases hlt : k < s.size
      · have i1 : (k : Int) < (s.size : Int) := by omega
        cases ho : okb s[k]
        · have HF : Hid (_ = _) := tfault_bad (l := s.data.toList) (by omega) (all_take_bad s k hlt ho)
          have hb : (s[k].toNat : Int) < 32 ∨ (126 : Int) < (s[k].toNat : Int) := by
            unfold okb at ho
            simp only [Bool.and_eq_false_iff, decide_eq_false_iff_not] at ho
            omega
          by_cases hb1 : (s[k].toNat : Int) < 32
          · go_wp2
            go_ret
            exact ⟨ret_num HF.out.symm, rfl⟩
          · have hb2 : (126 : Int) < (s[k].toNat : Int) := by omega
            clear hb
            go_wp2
            go_ret
            exact ⟨ret_num HF.out.symm, rfl⟩
        · have HA2 : Hid (_ = _) := all_snoc _ _ HA.out ho
          have HT : Hid (_ = _) := take_snoc s k hlt
          have hb : ¬ (s[k].toNat : Int) < 32 ∧ ¬ (126 : Int) < (s[k].toNat : Int) := by
            unfold okb at ho
            simp only [Bool.and_eq_true, decide_eq_true_eq] at ho
            omega
          obtain ⟨hb1, hb2⟩ := hb
          go_wp2
          go_round
          case rel => exact ⟨k + 1, by omega, by go_num, by rw [HT.out]; exact HA2⟩
          case measure => simp [intOf]; omega
      · obtain rfl : k = s.size := by omega
        have i1 : ¬ (s.size : Int) < (s.size : Int) := by omega
        have HF : Hid (_ = _) := tfault_ok (l := s.data.toList) (by
          have h := HA.out
          rw [take_all s] at h
          unfold textOk; rw [h, decide_eq_true (by omega)]; rfl)
        go_wp2
        go_ret
        exact ⟨ret_num HF.out.symm, rfl⟩
  · have HF : Hid (_ = _) := tfault_long (l := s.data.toList) (by omega)
    have h' : (60 : Int) < (s.size : Int) := by omega
    go_enter Tryz.func42, Tryz.ntmps42
    go_wp2
    go_ret
    exact ⟨ret_num HF.out.symm, rfl⟩
end Go.Proofs.YtglhjhbhijekjaaGreatDoor
