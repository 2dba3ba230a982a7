/- The document's Parts: how many parts a node has, by a walk of its own text. -/
import Derived.Test.YtnpneglipogehaaGreatDoorTreeL
import Derived.Test.YtnpneglipogehaaGreatDoorNdOrd
namespace Go.Proofs.YtnpneglipogehaaGreatDoor
open Go.RowKit
set_option linter.unusedVariables false

set_option maxRecDepth 100000 in
set_option maxHeartbeats 1000000 in
theorem refPrt_any (x : Nd) (w : World) :
    Calls Tryz.prog 19 #[x.val] w fun e w' => e = .returned (.int .i64 (prt x)) ∧ Below w.heap.size w w' := by
  have HL : Hid (∀ o, Below w.heap.size w (w.alloc o)) := fun o => (Below.refl _ _).alloc (Nat.le_refl _) _
  generalize hp : prt x = pp
  have HP : Hid (_ = _) := hp
  clear hp
  obtain ⟨op, n, s, t⟩ := x
  unfold Nd.val
  by_cases h : 1 ≤ op ∧ op ≤ 27
  · have hop : op = 1 ∨ op = 2 ∨ op = 3 ∨ op = 4 ∨ op = 5 ∨ op = 6 ∨ op = 7 ∨ op = 8 ∨ op = 9 ∨ op = 10 ∨ op = 11 ∨ op = 12 ∨ op = 13 ∨ op = 14 ∨ op = 15 ∨ op = 16 ∨ op = 17 ∨ op = 18 ∨ op = 19 ∨ op = 20 ∨ op = 21 ∨ op = 22 ∨ op = 23 ∨ op = 24 ∨ op = 25 ∨ op = 26 ∨ op = 27 := by omega
    clear h
    rcases hop with rfl | rfl | rfl | rfl | rfl | rfl | rfl | rfl | rfl | rfl | rfl | rfl | rfl | rfl | rfl | rfl | rfl | rfl | rfl | rfl | rfl | rfl | rfl | rfl | rfl | rfl | rfl
    all_goals
      go_enter Tryz.func19, Tryz.ntmps19
      go_wp2
      go_ret
      exact ⟨by rw [← HP.out]; rfl, HL.out _⟩
  · have HM : Hid (pp = -1) := by
      rw [← HP.out]
      show prt _ = _
      unfold prt
      simp only
      rw [if_neg (by omega), if_neg (by omega), if_neg (by omega), if_neg (by omega), if_neg (by omega)]
    clear HP
    have e : ∀ k : Int, 1 ≤ k → k ≤ 27 → (op == k) = false := fun k h1 h2 => by simp; omega
    have e5 := e 5 (by omega) (by omega)
    have e6 := e 6 (by omega) (by omega)
    have e7 := e 7 (by omega) (by omega)
    have e8 := e 8 (by omega) (by omega)
    have e9 := e 9 (by omega) (by omega)
    have e10 := e 10 (by omega) (by omega)
    have e13 := e 13 (by omega) (by omega)
    clear e
    by_cases h0 : op < 1
    · have a1 : ¬ 1 ≤ op := by omega
      have a2 : ¬ 21 ≤ op := by omega
      have a3 : ¬ 11 ≤ op := by omega
      have a4 : ¬ 25 ≤ op := by omega
      clear h
      go_enter Tryz.func19, Tryz.ntmps19
      go_wp2
      go_ret
      exact ⟨by rw [HM.out]; rfl, HL.out _⟩
    · have a1 : 27 < op := by omega
      have b1 : ¬ op ≤ 4 := by omega
      have b2 : ¬ op ≤ 24 := by omega
      have b3 : ¬ op ≤ 20 := by omega
      have b4 : ¬ op ≤ 27 := by omega
      clear h
      go_enter Tryz.func19, Tryz.ntmps19
      go_wp2
      go_ret
      exact ⟨by rw [HM.out]; rfl, HL.out _⟩
end Go.Proofs.YtnpneglipogehaaGreatDoor
