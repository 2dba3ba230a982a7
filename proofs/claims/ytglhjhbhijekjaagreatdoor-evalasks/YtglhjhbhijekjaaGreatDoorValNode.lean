/- The document's ValueNode: what it returns, by a walk of its own text. -/
import Derived.Test.YtglhjhbhijekjaaGreatDoorTextRef
import Derived.Test.YtglhjhbhijekjaaGreatDoorG11
import Derived.Laws.StructEq
namespace Go.Proofs.YtglhjhbhijekjaaGreatDoor
open Go.RowKit
set_option linter.unusedVariables false

theorem ret_bl {a b : Bool} (h : a = b) : Ending.returned (.bool a) = .returned (.bool b) := by rw [h]
theorem tfault_zero (l : List UInt8) : (tfault l == 0) = textOk l := by
  cases h : textOk l
  · simpa using tfault_not h
  · simpa using tfault_ok h
theorem ufault_zero (t i : List UInt8) : (ufault t i == 0) = (nfault t == 0 && textOk i) := by
  unfold ufault
  by_cases h : nfault t = 0
  · rw [if_pos h, tfault_zero, h]; rfl
  · rw [if_neg h]
    have : (nfault t == 0) = false := by simpa using h
    rw [this]; rfl

set_option maxRecDepth 100000 in
set_option maxHeartbeats 4000000 in
theorem valueNode_any (x : Nd) (w : World) (hx : x.wf) :
    Calls Tryz.prog 77 #[x.val] w fun e w' => e = .returned (.bool (ndOk x)) ∧ Below w.heap.size w w' := by
  obtain ⟨op, n, s, t⟩ := x
  obtain ⟨hs, ht, _⟩ := hx
  unfold Nd.val
  have HL : Hid (∀ o w', Below (w.alloc o).heap.size (w.alloc o) w' → Below w.heap.size w w') := fun o w' h => ((Below.refl _ _).alloc (Nat.le_refl _) _).trans (h.mono (by simp))
  have es : ((s.toList == []) = s.data.toList.isEmpty) := by rw [ByteArray.toList_eq]; cases s.data.toList <;> rfl
  have et : ((t.toList == []) = t.data.toList.isEmpty) := by rw [ByteArray.toList_eq]; cases t.data.toList <;> rfl
  cases hse : s.data.toList.isEmpty <;> cases hte : t.data.toList.isEmpty <;> rw [hse] at es <;> rw [hte] at et
  all_goals
    by_cases h1 : op = 1
    · subst h1
      have hn : n = 0 ∨ n = 1 ∨ n < 0 ∨ 1 < n := by omega
      rcases hn with rfl | rfl | hn | hn
      all_goals
        first | (have q0 : decide (n ≤ 1) = false := by simp; omega) | skip
        go_enter Tryz.func77, Tryz.ntmps77
        go_wp2
        all_goals
          go_ret
          refine ⟨ret_bl ?_, HL.out _ _ (Below.refl _ _)⟩
          simp [ndOk, hse, hte]
          try omega
    by_cases h2 : op = 2
    · subst h2
      go_enter Tryz.func77, Tryz.ntmps77
      go_wp2
      go_ret
      refine ⟨ret_bl ?_, HL.out _ _ (Below.refl _ _)⟩
      simp [ndOk, hse, hte]
    by_cases h56 : op = 5 ∨ op = 6
    · rcases h56 with rfl | rfl
      all_goals
        by_cases hn : n < 0
        · have hn2 : decide (0 ≤ n) = false := by simp; omega
          go_enter Tryz.func77, Tryz.ntmps77
          go_wp2
          go_ret
          refine ⟨ret_bl ?_, HL.out _ _ (Below.refl _ _)⟩
          simp [ndOk, hse, hte]
          try omega
        · have hn2 : decide (0 ≤ n) = true := by simp; omega
          go_enter Tryz.func77, Tryz.ntmps77
          go_wp2
          go_ret
          refine ⟨ret_bl ?_, HL.out _ _ (Below.refl _ _)⟩
          simp [ndOk, hse, hte]
          try omega
    have e1 : (op == 1) = false := by simpa using h1
    have e2 : (op == 2) = false := by simpa using h2
    have j5 : ¬ op = 5 := fun h => h56 (.inl h)
    have j6 : ¬ op = 6 := fun h => h56 (.inr h)
    have e5 : (op == 5) = false := by simpa using j5
    have e6 : (op == 6) = false := by simpa using j6
    by_cases hn0 : n = 0
    · subst hn0
      by_cases h3 : op = 3
      · subst h3
        have HT := fun w => textFault_any s w hs
        have hz := tfault_zero s.data.toList
        generalize htf : tfault s.data.toList = tf at HT hz
        clear htf
        cases hto : textOk s.data.toList <;> rw [hto] at hz
        all_goals
          go_enter Tryz.func77, Tryz.ntmps77
          go_wp2_with (go_at_call 42; refine (HT _).mono ?_; rintro e w1 ⟨rfl, rfl⟩)
          go_ret
          refine ⟨ret_bl ?_, HL.out _ _ (Below.refl _ _)⟩
          simp [ndOk, hto, hte]
      have e3 : (op == 3) = false := by simpa using h3
      by_cases h4 : op = 4
      · subst h4
        have HT := fun w => uidFault_any s t w hs ht
        have hz := ufault_zero s.data.toList t.data.toList
        generalize htf : ufault s.data.toList t.data.toList = tf at HT hz
        clear htf
        cases hto : (nfault s.data.toList == 0 && textOk t.data.toList) <;> rw [hto] at hz
        all_goals
          have HO : Hid (_ = _) := hto
          clear hto
          go_enter Tryz.func77, Tryz.ntmps77
          go_wp2_with fail
          refine (HT _).mono ?_
          rintro e w1 ⟨rfl, hb1⟩
          go_wp2
          go_ret
          refine ⟨ret_bl ?_, HL.out _ _ hb1⟩
          have := HO.out
          simp [ndOk] at this ⊢
          try exact this
      have e4 : (op == 4) = false := by simpa using h4
      by_cases h7 : op = 7
      · subst h7
        have HT := fun w => nameFault_any s w hs
        cases hto : (nfault s.data.toList == 0)
        all_goals
          go_enter Tryz.func77, Tryz.ntmps77
          go_wp2_with (go_at_call 41; refine (HT _).mono ?_; rintro e w1 ⟨rfl, rfl⟩)
          go_ret
          refine ⟨ret_bl ?_, HL.out _ _ (Below.refl _ _)⟩
          simp [ndOk, hto, hte]
      have e7 : (op == 7) = false := by simpa using h7
      have HN : Hid (ndOk ⟨op, 0, s, t⟩ = false) := by show _ = _; simp [ndOk, h1, h2, h3, h4, j5, j6, h7]
      clear h1 h2 h3 h4 h56 j5 j6 h7
      go_enter Tryz.func77, Tryz.ntmps77
      go_wp2
      go_ret
      exact ⟨ret_bl HN.out.symm, HL.out _ _ (Below.refl _ _)⟩
    · have hn1 : (n != 0) = true := by simpa using hn0
      have HN : Hid (ndOk ⟨op, n, s, t⟩ = false) := by show _ = _; simp [ndOk, h1, h2, j5, j6, hn0]
      clear h1 h2 h56 j5 j6 hn0
      go_enter Tryz.func77, Tryz.ntmps77
      go_wp2
      go_ret
      exact ⟨ret_bl HN.out.symm, HL.out _ _ (Below.refl _ _)⟩

end Go.Proofs.YtglhjhbhijekjaaGreatDoor
