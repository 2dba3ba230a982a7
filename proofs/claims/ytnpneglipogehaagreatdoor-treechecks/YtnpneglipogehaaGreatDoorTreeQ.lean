/- Package tree's partsOf at every node: by walks of its own text. -/
import Derived.Test.YtnpneglipogehaaGreatDoorTreeP
namespace Go.Proofs.YtnpneglipogehaaGreatDoor
open Go.RowKit
set_option linter.unusedVariables false

theorem boxs {w w' : World} {x : Nd} {T : TypeId} (hb : Below (w.alloc (.cells #[.int .i64 x.op, .int .i64 x.n, .string x.s, .string x.t] T)).heap.size (w.alloc (.cells #[.int .i64 x.op, .int .i64 x.n, .string x.s, .string x.t] T)) w') : w'.cell? ⟨w.heap.size, 2, none⟩ = some (.string x.s) :=
  (hb.cell (p := ⟨w.heap.size, 2, none⟩) (by simp)).trans (by simp [go_sem])

set_option maxRecDepth 100000 in
set_option maxHeartbeats 1000000 in
theorem partsOf_named (x : Nd) (w : World) (hx : x.wf) (h : x.op = 8 ∨ 21 ≤ x.op ∧ x.op ≤ 24) :
    Calls Tryz.prog 20 #[x.val] w fun e w' => e = .returned (.tuple #[.int .i64 (exCnt x), .bool (exMay x)]) ∧ Below w.heap.size w w' := by
  have hpp : prt x = if x.op = 8 then 0 else 1 := by
    unfold prt
    rw [if_neg (by omega)]
    by_cases h8 : x.op = 8
    · rw [if_pos (by omega), if_pos h8]
    · rw [if_neg (by omega), if_pos (by omega), if_neg h8]
  have hp : 0 ≤ prt x := by rw [hpp]; split <;> omega
  have HC : Hid (exCnt x = _) := (exCnt_of (by omega) hp).trans hpp
  have HM : Hid (exMay x = _) := exMay_of (by omega) hp
  have HJ := fun w => hasJustS_any x w
  have HV := fun w => isVar_any x.s w hx.1
  have HN := fun w => tName_any x.s w hx.1
  have HT := fun w => tText_any x.s w hx.1
  have HB : Hid (∀ w', _ → _) := fun w' => boxs (w := w) (w' := w') (x := x) (T := 28)
  clear hpp hp
  generalize justS x = j at *
  generalize varOk x.s.data.toList = v1 at *
  generalize (nfault x.s.data.toList == 0) = v2 at *
  generalize textOk x.s.data.toList = v3 at *
  generalize exMay x = m at *
  have HL : Hid (∀ o w', Below (w.alloc o).heap.size (w.alloc o) w' → Below w.heap.size w w') := fun o w' h => ((Below.refl _ _).alloc (Nat.le_refl _) _).trans (h.mono (by simp))
  obtain ⟨op, n, s, t⟩ := x
  unfold Nd.val at *
  simp only at HB HV HN HT HM
  have hop : op = 8 ∨ op = 21 ∨ op = 22 ∨ op = 23 ∨ op = 24 := by simp only at h; omega
  clear h
  cases j
  · rcases hop with rfl | rfl | rfl | rfl | rfl
    all_goals
      have HM2 : Hid (m = false) := HM.out
      clear HM
      go_enter Tryz.func20, Tryz.ntmps20
      go_wp2_with fail
      refine (HJ _).mono ?_
      rintro e w1 ⟨rfl, hb⟩
      go_wp2
      go_ret2
      exact ⟨ret_two (by rw [HC.out]; rfl) HM2.out.symm, HL.out _ _ hb⟩
  · rcases hop with rfl | rfl | rfl | rfl | rfl
    · have HM2 : Hid (m = v1) := HM.out
      clear HM
      go_enter Tryz.func20, Tryz.ntmps20
      go_wp2_with fail
      refine (HJ _).mono ?_
      rintro e w1 ⟨rfl, hb⟩
      have hc := HB.out _ hb
      go_wp2_with fail
      refine (HV _).mono ?_
      rintro e w2 ⟨rfl, rfl⟩
      go_wp2
      go_ret2
      exact ⟨ret_two (by rw [HC.out]; rfl) HM2.out.symm, HL.out _ _ hb⟩
    · have HM2 : Hid (m = v2) := HM.out
      clear HM
      go_enter Tryz.func20, Tryz.ntmps20
      go_wp2_with fail
      refine (HJ _).mono ?_
      rintro e w1 ⟨rfl, hb⟩
      have hc := HB.out _ hb
      go_wp2_with fail
      refine (HN _).mono ?_
      rintro e w2 ⟨rfl, rfl⟩
      go_wp2
      go_ret2
      exact ⟨ret_two (by rw [HC.out]; rfl) HM2.out.symm, HL.out _ _ hb⟩
    · have HM2 : Hid (m = v2) := HM.out
      clear HM
      go_enter Tryz.func20, Tryz.ntmps20
      go_wp2_with fail
      refine (HJ _).mono ?_
      rintro e w1 ⟨rfl, hb⟩
      have hc := HB.out _ hb
      go_wp2_with fail
      refine (HN _).mono ?_
      rintro e w2 ⟨rfl, rfl⟩
      go_wp2
      go_ret2
      exact ⟨ret_two (by rw [HC.out]; rfl) HM2.out.symm, HL.out _ _ hb⟩
    · have HM2 : Hid (m = v3) := HM.out
      clear HM
      go_enter Tryz.func20, Tryz.ntmps20
      go_wp2_with fail
      refine (HJ _).mono ?_
      rintro e w1 ⟨rfl, hb⟩
      have hc := HB.out _ hb
      go_wp2_with fail
      refine (HT _).mono ?_
      rintro e w2 ⟨rfl, hb2⟩
      have hb3 := hb.trans (hb2.mono hb.size)
      go_wp2
      go_ret2
      exact ⟨ret_two (by rw [HC.out]; rfl) HM2.out.symm, HL.out _ _ hb3⟩
    · have HM2 : Hid (m = v2) := HM.out
      clear HM
      go_enter Tryz.func20, Tryz.ntmps20
      go_wp2_with fail
      refine (HJ _).mono ?_
      rintro e w1 ⟨rfl, hb⟩
      have hc := HB.out _ hb
      go_wp2_with fail
      refine (HN _).mono ?_
      rintro e w2 ⟨rfl, rfl⟩
      go_wp2
      go_ret2
      exact ⟨ret_two (by rw [HC.out]; rfl) HM2.out.symm, HL.out _ _ hb⟩

set_option maxRecDepth 100000 in
set_option maxHeartbeats 1000000 in
theorem partsOf_many (x : Nd) (w : World) (hx : x.wf) (h : x.op = 5 ∨ x.op = 6) :
    Calls Tryz.prog 20 #[x.val] w fun e w' => e = .returned (.tuple #[.int .i64 (exCnt x), .bool (exMay x)]) ∧ Below w.heap.size w w' := by
  have HC : Hid (exCnt x = x.n) := if_pos h
  have HM : Hid (exMay x = (x.s.data.toList.isEmpty && x.t.data.toList.isEmpty && decide (0 ≤ x.n))) := by
    show _ = _
    unfold exMay exOk ndOk
    rw [if_pos (by omega), if_neg (by omega), if_neg (by omega), if_neg (by omega), if_neg (by omega), if_pos h]
    have : (x.op == 7) = false := by simp; omega
    rw [this]; rfl
  obtain ⟨op, n, s, t⟩ := x
  simp only at HM
  unfold Nd.val
  have es : ((s.toList == []) = s.data.toList.isEmpty) := by rw [ByteArray.toList_eq]; cases s.data.toList <;> rfl
  have et : ((t.toList == []) = t.data.toList.isEmpty) := by rw [ByteArray.toList_eq]; cases t.data.toList <;> rfl
  have hop : op = 5 ∨ op = 6 := h
  clear h
  have HL : Hid (∀ (o : Obj) (m : Nat), Below w.heap.size w ((w.alloc o).drewN m)) := fun o m => by
    have h := (Below.refl w.heap.size w).alloc (Nat.le_refl _) o
    exact ⟨h.os, h.tape, h.output, h.size, h.block⟩
  cases hse : s.data.toList.isEmpty <;> cases hte : t.data.toList.isEmpty <;> rw [hse, hte] at HM <;> rw [hse] at es <;> rw [hte] at et
  all_goals
    by_cases hn : 0 ≤ n
    · have hn2 : decide (0 ≤ n) = true := by simpa using hn
      rw [hn2] at HM
      rcases hop with rfl | rfl
      all_goals
        go_enter Tryz.func20, Tryz.ntmps20
        go_wp2
        go_quiet (fail)
        go_wp2
        go_ret2
        exact ⟨ret_two HC.out.symm HM.out.symm, HL.out _ _⟩
    · have hn2 : decide (0 ≤ n) = false := by simpa using hn
      rw [hn2] at HM
      rcases hop with rfl | rfl
      all_goals
        go_enter Tryz.func20, Tryz.ntmps20
        go_wp2
        go_quiet (fail)
        go_wp2
        go_ret2
        exact ⟨ret_two HC.out.symm HM.out.symm, HL.out _ _⟩

set_option maxRecDepth 100000 in
set_option maxHeartbeats 1000000 in
theorem partsOf_other (x : Nd) (w : World) (hx : x.wf) (h : x.op = 7 ∨ x.op < 1 ∨ 27 < x.op) :
    Calls Tryz.prog 20 #[x.val] w fun e w' => e = .returned (.tuple #[.int .i64 (exCnt x), .bool (exMay x)]) ∧ Below w.heap.size w w' := by
  have HC : Hid (exCnt x = 0) := by
    show _ = _
    unfold exCnt
    rw [if_neg (by omega)]
    by_cases h7 : x.op = 7
    · rw [if_pos (.inl h7)]
    · have : prt x = -1 := by
        unfold prt
        rw [if_neg (by omega), if_neg (by omega), if_neg (by omega), if_neg (by omega), if_neg (by omega)]
      rw [this, if_pos (.inr (by omega))]
  have HM : Hid (exMay x = false) := by
    show _ = _
    unfold exMay exOk
    by_cases h7 : x.op = 7
    · simp [h7]
    · have : prt x = -1 := by
        unfold prt
        rw [if_neg (by omega), if_neg (by omega), if_neg (by omega), if_neg (by omega), if_neg (by omega)]
      rw [if_neg (by omega), this, if_pos (by omega)]; simp
  obtain ⟨op, n, s, t⟩ := x
  unfold Nd.val
  have HL : Hid (∀ o, Below w.heap.size w (w.alloc o)) := fun o => (Below.refl _ _).alloc (Nat.le_refl _) _
  simp only at h
  have e : ∀ k : Int, 1 ≤ k → k ≤ 27 → k ≠ 7 → (op == k) = false := fun k h1 h2 h3 => by simp; omega
  have e1 := e 1 (by omega) (by omega) (by omega)
  have e2 := e 2 (by omega) (by omega) (by omega)
  have e3 := e 3 (by omega) (by omega) (by omega)
  have e4 := e 4 (by omega) (by omega) (by omega)
  have e5 := e 5 (by omega) (by omega) (by omega)
  have e6 := e 6 (by omega) (by omega) (by omega)
  have e8 := e 8 (by omega) (by omega) (by omega)
  have e9 := e 9 (by omega) (by omega) (by omega)
  have e10 := e 10 (by omega) (by omega) (by omega)
  have e11 := e 11 (by omega) (by omega) (by omega)
  have e12 := e 12 (by omega) (by omega) (by omega)
  have e13 := e 13 (by omega) (by omega) (by omega)
  have e14 := e 14 (by omega) (by omega) (by omega)
  have e15 := e 15 (by omega) (by omega) (by omega)
  have e16 := e 16 (by omega) (by omega) (by omega)
  have e17 := e 17 (by omega) (by omega) (by omega)
  have e18 := e 18 (by omega) (by omega) (by omega)
  have e19 := e 19 (by omega) (by omega) (by omega)
  have e20 := e 20 (by omega) (by omega) (by omega)
  have e21 := e 21 (by omega) (by omega) (by omega)
  have e22 := e 22 (by omega) (by omega) (by omega)
  have e23 := e 23 (by omega) (by omega) (by omega)
  have e24 := e 24 (by omega) (by omega) (by omega)
  have e25 := e 25 (by omega) (by omega) (by omega)
  have e26 := e 26 (by omega) (by omega) (by omega)
  have e27 := e 27 (by omega) (by omega) (by omega)
  clear e h
  go_enter Tryz.func20, Tryz.ntmps20
  go_wp2
  go_ret2
  exact ⟨ret_two HC.out.symm HM.out.symm, HL.out _⟩

theorem partsOf_any (x : Nd) (w : World) (hx : x.wf) :
    Calls Tryz.prog 20 #[x.val] w fun e w' => e = .returned (.tuple #[.int .i64 (exCnt x), .bool (exMay x)]) ∧ Below w.heap.size w w' := by
  by_cases h1 : 1 ≤ x.op ∧ x.op ≤ 4
  · exact partsOf_value x w hx h1
  by_cases h2 : x.op = 5 ∨ x.op = 6
  · exact partsOf_many x w hx h2
  by_cases h3 : x.op = 7 ∨ x.op < 1 ∨ 27 < x.op
  · exact partsOf_other x w hx h3
  by_cases h4 : x.op = 8 ∨ 21 ≤ x.op ∧ x.op ≤ 24
  · exact partsOf_named x w hx h4
  exact partsOf_bare x w hx (by omega)
end Go.Proofs.YtnpneglipogehaaGreatDoor
