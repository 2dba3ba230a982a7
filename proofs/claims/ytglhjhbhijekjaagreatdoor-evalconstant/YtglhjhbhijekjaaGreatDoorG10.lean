/- Whether a node may stand in a value: package val's need, isText, mayBe, each by a walk of its own text. Package tree's small functions: hasNothing, hasJustS, isName, isText, isWord, isVar, isField, each by a walk of its own text. -/
import Derived.Test.YtglhjhbhijekjaaGreatDoorG4
import Derived.Test.YtglhjhbhijekjaaGreatDoorG7
import Derived.Test.YtglhjhbhijekjaaGreatDoorG9
import Derived.Laws.StructEq
import Derived.Test.YtglhjhbhijekjaaGreatDoorG3
namespace Go.Proofs.YtglhjhbhijekjaaGreatDoor
open Go.RowKit
set_option linter.unusedVariables false

/-- What is thrown where there is no value. -/
def thrown : List PanicEntry := [{ v := .iface 31 (.int .i64 1), recovered := false }]

theorem need_true (w : World) : Calls Tryz.prog 59 #[.bool true] w fun e w' => e = .returned (.tuple #[]) ∧ w' = w := by
  go_enter Tryz.func59, Tryz.ntmps59
  go_wp2
  go_end0
  exact ⟨rfl, rfl⟩
theorem need_false (w : World) : Calls Tryz.prog 59 #[.bool false] w fun e w' => e = .panicked thrown ∧ w' = w := by
  go_enter Tryz.func59, Tryz.ntmps59
  go_wp2
  exact ⟨rfl, rfl, rfl⟩

theorem isText_any (s : ByteArray) (w : World) (hs : s.size ≤ maxLen) :
    Calls Tryz.prog 150 #[.string s] w fun e w' => e = .returned (.bool (textOk s.data.toList)) ∧ Below w.heap.size w w' := by
  by_cases h : 60 < s.size
  · have HT : Hid (textOk s.data.toList = false) := by show _ = _; unfold textOk; simp; intro hh; omega
    go_enter Tryz.func150, Tryz.ntmps150
    go_wp2_with fail
    refine (quote_full s _ hs h).mono ?_
    rintro e w1 ⟨rfl, rfl⟩
    go_wp2
    go_ret
    exact ⟨ret_bool HT.out.symm, Below.refl _ _⟩
  · cases ho : s.data.toList.all okb
    · have HT : Hid (textOk s.data.toList = false) := by show _ = _; unfold textOk; rw [ho]; simp
      go_enter Tryz.func150, Tryz.ntmps150
      go_wp2_with fail
      refine (quote_short s _ (by omega)).mono ?_
      rintro e w1 ⟨rfl, hb⟩
      rw [qres_bad ho]
      go_wp2
      go_ret
      exact ⟨ret_bool HT.out.symm, hb⟩
    · have HT : Hid (textOk s.data.toList = true) := by show _ = _; unfold textOk; rw [ho]; simp; omega
      go_enter Tryz.func150, Tryz.ntmps150
      go_wp2_with fail
      refine (quote_short s _ (by omega)).mono ?_
      rintro e w1 ⟨rfl, hb⟩
      rw [qres_ok ho]
      go_wp2
      go_ret
      exact ⟨ret_bool HT.out.symm, hb⟩

set_option maxHeartbeats 2000000 in
theorem mayBe_any (x : Nd) (w : World) (hx : x.wf) :
    Calls Tryz.prog 99 #[x.val] w fun e w' => e = .returned (.bool (ndOk x)) ∧ Below w.heap.size w w' := by
  obtain ⟨op, n, s, t⟩ := x
  obtain ⟨hs, ht, _⟩ := hx
  unfold Nd.val
  have hal : ∀ o w', Below (w.alloc o).heap.size (w.alloc o) w' → Below w.heap.size w w' := fun o w' h => ((Below.refl _ _).alloc (Nat.le_refl _) _).trans (h.mono (by simp))
  have HL : Hid (∀ o w', Below (w.alloc o).heap.size (w.alloc o) w' → Below w.heap.size w w') := hal
  clear hal
  by_cases h1 : op = 1
  · subst h1
    go_enter Tryz.func99, Tryz.ntmps99
    go_wp2
    all_goals
      go_ret
      refine ⟨ret_bool ?_, HL.out _ _ (Below.refl _ _)⟩
      simp_all [ndOk, ← ByteArray.toList_eq]
  by_cases h2 : op = 2
  · subst h2
    go_enter Tryz.func99, Tryz.ntmps99
    go_wp2
    all_goals
      go_ret
      refine ⟨ret_bool ?_, HL.out _ _ (Below.refl _ _)⟩
      simp_all [ndOk, ← ByteArray.toList_eq]
  by_cases h3 : op = 3
  · subst h3
    have HT := fun w => isText_any s w hs
    cases hT : textOk s.data.toList <;> rw [hT] at HT
    all_goals
      go_enter Tryz.func99, Tryz.ntmps99
      go_wp2_with (go_at_call 150; refine (HT _).mono ?_; rintro e w1 ⟨rfl, hb⟩)
      all_goals
        go_ret
        refine ⟨ret_bool ?_, HL.out _ _ (by first | assumption | exact Below.refl _ _)⟩
        simp_all [ndOk, ByteArray.toList_eq]
  by_cases h4 : op = 4
  · subst h4
    have HT := fun w => isText_any t w ht
    have HC := fun w => check_any s w hs
    by_cases hn : nfault s.data.toList = 0
    · rw [eV_nil hn] at HC
      cases hT : textOk t.data.toList <;> rw [hT] at HT
      all_goals
        go_enter Tryz.func99, Tryz.ntmps99
        go_wp2_with (first | (go_at_call 150; refine (HT _).mono ?_; rintro e w1 ⟨rfl, hb⟩) | (go_at_call 39; refine (HC _).mono ?_; rintro e w1 ⟨rfl, rfl⟩))
        all_goals
          go_ret
          refine ⟨ret_bool ?_, HL.out _ _ (by first | assumption | exact Below.refl _ _)⟩
          simp_all [ndOk]
    · rw [eV_not hn] at HC
      go_enter Tryz.func99, Tryz.ntmps99
      go_wp2_with (first | (go_at_call 150; refine (HT _).mono ?_; rintro e w1 ⟨rfl, hb⟩) | (go_at_call 39; refine (HC _).mono ?_; rintro e w1 ⟨rfl, rfl⟩))
      all_goals
        go_ret
        refine ⟨ret_bool ?_, HL.out _ _ (by first | assumption | exact Below.refl _ _)⟩
        simp_all [ndOk]
  by_cases h56 : op = 5 ∨ op = 6
  · rcases h56 with rfl | rfl
    all_goals
      go_enter Tryz.func99, Tryz.ntmps99
      go_wp2
      all_goals
        go_ret
        refine ⟨ret_bool ?_, HL.out _ _ (Below.refl _ _)⟩
        simp_all [ndOk, ← ByteArray.toList_eq]
  by_cases h7 : op = 7
  · subst h7
    have HC := fun w => check_any s w hs
    by_cases hn : nfault s.data.toList = 0
    · rw [eV_nil hn] at HC
      go_enter Tryz.func99, Tryz.ntmps99
      go_wp2_with (go_at_call 39; refine (HC _).mono ?_; rintro e w1 ⟨rfl, rfl⟩)
      all_goals
        go_ret
        refine ⟨ret_bool ?_, HL.out _ _ (Below.refl _ _)⟩
        simp_all [ndOk, ByteArray.toList_eq]
    · rw [eV_not hn] at HC
      go_enter Tryz.func99, Tryz.ntmps99
      go_wp2_with (go_at_call 39; refine (HC _).mono ?_; rintro e w1 ⟨rfl, rfl⟩)
      all_goals
        go_ret
        refine ⟨ret_bool ?_, HL.out _ _ (Below.refl _ _)⟩
        simp_all [ndOk, ByteArray.toList_eq]
  · have j5 : ¬ op = 5 := fun h => h56 (.inl h)
    have j6 : ¬ op = 6 := fun h => h56 (.inr h)
    have e1 : (op == 1) = false := by simpa using h1
    have e2 : (op == 2) = false := by simpa using h2
    have e3 : (op == 3) = false := by simpa using h3
    have e4 : (op == 4) = false := by simpa using h4
    have e5 : (op == 5) = false := by simpa using j5
    have e6 : (op == 6) = false := by simpa using j6
    have e7 : (op == 7) = false := by simpa using h7
    have HN : Hid (ndOk ⟨op, n, s, t⟩ = false) := by show _ = _; simp [ndOk, h1, h2, h3, h4, j5, j6, h7]
    clear h1 h2 h3 h4 h56 j5 j6 h7
    go_enter Tryz.func99, Tryz.ntmps99
    go_wp2
    go_ret
    exact ⟨ret_bool HN.out.symm, HL.out _ _ (Below.refl _ _)⟩
end Go.Proofs.YtglhjhbhijekjaaGreatDoor
namespace Go.Proofs.YtglhjhbhijekjaaGreatDoor
open Go.RowKit
set_option linter.unusedVariables false

def bare (x : Nd) : Bool := x.n == 0 && (x.s.data.toList.isEmpty && x.t.data.toList.isEmpty)
def justS (x : Nd) : Bool := x.n == 0 && x.t.data.toList.isEmpty

theorem tName_any (s : ByteArray) (w : World) (hs : s.size ≤ maxLen) :
    Calls Tryz.prog 107 #[.string s] w fun e w' => e = .returned (.bool (nfault s.data.toList == 0)) ∧ w' = w := by
  have HC := fun w => check_any s w hs
  cases h : (nfault s.data.toList == 0)
  · rw [eV_not (by simpa using h)] at HC
    go_enter Tryz.func107, Tryz.ntmps107
    go_wp2_with fail
    refine (HC _).mono ?_
    rintro e w1 ⟨rfl, rfl⟩
    go_wp2
    go_ret
    exact ⟨rfl, rfl⟩
  · rw [eV_nil (by simpa using h)] at HC
    go_enter Tryz.func107, Tryz.ntmps107
    go_wp2_with fail
    refine (HC _).mono ?_
    rintro e w1 ⟨rfl, rfl⟩
    go_wp2
    go_ret
    exact ⟨rfl, rfl⟩

theorem tText_any (s : ByteArray) (w : World) (hs : s.size ≤ maxLen) :
    Calls Tryz.prog 108 #[.string s] w fun e w' => e = .returned (.bool (textOk s.data.toList)) ∧ Below w.heap.size w w' := by
  have HC := fun w => quoteN_any s w hs
  cases h : textOk s.data.toList
  · have hn := tfault_not h
    rw [eV_not hn] at HC
    go_enter Tryz.func108, Tryz.ntmps108
    go_wp2_with fail
    refine (HC _).mono ?_
    rintro e w1 ⟨q, _, rfl, hb⟩
    go_wp2
    go_ret
    exact ⟨rfl, hb⟩
  · have hn := tfault_ok h
    rw [eV_nil hn] at HC
    go_enter Tryz.func108, Tryz.ntmps108
    go_wp2_with fail
    refine (HC _).mono ?_
    rintro e w1 ⟨q, _, rfl, hb⟩
    go_wp2
    go_ret
    exact ⟨rfl, hb⟩

theorem hasNothing_any (x : Nd) (w : World) :
    Calls Tryz.prog 106 #[x.val] w fun e w' => e = .returned (.bool (bare x)) ∧ Below w.heap.size w w' := by
  obtain ⟨op, n, s, t⟩ := x
  unfold Nd.val
  have HL : Hid (∀ o w', Below (w.alloc o).heap.size (w.alloc o) w' → Below w.heap.size w w') := fun o w' h => ((Below.refl _ _).alloc (Nat.le_refl _) _).trans (h.mono (by simp))
  go_enter Tryz.func106, Tryz.ntmps106
  go_wp2
  all_goals
    go_ret
    refine ⟨ret_bool ?_, HL.out _ _ (Below.refl _ _)⟩
    simp_all [bare, ← ByteArray.toList_eq]

theorem hasJustS_any (x : Nd) (w : World) :
    Calls Tryz.prog 104 #[x.val] w fun e w' => e = .returned (.bool (justS x)) ∧ Below w.heap.size w w' := by
  obtain ⟨op, n, s, t⟩ := x
  unfold Nd.val
  have HL : Hid (∀ o w', Below (w.alloc o).heap.size (w.alloc o) w' → Below w.heap.size w w') := fun o w' h => ((Below.refl _ _).alloc (Nat.le_refl _) _).trans (h.mono (by simp))
  go_enter Tryz.func104, Tryz.ntmps104
  go_wp2
  all_goals
    go_ret
    refine ⟨ret_bool ?_, HL.out _ _ (Below.refl _ _)⟩
    simp_all [justS, ← ByteArray.toList_eq]

theorem isWord_any (s : ByteArray) (w : World) :
    Calls Tryz.prog 154 #[.string s] w fun e w' => e = .returned (.bool (rsv s.data.toList)) ∧ w' = w := by
  go_enter Tryz.func154, Tryz.ntmps154
  go_wp2
  all_goals
    go_ret
    refine ⟨ret_bool ?_, rfl⟩
    simp_all [rsv, ByteArray.toList_eq]

theorem head_byte (s : ByteArray) (h : 1 ≤ s.size) : (s.extract 0 1).data.toList = s.data.toList.take 1 := by simp
theorem tail_bytes (s : ByteArray) : (s.extract 1 s.size).data.toList = s.data.toList.tail := by
  simp [List.take_of_length_le]
theorem take_head {l : List UInt8} (c : UInt8) : l.take 1 = [c] ↔ l.head? = some c := by cases l <;> simp

theorem hasPrefix_any (s : ByteArray) (w : World) (hs : s.size ≤ maxLen) :
    Calls Tryz.prog 208 #[.string s, .string ⟨#[63]⟩] w fun e w' => e = .returned (.bool (decide (s.data.toList.head? = some 63))) ∧ w' = w := by
  unfold maxLen at hs
  have hl : s.data.toList.length = s.size := by simp
  by_cases h1 : 1 ≤ s.size
  · have h1' : (1 : Int) ≤ (s.size : Int) := by omega
    have HE : Hid (((s.extract 0 1).toList = [63]) ↔ s.data.toList.head? = some 63) := by
      show (_ ↔ _)
      rw [ByteArray.toList_eq, head_byte s h1, take_head]
    go_enter Tryz.func208, Tryz.ntmps208
    go_wp2
    go_ret
    refine ⟨ret_bool ?_, rfl⟩
    rw [Bool.eq_iff_iff, beq_iff_eq, decide_eq_true_iff]
    exact HE.out
  · have h1' : ¬ (1 : Int) ≤ (s.size : Int) := by omega
    have HE : Hid (decide (s.data.toList.head? = some 63) = false) := by
      show _ = _
      have : s.data.toList = [] := List.eq_nil_of_length_eq_zero (by omega)
      rw [this]; rfl
    go_enter Tryz.func208, Tryz.ntmps208
    go_wp2
    go_ret
    exact ⟨ret_bool HE.out.symm, rfl⟩

/-- Without the sign of a slot. -/
def slotOf (s : ByteArray) : ByteArray := if s.data.toList.head? = some 63 then s.extract 1 s.size else s
theorem cutPrefix_yes (s : ByteArray) (w : World) (hs : s.size ≤ maxLen) (h : s.data.toList.head? = some 63) :
    Calls Tryz.prog 153 #[.string s, .string ⟨#[63]⟩] w fun e w' => e = .returned (.tuple #[.string (s.extract 1 s.size), .bool true]) ∧ w' = w := by
  have hl : s.data.toList.length = s.size := by simp
  have h1 : 1 ≤ s.size := by
    cases e : s.data.toList with
    | nil => rw [e] at h; cases h
    | cons a l => rw [e] at hl; simp at hl; omega
  have h1' : (1 : Int) ≤ (s.size : Int) := by omega
  have HP := fun w => hasPrefix_any s w hs
  rw [decide_eq_true h] at HP
  unfold maxLen at hs
  have hin : Calls Tryz.prog 187 #[.string s, .string ⟨#[63]⟩] w fun e w' => e = .returned (.tuple #[.string (s.extract 1 s.size), .bool true]) ∧ w' = w := by
    go_enter Tryz.func187, Tryz.ntmps187
    go_wp2_with fail
    refine (HP _).mono ?_
    rintro e w1 ⟨rfl, rfl⟩
    go_wp2
    go_ret2
    exact ⟨rfl, rfl⟩
  go_enter Tryz.func153, Tryz.ntmps153
  go_wp2_with fail
  refine hin.mono ?_
  rintro e w1 ⟨rfl, rfl⟩
  go_wp2
  go_ret2
  exact ⟨rfl, rfl⟩
theorem cutPrefix_no (s : ByteArray) (w : World) (hs : s.size ≤ maxLen) (h : s.data.toList.head? ≠ some 63) :
    Calls Tryz.prog 153 #[.string s, .string ⟨#[63]⟩] w fun e w' => e = .returned (.tuple #[.string s, .bool false]) ∧ w' = w := by
  have HP := fun w => hasPrefix_any s w hs
  rw [decide_eq_false h] at HP
  have hin : Calls Tryz.prog 187 #[.string s, .string ⟨#[63]⟩] w fun e w' => e = .returned (.tuple #[.string s, .bool false]) ∧ w' = w := by
    go_enter Tryz.func187, Tryz.ntmps187
    go_wp2_with fail
    refine (HP _).mono ?_
    rintro e w1 ⟨rfl, rfl⟩
    go_wp2
    go_ret2
    exact ⟨rfl, rfl⟩
  go_enter Tryz.func153, Tryz.ntmps153
  go_wp2_with fail
  refine hin.mono ?_
  rintro e w1 ⟨rfl, rfl⟩
  go_wp2
  go_ret2
  exact ⟨rfl, rfl⟩

theorem isVar_any (s : ByteArray) (w : World) (hs : s.size ≤ maxLen) :
    Calls Tryz.prog 105 #[.string s] w fun e w' => e = .returned (.bool (varOk s.data.toList)) ∧ w' = w := by
  by_cases h : s.data.toList.head? = some 63
  · have HV : Hid (varOk s.data.toList = (nfault (s.extract 1 s.size).data.toList == 0)) := by
      show _ = _
      unfold varOk; rw [if_pos h, tail_bytes]
    have HN := fun w => tName_any (s.extract 1 s.size) w (Nat.le_trans (by simp) hs)
    have HP := fun w => cutPrefix_yes s w hs h
    clear h
    generalize s.extract 1 s.size = u at *
    go_enter Tryz.func105, Tryz.ntmps105
    go_wp2_with fail
    refine (HP _).mono ?_
    rintro e w1 ⟨rfl, rfl⟩
    go_wp2_with fail
    refine (HN _).mono ?_
    rintro e w1 ⟨rfl, rfl⟩
    go_wp2
    go_ret
    exact ⟨ret_bool HV.out.symm, rfl⟩
  · have HV : Hid (varOk s.data.toList = (nfault s.data.toList == 0 && !rsv s.data.toList)) := by
      show _ = _
      unfold varOk; rw [if_neg h]
    have HN := fun w => tName_any s w hs
    have HP := fun w => cutPrefix_no s w hs h
    have HW := fun w => isWord_any s w
    clear h
    generalize rsv s.data.toList = r at *
    cases hn : (nfault s.data.toList == 0) <;> rw [hn] at HN HV
    · go_enter Tryz.func105, Tryz.ntmps105
      go_wp2_with fail
      refine (HP _).mono ?_
      rintro e w1 ⟨rfl, rfl⟩
      go_wp2_with fail
      refine (HN _).mono ?_
      rintro e w1 ⟨rfl, rfl⟩
      go_wp2
      go_ret
      exact ⟨ret_bool HV.out.symm, rfl⟩
    · go_enter Tryz.func105, Tryz.ntmps105
      go_wp2_with fail
      refine (HP _).mono ?_
      rintro e w1 ⟨rfl, rfl⟩
      go_wp2_with fail
      refine (HN _).mono ?_
      rintro e w1 ⟨rfl, rfl⟩
      go_wp2_with fail
      refine (HW _).mono ?_
      rintro e w1 ⟨rfl, rfl⟩
      go_wp2
      go_ret
      exact ⟨ret_bool HV.out.symm, rfl⟩

theorem isField_any (x : Nd) (w : World) (hx : x.wf) :
    Calls Tryz.prog 109 #[x.val] w fun e w' => e = .returned (.bool (x.op == 7 && ndOk x)) ∧ Below w.heap.size w w' := by
  have HJ := fun w => hasJustS_any x w
  have HN := fun w => tName_any x.s w hx.1
  have HB : Hid ((x.op == 7 && ndOk x) = (x.op == 7 && (justS x && (nfault x.s.data.toList == 0)))) := by
    show _ = _
    by_cases h7 : x.op = 7
    · unfold ndOk justS; simp [h7]
    · have : (x.op == 7) = false := by simpa using h7
      rw [this]; rfl
  rw [HB.out]
  clear HB
  generalize hj : justS x = j at *
  generalize hn : (nfault x.s.data.toList == 0) = n at *
  clear hj hn
  obtain ⟨op, m, s, t⟩ := x
  unfold Nd.val at *
  have HL : Hid (∀ o w', Below (w.alloc o).heap.size (w.alloc o) w' → Below w.heap.size w w') := fun o w' h => ((Below.refl _ _).alloc (Nat.le_refl _) _).trans (h.mono (by simp))
  simp only at *
  cases h7 : (op == 7)
  · go_enter Tryz.func109, Tryz.ntmps109
    go_wp2
    go_ret
    exact ⟨rfl, HL.out _ _ (Below.refl _ _)⟩
  · have hal : ∀ w', Below (w.alloc (.cells #[.int .i64 op, .int .i64 m, .string s, .string t] 53)).heap.size (w.alloc (.cells #[.int .i64 op, .int .i64 m, .string s, .string t] 53)) w' → w'.cell? ⟨w.heap.size, 2, none⟩ = some (.string s) := fun w' hb => (hb.cell (p := ⟨w.heap.size, 2, none⟩) (by simp)).trans (by simp [go_sem])
    have HAL : Hid (∀ _, _) := hal
    clear hal
    cases j
    · go_enter Tryz.func109, Tryz.ntmps109
      go_wp2_with fail
      refine (HJ _).mono ?_
      rintro e w1 ⟨rfl, hb⟩
      go_wp2
      go_ret
      exact ⟨rfl, HL.out _ _ hb⟩
    · go_enter Tryz.func109, Tryz.ntmps109
      go_wp2_with fail
      refine (HJ _).mono ?_
      rintro e w1 ⟨rfl, hb⟩
      have hc := HAL.out _ hb
      go_wp2_with fail
      refine (HN _).mono ?_
      rintro e w2 ⟨rfl, rfl⟩
      go_wp2
      go_ret
      exact ⟨rfl, HL.out _ _ hb⟩
end Go.Proofs.YtglhjhbhijekjaaGreatDoor
