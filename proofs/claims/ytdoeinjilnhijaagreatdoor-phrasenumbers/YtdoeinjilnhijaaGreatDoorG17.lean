/- Package tree's small functions: hasNothing, hasJustS, isName, isText, isWord, isVar, isField, each by a walk of its own text. Whether a node may stand in a value: package val's need, isText, mayBe, each by a walk of its own text. A reader of words in memory: its block, what is kept but for it. Package phrase's reader: need, itself, ahead, says, passes, pass, take; by walks of their own texts. Package phrase's reader: pass, take; by walks of their own texts. Maps from texts to whole numbers, as the call lays them: made, put, looked up. -/
import Derived.Test.YtdoeinjilnhijaaGreatDoorG4
import Derived.Test.YtdoeinjilnhijaaGreatDoorG5
import Derived.Test.YtdoeinjilnhijaaGreatDoorG12
import Derived.Test.YtdoeinjilnhijaaGreatDoorG16
import Derived.Laws.StructEq
import Derived.Test.YtdoeinjilnhijaaGreatDoorG3
import Derived.Test.YtdoeinjilnhijaaGreatDoorG6
import Derived.Test.YtdoeinjilnhijaaGreatDoorG7
import Derived.Test.YtdoeinjilnhijaaGreatDoorG11
import Derived.StillTailTactics
import Derived.Deep.QuietTactic
import Derived.Maps.OwnSet
namespace Go.Proofs.YtdoeinjilnhijaaGreatDoor
open Go.RowKit
set_option linter.unusedVariables false

def bare (x : Nd) : Bool := x.n == 0 && (x.s.data.toList.isEmpty && x.t.data.toList.isEmpty)
def justS (x : Nd) : Bool := x.n == 0 && x.t.data.toList.isEmpty

theorem tName_any (s : ByteArray) (w : World) (hs : s.size ≤ maxLen) :
    Calls Tryz.prog 79 #[.string s] w fun e w' => e = .returned (.bool (nfault s.data.toList == 0)) ∧ w' = w := by
  have HC := fun w => check_any s w hs
  cases h : (nfault s.data.toList == 0)
  · rw [eV_not (by simpa using h)] at HC
    go_enter Tryz.func79, Tryz.ntmps79
    go_wp2_with fail
    refine (HC _).mono ?_
    rintro e w1 ⟨rfl, rfl⟩
    go_wp2
    go_ret
    exact ⟨rfl, rfl⟩
  · rw [eV_nil (by simpa using h)] at HC
    go_enter Tryz.func79, Tryz.ntmps79
    go_wp2_with fail
    refine (HC _).mono ?_
    rintro e w1 ⟨rfl, rfl⟩
    go_wp2
    go_ret
    exact ⟨rfl, rfl⟩

theorem tText_any (s : ByteArray) (w : World) (hs : s.size ≤ maxLen) :
    Calls Tryz.prog 80 #[.string s] w fun e w' => e = .returned (.bool (textOk s.data.toList)) ∧ Below w.heap.size w w' := by
  have HC := fun w => quoteN_any s w hs
  cases h : textOk s.data.toList
  · have hn := tfault_not h
    rw [eV_not hn] at HC
    go_enter Tryz.func80, Tryz.ntmps80
    go_wp2_with fail
    refine (HC _).mono ?_
    rintro e w1 ⟨q, _, rfl, hb⟩
    go_wp2
    go_ret
    exact ⟨rfl, hb⟩
  · have hn := tfault_ok h
    rw [eV_nil hn] at HC
    go_enter Tryz.func80, Tryz.ntmps80
    go_wp2_with fail
    refine (HC _).mono ?_
    rintro e w1 ⟨q, _, rfl, hb⟩
    go_wp2
    go_ret
    exact ⟨rfl, hb⟩

theorem hasNothing_any (x : Nd) (w : World) :
    Calls Tryz.prog 78 #[x.val] w fun e w' => e = .returned (.bool (bare x)) ∧ Below w.heap.size w w' := by
  obtain ⟨op, n, s, t⟩ := x
  unfold Nd.val
  have HL : Hid (∀ o w', Below (w.alloc o).heap.size (w.alloc o) w' → Below w.heap.size w w') := fun o w' h => ((Below.refl _ _).alloc (Nat.le_refl _) _).trans (h.mono (by simp))
  go_enter Tryz.func78, Tryz.ntmps78
  go_wp2
  all_goals
    go_ret
    refine ⟨ret_bool ?_, HL.out _ _ (Below.refl _ _)⟩
    simp_all [bare, ← ByteArray.toList_eq]

theorem hasJustS_any (x : Nd) (w : World) :
    Calls Tryz.prog 76 #[x.val] w fun e w' => e = .returned (.bool (justS x)) ∧ Below w.heap.size w w' := by
  obtain ⟨op, n, s, t⟩ := x
  unfold Nd.val
  have HL : Hid (∀ o w', Below (w.alloc o).heap.size (w.alloc o) w' → Below w.heap.size w w') := fun o w' h => ((Below.refl _ _).alloc (Nat.le_refl _) _).trans (h.mono (by simp))
  go_enter Tryz.func76, Tryz.ntmps76
  go_wp2
  all_goals
    go_ret
    refine ⟨ret_bool ?_, HL.out _ _ (Below.refl _ _)⟩
    simp_all [justS, ← ByteArray.toList_eq]

theorem isWord_any (s : ByteArray) (w : World) :
    Calls Tryz.prog 107 #[.string s] w fun e w' => e = .returned (.bool (rsv s.data.toList)) ∧ w' = w := by
  go_enter Tryz.func107, Tryz.ntmps107
  go_wp2
  all_goals
    go_ret
    refine ⟨ret_bool ?_, rfl⟩
    simp_all [rsv, ByteArray.toList_eq]

theorem head_byte (s : ByteArray) (h : 1 ≤ s.size) : (s.extract 0 1).data.toList = s.data.toList.take 1 := by simp
theorem tail_bytes (s : ByteArray) : (s.extract 1 s.size).data.toList = s.data.toList.tail := by
  simp [List.take_of_length_le]
theorem take_head {l : List UInt8} (c : UInt8) : l.take 1 = [c] ↔ l.head? = some c := by cases l <;> simp

theorem hasPrefix_any (s : ByteArray) (w : World) (hs : s.size ≤ maxLen) :
    Calls Tryz.prog 142 #[.string s, .string ⟨#[63]⟩] w fun e w' => e = .returned (.bool (decide (s.data.toList.head? = some 63))) ∧ w' = w := by
  unfold maxLen at hs
  have hl : s.data.toList.length = s.size := by simp
  by_cases h1 : 1 ≤ s.size
  · have h1' : (1 : Int) ≤ (s.size : Int) := by omega
    have HE : Hid (((s.extract 0 1).toList = [63]) ↔ s.data.toList.head? = some 63) := by
      show (_ ↔ _)
      rw [ByteArray.toList_eq, head_byte s h1, take_head]
    go_enter Tryz.func142, Tryz.ntmps142
    go_wp2
    go_ret
    refine ⟨ret_bool ?_, rfl⟩
    rw [Bool.eq_iff_iff, beq_iff_eq, decide_eq_true_iff]
    exact HE.out
  · have h1' : ¬ (1 : Int) ≤ (s.size : Int) := by omega
    have HE : Hid (decide (s.data.toList.head? = some 63) = false) := by
      show _ = _
      have : s.data.toList = [] := List.eq_nil_of_length_eq_zero (by omega)
      rw [this]; rfl
    go_enter Tryz.func142, Tryz.ntmps142
    go_wp2
    go_ret
    exact ⟨ret_bool HE.out.symm, rfl⟩

/-- Without the sign of a slot. -/
def slotOf (s : ByteArray) : ByteArray := if s.data.toList.head? = some 63 then s.extract 1 s.size else s
theorem cutPrefix_yes (s : ByteArray) (w : World) (hs : s.size ≤ maxLen) (h : s.data.toList.head? = some 63) :
    Calls Tryz.prog 106 #[.string s, .string ⟨#[63]⟩] w fun e w' => e = .returned (.tuple #[.string (s.extract 1 s.size), .bool true]) ∧ w' = w := by
  have hl : s.data.toList.length = s.size := by simp
  have h1 : 1 ≤ s.size := by
    cases e : s.data.toList with
    | nil => rw [e] at h; cases h
    | cons a l => rw [e] at hl; simp at hl; omega
  have h1' : (1 : Int) ≤ (s.size : Int) := by omega
  have HP := fun w => hasPrefix_any s w hs
  rw [decide_eq_true h] at HP
  unfold maxLen at hs
  have hin : Calls Tryz.prog 127 #[.string s, .string ⟨#[63]⟩] w fun e w' => e = .returned (.tuple #[.string (s.extract 1 s.size), .bool true]) ∧ w' = w := by
    go_enter Tryz.func127, Tryz.ntmps127
    go_wp2_with fail
    refine (HP _).mono ?_
    rintro e w1 ⟨rfl, rfl⟩
    go_wp2
    go_ret2
    exact ⟨rfl, rfl⟩
  go_enter Tryz.func106, Tryz.ntmps106
  go_wp2_with fail
  refine hin.mono ?_
  rintro e w1 ⟨rfl, rfl⟩
  go_wp2
  go_ret2
  exact ⟨rfl, rfl⟩
theorem cutPrefix_no (s : ByteArray) (w : World) (hs : s.size ≤ maxLen) (h : s.data.toList.head? ≠ some 63) :
    Calls Tryz.prog 106 #[.string s, .string ⟨#[63]⟩] w fun e w' => e = .returned (.tuple #[.string s, .bool false]) ∧ w' = w := by
  have HP := fun w => hasPrefix_any s w hs
  rw [decide_eq_false h] at HP
  have hin : Calls Tryz.prog 127 #[.string s, .string ⟨#[63]⟩] w fun e w' => e = .returned (.tuple #[.string s, .bool false]) ∧ w' = w := by
    go_enter Tryz.func127, Tryz.ntmps127
    go_wp2_with fail
    refine (HP _).mono ?_
    rintro e w1 ⟨rfl, rfl⟩
    go_wp2
    go_ret2
    exact ⟨rfl, rfl⟩
  go_enter Tryz.func106, Tryz.ntmps106
  go_wp2_with fail
  refine hin.mono ?_
  rintro e w1 ⟨rfl, rfl⟩
  go_wp2
  go_ret2
  exact ⟨rfl, rfl⟩

theorem isVar_any (s : ByteArray) (w : World) (hs : s.size ≤ maxLen) :
    Calls Tryz.prog 77 #[.string s] w fun e w' => e = .returned (.bool (varOk s.data.toList)) ∧ w' = w := by
  by_cases h : s.data.toList.head? = some 63
  · have HV : Hid (varOk s.data.toList = (nfault (s.extract 1 s.size).data.toList == 0)) := by
      show _ = _
      unfold varOk; rw [if_pos h, tail_bytes]
    have HN := fun w => tName_any (s.extract 1 s.size) w (Nat.le_trans (by simp) hs)
    have HP := fun w => cutPrefix_yes s w hs h
    clear h
    generalize s.extract 1 s.size = u at *
    go_enter Tryz.func77, Tryz.ntmps77
    go_wp2_with fail
    refine (HP _).mono ?_
    rintro e w1 ⟨rfl, rfl⟩
    go_wp2_with fail
    refine (HN _).mono ?_
    rintro e w1 ⟨rfl, rfl⟩
    go_wp2
    go_ret
    exact ⟨ret_bool HV.out.symm, rfl⟩
  · have HV : Hid (varOk s.data.toList = (nfault s.data.toList == 0 && !rsv s.data.toList)) := by
      show _ = _
      unfold varOk; rw [if_neg h]
    have HN := fun w => tName_any s w hs
    have HP := fun w => cutPrefix_no s w hs h
    have HW := fun w => isWord_any s w
    clear h
    generalize rsv s.data.toList = r at *
    cases hn : (nfault s.data.toList == 0) <;> rw [hn] at HN HV
    · go_enter Tryz.func77, Tryz.ntmps77
      go_wp2_with fail
      refine (HP _).mono ?_
      rintro e w1 ⟨rfl, rfl⟩
      go_wp2_with fail
      refine (HN _).mono ?_
      rintro e w1 ⟨rfl, rfl⟩
      go_wp2
      go_ret
      exact ⟨ret_bool HV.out.symm, rfl⟩
    · go_enter Tryz.func77, Tryz.ntmps77
      go_wp2_with fail
      refine (HP _).mono ?_
      rintro e w1 ⟨rfl, rfl⟩
      go_wp2_with fail
      refine (HN _).mono ?_
      rintro e w1 ⟨rfl, rfl⟩
      go_wp2_with fail
      refine (HW _).mono ?_
      rintro e w1 ⟨rfl, rfl⟩
      go_wp2
      go_ret
      exact ⟨ret_bool HV.out.symm, rfl⟩

theorem isField_any (x : Nd) (w : World) (hx : x.wf) :
    Calls Tryz.prog 81 #[x.val] w fun e w' => e = .returned (.bool (x.op == 7 && ndOk x)) ∧ Below w.heap.size w w' := by
  have HJ := fun w => hasJustS_any x w
  have HN := fun w => tName_any x.s w hx.1
  have HB : Hid ((x.op == 7 && ndOk x) = (x.op == 7 && (justS x && (nfault x.s.data.toList == 0)))) := by
    show _ = _
    by_cases h7 : x.op = 7
    · unfold ndOk justS; simp [h7]
    · have : (x.op == 7) = false := by simpa using h7
      rw [this]; rfl
  rw [HB.out]
  clear HB
  generalize hj : justS x = j at *
  generalize hn : (nfault x.s.data.toList == 0) = n at *
  clear hj hn
  obtain ⟨op, m, s, t⟩ := x
  unfold Nd.val at *
  have HL : Hid (∀ o w', Below (w.alloc o).heap.size (w.alloc o) w' → Below w.heap.size w w') := fun o w' h => ((Below.refl _ _).alloc (Nat.le_refl _) _).trans (h.mono (by simp))
  simp only at *
  cases h7 : (op == 7)
  · go_enter Tryz.func81, Tryz.ntmps81
    go_wp2
    go_ret
    exact ⟨rfl, HL.out _ _ (Below.refl _ _)⟩
  · have hal : ∀ w', Below (w.alloc (.cells #[.int .i64 op, .int .i64 m, .string s, .string t] 29)).heap.size (w.alloc (.cells #[.int .i64 op, .int .i64 m, .string s, .string t] 29)) w' → w'.cell? ⟨w.heap.size, 2, none⟩ = some (.string s) := fun w' hb => (hb.cell (p := ⟨w.heap.size, 2, none⟩) (by simp)).trans (by simp [go_sem])
    have HAL : Hid (∀ _, _) := hal
    clear hal
    cases j
    · go_enter Tryz.func81, Tryz.ntmps81
      go_wp2_with fail
      refine (HJ _).mono ?_
      rintro e w1 ⟨rfl, hb⟩
      go_wp2
      go_ret
      exact ⟨rfl, HL.out _ _ hb⟩
    · go_enter Tryz.func81, Tryz.ntmps81
      go_wp2_with fail
      refine (HJ _).mono ?_
      rintro e w1 ⟨rfl, hb⟩
      have hc := HAL.out _ hb
      go_wp2_with fail
      refine (HN _).mono ?_
      rintro e w2 ⟨rfl, rfl⟩
      go_wp2
      go_ret
      exact ⟨rfl, HL.out _ _ hb⟩
end Go.Proofs.YtdoeinjilnhijaaGreatDoor
namespace Go.Proofs.YtdoeinjilnhijaaGreatDoor
open Go.RowKit
set_option linter.unusedVariables false

/-- What is thrown where there is no value. -/
def thrown : List PanicEntry := [{ v := .iface 33 (.int .i64 1), recovered := false }]

theorem need_true (w : World) : Calls Tryz.prog 125 #[.bool true] w fun e w' => e = .returned (.tuple #[]) ∧ w' = w := by
  go_enter Tryz.func125, Tryz.ntmps125
  go_wp2
  go_end0
  exact ⟨rfl, rfl⟩
theorem need_false (w : World) : Calls Tryz.prog 125 #[.bool false] w fun e w' => e = .panicked thrown ∧ w' = w := by
  go_enter Tryz.func125, Tryz.ntmps125
  go_wp2
  exact ⟨rfl, rfl, rfl⟩

theorem isText_any (s : ByteArray) (w : World) (hs : s.size ≤ maxLen) :
    Calls Tryz.prog 153 #[.string s] w fun e w' => e = .returned (.bool (textOk s.data.toList)) ∧ Below w.heap.size w w' := by
  by_cases h : 60 < s.size
  · have HT : Hid (textOk s.data.toList = false) := by show _ = _; unfold textOk; simp; intro hh; omega
    go_enter Tryz.func153, Tryz.ntmps153
    go_wp2_with fail
    refine (quote_full s _ hs h).mono ?_
    rintro e w1 ⟨rfl, rfl⟩
    go_wp2
    go_ret
    exact ⟨ret_bool HT.out.symm, Below.refl _ _⟩
  · cases ho : s.data.toList.all okb
    · have HT : Hid (textOk s.data.toList = false) := by show _ = _; unfold textOk; rw [ho]; simp
      go_enter Tryz.func153, Tryz.ntmps153
      go_wp2_with fail
      refine (quote_short s _ (by omega)).mono ?_
      rintro e w1 ⟨rfl, hb⟩
      rw [qres_bad ho]
      go_wp2
      go_ret
      exact ⟨ret_bool HT.out.symm, hb⟩
    · have HT : Hid (textOk s.data.toList = true) := by show _ = _; unfold textOk; rw [ho]; simp; omega
      go_enter Tryz.func153, Tryz.ntmps153
      go_wp2_with fail
      refine (quote_short s _ (by omega)).mono ?_
      rintro e w1 ⟨rfl, hb⟩
      rw [qres_ok ho]
      go_wp2
      go_ret
      exact ⟨ret_bool HT.out.symm, hb⟩

set_option maxHeartbeats 2000000 in
theorem mayBe_any (x : Nd) (w : World) (hx : x.wf) :
    Calls Tryz.prog 139 #[x.val] w fun e w' => e = .returned (.bool (ndOk x)) ∧ Below w.heap.size w w' := by
  obtain ⟨op, n, s, t⟩ := x
  obtain ⟨hs, ht, _⟩ := hx
  unfold Nd.val
  have hal : ∀ o w', Below (w.alloc o).heap.size (w.alloc o) w' → Below w.heap.size w w' := fun o w' h => ((Below.refl _ _).alloc (Nat.le_refl _) _).trans (h.mono (by simp))
  have HL : Hid (∀ o w', Below (w.alloc o).heap.size (w.alloc o) w' → Below w.heap.size w w') := hal
  clear hal
  by_cases h1 : op = 1
  · subst h1
    go_enter Tryz.func139, Tryz.ntmps139
    go_wp2
    all_goals
      go_ret
      refine ⟨ret_bool ?_, HL.out _ _ (Below.refl _ _)⟩
      simp_all [ndOk, ← ByteArray.toList_eq]
  by_cases h2 : op = 2
  · subst h2
    go_enter Tryz.func139, Tryz.ntmps139
    go_wp2
    all_goals
      go_ret
      refine ⟨ret_bool ?_, HL.out _ _ (Below.refl _ _)⟩
      simp_all [ndOk, ← ByteArray.toList_eq]
  by_cases h3 : op = 3
  · subst h3
    have HT := fun w => isText_any s w hs
    cases hT : textOk s.data.toList <;> rw [hT] at HT
    all_goals
      go_enter Tryz.func139, Tryz.ntmps139
      go_wp2_with (go_at_call 153; refine (HT _).mono ?_; rintro e w1 ⟨rfl, hb⟩)
      all_goals
        go_ret
        refine ⟨ret_bool ?_, HL.out _ _ (by first | assumption | exact Below.refl _ _)⟩
        simp_all [ndOk, ByteArray.toList_eq]
  by_cases h4 : op = 4
  · subst h4
    have HT := fun w => isText_any t w ht
    have HC := fun w => check_any s w hs
    by_cases hn : nfault s.data.toList = 0
    · rw [eV_nil hn] at HC
      cases hT : textOk t.data.toList <;> rw [hT] at HT
      all_goals
        go_enter Tryz.func139, Tryz.ntmps139
        go_wp2_with (first | (go_at_call 153; refine (HT _).mono ?_; rintro e w1 ⟨rfl, hb⟩) | (go_at_call 51; refine (HC _).mono ?_; rintro e w1 ⟨rfl, rfl⟩))
        all_goals
          go_ret
          refine ⟨ret_bool ?_, HL.out _ _ (by first | assumption | exact Below.refl _ _)⟩
          simp_all [ndOk]
    · rw [eV_not hn] at HC
      go_enter Tryz.func139, Tryz.ntmps139
      go_wp2_with (first | (go_at_call 153; refine (HT _).mono ?_; rintro e w1 ⟨rfl, hb⟩) | (go_at_call 51; refine (HC _).mono ?_; rintro e w1 ⟨rfl, rfl⟩))
      all_goals
        go_ret
        refine ⟨ret_bool ?_, HL.out _ _ (by first | assumption | exact Below.refl _ _)⟩
        simp_all [ndOk]
  by_cases h56 : op = 5 ∨ op = 6
  · rcases h56 with rfl | rfl
    all_goals
      go_enter Tryz.func139, Tryz.ntmps139
      go_wp2
      all_goals
        go_ret
        refine ⟨ret_bool ?_, HL.out _ _ (Below.refl _ _)⟩
        simp_all [ndOk, ← ByteArray.toList_eq]
  by_cases h7 : op = 7
  · subst h7
    have HC := fun w => check_any s w hs
    by_cases hn : nfault s.data.toList = 0
    · rw [eV_nil hn] at HC
      go_enter Tryz.func139, Tryz.ntmps139
      go_wp2_with (go_at_call 51; refine (HC _).mono ?_; rintro e w1 ⟨rfl, rfl⟩)
      all_goals
        go_ret
        refine ⟨ret_bool ?_, HL.out _ _ (Below.refl _ _)⟩
        simp_all [ndOk, ByteArray.toList_eq]
    · rw [eV_not hn] at HC
      go_enter Tryz.func139, Tryz.ntmps139
      go_wp2_with (go_at_call 51; refine (HC _).mono ?_; rintro e w1 ⟨rfl, rfl⟩)
      all_goals
        go_ret
        refine ⟨ret_bool ?_, HL.out _ _ (Below.refl _ _)⟩
        simp_all [ndOk, ByteArray.toList_eq]
  · have j5 : ¬ op = 5 := fun h => h56 (.inl h)
    have j6 : ¬ op = 6 := fun h => h56 (.inr h)
    have e1 : (op == 1) = false := by simpa using h1
    have e2 : (op == 2) = false := by simpa using h2
    have e3 : (op == 3) = false := by simpa using h3
    have e4 : (op == 4) = false := by simpa using h4
    have e5 : (op == 5) = false := by simpa using j5
    have e6 : (op == 6) = false := by simpa using j6
    have e7 : (op == 7) = false := by simpa using h7
    have HN : Hid (ndOk ⟨op, n, s, t⟩ = false) := by show _ = _; simp [ndOk, h1, h2, h3, h4, j5, j6, h7]
    clear h1 h2 h3 h4 h56 j5 j6 h7
    go_enter Tryz.func139, Tryz.ntmps139
    go_wp2
    go_ret
    exact ⟨ret_bool HN.out.symm, HL.out _ _ (Below.refl _ _)⟩
end Go.Proofs.YtdoeinjilnhijaaGreatDoor
namespace Go.Proofs.YtdoeinjilnhijaaGreatDoor
open Go.RowKit
set_option linter.unusedVariables false

/-- All that lay in w is in w' as it was, but for one block. -/
structure BX (B : Nat) (w w' : World) : Prop where
  os : w'.os = w.os
  tape : w'.tape = w.tape
  output : w'.output = w.output
  size : w.heap.size ≤ w'.heap.size
  block : ∀ k, k < w.heap.size → k ≠ B → w'.heap[k]? = w.heap[k]?
theorem BX.refl (B : Nat) (w : World) : BX B w w := ⟨rfl, rfl, rfl, Nat.le_refl _, fun _ _ _ => rfl⟩
theorem BX.trans {B : Nat} {a b c : World} (h : BX B a b) (k : BX B b c) : BX B a c :=
  ⟨k.os.trans h.os, k.tape.trans h.tape, k.output.trans h.output, Nat.le_trans h.size k.size, fun i hi hn => (k.block i (Nat.lt_of_lt_of_le hi h.size) hn).trans (h.block i hi hn)⟩
theorem BX.of_below {B : Nat} {w w' : World} (h : Below w.heap.size w w') : BX B w w' := ⟨h.os, h.tape, h.output, h.size, fun i hi _ => h.block i hi⟩
theorem BX.up {B : Nat} {a w w' : World} (h : BX B a w) (k : Below w.heap.size w w') : BX B a w' := h.trans (BX.of_below k)
theorem BX.set {B : Nat} {a w : World} (h : BX B a w) (i : Nat) (v : Value) : BX B a (w.setCell ⟨B, i, none⟩ v) :=
  h.trans ⟨rfl, rfl, rfl, by simp, fun k _ hn => Below.heap_setCell w ⟨B, i, none⟩ v k hn⟩
theorem BX.cell {B : Nat} {w w' : World} (h : BX B w w') {p : Addr} (hp : p.block < w.heap.size) (hn : p.block ≠ B) : w'.cell? p = w.cell? p := by
  unfold World.cell?; rw [h.block p.block hp hn]
/-- Below a mark that is not above the block nothing has changed. -/
theorem BX.below {B N : Nat} {w w' : World} (h : BX B w w') (hN : N ≤ B) (hB : B < w.heap.size) : Below N w w' :=
  ⟨h.os, h.tape, h.output, h.size, fun k hk => h.block k (by omega) (by omega)⟩

/-- What the variable of errors out of range holds. -/
def ErrIn (w : World) : Prop := ∃ ev, w.cell? ⟨8, 0, none⟩ = some ev ∧ (ev = .nilIface ∨ ∃ te pe, ev = .iface te pe)
/-- A reader of words, so far on. -/
structure RS (w : World) (B : Nat) (p : Option Addr) (c : Nat) (ts : List Tk) (k : Nat) : Prop where
  blk : w.heap[B]? = some (.cells #[.slice p ts.length c, .int .i64 (k : Int)] 75 (0, 0))
  tk : TKL w p ts
  ne : ts = [] ∨ ∀ a, p = some a → a.block ≠ B
  le : k ≤ ts.length
  len : ts.length ≤ 300
  all : AllS ts
  er : ErrIn w
  ge : 8 < B
theorem RS.lt {w : World} {B : Nat} {p : Option Addr} {c : Nat} {ts : List Tk} {k : Nat} (h : RS w B p c ts k) : B < w.heap.size := (Array.getElem?_eq_some_iff.1 h.blk).1
theorem RS.c0 {w : World} {B : Nat} {p : Option Addr} {c : Nat} {ts : List Tk} {k : Nat} (h : RS w B p c ts k) : w.cell? ⟨B, 0, none⟩ = some (.slice p ts.length c) := by
  simp [World.cell?, h.blk]
theorem RS.c1 {w : World} {B : Nat} {p : Option Addr} {c : Nat} {ts : List Tk} {k : Nat} (h : RS w B p c ts k) : w.cell? ⟨B, 1, none⟩ = some (.int .i64 (k : Int)) := by
  simp [World.cell?, h.blk]
theorem RS.fz {w : World} {B : Nat} {p : Option Addr} {c : Nat} {ts : List Tk} {k : Nat} (h : RS w B p c ts k) : w.frozen? ⟨B, 1, none⟩ = false := by
  simp [World.frozen?, h.blk]
theorem TKL.bx {B : Nat} {w w' : World} {p : Option Addr} {L : List Tk} (h : TKL w p L) (hn : L = [] ∨ ∀ a, p = some a → a.block ≠ B) (k : BX B w w') : TKL w' p L := by
  rcases hn with hn | hn
  · exact .inl hn
  rcases h with h | ⟨b, off, h1, h2, h3⟩
  · exact .inl h
  · refine .inr ⟨b, off, h1, Nat.lt_of_lt_of_le h2 k.size, fun i x hx => ?_⟩
    have q : ∀ o, w'.cell? ⟨b, o, none⟩ = w.cell? ⟨b, o, none⟩ := fun o => k.cell (p := ⟨b, o, none⟩) h2 (hn ⟨b, off, none⟩ h1)
    simp only [q]
    exact h3 i x hx
theorem ErrIn.bx {B : Nat} {w w' : World} (h : ErrIn w) (hB : 8 < B) (k : BX B w w') (hlt : B < w.heap.size) : ErrIn w' := by
  obtain ⟨ev, h1, h2⟩ := h
  exact ⟨ev, (k.cell (p := ⟨8, 0, none⟩) (by show 8 < _; omega) (by show 8 ≠ _; omega)).trans h1, h2⟩
/-- What is behind a world that keeps all but the reader, the reader further on. -/
theorem RS.next {w w' : World} {B : Nat} {p : Option Addr} {c : Nat} {ts : List Tk} {k k' : Nat} (h : RS w B p c ts k) (hx : BX B w w') (hk : k' ≤ ts.length)
    (hb : w'.heap[B]? = some (.cells #[.slice p ts.length c, .int .i64 (k' : Int)] 75 (0, 0))) : RS w' B p c ts k' :=
  ⟨hb, h.tk.bx h.ne hx, h.ne, hk, h.len, h.all, h.er.bx h.ge hx h.lt, h.ge⟩
theorem RS.up {w w' : World} {B : Nat} {p : Option Addr} {c : Nat} {ts : List Tk} {k : Nat} (h : RS w B p c ts k) (hb : Below w.heap.size w w') : RS w' B p c ts k :=
  h.next (BX.of_below hb) h.le ((hb.block B h.lt).trans h.blk)
theorem RS.set {w : World} {B : Nat} {p : Option Addr} {c : Nat} {ts : List Tk} {k k' : Nat} (h : RS w B p c ts k) (hk : k' ≤ ts.length) : RS (w.setCell ⟨B, 1, none⟩ (.int .i64 (k' : Int))) B p c ts k' :=
  h.next ((BX.refl B w).set 1 _) hk (heap_setCell_same w B 1 _ _ _ h.blk)
/-- Nodes in a block of nodes. -/
theorem NT.bx {w w' : World} {B : Nat} {p : Option Addr} {c : Nat} {ts : List Tk} {k : Nat} {q : Option Addr} {L : List Nd} (hr : RS w B p c ts k) (h : NT w 0 q L) (hx : BX B w w') : NT w' 0 q L := by
  obtain ⟨h1, h2⟩ := h
  rcases h2 with h2 | ⟨b, o, h2, h3⟩
  · exact ⟨.inl h2, .inl h2⟩
  · rcases h3 with h3 | h3
    · omega
    · have hne : b ≠ B := by
        intro e; subst e
        obtain ⟨cur, fr, hh⟩ := h3
        rw [hr.blk] at hh
        injection hh with hh
        injection hh with _ hh _
        exact absurd hh (by decide)
      have hlt := h3.lt
      refine ⟨?_, .inr ⟨b, o, h2, .inr ?_⟩⟩
      · rcases h1 with h1 | ⟨b', o', e, h4, h5⟩
        · exact .inl h1
        · rw [h2] at e; cases e
          refine .inr ⟨b, o, h2, Nat.lt_of_lt_of_le hlt hx.size, fun i x hi => ?_⟩
          have q : ∀ o, w'.cell? ⟨b, o, none⟩ = w.cell? ⟨b, o, none⟩ := fun o => hx.cell (p := ⟨b, o, none⟩) hlt hne
          simp only [q]
          exact h5 i x hi
      · obtain ⟨cur, fr, hh⟩ := h3
        exact ⟨cur, fr, (hx.block b hlt hne).trans hh⟩
/-- What is thrown. -/
def thrownP (n : Int) : List PanicEntry := [{ v := .iface 77 (.agg #[.iface 33 (.int .i64 n)]), recovered := false }]
/-- How a form is read: its nodes, in memory of their own, and the reader behind it; or a throw, and the reader where it is wrong. -/
def EndP (B : Nat) (p : Option Addr) (c : Nat) (ts : List Tk) (w : World) (res : PRes) (e : Ending) (w' : World) : Prop :=
  match res with
  | .ok x => (∃ q cc, e = .returned (.slice q x.1.length cc) ∧ NT w' 0 q x.1 ∧ x.1.length ≤ cc ∧ cc ≤ maxLen) ∧ RS w' B p c ts (ts.length - x.2.length) ∧ BX B w w'
  | .error y => e = .panicked (thrownP y.2) ∧ RS w' B p c ts (ts.length - y.1) ∧ BX B w w'
/-- A reader that has read so far sees these words. -/
theorem drop_cons {ts r : List Tk} {t : Tk} {k : Nat} (h : ts.drop k = t :: r) : ts.drop (k + 1) = r ∧ k < ts.length ∧ ts.length - r.length = k + 1 := by
  have hl := congrArg List.length h
  rw [List.length_drop, List.length_cons] at hl
  refine ⟨?_, by omega, by omega⟩
  have := congrArg List.tail h
  rwa [List.tail_drop, List.tail_cons] at this
theorem drop_suffix {ts a r : List Tk} {k : Nat} (h : ts.drop k = a ++ r) : ts.drop (ts.length - r.length) = r := by
  have hs : ts = (ts.take k ++ a) ++ r := by rw [List.append_assoc, ← h, List.take_append_drop]
  have hl := congrArg List.length hs
  rw [List.length_append] at hl
  have e : ts.length - r.length = (ts.take k ++ a).length := by omega
  rw [e]
  generalize ts.take k ++ a = m at *
  rw [hs]
  exact List.drop_left ..
end Go.Proofs.YtdoeinjilnhijaaGreatDoor
namespace Go.Proofs.YtdoeinjilnhijaaGreatDoor
open Go.RowKit
set_option linter.unusedVariables false

theorem below_draws' {B : Nat} {a w : World} (h : Below B a w) (n : Nat) : Below B a (w.drewN n) := ⟨h.os, h.tape, h.output, h.size, h.block⟩
theorem pneed_true (v : Value) (w : World) : Calls Tryz.prog 40 #[.bool true, v] w fun e w' => e = .returned (.tuple #[]) ∧ w' = w := by
  go_enter Tryz.func40, Tryz.ntmps40
  go_wp2
  go_end0
  exact ⟨rfl, rfl⟩
theorem pneed_false (n : Int) (w : World) : Calls Tryz.prog 40 #[.bool false, .iface 33 (.int .i64 n)] w fun e w' => e = .panicked (thrownP n) ∧ w' = w := by
  go_enter Tryz.func40, Tryz.ntmps40
  go_wp2
  exact ⟨rfl, rfl, rfl⟩
/-- A word as a value. -/
def tokV (t : Tk) : Value := .agg #[.int .i64 t.kind, .string t.s, .int .i64 t.at_]
def itB (t : Tk) : ByteArray := if t.kind = 1 ∨ t.kind = 5 then t.s else ⟨#[]⟩
theorem itself_any (t : Tk) (w : World) : Calls Tryz.prog 70 #[tokV t] w fun e w' => e = .returned (.string (itB t)) ∧ Below w.heap.size w w' := by
  unfold tokV
  go_enter Tryz.func70, Tryz.ntmps70
  go_wp2
  · rename_i h
    go_ret
    exact ⟨by unfold itB; rw [if_pos (Or.inl h)]; rfl, (Below.refl _ _).alloc (Nat.le_refl _) _⟩
  · rename_i h1 h
    go_ret
    have h5 : t.kind = 5 := by
      rcases h with h | h
      · exact absurd (by simpa using h) h1
      · simpa using h
    exact ⟨by unfold itB; rw [if_pos (Or.inr h5)]; rfl, (Below.refl _ _).alloc (Nat.le_refl _) _⟩
  · rename_i h1 h
    go_ret
    have h5 : ¬ t.kind = 5 := by simpa using h.2
    exact ⟨by unfold itB; rw [if_neg (by rintro (h | h) <;> contradiction)]; rfl, (Below.refl _ _).alloc (Nat.le_refl _) _⟩
theorem hdT_at {ts : List Tk} {k : Nat} (h : k < ts.length) : hdT (ts.drop k) = ts[k] := by
  rw [List.drop_eq_getElem_cons h]; rfl
theorem hdT_end {ts : List Tk} {k : Nat} (h : ¬ k < ts.length) : hdT (ts.drop k) = bT := by
  rw [List.drop_of_length_le (by omega)]; rfl
set_option maxRecDepth 100000 in
set_option maxHeartbeats 1000000 in
theorem ahead_any (w : World) (B : Nat) (p : Option Addr) (c : Nat) (ts : List Tk) (k i : Nat) (h : RS w B p c ts k) (hi : i ≤ 1) :
    Calls Tryz.prog 71 #[.pointer (some ⟨B, 0, none⟩), .int .i64 (i : Int)] w fun e w' => e = .returned (tokV (hdT ((ts.drop k).drop i))) ∧ Below w.heap.size w w' := by
  have hb0 : Below w.heap.size w (w.alloc (.cells #[.int .i64 0, .string ⟨#[]⟩, .int .i64 0] 47)) := (Below.refl _ _).alloc (Nat.le_refl _) _
  have hr := h.up hb0
  have c0 := hr.c0
  have c1 := hr.c1
  have htk := hr.tk
  have hle := h.le
  have hlen := h.len
  have hc : ∀ o, (w.alloc (.cells #[.int .i64 0, .string ⟨#[]⟩, .int .i64 0] 47)).frozen? ⟨w.heap.size, o, none⟩ = false := by intro o; simp [go_sem]
  have d0 : (w.alloc (.cells #[.int .i64 0, .string ⟨#[]⟩, .int .i64 0] 47)).cell? ⟨w.heap.size, 0, none⟩ = some (.int .i64 0) := by simp [go_sem]
  have d1 : (w.alloc (.cells #[.int .i64 0, .string ⟨#[]⟩, .int .i64 0] 47)).cell? ⟨w.heap.size, 1, none⟩ = some (.string ⟨#[]⟩) := by simp [go_sem]
  have d2 : (w.alloc (.cells #[.int .i64 0, .string ⟨#[]⟩, .int .i64 0] 47)).cell? ⟨w.heap.size, 2, none⟩ = some (.int .i64 0) := by simp [go_sem]
  have f0 := hc 0
  have f1 := hc 1
  have f2 := hc 2
  rw [List.drop_drop]
  clear hr h hc
  generalize hW0 : w.alloc (.cells #[.int .i64 0, .string ⟨#[]⟩, .int .i64 0] 47) = w0 at *
  by_cases hlt : k + i < ts.length
  · have i1 : (k : Int) + (i : Int) < (ts.length : Int) := by omega
    have i2 : (k : Int) ≤ 300 := by omega
    have i3 : (i : Int) ≤ 1 := by omega
    obtain ⟨b, off, rfl, hbw, x0, x1, x2⟩ := htk.at hlt
    rw [hdT_at hlt]
    unfold tokV
    generalize ts[k + i] = t at *
    have hwr : IntKind.i64.wrap ((k : Int) + (i : Int)) = (k : Int) + (i : Int) := IntWalk.i64_in _ (by omega)
    have i4 : (0 : Int) ≤ (k : Int) + (i : Int) := by omega
    go_enter Tryz.func71, Tryz.ntmps71
    go_wp2
    go_quiet (fail)
    go_wp2
    have i5 : ((k : Int) + (i : Int)).toNat = k + i := by omega
    have hbd : Below w.heap.size w (w0.drewN nq).drew := (below_draws' hb0 nq).drew
    have y0 : (w0.drewN nq).drew.cell? ⟨b, off + (k + i) * 3, none⟩ = some (.int .i64 t.kind) := x0
    have y1 : (w0.drewN nq).drew.cell? ⟨b, off + (k + i) * 3 + 1, none⟩ = some (.string t.s) := x1
    have y2 : (w0.drewN nq).drew.cell? ⟨b, off + (k + i) * 3 + 2, none⟩ = some (.int .i64 t.at_) := x2
    have e0 : (w0.drewN nq).drew.cell? ⟨w.heap.size, 0, none⟩ = some (.int .i64 0) := d0
    have e1 : (w0.drewN nq).drew.cell? ⟨w.heap.size, 1, none⟩ = some (.string ⟨#[]⟩) := d1
    have e2 : (w0.drewN nq).drew.cell? ⟨w.heap.size, 2, none⟩ = some (.int .i64 0) := d2
    have g0 : (w0.drewN nq).drew.frozen? ⟨w.heap.size, 0, none⟩ = false := f0
    have g1 : (w0.drewN nq).drew.frozen? ⟨w.heap.size, 1, none⟩ = false := f1
    have g2 : (w0.drewN nq).drew.frozen? ⟨w.heap.size, 2, none⟩ = false := f2
    have s0 : (w0.drewN nq).drew.cell? ⟨B, 0, none⟩ = some (.slice (some ⟨b, off, none⟩) ts.length c) := c0
    have s1 : (w0.drewN nq).drew.cell? ⟨B, 1, none⟩ = some (.int .i64 (k : Int)) := c1
    refine wp_region_still_tail 12 (by kernel_rfl) (by kernel_rfl) ?_
    change wpStill _ _ (w0.drewN nq).drew (fun a' => wpList _ _ _ _ a' (w0.drewN nq).drew) _ _
    clear x0 x1 x2 d0 d1 d2 f0 f1 f2 c0 c1 htk hW0 hb0
    generalize (w0.drewN nq).drew = wd at *
    simp only [List.take_succ_cons, List.take_zero, List.drop_succ_cons, List.drop_zero]
    repeat still_step
    refine wpStill_nil ?_
    go_wp2
    refine bodyPost_ret (v := .agg #[.int .i64 t.kind, .string t.s, .int .i64 t.at_]) (by simp [results, Tryz.results71, go_sem, e0, e1, e2]) rfl ⟨rfl, ?_⟩
    exact ((hbd.setCell (Nat.le_refl _) _).setCell (Nat.le_refl _) _).setCell (Nat.le_refl _) _
  · have i1 : ¬ (k : Int) + (i : Int) < (ts.length : Int) := by omega
    have i2 : (k : Int) ≤ 300 := by omega
    have i3 : (i : Int) ≤ 1 := by omega
    have hwr : IntKind.i64.wrap ((k : Int) + (i : Int)) = (k : Int) + (i : Int) := IntWalk.i64_in _ (by omega)
    rw [hdT_end hlt]
    unfold tokV bT
    go_enter Tryz.func71, Tryz.ntmps71
    go_wp2
    go_quiet (fail)
    go_wp2
    refine bodyPost_ret (v := .agg #[.int .i64 0, .string ⟨#[]⟩, .int .i64 0]) (by simp [results, Tryz.results71, go_sem, d0, d1, d2]) rfl ⟨rfl, ?_⟩
    exact (((below_draws' hb0 nq).setCell (Nat.le_refl _) _).setCell (Nat.le_refl _) _).setCell (Nat.le_refl _) _
theorem bytes_beq' (a b : ByteArray) : (a == b) = true ↔ a = b := by
  obtain ⟨x⟩ := a
  obtain ⟨y⟩ := b
  constructor
  · intro h
    have e : x = y := by simpa using (show (x == y) = true from h)
    rw [e]
  · intro h
    injection h with h
    show (x == y) = true
    rw [h]; simp
theorem itB_its (t : Tk) : (itB t).data.toList = its t := by
  unfold itB its
  split
  · rfl
  · rfl
theorem sayB_eq (l : List Tk) (s : ByteArray) : (itB (hdT l) == s) = sayB l s.data.toList := by
  unfold sayB
  rw [Bool.eq_iff_iff]
  simp only [decide_eq_true_eq]
  rw [← itB_its, bytes_beq']
  constructor
  · intro h; rw [h]
  · intro h
    obtain ⟨⟨a⟩⟩ := s
    generalize itB (hdT l) = x at *
    obtain ⟨⟨b⟩⟩ := x
    simp at h
    rw [h]
theorem ahead0_any (w : World) (B : Nat) (p : Option Addr) (c : Nat) (ts : List Tk) (k : Nat) (h : RS w B p c ts k) :
    Calls Tryz.prog 71 #[.pointer (some ⟨B, 0, none⟩), .int .i64 0] w fun e w' => e = .returned (tokV (hdT (ts.drop k))) ∧ Below w.heap.size w w' :=
  ahead_any w B p c ts k 0 h (by omega)
theorem ahead1_any (w : World) (B : Nat) (p : Option Addr) (c : Nat) (ts : List Tk) (k : Nat) (h : RS w B p c ts k) :
    Calls Tryz.prog 71 #[.pointer (some ⟨B, 0, none⟩), .int .i64 1] w fun e w' => e = .returned (tokV (hdT (ts.drop k).tail)) ∧ Below w.heap.size w w' := by
  have := ahead_any w B p c ts k 1 h (by omega)
  rwa [List.drop_one] at this
set_option maxRecDepth 100000 in
set_option maxHeartbeats 1000000 in
theorem says_any (w : World) (B : Nat) (p : Option Addr) (c : Nat) (ts : List Tk) (k : Nat) (s : ByteArray) (h : RS w B p c ts k) :
    Calls Tryz.prog 69 #[.pointer (some ⟨B, 0, none⟩), .string s] w fun e w' => e = .returned (.bool (sayB (ts.drop k) s.data.toList)) ∧ Below w.heap.size w w' := by
  rw [← sayB_eq]
  have H1 := ahead0_any w B p c ts k h
  generalize hdT (ts.drop k) = t at *
  have H2 := itself_any t
  go_enter Tryz.func69, Tryz.ntmps69
  go_wp2_with fail
  refine H1.mono ?_
  rintro e w1 ⟨rfl, hb1⟩
  unfold tokV at *
  go_wp2_with fail
  refine (H2 _).mono ?_
  rintro e w2 ⟨rfl, hb2⟩
  go_wp2
  go_ret
  exact ⟨by rw [beq_toListBytes]; rfl, hb1.trans (hb2.mono hb1.size)⟩
set_option maxRecDepth 100000 in
set_option maxHeartbeats 1000000 in
theorem passes_no (w : World) (B : Nat) (p : Option Addr) (c : Nat) (ts : List Tk) (k : Nat) (s : ByteArray) (h : RS w B p c ts k) (hs : sayB (ts.drop k) s.data.toList = false) :
    Calls Tryz.prog 103 #[.pointer (some ⟨B, 0, none⟩), .string s] w fun e w' => e = .returned (.bool false) ∧ Below w.heap.size w w' := by
  have H1 := says_any w B p c ts k s h
  rw [hs] at H1
  go_enter Tryz.func103, Tryz.ntmps103
  go_wp2_with fail
  refine H1.mono ?_
  rintro e w1 ⟨rfl, hb1⟩
  go_wp2
  go_ret
  exact ⟨rfl, hb1⟩
theorem sayB_lt {ts : List Tk} {k : Nat} {c : UInt8} {s : List UInt8} (h : sayB (ts.drop k) (c :: s) = true) : k < ts.length := by
  by_cases hk : k < ts.length
  · exact hk
  · unfold sayB at h
    rw [hdT_end hk] at h
    simp [its, bT] at h
set_option maxRecDepth 100000 in
set_option maxHeartbeats 1000000 in
theorem passes_yes (w : World) (B : Nat) (p : Option Addr) (c : Nat) (ts : List Tk) (k : Nat) (s : ByteArray) (h : RS w B p c ts k) (hs : sayB (ts.drop k) s.data.toList = true) (hk : k < ts.length) :
    Calls Tryz.prog 103 #[.pointer (some ⟨B, 0, none⟩), .string s] w fun e w' => e = .returned (.bool true) ∧ RS w' B p c ts (k + 1) ∧ BX B w w' := by
  have H1 := says_any w B p c ts k s h
  rw [hs] at H1
  have i1 : (k : Int) ≤ 300 := by have := h.len; omega
  go_enter Tryz.func103, Tryz.ntmps103
  go_wp2_with fail
  refine H1.mono ?_
  rintro e w1 ⟨rfl, hb1⟩
  have h1 := h.up hb1
  have c1 := h1.c1
  have f1 := h1.fz
  go_wp2
  go_ret
  refine ⟨rfl, ?_, ?_⟩
  · exact h1.set (k' := k + 1) (by omega)
  · exact (BX.of_below hb1).set 1 _
end Go.Proofs.YtdoeinjilnhijaaGreatDoor
namespace Go.Proofs.YtdoeinjilnhijaaGreatDoor
open Go.RowKit
set_option linter.unusedVariables false
set_option maxRecDepth 100000

set_option maxHeartbeats 1000000 in
theorem pass_ok (w : World) (B : Nat) (p : Option Addr) (c : Nat) (ts : List Tk) (k : Nat) (s : ByteArray) (h : RS w B p c ts k) (hs : sayB (ts.drop k) s.data.toList = true) (hk : k < ts.length) :
    Calls Tryz.prog 73 #[.pointer (some ⟨B, 0, none⟩), .string s] w fun e w' => e = .returned (.tuple #[]) ∧ RS w' B p c ts (k + 1) ∧ BX B w w' := by
  have H1 := passes_yes w B p c ts k s h hs hk
  go_enter Tryz.func73, Tryz.ntmps73
  go_wp2_with fail
  refine H1.mono ?_
  rintro e w1 ⟨rfl, h1, hx1⟩
  go_wp2_with fail
  refine (pneed_true _ _).mono ?_
  rintro e w2 ⟨rfl, rfl⟩
  go_wp2
  go_end0
  exact ⟨rfl, h1, hx1⟩
set_option maxHeartbeats 1000000 in
theorem pass_bad (w : World) (B : Nat) (p : Option Addr) (c : Nat) (ts : List Tk) (k : Nat) (s : ByteArray) (h : RS w B p c ts k) (hs : sayB (ts.drop k) s.data.toList = false) :
    Calls Tryz.prog 73 #[.pointer (some ⟨B, 0, none⟩), .string s] w fun e w' => e = .panicked (thrownP 1) ∧ RS w' B p c ts k ∧ BX B w w' := by
  have H1 := passes_no w B p c ts k s h hs
  go_enter Tryz.func73, Tryz.ntmps73
  go_wp2_with fail
  refine H1.mono ?_
  rintro e w1 ⟨rfl, hb1⟩
  go_wp2_with fail
  refine (pneed_false _ _).mono ?_
  rintro e w2 ⟨rfl, rfl⟩
  go_wp2
  exact ⟨rfl, rfl, h.up hb1, BX.of_below hb1⟩
set_option maxHeartbeats 1000000 in
theorem take_ok (w : World) (B : Nat) (p : Option Addr) (c : Nat) (ts : List Tk) (k : Nat) (kd : Int) (h : RS w B p c ts k) (hk : k < ts.length) (hd : (hdT (ts.drop k)).kind = kd) :
    Calls Tryz.prog 138 #[.pointer (some ⟨B, 0, none⟩), .int .i64 kd] w fun e w' => e = .returned (.string (hdT (ts.drop k)).s) ∧ RS w' B p c ts (k + 1) ∧ BX B w w' := by
  have H1 := ahead0_any w B p c ts k h
  have i1 : (k : Int) ≤ 300 := by have := h.len; omega
  generalize hdT (ts.drop k) = t at *
  unfold tokV at H1
  subst hd
  go_enter Tryz.func138, Tryz.ntmps138
  go_wp2_with fail
  refine H1.mono ?_
  rintro e w1 ⟨rfl, hb1⟩
  have hbt : Below w1.heap.size w1 (w1.alloc (.cells #[.int .i64 t.kind, .string t.s, .int .i64 t.at_] 47)) := (Below.refl _ _).alloc (Nat.le_refl _) _
  have h1 := (h.up hb1).up hbt
  have c1 := h1.c1
  have f1 := h1.fz
  go_wp2_with fail
  refine (pneed_true _ _).mono ?_
  rintro e w2 ⟨rfl, rfl⟩
  have hsz : w1.heap.size ≠ B := by have := (h.up hb1).lt; omega
  go_wp2
  go_ret
  exact ⟨rfl, h1.set (k' := k + 1) (by omega), ((BX.of_below hb1).up hbt).set 1 _⟩
set_option maxHeartbeats 1000000 in
theorem take_bad (w : World) (B : Nat) (p : Option Addr) (c : Nat) (ts : List Tk) (k : Nat) (kd : Int) (h : RS w B p c ts k) (hd : ((hdT (ts.drop k)).kind == kd) = false) :
    Calls Tryz.prog 138 #[.pointer (some ⟨B, 0, none⟩), .int .i64 kd] w fun e w' => e = .panicked (thrownP 1) ∧ RS w' B p c ts k ∧ BX B w w' := by
  have H1 := ahead0_any w B p c ts k h
  generalize hdT (ts.drop k) = t at *
  unfold tokV at H1
  go_enter Tryz.func138, Tryz.ntmps138
  go_wp2_with fail
  refine H1.mono ?_
  rintro e w1 ⟨rfl, hb1⟩
  have hbt : Below w1.heap.size w1 (w1.alloc (.cells #[.int .i64 t.kind, .string t.s, .int .i64 t.at_] 47)) := (Below.refl _ _).alloc (Nat.le_refl _) _
  go_wp2_with fail
  refine (pneed_false _ _).mono ?_
  rintro e w2 ⟨rfl, rfl⟩
  go_wp2
  exact ⟨rfl, rfl, (h.up hb1).up hbt, (BX.of_below hb1).up hbt⟩
end Go.Proofs.YtdoeinjilnhijaaGreatDoor
namespace Go.Proofs.YtdoeinjilnhijaaGreatDoor
open Go.RowKit Go.Maps Go.WideMaps
set_option linter.unusedVariables false
set_option maxRecDepth 100000

theorem key_law : Keyed Tryz.prog 9 := string_keyed Tryz.underlying9
theorem zero_int (w : World) : (zeroValue 3).run Tryz.prog w = .ok (.int .i64 0) w := by kernel_rfl

/-- A map tells what a function tells of each text. -/
structure OpsM (D : DataW Unit) (f : List UInt8 → Option Int) : Prop where
  has : ∀ x : List UInt8, Maps.has D (.string x) = (f x).isSome
  val : ∀ x : List UInt8, D.atKey (.string x) (.lit (.int .i64 0)) = .lit (.int .i64 ((f x).getD 0))
def putF (f : List UInt8 → Option Int) (k : List UInt8) (o : Int) : List UInt8 → Option Int := fun x => if x = k then some o else f x
def noF : List UInt8 → Option Int := fun _ => none
theorem OpsM.start : OpsM (.map []) noF := ⟨fun x => by simp [Maps.has, noF], fun x => rfl⟩
theorem OpsM.put {D : DataW Unit} {f : List UInt8 → Option Int} (h : OpsM D f) (ht : Tidy D) (k : List UInt8) (o : Int) : OpsM (D.put (.string k) (.lit (.int .i64 o))) (putF f k o) := by
  have hkl : WideAt.IsKeyLit (.string k) := trivial
  refine ⟨fun x => ?_, fun x => ?_⟩
  · by_cases e : x = k
    · subst e
      rw [has_put_same ht.isMap hkl]
      simp [putF]
    · rw [has_put_other (fun q => e (by injection q)), h.has]
      simp [putF, e]
  · by_cases e : x = k
    · subst e
      rw [atKey_put_same ht.isMap hkl]
      simp [putF]
    · rw [atKey_put_other (fun q => e (by injection q)), h.val]
      simp [putF, e]
/-- A map of the call's own in a block, with at most so many names. -/
def OM (w : World) (b n : Nat) (f : List UInt8 → Option Int) : Prop := ∃ D, w.ownsMap Tryz.prog 9 (plainElem Tryz.prog 3) b n D ∧ OpsM D f
theorem OM.made (w : World) : OM (w.alloc (.map #[] 0)) w.heap.size 0 noF := ⟨.map [], World.ownsMap_made _ _ _ _, OpsM.start⟩
theorem OM.put {w : World} {b n : Nat} {f : List UInt8 → Option Int} (h : OM w b n f) (hn : n ≤ 10) (k : ByteArray) (hk : k.size ≤ maxLen) (o : Int) (ho : 0 ≤ o) (ho2 : o ≤ 100) :
    ∃ w', (Instr.mapUpdate 136 (.map (some b)) (.string k) (.int .i64 o)).run Tryz.prog w = .ok () w' ∧ OM w' b (n + 1) (putF f k.data.toList o) ∧ w.grownBy w' (some b) := by
  obtain ⟨D, h1, h2⟩ := h
  obtain ⟨w', r1, r2, r3⟩ := h1.update (t := 136) (e := 3) key_law Tryz.underlying136 (by unfold maxLen; omega) (keyOf_string_mk Tryz.underlying9 hk) (plainElem_int Tryz.underlying3 (WalkArith.wf_i64 (n := o) (by omega)))
  exact ⟨w', r1, ⟨_, r2, h2.put (h1.tidy key_law) _ _⟩, r3⟩
theorem OM.lt {w : World} {b n : Nat} {f : List UInt8 → Option Int} (h : OM w b n f) : b < w.heap.size := by
  obtain ⟨D, h1, h2⟩ := h; exact h1.lt
theorem OM.of_block {w w' : World} {b n : Nat} {f : List UInt8 → Option Int} (h : OM w b n f) (hb : w'.heap[b]? = w.heap[b]?) : OM w' b n f := by
  obtain ⟨D, ⟨es, clock, h1, h3⟩, h2⟩ := h
  exact ⟨D, ⟨es, clock, hb.trans h1, h3⟩, h2⟩
theorem OM.ne {w : World} {b n : Nat} {f : List UInt8 → Option Int} {B : Nat} {p : Option Addr} {c : Nat} {ts : List Tk} {k : Nat} (h : OM w b n f) (hr : RS w B p c ts k) : b ≠ B := by
  intro e; subst e
  obtain ⟨D, ⟨es, clock, h1, h3⟩, h2⟩ := h
  rw [hr.blk] at h1
  injection h1 with h1
  cases h1
theorem OM.bx {w w' : World} {b n : Nat} {f : List UInt8 → Option Int} {B : Nat} {p : Option Addr} {c : Nat} {ts : List Tk} {k : Nat} (h : OM w b n f) (hr : RS w B p c ts k) (hx : BX B w w') : OM w' b n f :=
  h.of_block (hx.block b h.lt (h.ne hr))
theorem OM.up {w w' : World} {b n : Nat} {f : List UInt8 → Option Int} (h : OM w b n f) (hb : Below w.heap.size w w') : OM w' b n f := h.of_block (hb.block b h.lt)
/-- A map that is laid in a block above all that lay there keeps what lay there. -/
theorem grown_below {w0 w w' : World} {b : Nat} (h : Below w0.heap.size w0 w) (hg : w.grownBy w' (some b)) (hb : w0.heap.size ≤ b) : Below w0.heap.size w0 w' :=
  h.grown hg h.size (fun j hj => by cases hj; exact hb)
theorem lookup_op (w : World) {ops : Array Oper} {rest : List Oper} {o : Oper} {a : Act} {Q : Exit → Act → World → Prop} (hg : o.guard = none) (m x : Operand) (hop : o.op = Op.lookup 136 m x true)
    (b n : Nat) (f : List UInt8 → Option Int) (hm : a.eval m = .map (some b)) (hown : OM w b n f) (s : ByteArray) (hx : a.eval x = .string s) (hs : s.size ≤ maxLen)
    (hK : wpList Tryz.prog ops Q rest (a.put o.dst (.tuple #[.int .i64 ((f s.data.toList).getD 0), .bool (f s.data.toList).isSome])) w) : wpList Tryz.prog ops Q (o :: rest) a w := by
  obtain ⟨D, h1, h2⟩ := hown
  exact wpList_lookup_own_ok_int w hg m x 136 hop 9 3 .i64 key_law Tryz.underlying136 Tryz.underlying3 (zero_int _) b n D hm h1 _ _ hx (keyOf_string_mk Tryz.underlying9 hs) (fun c hat _ => by
    rw [h2.val] at hat
    injection hat with h1
    injection h1 with _ h3
    rw [← h3, h2.has]; exact hK)
end Go.Proofs.YtdoeinjilnhijaaGreatDoor
