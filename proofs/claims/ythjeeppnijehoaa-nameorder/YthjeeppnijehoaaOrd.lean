/- What strings.Compare, the document's Texts, and the two ways to compare uids return, for all texts: each by a walk of its own text. -/
import Derived.Test.YthjeeppnijehoaaChecked
import Derived.Test.YthjeeppnijehoaaCmp
import Derived.WalkKit
import Derived.WalkLawsBesides
import Derived.Lib.Bytealg
import Derived.Deep.QuietTactic
import Derived.BigQuiet
import Derived.Below
namespace Go.Proofs.Ythjeeppnijehoaa
open Go.RowKit
set_option linter.unusedVariables false

theorem numbers_any (a b : Int) (w : World) :
    Calls Try.prog 24 #[.int .i64 a, .int .i64 b] w fun e w' => e = .returned (.int .i64 (if a < b then -1 else if b < a then 1 else 0)) ∧ w' = w := by
  by_cases h : a < b
  · go_enter Try.func24, Try.ntmps24
    go_wp2
    go_ret
    exact ⟨rfl, rfl⟩
  · by_cases k : b < a
    · go_enter Try.func24, Try.ntmps24
      go_wp2
      go_ret
      exact ⟨rfl, rfl⟩
    · go_enter Try.func24, Try.ntmps24
      go_wp2
      go_ret
      exact ⟨rfl, rfl⟩

set_option maxRecDepth 100000 in
theorem compareString_any (a b : ByteArray) (w : World) :
    Calls Try.prog 23 #[.string a, .string b] w fun e w' => e = .returned (.int .i64 (Lib.compareBytes a.data.toList b.data.toList)) ∧ w' = w := by
  have hx := @run_callFunc_extern Try.prog 28 _ Extern.BytealgCompare.compare Try.func28 (by kernel_rfl) (by kernel_rfl) (by kernel_rfl) (by kernel_rfl)
  have hy := @Lib.run_compareString Try.prog
  go_enter Try.func23, Try.ntmps23
  go_wp2
  go_ret
  exact ⟨rfl, rfl⟩

theorem stringsCompare_any (a b : ByteArray) (w : World) :
    Calls Try.prog 18 #[.string a, .string b] w fun e w' => e = .returned (.int .i64 (Lib.compareBytes a.data.toList b.data.toList)) ∧ w' = w := by
  go_enter Try.func18, Try.ntmps18
  go_wp2_with (go_at_call 23; refine (compareString_any _ _ _).mono ?_; rintro e w' ⟨rfl, rfl⟩)
  go_ret
  exact ⟨rfl, rfl⟩

theorem ret_int {k : IntKind} {a b : Int} (h : a = b) : Ending.returned (.int k a) = .returned (.int k b) := by rw [h]

set_option maxHeartbeats 1000000 in
theorem texts_any (a b : ByteArray) (w : World) (ha : a.size ≤ maxLen) (hb : b.size ≤ maxLen) :
    Calls Try.prog 19 #[.string a, .string b] w fun e w' => e = .returned (.int .i64 (Lib.compareBytes a.data.toList b.data.toList)) ∧ ∃ n, w' = w.drewN n := by
  unfold maxLen at ha hb
  go_enter Try.func19, Try.ntmps19
  go_wp2
  go_loopw [5] (fun i wq => ∃ k n : Nat, k ≤ a.size ∧ k ≤ b.size ∧ i = .int .i64 k ∧ wq = w.drewN n ∧ Hid (Lib.compareBytes (a.data.toList.drop k) (b.data.toList.drop k) = Lib.compareBytes a.data.toList b.data.toList)) (fun i _ => a.size - (intOf i).toNat)
  case atStart => exact ⟨0, 0, Nat.zero_le _, Nat.zero_le _, rfl, rfl, rfl⟩
  case round =>
    obtain ⟨k, n, hk, hk2, rfl, rfl, HC⟩ := hrel
    by_cases hlt : k < a.size
    · by_cases hlt2 : k < b.size
      · have HS : Hid (_ = _) := cb_step a b k hlt hlt2
        have i1 : (k : Int) < (a.size : Int) := by omega
        have i2 : (k : Int) < (b.size : Int) := by omega
        by_cases c1 : (a[k].toNat : Int) < (b[k].toNat : Int)
        · go_wp2
          go_quiet (fail)
          go_wp2
          go_ret
          exact ⟨ret_int (by rw [← HC.out, HS.out, if_pos c1]), _, by rw [World.drewN_drewN]⟩
        · by_cases c2 : (b[k].toNat : Int) < (a[k].toNat : Int)
          · go_wp2
            go_quiet (fail)
            go_wp2
            go_quiet (fail)
            go_wp2
            go_ret
            exact ⟨ret_int (by rw [← HC.out, HS.out, if_neg (by omega), if_pos c2]), _, by rw [World.drewN_drewN, World.drewN_drewN]⟩
          · go_wp2
            go_quiet (fail)
            go_wp2
            go_quiet (fail)
            go_wp2
            go_roundw
            case rel => exact ⟨k + 1, _, by omega, by omega, by go_num, rfl, by show _ = _; rw [← HC.out, HS.out, if_neg (by omega), if_neg (by omega)]⟩
            case measure => simp [intOf]; omega
      · have HE : Hid (_ = _) := cb_end a b k hk hk2 (by omega)
        have i1 : (k : Int) < (a.size : Int) := by omega
        have i2 : ¬ (k : Int) < (b.size : Int) := by omega
        go_wp2_with (go_at_call 24; refine (numbers_any _ _ _).mono ?_; rintro e w' ⟨rfl, rfl⟩)
        all_goals
          go_ret
          exact ⟨ret_int (by rw [← HC.out, HE.out]; first | rw [if_pos ‹_›] | rw [if_neg ‹_›, if_pos ‹_›] | rw [if_neg ‹_›, if_neg ‹_›]), _, rfl⟩
    · have HE : Hid (_ = _) := cb_end a b k hk hk2 (by omega)
      have i1 : ¬ (k : Int) < (a.size : Int) := by omega
      go_wp2_with (go_at_call 24; refine (numbers_any _ _ _).mono ?_; rintro e w' ⟨rfl, rfl⟩)
      all_goals
        go_ret
        exact ⟨ret_int (by rw [← HC.out, HE.out]; first | rw [if_pos ‹_›] | rw [if_neg ‹_›, if_pos ‹_›] | rw [if_neg ‹_›, if_neg ‹_›]), _, rfl⟩

theorem uc_of_ne {a b c d : List UInt8} (h : (Lib.compareBytes a c != 0) = true) : Lib.compareBytes a c = uc a b c d := by
  unfold uc; rw [if_neg (by simpa using h)]
theorem uc_of_eq {a b c d : List UInt8} (h : (Lib.compareBytes a c != 0) = false) : Lib.compareBytes b d = uc a b c d := by
  unfold uc; rw [if_pos (by simpa using h)]

theorem nameCompare_any (a1 a2 b1 b2 : ByteArray) (w : World) :
    Calls Try.prog 10 #[.agg #[.string a1, .string a2], .agg #[.string b1, .string b2]] w fun e w' => e = .returned (.int .i64 (uc a1.data.toList a2.data.toList b1.data.toList b2.data.toList)) ∧ Below w.heap.size w w' := by
  cases hne : (Lib.compareBytes a1.data.toList b1.data.toList != 0)
  · go_enter Try.func10, Try.ntmps10
    go_wp2_with (go_at_call 18; refine (stringsCompare_any _ _ _).mono ?_; rintro e w' ⟨rfl, rfl⟩)
    go_ret
    exact ⟨ret_int (uc_of_eq hne), ((Below.refl _ _).alloc (Nat.le_refl _) _).alloc (by simp) _⟩
  · go_enter Try.func10, Try.ntmps10
    go_wp2_with (go_at_call 18; refine (stringsCompare_any _ _ _).mono ?_; rintro e w' ⟨rfl, rfl⟩)
    go_ret
    exact ⟨ret_int (uc_of_ne hne), ((Below.refl _ _).alloc (Nat.le_refl _) _).alloc (by simp) _⟩

theorem below_drawn {B : Nat} {a w : World} (h : Below B a w) (n : Nat) : Below B a (w.drewN n) := ⟨h.os, h.tape, h.output, h.size, h.block⟩

theorem uc_of_eql {a b c d : List UInt8} (h : (Lib.compareBytes a c == 0) = true) : Lib.compareBytes b d = uc a b c d := by
  unfold uc; rw [if_pos (by simpa using h)]
theorem uc_of_neq {a b c d : List UInt8} (h : (Lib.compareBytes a c == 0) = false) : Lib.compareBytes a c = uc a b c d := by
  unfold uc; rw [if_neg (by simpa using h)]

set_option maxHeartbeats 1000000 in
theorem uids_any (a1 a2 b1 b2 : ByteArray) (w : World) (ha1 : a1.size ≤ maxLen) (ha2 : a2.size ≤ maxLen) (hb1 : b1.size ≤ maxLen) (hb2 : b2.size ≤ maxLen) :
    Calls Try.prog 11 #[.agg #[.string a1, .string a2], .agg #[.string b1, .string b2]] w fun e w' => e = .returned (.int .i64 (uc a1.data.toList a2.data.toList b1.data.toList b2.data.toList)) ∧ Below w.heap.size w w' := by
  cases hne : (Lib.compareBytes a1.data.toList b1.data.toList == 0)
  · go_enter Try.func11, Try.ntmps11
    go_wp2_with fail
    refine (texts_any a1 b1 _ ha1 hb1).mono ?_
    rintro e w' ⟨rfl, n1, rfl⟩
    go_wp2_with fail
    go_ret
    exact ⟨ret_int (uc_of_neq hne), below_drawn (((Below.refl _ _).alloc (Nat.le_refl _) _).alloc (by simp) _) _⟩
  · go_enter Try.func11, Try.ntmps11
    go_wp2_with fail
    refine (texts_any a1 b1 _ ha1 hb1).mono ?_
    rintro e w' ⟨rfl, n1, rfl⟩
    go_wp2_with fail
    refine (texts_any a2 b2 _ ha2 hb2).mono ?_
    rintro e w' ⟨rfl, n2, rfl⟩
    go_wp2_with fail
    go_ret
    exact ⟨ret_int (uc_of_eql hne), below_drawn (((Below.refl _ _).alloc (Nat.le_refl _) _).alloc (by simp) _) _⟩

end Go.Proofs.Ythjeeppnijehoaa
