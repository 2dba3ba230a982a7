/- Package word's firstName, firstSlot, firstNumber, firstSign, first; strings.Clone, TrimLeft, IndexByte as they call them: by contracts and walks of their own texts. The document's isLetter, isDigit, run, begins, quoted (package wicketgateref2): by walks of their own texts. The document's quoted (package wicketgateref2), by a walk of its own text. Package word's firstSign and first, by walks of their own texts. The document's Word (package wicketgateref2): numbers, names, slots, quoted texts; by walks of its own text. The document's Word (package wicketgateref2): signs, by the table that it goes through; and any word. The document's Word and Words (package wicketgateref2): any line. Package word's walk and Read: what is thrown is caught; what is told of every line. Package word's write and spellOne, by walks of their own texts. -/
import Derived.Test.YtdoeinjilnhijaaGreatDoorG21
import Derived.Test.YtdoeinjilnhijaaGreatDoorShelf
import Derived.Test.YtdoeinjilnhijaaGreatDoorG12
import Derived.Test.YtdoeinjilnhijaaGreatDoorG1
import Derived.Defers
import Derived.Recover
import Derived.Laws.Pointers
import Derived.Test.YtdoeinjilnhijaaGreatDoorG16
import Derived.Laws.StructEq
namespace Go.Proofs.YtdoeinjilnhijaaGreatDoor
open Go.RowKit
set_option linter.unusedVariables false

theorem clone_any (s : ByteArray) (w : World) (hs : s.size ≤ 281474976710656) :
    Calls Tryz.prog 146 #[.string s] w fun e w' => e = .returned (.string s) ∧ Below w.heap.size w w' := by
  go_enter Tryz.func146, Tryz.ntmps146
  go_wp2_with fail
  refine (Any.stringslite_Clone Tryz.laysM316 s _ hs).mono ?_
  rintro e w1 ⟨rfl, hb⟩
  go_wp2_with fail
  go_ret
  exact ⟨rfl, hb⟩
theorem trim_any (s : ByteArray) (w : World) :
    Calls Tryz.prog 147 #[.string s, .string ⟨#[48]⟩] w fun e w' => e = .returned (.string ⟨(s.data.toList.dropWhile (· == 48)).toArray⟩) ∧ w' = w :=
  Any.strings_TrimLeft_one Tryz.lays161 s 48 (by decide) w
theorem idx_any (s : ByteArray) (c : UInt8) (w : World) :
    Calls Tryz.prog 151 #[.string s, .int .u8 (c.toNat : Int)] w fun e w' => e = .returned (.int .i64 (Lib.indexByte s.data.toList c)) ∧ w' = w := by
  have h := Any.strings_IndexByte Tryz.lays137 s (c.toNat : Int) w
  have e : ((c.toNat : Int).toNat).toUInt8 = c := by simp
  rw [e] at h
  exact h
theorem idx_has (l : List UInt8) (c : UInt8) : decide (0 ≤ Lib.indexByte l c) = l.contains c := by
  induction l with
  | nil => rfl
  | cons b r ih =>
    have hg := Lib.indexByte_ge r c
    unfold Lib.indexByte
    rw [List.contains_cons]
    by_cases h : b = c
    · subst h; simp
    · have h1 : (b == c) = false := by simpa using h
      have h2 : (c == b) = false := by simpa using fun e : c = b => h e.symm
      rw [h1, h2, Bool.false_or, ← ih]
      simp only [Bool.false_eq_true, if_false]
      by_cases h3 : Lib.indexByte r c = -1
      · rw [h3]; decide
      · have h4 : (Lib.indexByte r c == -1) = false := by simpa using h3
        rw [h4]
        simp only [Bool.false_eq_true, if_false]
        rw [decide_eq_decide]; omega

theorem of_list {a : ByteArray} {l : List UInt8} (h : a.data.toList = l) : a = ⟨l.toArray⟩ := by
  rw [← h]
theorem head_take (s : ByteArray) (n : Nat) : (s.extract 0 n).data.toList = s.data.toList.take n := by
  rw [Lib.extract_data]; simp

theorem below_draws {B : Nat} {a w : World} (h : Below B a w) (n : Nat) : Below B a (w.drewN n) := ⟨h.os, h.tape, h.output, h.size, h.block⟩
theorem wName_ok {k : Int} {m : Nat} {l : List UInt8} (h : nfault (l.takeWhile namb) = 0) : wName k m l = .ok (k, l.takeWhile namb, m + (l.takeWhile namb).length) := if_pos h
theorem wName_bad {k : Int} {m : Nat} {l : List UInt8} (h : nfault (l.takeWhile namb) ≠ 0) : wName k m l = .error (nfault (l.takeWhile namb)) := if_neg h

set_option maxHeartbeats 1000000 in
theorem firstName_any (s : ByteArray) (w : World) (hs : s.size ≤ 900) :
    Calls Tryz.prog 131 #[.string s] w fun e w' => e = endW (wName 1 0 s.data.toList) ∧ Below w.heap.size w w' := by
  have hl : s.data.toList.length = s.size := by simp
  have hr := runL_le namb s.data.toList
  have HX : Hid ((s.extract 0 (runL namb s.data.toList)).data.toList = s.data.toList.takeWhile namb) := by
    show _ = _; rw [head_take, runL_take]
  have HR := runName_any s
  have HN : Hid (runL namb s.data.toList = (s.data.toList.takeWhile namb).length) := rfl
  generalize runL namb s.data.toList = r at *
  have i1 : (r : Int) ≤ (s.size : Int) := by omega
  have hxs : (s.extract 0 r).size = r := by simp; omega
  have hc := fun w => check_any (s.extract 0 r) w (by rw [hxs]; unfold maxLen; omega)
  rw [HX.out] at hc
  by_cases hf : nfault (s.data.toList.takeWhile namb) = 0
  · have HW : Hid (_ = _) := wName_ok (k := 1) (m := 0) hf
    rw [eV_nil hf] at hc
    clear hf
    go_enter Tryz.func131, Tryz.ntmps131
    go_wp2_with fail
    refine (HR _ (by unfold maxLen; omega)).mono ?_
    rintro e w1 ⟨rfl, rfl⟩
    go_wp2_with fail
    refine (hc _).mono ?_
    rintro e w2 ⟨rfl, rfl⟩
    go_wp2_with fail
    refine (wneed_true _ _).mono ?_
    rintro e w3 ⟨rfl, rfl⟩
    go_wp2_with fail
    refine (clone_any (s.extract 0 r) _ (by rw [hxs]; omega)).mono ?_
    rintro e w4 ⟨rfl, hb⟩
    have q0 : ∀ o, w4.cell? ⟨w.heap.size, o, none⟩ = _ := fun o => hb.cell (p := ⟨w.heap.size, o, none⟩) (by simp)
    have qf : ∀ o, w4.frozen? ⟨w.heap.size, o, none⟩ = _ := fun o => hb.frozen (p := ⟨w.heap.size, o, none⟩) (by simp)
    have d0 : w4.cell? ⟨w.heap.size, 0, none⟩ = some (.int .i64 0) := (q0 0).trans (by simp [go_sem])
    have d1 : w4.cell? ⟨w.heap.size, 1, none⟩ = some (.string ⟨#[]⟩) := (q0 1).trans (by simp [go_sem])
    have d2 : w4.cell? ⟨w.heap.size, 2, none⟩ = some (.int .i64 0) := (q0 2).trans (by simp [go_sem])
    have f0 : w4.frozen? ⟨w.heap.size, 0, none⟩ = false := (qf 0).trans (by simp [go_sem])
    have f1 : w4.frozen? ⟨w.heap.size, 1, none⟩ = false := (qf 1).trans (by simp [go_sem])
    have f2 : w4.frozen? ⟨w.heap.size, 2, none⟩ = false := (qf 2).trans (by simp [go_sem])
    have hbw : Below w.heap.size w w4 := ((Below.refl _ _).alloc (Nat.le_refl _) _).trans (hb.mono (by simp))
    clear q0 qf
    go_wp2
    refine bodyPost_ret (v := .tuple #[.agg #[.int .i64 1, .string (s.extract 0 r), .int .i64 0], .int .i64 r]) (by simp [results, Tryz.results131, go_sem, d0, d1, d2]) rfl ⟨?_, ?_⟩
    · rw [HW.out, of_list HX.out, HN.out]
      simp [endW]
    · exact ((hbw.setCell (Nat.le_refl _) _).setCell (Nat.le_refl _) _).setCell (Nat.le_refl _) _
  · have HW : Hid (_ = _) := wName_bad (k := 1) (m := 0) hf
    rw [eV_not hf] at hc
    clear hf
    go_enter Tryz.func131, Tryz.ntmps131
    go_wp2_with fail
    refine (HR _ (by unfold maxLen; omega)).mono ?_
    rintro e w1 ⟨rfl, rfl⟩
    go_wp2_with fail
    refine (hc _).mono ?_
    rintro e w2 ⟨rfl, rfl⟩
    go_wp2_with fail
    refine (wneed_false _ _).mono ?_
    rintro e w3 ⟨rfl, rfl⟩
    go_wp2
    exact ⟨rfl, by rw [HW.out]; rfl, (Below.refl _ _).alloc (Nat.le_refl _) _⟩

theorem wName_n {k : Int} {m : Nat} {l : List UInt8} : ∀ x, wName k m l = .ok x → x.2.2 ≤ m + l.length := by
  intro x h
  unfold wName at h
  split at h
  · cases h; have := takeWhile_le namb l; simp only; omega
  · cases h
theorem wName_slot {l : List UInt8} {k : Int} {m : Nat} : wName k m l = match wName 1 0 l with | .ok x => .ok (k, x.2.1, m + x.2.2) | .error n => .error n := by
  unfold wName
  split
  · simp
  · simp
theorem tail_dropW (t : ByteArray) (n : Nat) : (t.extract n t.size).data.toList = t.data.toList.drop n := by
  rw [Lib.extract_data]
  exact List.take_of_length_le (by simp)

set_option maxHeartbeats 1000000 in
theorem firstSlot_any (s : ByteArray) (w : World) (h1 : 0 < s.size) (hs : s.size ≤ 900) :
    Calls Tryz.prog 135 #[.string s] w fun e w' => e = endW (wName 4 1 (s.data.toList.drop 1)) ∧ Below w.heap.size w w' := by
  have HX := tail_dropW s 1
  have hxs : (s.extract 1 s.size).size = s.size - 1 := by simp
  have i1 : (1 : Int) ≤ (s.size : Int) := by omega
  have HS : Hid (_ = _) := wName_slot (l := s.data.toList.drop 1) (k := 4) (m := 1)
  have hn := fun w => firstName_any (s.extract 1 s.size) w (by rw [hxs]; omega)
  rw [HX] at hn
  have HB := wName_n (k := 1) (m := 0) (l := s.data.toList.drop 1)
  clear HX
  cases hR : wName 1 0 (s.data.toList.drop 1) with
  | error n =>
    rw [hR] at hn HS
    clear hR
    go_enter Tryz.func135, Tryz.ntmps135
    go_wp2_with fail
    refine (hn _).mono ?_
    rintro e w1 ⟨rfl, hb⟩
    unfold endW
    go_wp2
    refine ⟨rfl, by rw [HS.out]; rfl, ?_⟩
    exact ((Below.refl _ _).alloc (Nat.le_refl _) _).trans (hb.mono (by simp))
  | ok x =>
    obtain ⟨k, t, n⟩ := x
    have hb0 := HB _ hR
    simp only [List.length_drop] at hb0
    have hnb : n ≤ 900 := by simp at hb0; omega
    rw [hR] at hn HS
    clear hR HB hb0
    go_enter Tryz.func135, Tryz.ntmps135
    go_wp2_with fail
    refine (hn _).mono ?_
    rintro e w1 ⟨rfl, hb⟩
    have q0 : ∀ o, w1.cell? ⟨w.heap.size, o, none⟩ = _ := fun o => hb.cell (p := ⟨w.heap.size, o, none⟩) (by simp)
    have qf : ∀ o, w1.frozen? ⟨w.heap.size, o, none⟩ = _ := fun o => hb.frozen (p := ⟨w.heap.size, o, none⟩) (by simp)
    have d0 : w1.cell? ⟨w.heap.size, 0, none⟩ = some (.int .i64 0) := (q0 0).trans (by simp [go_sem])
    have d1 : w1.cell? ⟨w.heap.size, 1, none⟩ = some (.string ⟨#[]⟩) := (q0 1).trans (by simp [go_sem])
    have d2 : w1.cell? ⟨w.heap.size, 2, none⟩ = some (.int .i64 0) := (q0 2).trans (by simp [go_sem])
    have f0 : w1.frozen? ⟨w.heap.size, 0, none⟩ = false := (qf 0).trans (by simp [go_sem])
    have f1 : w1.frozen? ⟨w.heap.size, 1, none⟩ = false := (qf 1).trans (by simp [go_sem])
    have f2 : w1.frozen? ⟨w.heap.size, 2, none⟩ = false := (qf 2).trans (by simp [go_sem])
    have hbw : Below w.heap.size w w1 := ((Below.refl _ _).alloc (Nat.le_refl _) _).trans (hb.mono (by simp))
    have hlt : w.heap.size < w1.heap.size := by have := hb.size; simp at this; omega
    clear q0 qf
    unfold endW
    simp only []
    go_wp2
    refine bodyPost_ret (v := .tuple #[.agg #[.int .i64 4, .string ⟨t.toArray⟩, .int .i64 0], .int .i64 (1 + (n : Int))]) (by simp [results, Tryz.results135, go_sem, d0, d1, d2, hlt]) rfl ⟨by rw [HS.out]; simp [endW], ?_⟩
    exact (((hbw.setCell (Nat.le_refl _) _).setCell (Nat.le_refl _) _).setCell (Nat.le_refl _) _).alloc (by simp [World.setCell]; omega) _

theorem dig0_eq : ∀ (l : List UInt8) (h : l ≠ []), dig0 l = l.dropLast.dropWhile (· == 48) ++ [l.getLast h]
  | [], h => absurd rfl h
  | [c], h => by simp [dig0]
  | c :: d :: r, h => by
    have ih := dig0_eq (d :: r) (by simp)
    unfold dig0
    have e : (c :: d :: r).dropLast = c :: (d :: r).dropLast := rfl
    have e2 : (c :: d :: r).getLast h = (d :: r).getLast (by simp) := rfl
    rw [e, e2, List.dropWhile_cons]
    by_cases hc : c = 48
    · subst hc
      rw [if_pos (by decide), if_pos (by decide), ih]
    · have h1 : (c == 48) = false := by simpa using hc
      have h2 : (c.toNat == 48) = false := by
        cases e : (c.toNat == 48) with
        | false => rfl
        | true => exact absurd (UInt8.toNat_inj.1 (by simpa using e)) hc
      rw [h2, h1]
      simp only [Bool.false_eq_true, if_false]
      rw [List.cons_append, List.dropLast_concat_getLast]
theorem digits_eq (s : ByteArray) (m : Nat) (h : m < s.size) (hr : runL digb s.data.toList = m + 1) :
    (s.extract 0 m).data.toList.dropWhile (· == 48) ++ (s.extract m (m + 1)).data.toList = dig0 (s.data.toList.takeWhile digb) := by
  have hl : s.data.toList.length = s.size := by simp
  have ht : s.data.toList.takeWhile digb = s.data.toList.take m ++ [s[m]] := by
    rw [← runL_take, hr, take_snoc s m h]
  rw [dig0_eq _ (by rw [ht]; simp)]
  have h1 : (s.data.toList.takeWhile digb).dropLast = s.data.toList.take m := by rw [ht]; simp
  have h2 : (s.extract m (m + 1)).data.toList = [s[m]] := by
    rw [Lib.extract_data, show m + 1 - m = 1 by omega, List.drop_eq_getElem_cons (by omega)]
    rfl
  rw [h1, head_take, h2]
  congr 2
  simp only [ht, List.getLast_append, List.getLast_singleton]
  rfl

set_option maxHeartbeats 1000000 in
theorem firstNumber_any (s : ByteArray) (w : World) (m : Nat) (hr : runL digb s.data.toList = m + 1) (hs : s.size ≤ 900) :
    Calls Tryz.prog 133 #[.string s] w fun e w' => e = endW (wNum s.data.toList) ∧ Below w.heap.size w w' := by
  have hl : s.data.toList.length = s.size := by simp
  have hm : m < s.size := by have := runL_le digb s.data.toList; omega
  have HD : Hid (_ = _) := digits_eq s m hm hr
  have HR := runDigit_any s
  rw [hr] at HR
  have HT := trim_any (s.extract 0 m)
  obtain ⟨d, HDD, hd⟩ : ∃ d : ByteArray, Hid (d.data.toList = (s.extract 0 m).data.toList.dropWhile (· == 48)) ∧ d = ⟨((s.extract 0 m).data.toList.dropWhile (· == 48)).toArray⟩ := ⟨⟨((s.extract 0 m).data.toList.dropWhile (· == 48)).toArray⟩, by show _ = _; simp, rfl⟩
  rw [← hd] at HT
  have hds : d.size ≤ 900 := by
    have h1 : d.size = d.data.toList.length := by simp
    have h2 := (List.dropWhile_sublist (· == 48) (l := (s.extract 0 m).data.toList)).length_le
    rw [← HDD.out] at h2
    rw [head_take, List.length_take] at h2
    omega
  clear hd
  have hx : (s.extract m (m + 1)).size = 1 := by simp; omega
  have HC : Hid ((d ++ s.extract m (m + 1)).data.toList = dig0 (s.data.toList.takeWhile digb)) := by
    show _ = _
    rw [← HD.out, ← HDD.out]
    simp
  have HN : Hid (runL digb s.data.toList = (s.data.toList.takeWhile digb).length) := rfl
  have hcs : (d ++ s.extract m (m + 1)).size = d.size + 1 := by rw [ByteArray.size_append, hx]
  have i1 : (m : Int) + 1 ≤ (s.size : Int) := by omega
  have i2 : (m : Int) ≤ (s.size : Int) := by omega
  have hwr : IntKind.i64.wrap (m : Int) = (m : Int) := IntWalk.i64_in _ (by omega)
  go_enter Tryz.func133, Tryz.ntmps133
  go_wp2_with fail
  refine (HR _ (by unfold maxLen; omega)).mono ?_
  rintro e w1 ⟨rfl, rfl⟩
  go_wp2_with fail
  have j1 : (0 : Int) ≤ (m : Int) + 1 := by omega
  have j2 : (m : Int) ≤ (m : Int) + 1 := by omega
  have j3 : ¬ 9223372036854775807 < d.size + 1 := by omega
  go_quiet ((go_at_call 147; exact Calls.quiet_of_same (HT _)))
  generalize hE : d ++ s.extract m (m + 1) = E at *
  have HE : Hid _ := hE
  clear hE
  by_cases h19 : 19 < d.size + 1
  · have HW : Hid (wNum s.data.toList = .error 4) := by
      show _ = _
      unfold wNum
      rw [← HC.out, if_pos (by have : E.data.toList.length = E.size := by simp
                               omega)]
    go_wp2_with fail
    rw [decide_eq_false (by omega)]
    refine (wneed_false _ _).mono ?_
    rintro e w3 ⟨rfl, rfl⟩
    go_wp2
    exact ⟨rfl, by rw [HW.out]; rfl, below_draws ((Below.refl _ _).alloc (Nat.le_refl _) _) _⟩
  · have HW : Hid (wNum s.data.toList = .ok (2, E.data.toList, m + 1)) := by
      show _ = _
      unfold wNum
      rw [← HC.out, if_neg (by have : E.data.toList.length = E.size := by simp
                               omega), ← HN.out, hr]
    go_wp2_with fail
    rw [decide_eq_true (by omega)]
    refine (wneed_true _ _).mono ?_
    rintro e w3 ⟨rfl, rfl⟩
    go_wp2_with fail
    refine (clone_any E _ (by omega)).mono ?_
    rintro e w4 ⟨rfl, hb⟩
    have q0 : ∀ o, w4.cell? ⟨w.heap.size, o, none⟩ = _ := fun o => hb.cell (p := ⟨w.heap.size, o, none⟩) (by simp)
    have qf : ∀ o, w4.frozen? ⟨w.heap.size, o, none⟩ = _ := fun o => hb.frozen (p := ⟨w.heap.size, o, none⟩) (by simp)
    have d0 : w4.cell? ⟨w.heap.size, 0, none⟩ = some (.int .i64 0) := (q0 0).trans (by simp [go_sem])
    have d1 : w4.cell? ⟨w.heap.size, 1, none⟩ = some (.string ⟨#[]⟩) := (q0 1).trans (by simp [go_sem])
    have d2 : w4.cell? ⟨w.heap.size, 2, none⟩ = some (.int .i64 0) := (q0 2).trans (by simp [go_sem])
    have f0 : w4.frozen? ⟨w.heap.size, 0, none⟩ = false := (qf 0).trans (by simp [go_sem])
    have f1 : w4.frozen? ⟨w.heap.size, 1, none⟩ = false := (qf 1).trans (by simp [go_sem])
    have f2 : w4.frozen? ⟨w.heap.size, 2, none⟩ = false := (qf 2).trans (by simp [go_sem])
    have hbw : Below w.heap.size w w4 := (below_draws ((Below.refl _ _).alloc (Nat.le_refl _) _) _).trans (hb.mono (by simp))
    clear q0 qf
    go_wp2
    refine bodyPost_ret (v := .tuple #[.agg #[.int .i64 2, .string E, .int .i64 0], .int .i64 ((m : Int) + 1)]) (by simp [results, Tryz.results133, go_sem, d0, d1, d2]) rfl ⟨?_, ?_⟩
    · rw [HW.out]
      simp [endW]
    · exact ((hbw.setCell (Nat.le_refl _) _).setCell (Nat.le_refl _) _).setCell (Nat.le_refl _) _
end Go.Proofs.YtdoeinjilnhijaaGreatDoor
namespace Go.Proofs.YtdoeinjilnhijaaGreatDoor
open Go.RowKit
set_option linter.unusedVariables false

theorem r2Letter_any (c : UInt8) (w : World) :
    Calls Tryz.prog 55 #[.int .u8 (c.toNat : Int)] w fun e w' => e = .returned (.bool (letb c)) ∧ w' = w := by
  go_enter Tryz.func55, Tryz.ntmps55
  go_wp2
  all_goals
    go_ret
    refine ⟨ret_bool ?_, rfl⟩
    rw [Bool.eq_iff_iff]
    simp [letb]
    omega
theorem r2Digit_any (c : UInt8) (w : World) :
    Calls Tryz.prog 53 #[.int .u8 (c.toNat : Int)] w fun e w' => e = .returned (.bool (digb c)) ∧ w' = w := by
  go_enter Tryz.func53, Tryz.ntmps53
  go_wp2
  all_goals
    go_ret
    refine ⟨ret_bool ?_, rfl⟩
    rw [Bool.eq_iff_iff]
    simp [digb]
    omega

theorem runL_yes {p : UInt8 → Bool} {c : UInt8} (h : p c = true) (r : List UInt8) : runL p (c :: r) = runL p r + 1 := by
  unfold runL; rw [List.takeWhile_cons, if_pos h]; rfl
theorem runL_no {p : UInt8 → Bool} {c : UInt8} (h : p c = false) (r : List UInt8) : runL p (c :: r) = 0 := by
  unfold runL; rw [List.takeWhile_cons, if_neg (by rw [h]; decide)]; rfl
theorem runL_nil {p : UInt8 → Bool} : runL p [] = 0 := rfl

/-- The set that run goes by. -/
def setOf (dg : Bool) : UInt8 → Bool := if dg then digb else namb
set_option maxHeartbeats 1000000 in
theorem refRun_any (s : ByteArray) (k : Nat) (dg : Bool) (w : World) (hk : k ≤ s.size) (hs : s.size ≤ maxLen) :
    Calls Tryz.prog 54 #[.string s, .int .i64 k, .bool dg] w fun e w' => e = .returned (.int .i64 ((k + runL (setOf dg) (s.data.toList.drop k) : Nat) : Int)) ∧ w' = w := by
  unfold maxLen at hs
  generalize hR : k + runL (setOf dg) (s.data.toList.drop k) = R
  have HR : Hid (k + runL (setOf dg) (s.data.toList.drop k) = R) := hR
  clear hR
  cases dg
  all_goals
    go_enter Tryz.func54, Tryz.ntmps54
    go_wp2
  · go_loop [1] (fun i => ∃ j : Nat, j ≤ s.size ∧ i = .int .i64 j ∧ Hid (j + runL (setOf false) (s.data.toList.drop j) = R)) (fun i => s.size - (intOf i).toNat)
    case atStart => exact ⟨k, hk, rfl, HR⟩
    case round =>
      clear HR hk
      obtain ⟨j, hj, rfl, HR⟩ := hrel
      by_cases hlt : j < s.size
      · have i1 : (j : Int) < (s.size : Int) := by omega
        have HD : Hid (_ = _) := drop_at s j hlt
        cases hd : digb s[j] <;> cases hl : letb s[j]
        · have HN : Hid (R = j) := by
            have := HR.out
            rw [HD.out, runL_no (by show namb _ = _; unfold namb; rw [hd, hl]; rfl)] at this
            exact this.symm
          go_wp2_with (first | (go_at_call 55; refine (r2Letter_any _ _).mono ?_; rintro e w' ⟨rfl, rfl⟩; rw [hl]) | (go_at_call 53; refine (r2Digit_any _ _).mono ?_; rintro e w' ⟨rfl, rfl⟩; rw [hd]))
          go_ret
          exact ⟨by rw [HN.out]; rfl, rfl⟩
        all_goals
          have HN : Hid (j + 1 + runL (setOf false) (s.data.toList.drop (j + 1)) = R) := by
            have := HR.out
            rw [HD.out, runL_yes (by show namb _ = _; unfold namb; rw [hd, hl]; rfl)] at this
            show _ = _
            omega
          go_wp2_with (first | (go_at_call 55; refine (r2Letter_any _ _).mono ?_; rintro e w' ⟨rfl, rfl⟩; rw [hl]) | (go_at_call 53; refine (r2Digit_any _ _).mono ?_; rintro e w' ⟨rfl, rfl⟩; rw [hd]))
          go_round
          case rel => exact ⟨j + 1, by omega, by go_num, HN⟩
          case measure => simp [intOf]; omega
      · obtain rfl : j = s.size := by omega
        have i1 : ¬ (s.size : Int) < (s.size : Int) := by omega
        have HN : Hid (R = s.size) := by
          have := HR.out
          rw [List.drop_of_length_le (by simp), runL_nil] at this
          exact this.symm
        go_wp2
        go_ret
        exact ⟨by rw [HN.out]; rfl, rfl⟩
  · go_loop [1] (fun i => ∃ j : Nat, j ≤ s.size ∧ i = .int .i64 j ∧ Hid (j + runL (setOf true) (s.data.toList.drop j) = R)) (fun i => s.size - (intOf i).toNat)
    case atStart => exact ⟨k, hk, rfl, HR⟩
    case round =>
      clear HR hk
      obtain ⟨j, hj, rfl, HR⟩ := hrel
      by_cases hlt : j < s.size
      · have i1 : (j : Int) < (s.size : Int) := by omega
        have HD : Hid (_ = _) := drop_at s j hlt
        cases hd : digb s[j]
        · have HN : Hid (R = j) := by
            have := HR.out
            rw [HD.out, runL_no (show setOf true _ = _ from hd)] at this
            exact this.symm
          go_wp2_with (go_at_call 53; refine (r2Digit_any _ _).mono ?_; rintro e w' ⟨rfl, rfl⟩; rw [hd])
          go_ret
          exact ⟨by rw [HN.out]; rfl, rfl⟩
        · have HN : Hid (j + 1 + runL (setOf true) (s.data.toList.drop (j + 1)) = R) := by
            have := HR.out
            rw [HD.out, runL_yes (show setOf true _ = _ from hd)] at this
            show _ = _
            omega
          go_wp2_with (go_at_call 53; refine (r2Digit_any _ _).mono ?_; rintro e w' ⟨rfl, rfl⟩; rw [hd])
          go_round
          case rel => exact ⟨j + 1, by omega, by go_num, HN⟩
          case measure => simp [intOf]; omega
      · obtain rfl : j = s.size := by omega
        have i1 : ¬ (s.size : Int) < (s.size : Int) := by omega
        have HN : Hid (R = s.size) := by
          have := HR.out
          rw [List.drop_of_length_le (by simp), runL_nil] at this
          exact this.symm
        go_wp2
        go_ret
        exact ⟨by rw [HN.out]; rfl, rfl⟩

/-- Does a list begin so? -/
def bgn (x l : List UInt8) : Bool := x == l.take x.length
theorem bgn_short {x l : List UInt8} (h : l.length < x.length) : bgn x l = false := by
  unfold bgn
  cases e : (x == l.take x.length) with
  | false => rfl
  | true =>
    have := congrArg List.length (beq_iff_eq.1 e)
    rw [List.length_take] at this
    omega

set_option maxHeartbeats 1000000 in
theorem begins_any (s x : ByteArray) (k : Nat) (w : World) (hk : k ≤ s.size) (hs : s.size ≤ maxLen) (hx : x.size ≤ 1000) :
    Calls Tryz.prog 58 #[.string s, .int .i64 k, .string x] w fun e w' => e = .returned (.bool (bgn x.data.toList (s.data.toList.drop k))) ∧ ∃ n, w' = w.drewN n := by
  unfold maxLen at hs
  have hl : s.data.toList.length = s.size := by simp
  have hxl : x.data.toList.length = x.size := by simp
  by_cases h0 : s.size - k < x.size
  · have HB : Hid (bgn x.data.toList (s.data.toList.drop k) = false) := bgn_short (by rw [List.length_drop]; omega)
    have i1 : (s.size : Int) - (k : Int) < (x.size : Int) := by omega
    go_enter Tryz.func58, Tryz.ntmps58
    go_wp2
    go_ret
    exact ⟨by rw [HB.out]; rfl, 0, rfl⟩
  · have i1 : ¬ (s.size : Int) - (k : Int) < (x.size : Int) := by omega
    go_enter Tryz.func58, Tryz.ntmps58
    go_wp2
    go_loopw [7] (fun i wr => ∃ j n : Nat, j ≤ x.size ∧ i = .int .i64 j ∧ wr = w.drewN n ∧ Hid (x.data.toList.take j = (s.data.toList.drop k).take j)) (fun i _ => x.size - (intOf i).toNat)
    case atStart => exact ⟨0, 0, Nat.zero_le _, rfl, rfl, rfl⟩
    case round =>
      obtain ⟨j, n, hj, rfl, rfl, HE⟩ := hrel
      by_cases hlt : j < x.size
      · have i2 : (j : Int) < (x.size : Int) := by omega
        have i3 : (k : Int) + (j : Int) < (s.size : Int) := by omega
        have hkj : k + j < s.size := by omega
        have hkj2 : ((k : Int) + (j : Int)).toNat < s.size := by omega
        have hwr : IntKind.i64.wrap ((k : Int) + (j : Int)) = (k : Int) + (j : Int) := IntWalk.i64_in _ (by omega)
        have i4 : (0 : Int) ≤ (k : Int) + (j : Int) := by omega
        have HX : Hid (x.data.toList.take (j + 1) = x.data.toList.take j ++ [x[j]]) := take_snoc x j hlt
        have HS : Hid ((s.data.toList.drop k).take (j + 1) = (s.data.toList.drop k).take j ++ [s[k + j]]) := by
          show _ = _
          rw [List.take_succ_eq_append_getElem (by rw [List.length_drop]; omega), List.getElem_drop]; rfl
        by_cases he : s[k + j] = x[j]
        · have HE2 : Hid (x.data.toList.take (j + 1) = (s.data.toList.drop k).take (j + 1)) := by
            show _ = _; rw [HX.out, HS.out, HE.out, he]
          have he' : (((s[((k : Int) + (j : Int)).toNat]'hkj2).toNat : Int) != (x[j].toNat : Int)) = false := by
            have htn : ((k : Int) + (j : Int)).toNat = k + j := by omega
            simp only [htn, he]; simp
          clear he HX HS HE
          go_wp2
          go_quiet (fail)
          go_wp2
          go_roundw
          case rel => exact ⟨j + 1, _, by omega, by go_num, rfl, HE2⟩
          case measure => simp [intOf]; omega
        · have HB : Hid (bgn x.data.toList (s.data.toList.drop k) = false) := by
            show _ = _
            unfold bgn
            cases e : (x.data.toList == (s.data.toList.drop k).take x.data.toList.length) with
            | false => rfl
            | true =>
              have e1 := congrArg (List.take (j + 1)) (beq_iff_eq.1 e)
              rw [List.take_take, Nat.min_eq_left (by omega), HX.out, HS.out] at e1
              have e2 := List.append_inj_right' e1 rfl
              simp only [List.cons.injEq, and_true] at e2
              exact absurd e2.symm he
          have he' : (((s[((k : Int) + (j : Int)).toNat]'hkj2).toNat : Int) != (x[j].toNat : Int)) = true := by
            have htn : ((k : Int) + (j : Int)).toNat = k + j := by omega
            simp only [htn]
            simp only [bne_iff_ne, ne_eq]
            exact fun h => he (UInt8.toNat_inj.1 (by omega))
          clear he HX HS HE
          go_wp2
          go_quiet (fail)
          go_wp2
          go_ret
          exact ⟨by rw [HB.out]; rfl, _, by rw [World.drewN_drewN]⟩
      · obtain rfl : j = x.size := by omega
        have i2 : ¬ (x.size : Int) < (x.size : Int) := by omega
        have HB : Hid (bgn x.data.toList (s.data.toList.drop k) = true) := by
          show _ = _
          unfold bgn
          have := HE.out
          rw [take_all] at this
          rw [hxl, ← this]; simp
        go_wp2
        go_ret
        exact ⟨by rw [HB.out]; rfl, _, rfl⟩
end Go.Proofs.YtdoeinjilnhijaaGreatDoor
namespace Go.Proofs.YtdoeinjilnhijaaGreatDoor
open Go.RowKit
set_option linter.unusedVariables false

/-- What the document's Word tells of the word at a byte. -/
def refW (k : Nat) : Except Int (Int × List UInt8 × Nat) → Value
  | .ok x => .tuple #[.agg #[.int .i64 x.1, .string ⟨x.2.1.toArray⟩, .int .i64 k], .int .i64 ((k : Int) + (x.2.2 : Int)), .int .i64 0]
  | .error n => .tuple #[.agg #[.int .i64 0, .string ⟨#[]⟩, .int .i64 0], .int .i64 0, .int .i64 n]

theorem piece1 (s : ByteArray) (k : Nat) (h : k < s.size) : (s.extract k (k + 1)).data.toList = [s[k]] := by
  rw [Lib.extract_data, show k + 1 - k = 1 by omega, List.drop_eq_getElem_cons (by simpa using h)]
  rfl
theorem cat_l (a b : ByteArray) : (a ++ b).data.toList = a.data.toList ++ b.data.toList := by simp
theorem okb_no {c : UInt8} (h : okb c = false) : (c.toNat : Int) < 32 ∨ (126 : Int) < (c.toNat : Int) := by
  unfold okb at h
  simp only [Bool.and_eq_false_iff, decide_eq_false_iff_not] at h
  omega
theorem okb_yes {c : UInt8} (h : okb c = true) : ¬ (c.toNat : Int) < 32 ∧ ¬ (126 : Int) < (c.toNat : Int) := by
  unfold okb at h
  simp only [Bool.and_eq_true, decide_eq_true_eq] at h
  omega

theorem grd_not (c : UInt8) (h : grd c = false) : ((c.toNat : Int) != 34) = true ∧ ((c.toNat : Int) != 92) = true := by
  unfold grd at h
  simp only [Bool.or_eq_false_iff, beq_eq_false_iff_ne] at h
  exact ⟨by simp; omega, by simp; omega⟩
theorem grd_way (c : UInt8) (h : grd c = true) : ((c.toNat : Int) != 34) = false ∨ (((c.toNat : Int) != 34) = true ∧ ((c.toNat : Int) != 92) = false) := by
  unfold grd at h
  simp only [Bool.or_eq_true, beq_iff_eq] at h
  by_cases h1 : c.toNat = 34
  · exact .inl (by simp; omega)
  · exact .inr ⟨by simp; omega, by simp; omega⟩

/-- From a place on, behind this text. -/
def qfrom (k j : Nat) (T l : List UInt8) (R : Option (List UInt8 × Nat)) : Prop := (qsc false l).map (fun x => (T ++ x.1, j - (k + 1) + x.2)) = R
theorem qfrom_end {k j : Nat} {T : List UInt8} {R : Option (List UInt8 × Nat)} (h : qfrom k j T [] R) : R = none := by
  unfold qfrom at h; rw [qsc_end] at h; exact h.symm
theorem qfrom_quote {k j : Nat} {T r : List UInt8} {c : UInt8} {R : Option (List UInt8 × Nat)} (hc : (c.toNat == 34) = true) (h : qfrom k j T (c :: r) R) : R = some (T, j - (k + 1)) := by
  unfold qfrom at h; rw [qsc_quote (by rw [hc]; rfl)] at h; simpa using h.symm
theorem qfrom_plain {k j : Nat} {T r : List UInt8} {c : UInt8} {R : Option (List UInt8 × Nat)} (hk : k + 1 ≤ j) (h34 : (c.toNat == 34) = false) (h92 : (c.toNat == 92) = false) (ho : okb c = true) (h : qfrom k j T (c :: r) R) : qfrom k (j + 1) (T ++ [c]) r R := by
  unfold qfrom at *
  rw [qsc_go (by rw [h34]; rfl) (by rw [ho]; rfl), h92] at h
  simp only [Bool.false_and] at h
  rw [← h]
  cases qsc false r with
  | none => rfl
  | some x => simp; omega
theorem qfrom_wrong {k j : Nat} {T r : List UInt8} {c : UInt8} {R : Option (List UInt8 × Nat)} (h34 : (c.toNat == 34) = false) (ho : okb c = false) (h : qfrom k j T (c :: r) R) : R = none := by
  unfold qfrom at h
  rw [qsc_no (by rw [h34]; rfl) (by rw [ho]; rfl)] at h
  exact h.symm
theorem qsc_bs (r : List UInt8) {c : UInt8} (hc : (c.toNat == 92) = true) : qsc false (c :: r) = (qsc true r).map fun x => (x.1, x.2 + 1) := by
  obtain rfl : c = 92 := UInt8.toNat_inj.1 (by simpa using hc)
  rw [qsc_go (by decide) (by decide)]
  rfl
theorem qfrom_cut {k j : Nat} {T : List UInt8} {c : UInt8} {R : Option (List UInt8 × Nat)} (hc : (c.toNat == 92) = true) (h : qfrom k j T [c] R) : R = none := by
  unfold qfrom at h; rw [qsc_bs _ hc, qsc_end] at h; exact h.symm
theorem qfrom_bad {k j : Nat} {T r : List UInt8} {c d : UInt8} {R : Option (List UInt8 × Nat)} (hc : (c.toNat == 92) = true) (hd : grd d = false) (h : qfrom k j T (c :: d :: r) R) : R = none := by
  unfold qfrom at h; rw [qsc_bs _ hc, qsc_no (by simp) (by rw [hd]; simp)] at h; exact h.symm
theorem qfrom_guard {k j : Nat} {T r : List UInt8} {c d : UInt8} {R : Option (List UInt8 × Nat)} (hk : k + 1 ≤ j) (hc : (c.toNat == 92) = true) (hd : grd d = true) (h : qfrom k j T (c :: d :: r) R) : qfrom k (j + 2) (T ++ [d]) r R := by
  unfold qfrom at *
  rw [qsc_bs _ hc, qsc_go (by simp) (by rw [grd_ok hd, hd]; rfl)] at h
  rw [← h]
  simp only [Bool.not_true, Bool.and_false]
  cases qsc false r with
  | none => rfl
  | some x => simp; omega

set_option maxHeartbeats 4000000 in
theorem refQuo_any (s : ByteArray) (k : Nat) (w : World) (hk : k < s.size) (hs : s.size ≤ 140737488351232) :
    Calls Tryz.prog 57 #[.string s, .int .i64 k] w fun e w' => e = .returned (refW k (wQuo (s.data.toList.drop (k + 1)))) ∧ Below w.heap.size w w' := by
  have hl : s.data.toList.length = s.size := by simp
  have hb0 : Below w.heap.size w (w.alloc (.cells #[.int .i64 0, .string ⟨#[]⟩, .int .i64 0] 47)) := (Below.refl _ _).alloc (Nat.le_refl _) _
  have Hnone : Hid (∀ R : Option (List UInt8 × Nat), qsc false (s.data.toList.drop (k + 1)) = R → R = none → wQuo (s.data.toList.drop (k + 1)) = .error 1) := fun R h1 h2 => wQuo_none (by rw [h1, h2])
  have Hlong : Hid (∀ (R : Option (List UInt8 × Nat)) (x : List UInt8 × Nat), qsc false (s.data.toList.drop (k + 1)) = R → R = some x → 60 < x.1.length → wQuo (s.data.toList.drop (k + 1)) = .error 4) := fun R x h1 h2 h3 => wQuo_long (by rw [h1, h2]) h3
  have Hgood : Hid (∀ (R : Option (List UInt8 × Nat)) (x : List UInt8 × Nat), qsc false (s.data.toList.drop (k + 1)) = R → R = some x → ¬ 60 < x.1.length → wQuo (s.data.toList.drop (k + 1)) = .ok (3, x.1, x.2 + 2)) := fun R x h1 h2 h3 => wQuo_ok (by rw [h1, h2]) h3
  generalize hR : qsc false (s.data.toList.drop (k + 1)) = R at *
  have HR : Hid (qfrom k (k + 1) [] (s.data.toList.drop (k + 1)) R) := by
    show (qsc false (s.data.toList.drop (k + 1))).map _ = R
    rw [hR]; cases R <;> simp
  clear hR
  have ik : (k : Int) < (s.size : Int) := by omega
  go_enter Tryz.func57, Tryz.ntmps57
  go_wp2
  go_loop [7, 8] (fun t i => ∃ (j : Nat) (T : ByteArray), k + 1 ≤ j ∧ j ≤ s.size ∧ T.size ≤ j ∧ i = .int .i64 j ∧ t = .string T ∧ Hid (qfrom k j T.data.toList (s.data.toList.drop j) R)) (fun _ i => s.size - (intOf i).toNat)
  case atStart => exact ⟨k + 1, ⟨#[]⟩, Nat.le_refl _, by omega, Nat.zero_le _, by go_num, rfl, HR⟩
  case round =>
    clear HR
    obtain ⟨j, T, hkj, hj, hT, rfl, rfl, HR⟩ := hrel
    by_cases hlt : j < s.size
    · have i1 : (j : Int) < (s.size : Int) := by omega
      have HD : Hid (_ = _) := drop_at s j hlt
      cases h34 : (s[j].toNat == 34)
      · have n34 : ((s[j].toNat : Int) == 34) = false := by simp at h34 ⊢; omega
        have m34 : ((s[j].toNat : Int) != 34) = true := by simp at h34 ⊢; omega
        cases h92 : (s[j].toNat == 92)
        · have n92 : ((s[j].toNat : Int) == 92) = false := by simp at h92 ⊢; omega
          have i2 : (j : Int) + 1 ≤ (s.size : Int) := by omega
          have hx : (s.extract j (j + 1)).size = 1 := by simp; omega
          cases ho : okb s[j]
          · have HW : Hid _ := Hnone.out _ rfl (qfrom_wrong h34 ho (by have := HR.out; rw [HD.out] at this; exact this))
            clear Hnone Hlong Hgood h34 h92
            rcases okb_no ho with b1 | b2
            · go_wp2
              refine bodyPost_ret (v := .tuple #[.agg #[.int .i64 0, .string ⟨#[]⟩, .int .i64 0], .int .i64 0, .int .i64 1]) (by simp [results, Tryz.results57, go_sem]) rfl ⟨by rw [HW.out]; rfl, hb0⟩
            · have b1 : ¬ (s[j].toNat : Int) < 32 := by omega
              go_wp2
              refine bodyPost_ret (v := .tuple #[.agg #[.int .i64 0, .string ⟨#[]⟩, .int .i64 0], .int .i64 0, .int .i64 1]) (by simp [results, Tryz.results57, go_sem]) rfl ⟨by rw [HW.out]; rfl, hb0⟩
          · have HN : Hid (qfrom k (j + 1) (T ++ s.extract j (j + 1)).data.toList (s.data.toList.drop (j + 1)) R) := by
              show qfrom _ _ _ _ _
              rw [cat_l, piece1 s j hlt]
              exact qfrom_plain hkj h34 h92 ho (by have := HR.out; rw [HD.out] at this; exact this)
            obtain ⟨b1, b2⟩ := okb_yes ho
            have hTs : (T ++ s.extract j (j + 1)).size ≤ j + 1 := by rw [ByteArray.size_append, hx]; omega
            clear HR HD h34 h92 ho Hnone Hlong Hgood
            go_wp2
            go_round
            case rel => exact ⟨j + 1, _, by omega, by omega, hTs, by go_num, rfl, HN⟩
            case measure => simp [intOf]; omega
        · have n92 : ((s[j].toNat : Int) == 92) = true := by simp at h92 ⊢; omega
          by_cases hj1 : j + 1 < s.size
          · have i2 : ¬ (s.size : Int) ≤ (j : Int) + 1 := by omega
            have i3 : (j : Int) + 1 < (s.size : Int) := by omega
            have i4 : (j : Int) + 1 + 1 ≤ (s.size : Int) := by omega
            have HD1 : Hid (_ = _) := drop_at s (j + 1) hj1
            have hx : (s.extract (j + 1) (j + 1 + 1)).size = 1 := by simp; omega
            cases hg : grd s[j + 1]
            · have HW : Hid _ := Hnone.out _ rfl (qfrom_bad h92 hg (by have := HR.out; rw [HD.out, HD1.out] at this; exact this))
              obtain ⟨g1, g2⟩ := grd_not _ hg
              clear Hnone Hlong Hgood h34 h92
              go_wp2
              refine bodyPost_ret (v := .tuple #[.agg #[.int .i64 0, .string ⟨#[]⟩, .int .i64 0], .int .i64 0, .int .i64 1]) (by simp [results, Tryz.results57, go_sem]) rfl ⟨by rw [HW.out]; rfl, hb0⟩
            · have HN : Hid (qfrom k (j + 2) (T ++ s.extract (j + 1) (j + 1 + 1)).data.toList (s.data.toList.drop (j + 2)) R) := by
                show qfrom _ _ _ _ _
                rw [cat_l, piece1 s (j + 1) hj1]
                exact qfrom_guard hkj h92 hg (by have := HR.out; rw [HD.out, HD1.out] at this; exact this)
              obtain ⟨b1, b2⟩ := okb_yes (grd_ok hg)
              have hTs : (T ++ s.extract (j + 1) (j + 1 + 1)).size ≤ j + 2 := by rw [ByteArray.size_append, hx]; omega
              have hwy := grd_way _ hg
              clear HR HD HD1 h34 h92 hg Hnone Hlong Hgood
              rcases hwy with g1 | ⟨g1, g2⟩
              all_goals
                go_wp2
                go_round
                case rel => exact ⟨j + 2, _, by omega, by omega, hTs, by go_num, rfl, HN⟩
                case measure => simp [intOf]; omega
          · have i2 : (s.size : Int) ≤ (j : Int) + 1 := by omega
            have HW : Hid _ := Hnone.out _ rfl (qfrom_cut h92 (by have := HR.out; rw [HD.out, List.drop_of_length_le (by rw [hl]; omega)] at this; exact this))
            clear Hnone Hlong Hgood h34 h92
            go_wp2
            refine bodyPost_ret (v := .tuple #[.agg #[.int .i64 0, .string ⟨#[]⟩, .int .i64 0], .int .i64 0, .int .i64 1]) (by simp [results, Tryz.results57, go_sem]) rfl ⟨by rw [HW.out]; rfl, hb0⟩
      · have n34 : ((s[j].toNat : Int) == 34) = true := by simp at h34 ⊢; omega
        have m34 : ((s[j].toNat : Int) != 34) = false := by simp at h34 ⊢; omega
        have i2 : ¬ (s.size : Int) ≤ (j : Int) := by omega
        have HS : Hid (R = some (T.data.toList, j - (k + 1))) := qfrom_quote h34 (by have := HR.out; rw [HD.out] at this; exact this)
        have hTl : T.data.toList.length = T.size := by simp
        by_cases h60 : 60 < T.size
        · have HW : Hid _ := Hlong.out _ _ rfl HS.out (by simp only; omega)
          have i3 : (60 : Int) < (T.size : Int) := by omega
          clear Hnone Hlong Hgood h34
          go_wp2
          refine bodyPost_ret (v := .tuple #[.agg #[.int .i64 0, .string ⟨#[]⟩, .int .i64 0], .int .i64 0, .int .i64 4]) (by simp [results, Tryz.results57, go_sem]) rfl ⟨by rw [HW.out]; rfl, hb0⟩
        · have HW : Hid _ := Hgood.out _ _ rfl HS.out (by simp only; omega)
          have i3 : ¬ (60 : Int) < (T.size : Int) := by omega
          have hb1 : Below w.heap.size w (w.alloc (.cells #[.int .i64 3, .string T, .int .i64 k] 47)) := (Below.refl _ _).alloc (Nat.le_refl _) _
          clear Hnone Hlong Hgood h34
          go_wp2
          refine bodyPost_ret (v := .tuple #[.agg #[.int .i64 3, .string T, .int .i64 k], .int .i64 ((j : Int) + 1), .int .i64 0]) (by simp [results, Tryz.results57, go_sem]) rfl ⟨?_, hb1⟩
          rw [HW.out]
          unfold refW
          simp only []
          rw [show (k : Int) + ((j - (k + 1) + 2 : Nat) : Int) = (j : Int) + 1 by omega]
    · obtain rfl : j = s.size := by omega
      have i1 : ¬ (s.size : Int) < (s.size : Int) := by omega
      have i2 : (s.size : Int) ≤ (s.size : Int) := by omega
      have HW : Hid _ := Hnone.out _ rfl (qfrom_end (by have := HR.out; rw [List.drop_of_length_le (by simp)] at this; exact this))
      clear Hnone Hlong Hgood
      go_wp2
      refine bodyPost_ret (v := .tuple #[.agg #[.int .i64 0, .string ⟨#[]⟩, .int .i64 0], .int .i64 0, .int .i64 1]) (by simp [results, Tryz.results57, go_sem]) rfl ⟨by rw [HW.out]; rfl, hb0⟩
end Go.Proofs.YtdoeinjilnhijaaGreatDoor
namespace Go.Proofs.YtdoeinjilnhijaaGreatDoor
open Go.RowKit
set_option linter.unusedVariables false

/-- A token that was laid stands behind a callee as it was laid. -/
theorem tok_kept {w w1 : World} (hb : Below (w.alloc (.cells #[.int .i64 0, .string ⟨#[]⟩, .int .i64 0] 47)).heap.size (w.alloc (.cells #[.int .i64 0, .string ⟨#[]⟩, .int .i64 0] 47)) w1) :
    w1.cell? ⟨w.heap.size, 0, none⟩ = some (.int .i64 0) ∧ w1.cell? ⟨w.heap.size, 1, none⟩ = some (.string ⟨#[]⟩) ∧ w1.cell? ⟨w.heap.size, 2, none⟩ = some (.int .i64 0) ∧
    w1.frozen? ⟨w.heap.size, 0, none⟩ = false ∧ w1.frozen? ⟨w.heap.size, 1, none⟩ = false ∧ w1.frozen? ⟨w.heap.size, 2, none⟩ = false ∧ Below w.heap.size w w1 := by
  have q0 : ∀ o, w1.cell? ⟨w.heap.size, o, none⟩ = _ := fun o => hb.cell (p := ⟨w.heap.size, o, none⟩) (by simp)
  have qf : ∀ o, w1.frozen? ⟨w.heap.size, o, none⟩ = _ := fun o => hb.frozen (p := ⟨w.heap.size, o, none⟩) (by simp)
  exact ⟨(q0 0).trans (by simp [go_sem]), (q0 1).trans (by simp [go_sem]), (q0 2).trans (by simp [go_sem]), (qf 0).trans (by simp [go_sem]), (qf 1).trans (by simp [go_sem]), (qf 2).trans (by simp [go_sem]),
    ((Below.refl _ _).alloc (Nat.le_refl _) _).trans (hb.mono (by simp))⟩

theorem any_one (s : ByteArray) (h : 0 < s.size) : (s.data.toList.take 1).any (fun c => shorts.contains c) = shorts.contains s[0] := by
  have : s.data.toList.take 1 = [s[0]] := by
    have := take_snoc s 0 h
    simpa using this
  rw [this]; simp
theorem idx_short (c : UInt8) : decide (0 ≤ Lib.indexByte (⟨#[40, 41, 91, 93, 123, 125, 44, 58, 46, 60, 33, 43, 45, 42]⟩ : ByteArray).data.toList c) = shorts.contains c := idx_has shorts c

set_option maxHeartbeats 1000000 in
theorem firstSign_any (s : ByteArray) (w : World) (h1 : 0 < s.size) (hs : s.size ≤ 900) :
    Calls Tryz.prog 136 #[.string s] w fun e w' => e = endW (wSign s.data.toList) ∧ Below w.heap.size w w' := by
  have hl : s.data.toList.length = s.size := by simp
  have hone := any_one s h1
  have HI : Hid (_ = _) := idx_short s[0]
  have i1 : (0 : Int) < (s.size : Int) := by omega
  by_cases h2 : s.size = 1
  · have hmin : min (2 : Int) (s.size : Int) = 1 := by omega
    have htwo : two (s.data.toList.take 2) = false := by
      cases e : two (s.data.toList.take 2) with
      | false => rfl
      | true => have := two_len e; omega
    have hxl : (s.extract 0 1).toList.length = 1 := by rw [ByteArray.toList_eq, head_take, List.length_take]; omega
    have ne : ∀ a b : UInt8, ((s.extract 0 1).toList == [a, b]) = false := by
      intro a b
      cases e : ((s.extract 0 1).toList == [a, b]) with
      | false => rfl
      | true => rw [beq_iff_eq.1 e] at hxl; simp at hxl
    have b1 := ne 58 58
    have b2 := ne 61 61
    have b3 := ne 60 61
    have b4 := ne 38 38
    have b5 := ne 124 124
    clear ne h2 hxl
    cases hsh : shorts.contains s[0]
    · have HW : Hid (wSign s.data.toList = .error 1) := by
        show _ = _
        unfold wSign; rw [htwo, hone, hsh]; rfl
      clear htwo hone
      rw [hsh] at HI
      go_enter Tryz.func136, Tryz.ntmps136
      go_wp2_with fail
      refine (idx_any _ _ _).mono ?_
      rintro e w1 ⟨rfl, rfl⟩
      go_wp2_with fail
      rw [HI.out]
      refine (wneed_false _ _).mono ?_
      rintro e w3 ⟨rfl, rfl⟩
      go_wp2
      exact ⟨rfl, by rw [HW.out]; rfl, (Below.refl _ _).alloc (Nat.le_refl _) _⟩
    · have HW : Hid (wSign s.data.toList = .ok (5, s.data.toList.take 1, 1)) := by
        show _ = _
        unfold wSign; rw [htwo, hone, hsh]; rfl
      clear htwo hone
      rw [hsh] at HI
      have HX1 : Hid ((s.extract 0 1).data.toList = s.data.toList.take 1) := head_take s 1
      have hx1 : (s.extract 0 1).size = 1 := by simp; omega
      have i3 : (1 : Int) ≤ (s.size : Int) := by omega
      go_enter Tryz.func136, Tryz.ntmps136
      go_wp2_with fail
      refine (idx_any _ _ _).mono ?_
      rintro e w1 ⟨rfl, rfl⟩
      go_wp2_with fail
      rw [HI.out]
      refine (wneed_true _ _).mono ?_
      rintro e w3 ⟨rfl, rfl⟩
      go_wp2_with fail
      refine (clone_any (s.extract 0 1) _ (by omega)).mono ?_
      rintro e w4 ⟨rfl, hb⟩
      have q0 : ∀ o, w4.cell? ⟨w.heap.size, o, none⟩ = _ := fun o => hb.cell (p := ⟨w.heap.size, o, none⟩) (by simp)
      have qf : ∀ o, w4.frozen? ⟨w.heap.size, o, none⟩ = _ := fun o => hb.frozen (p := ⟨w.heap.size, o, none⟩) (by simp)
      have d0 : w4.cell? ⟨w.heap.size, 0, none⟩ = some (.int .i64 0) := (q0 0).trans (by simp [go_sem])
      have d1 : w4.cell? ⟨w.heap.size, 1, none⟩ = some (.string ⟨#[]⟩) := (q0 1).trans (by simp [go_sem])
      have d2 : w4.cell? ⟨w.heap.size, 2, none⟩ = some (.int .i64 0) := (q0 2).trans (by simp [go_sem])
      have f0 : w4.frozen? ⟨w.heap.size, 0, none⟩ = false := (qf 0).trans (by simp [go_sem])
      have f1 : w4.frozen? ⟨w.heap.size, 1, none⟩ = false := (qf 1).trans (by simp [go_sem])
      have f2 : w4.frozen? ⟨w.heap.size, 2, none⟩ = false := (qf 2).trans (by simp [go_sem])
      have hbw : Below w.heap.size w w4 := ((Below.refl _ _).alloc (Nat.le_refl _) _).trans (hb.mono (by simp))
      clear q0 qf
      go_wp2
      refine bodyPost_ret (v := .tuple #[.agg #[.int .i64 5, .string (s.extract 0 1), .int .i64 0], .int .i64 1]) (by simp [results, Tryz.results136, go_sem, d0, d1, d2]) rfl ⟨?_, ?_⟩
      · rw [HW.out, of_list HX1.out]
        rfl
      · exact ((hbw.setCell (Nat.le_refl _) _).setCell (Nat.le_refl _) _).setCell (Nat.le_refl _) _
  · have hmin : min (2 : Int) (s.size : Int) = 2 := by omega
    have i2 : (2 : Int) ≤ (s.size : Int) := by omega
    have HX : Hid ((s.extract 0 2).data.toList = s.data.toList.take 2) := head_take s 2
    have hxs : (s.extract 0 2).size = 2 := by simp; omega
    generalize hx : s.extract 0 2 = x at *
    have HXl : Hid (s.data.toList.take 2 = x.toList) := by show _ = _; rw [ByteArray.toList_eq]; exact HX.out.symm
    cases b1 : (x.toList == [58, 58])
    · skip
      cases b2 : (x.toList == [61, 61])
      · skip
        cases b3 : (x.toList == [60, 61])
        · skip
          cases b4 : (x.toList == [38, 38])
          · skip
            cases b5 : (x.toList == [124, 124])
            · skip
              have htwo : two (s.data.toList.take 2) = false := by
                rw [HXl.out]; unfold two; rw [b1, b2, b3, b4, b5]; rfl
              cases hsh : shorts.contains s[0]
              · have HW : Hid (wSign s.data.toList = .error 1) := by
                  show _ = _
                  unfold wSign; rw [htwo, hone, hsh]; rfl
                clear htwo hone
                rw [hsh] at HI
                go_enter Tryz.func136, Tryz.ntmps136
                go_wp2_with fail
                refine (idx_any _ _ _).mono ?_
                rintro e w1 ⟨rfl, rfl⟩
                go_wp2_with fail
                rw [HI.out]
                refine (wneed_false _ _).mono ?_
                rintro e w3 ⟨rfl, rfl⟩
                go_wp2
                exact ⟨rfl, by rw [HW.out]; rfl, (Below.refl _ _).alloc (Nat.le_refl _) _⟩
              · have HW : Hid (wSign s.data.toList = .ok (5, s.data.toList.take 1, 1)) := by
                  show _ = _
                  unfold wSign; rw [htwo, hone, hsh]; rfl
                clear htwo hone
                rw [hsh] at HI
                have HX1 : Hid ((s.extract 0 1).data.toList = s.data.toList.take 1) := head_take s 1
                have hx1 : (s.extract 0 1).size = 1 := by simp; omega
                have i3 : (1 : Int) ≤ (s.size : Int) := by omega
                go_enter Tryz.func136, Tryz.ntmps136
                go_wp2_with fail
                refine (idx_any _ _ _).mono ?_
                rintro e w1 ⟨rfl, rfl⟩
                go_wp2_with fail
                rw [HI.out]
                refine (wneed_true _ _).mono ?_
                rintro e w3 ⟨rfl, rfl⟩
                go_wp2_with fail
                refine (clone_any (s.extract 0 1) _ (by omega)).mono ?_
                rintro e w4 ⟨rfl, hb⟩
                have q0 : ∀ o, w4.cell? ⟨w.heap.size, o, none⟩ = _ := fun o => hb.cell (p := ⟨w.heap.size, o, none⟩) (by simp)
                have qf : ∀ o, w4.frozen? ⟨w.heap.size, o, none⟩ = _ := fun o => hb.frozen (p := ⟨w.heap.size, o, none⟩) (by simp)
                have d0 : w4.cell? ⟨w.heap.size, 0, none⟩ = some (.int .i64 0) := (q0 0).trans (by simp [go_sem])
                have d1 : w4.cell? ⟨w.heap.size, 1, none⟩ = some (.string ⟨#[]⟩) := (q0 1).trans (by simp [go_sem])
                have d2 : w4.cell? ⟨w.heap.size, 2, none⟩ = some (.int .i64 0) := (q0 2).trans (by simp [go_sem])
                have f0 : w4.frozen? ⟨w.heap.size, 0, none⟩ = false := (qf 0).trans (by simp [go_sem])
                have f1 : w4.frozen? ⟨w.heap.size, 1, none⟩ = false := (qf 1).trans (by simp [go_sem])
                have f2 : w4.frozen? ⟨w.heap.size, 2, none⟩ = false := (qf 2).trans (by simp [go_sem])
                have hbw : Below w.heap.size w w4 := ((Below.refl _ _).alloc (Nat.le_refl _) _).trans (hb.mono (by simp))
                clear q0 qf
                go_wp2
                refine bodyPost_ret (v := .tuple #[.agg #[.int .i64 5, .string (s.extract 0 1), .int .i64 0], .int .i64 1]) (by simp [results, Tryz.results136, go_sem, d0, d1, d2]) rfl ⟨?_, ?_⟩
                · rw [HW.out, of_list HX1.out]
                  rfl
                · exact ((hbw.setCell (Nat.le_refl _) _).setCell (Nat.le_refl _) _).setCell (Nat.le_refl _) _
            · have HW : Hid (wSign s.data.toList = .ok (5, s.data.toList.take 2, 2)) := by
                show _ = _
                have htwo : two (s.data.toList.take 2) = true := by
                  rw [HXl.out]; unfold two; rw [b1, b2, b3, b4, b5]; simp
                unfold wSign; rw [htwo]; rfl
              clear hone HI
              go_enter Tryz.func136, Tryz.ntmps136
              go_wp2_with fail
              refine (clone_any x _ (by omega)).mono ?_
              rintro e w4 ⟨rfl, hb⟩
              have q0 : ∀ o, w4.cell? ⟨w.heap.size, o, none⟩ = _ := fun o => hb.cell (p := ⟨w.heap.size, o, none⟩) (by simp)
              have qf : ∀ o, w4.frozen? ⟨w.heap.size, o, none⟩ = _ := fun o => hb.frozen (p := ⟨w.heap.size, o, none⟩) (by simp)
              have d0 : w4.cell? ⟨w.heap.size, 0, none⟩ = some (.int .i64 0) := (q0 0).trans (by simp [go_sem])
              have d1 : w4.cell? ⟨w.heap.size, 1, none⟩ = some (.string ⟨#[]⟩) := (q0 1).trans (by simp [go_sem])
              have d2 : w4.cell? ⟨w.heap.size, 2, none⟩ = some (.int .i64 0) := (q0 2).trans (by simp [go_sem])
              have f0 : w4.frozen? ⟨w.heap.size, 0, none⟩ = false := (qf 0).trans (by simp [go_sem])
              have f1 : w4.frozen? ⟨w.heap.size, 1, none⟩ = false := (qf 1).trans (by simp [go_sem])
              have f2 : w4.frozen? ⟨w.heap.size, 2, none⟩ = false := (qf 2).trans (by simp [go_sem])
              have hbw : Below w.heap.size w w4 := ((Below.refl _ _).alloc (Nat.le_refl _) _).trans (hb.mono (by simp))
              clear q0 qf
              go_wp2
              refine bodyPost_ret (v := .tuple #[.agg #[.int .i64 5, .string x, .int .i64 0], .int .i64 2]) (by simp [results, Tryz.results136, go_sem, d0, d1, d2]) rfl ⟨?_, ?_⟩
              · rw [HW.out, of_list HX.out]
                rfl
              · exact ((hbw.setCell (Nat.le_refl _) _).setCell (Nat.le_refl _) _).setCell (Nat.le_refl _) _
          · have HW : Hid (wSign s.data.toList = .ok (5, s.data.toList.take 2, 2)) := by
              show _ = _
              have htwo : two (s.data.toList.take 2) = true := by
                rw [HXl.out]; unfold two; rw [b1, b2, b3, b4]; simp
              unfold wSign; rw [htwo]; rfl
            clear hone HI
            go_enter Tryz.func136, Tryz.ntmps136
            go_wp2_with fail
            refine (clone_any x _ (by omega)).mono ?_
            rintro e w4 ⟨rfl, hb⟩
            have q0 : ∀ o, w4.cell? ⟨w.heap.size, o, none⟩ = _ := fun o => hb.cell (p := ⟨w.heap.size, o, none⟩) (by simp)
            have qf : ∀ o, w4.frozen? ⟨w.heap.size, o, none⟩ = _ := fun o => hb.frozen (p := ⟨w.heap.size, o, none⟩) (by simp)
            have d0 : w4.cell? ⟨w.heap.size, 0, none⟩ = some (.int .i64 0) := (q0 0).trans (by simp [go_sem])
            have d1 : w4.cell? ⟨w.heap.size, 1, none⟩ = some (.string ⟨#[]⟩) := (q0 1).trans (by simp [go_sem])
            have d2 : w4.cell? ⟨w.heap.size, 2, none⟩ = some (.int .i64 0) := (q0 2).trans (by simp [go_sem])
            have f0 : w4.frozen? ⟨w.heap.size, 0, none⟩ = false := (qf 0).trans (by simp [go_sem])
            have f1 : w4.frozen? ⟨w.heap.size, 1, none⟩ = false := (qf 1).trans (by simp [go_sem])
            have f2 : w4.frozen? ⟨w.heap.size, 2, none⟩ = false := (qf 2).trans (by simp [go_sem])
            have hbw : Below w.heap.size w w4 := ((Below.refl _ _).alloc (Nat.le_refl _) _).trans (hb.mono (by simp))
            clear q0 qf
            go_wp2
            refine bodyPost_ret (v := .tuple #[.agg #[.int .i64 5, .string x, .int .i64 0], .int .i64 2]) (by simp [results, Tryz.results136, go_sem, d0, d1, d2]) rfl ⟨?_, ?_⟩
            · rw [HW.out, of_list HX.out]
              rfl
            · exact ((hbw.setCell (Nat.le_refl _) _).setCell (Nat.le_refl _) _).setCell (Nat.le_refl _) _
        · have HW : Hid (wSign s.data.toList = .ok (5, s.data.toList.take 2, 2)) := by
            show _ = _
            have htwo : two (s.data.toList.take 2) = true := by
              rw [HXl.out]; unfold two; rw [b1, b2, b3]; simp
            unfold wSign; rw [htwo]; rfl
          clear hone HI
          go_enter Tryz.func136, Tryz.ntmps136
          go_wp2_with fail
          refine (clone_any x _ (by omega)).mono ?_
          rintro e w4 ⟨rfl, hb⟩
          have q0 : ∀ o, w4.cell? ⟨w.heap.size, o, none⟩ = _ := fun o => hb.cell (p := ⟨w.heap.size, o, none⟩) (by simp)
          have qf : ∀ o, w4.frozen? ⟨w.heap.size, o, none⟩ = _ := fun o => hb.frozen (p := ⟨w.heap.size, o, none⟩) (by simp)
          have d0 : w4.cell? ⟨w.heap.size, 0, none⟩ = some (.int .i64 0) := (q0 0).trans (by simp [go_sem])
          have d1 : w4.cell? ⟨w.heap.size, 1, none⟩ = some (.string ⟨#[]⟩) := (q0 1).trans (by simp [go_sem])
          have d2 : w4.cell? ⟨w.heap.size, 2, none⟩ = some (.int .i64 0) := (q0 2).trans (by simp [go_sem])
          have f0 : w4.frozen? ⟨w.heap.size, 0, none⟩ = false := (qf 0).trans (by simp [go_sem])
          have f1 : w4.frozen? ⟨w.heap.size, 1, none⟩ = false := (qf 1).trans (by simp [go_sem])
          have f2 : w4.frozen? ⟨w.heap.size, 2, none⟩ = false := (qf 2).trans (by simp [go_sem])
          have hbw : Below w.heap.size w w4 := ((Below.refl _ _).alloc (Nat.le_refl _) _).trans (hb.mono (by simp))
          clear q0 qf
          go_wp2
          refine bodyPost_ret (v := .tuple #[.agg #[.int .i64 5, .string x, .int .i64 0], .int .i64 2]) (by simp [results, Tryz.results136, go_sem, d0, d1, d2]) rfl ⟨?_, ?_⟩
          · rw [HW.out, of_list HX.out]
            rfl
          · exact ((hbw.setCell (Nat.le_refl _) _).setCell (Nat.le_refl _) _).setCell (Nat.le_refl _) _
      · have HW : Hid (wSign s.data.toList = .ok (5, s.data.toList.take 2, 2)) := by
          show _ = _
          have htwo : two (s.data.toList.take 2) = true := by
            rw [HXl.out]; unfold two; rw [b1, b2]; simp
          unfold wSign; rw [htwo]; rfl
        clear hone HI
        go_enter Tryz.func136, Tryz.ntmps136
        go_wp2_with fail
        refine (clone_any x _ (by omega)).mono ?_
        rintro e w4 ⟨rfl, hb⟩
        have q0 : ∀ o, w4.cell? ⟨w.heap.size, o, none⟩ = _ := fun o => hb.cell (p := ⟨w.heap.size, o, none⟩) (by simp)
        have qf : ∀ o, w4.frozen? ⟨w.heap.size, o, none⟩ = _ := fun o => hb.frozen (p := ⟨w.heap.size, o, none⟩) (by simp)
        have d0 : w4.cell? ⟨w.heap.size, 0, none⟩ = some (.int .i64 0) := (q0 0).trans (by simp [go_sem])
        have d1 : w4.cell? ⟨w.heap.size, 1, none⟩ = some (.string ⟨#[]⟩) := (q0 1).trans (by simp [go_sem])
        have d2 : w4.cell? ⟨w.heap.size, 2, none⟩ = some (.int .i64 0) := (q0 2).trans (by simp [go_sem])
        have f0 : w4.frozen? ⟨w.heap.size, 0, none⟩ = false := (qf 0).trans (by simp [go_sem])
        have f1 : w4.frozen? ⟨w.heap.size, 1, none⟩ = false := (qf 1).trans (by simp [go_sem])
        have f2 : w4.frozen? ⟨w.heap.size, 2, none⟩ = false := (qf 2).trans (by simp [go_sem])
        have hbw : Below w.heap.size w w4 := ((Below.refl _ _).alloc (Nat.le_refl _) _).trans (hb.mono (by simp))
        clear q0 qf
        go_wp2
        refine bodyPost_ret (v := .tuple #[.agg #[.int .i64 5, .string x, .int .i64 0], .int .i64 2]) (by simp [results, Tryz.results136, go_sem, d0, d1, d2]) rfl ⟨?_, ?_⟩
        · rw [HW.out, of_list HX.out]
          rfl
        · exact ((hbw.setCell (Nat.le_refl _) _).setCell (Nat.le_refl _) _).setCell (Nat.le_refl _) _
    · have HW : Hid (wSign s.data.toList = .ok (5, s.data.toList.take 2, 2)) := by
        show _ = _
        have htwo : two (s.data.toList.take 2) = true := by
          rw [HXl.out]; unfold two; rw [b1]; simp
        unfold wSign; rw [htwo]; rfl
      clear hone HI
      go_enter Tryz.func136, Tryz.ntmps136
      go_wp2_with fail
      refine (clone_any x _ (by omega)).mono ?_
      rintro e w4 ⟨rfl, hb⟩
      have q0 : ∀ o, w4.cell? ⟨w.heap.size, o, none⟩ = _ := fun o => hb.cell (p := ⟨w.heap.size, o, none⟩) (by simp)
      have qf : ∀ o, w4.frozen? ⟨w.heap.size, o, none⟩ = _ := fun o => hb.frozen (p := ⟨w.heap.size, o, none⟩) (by simp)
      have d0 : w4.cell? ⟨w.heap.size, 0, none⟩ = some (.int .i64 0) := (q0 0).trans (by simp [go_sem])
      have d1 : w4.cell? ⟨w.heap.size, 1, none⟩ = some (.string ⟨#[]⟩) := (q0 1).trans (by simp [go_sem])
      have d2 : w4.cell? ⟨w.heap.size, 2, none⟩ = some (.int .i64 0) := (q0 2).trans (by simp [go_sem])
      have f0 : w4.frozen? ⟨w.heap.size, 0, none⟩ = false := (qf 0).trans (by simp [go_sem])
      have f1 : w4.frozen? ⟨w.heap.size, 1, none⟩ = false := (qf 1).trans (by simp [go_sem])
      have f2 : w4.frozen? ⟨w.heap.size, 2, none⟩ = false := (qf 2).trans (by simp [go_sem])
      have hbw : Below w.heap.size w w4 := ((Below.refl _ _).alloc (Nat.le_refl _) _).trans (hb.mono (by simp))
      clear q0 qf
      go_wp2
      refine bodyPost_ret (v := .tuple #[.agg #[.int .i64 5, .string x, .int .i64 0], .int .i64 2]) (by simp [results, Tryz.results136, go_sem, d0, d1, d2]) rfl ⟨?_, ?_⟩
      · rw [HW.out, of_list HX.out]
        rfl
      · exact ((hbw.setCell (Nat.le_refl _) _).setCell (Nat.le_refl _) _).setCell (Nat.le_refl _) _

theorem run_pos {p : UInt8 → Bool} (s : ByteArray) (h : 0 < s.size) (hp : p s[0] = true) : ∃ m, runL p s.data.toList = m + 1 := by
  have e : s.data.toList = s[0] :: s.data.toList.drop 1 := by simpa using drop_at s 0 h
  unfold runL
  rw [e, List.takeWhile_cons, if_pos hp]
  exact ⟨_, rfl⟩

set_option maxHeartbeats 1000000 in
theorem first_any (s : ByteArray) (w : World) (h1 : 0 < s.size) (hs : s.size ≤ 900) :
    Calls Tryz.prog 120 #[.string s] w fun e w' => e = endW (word1 s.data.toList) ∧ Below w.heap.size w w' := by
  have HL : s.data.toList = s[0] :: s.data.toList.drop 1 := by simpa using drop_at s 0 h1
  have HW : word1 s.data.toList = _ := (congrArg word1 HL).trans (word1_cons _ _)
  rw [← HL] at HW
  have i1 : (0 : Int) < (s.size : Int) := by omega
  cases c1 : letb s[0]
  · rw [c1] at HW
    simp only [Bool.false_eq_true, if_false] at HW
    cases c2 : digb s[0]
    · rw [c2] at HW
      simp only [Bool.false_eq_true, if_false] at HW
      cases c3 : (s[0].toNat == 34)
      · rw [c3] at HW
        simp only [Bool.false_eq_true, if_false] at HW
        have n3 : ((s[0].toNat : Int) == 34) = false := by simp at c3 ⊢; omega
        cases c4 : (s[0].toNat == 63)
        · rw [c4] at HW
          simp only [Bool.false_eq_true, if_false] at HW
          have n4 : ((s[0].toNat : Int) == 63) = false := by simp at c4 ⊢; omega
          clear c3 c4
          cases hR : word1 s.data.toList with
          | error n =>
            have H1 := firstSign_any s (w.alloc (.cells #[.int .i64 0, .string ⟨#[]⟩, .int .i64 0] 47)) h1 hs
            rw [← HW, hR] at H1
            clear hR HL HW
            unfold endW at H1 ⊢
            go_enter Tryz.func120, Tryz.ntmps120
            go_wp2_with (first | (go_at_call 130; refine (wLetter_any _ _).mono ?_; rintro e w' ⟨rfl, rfl⟩; rw [c1]) | (go_at_call 132; refine (wDigit_any _ _).mono ?_; rintro e w' ⟨rfl, rfl⟩; rw [c2]) | (go_at_call 136; refine H1.mono ?_; rintro e w1 ⟨rfl, hb⟩))
            exact ⟨rfl, rfl, ((Below.refl _ _).alloc (Nat.le_refl _) _).trans (hb.mono (by simp))⟩
          | ok x =>
            obtain ⟨k, t, n⟩ := x
            have H1 := firstSign_any s (w.alloc (.cells #[.int .i64 0, .string ⟨#[]⟩, .int .i64 0] 47)) h1 hs
            rw [← HW, hR] at H1
            clear hR HL HW
            unfold endW at H1 ⊢
            simp only [] at H1 ⊢
            go_enter Tryz.func120, Tryz.ntmps120
            go_wp2_with (first | (go_at_call 130; refine (wLetter_any _ _).mono ?_; rintro e w' ⟨rfl, rfl⟩; rw [c1]) | (go_at_call 132; refine (wDigit_any _ _).mono ?_; rintro e w' ⟨rfl, rfl⟩; rw [c2]) | (go_at_call 136; refine H1.mono ?_; rintro e w1 ⟨rfl, hb⟩; obtain ⟨d0, d1, d2, f0, f1, f2, hbw⟩ := tok_kept hb))
            refine bodyPost_ret (v := .tuple #[.agg #[.int .i64 k, .string ⟨t.toArray⟩, .int .i64 0], .int .i64 n]) (by simp [results, Tryz.results120, go_sem, d0, d1, d2]) rfl ⟨rfl, ?_⟩
            exact ((hbw.setCell (Nat.le_refl _) _).setCell (Nat.le_refl _) _).setCell (Nat.le_refl _) _
        · rw [c4] at HW
          simp only [if_true] at HW
          have n4 : ((s[0].toNat : Int) == 63) = true := by simp at c4 ⊢; omega
          clear c3 c4
          cases hR : word1 s.data.toList with
          | error n =>
            have H1 := firstSlot_any s (w.alloc (.cells #[.int .i64 0, .string ⟨#[]⟩, .int .i64 0] 47)) h1 hs
            rw [← HW, hR] at H1
            clear hR HL HW
            unfold endW at H1 ⊢
            go_enter Tryz.func120, Tryz.ntmps120
            go_wp2_with (first | (go_at_call 130; refine (wLetter_any _ _).mono ?_; rintro e w' ⟨rfl, rfl⟩; rw [c1]) | (go_at_call 132; refine (wDigit_any _ _).mono ?_; rintro e w' ⟨rfl, rfl⟩; rw [c2]) | (go_at_call 135; refine H1.mono ?_; rintro e w1 ⟨rfl, hb⟩))
            exact ⟨rfl, rfl, ((Below.refl _ _).alloc (Nat.le_refl _) _).trans (hb.mono (by simp))⟩
          | ok x =>
            obtain ⟨k, t, n⟩ := x
            have H1 := firstSlot_any s (w.alloc (.cells #[.int .i64 0, .string ⟨#[]⟩, .int .i64 0] 47)) h1 hs
            rw [← HW, hR] at H1
            clear hR HL HW
            unfold endW at H1 ⊢
            simp only [] at H1 ⊢
            go_enter Tryz.func120, Tryz.ntmps120
            go_wp2_with (first | (go_at_call 130; refine (wLetter_any _ _).mono ?_; rintro e w' ⟨rfl, rfl⟩; rw [c1]) | (go_at_call 132; refine (wDigit_any _ _).mono ?_; rintro e w' ⟨rfl, rfl⟩; rw [c2]) | (go_at_call 135; refine H1.mono ?_; rintro e w1 ⟨rfl, hb⟩; obtain ⟨d0, d1, d2, f0, f1, f2, hbw⟩ := tok_kept hb))
            refine bodyPost_ret (v := .tuple #[.agg #[.int .i64 k, .string ⟨t.toArray⟩, .int .i64 0], .int .i64 n]) (by simp [results, Tryz.results120, go_sem, d0, d1, d2]) rfl ⟨rfl, ?_⟩
            exact ((hbw.setCell (Nat.le_refl _) _).setCell (Nat.le_refl _) _).setCell (Nat.le_refl _) _
      · rw [c3] at HW
        simp only [if_true] at HW
        have n3 : ((s[0].toNat : Int) == 34) = true := by simp at c3 ⊢; omega
        clear c3
        cases hR : word1 s.data.toList with
        | error n =>
          have H1 := firstQuoted_any s (w.alloc (.cells #[.int .i64 0, .string ⟨#[]⟩, .int .i64 0] 47)) h1 hs
          rw [← HW, hR] at H1
          clear hR HL HW
          unfold endW at H1 ⊢
          go_enter Tryz.func120, Tryz.ntmps120
          go_wp2_with (first | (go_at_call 130; refine (wLetter_any _ _).mono ?_; rintro e w' ⟨rfl, rfl⟩; rw [c1]) | (go_at_call 132; refine (wDigit_any _ _).mono ?_; rintro e w' ⟨rfl, rfl⟩; rw [c2]) | (go_at_call 134; refine H1.mono ?_; rintro e w1 ⟨rfl, hb⟩))
          exact ⟨rfl, rfl, ((Below.refl _ _).alloc (Nat.le_refl _) _).trans (hb.mono (by simp))⟩
        | ok x =>
          obtain ⟨k, t, n⟩ := x
          have H1 := firstQuoted_any s (w.alloc (.cells #[.int .i64 0, .string ⟨#[]⟩, .int .i64 0] 47)) h1 hs
          rw [← HW, hR] at H1
          clear hR HL HW
          unfold endW at H1 ⊢
          simp only [] at H1 ⊢
          go_enter Tryz.func120, Tryz.ntmps120
          go_wp2_with (first | (go_at_call 130; refine (wLetter_any _ _).mono ?_; rintro e w' ⟨rfl, rfl⟩; rw [c1]) | (go_at_call 132; refine (wDigit_any _ _).mono ?_; rintro e w' ⟨rfl, rfl⟩; rw [c2]) | (go_at_call 134; refine H1.mono ?_; rintro e w1 ⟨rfl, hb⟩; obtain ⟨d0, d1, d2, f0, f1, f2, hbw⟩ := tok_kept hb))
          refine bodyPost_ret (v := .tuple #[.agg #[.int .i64 k, .string ⟨t.toArray⟩, .int .i64 0], .int .i64 n]) (by simp [results, Tryz.results120, go_sem, d0, d1, d2]) rfl ⟨rfl, ?_⟩
          exact ((hbw.setCell (Nat.le_refl _) _).setCell (Nat.le_refl _) _).setCell (Nat.le_refl _) _
    · rw [c2] at HW
      simp only [if_true] at HW
      obtain ⟨m, hm⟩ := run_pos s h1 c2
      cases hR : word1 s.data.toList with
      | error n =>
        have H1 := firstNumber_any s (w.alloc (.cells #[.int .i64 0, .string ⟨#[]⟩, .int .i64 0] 47)) m hm hs
        rw [← HW, hR] at H1
        clear hR HL HW
        unfold endW at H1 ⊢
        go_enter Tryz.func120, Tryz.ntmps120
        go_wp2_with (first | (go_at_call 130; refine (wLetter_any _ _).mono ?_; rintro e w' ⟨rfl, rfl⟩; rw [c1]) | (go_at_call 132; refine (wDigit_any _ _).mono ?_; rintro e w' ⟨rfl, rfl⟩; rw [c2]) | (go_at_call 133; refine H1.mono ?_; rintro e w1 ⟨rfl, hb⟩))
        exact ⟨rfl, rfl, ((Below.refl _ _).alloc (Nat.le_refl _) _).trans (hb.mono (by simp))⟩
      | ok x =>
        obtain ⟨k, t, n⟩ := x
        have H1 := firstNumber_any s (w.alloc (.cells #[.int .i64 0, .string ⟨#[]⟩, .int .i64 0] 47)) m hm hs
        rw [← HW, hR] at H1
        clear hR HL HW
        unfold endW at H1 ⊢
        simp only [] at H1 ⊢
        go_enter Tryz.func120, Tryz.ntmps120
        go_wp2_with (first | (go_at_call 130; refine (wLetter_any _ _).mono ?_; rintro e w' ⟨rfl, rfl⟩; rw [c1]) | (go_at_call 132; refine (wDigit_any _ _).mono ?_; rintro e w' ⟨rfl, rfl⟩; rw [c2]) | (go_at_call 133; refine H1.mono ?_; rintro e w1 ⟨rfl, hb⟩; obtain ⟨d0, d1, d2, f0, f1, f2, hbw⟩ := tok_kept hb))
        refine bodyPost_ret (v := .tuple #[.agg #[.int .i64 k, .string ⟨t.toArray⟩, .int .i64 0], .int .i64 n]) (by simp [results, Tryz.results120, go_sem, d0, d1, d2]) rfl ⟨rfl, ?_⟩
        exact ((hbw.setCell (Nat.le_refl _) _).setCell (Nat.le_refl _) _).setCell (Nat.le_refl _) _
  · rw [c1] at HW
    simp only [if_true] at HW
    cases hR : word1 s.data.toList with
    | error n =>
      have H1 := firstName_any s (w.alloc (.cells #[.int .i64 0, .string ⟨#[]⟩, .int .i64 0] 47)) hs
      rw [← HW, hR] at H1
      clear hR HL HW
      unfold endW at H1 ⊢
      go_enter Tryz.func120, Tryz.ntmps120
      go_wp2_with (first | (go_at_call 130; refine (wLetter_any _ _).mono ?_; rintro e w' ⟨rfl, rfl⟩; rw [c1]) | (go_at_call 131; refine H1.mono ?_; rintro e w1 ⟨rfl, hb⟩))
      exact ⟨rfl, rfl, ((Below.refl _ _).alloc (Nat.le_refl _) _).trans (hb.mono (by simp))⟩
    | ok x =>
      obtain ⟨k, t, n⟩ := x
      have H1 := firstName_any s (w.alloc (.cells #[.int .i64 0, .string ⟨#[]⟩, .int .i64 0] 47)) hs
      rw [← HW, hR] at H1
      clear hR HL HW
      unfold endW at H1 ⊢
      simp only [] at H1 ⊢
      go_enter Tryz.func120, Tryz.ntmps120
      go_wp2_with (first | (go_at_call 130; refine (wLetter_any _ _).mono ?_; rintro e w' ⟨rfl, rfl⟩; rw [c1]) | (go_at_call 131; refine H1.mono ?_; rintro e w1 ⟨rfl, hb⟩; obtain ⟨d0, d1, d2, f0, f1, f2, hbw⟩ := tok_kept hb))
      refine bodyPost_ret (v := .tuple #[.agg #[.int .i64 k, .string ⟨t.toArray⟩, .int .i64 0], .int .i64 n]) (by simp [results, Tryz.results120, go_sem, d0, d1, d2]) rfl ⟨rfl, ?_⟩
      exact ((hbw.setCell (Nat.le_refl _) _).setCell (Nat.le_refl _) _).setCell (Nat.le_refl _) _
end Go.Proofs.YtdoeinjilnhijaaGreatDoor
namespace Go.Proofs.YtdoeinjilnhijaaGreatDoor
open Go.RowKit
set_option linter.unusedVariables false

theorem dig0_zero {c d : UInt8} (r : List UInt8) (h : (c.toNat == 48) = true) : dig0 (c :: d :: r) = dig0 (d :: r) := by rw [dig0, if_pos h]
theorem dig0_stop {c d : UInt8} (r : List UInt8) (h : (c.toNat == 48) = false) : dig0 (c :: d :: r) = c :: d :: r := by rw [dig0, if_neg (by rw [h]; decide)]
theorem mid (s : ByteArray) (f E : Nat) : (s.extract f E).data.toList = (s.data.toList.drop f).take (E - f) := Lib.extract_data s f E
theorem mid_cons (s : ByteArray) (f E : Nat) (h : f < E) (hE : E ≤ s.size) : (s.data.toList.drop f).take (E - f) = s[f] :: (s.data.toList.drop (f + 1)).take (E - (f + 1)) := by
  rw [drop_at s f (by omega), show E - f = E - (f + 1) + 1 by omega, List.take_succ_cons]
theorem mid_nil (s : ByteArray) (f : Nat) : (s.data.toList.drop f).take (f - f) = [] := by simp
theorem ba_to {b : ByteArray} {l : List UInt8} (h : b.data.toList = l) : (⟨l.toArray⟩ : ByteArray) = b := by rw [← h]
theorem size_l (b : ByteArray) : b.size = b.data.toList.length := by simp

set_option maxHeartbeats 2000000 in
theorem refWord_num (s : ByteArray) (k : Nat) (w : World) (hk : k < s.size) (hs : s.size ≤ 140737488351232) (hd : digb s[k] = true) :
    Calls Tryz.prog 27 #[.string s, .int .i64 k] w fun e w' => e = .returned (refW k (wNum (s.data.toList.drop k))) ∧ Below w.heap.size w w' := by
  have hl : s.data.toList.length = s.size := by simp
  have hb0 : Below w.heap.size w (w.alloc (.cells #[.int .i64 0, .string ⟨#[]⟩, .int .i64 0] 47)) := (Below.refl _ _).alloc (Nat.le_refl _) _
  have ik : (k : Int) < (s.size : Int) := by omega
  have HR := fun w => refRun_any s k true w (by omega) (by unfold maxLen; omega)
  have hr := runL_le (setOf true) (s.data.toList.drop k)
  have hr1 : 1 ≤ runL (setOf true) (s.data.toList.drop k) := by rw [drop_at s k hk, runL_yes (show setOf true _ = _ from hd)]; omega
  rw [List.length_drop, hl] at hr
  have HT : Hid ((s.data.toList.drop k).takeWhile digb = (s.data.toList.drop k).take (k + runL (setOf true) (s.data.toList.drop k) - k)) := by
    show _ = _; rw [Nat.add_sub_cancel_left, runL_take]; rfl
  have HL : Hid (k + runL (setOf true) (s.data.toList.drop k) = k + ((s.data.toList.drop k).takeWhile digb).length) := rfl
  generalize hE : k + runL (setOf true) (s.data.toList.drop k) = E at *
  have hkE : k < E := by omega
  have hEs : E ≤ s.size := by omega
  clear hr hr1 hE
  have HD0 : Hid (dig0 ((s.data.toList.drop k).take (E - k)) = dig0 ((s.data.toList.drop k).takeWhile digb)) := by show _ = _; rw [HT.out]
  generalize hD : dig0 ((s.data.toList.drop k).takeWhile digb) = D at *
  have HD : Hid _ := hD
  clear hD
  have iE : (E : Int) ≤ (s.size : Int) := by omega
  go_enter Tryz.func27, Tryz.ntmps27
  go_wp2_with (first | (go_at_call 53; refine (r2Digit_any _ _).mono ?_; rintro e w' ⟨rfl, rfl⟩; rw [hd]) | (go_at_call 54; refine (HR _).mono ?_; rintro e w' ⟨rfl, rfl⟩))
  go_loop [9] (fun i => ∃ f : Nat, k ≤ f ∧ f < E ∧ i = .int .i64 f ∧ Hid (dig0 ((s.data.toList.drop f).take (E - f)) = D)) (fun i => E - (intOf i).toNat)
  case atStart => exact ⟨k, Nat.le_refl _, hkE, rfl, HD0⟩
  case round =>
    clear HD0
    obtain ⟨f, hkf, hfE, rfl, HF⟩ := hrel
    have jf : (f : Int) < (s.size : Int) := by omega
    by_cases hlt : f + 1 < E
    · have i1 : (f : Int) < (E : Int) - 1 := by omega
      have HM : Hid (_ = _) := mid_cons s f E hfE hEs
      have HM2 : Hid (_ = _) := mid_cons s (f + 1) E hlt hEs
      cases h48 : (s[f].toNat == 48)
      · have n48 : ((s[f].toNat : Int) == 48) = false := by simp at h48 ⊢; omega
        have HX : Hid ((s.extract f E).data.toList = D) := by
          have := HF.out
          rw [HM.out, HM2.out, dig0_stop _ h48, ← HM2.out, ← HM.out, ← mid] at this
          exact this
        have hxs : (s.extract f E).size = E - f := by simp; omega
        by_cases h19 : 19 < E - f
        · have HW : Hid (wNum (s.data.toList.drop k) = .error 4) := if_pos (by rw [HD.out, ← HX.out, ← size_l, hxs]; exact h19)
          have i2 : (19 : Int) < (E : Int) - (f : Int) := by omega
          clear h48 HX HF HM HM2 HT HL HD
          go_wp2
          refine bodyPost_ret (v := .tuple #[.agg #[.int .i64 0, .string ⟨#[]⟩, .int .i64 0], .int .i64 0, .int .i64 4]) (by simp [results, Tryz.results27, go_sem]) rfl ⟨by rw [HW.out]; rfl, hb0⟩
        · have HW : Hid (wNum (s.data.toList.drop k) = .ok (2, D, E - k)) := by
            show _ = _
            unfold wNum
            rw [HD.out, if_neg (by rw [← HX.out, ← size_l, hxs]; exact h19)]
            have := HL.out
            congr 3; omega
          have i2 : ¬ (19 : Int) < (E : Int) - (f : Int) := by omega
          have i3 : (f : Int) ≤ (E : Int) := by omega
          have hb1 : Below w.heap.size w (w.alloc (.cells #[.int .i64 2, .string (s.extract f E), .int .i64 k] 47)) := (Below.refl _ _).alloc (Nat.le_refl _) _
          clear h48 HF HM HM2 HT HL HD
          go_wp2
          refine bodyPost_ret (v := .tuple #[.agg #[.int .i64 2, .string (s.extract f E), .int .i64 k], .int .i64 E, .int .i64 0]) (by simp [results, Tryz.results27, go_sem]) rfl ⟨?_, hb1⟩
          rw [HW.out]
          unfold refW
          simp only []
          rw [ba_to HX.out, show (k : Int) + ((E - k : Nat) : Int) = (E : Int) by omega]
      · have n48 : ((s[f].toNat : Int) == 48) = true := by simp at h48 ⊢; omega
        have HN : Hid (dig0 ((s.data.toList.drop (f + 1)).take (E - (f + 1))) = D) := by
          have := HF.out
          rw [HM.out, HM2.out, dig0_zero _ h48, ← HM2.out] at this
          exact this
        clear h48 HF HM HM2
        go_wp2
        go_round
        case rel => exact ⟨f + 1, by omega, by omega, by go_num, HN⟩
        case measure => simp [intOf]; omega
    · obtain rfl : E = f + 1 := by omega
      have i1 : ¬ (f : Int) < (f : Int) + 1 - 1 := by omega
      have i0 : ¬ (f : Int) < (f : Int) := by omega
      have HM : Hid (_ = _) := mid_cons s f (f + 1) hfE hEs
      have HX : Hid ((s.extract f (f + 1)).data.toList = D) := by
        have := HF.out
        rw [HM.out, mid_nil] at this
        rw [mid, HM.out, mid_nil]
        exact this
      have hxs : (s.extract f (f + 1)).size = 1 := by simp; omega
      have HW : Hid (wNum (s.data.toList.drop k) = .ok (2, D, f + 1 - k)) := by
        show _ = _
        unfold wNum
        rw [HD.out, if_neg (by rw [← HX.out, ← size_l, hxs]; omega)]
        have := HL.out
        congr 3; omega
      have i2 : ¬ (19 : Int) < (f : Int) + 1 - (f : Int) := by omega
      have i3 : (f : Int) ≤ (f : Int) + 1 := by omega
      have hb1 : Below w.heap.size w (w.alloc (.cells #[.int .i64 2, .string (s.extract f (f + 1)), .int .i64 k] 47)) := (Below.refl _ _).alloc (Nat.le_refl _) _
      clear HF HM HT HL HD
      go_wp2
      refine bodyPost_ret (v := .tuple #[.agg #[.int .i64 2, .string (s.extract f (f + 1)), .int .i64 k], .int .i64 ((f : Int) + 1), .int .i64 0]) (by simp [results, Tryz.results27, go_sem]) rfl ⟨?_, hb1⟩
      rw [HW.out]
      unfold refW
      simp only []
      rw [ba_to HX.out, show (k : Int) + ((f + 1 - k : Nat) : Int) = (f : Int) + 1 by omega]

set_option maxHeartbeats 2000000 in
theorem refWord_name (s : ByteArray) (k : Nat) (w : World) (hk : k < s.size) (hs : s.size ≤ 140737488351232) (hd : digb s[k] = false) (hlt : letb s[k] = true) (h63 : (s[k].toNat == 63) = false) :
    Calls Tryz.prog 27 #[.string s, .int .i64 k] w fun e w' => e = .returned (refW k (wName 1 0 (s.data.toList.drop k))) ∧ Below w.heap.size w w' := by
  have hl : s.data.toList.length = s.size := by simp
  have hb0 : Below w.heap.size w (w.alloc (.cells #[.int .i64 0, .string ⟨#[]⟩, .int .i64 0] 47)) := (Below.refl _ _).alloc (Nat.le_refl _) _
  have ik : (k : Int) < (s.size : Int) := by omega
  have HR := fun w => refRun_any s k false w (by omega) (by unfold maxLen; omega)
  have hr := runL_le (setOf false) (s.data.toList.drop k)
  rw [List.length_drop, hl] at hr
  have HT : Hid ((s.data.toList.drop k).takeWhile namb = (s.data.toList.drop k).take (k + runL (setOf false) (s.data.toList.drop k) - k)) := by
    show _ = _; rw [Nat.add_sub_cancel_left, runL_take]; rfl
  have HL : Hid (k + runL (setOf false) (s.data.toList.drop k) = k + ((s.data.toList.drop k).takeWhile namb).length) := rfl
  generalize hE : k + runL (setOf false) (s.data.toList.drop k) = E at *
  have hkE : k ≤ E := by omega
  have hEs : E ≤ s.size := by omega
  clear hr hE
  have HX : Hid ((s.extract k E).data.toList = (s.data.toList.drop k).takeWhile namb) := by show _ = _; rw [mid, HT.out]
  have hxs : (s.extract k E).size = E - k := by simp; omega
  have iE : (E : Int) ≤ (s.size : Int) := by omega
  have i2 : (k : Int) ≤ (E : Int) := by omega
  have HN := fun w => nameFault_any (s.extract k E) w (by rw [hxs]; unfold maxLen; omega)
  rw [HX.out] at HN
  have n63 : ((s[k].toNat : Int) == 63) = false := by simp at h63 ⊢; omega
  clear h63
  by_cases hf : nfault ((s.data.toList.drop k).takeWhile namb) = 0
  · have HW : Hid (wName 1 0 (s.data.toList.drop k) = .ok (1, (s.data.toList.drop k).takeWhile namb, 0 + (E - k))) := by
      show _ = _
      rw [wName_ok hf]
      have := HL.out
      congr 3; omega
    rw [hf] at HN
    have hb1 : Below w.heap.size w (w.alloc (.cells #[.int .i64 1, .string (s.extract k E), .int .i64 k] 47)) := (Below.refl _ _).alloc (Nat.le_refl _) _
    clear hf HT HL
    go_enter Tryz.func27, Tryz.ntmps27
    go_wp2_with (first | (go_at_call 53; refine (r2Digit_any _ _).mono ?_; rintro e w' ⟨rfl, rfl⟩; rw [hd]) | (go_at_call 55; refine (r2Letter_any _ _).mono ?_; rintro e w' ⟨rfl, rfl⟩; rw [hlt]) | (go_at_call 54; refine (HR _).mono ?_; rintro e w' ⟨rfl, rfl⟩) | (go_at_call 56; refine (HN _).mono ?_; rintro e w' ⟨rfl, rfl⟩))
    refine bodyPost_ret (v := .tuple #[.agg #[.int .i64 1, .string (s.extract k E), .int .i64 k], .int .i64 E, .int .i64 0]) (by simp [results, Tryz.results27, go_sem]) rfl ⟨?_, hb1⟩
    rw [HW.out]
    unfold refW
    simp only []
    rw [ba_to HX.out, show (k : Int) + ((0 + (E - k) : Nat) : Int) = (E : Int) by omega]
  · have HW : Hid (_ = _) := wName_bad (k := 1) (m := 0) hf
    generalize nfault ((s.data.toList.drop k).takeWhile namb) = N at *
    have hf' : (N != 0) = true := by simpa using hf
    clear HT HL
    go_enter Tryz.func27, Tryz.ntmps27
    go_wp2_with (first | (go_at_call 53; refine (r2Digit_any _ _).mono ?_; rintro e w' ⟨rfl, rfl⟩; rw [hd]) | (go_at_call 55; refine (r2Letter_any _ _).mono ?_; rintro e w' ⟨rfl, rfl⟩; rw [hlt]) | (go_at_call 54; refine (HR _).mono ?_; rintro e w' ⟨rfl, rfl⟩) | (go_at_call 56; refine (HN _).mono ?_; rintro e w' ⟨rfl, rfl⟩))
    refine bodyPost_ret (v := .tuple #[.agg #[.int .i64 0, .string ⟨#[]⟩, .int .i64 0], .int .i64 0, .int .i64 N]) (by simp [results, Tryz.results27, go_sem]) rfl ⟨by rw [HW.out]; rfl, hb0⟩

set_option maxHeartbeats 2000000 in
theorem refWord_slot (s : ByteArray) (k : Nat) (w : World) (hk : k < s.size) (hs : s.size ≤ 140737488351232) (hd : digb s[k] = false) (hlt : letb s[k] = false) (h63 : (s[k].toNat == 63) = true) :
    Calls Tryz.prog 27 #[.string s, .int .i64 k] w fun e w' => e = .returned (refW k (wName 4 1 (s.data.toList.drop (k + 1)))) ∧ Below w.heap.size w w' := by
  have hl : s.data.toList.length = s.size := by simp
  have hb0 : Below w.heap.size w (w.alloc (.cells #[.int .i64 0, .string ⟨#[]⟩, .int .i64 0] 47)) := (Below.refl _ _).alloc (Nat.le_refl _) _
  have ik : (k : Int) < (s.size : Int) := by omega
  have HR := fun w => refRun_any s (k + 1) false w (by omega) (by unfold maxLen; omega)
  have hr := runL_le (setOf false) (s.data.toList.drop (k + 1))
  rw [List.length_drop, hl] at hr
  have HT : Hid ((s.data.toList.drop (k + 1)).takeWhile namb = (s.data.toList.drop (k + 1)).take ((k + 1) + runL (setOf false) (s.data.toList.drop (k + 1)) - (k + 1))) := by
    show _ = _; rw [Nat.add_sub_cancel_left, runL_take]; rfl
  have HL : Hid ((k + 1) + runL (setOf false) (s.data.toList.drop (k + 1)) = (k + 1) + ((s.data.toList.drop (k + 1)).takeWhile namb).length) := rfl
  generalize hE : (k + 1) + runL (setOf false) (s.data.toList.drop (k + 1)) = E at *
  have hkE : (k + 1) ≤ E := by omega
  have hEs : E ≤ s.size := by omega
  clear hr hE
  have HX : Hid ((s.extract (k + 1) E).data.toList = (s.data.toList.drop (k + 1)).takeWhile namb) := by show _ = _; rw [mid, HT.out]
  have hxs : (s.extract (k + 1) E).size = E - (k + 1) := by simp; omega
  have iE : (E : Int) ≤ (s.size : Int) := by omega
  have i2 : (k : Int) + 1 ≤ (E : Int) := by omega
  have HN := fun w => nameFault_any (s.extract (k + 1) E) w (by rw [hxs]; unfold maxLen; omega)
  rw [HX.out] at HN
  have n63 : ((s[k].toNat : Int) == 63) = true := by simp at h63 ⊢; omega
  clear h63
  by_cases hf : nfault ((s.data.toList.drop (k + 1)).takeWhile namb) = 0
  · have HW : Hid (wName 4 1 (s.data.toList.drop (k + 1)) = .ok (4, (s.data.toList.drop (k + 1)).takeWhile namb, 1 + (E - (k + 1)))) := by
      show _ = _
      rw [wName_ok hf]
      have := HL.out
      congr 3; omega
    rw [hf] at HN
    have hb1 : Below w.heap.size w (w.alloc (.cells #[.int .i64 4, .string (s.extract (k + 1) E), .int .i64 k] 47)) := (Below.refl _ _).alloc (Nat.le_refl _) _
    clear hf HT HL
    go_enter Tryz.func27, Tryz.ntmps27
    go_wp2_with (first | (go_at_call 53; refine (r2Digit_any _ _).mono ?_; rintro e w' ⟨rfl, rfl⟩; rw [hd]) | (go_at_call 55; refine (r2Letter_any _ _).mono ?_; rintro e w' ⟨rfl, rfl⟩; rw [hlt]) | (go_at_call 54; refine (HR _).mono ?_; rintro e w' ⟨rfl, rfl⟩) | (go_at_call 56; refine (HN _).mono ?_; rintro e w' ⟨rfl, rfl⟩))
    refine bodyPost_ret (v := .tuple #[.agg #[.int .i64 4, .string (s.extract (k + 1) E), .int .i64 k], .int .i64 E, .int .i64 0]) (by simp [results, Tryz.results27, go_sem]) rfl ⟨?_, hb1⟩
    rw [HW.out]
    unfold refW
    simp only []
    rw [ba_to HX.out, show (k : Int) + ((1 + (E - (k + 1)) : Nat) : Int) = (E : Int) by omega]
  · have HW : Hid (_ = _) := wName_bad (k := 4) (m := 1) hf
    generalize nfault ((s.data.toList.drop (k + 1)).takeWhile namb) = N at *
    have hf' : (N != 0) = true := by simpa using hf
    clear HT HL
    go_enter Tryz.func27, Tryz.ntmps27
    go_wp2_with (first | (go_at_call 53; refine (r2Digit_any _ _).mono ?_; rintro e w' ⟨rfl, rfl⟩; rw [hd]) | (go_at_call 55; refine (r2Letter_any _ _).mono ?_; rintro e w' ⟨rfl, rfl⟩; rw [hlt]) | (go_at_call 54; refine (HR _).mono ?_; rintro e w' ⟨rfl, rfl⟩) | (go_at_call 56; refine (HN _).mono ?_; rintro e w' ⟨rfl, rfl⟩))
    refine bodyPost_ret (v := .tuple #[.agg #[.int .i64 0, .string ⟨#[]⟩, .int .i64 0], .int .i64 0, .int .i64 N]) (by simp [results, Tryz.results27, go_sem]) rfl ⟨by rw [HW.out]; rfl, hb0⟩

set_option maxHeartbeats 2000000 in
theorem refWord_quo (s : ByteArray) (k : Nat) (w : World) (hk : k < s.size) (hs : s.size ≤ 140737488351232) (hd : digb s[k] = false) (hlt : letb s[k] = false) (h63 : (s[k].toNat == 63) = false) (h34 : (s[k].toNat == 34) = true) :
    Calls Tryz.prog 27 #[.string s, .int .i64 k] w fun e w' => e = .returned (refW k (wQuo (s.data.toList.drop (k + 1)))) ∧ Below w.heap.size w w' := by
  have ik : (k : Int) < (s.size : Int) := by omega
  have H1 := fun w => refQuo_any s k w hk hs
  have n63 : ((s[k].toNat : Int) == 63) = false := by simp at h63 ⊢; omega
  have n34 : ((s[k].toNat : Int) == 34) = true := by simp at h34 ⊢; omega
  clear h63 h34
  cases hR : wQuo (s.data.toList.drop (k + 1)) with
  | error n =>
    rw [hR] at H1
    unfold refW at H1 ⊢
    simp only [] at H1 ⊢
    go_enter Tryz.func27, Tryz.ntmps27
    go_wp2_with (first | (go_at_call 53; refine (r2Digit_any _ _).mono ?_; rintro e w' ⟨rfl, rfl⟩; rw [hd]) | (go_at_call 55; refine (r2Letter_any _ _).mono ?_; rintro e w' ⟨rfl, rfl⟩; rw [hlt]) | (go_at_call 57; refine (H1 _).mono ?_; rintro e w1 ⟨rfl, hb⟩; obtain ⟨d0, d1, d2, f0, f1, f2, hbw⟩ := tok_kept hb))
    refine bodyPost_ret (v := .tuple #[.agg #[.int .i64 0, .string ⟨#[]⟩, .int .i64 0], .int .i64 0, .int .i64 n]) (by simp [results, Tryz.results27, go_sem, d0, d1, d2]) rfl ⟨rfl, ?_⟩
    exact ((hbw.setCell (Nat.le_refl _) _).setCell (Nat.le_refl _) _).setCell (Nat.le_refl _) _
  | ok x =>
    obtain ⟨kd, t, n⟩ := x
    rw [hR] at H1
    unfold refW at H1 ⊢
    simp only [] at H1 ⊢
    go_enter Tryz.func27, Tryz.ntmps27
    go_wp2_with (first | (go_at_call 53; refine (r2Digit_any _ _).mono ?_; rintro e w' ⟨rfl, rfl⟩; rw [hd]) | (go_at_call 55; refine (r2Letter_any _ _).mono ?_; rintro e w' ⟨rfl, rfl⟩; rw [hlt]) | (go_at_call 57; refine (H1 _).mono ?_; rintro e w1 ⟨rfl, hb⟩; obtain ⟨d0, d1, d2, f0, f1, f2, hbw⟩ := tok_kept hb))
    refine bodyPost_ret (v := .tuple #[.agg #[.int .i64 kd, .string ⟨t.toArray⟩, .int .i64 k], .int .i64 ((k : Int) + (n : Int)), .int .i64 0]) (by simp [results, Tryz.results27, go_sem, d0, d1, d2]) rfl ⟨rfl, ?_⟩
    exact ((hbw.setCell (Nat.le_refl _) _).setCell (Nat.le_refl _) _).setCell (Nat.le_refl _) _
end Go.Proofs.YtdoeinjilnhijaaGreatDoor
namespace Go.Proofs.YtdoeinjilnhijaaGreatDoor
open Go.RowKit
set_option linter.unusedVariables false

/-- The signs, in the table's order. -/
def sg : List (List UInt8) := [[40], [41], [91], [93], [123], [125], [44], [58], [46], [58, 58], [61, 61], [60], [60, 61], [38, 38], [124, 124], [33], [43], [45], [42]]
/-- The longer one. -/
def pick1 (l acc x : List UInt8) : List UInt8 := if (bgn x l && decide (acc.length < x.length)) = true then x else acc
/-- What was found among the first ones. -/
def best (l : List UInt8) (j : Nat) : List UInt8 := (sg.take j).foldl (pick1 l) []
theorem best_next (l : List UInt8) (j : Nat) (h : j < 19) : best l (j + 1) = pick1 l (best l j) (sg[j]'h) := by
  unfold best
  rw [List.take_succ_eq_append_getElem (show j < sg.length from h), List.foldl_append]
  rfl

theorem bgn_one (x c : UInt8) (r : List UInt8) : bgn [x] (c :: r) = (x == c) := by
  unfold bgn; simp
theorem bgn_two (x y c d : UInt8) (r : List UInt8) : bgn [x, y] (c :: d :: r) = (x == c && y == d) := by
  unfold bgn; simp
theorem bgn_two_one (x y c : UInt8) : bgn [x, y] [c] = false := by
  unfold bgn; simp

/-- What the table's way finds is the sign. -/
def signOf (l : List UInt8) : List UInt8 := if two (l.take 2) = true then l.take 2 else if (l.take 1).any (fun c => shorts.contains c) = true then l.take 1 else []

theorem best_one (c : UInt8) : best [c] 19 = signOf [c] := by
  by_cases hc : shorts.contains c = true
  · unfold shorts at hc
    simp only [List.contains_cons, List.contains_nil, Bool.or_false, Bool.or_eq_true, beq_iff_eq] at hc
    rcases hc with rfl | rfl | rfl | rfl | rfl | rfl | rfl | rfl | rfl | rfl | rfl | rfl | rfl | rfl <;> rfl
  · have hn : shorts.contains c = false := by simpa using hc
    have e2 : two ([c].take 2) = false := by
      cases e : two ([c].take 2) with
      | false => rfl
      | true => have := two_len e; simp at this
    have hany : ([c].take 1).any (fun c => shorts.contains c) = false := by show (shorts.contains c || false) = false; rw [hn]; rfl
    have hs : signOf [c] = [] := by
      unfold signOf
      rw [if_neg (by rw [e2]; decide), if_neg (by rw [hany]; decide)]
    rw [hs]
    unfold shorts at hn
    simp only [List.contains_cons, List.contains_nil, Bool.or_false, Bool.or_eq_false_iff] at hn
    have f : ∀ x : UInt8, (c == x) = false → bgn [x] [c] = false := by
      intro x hx
      rw [bgn_one]
      cases e : (x == c) with
      | false => rfl
      | true => rw [beq_iff_eq.1 e] at hx; simp at hx
    unfold best sg
    obtain ⟨h1, h2, h3, h4, h5, h6, h7, h8, h9, h10, h11, h12, h13, h14⟩ := hn
    simp only [List.take, List.foldl, pick1, bgn_two_one, f _ h1, f _ h2, f _ h3, f _ h4, f _ h5, f _ h6, f _ h7, f _ h8, f _ h9, f _ h10, f _ h11, f _ h12, f _ h13, f _ h14, Bool.false_and, Bool.false_eq_true, if_false]
theorem best_none (c d : UInt8) (hn : (([61, 38, 124] : List UInt8) ++ shorts).contains c = false) : best [c, d] 19 = signOf [c, d] := by
  unfold shorts at hn
  simp only [List.cons_append, List.nil_append, List.contains_cons, List.contains_nil, Bool.or_false, Bool.or_eq_false_iff] at hn
  obtain ⟨k1, k2, k3, h1, h2, h3, h4, h5, h6, h7, h8, h9, h10, h11, h12, h13, h14⟩ := hn
  have sw : ∀ x : UInt8, (c == x) = false → (x == c) = false := by
    intro x hx
    cases e : (x == c) with
    | false => rfl
    | true => rw [beq_iff_eq.1 e] at hx; simp at hx
  have hany : ([c, d].take 1).any (fun c => shorts.contains c) = false := by
    show (shorts.contains c || false) = false
    unfold shorts
    simp only [List.contains_cons, List.contains_nil, h1, h2, h3, h4, h5, h6, h7, h8, h9, h10, h11, h12, h13, h14, Bool.or_false]
  have htwo : two ([c, d].take 2) = false := by
    show two [c, d] = false
    unfold two
    simp only [List.cons_beq_cons, h8, k1, h10, k2, k3, Bool.false_and, Bool.or_false]
  have hs : signOf [c, d] = [] := by
    unfold signOf
    rw [if_neg (by rw [htwo]; decide), if_neg (by rw [hany]; decide)]
  rw [hs]
  unfold best sg
  simp only [List.take, List.foldl, pick1, bgn_one, bgn_two, sw _ k1, sw _ k2, sw _ k3, sw _ h1, sw _ h2, sw _ h3, sw _ h4, sw _ h5, sw _ h6, sw _ h7, sw _ h8, sw _ h9, sw _ h10, sw _ h11, sw _ h12, sw _ h13, sw _ h14, Bool.false_and, Bool.false_eq_true, if_false]
theorem best_tail (c d : UInt8) (hd : (d == 58) = false ∧ (d == 61) = false ∧ (d == 38) = false ∧ (d == 124) = false) : best [c, d] 19 = signOf [c, d] := by
  obtain ⟨d1, d2, d3, d4⟩ := hd
  have sw : ∀ x : UInt8, (d == x) = false → (x == d) = false := by
    intro x hx
    cases e : (x == d) with
    | false => rfl
    | true => rw [beq_iff_eq.1 e] at hx; simp at hx
  have e2 : signOf [c, d] = signOf [c] := by
    unfold signOf two
    simp [d1, d2, d3, d4]
  have e1 : best [c, d] 19 = best [c] 19 := by
    unfold best sg
    simp only [List.take, List.foldl, pick1, bgn_one, bgn_two, bgn_two_one, sw _ d1, sw _ d2, sw _ d3, sw _ d4, Bool.and_false, Bool.false_and, Bool.false_eq_true, if_false]
  rw [e1, e2, best_one]
theorem best_two (c d : UInt8) (r : List UInt8) : best (c :: d :: r) 19 = signOf (c :: d :: r) := by
  have g : best (c :: d :: r) 19 = best [c, d] 19 := by
    unfold best
    have : ∀ (L : List (List UInt8)) (acc : List UInt8), (∀ x ∈ L, x.length ≤ 2) → L.foldl (pick1 (c :: d :: r)) acc = L.foldl (pick1 [c, d]) acc := by
      intro L
      induction L with
      | nil => intro acc _; rfl
      | cons x L ih =>
        intro acc h
        rw [List.foldl_cons, List.foldl_cons]
        have hx := h x (by simp)
        have e : pick1 (c :: d :: r) acc x = pick1 [c, d] acc x := by
          unfold pick1
          have : bgn x (c :: d :: r) = bgn x [c, d] := by
            unfold bgn
            congr 1
            match x, hx with
            | [], _ => rfl
            | [a], _ => rfl
            | [a, b], _ => rfl
          rw [this]
        rw [e]
        exact ih _ (fun y hy => h y (by simp [hy]))
    exact this _ _ (by decide)
  rw [g]
  have s2 : signOf (c :: d :: r) = signOf [c, d] := rfl
  rw [s2]
  by_cases hd : d = 58 ∨ d = 61 ∨ d = 38 ∨ d = 124
  · by_cases hc : (([61, 38, 124] : List UInt8) ++ shorts).contains c = true
    · unfold shorts at hc
      simp only [List.cons_append, List.nil_append, List.contains_cons, List.contains_nil, Bool.or_false, Bool.or_eq_true, beq_iff_eq] at hc
      rcases hd with rfl | rfl | rfl | rfl <;> rcases hc with rfl | rfl | rfl | rfl | rfl | rfl | rfl | rfl | rfl | rfl | rfl | rfl | rfl | rfl | rfl | rfl | rfl <;> rfl
    · have hn : (([61, 38, 124] : List UInt8) ++ shorts).contains c = false := by simpa using hc
      exact best_none c d hn
  · have hd2 : (d == 58) = false ∧ (d == 61) = false ∧ (d == 38) = false ∧ (d == 124) = false := by
      refine ⟨?_, ?_, ?_, ?_⟩ <;> (simp only [beq_eq_false_iff_ne, ne_eq]; intro e; apply hd; simp [e])
    exact best_tail c d hd2

theorem sign_tab : ∀ (j : Nat) (h : j < 19), ∃ a b : UInt8, ((⟨#[40, 32, 32, 41, 32, 32, 91, 32, 32, 93, 32, 32, 123, 32, 32, 125, 32, 32, 44, 32, 32, 58, 32, 32, 46, 32, 32, 58, 58, 32, 61, 61, 32, 60, 32, 32, 60, 61, 32, 38, 38, 32, 124, 124, 32, 33, 32, 32, 43, 32, 32, 45, 32, 32, 42, 32, 32]⟩ : ByteArray).extract (3 * j) (3 * j + 2)).data.toList = [a, b] ∧ (((b.toNat == 32) = true ∧ sg[j]'h = [a]) ∨ ((b.toNat == 32) = false ∧ sg[j]'h = [a, b]))
  | 0, _ => ⟨40, 32, by rw [Lib.extract_data]; rfl, .inl ⟨rfl, rfl⟩⟩
  | 1, _ => ⟨41, 32, by rw [Lib.extract_data]; rfl, .inl ⟨rfl, rfl⟩⟩
  | 2, _ => ⟨91, 32, by rw [Lib.extract_data]; rfl, .inl ⟨rfl, rfl⟩⟩
  | 3, _ => ⟨93, 32, by rw [Lib.extract_data]; rfl, .inl ⟨rfl, rfl⟩⟩
  | 4, _ => ⟨123, 32, by rw [Lib.extract_data]; rfl, .inl ⟨rfl, rfl⟩⟩
  | 5, _ => ⟨125, 32, by rw [Lib.extract_data]; rfl, .inl ⟨rfl, rfl⟩⟩
  | 6, _ => ⟨44, 32, by rw [Lib.extract_data]; rfl, .inl ⟨rfl, rfl⟩⟩
  | 7, _ => ⟨58, 32, by rw [Lib.extract_data]; rfl, .inl ⟨rfl, rfl⟩⟩
  | 8, _ => ⟨46, 32, by rw [Lib.extract_data]; rfl, .inl ⟨rfl, rfl⟩⟩
  | 9, _ => ⟨58, 58, by rw [Lib.extract_data]; rfl, .inr ⟨rfl, rfl⟩⟩
  | 10, _ => ⟨61, 61, by rw [Lib.extract_data]; rfl, .inr ⟨rfl, rfl⟩⟩
  | 11, _ => ⟨60, 32, by rw [Lib.extract_data]; rfl, .inl ⟨rfl, rfl⟩⟩
  | 12, _ => ⟨60, 61, by rw [Lib.extract_data]; rfl, .inr ⟨rfl, rfl⟩⟩
  | 13, _ => ⟨38, 38, by rw [Lib.extract_data]; rfl, .inr ⟨rfl, rfl⟩⟩
  | 14, _ => ⟨124, 124, by rw [Lib.extract_data]; rfl, .inr ⟨rfl, rfl⟩⟩
  | 15, _ => ⟨33, 32, by rw [Lib.extract_data]; rfl, .inl ⟨rfl, rfl⟩⟩
  | 16, _ => ⟨43, 32, by rw [Lib.extract_data]; rfl, .inl ⟨rfl, rfl⟩⟩
  | 17, _ => ⟨45, 32, by rw [Lib.extract_data]; rfl, .inl ⟨rfl, rfl⟩⟩
  | 18, _ => ⟨42, 32, by rw [Lib.extract_data]; rfl, .inl ⟨rfl, rfl⟩⟩
  | j + 19, h => absurd h (by omega)

theorem wSign_of {l : List UInt8} (h : l ≠ []) : wSign l = if signOf l = [] then .error 1 else .ok (5, signOf l, (signOf l).length) := by
  obtain ⟨c, r, rfl⟩ := List.exists_cons_of_ne_nil h
  unfold wSign signOf
  by_cases h2 : two ((c :: r).take 2) = true
  · have hl := two_len h2
    rw [if_pos h2, if_pos h2]
    have hlen : ((c :: r).take 2).length = 2 := by rw [List.length_take]; omega
    rw [if_neg (by intro e; rw [e] at hlen; simp at hlen), hlen]
  · rw [if_neg h2, if_neg h2]
    by_cases h1 : ((c :: r).take 1).any (fun c => shorts.contains c) = true
    · rw [if_pos h1, if_pos h1]
      simp
    · rw [if_neg h1, if_neg h1]; simp
theorem best_sign {l : List UInt8} (h : l ≠ []) : best l 19 = signOf l := by
  match l, h with
  | [c], _ => exact best_one c
  | c :: d :: r, _ => exact best_two c d r
theorem best_small (l : List UInt8) : ∀ j, (best l j).length ≤ 2 := by
  intro j
  unfold best
  have : ∀ (L : List (List UInt8)) (acc : List UInt8), (∀ x ∈ L, x.length ≤ 2) → acc.length ≤ 2 → (L.foldl (pick1 l) acc).length ≤ 2 := by
    intro L
    induction L with
    | nil => intro acc _ h; exact h
    | cons x L ih =>
      intro acc h ha
      rw [List.foldl_cons]
      apply ih _ (fun y hy => h y (by simp [hy]))
      unfold pick1
      split
      · exact h x (by simp)
      · exact ha
  refine this _ _ (fun x hx => ?_) (by simp)
  have hx' := List.mem_of_mem_take hx
  have : ∀ x ∈ sg, x.length ≤ 2 := by decide
  exact this x hx'
theorem pick1_yes {l acc x : List UInt8} (h1 : bgn x l = true) (h2 : acc.length < x.length) : pick1 l acc x = x := by
  unfold pick1; rw [h1, decide_eq_true h2]; rfl
theorem pick1_no {l acc x : List UInt8} (h1 : bgn x l = false) : pick1 l acc x = acc := by
  unfold pick1; rw [h1]; rfl
theorem pick1_less {l acc x : List UInt8} (h2 : ¬ acc.length < x.length) : pick1 l acc x = acc := by
  unfold pick1; rw [decide_eq_false h2, Bool.and_false]; rfl
theorem byte_at {x : ByteArray} {a b : UInt8} (h : x.data.toList = [a, b]) (h1 : 1 < x.size) : x[1] = b := by
  have := of_list h
  subst this
  rfl

set_option maxHeartbeats 2000000 in
theorem refWord_sign (s : ByteArray) (k : Nat) (w : World) (hk : k < s.size) (hs : s.size ≤ 140737488351232) (hd : digb s[k] = false) (hlt : letb s[k] = false) (h63 : (s[k].toNat == 63) = false) (h34 : (s[k].toNat == 34) = false) :
    Calls Tryz.prog 27 #[.string s, .int .i64 k] w fun e w' => e = .returned (refW k (wSign (s.data.toList.drop k))) ∧ Below w.heap.size w w' := by
  have ik : (k : Int) < (s.size : Int) := by omega
  have hne : s.data.toList.drop k ≠ [] := by rw [drop_at s k hk]; simp
  have HW : Hid (_ = _) := wSign_of hne
  have HB : Hid (_ = _) := best_sign hne
  have n63 : ((s[k].toNat : Int) == 63) = false := by simp at h63 ⊢; omega
  have n34 : ((s[k].toNat : Int) == 34) = false := by simp at h34 ⊢; omega
  have HBG := fun (x : ByteArray) (w : World) (hx : x.size ≤ 1000) => begins_any s x k w (by omega) (by unfold maxLen; omega) hx
  generalize s.data.toList.drop k = l at *
  clear h63 h34 hne
  have HTAB : Hid (∀ (j : Nat) (h : j < 19), ∃ a b : UInt8, ((⟨#[40, 32, 32, 41, 32, 32, 91, 32, 32, 93, 32, 32, 123, 32, 32, 125, 32, 32, 44, 32, 32, 58, 32, 32, 46, 32, 32, 58, 58, 32, 61, 61, 32, 60, 32, 32, 60, 61, 32, 38, 38, 32, 124, 124, 32, 33, 32, 32, 43, 32, 32, 45, 32, 32, 42, 32, 32]⟩ : ByteArray).extract (3 * j) (3 * j + 2)).data.toList = [a, b] ∧ (((b.toNat == 32) = true ∧ sg[j]'h = [a]) ∨ ((b.toNat == 32) = false ∧ sg[j]'h = [a, b]))) := sign_tab
  have hSs : (⟨#[40, 32, 32, 41, 32, 32, 91, 32, 32, 93, 32, 32, 123, 32, 32, 125, 32, 32, 44, 32, 32, 58, 32, 32, 46, 32, 32, 58, 58, 32, 61, 61, 32, 60, 32, 32, 60, 61, 32, 38, 38, 32, 124, 124, 32, 33, 32, 32, 43, 32, 32, 45, 32, 32, 42, 32, 32]⟩ : ByteArray).size = 57 := rfl
  have hb0 : Below w.heap.size w (w.alloc (.cells #[.int .i64 0, .string ⟨#[]⟩, .int .i64 0] 47)) := (Below.refl _ _).alloc (Nat.le_refl _) _
  go_enter Tryz.func27, Tryz.ntmps27
  go_wp2_with (first | (go_at_call 53; refine (r2Digit_any _ _).mono ?_; rintro e w' ⟨rfl, rfl⟩; rw [hd]) | (go_at_call 55; refine (r2Letter_any _ _).mono ?_; rintro e w' ⟨rfl, rfl⟩; rw [hlt]))
  generalize (⟨#[40, 32, 32, 41, 32, 32, 91, 32, 32, 93, 32, 32, 123, 32, 32, 125, 32, 32, 44, 32, 32, 58, 32, 32, 46, 32, 32, 58, 58, 32, 61, 61, 32, 60, 32, 32, 60, 61, 32, 38, 38, 32, 124, 124, 32, 33, 32, 32, 43, 32, 32, 45, 32, 32, 42, 32, 32]⟩ : ByteArray) = S at *
  have hSs2 : S.size = 57 := hSs
  go_loopw [15, 16] (fun fv iv wr => ∃ (j n : Nat) (F : ByteArray) (m : Nat), j ≤ 19 ∧ F.size ≤ 2 ∧ Hid (m = 3 * j) ∧ iv = .int .i64 m ∧ fv = .string F ∧ wr = (w.alloc (.cells #[.int .i64 0, .string ⟨#[]⟩, .int .i64 0] 47)).drewN n ∧ Hid (F.data.toList = best l j)) (fun _ iv _ => 57 - (intOf iv).toNat)
  case atStart => exact ⟨0, 0, ⟨#[]⟩, 0, by omega, Nat.zero_le _, rfl, rfl, rfl, rfl, rfl⟩
  case round =>
    obtain ⟨j, n, F, m, hj, hF2, HM, rfl, rfl, rfl, HF⟩ := hrel
    by_cases hlt2 : j < 19
    · obtain ⟨a, b, hab, hc⟩ := HTAB.out j hlt2
      have HX : Hid (_ = _) := best_next l j hlt2
      rw [← HM.out] at hab
      have HJ : Hid (m + 3 = 3 * (j + 1)) := by have := HM.out; show _ = _; omega
      have hjm : m ≤ 54 := by have := HM.out; omega
      have i1 : (m : Int) < 57 := by omega
      have i2 : (m : Int) + 2 ≤ 57 := by omega
      have i3 : (0 : Int) ≤ (m : Int) + 2 := by omega
      have i4 : (m : Int) ≤ (m : Int) + 2 := by omega
      generalize sg[j]'hlt2 = Z at *
      generalize hXX : S.extract m (m + 2) = X at hab
      have hxs : X.size = 2 := by rw [size_l, hab]; rfl
      have hx1 := byte_at hab (by omega)
      rcases hc with ⟨hb, hz⟩ | ⟨hb, hz⟩
      · have hb2 : (((X[1]'(by omega)).toNat : Int) == 32) = true := by rw [hx1]; simp at hb ⊢; omega
        have HY : Hid ((X.extract 0 1).data.toList = Z) := by show _ = _; rw [head_take, hab, hz]; rfl
        have hys : (X.extract 0 1).size = 1 := by rw [size_l, HY.out, hz]; rfl
        have i6 : (1 : Int) ≤ (X.size : Int) := by omega
        clear hz hab hx1 hb
        generalize hYY : X.extract 0 1 = Y at *
        cases hbg : bgn Y.data.toList l
        · have HN : Hid (F.data.toList = best l (j + 1)) := by show _ = _; rw [HX.out, ← HY.out, pick1_no hbg]; exact HF.out
          go_wp2_with (go_at_call 58; refine (HBG _ _ (by omega)).mono ?_; rintro e w' ⟨rfl, n2, rfl⟩; rw [hbg])
          go_roundw
          case rel => exact ⟨j + 1, n + n2, F, m + 3, by omega, by omega, HJ, by go_num, rfl, rfl, HN⟩
          case measure => simp [intOf]; omega
        · by_cases hgt : F.size < Y.size
          · have HN : Hid (Y.data.toList = best l (j + 1)) := by show _ = _; rw [HX.out, ← HY.out, pick1_yes hbg (by rw [← HF.out, ← size_l, ← size_l]; exact hgt)]
            have i5 : (F.size : Int) < (Y.size : Int) := by omega
            go_wp2_with (go_at_call 58; refine (HBG _ _ (by omega)).mono ?_; rintro e w' ⟨rfl, n2, rfl⟩; rw [hbg])
            go_roundw
            case rel => exact ⟨j + 1, n + n2, Y, m + 3, by omega, by omega, HJ, by go_num, rfl, rfl, HN⟩
            case measure => simp [intOf]; omega
          · have HN : Hid (F.data.toList = best l (j + 1)) := by show _ = _; rw [HX.out, ← HY.out, pick1_less (by rw [← HF.out, ← size_l, ← size_l]; exact hgt)]; exact HF.out
            have i5 : ¬ (F.size : Int) < (Y.size : Int) := by omega
            go_wp2_with (go_at_call 58; refine (HBG _ _ (by omega)).mono ?_; rintro e w' ⟨rfl, n2, rfl⟩; rw [hbg])
            go_roundw
            case rel => exact ⟨j + 1, n + n2, F, m + 3, by omega, by omega, HJ, by go_num, rfl, rfl, HN⟩
            case measure => simp [intOf]; omega
      · have hb2 : (((X[1]'(by omega)).toNat : Int) == 32) = false := by rw [hx1]; simp at hb ⊢; omega
        have HY : Hid (X.data.toList = Z) := by show _ = _; rw [hab, hz]
        clear hz hab hx1 hb
        cases hbg : bgn X.data.toList l
        · have HN : Hid (F.data.toList = best l (j + 1)) := by show _ = _; rw [HX.out, ← HY.out, pick1_no hbg]; exact HF.out
          go_wp2_with (go_at_call 58; refine (HBG _ _ (by omega)).mono ?_; rintro e w' ⟨rfl, n2, rfl⟩; rw [hbg])
          go_roundw
          case rel => exact ⟨j + 1, n + n2, F, m + 3, by omega, by omega, HJ, by go_num, rfl, rfl, HN⟩
          case measure => simp [intOf]; omega
        · by_cases hgt : F.size < X.size
          · have HN : Hid (X.data.toList = best l (j + 1)) := by show _ = _; rw [HX.out, ← HY.out, pick1_yes hbg (by rw [← HF.out, ← size_l, ← size_l]; exact hgt)]
            have i5 : (F.size : Int) < (X.size : Int) := by omega
            go_wp2_with (go_at_call 58; refine (HBG _ _ (by omega)).mono ?_; rintro e w' ⟨rfl, n2, rfl⟩; rw [hbg])
            go_roundw
            case rel => exact ⟨j + 1, n + n2, X, m + 3, by omega, by omega, HJ, by go_num, rfl, rfl, HN⟩
            case measure => simp [intOf]; omega
          · have HN : Hid (F.data.toList = best l (j + 1)) := by show _ = _; rw [HX.out, ← HY.out, pick1_less (by rw [← HF.out, ← size_l, ← size_l]; exact hgt)]; exact HF.out
            have i5 : ¬ (F.size : Int) < (X.size : Int) := by omega
            go_wp2_with (go_at_call 58; refine (HBG _ _ (by omega)).mono ?_; rintro e w' ⟨rfl, n2, rfl⟩; rw [hbg])
            go_roundw
            case rel => exact ⟨j + 1, n + n2, F, m + 3, by omega, by omega, HJ, by go_num, rfl, rfl, HN⟩
            case measure => simp [intOf]; omega
    · obtain rfl : j = 19 := by omega
      obtain rfl : m = 57 := HM.out
      have hft : F.toList = F.data.toList := ByteArray.toList_eq F
      have HS : Hid (F.data.toList = signOf l) := HF.out.trans HB.out
      by_cases he : F.size = 0
      · have hnil : F.data.toList = [] := List.eq_nil_of_length_eq_zero (by rw [← size_l]; exact he)
        have e0 : (F.toList == []) = true := by rw [hft, hnil]; rfl
        have HW2 : Hid (wSign l = .error 1) := by
          show _ = _; rw [HW.out, if_pos (by rw [← HS.out]; exact hnil)]
        clear hft HTAB hnil
        go_wp2
        refine bodyPost_ret (v := .tuple #[.agg #[.int .i64 0, .string ⟨#[]⟩, .int .i64 0], .int .i64 0, .int .i64 1]) (by simp [results, Tryz.results27, go_sem]) rfl ⟨by rw [HW2.out]; rfl, ?_⟩
        exact (((below_draws hb0 n).setCell (Nat.le_refl _) _).setCell (Nat.le_refl _) _).setCell (Nat.le_refl _) _
      · have hnn : F.data.toList ≠ [] := by intro h; apply he; rw [size_l, h]; rfl
        have e0 : (F.toList == []) = false := by rw [hft]; cases e : (F.data.toList == []) with | false => rfl | true => exact absurd (by simpa using e) hnn
        have HW2 : Hid (wSign l = .ok (5, F.data.toList, F.size)) := by
          show _ = _; rw [HW.out, if_neg (by rw [← HS.out]; exact hnn), ← HS.out, ← size_l]
        clear hft HTAB
        go_wp2
        refine bodyPost_ret (v := .tuple #[.agg #[.int .i64 5, .string F, .int .i64 k], .int .i64 ((k : Int) + (F.size : Int)), .int .i64 0]) (by simp [results, Tryz.results27, go_sem]) rfl ⟨?_, ?_⟩
        · rw [HW2.out]
          rfl
        · exact (((below_draws hb0 n).setCell (Nat.le_refl _) _).setCell (Nat.le_refl _) _).setCell (Nat.le_refl _) _
end Go.Proofs.YtdoeinjilnhijaaGreatDoor
namespace Go.Proofs.YtdoeinjilnhijaaGreatDoor
open Go.RowKit
set_option linter.unusedVariables false

theorem let_63 {c : UInt8} (h : letb c = true) : (c.toNat == 63) = false := by
  have := let_not h
  simp only [Bool.or_eq_false_iff] at this
  exact this.2
theorem qm_34 {c : UInt8} (h : (c.toNat == 63) = true) : (c.toNat == 34) = false := by simp at h ⊢; omega
theorem refWord_any (s : ByteArray) (k : Nat) (w : World) (hk : k < s.size) (hs : s.size ≤ 140737488351232) :
    Calls Tryz.prog 27 #[.string s, .int .i64 k] w fun e w' => e = .returned (refW k (word1 (s.data.toList.drop k))) ∧ Below w.heap.size w w' := by
  have hD := drop_at s k hk
  have hD1 : s.data.toList.drop (k + 1) = (s.data.toList.drop k).drop 1 := by rw [List.drop_drop]
  rw [hD, word1_cons]
  cases h1 : letb s[k]
  · rw [if_neg (by decide)]
    cases h2 : digb s[k]
    · rw [if_neg (by decide)]
      cases h3 : (s[k].toNat == 34)
      · rw [if_neg (by decide)]
        cases h4 : (s[k].toNat == 63)
        · rw [if_neg (by decide), ← hD]
          exact refWord_sign s k w hk hs h2 h1 h4 h3
        · rw [if_pos rfl]
          exact refWord_slot s k w hk hs h2 h1 h4
      · rw [if_pos rfl]
        have h4 : (s[k].toNat == 63) = false := by
          cases e : (s[k].toNat == 63) with
          | false => rfl
          | true => rw [qm_34 e] at h3; cases h3
        exact refWord_quo s k w hk hs h2 h1 h4 h3
    · rw [if_pos rfl, ← hD]
      exact refWord_num s k w hk hs h2
  · rw [if_pos rfl, ← hD]
    have h2 : digb s[k] = false := by
      cases e : digb s[k] with
      | false => rfl
      | true => rw [dig_let e] at h1; cases h1
    exact refWord_name s k w hk hs h2 h1 (let_63 h1)

theorem nf_ne {l : List UInt8} (h : nfault l ≠ 0) : (nfault l == 0) = false := by simpa using h
theorem word1_err {l : List UInt8} {n : Int} (h : word1 l = .error n) : (n == 0) = false := by
  cases l with
  | nil => injection h with h; subst h; rfl
  | cons c r =>
    rw [word1_cons] at h
    split at h
    · unfold wName at h
      split at h
      · cases h
      · rename_i h1; injection h with h; subst h; exact nf_ne h1
    · split at h
      · unfold wNum at h
        split at h
        · injection h with h; subst h; rfl
        · cases h
      · split at h
        · unfold wQuo at h
          cases e : qsc false r with
          | none => rw [e] at h; injection h with h; subst h; rfl
          | some y =>
            rw [e] at h
            simp only at h
            split at h
            · injection h with h; subst h; rfl
            · cases h
        · split at h
          · unfold wName at h
            split at h
            · cases h
            · rename_i h1; injection h with h; subst h; exact nf_ne h1
          · unfold wSign at h
            split at h
            · cases h
            · split at h
              · cases h
              · injection h with h; subst h; rfl

/-- What Words comes to: the words, or what is wrong and where. -/
def WordsPost (N : Nat) (R : Except (Int × Nat) (List Tk)) (e : Ending) (w' : World) : Prop :=
  match R with
  | .ok ts => ∃ q c, e = .returned (.tuple #[.slice q ts.length c, .int .i64 0, .int .i64 0]) ∧ TKL w' q ts ∧ ts.length ≤ c ∧ c ≤ maxLen ∧ ∀ a, q = some a → N ≤ a.block
  | .error x => e = .returned (.tuple #[.slice none 0 0, .int .i64 x.2, .int .i64 x.1])

set_option maxRecDepth 100000 in
set_option maxHeartbeats 2000000 in
theorem words_any (s : ByteArray) (w : World) (hs : s.size ≤ maxLen) :
    Calls Tryz.prog 16 #[.string s] w fun e w' => WordsPost w.heap.size (readL s.data.toList) e w' ∧ Below w.heap.size w w' := by
  have hl : s.data.toList.length = s.size := by simp
  unfold maxLen at hs
  by_cases h9 : 900 < s.size
  · have HF : Hid (readL s.data.toList = .error (4, 0)) := if_pos (by omega)
    have h' : (900 : Int) < (s.size : Int) := by omega
    go_enter Tryz.func16, Tryz.ntmps16
    go_wp2
    go_ret3
    exact ⟨by rw [HF.out]; rfl, Below.refl _ _⟩
  · have h' : ¬ (900 : Int) < (s.size : Int) := by omega
    have HF : readL s.data.toList = wds s.data.toList [] 0 := if_neg (by omega)
    rw [HF]
    generalize hR : wds s.data.toList [] 0 = R
    have HR : Hid (wds (s.data.toList.drop 0) [] 0 = R) := by rw [List.drop_zero]; exact hR
    clear hR HF
    go_enter Tryz.func16, Tryz.ntmps16
    go_wp2
    go_loopw [5, 6] (fun v i wr => ∃ (k : Nat) (acc : List Tk), k ≤ s.size ∧ i = .int .i64 k ∧ OT wr w.heap.size v acc ∧ Hid (acc.length ≤ 300) ∧ Below w.heap.size w wr ∧ Hid (wds (s.data.toList.drop k) acc k = R)) (fun _ i _ => s.size - (intOf i).toNat)
    case atStart => exact ⟨0, [], Nat.zero_le _, rfl, OT.nil _ _, Nat.zero_le _, Below.refl _ _, HR⟩
    case round =>
      clear HR
      obtain ⟨k, acc, hk, rfl, hown, HA, hb, HR⟩ := hrel
      have hal : acc.length ≤ 300 := HA.out
      by_cases hlt : k < s.size
      · have i1 : (k : Int) < (s.size : Int) := by omega
        have hD := drop_at s k hlt
        cases h32 : (s[k].toNat == 32)
        · have n32 : ((s[k].toNat : Int) == 32) = false := by simp at h32 ⊢; omega
          have H1 := fun w => refWord_any s k w hlt (by omega)
          cases hw : word1 (s.data.toList.drop k) with
          | error n =>
            rw [hw] at H1
            unfold refW at H1
            simp only [] at H1
            have hn0 : (n == 0) = false := word1_err hw
            have hn1 : (n != 0) = true := by simpa using hn0
            have HN : Hid (R = .error (n, k)) := by
              have := HR.out
              rw [hD] at hw
              rw [hD, wds_bad h32 hw] at this
              exact this.symm
            clear hw hD HR h32
            go_wp2_with fail
            refine (H1 _).mono ?_
            rintro e w2 ⟨rfl, hb2⟩
            have hb3 := hb.trans (hb2.mono hb.size)
            have hb4 := hb3.alloc hb3.size (.cells #[.int .i64 0, .string ⟨#[]⟩, .int .i64 0] 47)
            go_wp2
            go_ret3
            exact ⟨by rw [HN.out]; rfl, hb4⟩
          | ok x =>
            obtain ⟨kd, t, n⟩ := x
            rw [hw] at H1
            unfold refW at H1
            simp only [] at H1
            obtain ⟨n1, n2⟩ := word1_size hw
            rw [List.length_drop, hl] at n2
            simp only at n1 n2
            by_cases hf : 300 ≤ acc.length
            · have HN : Hid (R = .error (4, k)) := by
                have := HR.out
                rw [hD] at hw
                rw [hD, wds_full h32 hw hf] at this
                exact this.symm
              have i2 : (300 : Int) ≤ (acc.length : Int) := by omega
              clear hw hD HR h32
              obtain ⟨q, cp, rfl, _⟩ := hown.slice
              go_wp2_with fail
              refine (H1 _).mono ?_
              rintro e w2 ⟨rfl, hb2⟩
              have hb3 := hb.trans (hb2.mono hb.size)
              have hb4 := hb3.alloc hb3.size (.cells #[.int .i64 kd, .string ⟨t.toArray⟩, .int .i64 k] 47)
              go_wp2
              go_ret3
              exact ⟨by rw [HN.out]; rfl, hb4⟩
            · have HN : Hid (wds (s.data.toList.drop (k + n)) (acc ++ [mkT kd t k]) (k + n) = R) := by
                have := HR.out
                rw [hD] at hw
                rw [hD, wds_word h32 hw hf] at this
                simp only at this
                rw [List.drop_drop, show k + 1 + (n - 1) = k + n by omega] at this
                exact this
              have i2 : ¬ (300 : Int) ≤ (acc.length : Int) := by omega
              have HA2 : Hid ((acc ++ [mkT kd t k]).length ≤ 300) := by show _ ≤ _; simp; omega
              clear hw hD HR h32
              obtain ⟨q, cp, rfl, _⟩ := hown.slice
              go_wp2_with fail
              refine (H1 _).mono ?_
              rintro e w2 ⟨rfl, hb2⟩
              have hb3 := hb.trans (hb2.mono hb.size)
              have hb4 := hb3.alloc hb3.size (.cells #[.int .i64 kd, .string ⟨t.toArray⟩, .int .i64 k] 47)
              have hown2 := (hown.below hb2).below ((Below.refl _ _).alloc (Nat.le_refl _) (.cells #[.int .i64 kd, .string ⟨t.toArray⟩, .int .i64 k] 47))
              have Hz : Hid ((w2.alloc (.cells #[.int .i64 kd, .string ⟨t.toArray⟩, .int .i64 k] 47)).heap.size = w2.heap.size + 1) := by show _ = _; simp
              have Hz2 : Hid _ := hb4.size
              go_wp2_with (at_builtin; refine append_tok (w2.alloc (.cells #[.int .i64 kd, .string ⟨t.toArray⟩, .int .i64 k] 47)) rfl (.tmp 41) (.tmp 43) rfl w.heap.size (.slice q acc.length cp) acc rfl hown2 (mkT kd t k) (by rw [Hz.out]; rfl) (by omega) Hz2.out ?_; intro v' w4 hown4 hb5)
              go_roundw
              case rel => exact ⟨k + n, _, by omega, by go_num, hown4, HA2, hb4.trans hb5, HN⟩
              case measure => simp [intOf]; omega
        · have n32 : ((s[k].toNat : Int) == 32) = true := by simp at h32 ⊢; omega
          have HN : Hid (wds (s.data.toList.drop (k + 1)) acc (k + 1) = R) := by
            have := HR.out
            rw [hD, wds_blank h32] at this
            exact this
          clear hD HR h32
          go_wp2
          go_roundw
          case rel => exact ⟨k + 1, acc, by omega, by go_num, hown, HA, hb, HN⟩
          case measure => simp [intOf]; omega
      · obtain rfl : k = s.size := by omega
        have i1 : ¬ (s.size : Int) < (s.size : Int) := by omega
        have HN : Hid (R = .ok acc) := by
          have := HR.out
          rw [List.drop_of_length_le (by simp), wds_nil] at this
          exact this.symm
        obtain ⟨q, cp, rfl, hrest⟩ := hown.slice
        go_wp2
        go_ret3
        exact ⟨by rw [HN.out]; exact ⟨_, _, rfl, hrest⟩, hb⟩
end Go.Proofs.YtdoeinjilnhijaaGreatDoor
namespace Go.Proofs.YtdoeinjilnhijaaGreatDoor
open Go.RowKit
set_option linter.unusedVariables false

theorem wcatch_idle (p q : Addr) (w : World) :
    CallsD Tryz.prog 117 #[.pointer (some p), .pointer (some q)] .returning w fun e u' w' => e = .returned (.tuple #[]) ∧ u' = .returning ∧ w' = w := by
  refine callsD_of_wpS Tryz.func117 rfl fun c₀ cs hu => ?_
  apply wpS_seq
  apply wpS_region
  simp [wpOpsS, go_sem, recoverD, hu, Tryz.ntmps117, Exit.thenS]
  refine wpS_of_wp ?_
  go_wp2
  cases c₀
  simp_all [bodyPostS, results, Tryz.results117]

set_option maxHeartbeats 1000000 in
theorem wcatch_thrown (n : Int) (B : Nat) (w : World) (u0 u1 : Value) (h0 : w.cell? ⟨B, 0, none⟩ = some u0) (z0 : w.frozen? ⟨B, 0, none⟩ = false) (h1 : w.cell? ⟨B + 1, 0, none⟩ = some u1) (z1 : w.frozen? ⟨B + 1, 0, none⟩ = false) (hs : B + 2 ≤ w.heap.size) :
    CallsD Tryz.prog 117 #[.pointer (some ⟨B, 0, none⟩), .pointer (some ⟨B + 1, 0, none⟩)] (.panicking (thrownW n)) w fun e u' w' => e = .returned (.tuple #[]) ∧ u' = .panicking [{ v := .iface 147 (.agg #[.iface 33 (.int .i64 n)]), recovered := true }] ∧
      w'.cell? ⟨B, 0, none⟩ = some (.slice none 0 0) ∧ w'.cell? ⟨B + 1, 0, none⟩ = some (.iface 33 (.int .i64 n)) ∧ Below B w w' := by
  have hta : ∀ w : World, Sem.run Tryz.prog (Instr.typeAssert (.iface 147 (.agg #[.iface 33 (.int .i64 n)])) 20 147 true) w = .ok (.tuple #[.agg #[.iface 33 (.int .i64 n)], .bool true]) w := fun _ => by kernel_rfl
  refine callsD_of_wpS Tryz.func117 rfl fun c₀ cs hu => ?_
  unfold thrownW at hu
  apply wpS_seq
  apply wpS_region
  simp [wpOpsS, go_sem, recoverD, hu, Tryz.ntmps117, Exit.thenS]
  have e : ∀ p q X : Value, #[p, q] ++ (Array.replicate 11 undef).setIfInBounds 3 X = #[p, q, undef, undef, undef, X, undef, undef, undef, undef, undef, undef, undef] := fun _ _ _ => rfl
  rw [e]
  refine wpS_of_wp ?_
  go_wp2_with fail
  have hbA : Below w.heap.size w (w.alloc (.cells #[.iface 33 (.int .i64 n)] 147)) := (Below.refl _ _).alloc (Nat.le_refl _) _
  have a0 := (hbA.cell (p := ⟨B, 0, none⟩) (by show B < _; omega)).trans h0
  have a1 := (hbA.cell (p := ⟨B + 1, 0, none⟩) (by show B + 1 < _; omega)).trans h1
  have y0 := (hbA.frozen (p := ⟨B, 0, none⟩) (by show B < _; omega)).trans z0
  have y1 := (hbA.frozen (p := ⟨B + 1, 0, none⟩) (by show B + 1 < _; omega)).trans z1
  have a2 : (w.alloc (.cells #[.iface 33 (.int .i64 n)] 147)).cell? ⟨w.heap.size, 0, none⟩ = some (.iface 33 (.int .i64 n)) := by simp [go_sem]
  have ne0 : (⟨B, 0, none⟩ : Addr) ≠ ⟨w.heap.size, 0, none⟩ := by intro hh; injection hh; omega
  have ne1 : (⟨B, 0, none⟩ : Addr) ≠ ⟨B + 1, 0, none⟩ := by intro hh; injection hh; omega
  have a3 := (World.cell?_setCell_other (w.alloc (.cells #[.iface 33 (.int .i64 n)] 147)) _ _ (.slice none 0 0) ne0).trans a2
  have a4 := (World.cell?_setCell_other (w.alloc (.cells #[.iface 33 (.int .i64 n)] 147)) _ _ (.slice none 0 0) ne1).trans a1
  have hbB : Below B w (w.alloc (.cells #[.iface 33 (.int .i64 n)] 147)) := hbA.mono (by omega)
  clear hbA
  generalize w.alloc (.cells #[.iface 33 (.int .i64 n)] 147) = w1 at *
  go_region
  all_goals go_wp2
  have k0 : ((w1.setCell ⟨B, 0, none⟩ (.slice none 0 0)).setCell ⟨B + 1, 0, none⟩ (.iface 33 (.int .i64 n))).drew.cell? ⟨B, 0, none⟩ = some (.slice none 0 0) :=
    (World.cell?_setCell_other _ _ _ _ ne1.symm).trans (World.cell?_setCell_same _ _ _ a0)
  have k1 : ((w1.setCell ⟨B, 0, none⟩ (.slice none 0 0)).setCell ⟨B + 1, 0, none⟩ (.iface 33 (.int .i64 n))).drew.cell? ⟨B + 1, 0, none⟩ = some (.iface 33 (.int .i64 n)) :=
    World.cell?_setCell_same _ _ _ a4
  have k2 : Below B w ((w1.setCell ⟨B, 0, none⟩ (.slice none 0 0)).setCell ⟨B + 1, 0, none⟩ (.iface 33 (.int .i64 n))).drew :=
    ((hbB.setCell (Nat.le_refl _) _).setCell (by show B ≤ B + 1; omega) _).drew
  clear hbB a0 a1 a2 a3 a4 y0 y1 h0 h1 z0 z1 hta
  generalize ((w1.setCell ⟨B, 0, none⟩ (.slice none 0 0)).setCell ⟨B + 1, 0, none⟩ (.iface 33 (.int .i64 n))).drew = w9 at *
  cases c₀
  simp_all [bodyPostS, results, Tryz.results117]

/-- What Read comes to: the words, or what is wrong and where. -/
def ReadPost (N : Nat) (R : Except (Int × Nat) (List Tk)) (e : Ending) (w' : World) : Prop :=
  match R with
  | .ok ts => ∃ q c, e = .returned (.tuple #[.slice q ts.length c, .int .i64 0, .nilIface]) ∧ TKL w' q ts ∧ ts.length ≤ c ∧ c ≤ maxLen ∧ ∀ a, q = some a → N ≤ a.block
  | .error x => e = .returned (.tuple #[.slice none 0 0, .int .i64 x.2, .iface 33 (.int .i64 x.1)])

/-- The words so far, in the call's own memory: the two named results' blocks at B, the row behind them. -/
structure WK (w wr : World) (B : Nat) (acc : List Tk) : Prop where
  bel : Below B w wr
  size : B + 2 ≤ wr.heap.size
  row : ∃ v, wr.cell? ⟨B, 0, none⟩ = some v ∧ OT wr (B + 2) v acc
  rowf : wr.frozen? ⟨B, 0, none⟩ = false
  err : wr.cell? ⟨B + 1, 0, none⟩ = some .nilIface
  errf : wr.frozen? ⟨B + 1, 0, none⟩ = false
theorem WK.up {w wr w' : World} {B : Nat} {acc : List Tk} (h : WK w wr B acc) (k : Below wr.heap.size wr w') : WK w w' B acc where
  bel := h.bel.trans (k.mono (by have := h.size; omega))
  size := Nat.le_trans h.size k.size
  row := by
    obtain ⟨v, h1, h2⟩ := h.row
    exact ⟨v, (k.cell (p := ⟨B, 0, none⟩) (by have := h.size; show B < _; omega)).trans h1, h2.below k⟩
  rowf := (k.frozen (p := ⟨B, 0, none⟩) (by have := h.size; show B < _; omega)).trans h.rowf
  err := (k.cell (p := ⟨B + 1, 0, none⟩) (by have := h.size; show B + 1 < _; omega)).trans h.err
  errf := (k.frozen (p := ⟨B + 1, 0, none⟩) (by have := h.size; show B + 1 < _; omega)).trans h.errf
theorem WK.grow {w wr w1 : World} {B : Nat} {acc m : List Tk} {v : Value} (h : WK w wr B acc) (hb : Below (B + 2) wr w1) (hown : OT w1 (B + 2) v m) : WK w (w1.setCell ⟨B, 0, none⟩ v) B m where
  bel := (h.bel.trans (hb.mono (by omega))).setCell (Nat.le_refl _) _
  size := by have := h.size; have := hb.size; simp [World.setCell]; omega
  row := by
    obtain ⟨u, h1, h2⟩ := h.row
    exact ⟨v, World.cell?_setCell_same _ _ _ ((hb.cell (p := ⟨B, 0, none⟩) (by show B < B + 2; omega)).trans h1), hown.set (by show B < B + 2; omega) _⟩
  rowf := by
    have := (hb.frozen (p := ⟨B, 0, none⟩) (by show B < B + 2; omega)).trans h.rowf
    simpa using this
  err := ((World.cell?_setCell_other _ _ _ _ (by simp)).trans (hb.cell (p := ⟨B + 1, 0, none⟩) (by show B + 1 < B + 2; omega))).trans h.err
  errf := by
    have := (hb.frozen (p := ⟨B + 1, 0, none⟩) (by show B + 1 < B + 2; omega)).trans h.errf
    simpa using this
theorem wk_start (w : World) : WK w ((w.alloc (.cells #[.slice none 0 0] 23)).alloc (.cells #[.nilIface] 25)) w.heap.size [] where
  bel := ((Below.refl _ _).alloc (Nat.le_refl _) _).alloc (by simp) _
  size := by simp
  row := ⟨.slice none 0 0, by simp [go_sem], OT.nil _ _⟩
  rowf := by simp [go_sem]
  err := by simp [go_sem]
  errf := by simp [go_sem]

set_option maxHeartbeats 2000000 in
theorem wwalk_any (s : ByteArray) (w : World) (hs : s.size ≤ 900) :
    Calls Tryz.prog 100 #[.string s] w fun e w' => ReadPost w.heap.size (wds s.data.toList [] 0) e w' ∧ Below w.heap.size w w' := by
  have hl : s.data.toList.length = s.size := by simp
  have hmf : ∀ (fn : Fn) (first cap : Array Value) (w : World), (Instr.makeFunc fn first cap).run Tryz.prog w = .ok (.func fn first cap) w := fun _ _ _ _ => rfl
  have HK := wk_start w
  generalize hw0 : (w.alloc (.cells #[.slice none 0 0] 23)).alloc (.cells #[.nilIface] 25) = w0 at HK
  have HR0 := runBlank_any s
  have hk0 := runL_le blankb s.data.toList
  rw [wds_run]
  have HN0 := run_next s.data.toList
  generalize runL blankb s.data.toList = k0 at *
  generalize hR : wds (s.data.toList.drop k0) [] (0 + k0) = R
  have HR : Hid (wds (s.data.toList.drop k0) [] k0 = R) := by rw [← hR]; show _ = _; rw [Nat.zero_add]
  clear hR
  go_enter_defers Tryz.func100, Tryz.ntmps100
  go_wp2_with fail
  refine (HR0 _ (by unfold maxLen; omega)).mono ?_
  rintro e w1 ⟨rfl, rfl⟩
  go_wp2_with fail
  go_loopw [3] (fun a wr => ∃ (k : Nat) (acc : List Tk), k ≤ s.size ∧ a = .int .i64 k ∧ Hid (WK w wr w.heap.size acc) ∧ Hid (acc.length ≤ 300) ∧ Hid (∀ c r, s.data.toList.drop k = c :: r → (c.toNat == 32) = false) ∧ Hid (wds (s.data.toList.drop k) acc k = R)) (fun a _ => s.size - (intOf a).toNat)
  case atStart => exact ⟨k0, [], by omega, rfl, by subst hw0; exact HK, Nat.zero_le _, HN0, HR⟩
  case round =>
    clear HR0 HN0 HK hw0 hk0 HR
    obtain ⟨k, acc, hk, rfl, HK, HA, HB, HR⟩ := hrel
    by_cases hlt : k < s.size
    · have i1 : (k : Int) < (s.size : Int) := by omega
      have i2 : (k : Int) ≤ (s.size : Int) := by omega
      have hD := drop_at s k hlt
      have hne := HB.out _ _ hD
      have H1 := first_any (s.extract k s.size) wr (by simp; omega) (by simp; omega)
      rw [tail_dropW] at H1
      obtain ⟨v, hrow, hown⟩ := HK.out.row
      obtain ⟨q, cp, rfl, _⟩ := hown.slice
      have hnl := HK.out.err
      have hsz := HK.out.size
      cases hw : word1 (s.data.toList.drop k) with
      | error n =>
        rw [hw] at H1
        unfold endW at H1
        simp only [] at H1
        have HN : Hid (R = .error (n, k)) := by
          have := HR.out
          rw [hD] at hw
          rw [hD, wds_bad hne hw] at this
          exact this.symm
        clear hw hD hne HB HR hown
        go_wp2_with fail
        refine H1.mono ?_
        rintro e w2 ⟨rfl, hb⟩
        have HK2 := HK.out.up hb
        obtain ⟨v2, hr2, ho2⟩ := HK2.row
        go_wp2
        refine leaves_cons (f := 117) (args := #[.pointer (some ⟨w.heap.size, 0, none⟩), .pointer (some ⟨w.heap.size + 1, 0, none⟩)]) (by simp) (by simp [go_sem]) ?_
        refine (wcatch_thrown n w.heap.size _ _ _ hr2 HK2.rowf HK2.err HK2.errf HK2.size).mono ?_
        rintro e u' w3 ⟨rfl, rfl, c0, c1, hb3⟩
        have hb4 := HK2.bel.trans hb3
        simp [Leaves, settle, results, Tryz.results100, go_sem, c0, c1]
        exact ⟨by rw [HN.out]; rfl, hb4⟩
      | ok x =>
        obtain ⟨kd, t, n⟩ := x
        rw [hw] at H1
        unfold endW at H1
        simp only [] at H1
        obtain ⟨n1, n2⟩ := word1_size hw
        rw [List.length_drop, hl] at n2
        simp only at n1 n2
        by_cases hf : 300 ≤ acc.length
        · have HN : Hid (R = .error (4, k)) := by
            have := HR.out
            rw [hD] at hw
            rw [hD, wds_full hne hw hf] at this
            exact this.symm
          clear hw hD hne HB HR hown
          go_wp2_with fail
          refine H1.mono ?_
          rintro e w2 ⟨rfl, hb⟩
          have hbt : Below w2.heap.size w2 (w2.alloc (.cells #[.int .i64 kd, .string ⟨t.toArray⟩, .int .i64 0] 47)) := (Below.refl _ _).alloc (Nat.le_refl _) _
          have HK2 := (HK.out.up hb).up hbt
          have hr2 := (hbt.cell (p := ⟨w.heap.size, 0, none⟩) (by have := hb.size; show w.heap.size < _; omega)).trans ((hb.cell (p := ⟨w.heap.size, 0, none⟩) (by show w.heap.size < _; omega)).trans hrow)
          have hsz2 := (HK.out.up hb).size
          clear HK hrow hnl
          go_wp2_with fail
          rw [decide_eq_false (by omega)]
          refine (wneed_false _ _).mono ?_
          rintro e w3 ⟨rfl, rfl⟩
          go_wp2
          refine leaves_cons (f := 117) (args := #[.pointer (some ⟨w.heap.size, 0, none⟩), .pointer (some ⟨w.heap.size + 1, 0, none⟩)]) (by simp) (by simp [go_sem]) ?_
          refine (wcatch_thrown 4 w.heap.size _ _ _ hr2 HK2.rowf HK2.err HK2.errf HK2.size).mono ?_
          rintro e u' w3 ⟨rfl, rfl, c0, c1, hb3⟩
          have hb4 := HK2.bel.trans hb3
          simp [Leaves, settle, results, Tryz.results100, go_sem, c0, c1]
          exact ⟨by rw [HN.out]; rfl, hb4⟩
        · have HN : Hid (wds (s.data.toList.drop (k + n)) (acc ++ [mkT kd t k]) (k + n) = R) := by
            have := HR.out
            rw [hD] at hw
            rw [hD, wds_word hne hw hf] at this
            simp only at this
            rw [List.drop_drop, show k + 1 + (n - 1) = k + n by omega] at this
            exact this
          clear hw hD hne HB HR hown
          go_wp2_with fail
          refine H1.mono ?_
          rintro e w2 ⟨rfl, hb⟩
          have hbt : Below w2.heap.size w2 (w2.alloc (.cells #[.int .i64 kd, .string ⟨t.toArray⟩, .int .i64 0] 47)) := (Below.refl _ _).alloc (Nat.le_refl _) _
          have hbt2 : Below w2.heap.size w2 (w2.alloc (.cells #[.int .i64 kd, .string ⟨t.toArray⟩, .int .i64 k] 47)) := (Below.refl _ _).alloc (Nat.le_refl _) _
          have HK1 := HK.out.up hb
          have hsz2 := HK1.size
          have hr1 := (hb.cell (p := ⟨w.heap.size, 0, none⟩) (by show w.heap.size < _; omega)).trans hrow
          have hr2 := (hbt.cell (p := ⟨w.heap.size, 0, none⟩) (by show w.heap.size < _; omega)).trans hr1
          have hr3 := (hbt2.cell (p := ⟨w.heap.size, 0, none⟩) (by show w.heap.size < _; omega)).trans hr1
          have HK3 := HK1.up hbt2
          clear HK hrow hnl hbt
          go_wp2_with fail
          rw [decide_eq_true (by omega)]
          refine (wneed_true _ _).mono ?_
          rintro e w3 ⟨rfl, rfl⟩
          obtain ⟨v3, r3, hown3⟩ := HK3.row
          obtain rfl : v3 = .slice q acc.length cp := Option.some.inj (r3.symm.trans hr3)
          have hz : (w2.alloc (.cells #[.int .i64 kd, .string ⟨t.toArray⟩, .int .i64 k] 47)).heap.size = w2.heap.size + 1 := by simp
          have hrf3 := HK3.rowf
          have hal : acc.length ≤ 300 := HA.out
          have i3 : (k : Int) + (n : Int) ≤ (s.size : Int) := by omega
          have hlen : (acc ++ [mkT kd t k]).length = acc.length + 1 := by simp
          have Hlen : Hid _ := hlen
          clear hlen
          go_wp2_with (at_builtin; refine append_tok (w2.alloc (.cells #[.int .i64 kd, .string ⟨t.toArray⟩, .int .i64 k] 47)) rfl (.tmp 34) (.tmp 36) rfl (w.heap.size + 2) (.slice q acc.length cp) acc rfl hown3 (mkT kd t k) (by rw [hz]; rfl) (by omega) (by rw [hz]; omega) ?_; intro v' w4 hown4 hb4; obtain ⟨q4, c4, rfl, _⟩ := hown4.slice; rw [Hlen.out] at hown4 ⊢; have h4 := (hb4.cell (p := ⟨w.heap.size, 0, none⟩) (by show w.heap.size < w.heap.size + 2; omega)).trans hr3; have z4 := (hb4.frozen (p := ⟨w.heap.size, 0, none⟩) (by show w.heap.size < w.heap.size + 2; omega)).trans hrf3)
          have HK5 := HK3.grow hb4 hown4
          generalize w4.setCell ⟨w.heap.size, 0, none⟩ (.slice q4 (acc.length + 1) c4) = w5 at *
          have HB5 := runBlank_any (s.extract (k + n) s.size) w5 (by simp; unfold maxLen; omega)
          have HR5 := wds_run (s.data.toList.drop (k + n)) (acc ++ [mkT kd t k]) (k + n)
          have hbl := runL_le blankb (s.data.toList.drop (k + n))
          have HN5 := run_next (s.data.toList.drop (k + n))
          rw [tail_dropW] at HB5
          rw [List.drop_drop] at HN5 HR5
          rw [List.length_drop, hl] at hbl
          generalize runL blankb (s.data.toList.drop (k + n)) = b at *
          have HR6 : Hid (wds (s.data.toList.drop (k + n + b)) (acc ++ [mkT kd t k]) (k + n + b) = R) := HR5.symm.trans HN.out
          have HN6 : Hid (∀ c r, s.data.toList.drop (k + n + b) = c :: r → (c.toNat == 32) = false) := HN5
          have HA6 : Hid ((acc ++ [mkT kd t k]).length ≤ 300) := by show _ ≤ _; rw [Hlen.out]; omega
          have HK6 : Hid _ := HK5
          clear HR5 HN5 HK5 HN hown3 hown4 hb4 h4 z4 hr2 hr3 r3 hrf3 HK3 HK1
          refine HB5.mono ?_
          rintro e w6 ⟨rfl, rfl⟩
          go_wp2
          go_roundw
          case rel => exact ⟨k + n + b, _, by omega, by go_num, HK6, HA6, HN6, HR6⟩
          case measure => simp [intOf]; omega
    · obtain rfl : k = s.size := by omega
      have i1 : ¬ (s.size : Int) < (s.size : Int) := by omega
      have HN : Hid (R = .ok acc) := by
        have := HR.out
        rw [List.drop_of_length_le (by simp), wds_nil] at this
        exact this.symm
      obtain ⟨v, hrow, hown⟩ := HK.out.row
      obtain ⟨q, cp, rfl, _⟩ := hown.slice
      have hnl := HK.out.err
      have hrf := HK.out.rowf
      have hnf := HK.out.errf
      have hbw := HK.out.bel
      have hne : (⟨w.heap.size, 0, none⟩ : Addr) ≠ ⟨w.heap.size + 1, 0, none⟩ := by intro hh; injection hh; omega
      have hown2 := (hown.set (a := ⟨w.heap.size, 0, none⟩) (by show w.heap.size < w.heap.size + 2; omega) (.slice q acc.length cp)).set (a := ⟨w.heap.size + 1, 0, none⟩) (by show w.heap.size + 1 < w.heap.size + 2; omega) .nilIface
      have g0 := (World.cell?_setCell_other (wr.setCell ⟨w.heap.size, 0, none⟩ (.slice q acc.length cp)) _ _ .nilIface hne.symm).trans (World.cell?_setCell_same _ _ (.slice q acc.length cp) hrow)
      have g1 := World.cell?_setCell_same (wr.setCell ⟨w.heap.size, 0, none⟩ (.slice q acc.length cp)) _ .nilIface ((World.cell?_setCell_other _ _ _ _ hne).trans hnl)
      have hb4 := (hbw.setCell (p := ⟨w.heap.size, 0, none⟩) (Nat.le_refl _) (.slice q acc.length cp)).setCell (p := ⟨w.heap.size + 1, 0, none⟩) (by show w.heap.size ≤ w.heap.size + 1; omega) .nilIface
      clear HK HR HB hown hbw
      go_wp2
      unfold bodyPostD
      simp only []
      refine leaves_cons (f := 117) (args := #[.pointer (some ⟨w.heap.size, 0, none⟩), .pointer (some ⟨w.heap.size + 1, 0, none⟩)]) (by simp) (by simp [go_sem]) ?_
      refine (wcatch_idle ⟨w.heap.size, 0, none⟩ ⟨w.heap.size + 1, 0, none⟩ _).mono ?_
      rintro e u' w3 ⟨rfl, rfl, rfl⟩
      simp [Leaves, settle, results, Tryz.results100, go_sem, g0, g1]
      obtain ⟨q', c', hq', hrest⟩ := hown2.slice
      injection hq' with e1 e2 e3
      subst e1 e3
      exact ⟨by rw [HN.out]; exact ⟨_, _, rfl, hrest.1, hrest.2.1, hrest.2.2.1, fun a ha => Nat.le_trans (by omega) (hrest.2.2.2 a ha)⟩, hb4⟩

theorem read_any (s : ByteArray) (w : World) (hs : s.size ≤ maxLen) :
    Calls Tryz.prog 68 #[.string s] w fun e w' => ReadPost w.heap.size (readL s.data.toList) e w' ∧ Below w.heap.size w w' := by
  have hl : s.data.toList.length = s.size := by simp
  unfold maxLen at hs
  by_cases h : 900 < s.size
  · have HF : Hid (readL s.data.toList = .error (4, 0)) := if_pos (by omega)
    have h' : (900 : Int) < (s.size : Int) := by omega
    go_enter Tryz.func68, Tryz.ntmps68
    go_wp2
    go_ret3
    exact ⟨by rw [HF.out]; rfl, Below.refl _ _⟩
  · have HF : Hid (readL s.data.toList = wds s.data.toList [] 0) := if_neg (by omega)
    have h' : ¬ (900 : Int) < (s.size : Int) := by omega
    have H1 := wwalk_any s w (by omega)
    rw [← HF.out] at H1
    generalize readL s.data.toList = R at *
    cases R with
    | ok ts =>
      go_enter Tryz.func68, Tryz.ntmps68
      go_wp2_with fail
      refine H1.mono ?_
      rintro e w1 ⟨⟨q, c, rfl, hr⟩, hb⟩
      go_wp2
      go_ret3
      exact ⟨⟨q, c, rfl, hr⟩, hb⟩
    | error x =>
      go_enter Tryz.func68, Tryz.ntmps68
      go_wp2_with fail
      refine H1.mono ?_
      rintro e w1 ⟨rfl, hb⟩
      go_wp2
      go_ret3
      exact ⟨rfl, hb⟩
end Go.Proofs.YtdoeinjilnhijaaGreatDoor
namespace Go.Proofs.YtdoeinjilnhijaaGreatDoor
open Go.RowKit
set_option linter.unusedVariables false

/-- What Quote tells, its text written out. -/
theorem quoteW_any (s : ByteArray) (w : World) (hs : s.size ≤ maxLen) :
    Calls Tryz.prog 99 #[.string s] w fun e w' => (∃ v, e = .returned (.tuple #[.string ⟨(if textOk s.data.toList = true then quoted s.data.toList else []).toArray⟩, v])) ∧ Below w.heap.size w w' := by
  have hl : s.data.toList.length = s.size := by simp
  by_cases h1 : s.size ≤ 60
  · refine (quote_short s w h1).mono ?_
    rintro e w' ⟨rfl, hb⟩
    cases h2 : s.data.toList.all okb
    · have : textOk s.data.toList = false := by unfold textOk; rw [h2]; simp
      exact ⟨⟨_, by rw [qres_bad h2, this]; rfl⟩, hb⟩
    · have : textOk s.data.toList = true := by unfold textOk; rw [h2, decide_eq_true (by omega)]; rfl
      exact ⟨⟨_, by rw [qres_ok h2, this]; rfl⟩, hb⟩
  · refine (quote_full s w hs (by omega)).mono ?_
    rintro e w' ⟨rfl, rfl⟩
    have : textOk s.data.toList = false := by unfold textOk; rw [decide_eq_false (by omega)]; rfl
    exact ⟨⟨_, by rw [this]; rfl⟩, Below.refl _ _⟩

theorem ba_same {a b : ByteArray} (h : a.data.toList = b.data.toList) : a = b := by
  have := of_list h
  rw [this]
theorem wr_ba {t : Tk} {b : ByteArray} (h : b.data.toList = wtn t) : b = ⟨(wtn t).toArray⟩ := by rw [← h]

set_option maxHeartbeats 1000000 in
theorem write_any (t : Tk) (w : World) (hs : t.s.size ≤ 140737488351232) :
    Calls Tryz.prog 67 #[.agg #[.int .i64 t.kind, .string t.s, .int .i64 t.at_]] w fun e w' => e = .returned (.string ⟨(wtn t).toArray⟩) ∧ Below w.heap.size w w' := by
  have hb0 : Below w.heap.size w (w.alloc (.cells #[.int .i64 t.kind, .string t.s, .int .i64 t.at_] 47)) := (Below.refl _ _).alloc (Nat.le_refl _) _
  by_cases h4 : t.kind = 4
  · have HW : Hid ((⟨#[63]⟩ ++ t.s : ByteArray) = ⟨(wtn t).toArray⟩) := wr_ba (by rw [wr_slot h4]; simp)
    have e4 : (t.kind == 4) = true := by simpa using h4
    have i1 : ¬ 9223372036854775807 < 1 + t.s.size := by omega
    clear h4
    go_enter Tryz.func67, Tryz.ntmps67
    go_wp2
    go_ret
    exact ⟨by rw [← HW.out]; rfl, hb0⟩
  · have e4 : (t.kind == 4) = false := by simpa using h4
    by_cases h3 : t.kind = 3
    · have HW : Hid (wtn t = if textOk t.s.data.toList = true then quoted t.s.data.toList else []) := wr_quo h3
      have e3 : (t.kind == 3) = true := by simpa using h3
      have H1 := fun w => quoteW_any t.s w (by unfold maxLen; omega)
      rw [← HW.out] at H1
      clear h4 h3
      go_enter Tryz.func67, Tryz.ntmps67
      go_wp2_with fail
      refine (H1 _).mono ?_
      rintro e w1 ⟨⟨v, rfl⟩, hb⟩
      go_wp2
      go_ret
      exact ⟨rfl, hb0.trans (hb.mono hb0.size)⟩
    · have HW : Hid (t.s = ⟨(wtn t).toArray⟩) := wr_ba (wr_else h3 h4).symm
      have e3 : (t.kind == 3) = false := by simpa using h3
      clear h4 h3
      go_enter Tryz.func67, Tryz.ntmps67
      go_wp2
      go_ret
      exact ⟨by rw [← HW.out]; rfl, hb0⟩

theorem wr_size (t : Tk) : (wtn t).length ≤ t.s.size + 122 := by
  have hl : t.s.data.toList.length = t.s.size := by simp
  unfold wtn
  split
  · simp
  · split
    · split
      · rename_i h
        unfold textOk at h
        rw [Bool.and_eq_true, decide_eq_true_eq] at h
        have := body_length t.s.data.toList
        unfold quoted
        rw [List.length_cons, List.length_append, List.length_cons, List.length_nil]; omega
      · simp
    · omega

/-- What spellOne tells. -/
def oneV (t : Tk) : Value := if spB t = true then .tuple #[.string ⟨(wtn t).toArray⟩, .nilIface] else .tuple #[.string ⟨#[]⟩, .iface 33 (.int .i64 1)]
theorem oneV_yes {t : Tk} (h : spB t = true) : oneV t = .tuple #[.string ⟨(wtn t).toArray⟩, .nilIface] := if_pos h
theorem oneV_no {t : Tk} (h : ¬ spB t = true) : oneV t = .tuple #[.string ⟨#[]⟩, .iface 33 (.int .i64 1)] := if_neg h

set_option maxHeartbeats 2000000 in
theorem spellOne_any (t : Tk) (w : World) (hs : t.s.size ≤ 140737488351232) :
    Calls Tryz.prog 37 #[.agg #[.int .i64 t.kind, .string t.s, .int .i64 t.at_]] w fun e w' => e = .returned (oneV t) ∧ Below w.heap.size w w' := by
  have hb0 : Below w.heap.size w (w.alloc (.cells #[.int .i64 t.kind, .string t.s, .int .i64 t.at_] 47)) := (Below.refl _ _).alloc (Nat.le_refl _) _
  have H1 := fun w => write_any t w hs
  have hwl := wr_size t
  have H2 := fun w => read_any ⟨(wtn t).toArray⟩ w (by show (wtn t).length ≤ maxLen; unfold maxLen; omega)
  have HD : (⟨(wtn t).toArray⟩ : ByteArray).data.toList = wtn t := rfl
  rw [HD] at H2
  generalize hB : (⟨(wtn t).toArray⟩ : ByteArray) = B at *
  cases hR : readL (wtn t) with
  | error x =>
    have HV : Hid (_ = _) := oneV_no (t := t) (fun h => by have := spB_read h; rw [hR] at this; cases this)
    rw [hR] at H2
    clear hR HD hwl hB
    go_enter Tryz.func37, Tryz.ntmps37
    go_wp2_with fail
    refine (H1 _).mono ?_
    rintro e w1 ⟨rfl, hb1⟩
    go_wp2_with fail
    refine (H2 _).mono ?_
    rintro e w2 ⟨rfl, hb2⟩
    have hb3 := hb1.trans (hb2.mono hb1.size)
    have q0 : ∀ o, w2.cell? ⟨w.heap.size, o, none⟩ = _ := fun o => hb3.cell (p := ⟨w.heap.size, o, none⟩) (by simp)
    have qf : ∀ o, w2.frozen? ⟨w.heap.size, o, none⟩ = _ := fun o => hb3.frozen (p := ⟨w.heap.size, o, none⟩) (by simp)
    have d0 : w2.cell? ⟨w.heap.size, 0, none⟩ = some (.int .i64 t.kind) := (q0 0).trans (by simp [go_sem])
    have d1 : w2.cell? ⟨w.heap.size, 1, none⟩ = some (.string t.s) := (q0 1).trans (by simp [go_sem])
    have d2 : w2.cell? ⟨w.heap.size, 2, none⟩ = some (.int .i64 t.at_) := (q0 2).trans (by simp [go_sem])
    have f2 : w2.frozen? ⟨w.heap.size, 2, none⟩ = false := (qf 2).trans (by simp [go_sem])
    have hb4 := hb0.trans (hb3.mono hb0.size)
    clear q0 qf
    go_wp2_with fail
    go_quiet (fail)
    go_wp2
    go_ret2
    exact ⟨by rw [HV.out]; rfl, below_draws (hb4.setCell (Nat.le_refl _) _) _⟩
  | ok us =>
    rw [hR] at H2
    by_cases h1 : us.length = 1
    · obtain ⟨u, rfl⟩ : ∃ u, us = [u] := List.length_eq_one_iff.1 h1
      by_cases hk : u.kind = t.kind ∧ u.s = t.s ∧ u.at_ = 0
      · have HV : Hid (_ = _) := oneV_yes (t := t) (read_spB (by rw [hR]; obtain ⟨e1, e2, e3⟩ := hk; cases u; simp only at e1 e2 e3; subst e1 e2 e3; rfl))
        obtain ⟨e1, e2, e3⟩ := hk
        clear hR HD hwl h1
        go_enter Tryz.func37, Tryz.ntmps37
        go_wp2_with fail
        refine (H1 _).mono ?_
        rintro e w1 ⟨rfl, hb1⟩
        go_wp2_with fail
        refine (H2 _).mono ?_
        rintro e w2 ⟨⟨q, cp, rfl, hq, _, _, hqn⟩, hb2⟩
        have hb3 := hb1.trans (hb2.mono hb1.size)
        have q0 : ∀ o, w2.cell? ⟨w.heap.size, o, none⟩ = _ := fun o => hb3.cell (p := ⟨w.heap.size, o, none⟩) (by simp)
        have qf : ∀ o, w2.frozen? ⟨w.heap.size, o, none⟩ = _ := fun o => hb3.frozen (p := ⟨w.heap.size, o, none⟩) (by simp)
        have d0 : w2.cell? ⟨w.heap.size, 0, none⟩ = some (.int .i64 t.kind) := (q0 0).trans (by simp [go_sem])
        have d1 : w2.cell? ⟨w.heap.size, 1, none⟩ = some (.string t.s) := (q0 1).trans (by simp [go_sem])
        have d2 : w2.cell? ⟨w.heap.size, 2, none⟩ = some (.int .i64 t.at_) := (q0 2).trans (by simp [go_sem])
        have f2 : w2.frozen? ⟨w.heap.size, 2, none⟩ = false := (qf 2).trans (by simp [go_sem])
        have hb4 := hb0.trans (hb3.mono hb0.size)
        have hb1s : w.heap.size + 1 ≤ w1.heap.size := by have := hb1.size; simpa using this
        clear q0 qf
        have hcell := hq.at (i := 0) (by simp)
        obtain ⟨b, off, rfl, hbw, c0, c1, c2⟩ := hcell
        simp only [List.getElem_cons_zero, Nat.zero_mul, Nat.add_zero] at c0 c1 c2
        have hbn := hqn _ rfl
        simp only at hbn
        have nb : ∀ o : Nat, (⟨w.heap.size, 2, none⟩ : Addr) ≠ ⟨b, o, none⟩ := by intro o hh; injection hh; omega
        have g0 := (World.cell?_setCell_other w2 _ _ (.int .i64 0) (nb off)).trans c0
        have g1 := (World.cell?_setCell_other w2 _ _ (.int .i64 0) (nb (off + 1))).trans c1
        have g2 := (World.cell?_setCell_other w2 _ _ (.int .i64 0) (nb (off + 2))).trans c2
        have n0 : (⟨w.heap.size, 2, none⟩ : Addr) ≠ ⟨w.heap.size, 0, none⟩ := by intro hh; injection hh; omega
        have n1 : (⟨w.heap.size, 2, none⟩ : Addr) ≠ ⟨w.heap.size, 1, none⟩ := by intro hh; injection hh; omega
        have k0 := (World.cell?_setCell_other w2 _ _ (.int .i64 0) n0).trans d0
        have k1 := (World.cell?_setCell_other w2 _ _ (.int .i64 0) n1).trans d1
        have k2 := World.cell?_setCell_same w2 _ (.int .i64 0) d2
        have hsz : w.heap.size < w2.heap.size := by have := hb2.size; omega
        rw [e1] at g0
        rw [e2] at g1
        rw [e3] at g2
        clear c0 c1 c2 e1 e2 e3
        go_wp2_with fail
        go_quiet (fail)
        go_wp2
        go_ret2
        exact ⟨by rw [HV.out, hB]; rfl, below_draws (hb4.setCell (Nat.le_refl _) _) _⟩
      · have HV : Hid (_ = _) := oneV_no (t := t) (fun h => hk (by have := spB_read h; rw [hR] at this; injection this with this; injection this with this _; rw [this]; exact ⟨rfl, rfl, rfl⟩))
        clear hR HD hwl h1 hB
        go_enter Tryz.func37, Tryz.ntmps37
        go_wp2_with fail
        refine (H1 _).mono ?_
        rintro e w1 ⟨rfl, hb1⟩
        go_wp2_with fail
        refine (H2 _).mono ?_
        rintro e w2 ⟨⟨q, cp, rfl, hq, _, _, hqn⟩, hb2⟩
        have hb3 := hb1.trans (hb2.mono hb1.size)
        have q0 : ∀ o, w2.cell? ⟨w.heap.size, o, none⟩ = _ := fun o => hb3.cell (p := ⟨w.heap.size, o, none⟩) (by simp)
        have qf : ∀ o, w2.frozen? ⟨w.heap.size, o, none⟩ = _ := fun o => hb3.frozen (p := ⟨w.heap.size, o, none⟩) (by simp)
        have d0 : w2.cell? ⟨w.heap.size, 0, none⟩ = some (.int .i64 t.kind) := (q0 0).trans (by simp [go_sem])
        have d1 : w2.cell? ⟨w.heap.size, 1, none⟩ = some (.string t.s) := (q0 1).trans (by simp [go_sem])
        have d2 : w2.cell? ⟨w.heap.size, 2, none⟩ = some (.int .i64 t.at_) := (q0 2).trans (by simp [go_sem])
        have f2 : w2.frozen? ⟨w.heap.size, 2, none⟩ = false := (qf 2).trans (by simp [go_sem])
        have hb4 := hb0.trans (hb3.mono hb0.size)
        have hb1s : w.heap.size + 1 ≤ w1.heap.size := by have := hb1.size; simpa using this
        clear q0 qf
        have hcell := hq.at (i := 0) (by simp)
        obtain ⟨b, off, rfl, hbw, c0, c1, c2⟩ := hcell
        simp only [List.getElem_cons_zero, Nat.zero_mul, Nat.add_zero] at c0 c1 c2
        have hbn := hqn _ rfl
        simp only at hbn
        have nb : ∀ o : Nat, (⟨w.heap.size, 2, none⟩ : Addr) ≠ ⟨b, o, none⟩ := by intro o hh; injection hh; omega
        have g0 := (World.cell?_setCell_other w2 _ _ (.int .i64 0) (nb off)).trans c0
        have g1 := (World.cell?_setCell_other w2 _ _ (.int .i64 0) (nb (off + 1))).trans c1
        have g2 := (World.cell?_setCell_other w2 _ _ (.int .i64 0) (nb (off + 2))).trans c2
        have n0 : (⟨w.heap.size, 2, none⟩ : Addr) ≠ ⟨w.heap.size, 0, none⟩ := by intro hh; injection hh; omega
        have n1 : (⟨w.heap.size, 2, none⟩ : Addr) ≠ ⟨w.heap.size, 1, none⟩ := by intro hh; injection hh; omega
        have k0 := (World.cell?_setCell_other w2 _ _ (.int .i64 0) n0).trans d0
        have k1 := (World.cell?_setCell_other w2 _ _ (.int .i64 0) n1).trans d1
        have k2 := World.cell?_setCell_same w2 _ (.int .i64 0) d2
        have hsz : w.heap.size < w2.heap.size := by have := hb2.size; omega
        clear c0 c1 c2
        obtain ⟨tk, ts, ta⟩ := t
        obtain ⟨uk, us, ua⟩ := u
        simp only at *
        by_cases e1 : uk = tk
        · subst e1
          by_cases e2 : us = ts
          · subst e2
            have e3 : ¬ ua = 0 := fun h => hk ⟨rfl, rfl, h⟩
            clear hk
            go_wp2_with fail
            go_quiet (fail)
            go_wp2
            go_ret2
            exact ⟨by rw [HV.out]; rfl, below_draws (hb4.setCell (Nat.le_refl _) _) _⟩
          · have e2' : ¬ us.toList = ts.toList := fun h => e2 (ba_same (by simpa only [ByteArray.toList_eq] using h))
            clear hk
            go_wp2_with fail
            go_quiet (fail)
            go_wp2
            go_ret2
            exact ⟨by rw [HV.out]; rfl, below_draws (hb4.setCell (Nat.le_refl _) _) _⟩
        · clear hk
          go_wp2_with fail
          go_quiet (fail)
          go_wp2
          go_ret2
          exact ⟨by rw [HV.out]; rfl, below_draws (hb4.setCell (Nat.le_refl _) _) _⟩
    · have HV : Hid (_ = _) := oneV_no (t := t) (fun h => by have := spB_read h; rw [hR] at this; injection this with this; rw [this] at h1; simp at h1)
      have i1 : ((us.length : Int) != 1) = true := by simp; omega
      clear hR HD hwl hB
      go_enter Tryz.func37, Tryz.ntmps37
      go_wp2_with fail
      refine (H1 _).mono ?_
      rintro e w1 ⟨rfl, hb1⟩
      go_wp2_with fail
      refine (H2 _).mono ?_
      rintro e w2 ⟨⟨q, cp, rfl, hq, _, _, hqn⟩, hb2⟩
      have hb3 := hb1.trans (hb2.mono hb1.size)
      have q0 : ∀ o, w2.cell? ⟨w.heap.size, o, none⟩ = _ := fun o => hb3.cell (p := ⟨w.heap.size, o, none⟩) (by simp)
      have qf : ∀ o, w2.frozen? ⟨w.heap.size, o, none⟩ = _ := fun o => hb3.frozen (p := ⟨w.heap.size, o, none⟩) (by simp)
      have d0 : w2.cell? ⟨w.heap.size, 0, none⟩ = some (.int .i64 t.kind) := (q0 0).trans (by simp [go_sem])
      have d1 : w2.cell? ⟨w.heap.size, 1, none⟩ = some (.string t.s) := (q0 1).trans (by simp [go_sem])
      have d2 : w2.cell? ⟨w.heap.size, 2, none⟩ = some (.int .i64 t.at_) := (q0 2).trans (by simp [go_sem])
      have f2 : w2.frozen? ⟨w.heap.size, 2, none⟩ = false := (qf 2).trans (by simp [go_sem])
      have hb4 := hb0.trans (hb3.mono hb0.size)
      have hb1s : w.heap.size + 1 ≤ w1.heap.size := by have := hb1.size; simpa using this
      clear q0 qf
      go_wp2_with fail
      go_quiet (fail)
      go_wp2
      go_ret2
      exact ⟨by rw [HV.out]; rfl, below_draws (hb4.setCell (Nat.le_refl _) _) _⟩
end Go.Proofs.YtdoeinjilnhijaaGreatDoor
