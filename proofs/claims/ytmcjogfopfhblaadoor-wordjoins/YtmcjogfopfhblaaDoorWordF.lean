/- Package word's firstName, firstSlot, firstNumber, firstSign, first; strings.Clone, TrimLeft, IndexByte as they call them: by contracts and walks of their own texts. -/
import Derived.Test.YtmcjogfopfhblaaDoorWordQ
import Derived.Test.YtmcjogfopfhblaaDoorShelf
namespace Go.Proofs.YtmcjogfopfhblaaDoor
open Go.RowKit
set_option linter.unusedVariables false

theorem clone_any (s : ByteArray) (w : World) (hs : s.size ≤ 281474976710656) :
    Calls Tryd.prog 50 #[.string s] w fun e w' => e = .returned (.string s) ∧ Below w.heap.size w w' := by
  go_enter Tryd.func50, Tryd.ntmps50
  go_wp2_with fail
  refine (Any.stringslite_Clone Tryd.laysM316 s _ hs).mono ?_
  rintro e w1 ⟨rfl, hb⟩
  go_wp2_with fail
  go_ret
  exact ⟨rfl, hb⟩
theorem trim_any (s : ByteArray) (w : World) :
    Calls Tryd.prog 51 #[.string s, .string ⟨#[48]⟩] w fun e w' => e = .returned (.string ⟨(s.data.toList.dropWhile (· == 48)).toArray⟩) ∧ w' = w :=
  Any.strings_TrimLeft_one Tryd.lays161 s 48 (by decide) w
theorem idx_any (s : ByteArray) (c : UInt8) (w : World) :
    Calls Tryd.prog 55 #[.string s, .int .u8 (c.toNat : Int)] w fun e w' => e = .returned (.int .i64 (Lib.indexByte s.data.toList c)) ∧ w' = w := by
  have h := Any.strings_IndexByte Tryd.lays137 s (c.toNat : Int) w
  have e : ((c.toNat : Int).toNat).toUInt8 = c := by simp
  rw [e] at h
  exact h
theorem idx_has (l : List UInt8) (c : UInt8) : decide (0 ≤ Lib.indexByte l c) = l.contains c := by
  induction l with
  | nil => rfl
  | cons b r ih =>
    have hg := Lib.indexByte_ge r c
    unfold Lib.indexByte
    rw [List.contains_cons]
    by_cases h : b = c
    · subst h; simp
    · have h1 : (b == c) = false := by simpa using h
      have h2 : (c == b) = false := by simpa using fun e : c = b => h e.symm
      rw [h1, h2, Bool.false_or, ← ih]
      simp only [Bool.false_eq_true, if_false]
      by_cases h3 : Lib.indexByte r c = -1
      · rw [h3]; decide
      · have h4 : (Lib.indexByte r c == -1) = false := by simpa using h3
        rw [h4]
        simp only [Bool.false_eq_true, if_false]
        rw [decide_eq_decide]; omega

theorem of_list {a : ByteArray} {l : List UInt8} (h : a.data.toList = l) : a = ⟨l.toArray⟩ := by
  rw [← h]
theorem head_take (s : ByteArray) (n : Nat) : (s.extract 0 n).data.toList = s.data.toList.take n := by
  rw [Lib.extract_data]; simp

theorem below_draws {B : Nat} {a w : World} (h : Below B a w) (n : Nat) : Below B a (w.drewN n) := ⟨h.os, h.tape, h.output, h.size, h.block⟩
theorem wName_ok {k : Int} {m : Nat} {l : List UInt8} (h : nfault (l.takeWhile namb) = 0) : wName k m l = .ok (k, l.takeWhile namb, m + (l.takeWhile namb).length) := if_pos h
theorem wName_bad {k : Int} {m : Nat} {l : List UInt8} (h : nfault (l.takeWhile namb) ≠ 0) : wName k m l = .error (nfault (l.takeWhile namb)) := if_neg h

set_option maxHeartbeats 1000000 in
theorem firstName_any (s : ByteArray) (w : World) (hs : s.size ≤ 900) :
    Calls Tryd.prog 35 #[.string s] w fun e w' => e = endW (wName 1 0 s.data.toList) ∧ Below w.heap.size w w' := by
  have hl : s.data.toList.length = s.size := by simp
  have hr := runL_le namb s.data.toList
  have HX : Hid ((s.extract 0 (runL namb s.data.toList)).data.toList = s.data.toList.takeWhile namb) := by
    show _ = _; rw [head_take, runL_take]
  have HR := runName_any s
  have HN : Hid (runL namb s.data.toList = (s.data.toList.takeWhile namb).length) := rfl
  generalize runL namb s.data.toList = r at *
  have i1 : (r : Int) ≤ (s.size : Int) := by omega
  have hxs : (s.extract 0 r).size = r := by simp; omega
  have hc := fun w => check_any (s.extract 0 r) w (by rw [hxs]; unfold maxLen; omega)
  rw [HX.out] at hc
  by_cases hf : nfault (s.data.toList.takeWhile namb) = 0
  · have HW : Hid (_ = _) := wName_ok (k := 1) (m := 0) hf
    rw [eV_nil hf] at hc
    clear hf
    go_enter Tryd.func35, Tryd.ntmps35
    go_wp2_with fail
    refine (HR _ (by unfold maxLen; omega)).mono ?_
    rintro e w1 ⟨rfl, rfl⟩
    go_wp2_with fail
    refine (hc _).mono ?_
    rintro e w2 ⟨rfl, rfl⟩
    go_wp2_with fail
    refine (wneed_true _ _).mono ?_
    rintro e w3 ⟨rfl, rfl⟩
    go_wp2_with fail
    refine (clone_any (s.extract 0 r) _ (by rw [hxs]; omega)).mono ?_
    rintro e w4 ⟨rfl, hb⟩
    have q0 : ∀ o, w4.cell? ⟨w.heap.size, o, none⟩ = _ := fun o => hb.cell (p := ⟨w.heap.size, o, none⟩) (by simp)
    have qf : ∀ o, w4.frozen? ⟨w.heap.size, o, none⟩ = _ := fun o => hb.frozen (p := ⟨w.heap.size, o, none⟩) (by simp)
    have d0 : w4.cell? ⟨w.heap.size, 0, none⟩ = some (.int .i64 0) := (q0 0).trans (by simp [go_sem])
    have d1 : w4.cell? ⟨w.heap.size, 1, none⟩ = some (.string ⟨#[]⟩) := (q0 1).trans (by simp [go_sem])
    have d2 : w4.cell? ⟨w.heap.size, 2, none⟩ = some (.int .i64 0) := (q0 2).trans (by simp [go_sem])
    have f0 : w4.frozen? ⟨w.heap.size, 0, none⟩ = false := (qf 0).trans (by simp [go_sem])
    have f1 : w4.frozen? ⟨w.heap.size, 1, none⟩ = false := (qf 1).trans (by simp [go_sem])
    have f2 : w4.frozen? ⟨w.heap.size, 2, none⟩ = false := (qf 2).trans (by simp [go_sem])
    have hbw : Below w.heap.size w w4 := ((Below.refl _ _).alloc (Nat.le_refl _) _).trans (hb.mono (by simp))
    clear q0 qf
    go_wp2
    refine bodyPost_ret (v := .tuple #[.agg #[.int .i64 1, .string (s.extract 0 r), .int .i64 0], .int .i64 r]) (by simp [results, Tryd.results35, go_sem, d0, d1, d2]) rfl ⟨?_, ?_⟩
    · rw [HW.out, of_list HX.out, HN.out]
      simp [endW]
    · exact ((hbw.setCell (Nat.le_refl _) _).setCell (Nat.le_refl _) _).setCell (Nat.le_refl _) _
  · have HW : Hid (_ = _) := wName_bad (k := 1) (m := 0) hf
    rw [eV_not hf] at hc
    clear hf
    go_enter Tryd.func35, Tryd.ntmps35
    go_wp2_with fail
    refine (HR _ (by unfold maxLen; omega)).mono ?_
    rintro e w1 ⟨rfl, rfl⟩
    go_wp2_with fail
    refine (hc _).mono ?_
    rintro e w2 ⟨rfl, rfl⟩
    go_wp2_with fail
    refine (wneed_false _ _).mono ?_
    rintro e w3 ⟨rfl, rfl⟩
    go_wp2
    exact ⟨rfl, by rw [HW.out]; rfl, (Below.refl _ _).alloc (Nat.le_refl _) _⟩

theorem wName_n {k : Int} {m : Nat} {l : List UInt8} : ∀ x, wName k m l = .ok x → x.2.2 ≤ m + l.length := by
  intro x h
  unfold wName at h
  split at h
  · cases h; have := takeWhile_le namb l; simp only; omega
  · cases h
theorem wName_slot {l : List UInt8} {k : Int} {m : Nat} : wName k m l = match wName 1 0 l with | .ok x => .ok (k, x.2.1, m + x.2.2) | .error n => .error n := by
  unfold wName
  split
  · simp
  · simp
theorem tail_drop (t : ByteArray) (n : Nat) : (t.extract n t.size).data.toList = t.data.toList.drop n := by
  rw [Lib.extract_data]
  exact List.take_of_length_le (by simp)

set_option maxHeartbeats 1000000 in
theorem firstSlot_any (s : ByteArray) (w : World) (h1 : 0 < s.size) (hs : s.size ≤ 900) :
    Calls Tryd.prog 39 #[.string s] w fun e w' => e = endW (wName 4 1 (s.data.toList.drop 1)) ∧ Below w.heap.size w w' := by
  have HX := tail_drop s 1
  have hxs : (s.extract 1 s.size).size = s.size - 1 := by simp
  have i1 : (1 : Int) ≤ (s.size : Int) := by omega
  have HS : Hid (_ = _) := wName_slot (l := s.data.toList.drop 1) (k := 4) (m := 1)
  have hn := fun w => firstName_any (s.extract 1 s.size) w (by rw [hxs]; omega)
  rw [HX] at hn
  have HB := wName_n (k := 1) (m := 0) (l := s.data.toList.drop 1)
  clear HX
  cases hR : wName 1 0 (s.data.toList.drop 1) with
  | error n =>
    rw [hR] at hn HS
    clear hR
    go_enter Tryd.func39, Tryd.ntmps39
    go_wp2_with fail
    refine (hn _).mono ?_
    rintro e w1 ⟨rfl, hb⟩
    unfold endW
    go_wp2
    refine ⟨rfl, by rw [HS.out]; rfl, ?_⟩
    exact ((Below.refl _ _).alloc (Nat.le_refl _) _).trans (hb.mono (by simp))
  | ok x =>
    obtain ⟨k, t, n⟩ := x
    have hb0 := HB _ hR
    simp only [List.length_drop] at hb0
    have hnb : n ≤ 900 := by simp at hb0; omega
    rw [hR] at hn HS
    clear hR HB hb0
    go_enter Tryd.func39, Tryd.ntmps39
    go_wp2_with fail
    refine (hn _).mono ?_
    rintro e w1 ⟨rfl, hb⟩
    have q0 : ∀ o, w1.cell? ⟨w.heap.size, o, none⟩ = _ := fun o => hb.cell (p := ⟨w.heap.size, o, none⟩) (by simp)
    have qf : ∀ o, w1.frozen? ⟨w.heap.size, o, none⟩ = _ := fun o => hb.frozen (p := ⟨w.heap.size, o, none⟩) (by simp)
    have d0 : w1.cell? ⟨w.heap.size, 0, none⟩ = some (.int .i64 0) := (q0 0).trans (by simp [go_sem])
    have d1 : w1.cell? ⟨w.heap.size, 1, none⟩ = some (.string ⟨#[]⟩) := (q0 1).trans (by simp [go_sem])
    have d2 : w1.cell? ⟨w.heap.size, 2, none⟩ = some (.int .i64 0) := (q0 2).trans (by simp [go_sem])
    have f0 : w1.frozen? ⟨w.heap.size, 0, none⟩ = false := (qf 0).trans (by simp [go_sem])
    have f1 : w1.frozen? ⟨w.heap.size, 1, none⟩ = false := (qf 1).trans (by simp [go_sem])
    have f2 : w1.frozen? ⟨w.heap.size, 2, none⟩ = false := (qf 2).trans (by simp [go_sem])
    have hbw : Below w.heap.size w w1 := ((Below.refl _ _).alloc (Nat.le_refl _) _).trans (hb.mono (by simp))
    have hlt : w.heap.size < w1.heap.size := by have := hb.size; simp at this; omega
    clear q0 qf
    unfold endW
    simp only []
    go_wp2
    refine bodyPost_ret (v := .tuple #[.agg #[.int .i64 4, .string ⟨t.toArray⟩, .int .i64 0], .int .i64 (1 + (n : Int))]) (by simp [results, Tryd.results39, go_sem, d0, d1, d2, hlt]) rfl ⟨by rw [HS.out]; simp [endW], ?_⟩
    exact (((hbw.setCell (Nat.le_refl _) _).setCell (Nat.le_refl _) _).setCell (Nat.le_refl _) _).alloc (by simp [World.setCell]; omega) _

theorem dig0_eq : ∀ (l : List UInt8) (h : l ≠ []), dig0 l = l.dropLast.dropWhile (· == 48) ++ [l.getLast h]
  | [], h => absurd rfl h
  | [c], h => by simp [dig0]
  | c :: d :: r, h => by
    have ih := dig0_eq (d :: r) (by simp)
    unfold dig0
    have e : (c :: d :: r).dropLast = c :: (d :: r).dropLast := rfl
    have e2 : (c :: d :: r).getLast h = (d :: r).getLast (by simp) := rfl
    rw [e, e2, List.dropWhile_cons]
    by_cases hc : c = 48
    · subst hc
      rw [if_pos (by decide), if_pos (by decide), ih]
    · have h1 : (c == 48) = false := by simpa using hc
      have h2 : (c.toNat == 48) = false := by
        cases e : (c.toNat == 48) with
        | false => rfl
        | true => exact absurd (UInt8.toNat_inj.1 (by simpa using e)) hc
      rw [h2, h1]
      simp only [Bool.false_eq_true, if_false]
      rw [List.cons_append, List.dropLast_concat_getLast]
theorem digits_eq (s : ByteArray) (m : Nat) (h : m < s.size) (hr : runL digb s.data.toList = m + 1) :
    (s.extract 0 m).data.toList.dropWhile (· == 48) ++ (s.extract m (m + 1)).data.toList = dig0 (s.data.toList.takeWhile digb) := by
  have hl : s.data.toList.length = s.size := by simp
  have ht : s.data.toList.takeWhile digb = s.data.toList.take m ++ [s[m]] := by
    rw [← runL_take, hr, take_snoc s m h]
  rw [dig0_eq _ (by rw [ht]; simp)]
  have h1 : (s.data.toList.takeWhile digb).dropLast = s.data.toList.take m := by rw [ht]; simp
  have h2 : (s.extract m (m + 1)).data.toList = [s[m]] := by
    rw [Lib.extract_data, show m + 1 - m = 1 by omega, List.drop_eq_getElem_cons (by omega)]
    rfl
  rw [h1, head_take, h2]
  congr 2
  simp only [ht, List.getLast_append, List.getLast_singleton]
  rfl

set_option maxHeartbeats 1000000 in
theorem firstNumber_any (s : ByteArray) (w : World) (m : Nat) (hr : runL digb s.data.toList = m + 1) (hs : s.size ≤ 900) :
    Calls Tryd.prog 37 #[.string s] w fun e w' => e = endW (wNum s.data.toList) ∧ Below w.heap.size w w' := by
  have hl : s.data.toList.length = s.size := by simp
  have hm : m < s.size := by have := runL_le digb s.data.toList; omega
  have HD : Hid (_ = _) := digits_eq s m hm hr
  have HR := runDigit_any s
  rw [hr] at HR
  have HT := trim_any (s.extract 0 m)
  obtain ⟨d, HDD, hd⟩ : ∃ d : ByteArray, Hid (d.data.toList = (s.extract 0 m).data.toList.dropWhile (· == 48)) ∧ d = ⟨((s.extract 0 m).data.toList.dropWhile (· == 48)).toArray⟩ := ⟨⟨((s.extract 0 m).data.toList.dropWhile (· == 48)).toArray⟩, by show _ = _; simp, rfl⟩
  rw [← hd] at HT
  have hds : d.size ≤ 900 := by
    have h1 : d.size = d.data.toList.length := by simp
    have h2 := (List.dropWhile_sublist (· == 48) (l := (s.extract 0 m).data.toList)).length_le
    rw [← HDD.out] at h2
    rw [head_take, List.length_take] at h2
    omega
  clear hd
  have hx : (s.extract m (m + 1)).size = 1 := by simp; omega
  have HC : Hid ((d ++ s.extract m (m + 1)).data.toList = dig0 (s.data.toList.takeWhile digb)) := by
    show _ = _
    rw [← HD.out, ← HDD.out]
    simp
  have HN : Hid (runL digb s.data.toList = (s.data.toList.takeWhile digb).length) := rfl
  have hcs : (d ++ s.extract m (m + 1)).size = d.size + 1 := by rw [ByteArray.size_append, hx]
  have i1 : (m : Int) + 1 ≤ (s.size : Int) := by omega
  have i2 : (m : Int) ≤ (s.size : Int) := by omega
  have hwr : IntKind.i64.wrap (m : Int) = (m : Int) := IntWalk.i64_in _ (by omega)
  go_enter Tryd.func37, Tryd.ntmps37
  go_wp2_with fail
  refine (HR _ (by unfold maxLen; omega)).mono ?_
  rintro e w1 ⟨rfl, rfl⟩
  go_wp2_with fail
  have j1 : (0 : Int) ≤ (m : Int) + 1 := by omega
  have j2 : (m : Int) ≤ (m : Int) + 1 := by omega
  have j3 : ¬ 9223372036854775807 < d.size + 1 := by omega
  go_quiet ((go_at_call 51; exact Calls.quiet_of_same (HT _)))
  generalize hE : d ++ s.extract m (m + 1) = E at *
  have HE : Hid _ := hE
  clear hE
  by_cases h19 : 19 < d.size + 1
  · have HW : Hid (wNum s.data.toList = .error 4) := by
      show _ = _
      unfold wNum
      rw [← HC.out, if_pos (by have : E.data.toList.length = E.size := by simp
                               omega)]
    go_wp2_with fail
    rw [decide_eq_false (by omega)]
    refine (wneed_false _ _).mono ?_
    rintro e w3 ⟨rfl, rfl⟩
    go_wp2
    exact ⟨rfl, by rw [HW.out]; rfl, below_draws ((Below.refl _ _).alloc (Nat.le_refl _) _) _⟩
  · have HW : Hid (wNum s.data.toList = .ok (2, E.data.toList, m + 1)) := by
      show _ = _
      unfold wNum
      rw [← HC.out, if_neg (by have : E.data.toList.length = E.size := by simp
                               omega), ← HN.out, hr]
    go_wp2_with fail
    rw [decide_eq_true (by omega)]
    refine (wneed_true _ _).mono ?_
    rintro e w3 ⟨rfl, rfl⟩
    go_wp2_with fail
    refine (clone_any E _ (by omega)).mono ?_
    rintro e w4 ⟨rfl, hb⟩
    have q0 : ∀ o, w4.cell? ⟨w.heap.size, o, none⟩ = _ := fun o => hb.cell (p := ⟨w.heap.size, o, none⟩) (by simp)
    have qf : ∀ o, w4.frozen? ⟨w.heap.size, o, none⟩ = _ := fun o => hb.frozen (p := ⟨w.heap.size, o, none⟩) (by simp)
    have d0 : w4.cell? ⟨w.heap.size, 0, none⟩ = some (.int .i64 0) := (q0 0).trans (by simp [go_sem])
    have d1 : w4.cell? ⟨w.heap.size, 1, none⟩ = some (.string ⟨#[]⟩) := (q0 1).trans (by simp [go_sem])
    have d2 : w4.cell? ⟨w.heap.size, 2, none⟩ = some (.int .i64 0) := (q0 2).trans (by simp [go_sem])
    have f0 : w4.frozen? ⟨w.heap.size, 0, none⟩ = false := (qf 0).trans (by simp [go_sem])
    have f1 : w4.frozen? ⟨w.heap.size, 1, none⟩ = false := (qf 1).trans (by simp [go_sem])
    have f2 : w4.frozen? ⟨w.heap.size, 2, none⟩ = false := (qf 2).trans (by simp [go_sem])
    have hbw : Below w.heap.size w w4 := (below_draws ((Below.refl _ _).alloc (Nat.le_refl _) _) _).trans (hb.mono (by simp))
    clear q0 qf
    go_wp2
    refine bodyPost_ret (v := .tuple #[.agg #[.int .i64 2, .string E, .int .i64 0], .int .i64 ((m : Int) + 1)]) (by simp [results, Tryd.results37, go_sem, d0, d1, d2]) rfl ⟨?_, ?_⟩
    · rw [HW.out]
      simp [endW]
    · exact ((hbw.setCell (Nat.le_refl _) _).setCell (Nat.le_refl _) _).setCell (Nat.le_refl _) _
end Go.Proofs.YtmcjogfopfhblaaDoor
