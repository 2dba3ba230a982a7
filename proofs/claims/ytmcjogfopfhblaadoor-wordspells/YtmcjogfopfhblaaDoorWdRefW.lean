/- The document's Word (package wicketgateref2): numbers, names, slots, quoted texts; by walks of its own text. -/
import Derived.Test.YtmcjogfopfhblaaDoorWdRefQ
import Derived.Test.YtmcjogfopfhblaaDoorNameRef
import Derived.Test.YtmcjogfopfhblaaDoorSpellL
import Derived.Test.YtmcjogfopfhblaaDoorWordG
namespace Go.Proofs.YtmcjogfopfhblaaDoor
open Go.RowKit
set_option linter.unusedVariables false

theorem dig0_zero {c d : UInt8} (r : List UInt8) (h : (c.toNat == 48) = true) : dig0 (c :: d :: r) = dig0 (d :: r) := by rw [dig0, if_pos h]
theorem dig0_stop {c d : UInt8} (r : List UInt8) (h : (c.toNat == 48) = false) : dig0 (c :: d :: r) = c :: d :: r := by rw [dig0, if_neg (by rw [h]; decide)]
theorem mid (s : ByteArray) (f E : Nat) : (s.extract f E).data.toList = (s.data.toList.drop f).take (E - f) := Lib.extract_data s f E
theorem mid_cons (s : ByteArray) (f E : Nat) (h : f < E) (hE : E ≤ s.size) : (s.data.toList.drop f).take (E - f) = s[f] :: (s.data.toList.drop (f + 1)).take (E - (f + 1)) := by
  rw [drop_at s f (by omega), show E - f = E - (f + 1) + 1 by omega, List.take_succ_cons]
theorem mid_nil (s : ByteArray) (f : Nat) : (s.data.toList.drop f).take (f - f) = [] := by simp
theorem ba_to {b : ByteArray} {l : List UInt8} (h : b.data.toList = l) : (⟨l.toArray⟩ : ByteArray) = b := by rw [← h]
theorem size_l (b : ByteArray) : b.size = b.data.toList.length := by simp

set_option maxHeartbeats 2000000 in
theorem refWord_num (s : ByteArray) (k : Nat) (w : World) (hk : k < s.size) (hs : s.size ≤ 140737488351232) (hd : digb s[k] = true) :
    Calls Tryd.prog 15 #[.string s, .int .i64 k] w fun e w' => e = .returned (refW k (wNum (s.data.toList.drop k))) ∧ Below w.heap.size w w' := by
  have hl : s.data.toList.length = s.size := by simp
  have hb0 : Below w.heap.size w (w.alloc (.cells #[.int .i64 0, .string ⟨#[]⟩, .int .i64 0] 36)) := (Below.refl _ _).alloc (Nat.le_refl _) _
  have ik : (k : Int) < (s.size : Int) := by omega
  have HR := fun w => refRun_any s k true w (by omega) (by unfold maxLen; omega)
  have hr := runL_le (setOf true) (s.data.toList.drop k)
  have hr1 : 1 ≤ runL (setOf true) (s.data.toList.drop k) := by rw [drop_at s k hk, runL_yes (show setOf true _ = _ from hd)]; omega
  rw [List.length_drop, hl] at hr
  have HT : Hid ((s.data.toList.drop k).takeWhile digb = (s.data.toList.drop k).take (k + runL (setOf true) (s.data.toList.drop k) - k)) := by
    show _ = _; rw [Nat.add_sub_cancel_left, runL_take]; rfl
  have HL : Hid (k + runL (setOf true) (s.data.toList.drop k) = k + ((s.data.toList.drop k).takeWhile digb).length) := rfl
  generalize hE : k + runL (setOf true) (s.data.toList.drop k) = E at *
  have hkE : k < E := by omega
  have hEs : E ≤ s.size := by omega
  clear hr hr1 hE
  have HD0 : Hid (dig0 ((s.data.toList.drop k).take (E - k)) = dig0 ((s.data.toList.drop k).takeWhile digb)) := by show _ = _; rw [HT.out]
  generalize hD : dig0 ((s.data.toList.drop k).takeWhile digb) = D at *
  have HD : Hid _ := hD
  clear hD
  have iE : (E : Int) ≤ (s.size : Int) := by omega
  go_enter Tryd.func15, Tryd.ntmps15
  go_wp2_with (first | (go_at_call 24; refine (r2Digit_any _ _).mono ?_; rintro e w' ⟨rfl, rfl⟩; rw [hd]) | (go_at_call 25; refine (HR _).mono ?_; rintro e w' ⟨rfl, rfl⟩))
  go_loop [9] (fun i => ∃ f : Nat, k ≤ f ∧ f < E ∧ i = .int .i64 f ∧ Hid (dig0 ((s.data.toList.drop f).take (E - f)) = D)) (fun i => E - (intOf i).toNat)
  case atStart => exact ⟨k, Nat.le_refl _, hkE, rfl, HD0⟩
  case round =>
    clear HD0
    obtain ⟨f, hkf, hfE, rfl, HF⟩ := hrel
    have jf : (f : Int) < (s.size : Int) := by omega
    by_cases hlt : f + 1 < E
    · have i1 : (f : Int) < (E : Int) - 1 := by omega
      have HM : Hid (_ = _) := mid_cons s f E hfE hEs
      have HM2 : Hid (_ = _) := mid_cons s (f + 1) E hlt hEs
      cases h48 : (s[f].toNat == 48)
      · have n48 : ((s[f].toNat : Int) == 48) = false := by simp at h48 ⊢; omega
        have HX : Hid ((s.extract f E).data.toList = D) := by
          have := HF.out
          rw [HM.out, HM2.out, dig0_stop _ h48, ← HM2.out, ← HM.out, ← mid] at this
          exact this
        have hxs : (s.extract f E).size = E - f := by simp; omega
        by_cases h19 : 19 < E - f
        · have HW : Hid (wNum (s.data.toList.drop k) = .error 4) := if_pos (by rw [HD.out, ← HX.out, ← size_l, hxs]; exact h19)
          have i2 : (19 : Int) < (E : Int) - (f : Int) := by omega
          clear h48 HX HF HM HM2 HT HL HD
          go_wp2
          refine bodyPost_ret (v := .tuple #[.agg #[.int .i64 0, .string ⟨#[]⟩, .int .i64 0], .int .i64 0, .int .i64 4]) (by simp [results, Tryd.results15, go_sem]) rfl ⟨by rw [HW.out]; rfl, hb0⟩
        · have HW : Hid (wNum (s.data.toList.drop k) = .ok (2, D, E - k)) := by
            show _ = _
            unfold wNum
            rw [HD.out, if_neg (by rw [← HX.out, ← size_l, hxs]; exact h19)]
            have := HL.out
            congr 3; omega
          have i2 : ¬ (19 : Int) < (E : Int) - (f : Int) := by omega
          have i3 : (f : Int) ≤ (E : Int) := by omega
          have hb1 : Below w.heap.size w (w.alloc (.cells #[.int .i64 2, .string (s.extract f E), .int .i64 k] 36)) := (Below.refl _ _).alloc (Nat.le_refl _) _
          clear h48 HF HM HM2 HT HL HD
          go_wp2
          refine bodyPost_ret (v := .tuple #[.agg #[.int .i64 2, .string (s.extract f E), .int .i64 k], .int .i64 E, .int .i64 0]) (by simp [results, Tryd.results15, go_sem]) rfl ⟨?_, hb1⟩
          rw [HW.out]
          unfold refW
          simp only []
          rw [ba_to HX.out, show (k : Int) + ((E - k : Nat) : Int) = (E : Int) by omega]
      · have n48 : ((s[f].toNat : Int) == 48) = true := by simp at h48 ⊢; omega
        have HN : Hid (dig0 ((s.data.toList.drop (f + 1)).take (E - (f + 1))) = D) := by
          have := HF.out
          rw [HM.out, HM2.out, dig0_zero _ h48, ← HM2.out] at this
          exact this
        clear h48 HF HM HM2
        go_wp2
        go_round
        case rel => exact ⟨f + 1, by omega, by omega, by go_num, HN⟩
        case measure => simp [intOf]; omega
    · obtain rfl : E = f + 1 := by omega
      have i1 : ¬ (f : Int) < (f : Int) + 1 - 1 := by omega
      have i0 : ¬ (f : Int) < (f : Int) := by omega
      have HM : Hid (_ = _) := mid_cons s f (f + 1) hfE hEs
      have HX : Hid ((s.extract f (f + 1)).data.toList = D) := by
        have := HF.out
        rw [HM.out, mid_nil] at this
        rw [mid, HM.out, mid_nil]
        exact this
      have hxs : (s.extract f (f + 1)).size = 1 := by simp; omega
      have HW : Hid (wNum (s.data.toList.drop k) = .ok (2, D, f + 1 - k)) := by
        show _ = _
        unfold wNum
        rw [HD.out, if_neg (by rw [← HX.out, ← size_l, hxs]; omega)]
        have := HL.out
        congr 3; omega
      have i2 : ¬ (19 : Int) < (f : Int) + 1 - (f : Int) := by omega
      have i3 : (f : Int) ≤ (f : Int) + 1 := by omega
      have hb1 : Below w.heap.size w (w.alloc (.cells #[.int .i64 2, .string (s.extract f (f + 1)), .int .i64 k] 36)) := (Below.refl _ _).alloc (Nat.le_refl _) _
      clear HF HM HT HL HD
      go_wp2
      refine bodyPost_ret (v := .tuple #[.agg #[.int .i64 2, .string (s.extract f (f + 1)), .int .i64 k], .int .i64 ((f : Int) + 1), .int .i64 0]) (by simp [results, Tryd.results15, go_sem]) rfl ⟨?_, hb1⟩
      rw [HW.out]
      unfold refW
      simp only []
      rw [ba_to HX.out, show (k : Int) + ((f + 1 - k : Nat) : Int) = (f : Int) + 1 by omega]

set_option maxHeartbeats 2000000 in
theorem refWord_name (s : ByteArray) (k : Nat) (w : World) (hk : k < s.size) (hs : s.size ≤ 140737488351232) (hd : digb s[k] = false) (hlt : letb s[k] = true) (h63 : (s[k].toNat == 63) = false) :
    Calls Tryd.prog 15 #[.string s, .int .i64 k] w fun e w' => e = .returned (refW k (wName 1 0 (s.data.toList.drop k))) ∧ Below w.heap.size w w' := by
  have hl : s.data.toList.length = s.size := by simp
  have hb0 : Below w.heap.size w (w.alloc (.cells #[.int .i64 0, .string ⟨#[]⟩, .int .i64 0] 36)) := (Below.refl _ _).alloc (Nat.le_refl _) _
  have ik : (k : Int) < (s.size : Int) := by omega
  have HR := fun w => refRun_any s k false w (by omega) (by unfold maxLen; omega)
  have hr := runL_le (setOf false) (s.data.toList.drop k)
  rw [List.length_drop, hl] at hr
  have HT : Hid ((s.data.toList.drop k).takeWhile namb = (s.data.toList.drop k).take (k + runL (setOf false) (s.data.toList.drop k) - k)) := by
    show _ = _; rw [Nat.add_sub_cancel_left, runL_take]; rfl
  have HL : Hid (k + runL (setOf false) (s.data.toList.drop k) = k + ((s.data.toList.drop k).takeWhile namb).length) := rfl
  generalize hE : k + runL (setOf false) (s.data.toList.drop k) = E at *
  have hkE : k ≤ E := by omega
  have hEs : E ≤ s.size := by omega
  clear hr hE
  have HX : Hid ((s.extract k E).data.toList = (s.data.toList.drop k).takeWhile namb) := by show _ = _; rw [mid, HT.out]
  have hxs : (s.extract k E).size = E - k := by simp; omega
  have iE : (E : Int) ≤ (s.size : Int) := by omega
  have i2 : (k : Int) ≤ (E : Int) := by omega
  have HN := fun w => nameFault_any (s.extract k E) w (by rw [hxs]; unfold maxLen; omega)
  rw [HX.out] at HN
  have n63 : ((s[k].toNat : Int) == 63) = false := by simp at h63 ⊢; omega
  clear h63
  by_cases hf : nfault ((s.data.toList.drop k).takeWhile namb) = 0
  · have HW : Hid (wName 1 0 (s.data.toList.drop k) = .ok (1, (s.data.toList.drop k).takeWhile namb, 0 + (E - k))) := by
      show _ = _
      rw [wName_ok hf]
      have := HL.out
      congr 3; omega
    rw [hf] at HN
    have hb1 : Below w.heap.size w (w.alloc (.cells #[.int .i64 1, .string (s.extract k E), .int .i64 k] 36)) := (Below.refl _ _).alloc (Nat.le_refl _) _
    clear hf HT HL
    go_enter Tryd.func15, Tryd.ntmps15
    go_wp2_with (first | (go_at_call 24; refine (r2Digit_any _ _).mono ?_; rintro e w' ⟨rfl, rfl⟩; rw [hd]) | (go_at_call 26; refine (r2Letter_any _ _).mono ?_; rintro e w' ⟨rfl, rfl⟩; rw [hlt]) | (go_at_call 25; refine (HR _).mono ?_; rintro e w' ⟨rfl, rfl⟩) | (go_at_call 27; refine (HN _).mono ?_; rintro e w' ⟨rfl, rfl⟩))
    refine bodyPost_ret (v := .tuple #[.agg #[.int .i64 1, .string (s.extract k E), .int .i64 k], .int .i64 E, .int .i64 0]) (by simp [results, Tryd.results15, go_sem]) rfl ⟨?_, hb1⟩
    rw [HW.out]
    unfold refW
    simp only []
    rw [ba_to HX.out, show (k : Int) + ((0 + (E - k) : Nat) : Int) = (E : Int) by omega]
  · have HW : Hid (_ = _) := wName_bad (k := 1) (m := 0) hf
    generalize nfault ((s.data.toList.drop k).takeWhile namb) = N at *
    have hf' : (N != 0) = true := by simpa using hf
    clear HT HL
    go_enter Tryd.func15, Tryd.ntmps15
    go_wp2_with (first | (go_at_call 24; refine (r2Digit_any _ _).mono ?_; rintro e w' ⟨rfl, rfl⟩; rw [hd]) | (go_at_call 26; refine (r2Letter_any _ _).mono ?_; rintro e w' ⟨rfl, rfl⟩; rw [hlt]) | (go_at_call 25; refine (HR _).mono ?_; rintro e w' ⟨rfl, rfl⟩) | (go_at_call 27; refine (HN _).mono ?_; rintro e w' ⟨rfl, rfl⟩))
    refine bodyPost_ret (v := .tuple #[.agg #[.int .i64 0, .string ⟨#[]⟩, .int .i64 0], .int .i64 0, .int .i64 N]) (by simp [results, Tryd.results15, go_sem]) rfl ⟨by rw [HW.out]; rfl, hb0⟩

set_option maxHeartbeats 2000000 in
theorem refWord_slot (s : ByteArray) (k : Nat) (w : World) (hk : k < s.size) (hs : s.size ≤ 140737488351232) (hd : digb s[k] = false) (hlt : letb s[k] = false) (h63 : (s[k].toNat == 63) = true) :
    Calls Tryd.prog 15 #[.string s, .int .i64 k] w fun e w' => e = .returned (refW k (wName 4 1 (s.data.toList.drop (k + 1)))) ∧ Below w.heap.size w w' := by
  have hl : s.data.toList.length = s.size := by simp
  have hb0 : Below w.heap.size w (w.alloc (.cells #[.int .i64 0, .string ⟨#[]⟩, .int .i64 0] 36)) := (Below.refl _ _).alloc (Nat.le_refl _) _
  have ik : (k : Int) < (s.size : Int) := by omega
  have HR := fun w => refRun_any s (k + 1) false w (by omega) (by unfold maxLen; omega)
  have hr := runL_le (setOf false) (s.data.toList.drop (k + 1))
  rw [List.length_drop, hl] at hr
  have HT : Hid ((s.data.toList.drop (k + 1)).takeWhile namb = (s.data.toList.drop (k + 1)).take ((k + 1) + runL (setOf false) (s.data.toList.drop (k + 1)) - (k + 1))) := by
    show _ = _; rw [Nat.add_sub_cancel_left, runL_take]; rfl
  have HL : Hid ((k + 1) + runL (setOf false) (s.data.toList.drop (k + 1)) = (k + 1) + ((s.data.toList.drop (k + 1)).takeWhile namb).length) := rfl
  generalize hE : (k + 1) + runL (setOf false) (s.data.toList.drop (k + 1)) = E at *
  have hkE : (k + 1) ≤ E := by omega
  have hEs : E ≤ s.size := by omega
  clear hr hE
  have HX : Hid ((s.extract (k + 1) E).data.toList = (s.data.toList.drop (k + 1)).takeWhile namb) := by show _ = _; rw [mid, HT.out]
  have hxs : (s.extract (k + 1) E).size = E - (k + 1) := by simp; omega
  have iE : (E : Int) ≤ (s.size : Int) := by omega
  have i2 : (k : Int) + 1 ≤ (E : Int) := by omega
  have HN := fun w => nameFault_any (s.extract (k + 1) E) w (by rw [hxs]; unfold maxLen; omega)
  rw [HX.out] at HN
  have n63 : ((s[k].toNat : Int) == 63) = true := by simp at h63 ⊢; omega
  clear h63
  by_cases hf : nfault ((s.data.toList.drop (k + 1)).takeWhile namb) = 0
  · have HW : Hid (wName 4 1 (s.data.toList.drop (k + 1)) = .ok (4, (s.data.toList.drop (k + 1)).takeWhile namb, 1 + (E - (k + 1)))) := by
      show _ = _
      rw [wName_ok hf]
      have := HL.out
      congr 3; omega
    rw [hf] at HN
    have hb1 : Below w.heap.size w (w.alloc (.cells #[.int .i64 4, .string (s.extract (k + 1) E), .int .i64 k] 36)) := (Below.refl _ _).alloc (Nat.le_refl _) _
    clear hf HT HL
    go_enter Tryd.func15, Tryd.ntmps15
    go_wp2_with (first | (go_at_call 24; refine (r2Digit_any _ _).mono ?_; rintro e w' ⟨rfl, rfl⟩; rw [hd]) | (go_at_call 26; refine (r2Letter_any _ _).mono ?_; rintro e w' ⟨rfl, rfl⟩; rw [hlt]) | (go_at_call 25; refine (HR _).mono ?_; rintro e w' ⟨rfl, rfl⟩) | (go_at_call 27; refine (HN _).mono ?_; rintro e w' ⟨rfl, rfl⟩))
    refine bodyPost_ret (v := .tuple #[.agg #[.int .i64 4, .string (s.extract (k + 1) E), .int .i64 k], .int .i64 E, .int .i64 0]) (by simp [results, Tryd.results15, go_sem]) rfl ⟨?_, hb1⟩
    rw [HW.out]
    unfold refW
    simp only []
    rw [ba_to HX.out, show (k : Int) + ((1 + (E - (k + 1)) : Nat) : Int) = (E : Int) by omega]
  · have HW : Hid (_ = _) := wName_bad (k := 4) (m := 1) hf
    generalize nfault ((s.data.toList.drop (k + 1)).takeWhile namb) = N at *
    have hf' : (N != 0) = true := by simpa using hf
    clear HT HL
    go_enter Tryd.func15, Tryd.ntmps15
    go_wp2_with (first | (go_at_call 24; refine (r2Digit_any _ _).mono ?_; rintro e w' ⟨rfl, rfl⟩; rw [hd]) | (go_at_call 26; refine (r2Letter_any _ _).mono ?_; rintro e w' ⟨rfl, rfl⟩; rw [hlt]) | (go_at_call 25; refine (HR _).mono ?_; rintro e w' ⟨rfl, rfl⟩) | (go_at_call 27; refine (HN _).mono ?_; rintro e w' ⟨rfl, rfl⟩))
    refine bodyPost_ret (v := .tuple #[.agg #[.int .i64 0, .string ⟨#[]⟩, .int .i64 0], .int .i64 0, .int .i64 N]) (by simp [results, Tryd.results15, go_sem]) rfl ⟨by rw [HW.out]; rfl, hb0⟩

set_option maxHeartbeats 2000000 in
theorem refWord_quo (s : ByteArray) (k : Nat) (w : World) (hk : k < s.size) (hs : s.size ≤ 140737488351232) (hd : digb s[k] = false) (hlt : letb s[k] = false) (h63 : (s[k].toNat == 63) = false) (h34 : (s[k].toNat == 34) = true) :
    Calls Tryd.prog 15 #[.string s, .int .i64 k] w fun e w' => e = .returned (refW k (wQuo (s.data.toList.drop (k + 1)))) ∧ Below w.heap.size w w' := by
  have ik : (k : Int) < (s.size : Int) := by omega
  have H1 := fun w => refQuo_any s k w hk hs
  have n63 : ((s[k].toNat : Int) == 63) = false := by simp at h63 ⊢; omega
  have n34 : ((s[k].toNat : Int) == 34) = true := by simp at h34 ⊢; omega
  clear h63 h34
  cases hR : wQuo (s.data.toList.drop (k + 1)) with
  | error n =>
    rw [hR] at H1
    unfold refW at H1 ⊢
    simp only [] at H1 ⊢
    go_enter Tryd.func15, Tryd.ntmps15
    go_wp2_with (first | (go_at_call 24; refine (r2Digit_any _ _).mono ?_; rintro e w' ⟨rfl, rfl⟩; rw [hd]) | (go_at_call 26; refine (r2Letter_any _ _).mono ?_; rintro e w' ⟨rfl, rfl⟩; rw [hlt]) | (go_at_call 28; refine (H1 _).mono ?_; rintro e w1 ⟨rfl, hb⟩; obtain ⟨d0, d1, d2, f0, f1, f2, hbw⟩ := tok_kept hb))
    refine bodyPost_ret (v := .tuple #[.agg #[.int .i64 0, .string ⟨#[]⟩, .int .i64 0], .int .i64 0, .int .i64 n]) (by simp [results, Tryd.results15, go_sem, d0, d1, d2]) rfl ⟨rfl, ?_⟩
    exact ((hbw.setCell (Nat.le_refl _) _).setCell (Nat.le_refl _) _).setCell (Nat.le_refl _) _
  | ok x =>
    obtain ⟨kd, t, n⟩ := x
    rw [hR] at H1
    unfold refW at H1 ⊢
    simp only [] at H1 ⊢
    go_enter Tryd.func15, Tryd.ntmps15
    go_wp2_with (first | (go_at_call 24; refine (r2Digit_any _ _).mono ?_; rintro e w' ⟨rfl, rfl⟩; rw [hd]) | (go_at_call 26; refine (r2Letter_any _ _).mono ?_; rintro e w' ⟨rfl, rfl⟩; rw [hlt]) | (go_at_call 28; refine (H1 _).mono ?_; rintro e w1 ⟨rfl, hb⟩; obtain ⟨d0, d1, d2, f0, f1, f2, hbw⟩ := tok_kept hb))
    refine bodyPost_ret (v := .tuple #[.agg #[.int .i64 kd, .string ⟨t.toArray⟩, .int .i64 k], .int .i64 ((k : Int) + (n : Int)), .int .i64 0]) (by simp [results, Tryd.results15, go_sem, d0, d1, d2]) rfl ⟨rfl, ?_⟩
    exact ((hbw.setCell (Nat.le_refl _) _).setCell (Nat.le_refl _) _).setCell (Nat.le_refl _) _
end Go.Proofs.YtmcjogfopfhblaaDoor
