/- The document's quoted (package wicketgateref2), by a walk of its own text. -/
import Derived.Test.YtmcjogfopfhblaaDoorWdRef
namespace Go.Proofs.YtmcjogfopfhblaaDoor
open Go.RowKit
set_option linter.unusedVariables false

/-- What the document's Word tells of the word at a byte. -/
def refW (k : Nat) : Except Int (Int × List UInt8 × Nat) → Value
  | .ok x => .tuple #[.agg #[.int .i64 x.1, .string ⟨x.2.1.toArray⟩, .int .i64 k], .int .i64 ((k : Int) + (x.2.2 : Int)), .int .i64 0]
  | .error n => .tuple #[.agg #[.int .i64 0, .string ⟨#[]⟩, .int .i64 0], .int .i64 0, .int .i64 n]

theorem piece1 (s : ByteArray) (k : Nat) (h : k < s.size) : (s.extract k (k + 1)).data.toList = [s[k]] := by
  rw [Lib.extract_data, show k + 1 - k = 1 by omega, List.drop_eq_getElem_cons (by simpa using h)]
  rfl
theorem cat_l (a b : ByteArray) : (a ++ b).data.toList = a.data.toList ++ b.data.toList := by simp
theorem okb_no {c : UInt8} (h : okb c = false) : (c.toNat : Int) < 32 ∨ (126 : Int) < (c.toNat : Int) := by
  unfold okb at h
  simp only [Bool.and_eq_false_iff, decide_eq_false_iff_not] at h
  omega
theorem okb_yes {c : UInt8} (h : okb c = true) : ¬ (c.toNat : Int) < 32 ∧ ¬ (126 : Int) < (c.toNat : Int) := by
  unfold okb at h
  simp only [Bool.and_eq_true, decide_eq_true_eq] at h
  omega

theorem grd_not (c : UInt8) (h : grd c = false) : ((c.toNat : Int) != 34) = true ∧ ((c.toNat : Int) != 92) = true := by
  unfold grd at h
  simp only [Bool.or_eq_false_iff, beq_eq_false_iff_ne] at h
  exact ⟨by simp; omega, by simp; omega⟩
theorem grd_way (c : UInt8) (h : grd c = true) : ((c.toNat : Int) != 34) = false ∨ (((c.toNat : Int) != 34) = true ∧ ((c.toNat : Int) != 92) = false) := by
  unfold grd at h
  simp only [Bool.or_eq_true, beq_iff_eq] at h
  by_cases h1 : c.toNat = 34
  · exact .inl (by simp; omega)
  · exact .inr ⟨by simp; omega, by simp; omega⟩

/-- From a place on, behind this text. -/
def qfrom (k j : Nat) (T l : List UInt8) (R : Option (List UInt8 × Nat)) : Prop := (qsc false l).map (fun x => (T ++ x.1, j - (k + 1) + x.2)) = R
theorem qfrom_end {k j : Nat} {T : List UInt8} {R : Option (List UInt8 × Nat)} (h : qfrom k j T [] R) : R = none := by
  unfold qfrom at h; rw [qsc_end] at h; exact h.symm
theorem qfrom_quote {k j : Nat} {T r : List UInt8} {c : UInt8} {R : Option (List UInt8 × Nat)} (hc : (c.toNat == 34) = true) (h : qfrom k j T (c :: r) R) : R = some (T, j - (k + 1)) := by
  unfold qfrom at h; rw [qsc_quote (by rw [hc]; rfl)] at h; simpa using h.symm
theorem qfrom_plain {k j : Nat} {T r : List UInt8} {c : UInt8} {R : Option (List UInt8 × Nat)} (hk : k + 1 ≤ j) (h34 : (c.toNat == 34) = false) (h92 : (c.toNat == 92) = false) (ho : okb c = true) (h : qfrom k j T (c :: r) R) : qfrom k (j + 1) (T ++ [c]) r R := by
  unfold qfrom at *
  rw [qsc_go (by rw [h34]; rfl) (by rw [ho]; rfl), h92] at h
  simp only [Bool.false_and] at h
  rw [← h]
  cases qsc false r with
  | none => rfl
  | some x => simp; omega
theorem qfrom_wrong {k j : Nat} {T r : List UInt8} {c : UInt8} {R : Option (List UInt8 × Nat)} (h34 : (c.toNat == 34) = false) (ho : okb c = false) (h : qfrom k j T (c :: r) R) : R = none := by
  unfold qfrom at h
  rw [qsc_no (by rw [h34]; rfl) (by rw [ho]; rfl)] at h
  exact h.symm
theorem qsc_bs (r : List UInt8) {c : UInt8} (hc : (c.toNat == 92) = true) : qsc false (c :: r) = (qsc true r).map fun x => (x.1, x.2 + 1) := by
  obtain rfl : c = 92 := UInt8.toNat_inj.1 (by simpa using hc)
  rw [qsc_go (by decide) (by decide)]
  rfl
theorem qfrom_cut {k j : Nat} {T : List UInt8} {c : UInt8} {R : Option (List UInt8 × Nat)} (hc : (c.toNat == 92) = true) (h : qfrom k j T [c] R) : R = none := by
  unfold qfrom at h; rw [qsc_bs _ hc, qsc_end] at h; exact h.symm
theorem qfrom_bad {k j : Nat} {T r : List UInt8} {c d : UInt8} {R : Option (List UInt8 × Nat)} (hc : (c.toNat == 92) = true) (hd : grd d = false) (h : qfrom k j T (c :: d :: r) R) : R = none := by
  unfold qfrom at h; rw [qsc_bs _ hc, qsc_no (by simp) (by rw [hd]; simp)] at h; exact h.symm
theorem qfrom_guard {k j : Nat} {T r : List UInt8} {c d : UInt8} {R : Option (List UInt8 × Nat)} (hk : k + 1 ≤ j) (hc : (c.toNat == 92) = true) (hd : grd d = true) (h : qfrom k j T (c :: d :: r) R) : qfrom k (j + 2) (T ++ [d]) r R := by
  unfold qfrom at *
  rw [qsc_bs _ hc, qsc_go (by simp) (by rw [grd_ok hd, hd]; rfl)] at h
  rw [← h]
  simp only [Bool.not_true, Bool.and_false]
  cases qsc false r with
  | none => rfl
  | some x => simp; omega

set_option maxHeartbeats 4000000 in
theorem refQuo_any (s : ByteArray) (k : Nat) (w : World) (hk : k < s.size) (hs : s.size ≤ 140737488351232) :
    Calls Tryd.prog 28 #[.string s, .int .i64 k] w fun e w' => e = .returned (refW k (wQuo (s.data.toList.drop (k + 1)))) ∧ Below w.heap.size w w' := by
  have hl : s.data.toList.length = s.size := by simp
  have hb0 : Below w.heap.size w (w.alloc (.cells #[.int .i64 0, .string ⟨#[]⟩, .int .i64 0] 36)) := (Below.refl _ _).alloc (Nat.le_refl _) _
  have Hnone : Hid (∀ R : Option (List UInt8 × Nat), qsc false (s.data.toList.drop (k + 1)) = R → R = none → wQuo (s.data.toList.drop (k + 1)) = .error 1) := fun R h1 h2 => wQuo_none (by rw [h1, h2])
  have Hlong : Hid (∀ (R : Option (List UInt8 × Nat)) (x : List UInt8 × Nat), qsc false (s.data.toList.drop (k + 1)) = R → R = some x → 60 < x.1.length → wQuo (s.data.toList.drop (k + 1)) = .error 4) := fun R x h1 h2 h3 => wQuo_long (by rw [h1, h2]) h3
  have Hgood : Hid (∀ (R : Option (List UInt8 × Nat)) (x : List UInt8 × Nat), qsc false (s.data.toList.drop (k + 1)) = R → R = some x → ¬ 60 < x.1.length → wQuo (s.data.toList.drop (k + 1)) = .ok (3, x.1, x.2 + 2)) := fun R x h1 h2 h3 => wQuo_ok (by rw [h1, h2]) h3
  generalize hR : qsc false (s.data.toList.drop (k + 1)) = R at *
  have HR : Hid (qfrom k (k + 1) [] (s.data.toList.drop (k + 1)) R) := by
    show (qsc false (s.data.toList.drop (k + 1))).map _ = R
    rw [hR]; cases R <;> simp
  clear hR
  have ik : (k : Int) < (s.size : Int) := by omega
  go_enter Tryd.func28, Tryd.ntmps28
  go_wp2
  go_loop [7, 8] (fun t i => ∃ (j : Nat) (T : ByteArray), k + 1 ≤ j ∧ j ≤ s.size ∧ T.size ≤ j ∧ i = .int .i64 j ∧ t = .string T ∧ Hid (qfrom k j T.data.toList (s.data.toList.drop j) R)) (fun _ i => s.size - (intOf i).toNat)
  case atStart => exact ⟨k + 1, ⟨#[]⟩, Nat.le_refl _, by omega, Nat.zero_le _, by go_num, rfl, HR⟩
  case round =>
    clear HR
    obtain ⟨j, T, hkj, hj, hT, rfl, rfl, HR⟩ := hrel
    by_cases hlt : j < s.size
    · have i1 : (j : Int) < (s.size : Int) := by omega
      have HD : Hid (_ = _) := drop_at s j hlt
      cases h34 : (s[j].toNat == 34)
      · have n34 : ((s[j].toNat : Int) == 34) = false := by simp at h34 ⊢; omega
        have m34 : ((s[j].toNat : Int) != 34) = true := by simp at h34 ⊢; omega
        cases h92 : (s[j].toNat == 92)
        · have n92 : ((s[j].toNat : Int) == 92) = false := by simp at h92 ⊢; omega
          have i2 : (j : Int) + 1 ≤ (s.size : Int) := by omega
          have hx : (s.extract j (j + 1)).size = 1 := by simp; omega
          cases ho : okb s[j]
          · have HW : Hid _ := Hnone.out _ rfl (qfrom_wrong h34 ho (by have := HR.out; rw [HD.out] at this; exact this))
            clear Hnone Hlong Hgood h34 h92
            rcases okb_no ho with b1 | b2
            · go_wp2
              refine bodyPost_ret (v := .tuple #[.agg #[.int .i64 0, .string ⟨#[]⟩, .int .i64 0], .int .i64 0, .int .i64 1]) (by simp [results, Tryd.results28, go_sem]) rfl ⟨by rw [HW.out]; rfl, hb0⟩
            · have b1 : ¬ (s[j].toNat : Int) < 32 := by omega
              go_wp2
              refine bodyPost_ret (v := .tuple #[.agg #[.int .i64 0, .string ⟨#[]⟩, .int .i64 0], .int .i64 0, .int .i64 1]) (by simp [results, Tryd.results28, go_sem]) rfl ⟨by rw [HW.out]; rfl, hb0⟩
          · have HN : Hid (qfrom k (j + 1) (T ++ s.extract j (j + 1)).data.toList (s.data.toList.drop (j + 1)) R) := by
              show qfrom _ _ _ _ _
              rw [cat_l, piece1 s j hlt]
              exact qfrom_plain hkj h34 h92 ho (by have := HR.out; rw [HD.out] at this; exact this)
            obtain ⟨b1, b2⟩ := okb_yes ho
            have hTs : (T ++ s.extract j (j + 1)).size ≤ j + 1 := by rw [ByteArray.size_append, hx]; omega
            clear HR HD h34 h92 ho Hnone Hlong Hgood
            go_wp2
            go_round
            case rel => exact ⟨j + 1, _, by omega, by omega, hTs, by go_num, rfl, HN⟩
            case measure => simp [intOf]; omega
        · have n92 : ((s[j].toNat : Int) == 92) = true := by simp at h92 ⊢; omega
          by_cases hj1 : j + 1 < s.size
          · have i2 : ¬ (s.size : Int) ≤ (j : Int) + 1 := by omega
            have i3 : (j : Int) + 1 < (s.size : Int) := by omega
            have i4 : (j : Int) + 1 + 1 ≤ (s.size : Int) := by omega
            have HD1 : Hid (_ = _) := drop_at s (j + 1) hj1
            have hx : (s.extract (j + 1) (j + 1 + 1)).size = 1 := by simp; omega
            cases hg : grd s[j + 1]
            · have HW : Hid _ := Hnone.out _ rfl (qfrom_bad h92 hg (by have := HR.out; rw [HD.out, HD1.out] at this; exact this))
              obtain ⟨g1, g2⟩ := grd_not _ hg
              clear Hnone Hlong Hgood h34 h92
              go_wp2
              refine bodyPost_ret (v := .tuple #[.agg #[.int .i64 0, .string ⟨#[]⟩, .int .i64 0], .int .i64 0, .int .i64 1]) (by simp [results, Tryd.results28, go_sem]) rfl ⟨by rw [HW.out]; rfl, hb0⟩
            · have HN : Hid (qfrom k (j + 2) (T ++ s.extract (j + 1) (j + 1 + 1)).data.toList (s.data.toList.drop (j + 2)) R) := by
                show qfrom _ _ _ _ _
                rw [cat_l, piece1 s (j + 1) hj1]
                exact qfrom_guard hkj h92 hg (by have := HR.out; rw [HD.out, HD1.out] at this; exact this)
              obtain ⟨b1, b2⟩ := okb_yes (grd_ok hg)
              have hTs : (T ++ s.extract (j + 1) (j + 1 + 1)).size ≤ j + 2 := by rw [ByteArray.size_append, hx]; omega
              have hwy := grd_way _ hg
              clear HR HD HD1 h34 h92 hg Hnone Hlong Hgood
              rcases hwy with g1 | ⟨g1, g2⟩
              all_goals
                go_wp2
                go_round
                case rel => exact ⟨j + 2, _, by omega, by omega, hTs, by go_num, rfl, HN⟩
                case measure => simp [intOf]; omega
          · have i2 : (s.size : Int) ≤ (j : Int) + 1 := by omega
            have HW : Hid _ := Hnone.out _ rfl (qfrom_cut h92 (by have := HR.out; rw [HD.out, List.drop_of_length_le (by rw [hl]; omega)] at this; exact this))
            clear Hnone Hlong Hgood h34 h92
            go_wp2
            refine bodyPost_ret (v := .tuple #[.agg #[.int .i64 0, .string ⟨#[]⟩, .int .i64 0], .int .i64 0, .int .i64 1]) (by simp [results, Tryd.results28, go_sem]) rfl ⟨by rw [HW.out]; rfl, hb0⟩
      · have n34 : ((s[j].toNat : Int) == 34) = true := by simp at h34 ⊢; omega
        have m34 : ((s[j].toNat : Int) != 34) = false := by simp at h34 ⊢; omega
        have i2 : ¬ (s.size : Int) ≤ (j : Int) := by omega
        have HS : Hid (R = some (T.data.toList, j - (k + 1))) := qfrom_quote h34 (by have := HR.out; rw [HD.out] at this; exact this)
        have hTl : T.data.toList.length = T.size := by simp
        by_cases h60 : 60 < T.size
        · have HW : Hid _ := Hlong.out _ _ rfl HS.out (by simp only; omega)
          have i3 : (60 : Int) < (T.size : Int) := by omega
          clear Hnone Hlong Hgood h34
          go_wp2
          refine bodyPost_ret (v := .tuple #[.agg #[.int .i64 0, .string ⟨#[]⟩, .int .i64 0], .int .i64 0, .int .i64 4]) (by simp [results, Tryd.results28, go_sem]) rfl ⟨by rw [HW.out]; rfl, hb0⟩
        · have HW : Hid _ := Hgood.out _ _ rfl HS.out (by simp only; omega)
          have i3 : ¬ (60 : Int) < (T.size : Int) := by omega
          have hb1 : Below w.heap.size w (w.alloc (.cells #[.int .i64 3, .string T, .int .i64 k] 36)) := (Below.refl _ _).alloc (Nat.le_refl _) _
          clear Hnone Hlong Hgood h34
          go_wp2
          refine bodyPost_ret (v := .tuple #[.agg #[.int .i64 3, .string T, .int .i64 k], .int .i64 ((j : Int) + 1), .int .i64 0]) (by simp [results, Tryd.results28, go_sem]) rfl ⟨?_, hb1⟩
          rw [HW.out]
          unfold refW
          simp only []
          rw [show (k : Int) + ((j - (k + 1) + 2 : Nat) : Int) = (j : Int) + 1 by omega]
    · obtain rfl : j = s.size := by omega
      have i1 : ¬ (s.size : Int) < (s.size : Int) := by omega
      have i2 : (s.size : Int) ≤ (s.size : Int) := by omega
      have HW : Hid _ := Hnone.out _ rfl (qfrom_end (by have := HR.out; rw [List.drop_of_length_le (by simp)] at this; exact this))
      clear Hnone Hlong Hgood
      go_wp2
      refine bodyPost_ret (v := .tuple #[.agg #[.int .i64 0, .string ⟨#[]⟩, .int .i64 0], .int .i64 0, .int .i64 1]) (by simp [results, Tryd.results28, go_sem]) rfl ⟨by rw [HW.out]; rfl, hb0⟩
end Go.Proofs.YtmcjogfopfhblaaDoor
