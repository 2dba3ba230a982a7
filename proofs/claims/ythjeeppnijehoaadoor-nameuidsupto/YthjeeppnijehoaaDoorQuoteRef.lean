/- What the document's own TextFault, Quoted and Bare return, by walks of their own texts. -/
import Derived.Test.YthjeeppnijehoaaDoorStrip
import Derived.Lib.Strings
namespace Go.Proofs.YthjeeppnijehoaaDoor
open Go.RowKit
set_option linter.unusedVariables false

theorem ret_num {k : IntKind} {a b : Int} (h : a = b) : Ending.returned (.int k a) = .returned (.int k b) := by rw [h]
theorem ret_str {a b : ByteArray} (h : a = b) : Ending.returned (.string a) = .returned (.string b) := by rw [h]
/-- 0: a text; 1: a byte of it may not be; 4: it is too long. -/
def tfault (l : List UInt8) : Int := if l.length ≤ 60 then (if l.all okb then 0 else 1) else 4
theorem tfault_long {l : List UInt8} (h : ¬ l.length ≤ 60) : tfault l = 4 := if_neg h
theorem tfault_bad {l : List UInt8} (h : l.length ≤ 60) (h2 : l.all okb = false) : tfault l = 1 := by unfold tfault; rw [if_pos h, h2]; rfl
theorem tfault_ok {l : List UInt8} (h : textOk l = true) : tfault l = 0 := by
  obtain ⟨h1, h2⟩ := textOk_parts h
  unfold tfault; rw [if_pos h1, h2]; rfl
theorem tfault_not {l : List UInt8} (h : textOk l = false) : tfault l ≠ 0 := by
  unfold tfault
  unfold textOk at h
  by_cases h1 : l.length ≤ 60
  · rw [decide_eq_true h1, Bool.true_and] at h
    rw [if_pos h1, h]; decide
  · rw [if_neg h1]; decide
theorem tfault_qerr {l : List UInt8} (h : textOk l = false) : tfault l = qerr l := by
  unfold tfault qerr
  unfold textOk at h
  by_cases h1 : l.length ≤ 60
  · rw [decide_eq_true h1, Bool.true_and] at h
    rw [if_pos h1, if_pos h1, h]; rfl
  · rw [if_neg h1, if_neg h1]

set_option maxHeartbeats 1000000 in
theorem textFault_any (s : ByteArray) (w : World) (hs : s.size ≤ maxLen) :
    Calls Tryd.prog 10 #[.string s] w fun e w' => e = .returned (.int .i64 (tfault s.data.toList)) ∧ w' = w := by
  have hl : s.data.toList.length = s.size := by simp
  by_cases h60 : s.size ≤ 60
  · have h' : ¬ (60 : Int) < (s.size : Int) := by omega
    go_enter Tryd.func10, Tryd.ntmps10
    go_wp2
    go_loop [3] (fun i => ∃ k : Nat, k ≤ s.size ∧ i = .int .i64 k ∧ Hid ((s.data.toList.take k).all okb = true)) (fun i => s.size - (intOf i).toNat)
    case atStart => exact ⟨0, Nat.zero_le _, rfl, rfl⟩
    case round =>
      obtain ⟨k, hk, rfl, HA⟩ := hrel
      by_cases hlt : k < s.size
      · have i1 : (k : Int) < (s.size : Int) := by omega
        cases ho : okb s[k]
        · have HF : Hid (_ = _) := tfault_bad (l := s.data.toList) (by omega) (all_take_bad s k hlt ho)
          have hb : (s[k].toNat : Int) < 32 ∨ (126 : Int) < (s[k].toNat : Int) := by
            unfold okb at ho
            simp only [Bool.and_eq_false_iff, decide_eq_false_iff_not] at ho
            omega
          by_cases hb1 : (s[k].toNat : Int) < 32
          · go_wp2
            go_ret
            exact ⟨ret_num HF.out.symm, rfl⟩
          · have hb2 : (126 : Int) < (s[k].toNat : Int) := by omega
            clear hb
            go_wp2
            go_ret
            exact ⟨ret_num HF.out.symm, rfl⟩
        · have HA2 : Hid (_ = _) := all_snoc _ _ HA.out ho
          have HT : Hid (_ = _) := take_snoc s k hlt
          have hb : ¬ (s[k].toNat : Int) < 32 ∧ ¬ (126 : Int) < (s[k].toNat : Int) := by
            unfold okb at ho
            simp only [Bool.and_eq_true, decide_eq_true_eq] at ho
            omega
          obtain ⟨hb1, hb2⟩ := hb
          go_wp2
          go_round
          case rel => exact ⟨k + 1, by omega, by go_num, by rw [HT.out]; exact HA2⟩
          case measure => simp [intOf]; omega
      · obtain rfl : k = s.size := by omega
        have i1 : ¬ (s.size : Int) < (s.size : Int) := by omega
        have HF : Hid (_ = _) := tfault_ok (l := s.data.toList) (by
          have h := HA.out
          rw [take_all s] at h
          unfold textOk; rw [h, decide_eq_true (by omega)]; rfl)
        go_wp2
        go_ret
        exact ⟨ret_num HF.out.symm, rfl⟩
  · have HF : Hid (_ = _) := tfault_long (l := s.data.toList) (by omega)
    have h' : (60 : Int) < (s.size : Int) := by omega
    go_enter Tryd.func10, Tryd.ntmps10
    go_wp2
    go_ret
    exact ⟨ret_num HF.out.symm, rfl⟩

theorem piece (s : ByteArray) (k : Nat) (h : k < s.size) : (s.extract k (k + 1)).data.toList = [s[k]] := by
  rw [Lib.extract_data]
  have : k + 1 - k = 1 := by omega
  rw [this, List.drop_eq_getElem_cons (by simpa using h)]
  rfl
theorem cat_list (a b : ByteArray) : (a ++ b).data.toList = a.data.toList ++ b.data.toList := by simp
theorem size_list (a : ByteArray) : a.size = a.data.toList.length := by simp
theorem ba_ext {a b : ByteArray} (h : a.data.toList = b.data.toList) : a = b := by
  have := ba_of (s := b) h
  rw [← this]

theorem grd_ways (c : UInt8) (h : grd c = true) : ((c.toNat : Int) == 34) = true ∨ (((c.toNat : Int) == 34) = false ∧ ((c.toNat : Int) == 92) = true) := by
  unfold grd at h
  simp only [Bool.or_eq_true, beq_iff_eq] at h
  by_cases h1 : c.toNat = 34
  · exact .inl (by simp; omega)
  · exact .inr ⟨by simp; omega, by simp; omega⟩
theorem grd_no (c : UInt8) (h : grd c = false) : ((c.toNat : Int) == 34) = false ∧ ((c.toNat : Int) == 92) = false := by
  unfold grd at h
  simp only [Bool.or_eq_false_iff, beq_eq_false_iff_ne] at h
  exact ⟨by simp; omega, by simp; omega⟩

set_option maxHeartbeats 1000000 in
theorem rQuoted_any (s : ByteArray) (w : World) (hs : s.size ≤ 60) :
    Calls Tryd.prog 11 #[.string s] w fun e w' => e = .returned (.string ⟨(quoted s.data.toList).toArray⟩) ∧ w' = w := by
  go_enter Tryd.func11, Tryd.ntmps11
  go_wp2
  go_loop [3, 4] (fun o i => ∃ (k : Nat) (q : ByteArray), k ≤ s.size ∧ i = .int .i64 k ∧ o = .string q ∧ Hid (q.data.toList = 34 :: body (s.data.toList.take k))) (fun _ i => s.size - (intOf i).toNat)
  case atStart => exact ⟨0, ⟨#[34]⟩, Nat.zero_le _, rfl, rfl, rfl⟩
  case round =>
    obtain ⟨k, q, hk, rfl, rfl, HQ⟩ := hrel
    have hq : q.size ≤ 1 + 2 * k := by
      have h1 := body_length (s.data.toList.take k)
      have h2 : (s.data.toList.take k).length ≤ k := List.length_take_le _ _
      rw [size_list, HQ.out, List.length_cons]; omega
    by_cases hlt : k < s.size
    · have HT : Hid (_ = _) := take_snoc s k hlt
      have HP : Hid (_ = _) := piece s k hlt
      have i1 : (k : Int) < (s.size : Int) := by omega
      have i2 : (k : Int) + 1 ≤ (s.size : Int) := by omega
      have hx : (s.extract k (k + 1)).size = 1 := by simp; omega
      cases hg : grd s[k]
      · obtain ⟨g1, g2⟩ := grd_no _ hg
        have HB : Hid (_ = _) := body_one_plain hg (s.data.toList.take k)
        go_wp2
        go_round
        case rel => exact ⟨k + 1, _, by omega, by go_num, rfl, by show _ = _; rw [cat_list, HQ.out, HP.out, HT.out]; exact HB.out⟩
        case measure => simp [intOf]; omega
      · have HB : Hid (_ = _) := body_one_grd hg (s.data.toList.take k)
        rcases grd_ways _ hg with g1 | ⟨g1, g2⟩
        · go_wp2
          go_round
          case rel => exact ⟨k + 1, _, by omega, by go_num, rfl, by show _ = _; rw [cat_list, cat_list, HQ.out, HP.out, HT.out]; exact HB.out⟩
          case measure => simp [intOf]; omega
        · go_wp2
          go_round
          case rel => exact ⟨k + 1, _, by omega, by go_num, rfl, by show _ = _; rw [cat_list, cat_list, HQ.out, HP.out, HT.out]; exact HB.out⟩
          case measure => simp [intOf]; omega
    · obtain rfl : k = s.size := by omega
      have i1 : ¬ (s.size : Int) < (s.size : Int) := by omega
      go_wp2
      go_ret
      refine ⟨ret_str (ba_ext ?_), rfl⟩
      rw [cat_list, HQ.out, take_all s]
      rfl

theorem ret_pair {a b : ByteArray} {c d : Bool} (h : a = b) (k : c = d) : Ending.returned (.tuple #[.string a, .bool c]) = .returned (.tuple #[.string b, .bool d]) := by rw [h, k]
/-- What Bare returns. -/
def bareOk (l : List UInt8) : Bool := textOk (bl (l.drop 1)) && (quoted (bl (l.drop 1)) == l)
theorem bareOk_quoted (t : List UInt8) (h : textOk t = true) : bareOk (quoted t) = true := by
  unfold bareOk; rw [bl_quoted, h]; simp
theorem bareOk_none {l : List UInt8} (h : ∀ t, textOk t = true → quoted t ≠ l) : bareOk l = false := by
  unfold bareOk
  cases h1 : textOk (bl (l.drop 1)) with
  | false => rfl
  | true => simpa using h _ h1

theorem bl_acc {s : ByteArray} {acc r : List UInt8} (h : acc ++ r = bl (s.data.toList.drop 1)) : acc.length + r.length ≤ s.size := by
  have e := bl_length _ (s.data.toList.drop 1) (Nat.le_refl _)
  rw [← h, List.length_append, List.length_drop] at e
  have : s.data.toList.length = s.size := by simp
  omega
theorem byte_is {c : UInt8} (h : (c.toNat == 92) = true) : ((c.toNat : Int) == 92) = true := by simp at h ⊢; omega
theorem byte_not {c : UInt8} (h : (c.toNat == 92) = false) : ((c.toNat : Int) == 92) = false := by simp at h ⊢; omega

set_option maxHeartbeats 2000000 in
theorem bare_any (s : ByteArray) (w : World) (hs : s.size ≤ 140737488351232) :
    Calls Tryd.prog 12 #[.string s] w fun e w' => e = .returned (.tuple #[.string ⟨(bl (s.data.toList.drop 1)).toArray⟩, .bool (bareOk s.data.toList)]) ∧ w' = w := by
  go_enter Tryd.func12, Tryd.ntmps12
  go_wp2
  go_loop [4, 5] (fun o i => ∃ (k : Nat) (q : ByteArray), 1 ≤ k ∧ k ≤ s.size + 1 ∧ i = .int .i64 k ∧ o = .string q ∧ Hid (q.data.toList ++ bl (s.data.toList.drop k) = bl (s.data.toList.drop 1))) (fun _ i => s.size - (intOf i).toNat)
  case atStart => exact ⟨1, ⟨#[]⟩, Nat.le_refl _, by omega, rfl, rfl, rfl⟩
  case round =>
    obtain ⟨k, q, hk1, hk, rfl, rfl, HQ⟩ := hrel
    have hq : q.size ≤ s.size := by have := bl_acc HQ.out; rw [size_list]; omega
    by_cases hlt : k + 1 < s.size
    · have i1 : (k : Int) < (s.size : Int) - 1 := by omega
      have i2 : (k : Int) < (s.size : Int) := by omega
      have i3 : (k : Int) + 1 ≤ (s.size : Int) := by omega
      by_cases hl2 : k + 2 < s.size
      · have HS := bl_step s k hl2
        have i4 : (k : Int) + 1 < (s.size : Int) - 1 := by omega
        have i5 : (k : Int) + 1 + 1 ≤ (s.size : Int) := by omega
        cases hc : (s[k].toNat == 92)
        · have hn := byte_not hc
          rw [hc] at HS
          have HP : Hid (_ = _) := piece s k (by omega)
          have hx : (s.extract k (k + 1)).size = 1 := by simp; omega
          have HA : Hid ((q.data.toList ++ [s[k]]) ++ bl (s.data.toList.drop (k + 1)) = bl (s.data.toList.drop 1)) := by
            have h := HQ.out; rw [HS] at h; rw [← h]; show _ = _; simp
          clear HS HQ hc
          go_wp2
          go_round
          case rel => exact ⟨k + 1, _, by omega, by omega, by go_num, rfl, by show _ = _; rw [cat_list, HP.out]; exact HA.out⟩
          case measure => simp [intOf]; omega
        · have hn := byte_is hc
          rw [hc] at HS
          have HP : Hid (_ = _) := piece s (k + 1) (by omega)
          have hx : (s.extract (k + 1) (k + 1 + 1)).size = 1 := by simp; omega
          have HA : Hid ((q.data.toList ++ [s[k + 1]]) ++ bl (s.data.toList.drop (k + 2)) = bl (s.data.toList.drop 1)) := by
            have h := HQ.out; rw [HS] at h; rw [← h]; show _ = _; simp
          clear HS HQ hc
          go_wp2
          go_round
          case rel => exact ⟨k + 2, _, by omega, by omega, by go_num, rfl, by show _ = _; rw [cat_list, HP.out]; exact HA.out⟩
          case measure => simp [intOf]; omega
      · have HS := bl_last s k (by omega)
        have i4 : ¬ (k : Int) + 1 < (s.size : Int) - 1 := by omega
        cases hc : (s[k].toNat == 92)
        · have hn := byte_not hc
          rw [hc] at HS
          have HP : Hid (_ = _) := piece s k (by omega)
          have hx : (s.extract k (k + 1)).size = 1 := by simp; omega
          have HA : Hid ((q.data.toList ++ [s[k]]) ++ bl (s.data.toList.drop (k + 1)) = bl (s.data.toList.drop 1)) := by
            have h := HQ.out; rw [HS] at h; rw [← h]; show _ = _; simp
          clear HS HQ hc
          go_wp2
          go_round
          case rel => exact ⟨k + 1, _, by omega, by omega, by go_num, rfl, by show _ = _; rw [cat_list, HP.out]; exact HA.out⟩
          case measure => simp [intOf]; omega
        · have hn := byte_is hc
          rw [hc] at HS
          have HA : Hid (q.data.toList ++ bl (s.data.toList.drop (k + 2)) = bl (s.data.toList.drop 1)) := by
            have h := HQ.out; rw [HS] at h; rw [← h]; show _ = _
            rw [bl_end s (k + 2) (by omega)]; rfl
          clear HS HQ hc
          go_wp2
          go_round
          case rel => exact ⟨k + 2, _, by omega, by omega, by go_num, rfl, HA⟩
          case measure => simp [intOf]; omega
    · have i1 : ¬ (k : Int) < (s.size : Int) - 1 := by omega
      have HE : Hid (q.data.toList = bl (s.data.toList.drop 1)) := by
        have h := HQ.out
        rw [bl_end s k (by omega), List.append_nil] at h
        exact h
      clear HQ
      have hm : q.size ≤ maxLen := by unfold maxLen; omega
      have HV : Hid (q = ⟨(bl (s.data.toList.drop 1)).toArray⟩) := (ba_of HE.out.symm).symm
      cases hA : textOk q.data.toList
      · have h0 : (tfault q.data.toList == 0) = false := by simpa using tfault_not hA
        have HB : Hid (bareOk s.data.toList = false) := by
          show _ = _
          unfold bareOk; rw [← HE.out, hA]; rfl
        go_wp2_with fail
        refine (textFault_any q _ hm).mono ?_
        rintro e w' ⟨rfl, rfl⟩
        go_wp2_with fail
        go_ret2
        exact ⟨ret_pair HV.out HB.out.symm, rfl⟩
      · have ht := tfault_ok hA
        have h60 : q.size ≤ 60 := by rw [size_list]; exact (textOk_parts hA).1
        cases hE : (quoted q.data.toList == s.data.toList)
        · have HB : Hid (bareOk s.data.toList = false) := by
            show _ = _
            unfold bareOk; rw [← HE.out, hA, hE]; rfl
          have hE' : (quoted q.data.toList == s.toList) = false := by rw [ByteArray.toList_eq]; exact hE
          have HT : Hid (_ = _) := ht
          clear ht hE
          go_wp2_with fail
          refine (textFault_any q _ hm).mono ?_
          rintro e w' ⟨rfl, rfl⟩
          rw [HT.out]
          go_wp2_with fail
          refine (rQuoted_any q _ h60).mono ?_
          rintro e w' ⟨rfl, rfl⟩
          go_wp2_with fail
          go_ret2
          exact ⟨ret_pair HV.out HB.out.symm, rfl⟩
        · have HB : Hid (bareOk s.data.toList = true) := by
            show _ = _
            unfold bareOk; rw [← HE.out, hA, hE]; rfl
          have hE' : (quoted q.data.toList == s.toList) = true := by rw [ByteArray.toList_eq]; exact hE
          have HT : Hid (_ = _) := ht
          clear ht hE
          go_wp2_with fail
          refine (textFault_any q _ hm).mono ?_
          rintro e w' ⟨rfl, rfl⟩
          rw [HT.out]
          go_wp2_with fail
          refine (rQuoted_any q _ h60).mono ?_
          rintro e w' ⟨rfl, rfl⟩
          go_wp2_with fail
          go_ret2
          exact ⟨ret_pair HV.out HB.out.symm, rfl⟩
end Go.Proofs.YthjeeppnijehoaaDoor
