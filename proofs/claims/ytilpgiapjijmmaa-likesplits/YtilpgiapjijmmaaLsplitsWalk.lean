/- The statement LikeSplits: its walk. -/
import Derived.Test.YtilpgiapjijmmaaLikeText
namespace Go.Proofs.Ytilpgiapjijmmaa
open Go.RowKit
set_option linter.unusedVariables false

theorem split_fact (w : World) : Calls Try.prog 7 #[.string ⟨#[97, 42, 99]⟩, .string ⟨#[97, 98, 98, 99]⟩] w fun e w' => e = .returned (.tuple #[.bool true, .nilIface]) ∧ Below w.heap.size w w' :=
  match_ok ⟨#[97, 42, 99]⟩ ⟨#[97, 98, 98, 99]⟩ w (by decide) (by decide)
/-- Does an end from i on, ahead of j, fit? -/
def inq (Q : List Pc) (l : List UInt8) (i j : Nat) : Bool := (List.range (j - i)).any fun d => pM Q (l.drop (i + d))
theorem inq_step (Q : List Pc) (l : List UInt8) (i j : Nat) (h : i ≤ j) : inq Q l i (j + 1) = (inq Q l i j || pM Q (l.drop j)) := by
  unfold inq
  rw [show j + 1 - i = (j - i) + 1 by omega, List.range_succ, List.any_append]
  simp [show i + (j - i) = j by omega]
theorem inq_start (Q : List Pc) (l : List UInt8) (i : Nat) : inq Q l i i = false := by unfold inq; simp
/-- .. behind a beginning of fewer than i bytes. -/
def ow (P Q : List Pc) (l : List UInt8) (i : Nat) : Bool := (List.range i).any fun a => pM P (l.take a) && inq Q l a (l.length + 1)
theorem ow_step (P Q : List Pc) (l : List UInt8) (i : Nat) : ow P Q l (i + 1) = (ow P Q l i || (pM P (l.take i) && inq Q l i (l.length + 1))) := by
  unfold ow
  rw [List.range_succ, List.any_append]; simp
theorem ow_all (P Q : List Pc) (l : List UInt8) : pM (P ++ (true, 0) :: Q) l = ow P Q l (l.length + 1) := by
  apply bool_iff
  rw [M_splits]
  unfold ow inq
  rw [List.any_eq_true]
  constructor
  · rintro ⟨i, j, h1, h2, h3, h4⟩
    refine ⟨i, by simp; omega, ?_⟩
    rw [h3, Bool.true_and, List.any_eq_true]
    exact ⟨j - i, by simp; omega, by rw [show i + (j - i) = j by omega]; exact h4⟩
  · rintro ⟨i, hi, h⟩
    rw [Bool.and_eq_true, List.any_eq_true] at h
    obtain ⟨h3, d, hd, h4⟩ := h
    simp at hi hd
    exact ⟨i, i + d, by omega, by omega, h3, h4⟩

set_option maxHeartbeats 4000000 in
theorem lsplits_walk (p q s : ByteArray) (w : World) (hp : p.size ≤ maxLen) (hq : q.size ≤ maxLen) (hs : s.size ≤ maxLen) :
    Calls Try.prog 5 #[.string p, .string q, .string s] w fun e w' => e = .returned (.bool true) ∧ Below w.heap.size w w' := by
  by_cases hp25 : p.size ≤ 25
  · have i1 : ¬ (25 : Int) < (p.size : Int) := by omega
    by_cases hq25 : q.size ≤ 25
    · have i2 : ¬ (25 : Int) < (q.size : Int) := by omega
      by_cases hlast : p.data.toList.getLast? = some 92
      · have h0 : 0 < p.size := by
          rcases Nat.eq_zero_or_pos p.size with h | h
          · have : p.data.toList = [] := List.eq_nil_of_length_eq_zero (by simpa using h)
            rw [this] at hlast; cases hlast
          · exact h
        have k0 : (0 : Int) < (p.size : Int) := by omega
        have k1 : (1 : Int) ≤ (p.size : Int) := by omega
        rw [last_byte p h0] at hlast
        have e92 : p[p.size - 1] = 92 := by simpa using hlast
        have b92 : ((p[p.size - 1].toNat : Int) == 92) = true := by rw [e92]; rfl
        clear hlast e92
        go_enter Try.func5, Try.ntmps5
        go_wp2_with fail
        refine (split_fact _).mono ?_
        rintro e w1 ⟨rfl, hb1⟩
        go_wp2_with fail
        go_ret
        exact ⟨rfl, hb1⟩
      · have HPC : Hid (pcs (p ++ ⟨#[42]⟩ ++ q).data.toList = pcs p.data.toList ++ (true, 0) :: pcs q.data.toList) := by
          show _ = _
          rw [glue, glue]
          exact pcs_splits _ _ hlast
        have hcase : (p.size = 0) ∨ (0 < p.size ∧ ∃ h : p.size - 1 < p.size, ((p[p.size - 1].toNat : Int) == 92) = false) := by
          rcases Nat.eq_zero_or_pos p.size with h | h
          · exact .inl h
          · refine .inr ⟨h, by omega, ?_⟩
            rw [last_byte p h] at hlast
            cases hb : ((p[p.size - 1].toNat : Int) == 92)
            · rfl
            · exfalso
              apply hlast
              have : p[p.size - 1].toNat = 92 := by have := beq_iff_eq.1 hb; omega
              rw [show p[p.size - 1] = 92 from byte_same this]
        clear hlast
        have hsz3 : (p ++ ⟨#[42]⟩ ++ q).size ≤ 60 := by
          have : (⟨#[42]⟩ : ByteArray).size = 1 := rfl
          simp only [ByteArray.size_append]
          omega
        by_cases hm : mfault (p ++ ⟨#[42]⟩ ++ q).data.toList s.data.toList = 0
        · obtain ⟨m1, m2⟩ := mfault_ok hm
          have tt : textOk p.data.toList = true ∧ textOk q.data.toList = true := by
            have := m1
            rw [glue] at this
            obtain ⟨a, b⟩ := text_parts this
            rw [glue] at a
            exact ⟨(text_parts a).1, b⟩
          have HM1 : Hid (textOk _ = true) := m1
          have HM2 : Hid (textOk _ = true) := m2
          have HTP : Hid (textOk p.data.toList = true) := tt.1
          have HTQ : Hid (textOk q.data.toList = true) := tt.2
          have hs6 := text_size m2
          clear m1 m2 tt hm
          have HL : Hid (s.data.toList.length = s.size) := by show _ = _; simp
          have HRES : Hid (pM (pcs (p ++ ⟨#[42]⟩ ++ q).data.toList) s.data.toList = ow (pcs p.data.toList) (pcs q.data.toList) s.data.toList (s.size + 1)) := by
            show _ = _
            rw [HPC.out, ow_all, HL.out]
          clear HPC
          go_enter Try.func5, Try.ntmps5
          go_wp2_with fail
          refine (split_fact _).mono ?_
          rintro e w1 ⟨rfl, hb1⟩
          have HB1 : Hid (Below w.heap.size w w1) := hb1
          clear hb1
          have HCS : Hid ((p.size = 0) ∨ (0 < p.size ∧ ∃ h : p.size - 1 < p.size, ((p[p.size - 1].toNat : Int) == 92) = false)) := hcase
          clear hcase
          rcases HCS.out with h0 | ⟨h0, hlt, b92⟩
          · have k0 : ¬ (0 : Int) < (p.size : Int) := by omega
            have k1 : True := trivial
            go_wp2_with fail
            refine (match_ok _ s _ HM1.out HM2.out).mono ?_
            rintro e w2 ⟨rfl, hb2⟩
            have HB2 : Hid (Below w.heap.size w w2) := belt HB1.out hb2
            rw [HRES.out]
            clear HRES hb2
            generalize gT : ow (pcs p.data.toList) (pcs q.data.toList) s.data.toList (s.size + 1) = T
            have GT : Hid (_ = _) := gT
            clear gT
            go_wp2_with fail
            go_loopw [11, 12] (fun wv iv wr => ∃ i : Nat, i ≤ s.size + 1 ∧ iv = .int .i64 i ∧ wv = .bool (ow (pcs p.data.toList) (pcs q.data.toList) s.data.toList i) ∧ Hid (Below w.heap.size w wr)) (fun _ iv _ => s.size + 1 - (intOf iv).toNat)
            case atStart => exact ⟨0, Nat.zero_le _, rfl, rfl, HB2⟩
            case round =>
              obtain ⟨i, hi, rfl, rfl, HB⟩ := hrel
              by_cases hle : i ≤ s.size
              · have a1 : (i : Int) ≤ (s.size : Int) := by omega
                have HX : Hid (textOk (s.extract 0 i).data.toList = true) := by show _ = _; rw [head_of]; exact text_take HM2.out i
                have HPX : Hid (pM (pcs p.data.toList) (s.extract 0 i).data.toList = pM (pcs p.data.toList) (s.data.toList.take i)) := by show _ = _; rw [head_of]
                have HST : Hid (ow (pcs p.data.toList) (pcs q.data.toList) s.data.toList (i + 1) = (ow (pcs p.data.toList) (pcs q.data.toList) s.data.toList i || (pM (pcs p.data.toList) (s.data.toList.take i) && inq (pcs q.data.toList) s.data.toList i (s.size + 1)))) := by show _ = _; rw [ow_step, HL.out]
                generalize ow (pcs p.data.toList) (pcs q.data.toList) s.data.toList i = W0 at HST
                go_wp2_with fail
                refine (match_ok p (s.extract 0 i) _ HTP.out HX.out).mono ?_
                rintro e w3 ⟨rfl, hb3⟩
                rw [HPX.out]
                have HB3 : Hid (Below w.heap.size w w3) := belt HB.out hb3
                clear hb3 HPX HX
                generalize pM (pcs p.data.toList) (s.data.toList.take i) = X at HST
                cases X
                · have HST2 : Hid (ow (pcs p.data.toList) (pcs q.data.toList) s.data.toList (i + 1) = W0) := by show _ = _; rw [HST.out]; simp
                  clear HST
                  go_wp2_with fail
                  go_loopw [11, 15] (fun wv jv wr => wv = .bool W0 ∧ jv = .int .i64 i ∧ Hid (Below w.heap.size w wr)) (fun _ _ _ => 0)
                  case atStart => exact ⟨rfl, rfl, HB3⟩
                  case round =>
                    obtain ⟨rfl, rfl, HB4⟩ := hrel
                    go_wp2_with fail
                    go_roundw
                    case rel => exact ⟨i + 1, by omega, by go_num, by rw [HST2.out], HB4⟩
                    case measure => simp [intOf]; omega
                · have HST2 : Hid (ow (pcs p.data.toList) (pcs q.data.toList) s.data.toList (i + 1) = (W0 || inq (pcs q.data.toList) s.data.toList i (s.size + 1))) := by show _ = _; rw [HST.out]; simp
                  clear HST
                  go_wp2_with fail
                  go_loopw [11, 15] (fun wv jv wr => ∃ j : Nat, i ≤ j ∧ j ≤ s.size + 1 ∧ jv = .int .i64 j ∧ wv = .bool (W0 || inq (pcs q.data.toList) s.data.toList i j) ∧ Hid (Below w.heap.size w wr)) (fun _ jv _ => s.size + 1 - (intOf jv).toNat)
                  case atStart => exact ⟨i, Nat.le_refl _, hi, rfl, by rw [inq_start, Bool.or_false], HB3⟩
                  case round =>
                    obtain ⟨j, hij, hj, rfl, rfl, HB4⟩ := hrel
                    by_cases hle2 : j ≤ s.size
                    · have a2 : (j : Int) ≤ (s.size : Int) := by omega
                      have HX : Hid (textOk (s.extract j s.size).data.toList = true) := by show _ = _; rw [tail_of]; exact text_drop HM2.out j
                      have HPX : Hid (pM (pcs q.data.toList) (s.extract j s.size).data.toList = pM (pcs q.data.toList) (s.data.toList.drop j)) := by show _ = _; rw [tail_of]
                      have HJ : Hid ((W0 || inq (pcs q.data.toList) s.data.toList i (j + 1)) = ((W0 || inq (pcs q.data.toList) s.data.toList i j) || pM (pcs q.data.toList) (s.data.toList.drop j))) := by show _ = _; rw [inq_step _ _ _ _ hij, Bool.or_assoc]
                      generalize (W0 || inq (pcs q.data.toList) s.data.toList i j) = W1 at HJ
                      go_wp2_with fail
                      refine (match_ok q (s.extract j s.size) _ HTQ.out HX.out).mono ?_
                      rintro e w5 ⟨rfl, hb5⟩
                      rw [HPX.out]
                      have HB5 : Hid (Below w.heap.size w w5) := belt HB4.out hb5
                      clear hb5 HPX HX
                      generalize pM (pcs q.data.toList) (s.data.toList.drop j) = Y at HJ
                      cases Y
                      · go_wp2_with fail
                        go_roundw
                        case rel => exact ⟨j + 1, by omega, by omega, by go_num, by rw [HJ.out, Bool.or_false], HB5⟩
                        case measure => simp [intOf]; omega
                      · go_wp2_with fail
                        go_roundw
                        case rel => exact ⟨j + 1, by omega, by omega, by go_num, by rw [HJ.out, Bool.or_true], HB5⟩
                        case measure => simp [intOf]; omega
                    · obtain rfl : j = s.size + 1 := by omega
                      have a2 : ¬ (s.size : Int) + 1 ≤ (s.size : Int) := by omega
                      rw [← HST2.out]
                      generalize gV : ow (pcs p.data.toList) (pcs q.data.toList) s.data.toList (i + 1) = V
                      have GV : Hid (_ = _) := gV
                      clear gV
                      go_wp2_with fail
                      go_roundw
                      case rel => exact ⟨i + 1, by omega, by go_num, by rw [GV.out], HB4⟩
                      case measure => simp [intOf]; omega
              · obtain rfl : i = s.size + 1 := by omega
                have a1 : ¬ (s.size : Int) + 1 ≤ (s.size : Int) := by omega
                rw [GT.out]
                go_wp2_with fail
                go_ret
                exact ⟨ret_bool (by simp), HB.out⟩
          · have k0 : (0 : Int) < (p.size : Int) := by omega
            have k1 : (1 : Int) ≤ (p.size : Int) := by omega
            go_wp2_with fail
            refine (match_ok _ s _ HM1.out HM2.out).mono ?_
            rintro e w2 ⟨rfl, hb2⟩
            have HB2 : Hid (Below w.heap.size w w2) := belt HB1.out hb2
            rw [HRES.out]
            clear HRES hb2
            generalize gT : ow (pcs p.data.toList) (pcs q.data.toList) s.data.toList (s.size + 1) = T
            have GT : Hid (_ = _) := gT
            clear gT
            go_wp2_with fail
            go_loopw [11, 12] (fun wv iv wr => ∃ i : Nat, i ≤ s.size + 1 ∧ iv = .int .i64 i ∧ wv = .bool (ow (pcs p.data.toList) (pcs q.data.toList) s.data.toList i) ∧ Hid (Below w.heap.size w wr)) (fun _ iv _ => s.size + 1 - (intOf iv).toNat)
            case atStart => exact ⟨0, Nat.zero_le _, rfl, rfl, HB2⟩
            case round =>
              obtain ⟨i, hi, rfl, rfl, HB⟩ := hrel
              by_cases hle : i ≤ s.size
              · have a1 : (i : Int) ≤ (s.size : Int) := by omega
                have HX : Hid (textOk (s.extract 0 i).data.toList = true) := by show _ = _; rw [head_of]; exact text_take HM2.out i
                have HPX : Hid (pM (pcs p.data.toList) (s.extract 0 i).data.toList = pM (pcs p.data.toList) (s.data.toList.take i)) := by show _ = _; rw [head_of]
                have HST : Hid (ow (pcs p.data.toList) (pcs q.data.toList) s.data.toList (i + 1) = (ow (pcs p.data.toList) (pcs q.data.toList) s.data.toList i || (pM (pcs p.data.toList) (s.data.toList.take i) && inq (pcs q.data.toList) s.data.toList i (s.size + 1)))) := by show _ = _; rw [ow_step, HL.out]
                generalize ow (pcs p.data.toList) (pcs q.data.toList) s.data.toList i = W0 at HST
                go_wp2_with fail
                refine (match_ok p (s.extract 0 i) _ HTP.out HX.out).mono ?_
                rintro e w3 ⟨rfl, hb3⟩
                rw [HPX.out]
                have HB3 : Hid (Below w.heap.size w w3) := belt HB.out hb3
                clear hb3 HPX HX
                generalize pM (pcs p.data.toList) (s.data.toList.take i) = X at HST
                cases X
                · have HST2 : Hid (ow (pcs p.data.toList) (pcs q.data.toList) s.data.toList (i + 1) = W0) := by show _ = _; rw [HST.out]; simp
                  clear HST
                  go_wp2_with fail
                  go_loopw [11, 15] (fun wv jv wr => wv = .bool W0 ∧ jv = .int .i64 i ∧ Hid (Below w.heap.size w wr)) (fun _ _ _ => 0)
                  case atStart => exact ⟨rfl, rfl, HB3⟩
                  case round =>
                    obtain ⟨rfl, rfl, HB4⟩ := hrel
                    go_wp2_with fail
                    go_roundw
                    case rel => exact ⟨i + 1, by omega, by go_num, by rw [HST2.out], HB4⟩
                    case measure => simp [intOf]; omega
                · have HST2 : Hid (ow (pcs p.data.toList) (pcs q.data.toList) s.data.toList (i + 1) = (W0 || inq (pcs q.data.toList) s.data.toList i (s.size + 1))) := by show _ = _; rw [HST.out]; simp
                  clear HST
                  go_wp2_with fail
                  go_loopw [11, 15] (fun wv jv wr => ∃ j : Nat, i ≤ j ∧ j ≤ s.size + 1 ∧ jv = .int .i64 j ∧ wv = .bool (W0 || inq (pcs q.data.toList) s.data.toList i j) ∧ Hid (Below w.heap.size w wr)) (fun _ jv _ => s.size + 1 - (intOf jv).toNat)
                  case atStart => exact ⟨i, Nat.le_refl _, hi, rfl, by rw [inq_start, Bool.or_false], HB3⟩
                  case round =>
                    obtain ⟨j, hij, hj, rfl, rfl, HB4⟩ := hrel
                    by_cases hle2 : j ≤ s.size
                    · have a2 : (j : Int) ≤ (s.size : Int) := by omega
                      have HX : Hid (textOk (s.extract j s.size).data.toList = true) := by show _ = _; rw [tail_of]; exact text_drop HM2.out j
                      have HPX : Hid (pM (pcs q.data.toList) (s.extract j s.size).data.toList = pM (pcs q.data.toList) (s.data.toList.drop j)) := by show _ = _; rw [tail_of]
                      have HJ : Hid ((W0 || inq (pcs q.data.toList) s.data.toList i (j + 1)) = ((W0 || inq (pcs q.data.toList) s.data.toList i j) || pM (pcs q.data.toList) (s.data.toList.drop j))) := by show _ = _; rw [inq_step _ _ _ _ hij, Bool.or_assoc]
                      generalize (W0 || inq (pcs q.data.toList) s.data.toList i j) = W1 at HJ
                      go_wp2_with fail
                      refine (match_ok q (s.extract j s.size) _ HTQ.out HX.out).mono ?_
                      rintro e w5 ⟨rfl, hb5⟩
                      rw [HPX.out]
                      have HB5 : Hid (Below w.heap.size w w5) := belt HB4.out hb5
                      clear hb5 HPX HX
                      generalize pM (pcs q.data.toList) (s.data.toList.drop j) = Y at HJ
                      cases Y
                      · go_wp2_with fail
                        go_roundw
                        case rel => exact ⟨j + 1, by omega, by omega, by go_num, by rw [HJ.out, Bool.or_false], HB5⟩
                        case measure => simp [intOf]; omega
                      · go_wp2_with fail
                        go_roundw
                        case rel => exact ⟨j + 1, by omega, by omega, by go_num, by rw [HJ.out, Bool.or_true], HB5⟩
                        case measure => simp [intOf]; omega
                    · obtain rfl : j = s.size + 1 := by omega
                      have a2 : ¬ (s.size : Int) + 1 ≤ (s.size : Int) := by omega
                      rw [← HST2.out]
                      generalize gV : ow (pcs p.data.toList) (pcs q.data.toList) s.data.toList (i + 1) = V
                      have GV : Hid (_ = _) := gV
                      clear gV
                      go_wp2_with fail
                      go_roundw
                      case rel => exact ⟨i + 1, by omega, by go_num, by rw [GV.out], HB4⟩
                      case measure => simp [intOf]; omega
              · obtain rfl : i = s.size + 1 := by omega
                have a1 : ¬ (s.size : Int) + 1 ≤ (s.size : Int) := by omega
                rw [GT.out]
                go_wp2_with fail
                go_ret
                exact ⟨ret_bool (by simp), HB.out⟩
        · have HM : Hid (mfault _ _ ≠ 0) := hm
          clear hm
          rcases hcase with h0 | ⟨h0, hlt, b92⟩
          · have k0 : ¬ (0 : Int) < (p.size : Int) := by omega
            go_enter Try.func5, Try.ntmps5
            go_wp2_with fail
            refine (split_fact _).mono ?_
            rintro e w1 ⟨rfl, hb1⟩
            go_wp2_with fail
            refine (match_bad _ s _ (by unfold maxLen; omega) hs HM.out).mono ?_
            rintro e w2 ⟨rfl, hb2'⟩
            have hb2 := belt hb1 hb2'
            go_wp2_with fail
            go_ret
            exact ⟨rfl, hb2⟩
          · have k0 : (0 : Int) < (p.size : Int) := by omega
            have k1 : (1 : Int) ≤ (p.size : Int) := by omega
            go_enter Try.func5, Try.ntmps5
            go_wp2_with fail
            refine (split_fact _).mono ?_
            rintro e w1 ⟨rfl, hb1⟩
            go_wp2_with fail
            refine (match_bad _ s _ (by unfold maxLen; omega) hs HM.out).mono ?_
            rintro e w2 ⟨rfl, hb2'⟩
            have hb2 := belt hb1 hb2'
            go_wp2_with fail
            go_ret
            exact ⟨rfl, hb2⟩
    · have i2 : (25 : Int) < (q.size : Int) := by omega
      go_enter Try.func5, Try.ntmps5
      go_wp2_with fail
      refine (split_fact _).mono ?_
      rintro e w1 ⟨rfl, hb1⟩
      go_wp2_with fail
      go_ret
      exact ⟨rfl, hb1⟩
  · have i1 : (25 : Int) < (p.size : Int) := by omega
    go_enter Try.func5, Try.ntmps5
    go_wp2_with fail
    refine (split_fact _).mono ?_
    rintro e w1 ⟨rfl, hb1⟩
    go_wp2_with fail
    go_ret
    exact ⟨rfl, hb1⟩
end Go.Proofs.Ytilpgiapjijmmaa
