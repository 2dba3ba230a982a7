/- What the document's own UidFault and UidOf return, by walks of their own texts. -/
import Derived.Test.YthjeeppnijehoaaDoorUidWalk
import Derived.Test.YthjeeppnijehoaaDoorNameRef
import Derived.Test.YthjeeppnijehoaaDoorQuoteRef
namespace Go.Proofs.YthjeeppnijehoaaDoor
open Go.RowKit
set_option linter.unusedVariables false
set_option linter.unusedSimpArgs false

def ufault (t i : List UInt8) : Int := if nfault t = 0 then tfault i else nfault t
theorem ufault_ok {t i : List UInt8} (h : uidOk t i = true) : ufault t i = 0 := by
  obtain ⟨h1, h2⟩ := uidOk_parts h
  unfold ufault; rw [if_pos h1]; exact tfault_ok h2
theorem ufault_werr {t i : List UInt8} (h : uidOk t i = false) : ufault t i = werr t i := by
  unfold ufault werr
  by_cases h1 : nfault t = 0
  · rw [if_pos h1, if_pos h1]
    refine tfault_qerr ?_
    unfold uidOk at h; rw [h1] at h; simpa using h
  · rw [if_neg h1, if_neg h1]
theorem ufault_ne {t i : List UInt8} (h : uidOk t i = false) : ufault t i ≠ 0 := by rw [ufault_werr h]; exact werr_ne

set_option maxHeartbeats 1000000 in
theorem uidFault_any (t i : ByteArray) (w : World) (ht : t.size ≤ maxLen) (hi : i.size ≤ maxLen) :
    Calls Tryd.prog 15 #[.agg #[.string t, .string i]] w fun e w' => e = .returned (.int .i64 (ufault t.data.toList i.data.toList)) ∧ Below w.heap.size w w' := by
  by_cases h0 : nfault t.data.toList = 0
  · have h0' : (nfault t.data.toList == 0) = true := by simpa using h0
    have HF : Hid (ufault t.data.toList i.data.toList = tfault i.data.toList) := if_pos h0
    clear h0
    go_enter Tryd.func15, Tryd.ntmps15
    go_wp2_with fail
    refine (nameFault_any t _ ht).mono ?_
    rintro e w1 ⟨rfl, rfl⟩
    go_wp2_with fail
    refine (textFault_any i _ hi).mono ?_
    rintro e w1 ⟨rfl, rfl⟩
    go_wp2_with fail
    go_ret
    exact ⟨ret_num HF.out.symm, (Below.refl _ _).alloc (Nat.le_refl _) _⟩
  · have h0' : (nfault t.data.toList == 0) = false := by simpa using h0
    have HF : Hid (ufault t.data.toList i.data.toList = nfault t.data.toList) := if_neg h0
    clear h0
    go_enter Tryd.func15, Tryd.ntmps15
    go_wp2_with fail
    refine (nameFault_any t _ ht).mono ?_
    rintro e w1 ⟨rfl, rfl⟩
    go_wp2_with fail
    go_ret
    exact ⟨ret_num HF.out.symm, (Below.refl _ _).alloc (Nat.le_refl _) _⟩

theorem tail_list (s : ByteArray) (k : Nat) : (s.extract k s.size).data.toList = s.data.toList.drop k := by
  rw [Lib.extract_data]
  exact List.take_of_length_le (by simp)
theorem head_list (s : ByteArray) (k : Nat) : (s.extract 0 k).data.toList = s.data.toList.take k := by
  rw [Lib.extract_data]; simp
theorem no_step {s : ByteArray} {k : Nat} (hk : k < s.size) (h : ∀ c ∈ s.data.toList.take k, c ≠ 58) (hc : ¬ (s[k].toNat : Int) = 58) : ∀ c ∈ s.data.toList.take (k + 1), c ≠ 58 := by
  rw [take_snoc s k hk]
  intro c hm
  rcases List.mem_append.1 hm with h1 | h1
  · exact h c h1
  · obtain rfl := List.mem_singleton.1 h1
    intro e
    rw [e] at hc
    exact hc rfl
/-- The list at a place where both bytes are colons. -/
theorem split_at (s : ByteArray) (k : Nat) (h : k + 1 < s.size) (h1 : (s[k].toNat : Int) = 58) (h2 : (s[k + 1].toNat : Int) = 58) : s.data.toList = s.data.toList.take k ++ (58 :: 58 :: s.data.toList.drop (k + 2)) := by
  have e1 : s.data.toList.drop k = s[k] :: s.data.toList.drop (k + 1) := by
    rw [List.drop_eq_getElem_cons (by simp; omega)]; rfl
  have e2 : s.data.toList.drop (k + 1) = s[k + 1] :: s.data.toList.drop (k + 2) := by
    rw [List.drop_eq_getElem_cons (by simp; omega)]; rfl
  have a1 : s[k] = 58 := UInt8.toNat_inj.1 (by show s[k].toNat = 58; omega)
  have a2 : s[k + 1] = 58 := UInt8.toNat_inj.1 (by show s[k + 1].toNat = 58; omega)
  rw [a2] at e2
  rw [a1, e2] at e1
  rw [← e1, List.take_append_drop]

set_option maxHeartbeats 2000000 in
theorem uidOf_no (s : ByteArray) (w : World) (hs : s.size ≤ 140737488351232) (h : ∀ t i, uidOk t i = true → wrt t i ≠ s.data.toList) :
    Calls Tryd.prog 16 #[.string s] w fun e w' => e = .returned (.tuple #[.agg #[.string ⟨#[]⟩, .string ⟨#[]⟩], .bool false]) ∧ Below w.heap.size w w' := by
  have HN : Hid (∀ _ _, _) := h
  clear h
  go_enter Tryd.func16, Tryd.ntmps16
  go_wp2
  go_loop [4] (fun i => ∃ k : Nat, k ≤ s.size ∧ i = .int .i64 k ∧ Hid (∀ c ∈ s.data.toList.take k, c ≠ 58)) (fun i => s.size - (intOf i).toNat)
  case atStart => exact ⟨0, Nat.zero_le _, rfl, fun c hc => by simp at hc⟩
  case round =>
    obtain ⟨k, hk, rfl, HA⟩ := hrel
    by_cases hlt : k < s.size
    · have i1 : (k : Int) < (s.size : Int) := by omega
      by_cases hc : (s[k].toNat : Int) = 58
      · have hcb : ((s[k].toNat : Int) != 58) = false := by simpa using hc
        by_cases hl2 : k + 1 < s.size
        · have i2 : ¬ (s.size : Int) ≤ (k : Int) + 1 := by omega
          have i3 : (k : Int) + 1 < (s.size : Int) := by omega
          have i4 : (k : Int) + 2 ≤ (s.size : Int) := by omega
          by_cases hd : (s[k + 1].toNat : Int) = 58
          · have hdb : ((s[k + 1].toNat : Int) != 58) = false := by simpa using hd
            have HS := split_at s k hl2 hc hd
            have hr : (s.extract (k + 2) s.size).size ≤ 140737488351232 := by simp; omega
            have hh : (s.extract 0 k).size ≤ maxLen := by unfold maxLen; simp; omega
            have HT : Hid (_ = _) := tail_list s (k + 2)
            have HH : Hid (_ = _) := head_list s k
            clear hc hd
            cases hB : bareOk (s.data.toList.drop (k + 2))
            · have HB : Hid (_ = _) := hB
              clear hB HS
              go_wp2_with fail
              refine (bare_any (s.extract (k + 2) s.size) _ hr).mono ?_
              rintro e w1 ⟨rfl, rfl⟩
              rw [HT.out, HB.out]
              go_wp2_with fail
              refine bodyPost_ret (v := .tuple #[.agg #[.string ⟨#[]⟩, .string ⟨#[]⟩], .bool false]) (by simp [results, Tryd.results16, go_sem]) rfl ⟨rfl, (Below.refl _ _).alloc (Nat.le_refl _) _⟩
            · have hne : nfault (s.data.toList.take k) ≠ 0 := by
                intro h0
                unfold bareOk at hB
                rw [Bool.and_eq_true, beq_iff_eq] at hB
                refine HN.out (s.data.toList.take k) (bl ((s.data.toList.drop (k + 2)).drop 1)) ?_ ?_
                · unfold uidOk; rw [h0, hB.1]; rfl
                · unfold wrt; rw [hB.2]; exact HS.symm
              have hneb : (nfault (s.data.toList.take k) != 0) = true := by simpa using hne
              have HB : Hid (_ = _) := hB
              clear hB HS hne
              go_wp2_with fail
              refine (bare_any (s.extract (k + 2) s.size) _ hr).mono ?_
              rintro e w1 ⟨rfl, rfl⟩
              rw [HT.out, HB.out]
              go_wp2_with fail
              refine (nameFault_any (s.extract 0 k) _ hh).mono ?_
              rintro e w1 ⟨rfl, rfl⟩
              rw [HH.out]
              go_wp2_with fail
              refine bodyPost_ret (v := .tuple #[.agg #[.string ⟨#[]⟩, .string ⟨#[]⟩], .bool false]) (by simp [results, Tryd.results16, go_sem]) rfl ⟨rfl, (Below.refl _ _).alloc (Nat.le_refl _) _⟩
          · have hdb : ((s[k + 1].toNat : Int) != 58) = true := by simpa using hd
            clear hc hd
            go_wp2
            refine bodyPost_ret (v := .tuple #[.agg #[.string ⟨#[]⟩, .string ⟨#[]⟩], .bool false]) (by simp [results, Tryd.results16, go_sem]) rfl ⟨rfl, (Below.refl _ _).alloc (Nat.le_refl _) _⟩
        · have i2 : (s.size : Int) ≤ (k : Int) + 1 := by omega
          clear hc
          go_wp2
          refine bodyPost_ret (v := .tuple #[.agg #[.string ⟨#[]⟩, .string ⟨#[]⟩], .bool false]) (by simp [results, Tryd.results16, go_sem]) rfl ⟨rfl, (Below.refl _ _).alloc (Nat.le_refl _) _⟩
      · have hcb : ((s[k].toNat : Int) != 58) = true := by simpa using hc
        have HA2 : Hid (∀ _, _ → _) := no_step hlt HA.out hc
        clear hc
        go_wp2
        go_round
        case rel => exact ⟨k + 1, by omega, by go_num, HA2⟩
        case measure => simp [intOf]; omega
    · have i1 : ¬ (k : Int) < (s.size : Int) := by omega
      have i2 : (s.size : Int) ≤ (k : Int) + 1 := by omega
      go_wp2
      refine bodyPost_ret (v := .tuple #[.agg #[.string ⟨#[]⟩, .string ⟨#[]⟩], .bool false]) (by simp [results, Tryd.results16, go_sem]) rfl ⟨rfl, (Below.refl _ _).alloc (Nat.le_refl _) _⟩

theorem wrt_at (t i : List UInt8) (k : Nat) (hk : k < t.length) (h : k < (⟨(wrt t i).toArray⟩ : ByteArray).size) : (⟨(wrt t i).toArray⟩ : ByteArray)[k] = t[k] := by
  have hlt : k < (wrt t i).length := h
  show (wrt t i)[k]'hlt = t[k]
  refine Option.some.inj ?_
  rw [← List.getElem?_eq_getElem, ← List.getElem?_eq_getElem]
  unfold wrt
  exact List.getElem?_append_left hk
theorem wrt_at0 (t i : List UInt8) (h : t.length < (⟨(wrt t i).toArray⟩ : ByteArray).size) : (⟨(wrt t i).toArray⟩ : ByteArray)[t.length] = 58 := by
  have hlt : t.length < (wrt t i).length := h
  show (wrt t i)[t.length]'hlt = 58
  refine Option.some.inj ?_
  rw [← List.getElem?_eq_getElem]
  unfold wrt
  rw [List.getElem?_append_right (Nat.le_refl _), Nat.sub_self]; rfl
theorem wrt_at1 (t i : List UInt8) (h : t.length + 1 < (⟨(wrt t i).toArray⟩ : ByteArray).size) : (⟨(wrt t i).toArray⟩ : ByteArray)[t.length + 1] = 58 := by
  have hlt : t.length + 1 < (wrt t i).length := h
  show (wrt t i)[t.length + 1]'hlt = 58
  refine Option.some.inj ?_
  rw [← List.getElem?_eq_getElem]
  unfold wrt
  rw [List.getElem?_append_right (by omega), show t.length + 1 - t.length = 1 from by omega]; rfl
theorem wrt_len (t i : List UInt8) : (⟨(wrt t i).toArray⟩ : ByteArray).size = t.length + 2 + (quoted i).length := by
  show (wrt t i).length = _
  unfold wrt; simp; omega
theorem wrt_tail (t i : List UInt8) : (wrt t i).drop (t.length + 2) = quoted i := by
  unfold wrt
  rw [← List.drop_drop, List.drop_left]; rfl
theorem wrt_head (t i : List UInt8) : (wrt t i).take t.length = t := by unfold wrt; rw [List.take_left]

set_option maxHeartbeats 2000000 in
theorem uidOf_at (s : ByteArray) (t i : List UInt8) (w : World) (hsz : s.size ≤ 200) (hlen : t.length + 2 ≤ s.size) (hno : ∀ k (hk : k < t.length) (h : k < s.size), ¬ (s[k].toNat : Int) = 58)
    (h0 : ∀ h : t.length < s.size, (s[t.length].toNat : Int) = 58) (h1 : ∀ h : t.length + 1 < s.size, (s[t.length + 1].toNat : Int) = 58) (ht : nfault t = 0) (hi : textOk i = true)
    (htl : s.data.toList.drop (t.length + 2) = quoted i) (hhd : s.data.toList.take t.length = t) :
    Calls Tryd.prog 16 #[.string s] w fun e w' => e = .returned (.tuple #[.agg #[.string ⟨t.toArray⟩, .string ⟨i.toArray⟩], .bool true]) ∧ Below w.heap.size w w' := by
  have HL : Hid (t.length + 2 ≤ s.size) := hlen
  have HO : Hid (∀ _ _ _, _) := hno
  have H0 : Hid (∀ _, _) := h0
  have H1 : Hid (∀ _, _) := h1
  have HF : Hid (nfault t = 0) := ht
  have HT : Hid (_ = _) := htl
  have HH : Hid (_ = _) := hhd
  have hlen' := hlen
  clear hlen hno h0 h1 ht htl hhd
  go_enter Tryd.func16, Tryd.ntmps16
  go_wp2
  go_loop [4] (fun j => ∃ k : Nat, k ≤ t.length ∧ j = .int .i64 k) (fun j => s.size - (intOf j).toNat)
  case atStart => exact ⟨0, Nat.zero_le _, rfl⟩
  case round =>
    obtain ⟨k, hk, rfl⟩ := hrel
    by_cases hlt : k < t.length
    · have i0 : k < s.size := by omega
      have i1 : (k : Int) < (s.size : Int) := by omega
      have hcb : ((s[k].toNat : Int) != 58) = true := by simpa using HO.out k hlt i0
      go_wp2
      go_round
      case rel => exact ⟨k + 1, by omega, by go_num⟩
      case measure => simp [intOf]; omega
    · have ek : k = t.length := by omega
      have EK : Hid (k = t.length) := ek
      have j0 : k < s.size := by omega
      have j1 : k + 1 < s.size := by omega
      have i1 : (k : Int) < (s.size : Int) := by omega
      have i2 : ¬ (s.size : Int) ≤ (k : Int) + 1 := by omega
      have i3 : (k : Int) + 1 < (s.size : Int) := by omega
      have i4 : (k : Int) + 2 ≤ (s.size : Int) := by omega
      have i5 : (k : Int) ≤ (s.size : Int) := by omega
      have hc : (s[k].toNat : Int) = 58 := by
        have := H0.out (by omega); simp only [← ek] at this; exact this
      have hd : (s[k + 1].toNat : Int) = 58 := by
        have := H1.out (by omega); simp only [← ek] at this; exact this
      have hcb : ((s[k].toNat : Int) != 58) = false := by simpa using hc
      have hdb : ((s[k + 1].toNat : Int) != 58) = false := by simpa using hd
      have hr : (s.extract (k + 2) s.size).size ≤ 140737488351232 := by simp; omega
      have hh : (s.extract 0 k).size ≤ maxLen := by unfold maxLen; simp; omega
      have HT2 : Hid ((s.extract (k + 2) s.size).data.toList = quoted i) := by show _ = _; rw [tail_list, ek]; exact HT.out
      have HH2 : Hid ((s.extract 0 k).data.toList = t) := by show _ = _; rw [head_list, ek]; exact HH.out
      have HX : Hid (s.extract 0 k = ⟨t.toArray⟩) := ba_ext HH2.out
      clear hc hd ek H0 H1 HO hlen'
      go_wp2_with fail
      refine (bare_any (s.extract (k + 2) s.size) _ hr).mono ?_
      rintro e w1 ⟨rfl, rfl⟩
      rw [HT2.out, bareOk_quoted i hi, bl_quoted]
      go_wp2_with fail
      refine (nameFault_any (s.extract 0 k) _ hh).mono ?_
      rintro e w1 ⟨rfl, rfl⟩
      rw [HH2.out, HF.out]
      go_wp2_with fail
      refine bodyPost_ret (v := .tuple #[.agg #[.string (s.extract 0 k), .string ⟨i.toArray⟩], .bool true]) (by simp [results, Tryd.results16, go_sem]) rfl ⟨by rw [HX.out], ?_⟩
      repeat (first | exact Below.refl _ _ | refine Below.setCell ?_ (Nat.le_refl _) _ | refine Below.alloc ?_ (Nat.le_refl _) _)

theorem uidOf_yes (t i : List UInt8) (w : World) (h : uidOk t i = true) :
    Calls Tryd.prog 16 #[.string ⟨(wrt t i).toArray⟩] w fun e w' => e = .returned (.tuple #[.agg #[.string ⟨t.toArray⟩, .string ⟨i.toArray⟩], .bool true]) ∧ Below w.heap.size w w' := by
  obtain ⟨ht, hi⟩ := uidOk_parts h
  refine uidOf_at _ t i w (wrt_size h) (by rw [wrt_len]; omega) ?_ ?_ ?_ ht hi (wrt_tail t i) (wrt_head t i)
  · intro k hk h2
    rw [wrt_at t i k hk h2]
    intro e
    exact name_no ht t[k] (List.getElem_mem hk) (UInt8.toNat_inj.1 (by show t[k].toNat = 58; omega))
  · intro h2; rw [wrt_at0 t i h2]; rfl
  · intro h2; rw [wrt_at1 t i h2]; rfl
end Go.Proofs.YthjeeppnijehoaaDoor
