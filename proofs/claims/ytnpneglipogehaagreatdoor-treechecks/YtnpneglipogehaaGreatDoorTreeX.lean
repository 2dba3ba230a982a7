/- Package tree's pastExpr, pastParts, pastFields: what stands behind an expression, by walks of their own texts. -/
import Derived.Test.YtnpneglipogehaaGreatDoorTreeQ
namespace Go.Proofs.YtnpneglipogehaaGreatDoor
open Go.RowKit
set_option linter.unusedVariables false

/-- What is told: the place behind it, and that it is there; or that it is not. -/
def XE (n : Nat) : Option (List Nd) → Value
  | none => .tuple #[.int .i64 0, .bool false]
  | some r => .tuple #[.int .i64 ((n - r.length : Nat) : Int), .bool true]

/-- The contract of pastExpr for what is so short. -/
def XOk (f : Nat) : Prop := ∀ (v : List Nd) (p : Option Addr) (c at_ : Nat) (w : World), at_ ≤ v.length → v.length - at_ < f → NL w p v → v.length ≤ maxLen →
  Calls Tryz.prog 13 #[.slice p v.length c, .int .i64 at_] w fun e w' => e = .returned (XE v.length (pastE f (v.drop at_))) ∧ Below w.heap.size w w'

theorem partsE_none {pv : List Nd → Option (List Nd)} {n k : Nat} (h : k < n) {v : List Nd} (e : pv v = none) : partsE pv (n - k) v = none := by
  rw [show n - k = (n - (k + 1)) + 1 by omega]; simp only [partsE, e]
theorem partsE_some {pv : List Nd → Option (List Nd)} {n k : Nat} (h : k < n) {v rest : List Nd} (e : pv v = some rest) : partsE pv (n - k) v = partsE pv (n - (k + 1)) rest := by
  rw [show n - k = (n - (k + 1)) + 1 by omega]; simp only [partsE, e]
theorem tail_drop {v rest : List Nd} {k : Nat} (ht : IsTail rest (v.drop k)) : v.drop (v.length - rest.length) = rest := by
  obtain ⟨a, ha⟩ := ht
  have hl : v.length - k = a.length + rest.length := by have := congrArg List.length ha; simpa using this
  by_cases h : k ≤ v.length
  · rw [show v.length - rest.length = k + a.length by omega, ← List.drop_drop, ha, List.drop_left]
  · have h1 : rest.length = 0 := by omega
    have h2 := List.eq_nil_of_length_eq_zero h1
    subst h2
    simp

set_option maxHeartbeats 1000000 in
theorem pastParts_any (f : Nat) (ih : XOk f) (v : List Nd) (p : Option Addr) (c at0 : Nat) (cnt : Int) (w : World) (hat0 : at0 ≤ v.length) (hf : v.length - at0 < f) (hv : NL w p v) (hl : v.length ≤ maxLen) (hcn : cnt ≤ 9223372036854775807) :
    Calls Tryz.prog 22 #[.slice p v.length c, .int .i64 at0, .int .i64 cnt] w fun e w' => e = .returned (XE v.length (partsE (pastE f) cnt.toNat (v.drop at0))) ∧ Below w.heap.size w w' := by
  have HM : Hid (v.length ≤ maxLen) := hl
  unfold maxLen at hl
  generalize hR : partsE (pastE f) cnt.toNat (v.drop at0) = R
  have HR : Hid (_ = _) := hR
  clear hR
  have HI : Hid (XOk f) := ih
  clear ih
  go_enter Tryz.func22, Tryz.ntmps22
  go_wp2
  go_loopw [1, 11] (fun sa i wr => ∃ k at_ : Nat, k ≤ cnt.toNat ∧ i = .int .i64 k ∧ sa = .int .i64 at_ ∧ at0 ≤ at_ ∧ at_ ≤ v.length ∧ Hid (partsE (pastE f) (cnt.toNat - k) (v.drop at_) = R) ∧ Below w.heap.size w wr) (fun _ i _ => cnt.toNat - (intOf i).toNat)
  case atStart => exact ⟨0, at0, Nat.zero_le _, rfl, rfl, Nat.le_refl _, hat0, HR, Below.refl _ _⟩
  case round =>
    obtain ⟨k, at_, hk, rfl, rfl, h01, hat, HS, hb⟩ := hrel
    by_cases hlt : (k : Int) < cnt
    · have hkn : k < cnt.toNat := by omega
      have hc := HI.out v p c at_ wr hat (by omega) (hv.up hb) HM.out
      cases hp : pastE f (v.drop at_) with
      | none =>
        rw [hp] at hc
        have HN : Hid (none = R) := by rw [← HS.out, partsE_none hkn hp]; rfl
        clear hp HS HR
        unfold XE at hc
        simp only [] at hc
        go_wp2_with fail
        refine hc.mono ?_
        rintro e w1 ⟨rfl, hb1⟩
        go_wp2
        go_ret2
        exact ⟨by rw [← HN.out]; rfl, hb.trans (hb1.mono hb.size)⟩
      | some rest =>
        rw [hp] at hc
        obtain ⟨hsh, htl⟩ := pastE_shorter hp
        have hsh2 : rest.length < v.length - at_ := by simpa using hsh
        have HN : Hid (partsE (pastE f) (cnt.toNat - (k + 1)) (v.drop (v.length - rest.length)) = R) := by rw [tail_drop htl, ← HS.out, partsE_some hkn hp]; rfl
        clear hp HS HR hsh htl
        unfold XE at hc
        simp only [] at hc
        generalize hen : v.length - rest.length = en at *
        have hen1 : at_ < en := by omega
        have hen2 : en ≤ v.length := by omega
        clear hen hsh2
        go_wp2_with fail
        refine hc.mono ?_
        rintro e w1 ⟨rfl, hb1⟩
        go_wp2
        go_roundw
        case rel => exact ⟨k + 1, en, by omega, by go_num, rfl, by omega, hen2, HN, hb.trans (hb1.mono hb.size)⟩
        case measure => simp [intOf]; omega
    · have HN : Hid (some (v.drop at_) = R) := by
        have := HS.out
        rw [show cnt.toNat - k = 0 by omega] at this
        exact this
      have HE : Hid (v.length - (v.drop at_).length = at_) := by show _ = _; simp; omega
      clear HS HR
      go_wp2
      go_ret2
      exact ⟨by rw [← HN.out]; unfold XE; simp only []; rw [HE.out]; rfl, hb⟩

theorem recLoopE_nil {pv : List Nd → Option (List Nd)} {n k : Nat} (h : k < n) {last : ByteArray} : recLoop pv (n - k) last [] = none := by
  rw [show n - k = (n - (k + 1)) + 1 by omega]; rfl
theorem recLoopE_bad {pv : List Nd → Option (List Nd)} {n k : Nat} (h : k < n) {last : ByteArray} {x : Nd} {r : List Nd} (e : ¬ (x.op = 7 ∧ ndOk x = true ∧ cmpB last x.s < 0)) : recLoop pv (n - k) last (x :: r) = none := by
  rw [show n - k = (n - (k + 1)) + 1 by omega]; simp only [recLoop, if_neg e]
theorem recLoopE_go {pv : List Nd → Option (List Nd)} {n k : Nat} (h : k < n) {last : ByteArray} {x : Nd} {r : List Nd} (e : x.op = 7 ∧ ndOk x = true ∧ cmpB last x.s < 0) :
    recLoop pv (n - k) last (x :: r) = match pv r with | none => none | some rest => recLoop pv (n - (k + 1)) x.s rest := by
  rw [show n - k = (n - (k + 1)) + 1 by omega]; simp only [recLoop, if_pos e]; cases pv r <;> rfl
/-- How '<=' of two texts is told. -/
theorem leq_no {a b : ByteArray} (h : cmpB b a < 0) : Op.bytesLess a.toList b.toList = false ∧ (a.toList == b.toList) = false := by
  rw [bytesLess_cb, ByteArray.toList_eq, ByteArray.toList_eq]
  have h1 := cmpB_is.neg a b
  refine ⟨?_, ?_⟩
  · rw [decide_eq_false_iff_not]
    show ¬ cmpB a b < 0
    omega
  · rw [beq_eq_false_iff_ne]
    intro e
    rw [bytes_inj e, cmpB_is.self] at h
    omega
theorem leq_yes {a b : ByteArray} (h : ¬ cmpB b a < 0) : Op.bytesLess a.toList b.toList = true ∨ (Op.bytesLess a.toList b.toList = false ∧ (a.toList == b.toList) = true) := by
  rw [bytesLess_cb, ByteArray.toList_eq, ByteArray.toList_eq]
  have h1 := cmpB_is.neg a b
  by_cases h0 : cmpB a b < 0
  · exact .inl (decide_eq_true h0)
  · refine .inr ⟨decide_eq_false h0, ?_⟩
    rw [beq_iff_eq]
    have : a = b := (cmpB_is.zero a b).1 (by omega)
    rw [this]
theorem drop_cons' {v : List Nd} {k : Nat} (h : k < v.length) : v.drop k = v[k] :: v.drop (k + 1) := List.drop_eq_getElem_cons h

set_option maxRecDepth 100000 in
set_option maxHeartbeats 2000000 in
theorem pastFields_any (f : Nat) (ih : XOk f) (v : List Nd) (p : Option Addr) (c at0 : Nat) (cnt : Int) (w : World) (hat0 : at0 ≤ v.length) (hf : v.length - at0 < f) (hv : NL w p v) (hl : v.length ≤ maxLen) (hcn : cnt ≤ 9223372036854775807) :
    Calls Tryz.prog 21 #[.slice p v.length c, .int .i64 at0, .int .i64 cnt] w fun e w' => e = .returned (XE v.length (recLoop (pastE f) cnt.toNat ⟨#[]⟩ (v.drop at0))) ∧ Below w.heap.size w w' := by
  have HM : Hid (v.length ≤ maxLen) := hl
  unfold maxLen at hl
  generalize hR : recLoop (pastE f) cnt.toNat ⟨#[]⟩ (v.drop at0) = R
  have HR : Hid (_ = _) := hR
  clear hR
  have HI : Hid (XOk f) := ih
  clear ih
  go_enter Tryz.func21, Tryz.ntmps21
  go_wp2
  go_loopw [1, 8, 12] (fun sa sl i wr => ∃ (k at_ : Nat) (last : ByteArray), k ≤ cnt.toNat ∧ i = .int .i64 k ∧ sa = .int .i64 at_ ∧ sl = .string last ∧ at0 ≤ at_ ∧ at_ ≤ v.length ∧ Hid (recLoop (pastE f) (cnt.toNat - k) last (v.drop at_) = R) ∧ Below w.heap.size w wr) (fun _ _ i _ => cnt.toNat - (intOf i).toNat)
  case atStart => exact ⟨0, at0, ⟨#[]⟩, Nat.zero_le _, rfl, rfl, rfl, Nat.le_refl _, hat0, HR, Below.refl _ _⟩
  case round =>
    obtain ⟨k, at_, last, hk, rfl, rfl, rfl, h01, hat, HS, hb⟩ := hrel
    have hvr := hv.up hb
    by_cases hlt : (k : Int) < cnt
    · have hkn : k < cnt.toNat := by omega
      by_cases halt : at_ < v.length
      · have hdr := drop_cons' halt
        obtain ⟨b, off, rfl, hbw, x0, x1, x2, x3, xw⟩ := hvr.at halt
        rw [hdr] at HS
        clear hdr
        generalize v[at_] = x at *
        have i1 : (at_ : Int) < (v.length : Int) := by omega
        have HF := fun w => isField_any x w xw
        have i2 : ¬ v.length ≤ at_ := by omega
        cases hfd : (x.op == 7 && ndOk x)
        · rw [hfd] at HF
          have HN : Hid (none = R) := by
            rw [← HS.out, recLoopE_bad hkn (fun h => by simp [h.1, h.2.1] at hfd)]; rfl
          clear HS HR hfd
          go_wp2_with fail
          refine (HF _).mono ?_
          rintro e w1 ⟨rfl, hb1⟩
          go_wp2
          go_ret2
          exact ⟨by rw [← HN.out]; rfl, hb.trans (hb1.mono hb.size)⟩
        · rw [hfd] at HF
          have hfd2 : x.op = 7 ∧ ndOk x = true := by simpa using hfd
          by_cases hlt0 : ¬ cmpB last x.s < 0
          · have HN : Hid (none = R) := by
              rw [← HS.out, recLoopE_bad hkn (fun h => hlt0 h.2.2)]; rfl
            have hbl := leq_yes hlt0
            clear HS HR hfd hfd2 hlt0
            rcases hbl with hbl | ⟨hbl, hbl2⟩
            all_goals
              go_wp2_with fail
              refine (HF _).mono ?_
              rintro e w1 ⟨rfl, hb1⟩
              have z2 := (hb1.cell (p := ⟨b, off + at_ * 4 + 2, none⟩) hbw).trans x2
              clear x0 x1 x2 x3
              go_wp2
              go_ret2
              exact ⟨by rw [← HN.out]; rfl, hb.trans (hb1.mono hb.size)⟩
          · have hlt0 := Decidable.not_not.1 hlt0
            have HN := (recLoopE_go (pv := pastE f) (r := v.drop (at_ + 1)) hkn ⟨hfd2.1, hfd2.2, hlt0⟩).symm.trans HS.out
            obtain ⟨hbl, hbl2⟩ := leq_no hlt0
            have hcall := fun w1 (hb1 : Below wr.heap.size wr w1) => HI.out v (some ⟨b, off, none⟩) c (at_ + 1) w1 (by omega) (by omega) (hvr.up hb1) HM.out
            rw [show ((at_ + 1 : Nat) : Int) = (at_ : Int) + 1 by omega] at hcall
            clear HS HR hfd hfd2 hlt0
            cases hp : pastE f (v.drop (at_ + 1)) with
            | none =>
              rw [hp] at hcall HN
              have HN2 : Hid (none = R) := HN
              unfold XE at hcall
              simp only [] at hcall
              clear HN hp
              go_wp2_with fail
              refine (HF _).mono ?_
              rintro e w1 ⟨rfl, hb1⟩
              have z2 := (hb1.cell (p := ⟨b, off + at_ * 4 + 2, none⟩) hbw).trans x2
              have hc1 := hcall _ hb1
              clear x0 x1 x2 x3 hcall
              go_wp2_with fail
              refine hc1.mono ?_
              rintro e w2 ⟨rfl, hb2⟩
              have hb3 := hb1.trans (hb2.mono hb1.size)
              go_wp2
              go_ret2
              exact ⟨by rw [← HN2.out]; rfl, hb.trans (hb3.mono hb.size)⟩
            | some rest =>
              rw [hp] at hcall HN
              obtain ⟨hsh, htl⟩ := pastE_shorter hp
              have hsh2 : rest.length < v.length - (at_ + 1) := by simpa using hsh
              have HN2 : Hid (recLoop (pastE f) (cnt.toNat - (k + 1)) x.s (v.drop (v.length - rest.length)) = R) := by rw [tail_drop htl]; exact HN
              unfold XE at hcall
              simp only [] at hcall
              generalize hen : v.length - rest.length = en at *
              have hen1 : at_ < en := by omega
              have hen2 : en ≤ v.length := by omega
              clear HN hp hsh htl hen hsh2
              go_wp2_with fail
              refine (HF _).mono ?_
              rintro e w1 ⟨rfl, hb1⟩
              have z2 := (hb1.cell (p := ⟨b, off + at_ * 4 + 2, none⟩) hbw).trans x2
              have hc1 := hcall _ hb1
              clear x0 x1 x2 x3 hcall
              go_wp2_with fail
              refine hc1.mono ?_
              rintro e w2 ⟨rfl, hb2⟩
              have z3 := (hb2.cell (p := ⟨b, off + at_ * 4 + 2, none⟩) (Nat.lt_of_lt_of_le hbw hb1.size)).trans z2
              have hb3 := hb1.trans (hb2.mono hb1.size)
              clear z2
              go_wp2
              go_roundw
              case rel => exact ⟨k + 1, en, x.s, by omega, by go_num, rfl, rfl, by omega, hen2, HN2, hb.trans (hb3.mono hb.size)⟩
              case measure => simp [intOf]; omega
      · have i1 : ¬ (at_ : Int) < (v.length : Int) := by omega
        have i2 : (v.length : Int) ≤ (at_ : Int) := by omega
        have HN : Hid (none = R) := by
          have := HS.out
          rw [List.drop_of_length_le (by omega), recLoopE_nil hkn] at this
          exact this
        clear HS HR
        go_wp2
        go_ret2
        exact ⟨by rw [← HN.out]; rfl, hb⟩
    · have HN : Hid (some (v.drop at_) = R) := by
        have := HS.out
        rw [show cnt.toNat - k = 0 by omega] at this
        exact this
      have HE : Hid (v.length - (v.drop at_).length = at_) := by show _ = _; simp; omega
      clear HS HR
      go_wp2
      go_ret2
      exact ⟨by rw [← HN.out]; unfold XE; simp only []; rw [HE.out]; rfl, hb⟩

set_option maxRecDepth 100000 in
set_option maxHeartbeats 1000000 in
theorem pastExpr_step (f : Nat) (ih : XOk f) : XOk (f + 1) := by
  intro v p c at_ w hat hf hv hl
  have HM : Hid (v.length ≤ maxLen) := hl
  unfold maxLen at hl
  by_cases halt : at_ < v.length
  · have hdr := drop_cons' halt
    obtain ⟨b, off, rfl, hbw, x0, x1, x2, x3, xw⟩ := hv.at halt
    rw [hdr]
    clear hdr
    generalize v[at_] = x at *
    have i1 : (at_ : Int) < (v.length : Int) := by omega
    have HP := fun w => partsOf_any x w xw
    cases hm : exMay x
    · rw [hm] at HP
      have HN : Hid (pastE (f + 1) (x :: v.drop (at_ + 1)) = none) := pastE_bad (fun h => by rw [(exMay_iff x).2 h] at hm; cases hm)
      clear hm
      go_enter Tryz.func13, Tryz.ntmps13
      go_wp2_with fail
      refine (HP _).mono ?_
      rintro e w1 ⟨rfl, hb⟩
      go_wp2
      go_ret2
      exact ⟨by rw [HN.out]; rfl, hb⟩
    · rw [hm, exCnt_may hm] at HP
      obtain ⟨h7, hx⟩ := (exMay_iff x).1 hm
      by_cases h6 : x.op = 6
      · have e6 : (x.op == 6) = true := by simpa using h6
        have HN : Hid (pastE (f + 1) (x :: v.drop (at_ + 1)) = _) := pastE_rec h7 hx h6
        have hpn : prt x = x.n := by unfold prt; rw [if_pos (.inr h6)]
        have hc := fun w1 (hb1 : Below w.heap.size w w1) => pastFields_any f ih v (some ⟨b, off, none⟩) c (at_ + 1) (prt x) w1 (by omega) (by omega) (hv.up hb1) HM.out (by rw [hpn]; exact xw.2.2)
        rw [hpn, ← HN.out, show ((at_ + 1 : Nat) : Int) = (at_ : Int) + 1 by omega] at hc
        rw [hpn] at HP
        clear hm h7 hx h6 HN hpn
        generalize pastE (f + 1) (x :: v.drop (at_ + 1)) = R at *
        go_enter Tryz.func13, Tryz.ntmps13
        go_wp2_with fail
        refine (HP _).mono ?_
        rintro e w1 ⟨rfl, hb1⟩
        have z0 := (hb1.cell (p := ⟨b, off + at_ * 4, none⟩) hbw).trans x0
        have hc1 := hc _ hb1
        clear x0 x1 x2 x3 hc
        cases R with
        | none =>
          unfold XE at hc1
          simp only [] at hc1
          go_wp2_with fail
          refine hc1.mono ?_
          rintro e w2 ⟨rfl, hb2⟩
          go_wp2
          go_ret2
          exact ⟨rfl, hb1.trans (hb2.mono hb1.size)⟩
        | some r =>
          unfold XE at hc1
          simp only [] at hc1
          generalize hen : v.length - r.length = en at *
          have HEN : Hid (_ = _) := hen
          clear hen
          go_wp2_with fail
          refine hc1.mono ?_
          rintro e w2 ⟨rfl, hb2⟩
          go_wp2
          go_ret2
          exact ⟨by unfold XE; simp only []; rw [HEN.out]; rfl, hb1.trans (hb2.mono hb1.size)⟩
      · have e6 : (x.op == 6) = false := by simpa using h6
        have HN : Hid (pastE (f + 1) (x :: v.drop (at_ + 1)) = _) := pastE_parts h7 hx h6
        have hc := fun w1 (hb1 : Below w.heap.size w w1) => pastParts_any f ih v (some ⟨b, off, none⟩) c (at_ + 1) (prt x) w1 (by omega) (by omega) (hv.up hb1) HM.out (by have := xw.2.2; unfold prt; repeat' split <;> omega)
        rw [← HN.out, show ((at_ + 1 : Nat) : Int) = (at_ : Int) + 1 by omega] at hc
        clear hm h7 hx h6 HN
        generalize pastE (f + 1) (x :: v.drop (at_ + 1)) = R at *
        generalize prt x = cn at *
        go_enter Tryz.func13, Tryz.ntmps13
        go_wp2_with fail
        refine (HP _).mono ?_
        rintro e w1 ⟨rfl, hb1⟩
        have z0 := (hb1.cell (p := ⟨b, off + at_ * 4, none⟩) hbw).trans x0
        have hc1 := hc _ hb1
        clear x0 x1 x2 x3 hc
        cases R with
        | none =>
          unfold XE at hc1
          simp only [] at hc1
          go_wp2_with fail
          refine hc1.mono ?_
          rintro e w2 ⟨rfl, hb2⟩
          go_wp2
          go_ret2
          exact ⟨rfl, hb1.trans (hb2.mono hb1.size)⟩
        | some r =>
          unfold XE at hc1
          simp only [] at hc1
          generalize hen : v.length - r.length = en at *
          have HEN : Hid (_ = _) := hen
          clear hen
          go_wp2_with fail
          refine hc1.mono ?_
          rintro e w2 ⟨rfl, hb2⟩
          go_wp2
          go_ret2
          exact ⟨by unfold XE; simp only []; rw [HEN.out]; rfl, hb1.trans (hb2.mono hb1.size)⟩
  · have i1 : (v.length : Int) ≤ (at_ : Int) := by omega
    have HN : Hid (pastE (f + 1) (v.drop at_) = none) := by show _ = _; rw [List.drop_of_length_le (by omega)]; rfl
    go_enter Tryz.func13, Tryz.ntmps13
    go_wp2
    go_ret2
    exact ⟨by rw [HN.out]; rfl, Below.refl _ _⟩
theorem pastExpr_any : ∀ f, XOk f
  | 0 => fun v p c at_ w _ h => absurd h (by omega)
  | f + 1 => pastExpr_step f (pastExpr_any f)
end Go.Proofs.YtnpneglipogehaaGreatDoor
