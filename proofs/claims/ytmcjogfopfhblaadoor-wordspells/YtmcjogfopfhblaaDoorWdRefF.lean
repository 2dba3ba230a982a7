/- The document's Spelling (package wicketgateref2), by a walk of its own text. -/
import Derived.Test.YtmcjogfopfhblaaDoorWdRefE
import Derived.Test.YtmcjogfopfhblaaDoorWordE
namespace Go.Proofs.YtmcjogfopfhblaaDoor
open Go.RowKit
set_option linter.unusedVariables false

/-- What Spelling tells, as a value. -/
def spellR : Except Int (List UInt8) → Value
  | .ok l => .tuple #[.string ⟨l.toArray⟩, .int .i64 0]
  | .error n => .tuple #[.string ⟨#[]⟩, .int .i64 n]

set_option maxHeartbeats 2000000 in
theorem spelling_any (ts : List Tk) (q : Option Addr) (c : Nat) (w : World) (hv : TKL w q ts) (hc : ts.length ≤ maxLen) (hs : ∀ t ∈ ts, t.s.size ≤ 140737488351232) :
    Calls Tryd.prog 12 #[.slice q ts.length c] w fun e w' => e = .returned (spellR (spellL ts)) ∧ Below w.heap.size w w' := by
  unfold maxLen at hc
  by_cases h300 : 300 < ts.length
  · have HV : Hid (spellL ts = .error 4) := if_pos h300
    have i1 : (300 : Int) < (ts.length : Int) := by omega
    go_enter Tryd.func12, Tryd.ntmps12
    go_wp2
    go_ret2
    exact ⟨by rw [HV.out]; rfl, Below.refl _ _⟩
  · have i1 : ¬ (300 : Int) < (ts.length : Int) := by omega
    have HS : Hid (∀ t ∈ ts, t.s.size ≤ 140737488351232) := hs
    have HV0 : Hid (¬ 300 < ts.length) := h300
    clear hs
    go_enter Tryd.func12, Tryd.ntmps12
    go_wp2
    go_loopw [4, 5] (fun v i wr => ∃ (k : Nat) (O : ByteArray), k ≤ ts.length ∧ i = .int .i64 k ∧ v = .string O ∧ Hid (O.data.toList = lineW (ts.take k)) ∧ Hid ((ts.take k).all spB = true) ∧ Below w.heap.size w wr) (fun _ i _ => ts.length - (intOf i).toNat)
    case atStart => exact ⟨0, ⟨#[]⟩, Nat.zero_le _, rfl, rfl, rfl, rfl, Below.refl _ _⟩
    case round =>
      obtain ⟨k, O, hk, rfl, rfl, HO, HA, hb⟩ := hrel
      have hlen := lineW_len _ HA.out
      rw [List.length_take, Nat.min_eq_left hk, ← HO.out, ← size_l] at hlen
      by_cases hlt : k < ts.length
      · have i2 : (k : Int) < (ts.length : Int) := by omega
        obtain ⟨b, off, rfl, hbw, c0, c1, c2⟩ := (hv.up hb).at hlt
        have HT : Hid (ts.take (k + 1) = ts.take k ++ [ts[k]]) := List.take_succ_eq_append_getElem hlt
        have hts := HS.out _ (List.getElem_mem hlt)
        have HM : Hid (spB ts[k] = true → (ts.take (k + 1)).all spB = true) := all_more hlt HA.out
        have HNo : Hid (¬ spB ts[k] = true → ¬ ts.all spB = true) := all_not hlt
        generalize ts[k] = t at *
        have H1 := spelt_any t wr hts
        by_cases hsp : spB t = true
        · have HM2 : Hid _ := HM.out hsp
          have hwl := spB_len hsp
          have H2 : Calls Tryd.prog 18 #[.agg #[.int .i64 t.kind, .string t.s, .int .i64 t.at_]] wr fun e w' => e = .returned (.tuple #[.string ⟨(wtn t).toArray⟩, .bool true]) ∧ Below wr.heap.size wr w' :=
            H1.mono fun e w' ⟨⟨u, h1, h2⟩, h3⟩ => ⟨by rw [h1, h2 hsp, hsp], h3⟩
          have hws : (⟨(wtn t).toArray⟩ : ByteArray).size = (wtn t).length := rfl
          have Hwd : Hid ((⟨(wtn t).toArray⟩ : ByteArray).data.toList = wtn t) := rfl
          generalize hW : (⟨(wtn t).toArray⟩ : ByteArray) = W at *
          have hW9 : W.size ≤ 900 := by omega
          clear hsp HM HNo hW H1 hws
          by_cases h0 : k = 0
          · have i3 : ¬ (0 : Int) < (k : Int) := by omega
            have HL : Hid ((O ++ W).data.toList = lineW (ts.take (k + 1))) := by
              show _ = _
              rw [cat_l, HO.out, HT.out, h0, List.take_zero, List.nil_append, lineW_one, Hwd.out]; rfl
            clear h0
            go_wp2_with (go_at_call 18; refine H2.mono ?_; rintro e w2 ⟨rfl, hb2⟩)
            go_roundw
            case rel => exact ⟨k + 1, _, by omega, by go_num, rfl, HL, HM2, hb.trans (hb2.mono hb.size)⟩
            case measure => simp [intOf]; omega
          · have i3 : (0 : Int) < (k : Int) := by omega
            have HL : Hid ((O ++ ⟨#[32]⟩ ++ W).data.toList = lineW (ts.take (k + 1))) := by
              show _ = _
              have hne : ts.take k ≠ [] := by
                intro h
                have := congrArg List.length h
                rw [List.length_take, Nat.min_eq_left hk] at this
                simp at this; omega
              rw [cat_l, cat_l, HO.out, HT.out, lineW_snoc hne, Hwd.out]
            clear h0
            go_wp2_with (go_at_call 18; refine H2.mono ?_; rintro e w2 ⟨rfl, hb2⟩)
            go_roundw
            case rel => exact ⟨k + 1, _, by omega, by go_num, rfl, HL, HM2, hb.trans (hb2.mono hb.size)⟩
            case measure => simp [intOf]; omega
        · have HV : Hid (spellL ts = .error 1) := by
            show _ = _
            unfold spellL
            rw [if_neg HV0.out, if_neg (HNo.out hsp)]
          have hsf : spB t = false := by simpa using hsp
          have H2 : Calls Tryd.prog 18 #[.agg #[.int .i64 t.kind, .string t.s, .int .i64 t.at_]] wr fun e w' => (∃ u, e = .returned (.tuple #[.string u, .bool false])) ∧ Below wr.heap.size wr w' :=
            H1.mono fun e w' ⟨⟨u, h1, h2⟩, h3⟩ => ⟨⟨u, by rw [h1, hsf]⟩, h3⟩
          clear hsp HM HNo H1 hsf
          go_wp2_with (go_at_call 18; refine H2.mono ?_; rintro e w2 ⟨⟨u, rfl⟩, hb2⟩)
          go_ret2
          exact ⟨by rw [HV.out]; rfl, hb.trans (hb2.mono hb.size)⟩
      · obtain rfl : k = ts.length := by omega
        have i2 : ¬ (ts.length : Int) < (ts.length : Int) := by omega
        have HO2 : Hid (O.data.toList = lineW ts) := by have := HO.out; rw [List.take_of_length_le (Nat.le_refl _)] at this; exact this
        have HA2 : Hid (ts.all spB = true) := by have := HA.out; rw [List.take_of_length_le (Nat.le_refl _)] at this; exact this
        by_cases h9 : 900 < O.size
        · have HV : Hid (spellL ts = .error 4) := by
            show _ = _
            unfold spellL
            rw [if_neg HV0.out, if_pos HA2.out, if_pos (by rw [← HO2.out, ← size_l]; exact h9)]
          have i3 : (900 : Int) < (O.size : Int) := by omega
          go_wp2
          go_ret2
          exact ⟨by rw [HV.out]; rfl, hb⟩
        · have HV : Hid (spellL ts = .ok (lineW ts)) := by
            show _ = _
            unfold spellL
            rw [if_neg HV0.out, if_pos HA2.out, if_neg (by rw [← HO2.out, ← size_l]; exact h9)]
          have i3 : ¬ (900 : Int) < (O.size : Int) := by omega
          have HOE : Hid (O = ⟨(lineW ts).toArray⟩) := of_list HO2.out
          go_wp2
          go_ret2
          exact ⟨by rw [HV.out]; unfold spellR; simp only []; rw [← HOE.out]; rfl, hb⟩
end Go.Proofs.YtmcjogfopfhblaaDoor
