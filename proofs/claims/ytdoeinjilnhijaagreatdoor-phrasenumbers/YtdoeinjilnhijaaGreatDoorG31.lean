/- Package word's Spell, by a walk of its own text. -/
import Derived.Test.YtdoeinjilnhijaaGreatDoorG22
import Derived.Lib.AppendStr
namespace Go.Proofs.YtdoeinjilnhijaaGreatDoor
open Go.RowKit
set_option linter.unusedVariables false

theorem append_text (w : World) {ops : Array Oper} {rest : List Oper} {o : Oper} {a : Act} {Q : Exit → Act → World → Prop} (hgd : o.guard = none) (s x : Operand)
    (ho : o.op = .call { callee := .builtin .append, args := #[s, x], argTypes := #[71, 9] })
    (base : Nat) (v : Value) (l : List UInt8) (hs : a.eval s = v) (hown : OwnB w base v l) (t : ByteArray) (hx : a.eval x = .string t)
    (hlen : l.length + t.size ≤ 140737488355328) (hbase : base ≤ w.heap.size)
    (h : ∀ v' w', OwnB w' base v' (l ++ t.data.toList) → Below base w w' → wpList Tryz.prog ops Q rest (a.put o.dst v') w') : wpList Tryz.prog ops Q (o :: rest) a w := by
  obtain ⟨i0, hi, hz0, hz1, hz2⟩ := info_parts Tryz.infoByte
  refine Lib.wpList_append_own_string w hgd s x 71 9 ho base 5 i0 Tryz.underlying71 Tryz.underlying9 hi hz0 hz1 hz2 v l.length (bs l) hs hown t hx (by unfold maxLen; omega) hlen hbase ?_
  intro v' w' h1 h2 _
  refine h v' w' ?_ ?_
  · have e : bs (l ++ t.data.toList) = bs l ++ Lib.strCells t := by simp [bs, Lib.strCells]
    unfold OwnB
    rw [e, List.length_append, show t.data.toList.length = t.size by simp]
    exact h1
  · exact (Below.refl base w).grown h2 hbase (fun k hk => (World.ownsRow.lt hown k hk).1)

theorem spB_len {t : Tk} (h : spB t = true) : (wtn t).length ≤ 900 := by
  have := spB_read h
  unfold readL at this
  split at this
  · cases this
  · omega
theorem gaps_len : ∀ ts : List Tk, ts.all spB = true → (gaps ts).length ≤ ts.length * 901
  | [], _ => by simp [gaps]
  | t :: r, h => by
    rw [List.all_cons, Bool.and_eq_true] at h
    have h1 := spB_len h.1
    have h2 := gaps_len r h.2
    rw [gaps_cons]
    simp only [List.length_cons, List.length_append]
    omega
theorem lineW_len (ts : List Tk) (h : ts.all spB = true) : (lineW ts).length ≤ ts.length * 901 := by
  have := gaps_len ts h
  unfold lineW
  rw [List.length_tail]; omega
theorem all_more {ts : List Tk} {k : Nat} (h : k < ts.length) (ha : (ts.take k).all spB = true) (hb : spB ts[k] = true) : (ts.take (k + 1)).all spB = true := by
  rw [List.take_succ_eq_append_getElem h, List.all_append, ha]; simp [hb]
theorem all_not {ts : List Tk} {k : Nat} (h : k < ts.length) (hb : ¬ spB ts[k] = true) : ¬ ts.all spB = true := by
  intro ha
  exact hb (List.all_eq_true.1 ha _ (List.getElem_mem h))

/-- What Spell tells, as a value. -/
def spellV : Except Int (List UInt8) → Value
  | .ok l => .tuple #[.string ⟨l.toArray⟩, .nilIface]
  | .error n => .tuple #[.string ⟨#[]⟩, .iface 33 (.int .i64 n)]

set_option maxHeartbeats 2000000 in
theorem spell_any (ts : List Tk) (q : Option Addr) (c : Nat) (w : World) (hv : TKL w q ts) (hc : ts.length ≤ maxLen) (hs : ∀ t ∈ ts, t.s.size ≤ 140737488351232) :
    Calls Tryz.prog 21 #[.slice q ts.length c] w fun e w' => e = .returned (spellV (spellL ts)) ∧ Below w.heap.size w w' := by
  unfold maxLen at hc
  by_cases h300 : 300 < ts.length
  · have HV : Hid (spellL ts = .error 4) := if_pos h300
    have i1 : (300 : Int) < (ts.length : Int) := by omega
    go_enter Tryz.func21, Tryz.ntmps21
    go_wp2
    go_ret2
    exact ⟨by rw [HV.out]; rfl, Below.refl _ _⟩
  · have i1 : ¬ (300 : Int) < (ts.length : Int) := by omega
    have HS : Hid (∀ t ∈ ts, t.s.size ≤ 140737488351232) := hs
    have HV0 : Hid (¬ 300 < ts.length) := h300
    clear hs
    go_enter Tryz.func21, Tryz.ntmps21
    go_wp2
    go_loopw [4, 15] (fun v i wr => ∃ k : Nat, k ≤ ts.length ∧ i = .int .i64 k ∧ OwnB wr w.heap.size v (lineW (ts.take k)) ∧ Hid ((ts.take k).all spB = true) ∧ Below w.heap.size w wr) (fun _ i _ => ts.length - (intOf i).toNat)
    case atStart => exact ⟨0, Nat.zero_le _, rfl, ownB_nil _ _, rfl, Below.refl _ _⟩
    case round =>
      obtain ⟨k, hk, rfl, hown, HA, hb⟩ := hrel
      have hlen := lineW_len _ HA.out
      rw [List.length_take, Nat.min_eq_left hk] at hlen
      by_cases hlt : k < ts.length
      · have i2 : (k : Int) < (ts.length : Int) := by omega
        obtain ⟨b, off, rfl, hbw, c0, c1, c2⟩ := (hv.up hb).at hlt
        have HT : Hid (ts.take (k + 1) = ts.take k ++ [ts[k]]) := List.take_succ_eq_append_getElem hlt
        have hts := HS.out _ (List.getElem_mem hlt)
        have HM : Hid (spB ts[k] = true → (ts.take (k + 1)).all spB = true) := all_more hlt HA.out
        have HNo : Hid (¬ spB ts[k] = true → ¬ ts.all spB = true) := all_not hlt
        generalize ts[k] = t at *
        have H1 := fun w => spellOne_any t w hts
        have hbt : Below wr.heap.size wr (wr.alloc (.cells #[.int .i64 t.kind, .string t.s, .int .i64 t.at_] 47)) := (Below.refl _ _).alloc (Nat.le_refl _) _
        by_cases hsp : spB t = true
        · have HM2 : Hid _ := HM.out hsp
          have hwl := spB_len hsp
          have hws : (⟨(wtn t).toArray⟩ : ByteArray).size = (wtn t).length := rfl
          have Hwd : Hid ((⟨(wtn t).toArray⟩ : ByteArray).data.toList = wtn t) := rfl
          rw [oneV_yes hsp] at H1
          generalize hW : (⟨(wtn t).toArray⟩ : ByteArray) = W at *
          clear hsp HM HNo hW
          go_wp2_with fail
          refine (H1 _).mono ?_
          rintro e w2 ⟨rfl, hb2⟩
          have hb3 := hbt.trans (hb2.mono hbt.size)
          have hb4 := hb.trans (hb3.mono hb.size)
          have hown2 := hown.up hb3
          have hz2 := hb4.size
          by_cases h0 : k = 0
          · have i3 : ¬ (0 : Int) < (k : Int) := by omega
            have HL : Hid (lineW (ts.take k) ++ W.data.toList = lineW (ts.take (k + 1))) := by
              show _ = _
              rw [HT.out, h0, List.take_zero, List.nil_append, lineW_one, Hwd.out]; rfl
            clear h0
            generalize lineW (ts.take k) = l at *
            go_wp2_with (at_builtin; refine append_text _ rfl (.tmp 33) (.tmp 34) rfl w.heap.size u4 l rfl hown2 W rfl (by omega) hz2 ?_; intro v' w3 hown3 hb5)
            go_roundw
            case rel => exact ⟨k + 1, by omega, by go_num, by rw [← HL.out]; exact hown3, HM2, hb4.trans hb5⟩
            case measure => simp [intOf]; omega
          · have i3 : (0 : Int) < (k : Int) := by omega
            have HL : Hid ((lineW (ts.take k) ++ [32]) ++ W.data.toList = lineW (ts.take (k + 1))) := by
              show _ = _
              have hne : ts.take k ≠ [] := by
                intro h
                have := congrArg List.length h
                rw [List.length_take, Nat.min_eq_left hk] at this
                simp at this; omega
              rw [HT.out, lineW_snoc hne, Hwd.out]
            clear h0
            generalize lineW (ts.take k) = l at *
            have t1 : True := trivial
            go_wp2_with (first
              | (at_builtin; have _t := t1; refine append_byte _ rfl (.tmp 30) (.tmp 31) rfl w.heap.size u4 l rfl hown2 _ 32 rfl rfl (by omega) hz2 ?_; intro v5 w3 hown3 hb5; have hz3 := Nat.le_trans hz2 hb5.size; clear t1)
              | (at_builtin; refine append_text _ rfl (.tmp 33) (.tmp 34) rfl w.heap.size v5 (l ++ [32]) rfl hown3 W rfl (by simp only [List.length_append, List.length_cons, List.length_nil]; omega) hz3 ?_; intro v' w4 hown4 hb6))
            go_roundw
            case rel => exact ⟨k + 1, by omega, by go_num, by rw [← HL.out]; exact hown4, HM2, (hb4.trans hb5).trans hb6⟩
            case measure => simp [intOf]; omega
        · have HV : Hid (spellL ts = .error 1) := by
            show _ = _
            unfold spellL
            rw [if_neg HV0.out, if_neg (HNo.out hsp)]
          rw [oneV_no hsp] at H1
          clear hsp HM HNo hown
          go_wp2_with fail
          refine (H1 _).mono ?_
          rintro e w2 ⟨rfl, hb2⟩
          have hb3 := hbt.trans (hb2.mono hbt.size)
          have hb4 := hb.trans (hb3.mono hb.size)
          go_wp2
          go_ret2
          exact ⟨by rw [HV.out]; rfl, hb4⟩
      · obtain rfl : k = ts.length := by omega
        have i2 : ¬ (ts.length : Int) < (ts.length : Int) := by omega
        rw [List.take_of_length_le (Nat.le_refl _)] at hown HA hlen
        obtain ⟨p4, n4, rfl⟩ := hown.shape
        have hconv := text_of _ _ _ _ hown
        by_cases h9 : 900 < (lineW ts).length
        · have HV : Hid (spellL ts = .error 4) := by
            show _ = _
            unfold spellL
            rw [if_neg HV0.out, if_pos HA.out, if_pos h9]
          have i3 : (900 : Int) < ((lineW ts).length : Int) := by omega
          generalize lineW ts = l at *
          go_wp2
          go_ret2
          exact ⟨by rw [HV.out]; rfl, hb⟩
        · have HV : Hid (spellL ts = .ok (lineW ts)) := by
            show _ = _
            unfold spellL
            rw [if_neg HV0.out, if_pos HA.out, if_neg h9]
          have i3 : ¬ (900 : Int) < ((lineW ts).length : Int) := by omega
          generalize lineW ts = l at *
          go_wp2
          go_ret2
          exact ⟨by rw [HV.out]; rfl, hb⟩
end Go.Proofs.YtdoeinjilnhijaaGreatDoor
