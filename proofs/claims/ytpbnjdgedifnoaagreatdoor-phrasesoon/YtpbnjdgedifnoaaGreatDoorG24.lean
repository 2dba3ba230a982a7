/- Package word's Spell, by a walk of its own text. The document's Quoted of any text, and its Spelt (package wicketgateref2), by walks of their own texts. -/
import Derived.Test.YtpbnjdgedifnoaaGreatDoorG7
import Derived.Lib.AppendStr
import Derived.Test.YtpbnjdgedifnoaaGreatDoorG5
namespace Go.Proofs.YtpbnjdgedifnoaaGreatDoor
open Go.RowKit
set_option linter.unusedVariables false

theorem append_text (w : World) {ops : Array Oper} {rest : List Oper} {o : Oper} {a : Act} {Q : Exit → Act → World → Prop} (hgd : o.guard = none) (s x : Operand)
    (ho : o.op = .call { callee := .builtin .append, args := #[s, x], argTypes := #[72, 9] })
    (base : Nat) (v : Value) (l : List UInt8) (hs : a.eval s = v) (hown : OwnB w base v l) (t : ByteArray) (hx : a.eval x = .string t)
    (hlen : l.length + t.size ≤ 140737488355328) (hbase : base ≤ w.heap.size)
    (h : ∀ v' w', OwnB w' base v' (l ++ t.data.toList) → Below base w w' → wpList Tryz.prog ops Q rest (a.put o.dst v') w') : wpList Tryz.prog ops Q (o :: rest) a w := by
  obtain ⟨i0, hi, hz0, hz1, hz2⟩ := info_parts Tryz.infoByte
  refine Lib.wpList_append_own_string w hgd s x 72 9 ho base 5 i0 Tryz.underlying72 Tryz.underlying9 hi hz0 hz1 hz2 v l.length (bs l) hs hown t hx (by unfold maxLen; omega) hlen hbase ?_
  intro v' w' h1 h2 _
  refine h v' w' ?_ ?_
  · have e : bs (l ++ t.data.toList) = bs l ++ Lib.strCells t := by simp [bs, Lib.strCells]
    unfold OwnB
    rw [e, List.length_append, show t.data.toList.length = t.size by simp]
    exact h1
  · exact (Below.refl base w).grown h2 hbase (fun k hk => (World.ownsRow.lt hown k hk).1)

theorem spB_len {t : Tk} (h : spB t = true) : (wtn t).length ≤ 900 := by
  have := spB_read h
  unfold readL at this
  split at this
  · cases this
  · omega
theorem gaps_len : ∀ ts : List Tk, ts.all spB = true → (gaps ts).length ≤ ts.length * 901
  | [], _ => by simp [gaps]
  | t :: r, h => by
    rw [List.all_cons, Bool.and_eq_true] at h
    have h1 := spB_len h.1
    have h2 := gaps_len r h.2
    rw [gaps_cons]
    simp only [List.length_cons, List.length_append]
    omega
theorem lineW_len (ts : List Tk) (h : ts.all spB = true) : (lineW ts).length ≤ ts.length * 901 := by
  have := gaps_len ts h
  unfold lineW
  rw [List.length_tail]; omega
theorem all_more {ts : List Tk} {k : Nat} (h : k < ts.length) (ha : (ts.take k).all spB = true) (hb : spB ts[k] = true) : (ts.take (k + 1)).all spB = true := by
  rw [List.take_succ_eq_append_getElem h, List.all_append, ha]; simp [hb]
theorem all_not {ts : List Tk} {k : Nat} (h : k < ts.length) (hb : ¬ spB ts[k] = true) : ¬ ts.all spB = true := by
  intro ha
  exact hb (List.all_eq_true.1 ha _ (List.getElem_mem h))

/-- What Spell tells, as a value. -/
def spellV : Except Int (List UInt8) → Value
  | .ok l => .tuple #[.string ⟨l.toArray⟩, .nilIface]
  | .error n => .tuple #[.string ⟨#[]⟩, .iface 31 (.int .i64 n)]

set_option maxHeartbeats 2000000 in
theorem spell_any (ts : List Tk) (q : Option Addr) (c : Nat) (w : World) (hv : TKL w q ts) (hc : ts.length ≤ maxLen) (hs : ∀ t ∈ ts, t.s.size ≤ 140737488351232) :
    Calls Tryz.prog 22 #[.slice q ts.length c] w fun e w' => e = .returned (spellV (spellL ts)) ∧ Below w.heap.size w w' := by
  unfold maxLen at hc
  by_cases h300 : 300 < ts.length
  · have HV : Hid (spellL ts = .error 4) := if_pos h300
    have i1 : (300 : Int) < (ts.length : Int) := by omega
    go_enter Tryz.func22, Tryz.ntmps22
    go_wp2
    go_ret2
    exact ⟨by rw [HV.out]; rfl, Below.refl _ _⟩
  · have i1 : ¬ (300 : Int) < (ts.length : Int) := by omega
    have HS : Hid (∀ t ∈ ts, t.s.size ≤ 140737488351232) := hs
    have HV0 : Hid (¬ 300 < ts.length) := h300
    clear hs
    go_enter Tryz.func22, Tryz.ntmps22
    go_wp2
    go_loopw [4, 15] (fun v i wr => ∃ k : Nat, k ≤ ts.length ∧ i = .int .i64 k ∧ OwnB wr w.heap.size v (lineW (ts.take k)) ∧ Hid ((ts.take k).all spB = true) ∧ Below w.heap.size w wr) (fun _ i _ => ts.length - (intOf i).toNat)
    case atStart => exact ⟨0, Nat.zero_le _, rfl, ownB_nil _ _, rfl, Below.refl _ _⟩
    case round =>
      obtain ⟨k, hk, rfl, hown, HA, hb⟩ := hrel
      have hlen := lineW_len _ HA.out
      rw [List.length_take, Nat.min_eq_left hk] at hlen
      by_cases hlt : k < ts.length
      · have i2 : (k : Int) < (ts.length : Int) := by omega
        obtain ⟨b, off, rfl, hbw, c0, c1, c2⟩ := (hv.up hb).at hlt
        have HT : Hid (ts.take (k + 1) = ts.take k ++ [ts[k]]) := List.take_succ_eq_append_getElem hlt
        have hts := HS.out _ (List.getElem_mem hlt)
        have HM : Hid (spB ts[k] = true → (ts.take (k + 1)).all spB = true) := all_more hlt HA.out
        have HNo : Hid (¬ spB ts[k] = true → ¬ ts.all spB = true) := all_not hlt
        generalize ts[k] = t at *
        have H1 := fun w => spellOne_any t w hts
        have hbt : Below wr.heap.size wr (wr.alloc (.cells #[.int .i64 t.kind, .string t.s, .int .i64 t.at_] 47)) := (Below.refl _ _).alloc (Nat.le_refl _) _
        by_cases hsp : spB t = true
        · have HM2 : Hid _ := HM.out hsp
          have hwl := spB_len hsp
          have hws : (⟨(wtn t).toArray⟩ : ByteArray).size = (wtn t).length := rfl
          have Hwd : Hid ((⟨(wtn t).toArray⟩ : ByteArray).data.toList = wtn t) := rfl
          rw [oneV_yes hsp] at H1
          generalize hW : (⟨(wtn t).toArray⟩ : ByteArray) = W at *
          clear hsp HM HNo hW
          go_wp2_with fail
          refine (H1 _).mono ?_
          rintro e w2 ⟨rfl, hb2⟩
          have hb3 := hbt.trans (hb2.mono hbt.size)
          have hb4 := hb.trans (hb3.mono hb.size)
          have hown2 := hown.up hb3
          have hz2 := hb4.size
          by_cases h0 : k = 0
          · have i3 : ¬ (0 : Int) < (k : Int) := by omega
            have HL : Hid (lineW (ts.take k) ++ W.data.toList = lineW (ts.take (k + 1))) := by
              show _ = _
              rw [HT.out, h0, List.take_zero, List.nil_append, lineW_one, Hwd.out]; rfl
            clear h0
            generalize lineW (ts.take k) = l at *
            go_wp2_with (at_builtin; refine append_text _ rfl (.tmp 33) (.tmp 34) rfl w.heap.size u4 l rfl hown2 W rfl (by omega) hz2 ?_; intro v' w3 hown3 hb5)
            go_roundw
            case rel => exact ⟨k + 1, by omega, by go_num, by rw [← HL.out]; exact hown3, HM2, hb4.trans hb5⟩
            case measure => simp [intOf]; omega
          · have i3 : (0 : Int) < (k : Int) := by omega
            have HL : Hid ((lineW (ts.take k) ++ [32]) ++ W.data.toList = lineW (ts.take (k + 1))) := by
              show _ = _
              have hne : ts.take k ≠ [] := by
                intro h
                have := congrArg List.length h
                rw [List.length_take, Nat.min_eq_left hk] at this
                simp at this; omega
              rw [HT.out, lineW_snoc hne, Hwd.out]
            clear h0
            generalize lineW (ts.take k) = l at *
            have t1 : True := trivial
            go_wp2_with (first
              | (at_builtin; have _t := t1; refine append_byte _ rfl (.tmp 30) (.tmp 31) rfl w.heap.size u4 l rfl hown2 _ 32 rfl rfl (by omega) hz2 ?_; intro v5 w3 hown3 hb5; have hz3 := Nat.le_trans hz2 hb5.size; clear t1)
              | (at_builtin; refine append_text _ rfl (.tmp 33) (.tmp 34) rfl w.heap.size v5 (l ++ [32]) rfl hown3 W rfl (by simp only [List.length_append, List.length_cons, List.length_nil]; omega) hz3 ?_; intro v' w4 hown4 hb6))
            go_roundw
            case rel => exact ⟨k + 1, by omega, by go_num, by rw [← HL.out]; exact hown4, HM2, (hb4.trans hb5).trans hb6⟩
            case measure => simp [intOf]; omega
        · have HV : Hid (spellL ts = .error 1) := by
            show _ = _
            unfold spellL
            rw [if_neg HV0.out, if_neg (HNo.out hsp)]
          rw [oneV_no hsp] at H1
          clear hsp HM HNo hown
          go_wp2_with fail
          refine (H1 _).mono ?_
          rintro e w2 ⟨rfl, hb2⟩
          have hb3 := hbt.trans (hb2.mono hbt.size)
          have hb4 := hb.trans (hb3.mono hb.size)
          go_wp2
          go_ret2
          exact ⟨by rw [HV.out]; rfl, hb4⟩
      · obtain rfl : k = ts.length := by omega
        have i2 : ¬ (ts.length : Int) < (ts.length : Int) := by omega
        rw [List.take_of_length_le (Nat.le_refl _)] at hown HA hlen
        obtain ⟨p4, n4, rfl⟩ := hown.shape
        have hconv := text_of _ _ _ _ hown
        by_cases h9 : 900 < (lineW ts).length
        · have HV : Hid (spellL ts = .error 4) := by
            show _ = _
            unfold spellL
            rw [if_neg HV0.out, if_pos HA.out, if_pos h9]
          have i3 : (900 : Int) < ((lineW ts).length : Int) := by omega
          generalize lineW ts = l at *
          go_wp2
          go_ret2
          exact ⟨by rw [HV.out]; rfl, hb⟩
        · have HV : Hid (spellL ts = .ok (lineW ts)) := by
            show _ = _
            unfold spellL
            rw [if_neg HV0.out, if_pos HA.out, if_neg h9]
          have i3 : ¬ (900 : Int) < ((lineW ts).length : Int) := by omega
          generalize lineW ts = l at *
          go_wp2
          go_ret2
          exact ⟨by rw [HV.out]; rfl, hb⟩
end Go.Proofs.YtpbnjdgedifnoaaGreatDoor
namespace Go.Proofs.YtpbnjdgedifnoaaGreatDoor
open Go.RowKit
set_option linter.unusedVariables false

theorem ret_strW {a b : ByteArray} (h : a = b) : Ending.returned (.string a) = .returned (.string b) := by rw [h]
theorem grd_no2 (c : UInt8) (h : grd c = false) : ((c.toNat : Int) == 34) = false ∧ ((c.toNat : Int) == 92) = false := by
  unfold grd at h
  simp only [Bool.or_eq_false_iff, beq_eq_false_iff_ne] at h
  exact ⟨by simp; omega, by simp; omega⟩
theorem grd_ways2 (c : UInt8) (h : grd c = true) : ((c.toNat : Int) == 34) = true ∨ (((c.toNat : Int) == 34) = false ∧ ((c.toNat : Int) == 92) = true) := by
  unfold grd at h
  simp only [Bool.or_eq_true, beq_iff_eq] at h
  by_cases h1 : c.toNat = 34
  · exact .inl (by simp; omega)
  · exact .inr ⟨by simp; omega, by simp; omega⟩

set_option maxHeartbeats 1000000 in
theorem quotedW_any (s : ByteArray) (w : World) (hs : s.size ≤ 140737488351232) :
    Calls Tryz.prog 33 #[.string s] w fun e w' => e = .returned (.string ⟨(quoted s.data.toList).toArray⟩) ∧ w' = w := by
  go_enter Tryz.func33, Tryz.ntmps33
  go_wp2
  go_loop [3, 4] (fun o i => ∃ (k : Nat) (q : ByteArray), k ≤ s.size ∧ i = .int .i64 k ∧ o = .string q ∧ Hid (q.data.toList = 34 :: body (s.data.toList.take k))) (fun _ i => s.size - (intOf i).toNat)
  case atStart => exact ⟨0, ⟨#[34]⟩, Nat.zero_le _, rfl, rfl, rfl⟩
  case round =>
    obtain ⟨k, q, hk, rfl, rfl, HQ⟩ := hrel
    have hq : q.size ≤ 1 + 2 * k := by
      have h1 := body_length (s.data.toList.take k)
      have h2 : (s.data.toList.take k).length ≤ k := List.length_take_le _ _
      rw [size_l, HQ.out, List.length_cons]; omega
    by_cases hlt : k < s.size
    · have HT : Hid (_ = _) := take_snoc s k hlt
      have HP : Hid (_ = _) := piece1 s k hlt
      have i1 : (k : Int) < (s.size : Int) := by omega
      have i2 : (k : Int) + 1 ≤ (s.size : Int) := by omega
      have hx : (s.extract k (k + 1)).size = 1 := by simp; omega
      cases hg : grd s[k]
      · obtain ⟨g1, g2⟩ := grd_no2 _ hg
        have HB : Hid (_ = _) := body_one_plain hg (s.data.toList.take k)
        go_wp2
        go_round
        case rel => exact ⟨k + 1, _, by omega, by go_num, rfl, by show _ = _; rw [cat_l, HQ.out, HP.out, HT.out]; exact HB.out⟩
        case measure => simp [intOf]; omega
      · have HB : Hid (_ = _) := body_one_grd hg (s.data.toList.take k)
        rcases grd_ways2 _ hg with g1 | ⟨g1, g2⟩
        · go_wp2
          go_round
          case rel => exact ⟨k + 1, _, by omega, by go_num, rfl, by show _ = _; rw [cat_l, cat_l, HQ.out, HP.out, HT.out]; exact HB.out⟩
          case measure => simp [intOf]; omega
        · go_wp2
          go_round
          case rel => exact ⟨k + 1, _, by omega, by go_num, rfl, by show _ = _; rw [cat_l, cat_l, HQ.out, HP.out, HT.out]; exact HB.out⟩
          case measure => simp [intOf]; omega
    · obtain rfl : k = s.size := by omega
      have i1 : ¬ (s.size : Int) < (s.size : Int) := by omega
      go_wp2
      go_ret
      refine ⟨ret_strW (of_list ?_), rfl⟩
      rw [cat_l, HQ.out, take_all s]
      rfl

set_option maxHeartbeats 1000000 in
theorem spelt_quo (t : Tk) (w : World) (hs : t.s.size ≤ 140737488351232) (h3 : t.kind = 3) :
    Calls Tryz.prog 20 #[.agg #[.int .i64 t.kind, .string t.s, .int .i64 t.at_]] w fun e w' => (∃ u, e = .returned (.tuple #[.string u, .bool (spB t)]) ∧ (spB t = true → u = ⟨(wtn t).toArray⟩)) ∧ Below w.heap.size w w' := by
  have hl : t.s.data.toList.length = t.s.size := by simp
  have hb0 : Below w.heap.size w (w.alloc (.cells #[.int .i64 t.kind, .string t.s, .int .i64 t.at_] 47)) := (Below.refl _ _).alloc (Nat.le_refl _) _
  have HB : Hid (spB t = textOk t.s.data.toList) := spB_quo h3
  have HW : Hid (textOk t.s.data.toList = true → (⟨(quoted t.s.data.toList).toArray⟩ : ByteArray) = ⟨(wtn t).toArray⟩) := fun h => by rw [wr_quo h3, if_pos h]
  have e3 : (t.kind == 3) = true := by simpa using h3
  have HQ := fun w => quotedW_any t.s w hs
  have HT := fun w => textFault_any t.s w (by unfold maxLen; omega)
  have HTF : Hid ((tfault t.s.data.toList == 0) = textOk t.s.data.toList) := by
    show _ = _
    cases h : textOk t.s.data.toList with
    | true => rw [tfault_ok h]; rfl
    | false => have := tfault_not h; simpa using this
  generalize tfault t.s.data.toList = N at *
  generalize (⟨(quoted t.s.data.toList).toArray⟩ : ByteArray) = Q at *
  clear h3
  go_enter Tryz.func20, Tryz.ntmps20
  go_wp2
  go_quiet ((first | (go_at_call 33; exact Calls.quiet_of_same (HQ _)) | (go_at_call 34; exact Calls.quiet_of_same (HT _))))
  go_wp2
  go_ret2
  refine ⟨⟨Q, ?_, fun h => HW.out (by rw [← HB.out]; exact h)⟩, below_draws hb0 _⟩
  rw [HB.out, ← HTF.out]
  rfl

set_option maxHeartbeats 1000000 in
theorem spelt_slot (t : Tk) (w : World) (hs : t.s.size ≤ 140737488351232) (h4 : t.kind = 4) :
    Calls Tryz.prog 20 #[.agg #[.int .i64 t.kind, .string t.s, .int .i64 t.at_]] w fun e w' => (∃ u, e = .returned (.tuple #[.string u, .bool (spB t)]) ∧ (spB t = true → u = ⟨(wtn t).toArray⟩)) ∧ Below w.heap.size w w' := by
  have hb0 : Below w.heap.size w (w.alloc (.cells #[.int .i64 t.kind, .string t.s, .int .i64 t.at_] 47)) := (Below.refl _ _).alloc (Nat.le_refl _) _
  have HB : Hid (spB t = (nfault t.s.data.toList == 0)) := spB_slot h4
  have HW : Hid ((⟨#[63]⟩ ++ t.s : ByteArray) = ⟨(wtn t).toArray⟩) := of_list (by rw [wr_slot h4]; simp)
  have e3 : (t.kind == 3) = false := by rw [h4]; rfl
  have e4 : (t.kind == 4) = true := by rw [h4]; rfl
  have i1 : ¬ 9223372036854775807 < 1 + t.s.size := by omega
  have HN := fun w => nameFault_any t.s w (by unfold maxLen; omega)
  generalize nfault t.s.data.toList = N at *
  clear h4
  go_enter Tryz.func20, Tryz.ntmps20
  go_wp2
  go_quiet ((go_at_call 35; exact Calls.quiet_of_same (HN _)))
  go_wp2
  go_ret2
  refine ⟨⟨⟨#[63]⟩ ++ t.s, ?_, fun _ => HW.out⟩, below_draws hb0 _⟩
  rw [HB.out]
  rfl

theorem spB_else {t : Tk} (h3 : t.kind ≠ 3) (h4 : t.kind ≠ 4) (hs : 0 < t.s.size) : spB t = (!(t.s[0].toNat == 32 || t.s[0].toNat == 34 || t.s[0].toNat == 63) && whole t.kind t.s.data.toList) := by
  unfold spB
  rw [if_neg h3, if_neg h4]
  have e : t.s.data.toList = t.s[0] :: t.s.data.toList.drop 1 := by simpa using drop_at t.s 0 hs
  rw [e]
theorem spB_none {t : Tk} (h3 : t.kind ≠ 3) (h4 : t.kind ≠ 4) (hs : t.s.size = 0) : spB t = false := by
  unfold spB
  rw [if_neg h3, if_neg h4]
  have e : t.s.data.toList = [] := List.eq_nil_of_length_eq_zero (by simpa using hs)
  rw [e]
/-- How Spelt ends. -/
def SpeltPost (t : Tk) (e : Ending) : Prop := ∃ u, e = .returned (.tuple #[.string u, .bool (spB t)]) ∧ (spB t = true → u = ⟨(wtn t).toArray⟩)
theorem spelt_no {t : Tk} {u : ByteArray} (h : spB t = false) : SpeltPost t (.returned (.tuple #[.string u, .bool false])) := ⟨u, by rw [h], fun h2 => by rw [h] at h2; cases h2⟩
theorem spelt_yes {t : Tk} (h : spB t = true) (h3 : t.kind ≠ 3) (h4 : t.kind ≠ 4) : SpeltPost t (.returned (.tuple #[.string t.s, .bool true])) := ⟨t.s, by rw [h], fun _ => of_list (wr_else h3 h4).symm⟩

set_option maxRecDepth 100000 in
set_option maxHeartbeats 2000000 in
theorem spelt_else (t : Tk) (w : World) (hs : t.s.size ≤ 140737488351232) (h3 : t.kind ≠ 3) (h4 : t.kind ≠ 4) :
    Calls Tryz.prog 20 #[.agg #[.int .i64 t.kind, .string t.s, .int .i64 t.at_]] w fun e w' => SpeltPost t e ∧ Below w.heap.size w w' := by
  have hb0 : Below w.heap.size w (w.alloc (.cells #[.int .i64 t.kind, .string t.s, .int .i64 t.at_] 47)) := (Below.refl _ _).alloc (Nat.le_refl _) _
  have e3 : (t.kind == 3) = false := by simpa using h3
  have e4 : (t.kind == 4) = false := by simpa using h4
  by_cases h0 : t.s.size = 0
  · have HB : Hid (spB t = false) := spB_none h3 h4 h0
    have z0 : ((t.s.size : Int) == 0) = true := by simpa using h0
    clear h3 h4
    go_enter Tryz.func20, Tryz.ntmps20
    go_wp2
    go_ret2
    exact ⟨spelt_no HB.out, hb0⟩
  · have hp : 0 < t.s.size := by omega
    have z0 : ((t.s.size : Int) == 0) = false := by simpa using h0
    have i0 : (0 : Int) < (t.s.size : Int) := by omega
    have HE : Hid (_ = _) := spB_else h3 h4 hp
    cases a1 : (t.s[0].toNat == 32) <;> cases a2 : (t.s[0].toNat == 34) <;> cases a3 : (t.s[0].toNat == 63)
    · have n1 : ((t.s[0].toNat : Int) == 32) = false := by simp at a1 ⊢; omega
      have n2 : ((t.s[0].toNat : Int) == 34) = false := by simp at a2 ⊢; omega
      have n3 : ((t.s[0].toNat : Int) == 63) = false := by simp at a3 ⊢; omega
      have HE2 : Hid (spB t = whole t.kind t.s.data.toList) := by show _ = _; rw [HE.out, a1, a2, a3]; rfl
      have H1 := fun w => refWord_any t.s 0 w hp hs
      rw [List.drop_zero] at H1
      have HY : Hid (spB t = true → SpeltPost t (.returned (.tuple #[.string t.s, .bool true]))) := fun h => spelt_yes h h3 h4
      clear a1 a2 a3 HE h3 h4
      cases hw : word1 t.s.data.toList with
      | error n =>
        have HB : Hid (spB t = false) := by show _ = _; rw [HE2.out]; unfold whole; rw [hw]
        have hn0 := word1_err hw
        rw [hw] at H1
        unfold refW at H1
        simp only [] at H1
        clear hw
        go_enter Tryz.func20, Tryz.ntmps20
        go_wp2_with fail
        refine (H1 _).mono ?_
        rintro e w1 ⟨rfl, hb⟩
        have q0 : ∀ o, w1.cell? ⟨w.heap.size, o, none⟩ = _ := fun o => hb.cell (p := ⟨w.heap.size, o, none⟩) (by simp)
        have d0 : w1.cell? ⟨w.heap.size, 0, none⟩ = some (.int .i64 t.kind) := (q0 0).trans (by simp [go_sem])
        have d1 : w1.cell? ⟨w.heap.size, 1, none⟩ = some (.string t.s) := (q0 1).trans (by simp [go_sem])
        have hlt : w.heap.size < w1.heap.size := by have := hb.size; simp at this; omega
        have hb1 := hb0.trans (hb.mono hb0.size)
        have hb2 := hb1.alloc hb1.size (.cells #[.int .i64 0, .string ⟨#[]⟩, .int .i64 0] 47)
        clear q0
        go_wp2
        go_quiet (fail)
        go_wp2
        go_ret2
        exact ⟨spelt_no HB.out, below_draws hb2 _⟩
      | ok x =>
        obtain ⟨k, x, n⟩ := x
        rw [hw] at H1
        unfold refW at H1
        simp only [] at H1
        have HWh : Hid (whole t.kind t.s.data.toList = (n == t.s.data.toList.length && k == t.kind && x == t.s.data.toList)) := by show _ = _; unfold whole; rw [hw]
        have hl : t.s.data.toList.length = t.s.size := by simp
        rw [hl] at HWh
        obtain ⟨_, hn2⟩ := word1_size hw
        rw [hl] at hn2
        simp only at hn2
        have hzn : ((0 : Nat) : Int) + (n : Int) = (n : Int) := by omega
        rw [hzn] at H1
        clear hw hzn
        have HX : Hid ((⟨x.toArray⟩ : ByteArray).data.toList = x) := rfl
        generalize (⟨x.toArray⟩ : ByteArray) = X at *
        by_cases c1 : n = t.s.size
        · have m1 : ((n : Int) == (t.s.size : Int)) = true := by simp; omega
          by_cases c2 : k = t.kind
          · have m2 : (k == t.kind) = true := by simpa using c2
            by_cases c3 : x = t.s.data.toList
            · have HB : Hid (spB t = true) := by show _ = _; rw [HE2.out, HWh.out, c1, c2, c3]; simp
              have m3 : (X.toList == t.s.toList) = true := by rw [ByteArray.toList_eq, ByteArray.toList_eq, HX.out, c3]; simp
              have HZ : Hid _ := HY.out HB.out
              clear c1 c2 c3
              go_enter Tryz.func20, Tryz.ntmps20
              go_wp2_with fail
              refine (H1 _).mono ?_
              rintro e w1 ⟨rfl, hb⟩
              have q0 : ∀ o, w1.cell? ⟨w.heap.size, o, none⟩ = _ := fun o => hb.cell (p := ⟨w.heap.size, o, none⟩) (by simp)
              have d0 : w1.cell? ⟨w.heap.size, 0, none⟩ = some (.int .i64 t.kind) := (q0 0).trans (by simp [go_sem])
              have d1 : w1.cell? ⟨w.heap.size, 1, none⟩ = some (.string t.s) := (q0 1).trans (by simp [go_sem])
              have hlt : w.heap.size < w1.heap.size := by have := hb.size; simp at this; omega
              have hb1 := hb0.trans (hb.mono hb0.size)
              have hb2 := hb1.alloc hb1.size (.cells #[.int .i64 k, .string X, .int .i64 0] 47)
              clear q0
              go_wp2
              go_quiet (fail)
              go_wp2
              go_ret2
              exact ⟨HZ.out, below_draws hb2 _⟩
            · have HB : Hid (spB t = false) := by
                show _ = _; rw [HE2.out, HWh.out]
                have : (x == t.s.data.toList) = false := by simpa using c3
                rw [this]; simp
              have m3 : (X.toList == t.s.toList) = false := by rw [ByteArray.toList_eq, ByteArray.toList_eq, HX.out]; simpa using c3
              clear c1 c2 c3
              go_enter Tryz.func20, Tryz.ntmps20
              go_wp2_with fail
              refine (H1 _).mono ?_
              rintro e w1 ⟨rfl, hb⟩
              have q0 : ∀ o, w1.cell? ⟨w.heap.size, o, none⟩ = _ := fun o => hb.cell (p := ⟨w.heap.size, o, none⟩) (by simp)
              have d0 : w1.cell? ⟨w.heap.size, 0, none⟩ = some (.int .i64 t.kind) := (q0 0).trans (by simp [go_sem])
              have d1 : w1.cell? ⟨w.heap.size, 1, none⟩ = some (.string t.s) := (q0 1).trans (by simp [go_sem])
              have hlt : w.heap.size < w1.heap.size := by have := hb.size; simp at this; omega
              have hb1 := hb0.trans (hb.mono hb0.size)
              have hb2 := hb1.alloc hb1.size (.cells #[.int .i64 k, .string X, .int .i64 0] 47)
              clear q0
              go_wp2
              go_quiet (fail)
              go_wp2
              go_ret2
              exact ⟨spelt_no HB.out, below_draws hb2 _⟩
          · have m2 : (k == t.kind) = false := by simpa using c2
            have HB : Hid (spB t = false) := by show _ = _; rw [HE2.out, HWh.out, m2]; simp
            clear c1 c2
            go_enter Tryz.func20, Tryz.ntmps20
            go_wp2_with fail
            refine (H1 _).mono ?_
            rintro e w1 ⟨rfl, hb⟩
            have q0 : ∀ o, w1.cell? ⟨w.heap.size, o, none⟩ = _ := fun o => hb.cell (p := ⟨w.heap.size, o, none⟩) (by simp)
            have d0 : w1.cell? ⟨w.heap.size, 0, none⟩ = some (.int .i64 t.kind) := (q0 0).trans (by simp [go_sem])
            have d1 : w1.cell? ⟨w.heap.size, 1, none⟩ = some (.string t.s) := (q0 1).trans (by simp [go_sem])
            have hlt : w.heap.size < w1.heap.size := by have := hb.size; simp at this; omega
            have hb1 := hb0.trans (hb.mono hb0.size)
            have hb2 := hb1.alloc hb1.size (.cells #[.int .i64 k, .string X, .int .i64 0] 47)
            clear q0
            go_wp2
            go_quiet (fail)
            go_wp2
            go_ret2
            exact ⟨spelt_no HB.out, below_draws hb2 _⟩
        · have m1 : ((n : Int) == (t.s.size : Int)) = false := by simp; omega
          have HB : Hid (spB t = false) := by
            show _ = _; rw [HE2.out, HWh.out]
            have : (n == t.s.size) = false := by simpa using c1
            rw [this]; simp
          clear c1
          go_enter Tryz.func20, Tryz.ntmps20
          go_wp2_with fail
          refine (H1 _).mono ?_
          rintro e w1 ⟨rfl, hb⟩
          have q0 : ∀ o, w1.cell? ⟨w.heap.size, o, none⟩ = _ := fun o => hb.cell (p := ⟨w.heap.size, o, none⟩) (by simp)
          have d0 : w1.cell? ⟨w.heap.size, 0, none⟩ = some (.int .i64 t.kind) := (q0 0).trans (by simp [go_sem])
          have d1 : w1.cell? ⟨w.heap.size, 1, none⟩ = some (.string t.s) := (q0 1).trans (by simp [go_sem])
          have hlt : w.heap.size < w1.heap.size := by have := hb.size; simp at this; omega
          have hb1 := hb0.trans (hb.mono hb0.size)
          have hb2 := hb1.alloc hb1.size (.cells #[.int .i64 k, .string X, .int .i64 0] 47)
          clear q0
          go_wp2
          go_quiet (fail)
          go_wp2
          go_ret2
          exact ⟨spelt_no HB.out, below_draws hb2 _⟩
    all_goals
      have HB : Hid (spB t = false) := by show _ = _; rw [HE.out, a1, a2, a3]; rfl
      clear h3 h4 HE
    · have n1 : ((t.s[0].toNat : Int) == 32) = false := by simp at a1 ⊢; omega
      have n2 : ((t.s[0].toNat : Int) == 34) = false := by simp at a2 ⊢; omega
      have n3 : ((t.s[0].toNat : Int) == 63) = true := by simp at a3 ⊢; omega
      clear a1 a2 a3
      go_enter Tryz.func20, Tryz.ntmps20
      go_wp2
      go_ret2
      exact ⟨spelt_no HB.out, hb0⟩
    · have n1 : ((t.s[0].toNat : Int) == 32) = false := by simp at a1 ⊢; omega
      have n2 : ((t.s[0].toNat : Int) == 34) = true := by simp at a2 ⊢; omega
      clear a1 a2 a3
      go_enter Tryz.func20, Tryz.ntmps20
      go_wp2
      go_ret2
      exact ⟨spelt_no HB.out, hb0⟩
    · exfalso; simp at a2 a3; omega
    all_goals
      have n1 : ((t.s[0].toNat : Int) == 32) = true := by simp at a1 ⊢; omega
      clear a1 a2 a3
      go_enter Tryz.func20, Tryz.ntmps20
      go_wp2
      go_ret2
      exact ⟨spelt_no HB.out, hb0⟩

theorem spelt_any (t : Tk) (w : World) (hs : t.s.size ≤ 140737488351232) :
    Calls Tryz.prog 20 #[.agg #[.int .i64 t.kind, .string t.s, .int .i64 t.at_]] w fun e w' => SpeltPost t e ∧ Below w.heap.size w w' := by
  by_cases h3 : t.kind = 3
  · exact spelt_quo t w hs h3
  · by_cases h4 : t.kind = 4
    · exact spelt_slot t w hs h4
    · exact spelt_else t w hs h3 h4
end Go.Proofs.YtpbnjdgedifnoaaGreatDoor
