/- The document's Quoted of any text, and its Spelt (package wicketgateref2), by walks of their own texts. -/
import Derived.Test.YtmcjogfopfhblaaDoorWdRefR
import Derived.Test.YtmcjogfopfhblaaDoorTextF
namespace Go.Proofs.YtmcjogfopfhblaaDoor
open Go.RowKit
set_option linter.unusedVariables false

theorem ret_strW {a b : ByteArray} (h : a = b) : Ending.returned (.string a) = .returned (.string b) := by rw [h]
theorem grd_no2 (c : UInt8) (h : grd c = false) : ((c.toNat : Int) == 34) = false ∧ ((c.toNat : Int) == 92) = false := by
  unfold grd at h
  simp only [Bool.or_eq_false_iff, beq_eq_false_iff_ne] at h
  exact ⟨by simp; omega, by simp; omega⟩
theorem grd_ways2 (c : UInt8) (h : grd c = true) : ((c.toNat : Int) == 34) = true ∨ (((c.toNat : Int) == 34) = false ∧ ((c.toNat : Int) == 92) = true) := by
  unfold grd at h
  simp only [Bool.or_eq_true, beq_iff_eq] at h
  by_cases h1 : c.toNat = 34
  · exact .inl (by simp; omega)
  · exact .inr ⟨by simp; omega, by simp; omega⟩

set_option maxHeartbeats 1000000 in
theorem quotedW_any (s : ByteArray) (w : World) (hs : s.size ≤ 140737488351232) :
    Calls Tryd.prog 32 #[.string s] w fun e w' => e = .returned (.string ⟨(quoted s.data.toList).toArray⟩) ∧ w' = w := by
  go_enter Tryd.func32, Tryd.ntmps32
  go_wp2
  go_loop [3, 4] (fun o i => ∃ (k : Nat) (q : ByteArray), k ≤ s.size ∧ i = .int .i64 k ∧ o = .string q ∧ Hid (q.data.toList = 34 :: body (s.data.toList.take k))) (fun _ i => s.size - (intOf i).toNat)
  case atStart => exact ⟨0, ⟨#[34]⟩, Nat.zero_le _, rfl, rfl, rfl⟩
  case round =>
    obtain ⟨k, q, hk, rfl, rfl, HQ⟩ := hrel
    have hq : q.size ≤ 1 + 2 * k := by
      have h1 := body_length (s.data.toList.take k)
      have h2 : (s.data.toList.take k).length ≤ k := List.length_take_le _ _
      rw [size_l, HQ.out, List.length_cons]; omega
    by_cases hlt : k < s.size
    · have HT : Hid (_ = _) := take_snoc s k hlt
      have HP : Hid (_ = _) := piece1 s k hlt
      have i1 : (k : Int) < (s.size : Int) := by omega
      have i2 : (k : Int) + 1 ≤ (s.size : Int) := by omega
      have hx : (s.extract k (k + 1)).size = 1 := by simp; omega
      cases hg : grd s[k]
      · obtain ⟨g1, g2⟩ := grd_no2 _ hg
        have HB : Hid (_ = _) := body_one_plain hg (s.data.toList.take k)
        go_wp2
        go_round
        case rel => exact ⟨k + 1, _, by omega, by go_num, rfl, by show _ = _; rw [cat_l, HQ.out, HP.out, HT.out]; exact HB.out⟩
        case measure => simp [intOf]; omega
      · have HB : Hid (_ = _) := body_one_grd hg (s.data.toList.take k)
        rcases grd_ways2 _ hg with g1 | ⟨g1, g2⟩
        · go_wp2
          go_round
          case rel => exact ⟨k + 1, _, by omega, by go_num, rfl, by show _ = _; rw [cat_l, cat_l, HQ.out, HP.out, HT.out]; exact HB.out⟩
          case measure => simp [intOf]; omega
        · go_wp2
          go_round
          case rel => exact ⟨k + 1, _, by omega, by go_num, rfl, by show _ = _; rw [cat_l, cat_l, HQ.out, HP.out, HT.out]; exact HB.out⟩
          case measure => simp [intOf]; omega
    · obtain rfl : k = s.size := by omega
      have i1 : ¬ (s.size : Int) < (s.size : Int) := by omega
      go_wp2
      go_ret
      refine ⟨ret_strW (of_list ?_), rfl⟩
      rw [cat_l, HQ.out, take_all s]
      rfl

set_option maxHeartbeats 1000000 in
theorem spelt_quo (t : Tk) (w : World) (hs : t.s.size ≤ 140737488351232) (h3 : t.kind = 3) :
    Calls Tryd.prog 18 #[.agg #[.int .i64 t.kind, .string t.s, .int .i64 t.at_]] w fun e w' => (∃ u, e = .returned (.tuple #[.string u, .bool (spB t)]) ∧ (spB t = true → u = ⟨(wtn t).toArray⟩)) ∧ Below w.heap.size w w' := by
  have hl : t.s.data.toList.length = t.s.size := by simp
  have hb0 : Below w.heap.size w (w.alloc (.cells #[.int .i64 t.kind, .string t.s, .int .i64 t.at_] 36)) := (Below.refl _ _).alloc (Nat.le_refl _) _
  have HB : Hid (spB t = textOk t.s.data.toList) := spB_quo h3
  have HW : Hid (textOk t.s.data.toList = true → (⟨(quoted t.s.data.toList).toArray⟩ : ByteArray) = ⟨(wtn t).toArray⟩) := fun h => by rw [wr_quo h3, if_pos h]
  have e3 : (t.kind == 3) = true := by simpa using h3
  have HQ := fun w => quotedW_any t.s w hs
  have HT := fun w => textFault_any t.s w (by unfold maxLen; omega)
  have HTF : Hid ((tfault t.s.data.toList == 0) = textOk t.s.data.toList) := by
    show _ = _
    cases h : textOk t.s.data.toList with
    | true => rw [tfault_ok h]; rfl
    | false => have := tfault_not h; simpa using this
  generalize tfault t.s.data.toList = N at *
  generalize (⟨(quoted t.s.data.toList).toArray⟩ : ByteArray) = Q at *
  clear h3
  go_enter Tryd.func18, Tryd.ntmps18
  go_wp2
  go_quiet ((first | (go_at_call 32; exact Calls.quiet_of_same (HQ _)) | (go_at_call 33; exact Calls.quiet_of_same (HT _))))
  go_wp2
  go_ret2
  refine ⟨⟨Q, ?_, fun h => HW.out (by rw [← HB.out]; exact h)⟩, below_draws hb0 _⟩
  rw [HB.out, ← HTF.out]
  rfl

set_option maxHeartbeats 1000000 in
theorem spelt_slot (t : Tk) (w : World) (hs : t.s.size ≤ 140737488351232) (h4 : t.kind = 4) :
    Calls Tryd.prog 18 #[.agg #[.int .i64 t.kind, .string t.s, .int .i64 t.at_]] w fun e w' => (∃ u, e = .returned (.tuple #[.string u, .bool (spB t)]) ∧ (spB t = true → u = ⟨(wtn t).toArray⟩)) ∧ Below w.heap.size w w' := by
  have hb0 : Below w.heap.size w (w.alloc (.cells #[.int .i64 t.kind, .string t.s, .int .i64 t.at_] 36)) := (Below.refl _ _).alloc (Nat.le_refl _) _
  have HB : Hid (spB t = (nfault t.s.data.toList == 0)) := spB_slot h4
  have HW : Hid ((⟨#[63]⟩ ++ t.s : ByteArray) = ⟨(wtn t).toArray⟩) := of_list (by rw [wr_slot h4]; simp)
  have e3 : (t.kind == 3) = false := by rw [h4]; rfl
  have e4 : (t.kind == 4) = true := by rw [h4]; rfl
  have i1 : ¬ 9223372036854775807 < 1 + t.s.size := by omega
  have HN := fun w => nameFault_any t.s w (by unfold maxLen; omega)
  generalize nfault t.s.data.toList = N at *
  clear h4
  go_enter Tryd.func18, Tryd.ntmps18
  go_wp2
  go_quiet ((go_at_call 27; exact Calls.quiet_of_same (HN _)))
  go_wp2
  go_ret2
  refine ⟨⟨⟨#[63]⟩ ++ t.s, ?_, fun _ => HW.out⟩, below_draws hb0 _⟩
  rw [HB.out]
  rfl

theorem spB_else {t : Tk} (h3 : t.kind ≠ 3) (h4 : t.kind ≠ 4) (hs : 0 < t.s.size) : spB t = (!(t.s[0].toNat == 32 || t.s[0].toNat == 34 || t.s[0].toNat == 63) && whole t.kind t.s.data.toList) := by
  unfold spB
  rw [if_neg h3, if_neg h4]
  have e : t.s.data.toList = t.s[0] :: t.s.data.toList.drop 1 := by simpa using drop_at t.s 0 hs
  rw [e]
theorem spB_none {t : Tk} (h3 : t.kind ≠ 3) (h4 : t.kind ≠ 4) (hs : t.s.size = 0) : spB t = false := by
  unfold spB
  rw [if_neg h3, if_neg h4]
  have e : t.s.data.toList = [] := List.eq_nil_of_length_eq_zero (by simpa using hs)
  rw [e]
/-- How Spelt ends. -/
def SpeltPost (t : Tk) (e : Ending) : Prop := ∃ u, e = .returned (.tuple #[.string u, .bool (spB t)]) ∧ (spB t = true → u = ⟨(wtn t).toArray⟩)
theorem spelt_no {t : Tk} {u : ByteArray} (h : spB t = false) : SpeltPost t (.returned (.tuple #[.string u, .bool false])) := ⟨u, by rw [h], fun h2 => by rw [h] at h2; cases h2⟩
theorem spelt_yes {t : Tk} (h : spB t = true) (h3 : t.kind ≠ 3) (h4 : t.kind ≠ 4) : SpeltPost t (.returned (.tuple #[.string t.s, .bool true])) := ⟨t.s, by rw [h], fun _ => of_list (wr_else h3 h4).symm⟩

set_option maxRecDepth 100000 in
set_option maxHeartbeats 2000000 in
theorem spelt_else (t : Tk) (w : World) (hs : t.s.size ≤ 140737488351232) (h3 : t.kind ≠ 3) (h4 : t.kind ≠ 4) :
    Calls Tryd.prog 18 #[.agg #[.int .i64 t.kind, .string t.s, .int .i64 t.at_]] w fun e w' => SpeltPost t e ∧ Below w.heap.size w w' := by
  have hb0 : Below w.heap.size w (w.alloc (.cells #[.int .i64 t.kind, .string t.s, .int .i64 t.at_] 36)) := (Below.refl _ _).alloc (Nat.le_refl _) _
  have e3 : (t.kind == 3) = false := by simpa using h3
  have e4 : (t.kind == 4) = false := by simpa using h4
  by_cases h0 : t.s.size = 0
  · have HB : Hid (spB t = false) := spB_none h3 h4 h0
    have z0 : ((t.s.size : Int) == 0) = true := by simpa using h0
    clear h3 h4
    go_enter Tryd.func18, Tryd.ntmps18
    go_wp2
    go_ret2
    exact ⟨spelt_no HB.out, hb0⟩
  · have hp : 0 < t.s.size := by omega
    have z0 : ((t.s.size : Int) == 0) = false := by simpa using h0
    have i0 : (0 : Int) < (t.s.size : Int) := by omega
    have HE : Hid (_ = _) := spB_else h3 h4 hp
    cases a1 : (t.s[0].toNat == 32) <;> cases a2 : (t.s[0].toNat == 34) <;> cases a3 : (t.s[0].toNat == 63)
    · have n1 : ((t.s[0].toNat : Int) == 32) = false := by simp at a1 ⊢; omega
      have n2 : ((t.s[0].toNat : Int) == 34) = false := by simp at a2 ⊢; omega
      have n3 : ((t.s[0].toNat : Int) == 63) = false := by simp at a3 ⊢; omega
      have HE2 : Hid (spB t = whole t.kind t.s.data.toList) := by show _ = _; rw [HE.out, a1, a2, a3]; rfl
      have H1 := fun w => refWord_any t.s 0 w hp hs
      rw [List.drop_zero] at H1
      have HY : Hid (spB t = true → SpeltPost t (.returned (.tuple #[.string t.s, .bool true]))) := fun h => spelt_yes h h3 h4
      clear a1 a2 a3 HE h3 h4
      cases hw : word1 t.s.data.toList with
      | error n =>
        have HB : Hid (spB t = false) := by show _ = _; rw [HE2.out]; unfold whole; rw [hw]
        have hn0 := word1_err hw
        rw [hw] at H1
        unfold refW at H1
        simp only [] at H1
        clear hw
        go_enter Tryd.func18, Tryd.ntmps18
        go_wp2_with fail
        refine (H1 _).mono ?_
        rintro e w1 ⟨rfl, hb⟩
        have q0 : ∀ o, w1.cell? ⟨w.heap.size, o, none⟩ = _ := fun o => hb.cell (p := ⟨w.heap.size, o, none⟩) (by simp)
        have d0 : w1.cell? ⟨w.heap.size, 0, none⟩ = some (.int .i64 t.kind) := (q0 0).trans (by simp [go_sem])
        have d1 : w1.cell? ⟨w.heap.size, 1, none⟩ = some (.string t.s) := (q0 1).trans (by simp [go_sem])
        have hlt : w.heap.size < w1.heap.size := by have := hb.size; simp at this; omega
        have hb1 := hb0.trans (hb.mono hb0.size)
        have hb2 := hb1.alloc hb1.size (.cells #[.int .i64 0, .string ⟨#[]⟩, .int .i64 0] 36)
        clear q0
        go_wp2
        go_quiet (fail)
        go_wp2
        go_ret2
        exact ⟨spelt_no HB.out, below_draws hb2 _⟩
      | ok x =>
        obtain ⟨k, x, n⟩ := x
        rw [hw] at H1
        unfold refW at H1
        simp only [] at H1
        have HWh : Hid (whole t.kind t.s.data.toList = (n == t.s.data.toList.length && k == t.kind && x == t.s.data.toList)) := by show _ = _; unfold whole; rw [hw]
        have hl : t.s.data.toList.length = t.s.size := by simp
        rw [hl] at HWh
        obtain ⟨_, hn2⟩ := word1_size hw
        rw [hl] at hn2
        simp only at hn2
        have hzn : ((0 : Nat) : Int) + (n : Int) = (n : Int) := by omega
        rw [hzn] at H1
        clear hw hzn
        have HX : Hid ((⟨x.toArray⟩ : ByteArray).data.toList = x) := rfl
        generalize (⟨x.toArray⟩ : ByteArray) = X at *
        by_cases c1 : n = t.s.size
        · have m1 : ((n : Int) == (t.s.size : Int)) = true := by simp; omega
          by_cases c2 : k = t.kind
          · have m2 : (k == t.kind) = true := by simpa using c2
            by_cases c3 : x = t.s.data.toList
            · have HB : Hid (spB t = true) := by show _ = _; rw [HE2.out, HWh.out, c1, c2, c3]; simp
              have m3 : (X.toList == t.s.toList) = true := by rw [ByteArray.toList_eq, ByteArray.toList_eq, HX.out, c3]; simp
              have HZ : Hid _ := HY.out HB.out
              clear c1 c2 c3
              go_enter Tryd.func18, Tryd.ntmps18
              go_wp2_with fail
              refine (H1 _).mono ?_
              rintro e w1 ⟨rfl, hb⟩
              have q0 : ∀ o, w1.cell? ⟨w.heap.size, o, none⟩ = _ := fun o => hb.cell (p := ⟨w.heap.size, o, none⟩) (by simp)
              have d0 : w1.cell? ⟨w.heap.size, 0, none⟩ = some (.int .i64 t.kind) := (q0 0).trans (by simp [go_sem])
              have d1 : w1.cell? ⟨w.heap.size, 1, none⟩ = some (.string t.s) := (q0 1).trans (by simp [go_sem])
              have hlt : w.heap.size < w1.heap.size := by have := hb.size; simp at this; omega
              have hb1 := hb0.trans (hb.mono hb0.size)
              have hb2 := hb1.alloc hb1.size (.cells #[.int .i64 k, .string X, .int .i64 0] 36)
              clear q0
              go_wp2
              go_quiet (fail)
              go_wp2
              go_ret2
              exact ⟨HZ.out, below_draws hb2 _⟩
            · have HB : Hid (spB t = false) := by
                show _ = _; rw [HE2.out, HWh.out]
                have : (x == t.s.data.toList) = false := by simpa using c3
                rw [this]; simp
              have m3 : (X.toList == t.s.toList) = false := by rw [ByteArray.toList_eq, ByteArray.toList_eq, HX.out]; simpa using c3
              clear c1 c2 c3
              go_enter Tryd.func18, Tryd.ntmps18
              go_wp2_with fail
              refine (H1 _).mono ?_
              rintro e w1 ⟨rfl, hb⟩
              have q0 : ∀ o, w1.cell? ⟨w.heap.size, o, none⟩ = _ := fun o => hb.cell (p := ⟨w.heap.size, o, none⟩) (by simp)
              have d0 : w1.cell? ⟨w.heap.size, 0, none⟩ = some (.int .i64 t.kind) := (q0 0).trans (by simp [go_sem])
              have d1 : w1.cell? ⟨w.heap.size, 1, none⟩ = some (.string t.s) := (q0 1).trans (by simp [go_sem])
              have hlt : w.heap.size < w1.heap.size := by have := hb.size; simp at this; omega
              have hb1 := hb0.trans (hb.mono hb0.size)
              have hb2 := hb1.alloc hb1.size (.cells #[.int .i64 k, .string X, .int .i64 0] 36)
              clear q0
              go_wp2
              go_quiet (fail)
              go_wp2
              go_ret2
              exact ⟨spelt_no HB.out, below_draws hb2 _⟩
          · have m2 : (k == t.kind) = false := by simpa using c2
            have HB : Hid (spB t = false) := by show _ = _; rw [HE2.out, HWh.out, m2]; simp
            clear c1 c2
            go_enter Tryd.func18, Tryd.ntmps18
            go_wp2_with fail
            refine (H1 _).mono ?_
            rintro e w1 ⟨rfl, hb⟩
            have q0 : ∀ o, w1.cell? ⟨w.heap.size, o, none⟩ = _ := fun o => hb.cell (p := ⟨w.heap.size, o, none⟩) (by simp)
            have d0 : w1.cell? ⟨w.heap.size, 0, none⟩ = some (.int .i64 t.kind) := (q0 0).trans (by simp [go_sem])
            have d1 : w1.cell? ⟨w.heap.size, 1, none⟩ = some (.string t.s) := (q0 1).trans (by simp [go_sem])
            have hlt : w.heap.size < w1.heap.size := by have := hb.size; simp at this; omega
            have hb1 := hb0.trans (hb.mono hb0.size)
            have hb2 := hb1.alloc hb1.size (.cells #[.int .i64 k, .string X, .int .i64 0] 36)
            clear q0
            go_wp2
            go_quiet (fail)
            go_wp2
            go_ret2
            exact ⟨spelt_no HB.out, below_draws hb2 _⟩
        · have m1 : ((n : Int) == (t.s.size : Int)) = false := by simp; omega
          have HB : Hid (spB t = false) := by
            show _ = _; rw [HE2.out, HWh.out]
            have : (n == t.s.size) = false := by simpa using c1
            rw [this]; simp
          clear c1
          go_enter Tryd.func18, Tryd.ntmps18
          go_wp2_with fail
          refine (H1 _).mono ?_
          rintro e w1 ⟨rfl, hb⟩
          have q0 : ∀ o, w1.cell? ⟨w.heap.size, o, none⟩ = _ := fun o => hb.cell (p := ⟨w.heap.size, o, none⟩) (by simp)
          have d0 : w1.cell? ⟨w.heap.size, 0, none⟩ = some (.int .i64 t.kind) := (q0 0).trans (by simp [go_sem])
          have d1 : w1.cell? ⟨w.heap.size, 1, none⟩ = some (.string t.s) := (q0 1).trans (by simp [go_sem])
          have hlt : w.heap.size < w1.heap.size := by have := hb.size; simp at this; omega
          have hb1 := hb0.trans (hb.mono hb0.size)
          have hb2 := hb1.alloc hb1.size (.cells #[.int .i64 k, .string X, .int .i64 0] 36)
          clear q0
          go_wp2
          go_quiet (fail)
          go_wp2
          go_ret2
          exact ⟨spelt_no HB.out, below_draws hb2 _⟩
    all_goals
      have HB : Hid (spB t = false) := by show _ = _; rw [HE.out, a1, a2, a3]; rfl
      clear h3 h4 HE
    · have n1 : ((t.s[0].toNat : Int) == 32) = false := by simp at a1 ⊢; omega
      have n2 : ((t.s[0].toNat : Int) == 34) = false := by simp at a2 ⊢; omega
      have n3 : ((t.s[0].toNat : Int) == 63) = true := by simp at a3 ⊢; omega
      clear a1 a2 a3
      go_enter Tryd.func18, Tryd.ntmps18
      go_wp2
      go_ret2
      exact ⟨spelt_no HB.out, hb0⟩
    · have n1 : ((t.s[0].toNat : Int) == 32) = false := by simp at a1 ⊢; omega
      have n2 : ((t.s[0].toNat : Int) == 34) = true := by simp at a2 ⊢; omega
      clear a1 a2 a3
      go_enter Tryd.func18, Tryd.ntmps18
      go_wp2
      go_ret2
      exact ⟨spelt_no HB.out, hb0⟩
    · exfalso; simp at a2 a3; omega
    all_goals
      have n1 : ((t.s[0].toNat : Int) == 32) = true := by simp at a1 ⊢; omega
      clear a1 a2 a3
      go_enter Tryd.func18, Tryd.ntmps18
      go_wp2
      go_ret2
      exact ⟨spelt_no HB.out, hb0⟩

theorem spelt_any (t : Tk) (w : World) (hs : t.s.size ≤ 140737488351232) :
    Calls Tryd.prog 18 #[.agg #[.int .i64 t.kind, .string t.s, .int .i64 t.at_]] w fun e w' => SpeltPost t e ∧ Below w.heap.size w w' := by
  by_cases h3 : t.kind = 3
  · exact spelt_quo t w hs h3
  · by_cases h4 : t.kind = 4
    · exact spelt_slot t w hs h4
    · exact spelt_else t w hs h3 h4
end Go.Proofs.YtmcjogfopfhblaaDoor
