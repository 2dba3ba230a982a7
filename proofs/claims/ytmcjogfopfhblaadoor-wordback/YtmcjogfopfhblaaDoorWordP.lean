/- Package word's write and spellOne, by walks of their own texts. -/
import Derived.Test.YtmcjogfopfhblaaDoorWordR
import Derived.Test.YtmcjogfopfhblaaDoorSpellL
import Derived.Test.YtmcjogfopfhblaaDoorQuoteN
import Derived.Laws.StructEq
namespace Go.Proofs.YtmcjogfopfhblaaDoor
open Go.RowKit
set_option linter.unusedVariables false

/-- What Quote tells, its text written out. -/
theorem quoteW_any (s : ByteArray) (w : World) (hs : s.size ≤ maxLen) :
    Calls Tryd.prog 47 #[.string s] w fun e w' => (∃ v, e = .returned (.tuple #[.string ⟨(if textOk s.data.toList = true then quoted s.data.toList else []).toArray⟩, v])) ∧ Below w.heap.size w w' := by
  have hl : s.data.toList.length = s.size := by simp
  by_cases h1 : s.size ≤ 60
  · refine (quote_short s w h1).mono ?_
    rintro e w' ⟨rfl, hb⟩
    cases h2 : s.data.toList.all okb
    · have : textOk s.data.toList = false := by unfold textOk; rw [h2]; simp
      exact ⟨⟨_, by rw [qres_bad h2, this]; rfl⟩, hb⟩
    · have : textOk s.data.toList = true := by unfold textOk; rw [h2, decide_eq_true (by omega)]; rfl
      exact ⟨⟨_, by rw [qres_ok h2, this]; rfl⟩, hb⟩
  · refine (quote_full s w hs (by omega)).mono ?_
    rintro e w' ⟨rfl, rfl⟩
    have : textOk s.data.toList = false := by unfold textOk; rw [decide_eq_false (by omega)]; rfl
    exact ⟨⟨_, by rw [this]; rfl⟩, Below.refl _ _⟩

theorem ba_same {a b : ByteArray} (h : a.data.toList = b.data.toList) : a = b := by
  have := of_list h
  rw [this]
theorem wr_ba {t : Tk} {b : ByteArray} (h : b.data.toList = wtn t) : b = ⟨(wtn t).toArray⟩ := by rw [← h]

set_option maxHeartbeats 1000000 in
theorem write_any (t : Tk) (w : World) (hs : t.s.size ≤ 140737488351232) :
    Calls Tryd.prog 31 #[.agg #[.int .i64 t.kind, .string t.s, .int .i64 t.at_]] w fun e w' => e = .returned (.string ⟨(wtn t).toArray⟩) ∧ Below w.heap.size w w' := by
  have hb0 : Below w.heap.size w (w.alloc (.cells #[.int .i64 t.kind, .string t.s, .int .i64 t.at_] 36)) := (Below.refl _ _).alloc (Nat.le_refl _) _
  by_cases h4 : t.kind = 4
  · have HW : Hid ((⟨#[63]⟩ ++ t.s : ByteArray) = ⟨(wtn t).toArray⟩) := wr_ba (by rw [wr_slot h4]; simp)
    have e4 : (t.kind == 4) = true := by simpa using h4
    have i1 : ¬ 9223372036854775807 < 1 + t.s.size := by omega
    clear h4
    go_enter Tryd.func31, Tryd.ntmps31
    go_wp2
    go_ret
    exact ⟨by rw [← HW.out]; rfl, hb0⟩
  · have e4 : (t.kind == 4) = false := by simpa using h4
    by_cases h3 : t.kind = 3
    · have HW : Hid (wtn t = if textOk t.s.data.toList = true then quoted t.s.data.toList else []) := wr_quo h3
      have e3 : (t.kind == 3) = true := by simpa using h3
      have H1 := fun w => quoteW_any t.s w (by unfold maxLen; omega)
      rw [← HW.out] at H1
      clear h4 h3
      go_enter Tryd.func31, Tryd.ntmps31
      go_wp2_with fail
      refine (H1 _).mono ?_
      rintro e w1 ⟨⟨v, rfl⟩, hb⟩
      go_wp2
      go_ret
      exact ⟨rfl, hb0.trans (hb.mono hb0.size)⟩
    · have HW : Hid (t.s = ⟨(wtn t).toArray⟩) := wr_ba (wr_else h3 h4).symm
      have e3 : (t.kind == 3) = false := by simpa using h3
      clear h4 h3
      go_enter Tryd.func31, Tryd.ntmps31
      go_wp2
      go_ret
      exact ⟨by rw [← HW.out]; rfl, hb0⟩

theorem wr_size (t : Tk) : (wtn t).length ≤ t.s.size + 122 := by
  have hl : t.s.data.toList.length = t.s.size := by simp
  unfold wtn
  split
  · simp
  · split
    · split
      · rename_i h
        unfold textOk at h
        rw [Bool.and_eq_true, decide_eq_true_eq] at h
        have := body_length t.s.data.toList
        unfold quoted
        rw [List.length_cons, List.length_append, List.length_cons, List.length_nil]; omega
      · simp
    · omega

/-- What spellOne tells. -/
def oneV (t : Tk) : Value := if spB t = true then .tuple #[.string ⟨(wtn t).toArray⟩, .nilIface] else .tuple #[.string ⟨#[]⟩, .iface 27 (.int .i64 1)]
theorem oneV_yes {t : Tk} (h : spB t = true) : oneV t = .tuple #[.string ⟨(wtn t).toArray⟩, .nilIface] := if_pos h
theorem oneV_no {t : Tk} (h : ¬ spB t = true) : oneV t = .tuple #[.string ⟨#[]⟩, .iface 27 (.int .i64 1)] := if_neg h

set_option maxHeartbeats 2000000 in
theorem spellOne_any (t : Tk) (w : World) (hs : t.s.size ≤ 140737488351232) :
    Calls Tryd.prog 17 #[.agg #[.int .i64 t.kind, .string t.s, .int .i64 t.at_]] w fun e w' => e = .returned (oneV t) ∧ Below w.heap.size w w' := by
  have hb0 : Below w.heap.size w (w.alloc (.cells #[.int .i64 t.kind, .string t.s, .int .i64 t.at_] 36)) := (Below.refl _ _).alloc (Nat.le_refl _) _
  have H1 := fun w => write_any t w hs
  have hwl := wr_size t
  have H2 := fun w => read_any ⟨(wtn t).toArray⟩ w (by show (wtn t).length ≤ maxLen; unfold maxLen; omega)
  have HD : (⟨(wtn t).toArray⟩ : ByteArray).data.toList = wtn t := rfl
  rw [HD] at H2
  generalize hB : (⟨(wtn t).toArray⟩ : ByteArray) = B at *
  cases hR : readL (wtn t) with
  | error x =>
    have HV : Hid (_ = _) := oneV_no (t := t) (fun h => by have := spB_read h; rw [hR] at this; cases this)
    rw [hR] at H2
    clear hR HD hwl hB
    go_enter Tryd.func17, Tryd.ntmps17
    go_wp2_with fail
    refine (H1 _).mono ?_
    rintro e w1 ⟨rfl, hb1⟩
    go_wp2_with fail
    refine (H2 _).mono ?_
    rintro e w2 ⟨rfl, hb2⟩
    have hb3 := hb1.trans (hb2.mono hb1.size)
    have q0 : ∀ o, w2.cell? ⟨w.heap.size, o, none⟩ = _ := fun o => hb3.cell (p := ⟨w.heap.size, o, none⟩) (by simp)
    have qf : ∀ o, w2.frozen? ⟨w.heap.size, o, none⟩ = _ := fun o => hb3.frozen (p := ⟨w.heap.size, o, none⟩) (by simp)
    have d0 : w2.cell? ⟨w.heap.size, 0, none⟩ = some (.int .i64 t.kind) := (q0 0).trans (by simp [go_sem])
    have d1 : w2.cell? ⟨w.heap.size, 1, none⟩ = some (.string t.s) := (q0 1).trans (by simp [go_sem])
    have d2 : w2.cell? ⟨w.heap.size, 2, none⟩ = some (.int .i64 t.at_) := (q0 2).trans (by simp [go_sem])
    have f2 : w2.frozen? ⟨w.heap.size, 2, none⟩ = false := (qf 2).trans (by simp [go_sem])
    have hb4 := hb0.trans (hb3.mono hb0.size)
    clear q0 qf
    go_wp2_with fail
    go_quiet (fail)
    go_wp2
    go_ret2
    exact ⟨by rw [HV.out]; rfl, below_draws (hb4.setCell (Nat.le_refl _) _) _⟩
  | ok us =>
    rw [hR] at H2
    by_cases h1 : us.length = 1
    · obtain ⟨u, rfl⟩ : ∃ u, us = [u] := List.length_eq_one_iff.1 h1
      by_cases hk : u.kind = t.kind ∧ u.s = t.s ∧ u.at_ = 0
      · have HV : Hid (_ = _) := oneV_yes (t := t) (read_spB (by rw [hR]; obtain ⟨e1, e2, e3⟩ := hk; cases u; simp only at e1 e2 e3; subst e1 e2 e3; rfl))
        obtain ⟨e1, e2, e3⟩ := hk
        clear hR HD hwl h1
        go_enter Tryd.func17, Tryd.ntmps17
        go_wp2_with fail
        refine (H1 _).mono ?_
        rintro e w1 ⟨rfl, hb1⟩
        go_wp2_with fail
        refine (H2 _).mono ?_
        rintro e w2 ⟨⟨q, cp, rfl, hq, _, _, hqn⟩, hb2⟩
        have hb3 := hb1.trans (hb2.mono hb1.size)
        have q0 : ∀ o, w2.cell? ⟨w.heap.size, o, none⟩ = _ := fun o => hb3.cell (p := ⟨w.heap.size, o, none⟩) (by simp)
        have qf : ∀ o, w2.frozen? ⟨w.heap.size, o, none⟩ = _ := fun o => hb3.frozen (p := ⟨w.heap.size, o, none⟩) (by simp)
        have d0 : w2.cell? ⟨w.heap.size, 0, none⟩ = some (.int .i64 t.kind) := (q0 0).trans (by simp [go_sem])
        have d1 : w2.cell? ⟨w.heap.size, 1, none⟩ = some (.string t.s) := (q0 1).trans (by simp [go_sem])
        have d2 : w2.cell? ⟨w.heap.size, 2, none⟩ = some (.int .i64 t.at_) := (q0 2).trans (by simp [go_sem])
        have f2 : w2.frozen? ⟨w.heap.size, 2, none⟩ = false := (qf 2).trans (by simp [go_sem])
        have hb4 := hb0.trans (hb3.mono hb0.size)
        have hb1s : w.heap.size + 1 ≤ w1.heap.size := by have := hb1.size; simpa using this
        clear q0 qf
        have hcell := hq.at (i := 0) (by simp)
        obtain ⟨b, off, rfl, hbw, c0, c1, c2⟩ := hcell
        simp only [List.getElem_cons_zero, Nat.zero_mul, Nat.add_zero] at c0 c1 c2
        have hbn := hqn _ rfl
        simp only at hbn
        have nb : ∀ o : Nat, (⟨w.heap.size, 2, none⟩ : Addr) ≠ ⟨b, o, none⟩ := by intro o hh; injection hh; omega
        have g0 := (World.cell?_setCell_other w2 _ _ (.int .i64 0) (nb off)).trans c0
        have g1 := (World.cell?_setCell_other w2 _ _ (.int .i64 0) (nb (off + 1))).trans c1
        have g2 := (World.cell?_setCell_other w2 _ _ (.int .i64 0) (nb (off + 2))).trans c2
        have n0 : (⟨w.heap.size, 2, none⟩ : Addr) ≠ ⟨w.heap.size, 0, none⟩ := by intro hh; injection hh; omega
        have n1 : (⟨w.heap.size, 2, none⟩ : Addr) ≠ ⟨w.heap.size, 1, none⟩ := by intro hh; injection hh; omega
        have k0 := (World.cell?_setCell_other w2 _ _ (.int .i64 0) n0).trans d0
        have k1 := (World.cell?_setCell_other w2 _ _ (.int .i64 0) n1).trans d1
        have k2 := World.cell?_setCell_same w2 _ (.int .i64 0) d2
        have hsz : w.heap.size < w2.heap.size := by have := hb2.size; omega
        rw [e1] at g0
        rw [e2] at g1
        rw [e3] at g2
        clear c0 c1 c2 e1 e2 e3
        go_wp2_with fail
        go_quiet (fail)
        go_wp2
        go_ret2
        exact ⟨by rw [HV.out, hB]; rfl, below_draws (hb4.setCell (Nat.le_refl _) _) _⟩
      · have HV : Hid (_ = _) := oneV_no (t := t) (fun h => hk (by have := spB_read h; rw [hR] at this; injection this with this; injection this with this _; rw [this]; exact ⟨rfl, rfl, rfl⟩))
        clear hR HD hwl h1 hB
        go_enter Tryd.func17, Tryd.ntmps17
        go_wp2_with fail
        refine (H1 _).mono ?_
        rintro e w1 ⟨rfl, hb1⟩
        go_wp2_with fail
        refine (H2 _).mono ?_
        rintro e w2 ⟨⟨q, cp, rfl, hq, _, _, hqn⟩, hb2⟩
        have hb3 := hb1.trans (hb2.mono hb1.size)
        have q0 : ∀ o, w2.cell? ⟨w.heap.size, o, none⟩ = _ := fun o => hb3.cell (p := ⟨w.heap.size, o, none⟩) (by simp)
        have qf : ∀ o, w2.frozen? ⟨w.heap.size, o, none⟩ = _ := fun o => hb3.frozen (p := ⟨w.heap.size, o, none⟩) (by simp)
        have d0 : w2.cell? ⟨w.heap.size, 0, none⟩ = some (.int .i64 t.kind) := (q0 0).trans (by simp [go_sem])
        have d1 : w2.cell? ⟨w.heap.size, 1, none⟩ = some (.string t.s) := (q0 1).trans (by simp [go_sem])
        have d2 : w2.cell? ⟨w.heap.size, 2, none⟩ = some (.int .i64 t.at_) := (q0 2).trans (by simp [go_sem])
        have f2 : w2.frozen? ⟨w.heap.size, 2, none⟩ = false := (qf 2).trans (by simp [go_sem])
        have hb4 := hb0.trans (hb3.mono hb0.size)
        have hb1s : w.heap.size + 1 ≤ w1.heap.size := by have := hb1.size; simpa using this
        clear q0 qf
        have hcell := hq.at (i := 0) (by simp)
        obtain ⟨b, off, rfl, hbw, c0, c1, c2⟩ := hcell
        simp only [List.getElem_cons_zero, Nat.zero_mul, Nat.add_zero] at c0 c1 c2
        have hbn := hqn _ rfl
        simp only at hbn
        have nb : ∀ o : Nat, (⟨w.heap.size, 2, none⟩ : Addr) ≠ ⟨b, o, none⟩ := by intro o hh; injection hh; omega
        have g0 := (World.cell?_setCell_other w2 _ _ (.int .i64 0) (nb off)).trans c0
        have g1 := (World.cell?_setCell_other w2 _ _ (.int .i64 0) (nb (off + 1))).trans c1
        have g2 := (World.cell?_setCell_other w2 _ _ (.int .i64 0) (nb (off + 2))).trans c2
        have n0 : (⟨w.heap.size, 2, none⟩ : Addr) ≠ ⟨w.heap.size, 0, none⟩ := by intro hh; injection hh; omega
        have n1 : (⟨w.heap.size, 2, none⟩ : Addr) ≠ ⟨w.heap.size, 1, none⟩ := by intro hh; injection hh; omega
        have k0 := (World.cell?_setCell_other w2 _ _ (.int .i64 0) n0).trans d0
        have k1 := (World.cell?_setCell_other w2 _ _ (.int .i64 0) n1).trans d1
        have k2 := World.cell?_setCell_same w2 _ (.int .i64 0) d2
        have hsz : w.heap.size < w2.heap.size := by have := hb2.size; omega
        clear c0 c1 c2
        obtain ⟨tk, ts, ta⟩ := t
        obtain ⟨uk, us, ua⟩ := u
        simp only at *
        by_cases e1 : uk = tk
        · subst e1
          by_cases e2 : us = ts
          · subst e2
            have e3 : ¬ ua = 0 := fun h => hk ⟨rfl, rfl, h⟩
            clear hk
            go_wp2_with fail
            go_quiet (fail)
            go_wp2
            go_ret2
            exact ⟨by rw [HV.out]; rfl, below_draws (hb4.setCell (Nat.le_refl _) _) _⟩
          · have e2' : ¬ us.toList = ts.toList := fun h => e2 (ba_same (by simpa only [ByteArray.toList_eq] using h))
            clear hk
            go_wp2_with fail
            go_quiet (fail)
            go_wp2
            go_ret2
            exact ⟨by rw [HV.out]; rfl, below_draws (hb4.setCell (Nat.le_refl _) _) _⟩
        · clear hk
          go_wp2_with fail
          go_quiet (fail)
          go_wp2
          go_ret2
          exact ⟨by rw [HV.out]; rfl, below_draws (hb4.setCell (Nat.le_refl _) _) _⟩
    · have HV : Hid (_ = _) := oneV_no (t := t) (fun h => by have := spB_read h; rw [hR] at this; injection this with this; rw [this] at h1; simp at h1)
      have i1 : ((us.length : Int) != 1) = true := by simp; omega
      clear hR HD hwl hB
      go_enter Tryd.func17, Tryd.ntmps17
      go_wp2_with fail
      refine (H1 _).mono ?_
      rintro e w1 ⟨rfl, hb1⟩
      go_wp2_with fail
      refine (H2 _).mono ?_
      rintro e w2 ⟨⟨q, cp, rfl, hq, _, _, hqn⟩, hb2⟩
      have hb3 := hb1.trans (hb2.mono hb1.size)
      have q0 : ∀ o, w2.cell? ⟨w.heap.size, o, none⟩ = _ := fun o => hb3.cell (p := ⟨w.heap.size, o, none⟩) (by simp)
      have qf : ∀ o, w2.frozen? ⟨w.heap.size, o, none⟩ = _ := fun o => hb3.frozen (p := ⟨w.heap.size, o, none⟩) (by simp)
      have d0 : w2.cell? ⟨w.heap.size, 0, none⟩ = some (.int .i64 t.kind) := (q0 0).trans (by simp [go_sem])
      have d1 : w2.cell? ⟨w.heap.size, 1, none⟩ = some (.string t.s) := (q0 1).trans (by simp [go_sem])
      have d2 : w2.cell? ⟨w.heap.size, 2, none⟩ = some (.int .i64 t.at_) := (q0 2).trans (by simp [go_sem])
      have f2 : w2.frozen? ⟨w.heap.size, 2, none⟩ = false := (qf 2).trans (by simp [go_sem])
      have hb4 := hb0.trans (hb3.mono hb0.size)
      have hb1s : w.heap.size + 1 ≤ w1.heap.size := by have := hb1.size; simpa using this
      clear q0 qf
      go_wp2_with fail
      go_quiet (fail)
      go_wp2
      go_ret2
      exact ⟨by rw [HV.out]; rfl, below_draws (hb4.setCell (Nat.le_refl _) _) _⟩
end Go.Proofs.YtmcjogfopfhblaaDoor
