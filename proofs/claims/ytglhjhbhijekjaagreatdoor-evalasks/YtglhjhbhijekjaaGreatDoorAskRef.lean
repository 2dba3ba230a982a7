/- The document's AskFault: by a walk of its own text. -/
import Derived.Test.YtglhjhbhijekjaaGreatDoorG39
import Derived.Test.YtglhjhbhijekjaaGreatDoorUidF
import Derived.Test.YtglhjhbhijekjaaGreatDoorValFault
namespace Go.Proofs.YtglhjhbhijekjaaGreatDoor
open Go.RowKit
set_option linter.unusedVariables false
set_option maxRecDepth 100000

theorem uidR_any (u : Ui) (w : World) (h : UOk u) : Calls Tryz.prog 25 #[.agg #[.string u.t, .string u.i]] w fun e w' => e = .returned (.int .i64 (uf u)) ∧ Below w.heap.size w w' := uidFault_any u.t u.i w h.1 h.2
theorem nl_head {w : World} {b off : Nat} {v r : List Nd} {y : Nd} (h : NL w (some ⟨b, off, none⟩) v) (e : v = y :: r) : w.cell? ⟨b, off, none⟩ = some (.int .i64 y.op) := by
  subst e
  obtain ⟨b', off', e, _, x0, _⟩ := h.at (i := 0) (by simp)
  cases e
  simpa using x0
set_option maxHeartbeats 2000000 in
theorem askFault_any (q : Rq) (pq : Option Addr) (cq : Nat) (w : World) (h : RqArg w q pq cq) :
    Calls Tryz.prog 11 #[reqV q pq cq] w fun e w' => e = .returned (.int .i64 (askf q)) ∧ Below w.heap.size w w' := by
  by_cases z0 : uf q.who = 0
  · by_cases z1 : uf q.act = 0
    · by_cases z2 : uf q.what = 0
      · by_cases zv : vfault q.cx = 0
        · obtain ⟨y, r, ex, _⟩ := value_head zv
          have HF : Hid (afault q.cx = if y.op = 6 then 0 else 2) := by show _ = _; unfold afault; rw [if_pos zv, ex]
          have i2 : (0 : Int) < (q.cx.length : Int) := by rw [ex]; simp
          have HV := fun w1 h1 => valueFault_any q.cx pq cq w1 h1 h.le h.cm
          rw [zv] at HV
          obtain ⟨b0, off, hpq, hbb0, hjunk⟩ := h.nl.at (i := 0) (by rw [ex]; simp)
          clear hjunk
          have HPQ : Hid (pq = some ⟨b0, off, none⟩) := hpq
          clear hpq
          have HEX : Hid (q.cx = y :: r) := ex
          clear ex
          have hn := h.nl
          have HU0 := fun w1 => uidR_any q.who w1 h.u0
          rw [z0] at HU0
          have HU1 := fun w1 => uidR_any q.act w1 h.u1
          rw [z1] at HU1
          have HU2 := fun w1 => uidR_any q.what w1 h.u2
          rw [z2] at HU2
          by_cases h6 : y.op = 6
          · have HA : Hid (askf q = 0) := by show _ = _; unfold askf; rw [if_pos z0, if_pos z1, if_pos z2, HF.out, if_pos h6]
            have e6 : (y.op != 6) = false := by simpa using h6
            clear z0 z1 z2 zv h6 HF h
            obtain ⟨W, hW⟩ : ∃ W, W = w.alloc (.cells #[.string q.who.t, .string q.who.i, .string q.act.t, .string q.act.i, .string q.what.t, .string q.what.i, .slice pq q.cx.length cq] 26) := ⟨_, rfl⟩
            have hb_0 : Below w.heap.size w W := by rw [hW]; exact (Below.refl _ _).alloc (Nat.le_refl _) _
            have hq_0 : QB W w.heap.size q pq cq := by rw [hW]; exact QB.new w q pq cq
            have hn_0 := hn.up hb_0
            clear hn
            unfold reqV
            go_enter Tryz.func11, Tryz.ntmps11
            obtain ⟨x0, x1, x2, x3, x4, x5, x6⟩ := hq_0.cells
            go_wp2_with fail
            rw [← hW]
            refine (HU0 _).mono ?_
            rintro _ w1 ⟨rfl, hbb⟩
            clear x0 x1 x2 x3 x4 x5 x6
            have hb_1 := qbt hb_0 hbb
            have hq_1 := hq_0.up hbb
            have hn_1 := hn_0.up hbb
            clear hbb hb_0 hq_0 hn_0
            obtain ⟨x0, x1, x2, x3, x4, x5, x6⟩ := hq_1.cells
            go_wp2_with fail
            refine (HU1 _).mono ?_
            rintro _ w2 ⟨rfl, hbb⟩
            clear x0 x1 x2 x3 x4 x5 x6
            have hb_2 := qbt hb_1 hbb
            have hq_2 := hq_1.up hbb
            have hn_2 := hn_1.up hbb
            clear hbb hb_1 hq_1 hn_1
            obtain ⟨x0, x1, x2, x3, x4, x5, x6⟩ := hq_2.cells
            go_wp2_with fail
            refine (HU2 _).mono ?_
            rintro _ w3 ⟨rfl, hbb⟩
            clear x0 x1 x2 x3 x4 x5 x6
            have hb_3 := qbt hb_2 hbb
            have hq_3 := hq_2.up hbb
            have hn_3 := hn_2.up hbb
            clear hbb hb_2 hq_2 hn_2
            obtain ⟨x0, x1, x2, x3, x4, x5, x6⟩ := hq_3.cells
            go_wp2_with fail
            refine (HV _ hn_3).mono ?_
            rintro _ w4 ⟨rfl, hbb⟩
            clear x0 x1 x2 x3 x4 x5 x6
            have hb_4 := qbt hb_3 hbb
            have hq_4 := hq_3.up hbb
            have hn_4 := hn_3.up hbb
            clear hbb hb_3 hq_3 hn_3
            have hpq := HPQ.out
            subst hpq
            have hbz : b0 < w4.heap.size := by rcases hn_4 with e | ⟨_, _, e, h, _⟩ <;> first | (rw [HEX.out] at e; cases e) | (cases e; exact h)
            have hc0 : w4.cell? ⟨b0, off, none⟩ = some (.int .i64 y.op) := nl_head hn_4 HEX.out
            obtain ⟨x0, x1, x2, x3, x4, x5, x6⟩ := hq_4.cells
            go_wp2_with fail
            go_ret
            rw [HA.out]
            exact ⟨rfl, hb_4⟩
          · have HA : Hid (askf q = 2) := by show _ = _; unfold askf; rw [if_pos z0, if_pos z1, if_pos z2, HF.out, if_neg h6]
            have e6 : (y.op != 6) = true := by simpa using h6
            clear z0 z1 z2 zv h6 HF h
            obtain ⟨W, hW⟩ : ∃ W, W = w.alloc (.cells #[.string q.who.t, .string q.who.i, .string q.act.t, .string q.act.i, .string q.what.t, .string q.what.i, .slice pq q.cx.length cq] 26) := ⟨_, rfl⟩
            have hb_0 : Below w.heap.size w W := by rw [hW]; exact (Below.refl _ _).alloc (Nat.le_refl _) _
            have hq_0 : QB W w.heap.size q pq cq := by rw [hW]; exact QB.new w q pq cq
            have hn_0 := hn.up hb_0
            clear hn
            unfold reqV
            go_enter Tryz.func11, Tryz.ntmps11
            obtain ⟨x0, x1, x2, x3, x4, x5, x6⟩ := hq_0.cells
            go_wp2_with fail
            rw [← hW]
            refine (HU0 _).mono ?_
            rintro _ w1 ⟨rfl, hbb⟩
            clear x0 x1 x2 x3 x4 x5 x6
            have hb_1 := qbt hb_0 hbb
            have hq_1 := hq_0.up hbb
            have hn_1 := hn_0.up hbb
            clear hbb hb_0 hq_0 hn_0
            obtain ⟨x0, x1, x2, x3, x4, x5, x6⟩ := hq_1.cells
            go_wp2_with fail
            refine (HU1 _).mono ?_
            rintro _ w2 ⟨rfl, hbb⟩
            clear x0 x1 x2 x3 x4 x5 x6
            have hb_2 := qbt hb_1 hbb
            have hq_2 := hq_1.up hbb
            have hn_2 := hn_1.up hbb
            clear hbb hb_1 hq_1 hn_1
            obtain ⟨x0, x1, x2, x3, x4, x5, x6⟩ := hq_2.cells
            go_wp2_with fail
            refine (HU2 _).mono ?_
            rintro _ w3 ⟨rfl, hbb⟩
            clear x0 x1 x2 x3 x4 x5 x6
            have hb_3 := qbt hb_2 hbb
            have hq_3 := hq_2.up hbb
            have hn_3 := hn_2.up hbb
            clear hbb hb_2 hq_2 hn_2
            obtain ⟨x0, x1, x2, x3, x4, x5, x6⟩ := hq_3.cells
            go_wp2_with fail
            refine (HV _ hn_3).mono ?_
            rintro _ w4 ⟨rfl, hbb⟩
            clear x0 x1 x2 x3 x4 x5 x6
            have hb_4 := qbt hb_3 hbb
            have hq_4 := hq_3.up hbb
            have hn_4 := hn_3.up hbb
            clear hbb hb_3 hq_3 hn_3
            have hpq := HPQ.out
            subst hpq
            have hbz : b0 < w4.heap.size := by rcases hn_4 with e | ⟨_, _, e, h, _⟩ <;> first | (rw [HEX.out] at e; cases e) | (cases e; exact h)
            have hc0 : w4.cell? ⟨b0, off, none⟩ = some (.int .i64 y.op) := nl_head hn_4 HEX.out
            obtain ⟨x0, x1, x2, x3, x4, x5, x6⟩ := hq_4.cells
            go_wp2_with fail
            go_ret
            rw [HA.out]
            exact ⟨rfl, hb_4⟩
        · have HV := fun w1 h1 => valueFault_any q.cx pq cq w1 h1 h.le h.cm
          have hn := h.nl
          have HU0 := fun w1 => uidR_any q.who w1 h.u0
          rw [z0] at HU0
          have HU1 := fun w1 => uidR_any q.act w1 h.u1
          rw [z1] at HU1
          have HU2 := fun w1 => uidR_any q.what w1 h.u2
          rw [z2] at HU2
          have HA : Hid (askf q = vfault q.cx) := by show _ = _; unfold askf; rw [if_pos z0, if_pos z1, if_pos z2]; unfold afault; rw [if_neg zv]
          have n0 : (vfault q.cx == 0) = false := by simpa using zv
          clear z0 z1 z2 zv h
          generalize vfault q.cx = n at *
          obtain ⟨W, hW⟩ : ∃ W, W = w.alloc (.cells #[.string q.who.t, .string q.who.i, .string q.act.t, .string q.act.i, .string q.what.t, .string q.what.i, .slice pq q.cx.length cq] 26) := ⟨_, rfl⟩
          have hb_0 : Below w.heap.size w W := by rw [hW]; exact (Below.refl _ _).alloc (Nat.le_refl _) _
          have hq_0 : QB W w.heap.size q pq cq := by rw [hW]; exact QB.new w q pq cq
          have hn_0 := hn.up hb_0
          clear hn
          unfold reqV
          go_enter Tryz.func11, Tryz.ntmps11
          obtain ⟨x0, x1, x2, x3, x4, x5, x6⟩ := hq_0.cells
          go_wp2_with fail
          rw [← hW]
          refine (HU0 _).mono ?_
          rintro _ w1 ⟨rfl, hbb⟩
          clear x0 x1 x2 x3 x4 x5 x6
          have hb_1 := qbt hb_0 hbb
          have hq_1 := hq_0.up hbb
          have hn_1 := hn_0.up hbb
          clear hbb hb_0 hq_0 hn_0
          obtain ⟨x0, x1, x2, x3, x4, x5, x6⟩ := hq_1.cells
          go_wp2_with fail
          refine (HU1 _).mono ?_
          rintro _ w2 ⟨rfl, hbb⟩
          clear x0 x1 x2 x3 x4 x5 x6
          have hb_2 := qbt hb_1 hbb
          have hq_2 := hq_1.up hbb
          have hn_2 := hn_1.up hbb
          clear hbb hb_1 hq_1 hn_1
          obtain ⟨x0, x1, x2, x3, x4, x5, x6⟩ := hq_2.cells
          go_wp2_with fail
          refine (HU2 _).mono ?_
          rintro _ w3 ⟨rfl, hbb⟩
          clear x0 x1 x2 x3 x4 x5 x6
          have hb_3 := qbt hb_2 hbb
          have hq_3 := hq_2.up hbb
          have hn_3 := hn_2.up hbb
          clear hbb hb_2 hq_2 hn_2
          obtain ⟨x0, x1, x2, x3, x4, x5, x6⟩ := hq_3.cells
          go_wp2_with fail
          refine (HV _ hn_3).mono ?_
          rintro _ w4 ⟨rfl, hbb⟩
          clear x0 x1 x2 x3 x4 x5 x6
          have hb_4 := qbt hb_3 hbb
          have hq_4 := hq_3.up hbb
          have hn_4 := hn_3.up hbb
          clear hbb hb_3 hq_3 hn_3
          obtain ⟨x0, x1, x2, x3, x4, x5, x6⟩ := hq_4.cells
          go_wp2_with fail
          go_ret
          rw [HA.out]
          exact ⟨rfl, hb_4⟩
      · have HU0 := fun w1 => uidR_any q.who w1 h.u0
        rw [z0] at HU0
        have HU1 := fun w1 => uidR_any q.act w1 h.u1
        rw [z1] at HU1
        have HA : Hid (askf q = uf q.what) := by show _ = _; unfold askf; rw [if_pos z0, if_pos z1, if_neg z2]
        have HU2 := fun w1 => uidR_any q.what w1 h.u2
        have n0 : (uf q.what == 0) = false := by simpa using z2
        clear z0 z1 z2 h
        generalize uf q.what = n at *
        obtain ⟨W, hW⟩ : ∃ W, W = w.alloc (.cells #[.string q.who.t, .string q.who.i, .string q.act.t, .string q.act.i, .string q.what.t, .string q.what.i, .slice pq q.cx.length cq] 26) := ⟨_, rfl⟩
        have hb_0 : Below w.heap.size w W := by rw [hW]; exact (Below.refl _ _).alloc (Nat.le_refl _) _
        have hq_0 : QB W w.heap.size q pq cq := by rw [hW]; exact QB.new w q pq cq
        
        unfold reqV
        go_enter Tryz.func11, Tryz.ntmps11
        obtain ⟨x0, x1, x2, x3, x4, x5, x6⟩ := hq_0.cells
        go_wp2_with fail
        rw [← hW]
        refine (HU0 _).mono ?_
        rintro _ w1 ⟨rfl, hbb⟩
        clear x0 x1 x2 x3 x4 x5 x6
        have hb_1 := qbt hb_0 hbb
        have hq_1 := hq_0.up hbb
        clear hbb hb_0 hq_0
        obtain ⟨x0, x1, x2, x3, x4, x5, x6⟩ := hq_1.cells
        go_wp2_with fail
        refine (HU1 _).mono ?_
        rintro _ w2 ⟨rfl, hbb⟩
        clear x0 x1 x2 x3 x4 x5 x6
        have hb_2 := qbt hb_1 hbb
        have hq_2 := hq_1.up hbb
        clear hbb hb_1 hq_1
        obtain ⟨x0, x1, x2, x3, x4, x5, x6⟩ := hq_2.cells
        go_wp2_with fail
        refine (HU2 _).mono ?_
        rintro _ w3 ⟨rfl, hbb⟩
        clear x0 x1 x2 x3 x4 x5 x6
        have hb_3 := qbt hb_2 hbb
        have hq_3 := hq_2.up hbb
        clear hbb hb_2 hq_2
        obtain ⟨x0, x1, x2, x3, x4, x5, x6⟩ := hq_3.cells
        go_wp2_with fail
        go_ret
        rw [HA.out]
        exact ⟨rfl, hb_3⟩
    · have HU0 := fun w1 => uidR_any q.who w1 h.u0
      rw [z0] at HU0
      have HA : Hid (askf q = uf q.act) := by show _ = _; unfold askf; rw [if_pos z0, if_neg z1]
      have HU1 := fun w1 => uidR_any q.act w1 h.u1
      have n0 : (uf q.act == 0) = false := by simpa using z1
      clear z0 z1 h
      generalize uf q.act = n at *
      obtain ⟨W, hW⟩ : ∃ W, W = w.alloc (.cells #[.string q.who.t, .string q.who.i, .string q.act.t, .string q.act.i, .string q.what.t, .string q.what.i, .slice pq q.cx.length cq] 26) := ⟨_, rfl⟩
      have hb_0 : Below w.heap.size w W := by rw [hW]; exact (Below.refl _ _).alloc (Nat.le_refl _) _
      have hq_0 : QB W w.heap.size q pq cq := by rw [hW]; exact QB.new w q pq cq
      
      unfold reqV
      go_enter Tryz.func11, Tryz.ntmps11
      obtain ⟨x0, x1, x2, x3, x4, x5, x6⟩ := hq_0.cells
      go_wp2_with fail
      rw [← hW]
      refine (HU0 _).mono ?_
      rintro _ w1 ⟨rfl, hbb⟩
      clear x0 x1 x2 x3 x4 x5 x6
      have hb_1 := qbt hb_0 hbb
      have hq_1 := hq_0.up hbb
      clear hbb hb_0 hq_0
      obtain ⟨x0, x1, x2, x3, x4, x5, x6⟩ := hq_1.cells
      go_wp2_with fail
      refine (HU1 _).mono ?_
      rintro _ w2 ⟨rfl, hbb⟩
      clear x0 x1 x2 x3 x4 x5 x6
      have hb_2 := qbt hb_1 hbb
      have hq_2 := hq_1.up hbb
      clear hbb hb_1 hq_1
      obtain ⟨x0, x1, x2, x3, x4, x5, x6⟩ := hq_2.cells
      go_wp2_with fail
      go_ret
      rw [HA.out]
      exact ⟨rfl, hb_2⟩
  · have HA : Hid (askf q = uf q.who) := by show _ = _; unfold askf; rw [if_neg z0]
    have HU0 := fun w1 => uidR_any q.who w1 h.u0
    have n0 : (uf q.who == 0) = false := by simpa using z0
    clear z0 h
    generalize uf q.who = n at *
    obtain ⟨W, hW⟩ : ∃ W, W = w.alloc (.cells #[.string q.who.t, .string q.who.i, .string q.act.t, .string q.act.i, .string q.what.t, .string q.what.i, .slice pq q.cx.length cq] 26) := ⟨_, rfl⟩
    have hb_0 : Below w.heap.size w W := by rw [hW]; exact (Below.refl _ _).alloc (Nat.le_refl _) _
    have hq_0 : QB W w.heap.size q pq cq := by rw [hW]; exact QB.new w q pq cq
    
    unfold reqV
    go_enter Tryz.func11, Tryz.ntmps11
    obtain ⟨x0, x1, x2, x3, x4, x5, x6⟩ := hq_0.cells
    go_wp2_with fail
    rw [← hW]
    refine (HU0 _).mono ?_
    rintro _ w1 ⟨rfl, hbb⟩
    clear x0 x1 x2 x3 x4 x5 x6
    have hb_1 := qbt hb_0 hbb
    have hq_1 := hq_0.up hbb
    clear hbb hb_0 hq_0
    obtain ⟨x0, x1, x2, x3, x4, x5, x6⟩ := hq_1.cells
    go_wp2_with fail
    go_ret
    rw [HA.out]
    exact ⟨rfl, hb_1⟩
end Go.Proofs.YtglhjhbhijekjaaGreatDoor
