/- The document's Nodes: what it returns, by a walk of its own text. -/
import Derived.Test.YtglhjhbhijekjaaGreatDoorValNode
namespace Go.Proofs.YtglhjhbhijekjaaGreatDoor
open Go.RowKit
set_option linter.unusedVariables false

theorem quiet_more {P : Program} {f : FuncId} {args : Array Value} {w : World} {a n : Nat} {v : Value}
    (h : ∀ w, Calls P f args w fun e w' => e = .returned v ∧ ∃ m, w' = w.drewN m) : Calls P f args (w.drewN (a + n)) fun e w'' => e = .returned v ∧ ∃ m, w'' = w.drewN (a + m) :=
  (h _).mono fun _ _ ⟨he, m, hm⟩ => ⟨he, n + m, by rw [hm, World.drewN_drewN, Nat.add_assoc]⟩
theorem quiet_ones {P : Program} {f : FuncId} {args : Array Value} {w : World} {n : Nat} {v : Value}
    (h : ∀ w, Calls P f args w fun e w' => e = .returned v ∧ ∃ m, w' = w.drewN m) : Calls P f args (w.drewN n) fun e w'' => e = .returned v ∧ ∃ m, w'' = w.drewN m :=
  (h _).mono fun _ _ ⟨he, m, hm⟩ => ⟨he, n + m, by rw [hm, World.drewN_drewN]⟩
theorem quiet_none {P : Program} {f : FuncId} {args : Array Value} {v : Value}
    (h : ∀ w, Calls P f args w fun e w' => e = .returned v ∧ w' = w) (w : World) : Calls P f args w fun e w' => e = .returned v ∧ ∃ m, w' = w.drewN m :=
  (h w).mono fun _ _ ⟨he, hm⟩ => ⟨he, 0, hm⟩

set_option maxRecDepth 100000 in
set_option maxHeartbeats 4000000 in
theorem refNodes_any (a b : List Nd) (p q : Option Addr) (c1 c2 : Nat) (w : World) (ha : NL w p a) (hb : NL w q b) (la : a.length ≤ maxLen) (lb : b.length ≤ maxLen) :
    Calls Tryz.prog 78 #[.slice p a.length c1, .slice q b.length c2] w fun e w' => e = .returned (.int .i64 (lsC a b)) ∧ ∃ n, w' = w.drewN n := by
  unfold maxLen at la lb
  go_enter Tryz.func78, Tryz.ntmps78
  go_wp2
  go_loopw [5] (fun i wr => ∃ k n : Nat, k ≤ a.length ∧ k ≤ b.length ∧ i = .int .i64 k ∧ wr = w.drewN n ∧ Hid (lsC (a.drop k) (b.drop k) = lsC a b)) (fun i _ => a.length - (intOf i).toNat)
  case atStart => exact ⟨0, 0, Nat.zero_le _, Nat.zero_le _, rfl, rfl, rfl⟩
  case round =>
    obtain ⟨k, n, hk, hk2, rfl, hwr, HD⟩ := hrel
    have ha' : NL wr p a := by rw [hwr]; exact ha
    have hb' : NL wr q b := by rw [hwr]; exact hb
    have HW : Hid (_ = _) := hwr
    clear hwr
    by_cases hlt : k < a.length
    · have i1 : (k : Int) < (a.length : Int) := by omega
      by_cases hlt2 : k < b.length
      · have i2 : (k : Int) < (b.length : Int) := by omega
        obtain ⟨b1, o1, rfl, hb1, x0, x1, x2, x3, xw⟩ := ha'.at hlt
        obtain ⟨b2, o2, rfl, hb2, y0, y1, y2, y3, yw⟩ := hb'.at hlt2
        have HS : Hid (_ = _) := lsC_step a b k a[k] b[k] (List.getElem?_eq_getElem hlt) (List.getElem?_eq_getElem hlt2)
        generalize a[k] = x at *
        generalize b[k] = y at *
        have N1 := fun w => numC_any x.op y.op w
        have N2 := fun w => numC_any x.n y.n w
        have T1 := fun w => textC_any x.s y.s w xw.1 yw.1
        have T2 := fun w => textC_any x.t y.t w xw.2.1 yw.2.1
        have HO : Hid (ndC x y = orI [cmpI x.op y.op, cmpI x.n y.n, cmpB x.s y.s, cmpB x.t y.t]) := rfl
        generalize cmpI x.op y.op = d1 at *
        generalize cmpI x.n y.n = d2 at *
        generalize cmpB x.s y.s = d3 at *
        generalize cmpB x.t y.t = d4 at *
        generalize ndC x y = z at *
        cases q1 : (d1 == 0)
        · have m : (d1 != 0) = true := by simpa using q1
          have HZ : Hid (z = d1) := by show _ = _; rw [HO.out]; simp [orI, (by simpa using q1 : ¬ d1 = 0)]
          clear HO
          go_wp2
          go_quiet ((go_at_call 115; first | exact quiet_ones (quiet_none N1) | exact quiet_more (quiet_none N1)))
          go_wp2
          go_ret
          exact ⟨ret_num (by rw [← HD.out, HS.out, HZ.out, if_neg (by simpa using q1)]), _, by rw [HW.out]; simp only [World.drewN_drewN]; rfl⟩
        · have r1 : d1 = 0 := by simpa using q1
          cases q2 : (d2 == 0)
          · have m : (d2 != 0) = true := by simpa using q2
            have HZ : Hid (z = d2) := by show _ = _; rw [HO.out]; simp [orI, r1, (by simpa using q2 : ¬ d2 = 0)]
            clear HO
            go_wp2
            go_quiet ((go_at_call 115; first | exact quiet_ones (quiet_none N1) | exact quiet_more (quiet_none N1)))
            go_wp2
            go_quiet ((go_at_call 115; first | exact quiet_ones (quiet_none N2) | exact quiet_more (quiet_none N2)))
            go_wp2
            go_ret
            exact ⟨ret_num (by rw [← HD.out, HS.out, HZ.out, if_neg (by simpa using q2)]), _, by rw [HW.out]; simp only [World.drewN_drewN]; rfl⟩
          · have r2 : d2 = 0 := by simpa using q2
            cases q3 : (d3 == 0)
            · have m : (d3 != 0) = true := by simpa using q3
              have HZ : Hid (z = d3) := by show _ = _; rw [HO.out]; simp [orI, r1, r2, (by simpa using q3 : ¬ d3 = 0)]
              clear HO
              go_wp2
              go_quiet ((go_at_call 115; first | exact quiet_ones (quiet_none N1) | exact quiet_more (quiet_none N1)))
              go_wp2
              go_quiet ((go_at_call 115; first | exact quiet_ones (quiet_none N2) | exact quiet_more (quiet_none N2)))
              go_wp2
              go_quiet ((go_at_call 79; first | exact quiet_ones T1 | exact quiet_more T1))
              go_wp2
              go_ret
              exact ⟨ret_num (by rw [← HD.out, HS.out, HZ.out, if_neg (by simpa using q3)]), _, by rw [HW.out]; simp only [World.drewN_drewN]; rfl⟩
            · have r3 : d3 = 0 := by simpa using q3
              cases q4 : (d4 == 0)
              · have m : (d4 != 0) = true := by simpa using q4
                have HZ : Hid (z = d4) := by show _ = _; rw [HO.out]; simp [orI, r1, r2, r3, (by simpa using q4 : ¬ d4 = 0)]
                clear HO
                go_wp2
                go_quiet ((go_at_call 115; first | exact quiet_ones (quiet_none N1) | exact quiet_more (quiet_none N1)))
                go_wp2
                go_quiet ((go_at_call 115; first | exact quiet_ones (quiet_none N2) | exact quiet_more (quiet_none N2)))
                go_wp2
                go_quiet ((go_at_call 79; first | exact quiet_ones T1 | exact quiet_more T1))
                go_wp2
                go_quiet ((go_at_call 79; first | exact quiet_ones T2 | exact quiet_more T2))
                go_wp2
                go_ret
                exact ⟨ret_num (by rw [← HD.out, HS.out, HZ.out, if_neg (by simpa using q4)]), _, by rw [HW.out]; simp only [World.drewN_drewN]; rfl⟩
              · have r4 : d4 = 0 := by simpa using q4
                have m : (d4 != 0) = false := by simpa using q4
                have HZ : Hid (z = 0) := by show _ = _; rw [HO.out]; simp [orI, r1, r2, r3, r4]
                clear HO r1 r2 r3 r4
                go_wp2
                go_quiet ((go_at_call 115; first | exact quiet_ones (quiet_none N1) | exact quiet_more (quiet_none N1)))
                go_wp2
                go_quiet ((go_at_call 115; first | exact quiet_ones (quiet_none N2) | exact quiet_more (quiet_none N2)))
                go_wp2
                go_quiet ((go_at_call 79; first | exact quiet_ones T1 | exact quiet_more T1))
                go_wp2
                go_quiet ((go_at_call 79; first | exact quiet_ones T2 | exact quiet_more T2))
                go_wp2
                go_roundw
                case rel => exact ⟨k + 1, _, by omega, by omega, by go_num, by rw [HW.out]; simp only [World.drewN_drewN]; rfl, by show _ = _; rw [← HD.out, HS.out, HZ.out, if_pos rfl]⟩
                case measure => simp [intOf]; omega
      · have i2 : ¬ (k : Int) < (b.length : Int) := by omega
        have HS : Hid (_ = _) := lsC_more a b k hlt (by omega)
        go_wp2_with fail
        refine (numC_any _ _ _).mono ?_
        rintro e w1 ⟨rfl, rfl⟩
        go_wp2
        go_ret
        exact ⟨ret_num (by rw [← HD.out, HS.out]; unfold cmpI; repeat' split <;> omega), _, HW.out⟩
    · have i1 : ¬ (k : Int) < (a.length : Int) := by omega
      have HS : Hid (cmpI a.length b.length = lsC a b) := by
        show _ = _
        rw [← HD.out]
        by_cases hlt2 : k < b.length
        · rw [lsC_less a b k (by omega) hlt2]; unfold cmpI; repeat' split <;> omega
        · rw [lsC_done a b k (by omega) (by omega)]; unfold cmpI; repeat' split <;> omega
      go_wp2_with fail
      refine (numC_any _ _ _).mono ?_
      rintro e w1 ⟨rfl, rfl⟩
      go_wp2
      go_ret
      exact ⟨ret_num HS.out, _, HW.out⟩
end Go.Proofs.YtglhjhbhijekjaaGreatDoor
