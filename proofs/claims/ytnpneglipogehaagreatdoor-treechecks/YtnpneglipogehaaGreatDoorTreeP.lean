/- Package tree's partsOf and isField: by walks of their own texts. -/
import Derived.Test.YtnpneglipogehaaGreatDoorTreeS
import Derived.Test.YtnpneglipogehaaGreatDoorCheck
import Derived.BigQuiet
import Derived.Deep.RegionWith
namespace Go.Proofs.YtnpneglipogehaaGreatDoor
open Go.RowKit
set_option linter.unusedVariables false

/-- If a node may begin an expression, and how many parts partsOf tells. -/
def exMay (x : Nd) : Bool := !(x.op == 7) && exOk x
def exCnt (x : Nd) : Int := if x.op = 5 ∨ x.op = 6 then x.n else if x.op = 7 ∨ prt x < 0 then 0 else prt x
theorem exMay_iff (x : Nd) : exMay x = true ↔ x.op ≠ 7 ∧ exOk x = true := by
  unfold exMay; rw [Bool.and_eq_true]; simp
theorem exCnt_may {x : Nd} (h : exMay x = true) : exCnt x = prt x := by
  obtain ⟨h7, hx⟩ := (exMay_iff x).1 h
  unfold exCnt
  by_cases h5 : x.op = 5 ∨ x.op = 6
  · rw [if_pos h5]; unfold prt; rw [if_pos h5]
  · rw [if_neg h5]
    by_cases hp : prt x < 0
    · exfalso
      unfold exOk at hx
      by_cases h1 : 1 ≤ x.op ∧ x.op ≤ 7
      · have : prt x = 0 := by unfold prt; rw [if_neg h5, if_pos (by omega)]
        omega
      · rw [if_neg h1, if_pos hp] at hx; cases hx
    · rw [if_neg (by omega)]
theorem vfault_one {x : Nd} (h : 1 ≤ x.op ∧ x.op ≤ 4) : vfault [x] = if ndOk x then 0 else 1 := by
  have e : pastV 2 [x] = if ndOk x then some [] else none := by
    have h7 : x.op ≠ 7 := by omega
    have h5 : ¬ x.op = 5 := by omega
    have h6 : ¬ x.op = 6 := by omega
    simp only [pastV]
    cases hx : ndOk x
    · simp
    · simp [h7, h5, h6]
  unfold vfault isVal
  rw [if_neg (by simp), show [x].length + 1 = 2 from rfl, e]
  cases ndOk x <;> rfl
theorem NL.single (W : World) (g : Nat) (x : Nd) (hx : x.wf) (hg : W.heap.size = g) : NL (W.alloc (.cells #[.int .i64 x.op, .int .i64 x.n, .string x.s, .string x.t] 28)) (some ⟨g, 0, none⟩) [x] := by
  subst hg
  refine .inr ⟨W.heap.size, 0, rfl, by simp, fun i y hy => ?_⟩
  rcases i with _ | i
  · simp at hy
    subst hy
    simp [go_sem, hx]
  · simp at hy
theorem vcheck_good (x : Nd) (h : 1 ≤ x.op ∧ x.op ≤ 4) (hok : ndOk x = true) (g : Nat) (w : World) (hN : NL w (some ⟨g, 0, none⟩) [x]) :
    Calls Tryz.prog 31 #[.slice (some ⟨g, 0, none⟩) 1 1] w fun e w' => e = .returned .nilIface ∧ Below w.heap.size w w' := by
  have := vcheck_any [x] (some ⟨g, 0, none⟩) 1 w hN (by simp) (by unfold maxLen; omega)
  rw [vfault_one h, hok, if_pos rfl] at this
  exact this
theorem vcheck_none (x : Nd) (h : 1 ≤ x.op ∧ x.op ≤ 4) (hok : ndOk x = false) (g : Nat) (w : World) (hN : NL w (some ⟨g, 0, none⟩) [x]) :
    Calls Tryz.prog 31 #[.slice (some ⟨g, 0, none⟩) 1 1] w fun e w' => e = .returned (.iface 30 (.int .i64 1)) ∧ Below w.heap.size w w' := by
  have := vcheck_any [x] (some ⟨g, 0, none⟩) 1 w hN (by simp) (by unfold maxLen; omega)
  rw [vfault_one h, hok, if_neg (by simp)] at this
  exact this

theorem bel_two {w w1 : World} {o1 o2 : Obj} (hb : Below ((w.alloc o1).alloc o2).drew.heap.size ((w.alloc o1).alloc o2).drew w1) : Below w.heap.size w w1 :=
  ((((Below.refl _ _).alloc (Nat.le_refl _) o1).alloc (by simp) o2).drew).trans (hb.mono (by show w.heap.size ≤ ((w.alloc o1).alloc o2).heap.size; simp; omega))
theorem ret_two {a b : Int} {c d : Bool} (h : a = b) (k : c = d) : Ending.returned (.tuple #[.int .i64 a, .bool c]) = .returned (.tuple #[.int .i64 b, .bool d]) := by rw [h, k]

set_option maxRecDepth 100000 in
set_option maxHeartbeats 600000 in
theorem partsOf_value (x : Nd) (w : World) (hx : x.wf) (h : 1 ≤ x.op ∧ x.op ≤ 4) :
    Calls Tryz.prog 20 #[x.val] w fun e w' => e = .returned (.tuple #[.int .i64 (exCnt x), .bool (exMay x)]) ∧ Below w.heap.size w w' := by
  have HC : Hid (exCnt x = 0) := by
    show _ = _
    have hp : prt x = 0 := by unfold prt; rw [if_neg (by omega), if_pos (by omega)]
    unfold exCnt
    rw [if_neg (by omega), hp]
    split <;> rfl
  have HM : Hid (exMay x = ndOk x) := by
    show _ = _
    unfold exMay exOk
    rw [if_pos (by omega)]
    have : (x.op == 7) = false := by simp; omega
    rw [this]; rfl
  have HG := vcheck_good x h
  have HB := vcheck_none x h
  have HS := fun W g => NL.single W g x hx
  obtain ⟨op, n, s, t⟩ := x
  unfold Nd.val
  simp only at HS
  have hop : op = 1 ∨ op = 2 ∨ op = 3 ∨ op = 4 := by simp only at h; omega
  clear h
  cases hok : ndOk ⟨op, n, s, t⟩ <;> rw [hok] at HM
  · have HV := HB hok
    clear HG HB
    rcases hop with rfl | rfl | rfl | rfl
    all_goals
      go_enter Tryz.func20, Tryz.ntmps20
      go_wp2_with fail
      go_region_with (go_at_call 31; refine (HV (w.heap.size + 1) _ ((HS _ _ (by simp)).up (Below.refl _ _).drew)).mono ?_; rintro e w1 ⟨rfl, hb⟩)
      all_goals
        go_wp2
        go_ret2
        exact ⟨ret_two HC.out.symm HM.out.symm, bel_two hb⟩
  · have HV := HG hok
    clear HG HB
    rcases hop with rfl | rfl | rfl | rfl
    all_goals
      go_enter Tryz.func20, Tryz.ntmps20
      go_wp2_with fail
      go_region_with (go_at_call 31; refine (HV (w.heap.size + 1) _ ((HS _ _ (by simp)).up (Below.refl _ _).drew)).mono ?_; rintro e w1 ⟨rfl, hb⟩)
      all_goals
        go_wp2
        go_ret2
        exact ⟨ret_two HC.out.symm HM.out.symm, bel_two hb⟩

/-- What the parts of a node are, by what it is. -/
theorem exMay_of {x : Nd} (h7 : ¬ (1 ≤ x.op ∧ x.op ≤ 7)) (hp : 0 ≤ prt x) : exMay x = (justS x && (if x.op = 8 then varOk x.s.data.toList else if x.op = 21 ∨ x.op = 22 ∨ x.op = 24 then nfault x.s.data.toList == 0 else if x.op = 23 then textOk x.s.data.toList else x.s.data.toList.isEmpty)) := by
  unfold exMay exOk justS
  rw [if_neg h7, if_neg (by omega)]
  have : (x.op == 7) = false := by simp; omega
  rw [this, Bool.not_false, Bool.true_and]
theorem exCnt_of {x : Nd} (h7 : ¬ (1 ≤ x.op ∧ x.op ≤ 7)) (hp : 0 ≤ prt x) : exCnt x = prt x := by
  unfold exCnt
  rw [if_neg (by omega), if_neg (by omega)]

set_option maxRecDepth 100000 in
set_option maxHeartbeats 1000000 in
theorem partsOf_bare (x : Nd) (w : World) (hx : x.wf) (h : x.op = 9 ∨ x.op = 10 ∨ 11 ≤ x.op ∧ x.op ≤ 20 ∨ 25 ≤ x.op ∧ x.op ≤ 27) :
    Calls Tryz.prog 20 #[x.val] w fun e w' => e = .returned (.tuple #[.int .i64 (exCnt x), .bool (exMay x)]) ∧ Below w.heap.size w w' := by
  have hpp : prt x = if x.op = 9 ∨ x.op = 10 then 1 else if x.op = 13 then 3 else 2 := by
    unfold prt
    rw [if_neg (by omega), if_neg (by omega)]
    by_cases h9 : x.op = 9 ∨ x.op = 10
    · rw [if_pos (by omega), if_pos h9]
    · rw [if_neg (by omega), if_neg h9]
      split
      · rfl
      · rw [if_pos (by omega)]
  have hp : 0 ≤ prt x := by rw [hpp]; repeat' split <;> omega
  have HC : Hid (exCnt x = _) := (exCnt_of (by omega) hp).trans hpp
  have HM : Hid (exMay x = bare x) := by
    show _ = _
    rw [exMay_of (by omega) hp, if_neg (by omega), if_neg (by omega), if_neg (by omega)]
    unfold justS bare
    cases (x.n == 0) <;> cases x.s.data.toList.isEmpty <;> cases x.t.data.toList.isEmpty <;> rfl
  have HN := fun w => hasNothing_any x w
  rw [← HM.out] at HN
  clear hpp hp HM
  generalize exMay x = m at *
  have HL : Hid (∀ o w', Below (w.alloc o).heap.size (w.alloc o) w' → Below w.heap.size w w') := fun o w' h => ((Below.refl _ _).alloc (Nat.le_refl _) _).trans (h.mono (by simp))
  obtain ⟨op, n, s, t⟩ := x
  unfold Nd.val at *
  have hop : op = 9 ∨ op = 10 ∨ op = 11 ∨ op = 12 ∨ op = 13 ∨ op = 14 ∨ op = 15 ∨ op = 16 ∨ op = 17 ∨ op = 18 ∨ op = 19 ∨ op = 20 ∨ op = 25 ∨ op = 26 ∨ op = 27 := by simp only at h; omega
  clear h
  rcases hop with rfl | rfl | rfl | rfl | rfl | rfl | rfl | rfl | rfl | rfl | rfl | rfl | rfl | rfl | rfl
  all_goals
    go_enter Tryz.func20, Tryz.ntmps20
    go_wp2_with fail
    refine (HN _).mono ?_
    rintro e w1 ⟨rfl, hb⟩
    go_wp2
    go_ret2
    exact ⟨ret_two (by rw [HC.out]; rfl) rfl, HL.out _ _ hb⟩
end Go.Proofs.YtnpneglipogehaaGreatDoor
