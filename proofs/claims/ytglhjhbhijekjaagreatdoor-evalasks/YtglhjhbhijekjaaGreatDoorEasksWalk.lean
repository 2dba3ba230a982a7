/- EvalAsks: the walk of the statement's own function. -/
import Derived.Test.YtglhjhbhijekjaaGreatDoorAskRef
import Derived.Test.YtglhjhbhijekjaaGreatDoorChain
namespace Go.Proofs.YtglhjhbhijekjaaGreatDoor
open Go.RowKit
set_option linter.unusedVariables false
set_option maxRecDepth 100000

set_option maxHeartbeats 20000000 in
theorem easks_walk (q : Rq) (pq : Option Addr) (cq : Nat) (w : World)
    (ha : EvArg w [] none q pq cq) :
    Calls Tryz.prog 3 #[reqV q pq cq] w fun e w' => e = .returned (.bool true) ∧ Below w.heap.size w w' := by
  have HA := fun w1 h1 => ask_any q pq cq w1 h1
  have HF := fun w1 h1 => askFault_any q pq cq w1 h1
  unfold reqV at HA HF
  have hss : (askf q == askf q) = true := by simp
  have HT := fun w1 h1 => toldE_any (askf q) (askf q) w1 h1
  rw [hss] at HT
  clear hss
  obtain ⟨W, hW⟩ : ∃ W, W = w.alloc (.cells #[.string q.who.t, .string q.who.i, .string q.act.t, .string q.act.i, .string q.what.t, .string q.what.i, .slice pq q.cx.length cq] 26) := ⟨_, rfl⟩
  have hb_0 : Below w.heap.size w W := by rw [hW]; exact (Below.refl _ _).alloc (Nat.le_refl _) _
  have hq_0 : QB W w.heap.size q pq cq := by rw [hW]; exact QB.new w q pq cq
  have ha_0 := ha.up hb_0
  clear ha
  unfold reqV
  go_enter Tryz.func3, Tryz.ntmps3
  go_wp2_with fail
  rw [← hW]
  clear hW
  go_region_held (fun w' => w'.cell? ⟨w.heap.size, 0, none⟩ = some (.string q.who.t) ∧ w'.cell? ⟨w.heap.size, 1, none⟩ = some (.string q.who.i) ∧ w'.cell? ⟨w.heap.size, 2, none⟩ = some (.string q.act.t) ∧ w'.cell? ⟨w.heap.size, 3, none⟩ = some (.string q.act.i) ∧ w'.cell? ⟨w.heap.size, 4, none⟩ = some (.string q.what.t) ∧ w'.cell? ⟨w.heap.size, 5, none⟩ = some (.string q.what.i) ∧ w'.cell? ⟨w.heap.size, 6, none⟩ = some (.slice pq q.cx.length cq)) (first | exact QB.cells (QB.up hq_3 (by repeat (first | exact Below.refl _ _ | apply qbA | apply qbD))) | exact QB.cells (QB.up hq_2 (by repeat (first | exact Below.refl _ _ | apply qbA | apply qbD))) | exact QB.cells (QB.up hq_1 (by repeat (first | exact Below.refl _ _ | apply qbA | apply qbD))) | exact QB.cells (QB.up hq_0 (by repeat (first | exact Below.refl _ _ | apply qbA | apply qbD)))) (first
    | (go_at_call 10
       refine (HA _ (EvArg.up ha_0 (by repeat (first | exact Below.refl _ _ | apply qbA | apply qbD))).rq).mono ?_
       rintro _ w1 ⟨rfl, hbb_1⟩
       have hbk_1 : Below W.heap.size W w1 := qbt (by repeat (first | exact Below.refl _ _ | apply qbA | apply qbD)) hbb_1
       have hb_1 := qbt hb_0 hbk_1
       have hq_1 := hq_0.up hbk_1
       have ha_1 := ha_0.up hbk_1
       clear hb_0 hq_0 ha_0)
    | (go_at_call 11
       refine (HF _ (EvArg.up ha_1 (by repeat (first | exact Below.refl _ _ | apply qbA | apply qbD))).rq).mono ?_
       rintro _ w2 ⟨rfl, hbb_2⟩
       have hbk_2 : Below w1.heap.size w1 w2 := qbt (by repeat (first | exact Below.refl _ _ | apply qbA | apply qbD)) hbb_2
       have hb_2 := qbt hb_1 hbk_2
       have hq_2 := hq_1.up hbk_2
       have ha_2 := ha_1.up hbk_2
       clear hb_1 hq_1 ha_1)
    | (go_at_call 9
       refine (HT _ (EvArg.up ha_2 (by repeat (first | exact Below.refl _ _ | apply qbA | apply qbD))).er).mono ?_
       rintro _ w3 ⟨rfl, hbb_3⟩
       have hbk_3 : Below w2.heap.size w2 w3 := qbt (by repeat (first | exact Below.refl _ _ | apply qbA | apply qbD)) hbb_3
       have hb_3 := qbt hb_2 hbk_3
       have hq_3 := hq_2.up hbk_3
       have ha_3 := ha_2.up hbk_3
       clear hb_2 hq_2 ha_2))
  all_goals
    obtain ⟨x0, x1, x2, x3, x4, x5, x6⟩ := hq_3.cells
    go_wp2_with fail
    refine (lfact_any _ ha_3.er).mono ?_
    rintro _ w4 ⟨rfl, hbb⟩
    clear x0 x1 x2 x3 x4 x5 x6
    have hb_4 := qbt hb_3 hbb
    have hq_4 := hq_3.up hbb
    have ha_4 := ha_3.up hbb
    clear hbb hb_3 hq_3 ha_3
    obtain ⟨x0, x1, x2, x3, x4, x5, x6⟩ := hq_4.cells
    go_wp2_with fail
    go_ret
    exact ⟨rfl, hb_4⟩
end Go.Proofs.YtglhjhbhijekjaaGreatDoor
