/- EvalMorgan: the walk of the statement's own function. -/
import Derived.Test.YtglhjhbhijekjaaGreatDoorG39
namespace Go.Proofs.YtglhjhbhijekjaaGreatDoor
open Go.RowKit
set_option linter.unusedVariables false
set_option maxRecDepth 100000

set_option maxHeartbeats 20000000 in
theorem emorgan_walk (es : List En) (ps : Option Addr) (cs : Nat) (q : Rq) (pq : Option Addr) (cq : Nat) (a : List Nd) (pa : Option Addr) (ca : Nat) (b : List Nd) (pb : Option Addr) (cb : Nat) (w : World)
    (ha : EvArg w es ps q pq cq) (hA : LArg w a a.length pa ca) (hB : LArg w b b.length pb cb) :
    Calls Tryz.prog 7 #[.slice ps es.length cs, reqV q pq cq, .slice pa a.length ca, .slice pb b.length cb] w fun e w' => e = .returned (.bool true) ∧ Below w.heap.size w w' := by
  obtain ⟨W, hW⟩ : ∃ W, W = w.alloc (.cells #[.string q.who.t, .string q.who.i, .string q.act.t, .string q.act.i, .string q.what.t, .string q.what.i, .slice pq q.cx.length cq] 26) := ⟨_, rfl⟩
  have hb_0 : Below w.heap.size w W := by rw [hW]; exact (Below.refl _ _).alloc (Nat.le_refl _) _
  have hq_0 : QB W w.heap.size q pq cq := by rw [hW]; exact QB.new w q pq cq
  have ha_0 := ha.up hb_0
  have hA_0 := hA.up hb_0
  have hB_0 := hB.up hb_0
  clear ha hA hB
  unfold reqV
  go_enter Tryz.func7, Tryz.ntmps7
  obtain ⟨x0, x1, x2, x3, x4, x5, x6⟩ := hq_0.cells
  go_wp2_with fail
  rw [← hW]
  refine (lfact_any _ ha_0.er).mono ?_
  rintro _ w1 ⟨rfl, hbb⟩
  clear x0 x1 x2 x3 x4 x5 x6
  have hb_1 := qbt hb_0 hbb
  have hq_1 := hq_0.up hbb
  have ha_1 := ha_0.up hbb
  have hA_1 := hA_0.up hbb
  have hB_1 := hB_0.up hbb
  clear hbb hb_0 hq_0 ha_0 hA_0 hB_0
  have HTA := fun w1 h1 => tcheck_arg (a := a) (n := a.length) (p := pa) (c := ca) w1 h1
  have HTB := fun w1 h1 => tcheck_arg (a := b) (n := b.length) (p := pb) (c := cb) w1 h1
  by_cases k1 : xfault a = 0
  · rw [eV_nil k1] at HTA
    by_cases k2 : xfault b = 0
    · rw [eV_nil k2] at HTB
      by_cases k3 : a.length + b.length + 3 ≤ 200
      · have i0 : ¬ (200 : Int) < ((a.length : Int) + (b.length : Int) + 3) := by omega
        have i1 : (a.length : Int) ≤ 200 := by omega
        have i2 : (b.length : Int) ≤ 200 := by omega
        have HL : Hid (a.length + b.length + 3 ≤ 200) := k3
        have HNA : Hid (a ≠ []) := fun e => by rw [e] at k1; cases k1
        have HNB : Hid (b ≠ []) := fun e => by rw [e] at k2; cases k2
        have M1 : Hid (_ = _) := morgan_and (es := es) (q := q) k1 k2 k3
        have M2 : Hid (_ = _) := morgan_or (es := es) (q := q) k1 k2 k3
        have M3 : Hid (_ = _) := not_not (es := es) (q := q) k1 k2 k3
        clear k1 k2 k3
        obtain ⟨x0, x1, x2, x3, x4, x5, x6⟩ := hq_1.cells
        go_wp2_with fail
        refine (HTA _ hA_1).mono ?_
        rintro _ w2 ⟨rfl, hbb⟩
        clear x0 x1 x2 x3 x4 x5 x6
        have hb_2 := qbt hb_1 hbb
        have hq_2 := hq_1.up hbb
        have ha_2 := ha_1.up hbb
        have hA_2 := hA_1.up hbb
        have hB_2 := hB_1.up hbb
        clear hbb hb_1 hq_1 ha_1 hA_1 hB_1
        obtain ⟨x0, x1, x2, x3, x4, x5, x6⟩ := hq_2.cells
        go_wp2_with fail
        refine (HTB _ hB_2).mono ?_
        rintro _ w3 ⟨rfl, hbb⟩
        clear x0 x1 x2 x3 x4 x5 x6
        have hb_3 := qbt hb_2 hbb
        have hq_3 := hq_2.up hbb
        have ha_3 := ha_2.up hbb
        have hA_3 := hA_2.up hbb
        have hB_3 := hB_2.up hbb
        clear hbb hb_2 hq_2 ha_2 hA_2 hB_2
        have HLN : Hid (a.length + b.length + 3 ≤ 200) := HL.out
        go_wp2_with fail
        go_region_held (fun w' => w'.cell? ⟨w.heap.size, 0, none⟩ = some (.string q.who.t) ∧ w'.cell? ⟨w.heap.size, 1, none⟩ = some (.string q.who.i) ∧ w'.cell? ⟨w.heap.size, 2, none⟩ = some (.string q.act.t) ∧ w'.cell? ⟨w.heap.size, 3, none⟩ = some (.string q.act.i) ∧ w'.cell? ⟨w.heap.size, 4, none⟩ = some (.string q.what.t) ∧ w'.cell? ⟨w.heap.size, 5, none⟩ = some (.string q.what.i) ∧ w'.cell? ⟨w.heap.size, 6, none⟩ = some (.slice pq q.cx.length cq)) (first | exact QB.cells (QB.up hq_6 (by repeat (first | exact Below.refl _ _ | apply qbA | apply qbD))) | exact QB.cells (QB.up hq_5 (by repeat (first | exact Below.refl _ _ | apply qbA | apply qbD))) | exact QB.cells (QB.up hq_4 (by repeat (first | exact Below.refl _ _ | apply qbA | apply qbD))) | exact QB.cells (QB.up hq_3 (by repeat (first | exact Below.refl _ _ | apply qbA | apply qbD)))) (first
          | (go_at_call 22
             refine (op2_at 11 (by decide) hA_3 HNA.out (by have := HLN.out; omega) hB_3 HNB.out (by have := HLN.out; omega) (by first | exact LL2 (LArg.up hA_3 (by repeat (first | exact Below.refl _ _ | apply qbA | apply qbD))) (LArg.up hB_3 (by repeat (first | exact Below.refl _ _ | apply qbA | apply qbD))) (by simp) | ((first | refine LL.up ?_ ((Below.refl _ _).alloc (Nat.le_refl _) _) | refine LL.up ?_ (Below.refl _ _).drew); exact LL2 (LArg.up hA_3 (by repeat (first | exact Below.refl _ _ | apply qbA | apply qbD))) (LArg.up hB_3 (by repeat (first | exact Below.refl _ _ | apply qbA | apply qbD))) (by simp)) | ((first | refine LL.up ?_ ((Below.refl _ _).alloc (Nat.le_refl _) _) | refine LL.up ?_ (Below.refl _ _).drew); (first | refine LL.up ?_ ((Below.refl _ _).alloc (Nat.le_refl _) _) | refine LL.up ?_ (Below.refl _ _).drew); exact LL2 (LArg.up hA_3 (by repeat (first | exact Below.refl _ _ | apply qbA | apply qbD))) (LArg.up hB_3 (by repeat (first | exact Below.refl _ _ | apply qbA | apply qbD))) (by simp)) | ((first | refine LL.up ?_ ((Below.refl _ _).alloc (Nat.le_refl _) _) | refine LL.up ?_ (Below.refl _ _).drew); (first | refine LL.up ?_ ((Below.refl _ _).alloc (Nat.le_refl _) _) | refine LL.up ?_ (Below.refl _ _).drew); (first | refine LL.up ?_ ((Below.refl _ _).alloc (Nat.le_refl _) _) | refine LL.up ?_ (Below.refl _ _).drew); exact LL2 (LArg.up hA_3 (by repeat (first | exact Below.refl _ _ | apply qbA | apply qbD))) (LArg.up hB_3 (by repeat (first | exact Below.refl _ _ | apply qbA | apply qbD))) (by simp)))).mono ?_
             rintro _ w4 ⟨⟨t1q, t1c, rfl, t1l⟩, hbb_4⟩
             have hbk_4 : Below w3.heap.size w3 w4 := qbt (by repeat (first | exact Below.refl _ _ | apply qbA | apply qbD)) hbb_4
             have hb_4 := qbt hb_3 hbk_4
             have hq_4 := hq_3.up hbk_4
             have ha_4 := ha_3.up hbk_4
             have hA_4 := hA_3.up hbk_4
             have hB_4 := hB_3.up hbk_4
             have t1_4 := t1l
             clear hb_3 hq_3 ha_3 hA_3)
          | (go_at_call 22
             refine (op1_at 9 (by decide) t1_4 (by simp) (by have := HLN.out; omega) (by first | exact LL1 (LArg.up t1_4 (by repeat (first | exact Below.refl _ _ | apply qbA | apply qbD))) (by simp) | ((first | refine LL.up ?_ ((Below.refl _ _).alloc (Nat.le_refl _) _) | refine LL.up ?_ (Below.refl _ _).drew); exact LL1 (LArg.up t1_4 (by repeat (first | exact Below.refl _ _ | apply qbA | apply qbD))) (by simp)) | ((first | refine LL.up ?_ ((Below.refl _ _).alloc (Nat.le_refl _) _) | refine LL.up ?_ (Below.refl _ _).drew); (first | refine LL.up ?_ ((Below.refl _ _).alloc (Nat.le_refl _) _) | refine LL.up ?_ (Below.refl _ _).drew); exact LL1 (LArg.up t1_4 (by repeat (first | exact Below.refl _ _ | apply qbA | apply qbD))) (by simp)) | ((first | refine LL.up ?_ ((Below.refl _ _).alloc (Nat.le_refl _) _) | refine LL.up ?_ (Below.refl _ _).drew); (first | refine LL.up ?_ ((Below.refl _ _).alloc (Nat.le_refl _) _) | refine LL.up ?_ (Below.refl _ _).drew); (first | refine LL.up ?_ ((Below.refl _ _).alloc (Nat.le_refl _) _) | refine LL.up ?_ (Below.refl _ _).drew); exact LL1 (LArg.up t1_4 (by repeat (first | exact Below.refl _ _ | apply qbA | apply qbD))) (by simp)))).mono ?_
             rintro _ w5 ⟨⟨t2q, t2c, rfl, t2l⟩, hbb_5⟩
             have hbk_5 : Below w4.heap.size w4 w5 := qbt (by repeat (first | exact Below.refl _ _ | apply qbA | apply qbD)) hbb_5
             have hb_5 := qbt hb_4 hbk_5
             have hq_5 := hq_4.up hbk_5
             have ha_5 := ha_4.up hbk_5
             have hA_5 := hA_4.up hbk_5
             have hB_5 := hB_4.up hbk_5
             have t1_5 := t1_4.up hbk_5
             have t2_5 := t2l
             clear hb_4 hq_4 ha_4 hA_4 hB_4 t1_4)
          | (go_at_call 14
             refine (evalue_arg cs _ (EvArg.up ha_5 (by repeat (first | exact Below.refl _ _ | apply qbA | apply qbD))) (LArg.up t2_5 (by repeat (first | exact Below.refl _ _ | apply qbA | apply qbD))) M1.out).mono ?_
             rintro _ w6 ⟨⟨r1v, r1f, rfl, r1l⟩, hbb_6⟩
             have hbk_6 : Below w5.heap.size w5 w6 := qbt (by repeat (first | exact Below.refl _ _ | apply qbA | apply qbD)) hbb_6
             have hb_6 := qbt hb_5 hbk_6
             have hq_6 := hq_5.up hbk_6
             have ha_6 := ha_5.up hbk_6
             have hA_6 := hA_5.up hbk_6
             have hB_6 := hB_5.up hbk_6
             have t1_6 := t1_5.up hbk_6
             have t2_6 := t2_5.up hbk_6
             have r1_6 := r1l
             clear hb_5 hq_5 ha_5 hA_5 hB_5 t1_5 t2_5))
        all_goals
          clear t1_6 t2_6
          go_wp2_with fail
          go_region_held (fun w' => w'.cell? ⟨w.heap.size, 0, none⟩ = some (.string q.who.t) ∧ w'.cell? ⟨w.heap.size, 1, none⟩ = some (.string q.who.i) ∧ w'.cell? ⟨w.heap.size, 2, none⟩ = some (.string q.act.t) ∧ w'.cell? ⟨w.heap.size, 3, none⟩ = some (.string q.act.i) ∧ w'.cell? ⟨w.heap.size, 4, none⟩ = some (.string q.what.t) ∧ w'.cell? ⟨w.heap.size, 5, none⟩ = some (.string q.what.i) ∧ w'.cell? ⟨w.heap.size, 6, none⟩ = some (.slice pq q.cx.length cq)) (first | exact QB.cells (QB.up hq_10 (by repeat (first | exact Below.refl _ _ | apply qbA | apply qbD))) | exact QB.cells (QB.up hq_9 (by repeat (first | exact Below.refl _ _ | apply qbA | apply qbD))) | exact QB.cells (QB.up hq_8 (by repeat (first | exact Below.refl _ _ | apply qbA | apply qbD))) | exact QB.cells (QB.up hq_7 (by repeat (first | exact Below.refl _ _ | apply qbA | apply qbD))) | exact QB.cells (QB.up hq_6 (by repeat (first | exact Below.refl _ _ | apply qbA | apply qbD)))) (first
            | (go_at_call 22
               refine (op1_at 9 (by decide) hA_6 HNA.out (by have := HLN.out; omega) (by first | exact LL1 (LArg.up hA_6 (by repeat (first | exact Below.refl _ _ | apply qbA | apply qbD))) (by simp) | ((first | refine LL.up ?_ ((Below.refl _ _).alloc (Nat.le_refl _) _) | refine LL.up ?_ (Below.refl _ _).drew); exact LL1 (LArg.up hA_6 (by repeat (first | exact Below.refl _ _ | apply qbA | apply qbD))) (by simp)) | ((first | refine LL.up ?_ ((Below.refl _ _).alloc (Nat.le_refl _) _) | refine LL.up ?_ (Below.refl _ _).drew); (first | refine LL.up ?_ ((Below.refl _ _).alloc (Nat.le_refl _) _) | refine LL.up ?_ (Below.refl _ _).drew); exact LL1 (LArg.up hA_6 (by repeat (first | exact Below.refl _ _ | apply qbA | apply qbD))) (by simp)) | ((first | refine LL.up ?_ ((Below.refl _ _).alloc (Nat.le_refl _) _) | refine LL.up ?_ (Below.refl _ _).drew); (first | refine LL.up ?_ ((Below.refl _ _).alloc (Nat.le_refl _) _) | refine LL.up ?_ (Below.refl _ _).drew); (first | refine LL.up ?_ ((Below.refl _ _).alloc (Nat.le_refl _) _) | refine LL.up ?_ (Below.refl _ _).drew); exact LL1 (LArg.up hA_6 (by repeat (first | exact Below.refl _ _ | apply qbA | apply qbD))) (by simp)))).mono ?_
               rintro _ w7 ⟨⟨t3q, t3c, rfl, t3l⟩, hbb_7⟩
               have hbk_7 : Below w6.heap.size w6 w7 := qbt (by repeat (first | exact Below.refl _ _ | apply qbA | apply qbD)) hbb_7
               have hb_7 := qbt hb_6 hbk_7
               have hq_7 := hq_6.up hbk_7
               have ha_7 := ha_6.up hbk_7
               have hA_7 := hA_6.up hbk_7
               have hB_7 := hB_6.up hbk_7
               have r1_7 := r1_6.up hbk_7
               have t3_7 := t3l
               clear hb_6 hq_6 ha_6 hA_6 r1_6)
            | (go_at_call 22
               refine (op1_at 9 (by decide) hB_7 HNB.out (by have := HLN.out; omega) (by first | exact LL1 (LArg.up hB_7 (by repeat (first | exact Below.refl _ _ | apply qbA | apply qbD))) (by simp) | (refine LL.up ?_ hbb_7; first | exact LL1 (LArg.up hB_6 (by repeat (first | exact Below.refl _ _ | apply qbA | apply qbD))) (by simp) | ((first | refine LL.up ?_ ((Below.refl _ _).alloc (Nat.le_refl _) _) | refine LL.up ?_ (Below.refl _ _).drew); exact LL1 (LArg.up hB_6 (by repeat (first | exact Below.refl _ _ | apply qbA | apply qbD))) (by simp)) | ((first | refine LL.up ?_ ((Below.refl _ _).alloc (Nat.le_refl _) _) | refine LL.up ?_ (Below.refl _ _).drew); (first | refine LL.up ?_ ((Below.refl _ _).alloc (Nat.le_refl _) _) | refine LL.up ?_ (Below.refl _ _).drew); exact LL1 (LArg.up hB_6 (by repeat (first | exact Below.refl _ _ | apply qbA | apply qbD))) (by simp)) | ((first | refine LL.up ?_ ((Below.refl _ _).alloc (Nat.le_refl _) _) | refine LL.up ?_ (Below.refl _ _).drew); (first | refine LL.up ?_ ((Below.refl _ _).alloc (Nat.le_refl _) _) | refine LL.up ?_ (Below.refl _ _).drew); (first | refine LL.up ?_ ((Below.refl _ _).alloc (Nat.le_refl _) _) | refine LL.up ?_ (Below.refl _ _).drew); exact LL1 (LArg.up hB_6 (by repeat (first | exact Below.refl _ _ | apply qbA | apply qbD))) (by simp))))).mono ?_
               rintro _ w8 ⟨⟨t4q, t4c, rfl, t4l⟩, hbb_8⟩
               have hbk_8 : Below w7.heap.size w7 w8 := qbt (by repeat (first | exact Below.refl _ _ | apply qbA | apply qbD)) hbb_8
               have hb_8 := qbt hb_7 hbk_8
               have hq_8 := hq_7.up hbk_8
               have ha_8 := ha_7.up hbk_8
               have hA_8 := hA_7.up hbk_8
               have hB_8 := hB_7.up hbk_8
               have r1_8 := r1_7.up hbk_8
               have t3_8 := t3_7.up hbk_8
               have t4_8 := t4l
               clear hb_7 hq_7 ha_7 hA_7 hB_7 r1_7 t3_7)
            | (go_at_call 22
               refine (op2_at 12 (by decide) t3_8 (by simp) (by have := HLN.out; omega) t4_8 (by simp) (by have := HLN.out; omega) (by first | exact LL2 (LArg.up t3_8 (by repeat (first | exact Below.refl _ _ | apply qbA | apply qbD))) (LArg.up t4_8 (by repeat (first | exact Below.refl _ _ | apply qbA | apply qbD))) (by simp) | ((first | refine LL.up ?_ ((Below.refl _ _).alloc (Nat.le_refl _) _) | refine LL.up ?_ (Below.refl _ _).drew); exact LL2 (LArg.up t3_8 (by repeat (first | exact Below.refl _ _ | apply qbA | apply qbD))) (LArg.up t4_8 (by repeat (first | exact Below.refl _ _ | apply qbA | apply qbD))) (by simp)) | ((first | refine LL.up ?_ ((Below.refl _ _).alloc (Nat.le_refl _) _) | refine LL.up ?_ (Below.refl _ _).drew); (first | refine LL.up ?_ ((Below.refl _ _).alloc (Nat.le_refl _) _) | refine LL.up ?_ (Below.refl _ _).drew); exact LL2 (LArg.up t3_8 (by repeat (first | exact Below.refl _ _ | apply qbA | apply qbD))) (LArg.up t4_8 (by repeat (first | exact Below.refl _ _ | apply qbA | apply qbD))) (by simp)) | ((first | refine LL.up ?_ ((Below.refl _ _).alloc (Nat.le_refl _) _) | refine LL.up ?_ (Below.refl _ _).drew); (first | refine LL.up ?_ ((Below.refl _ _).alloc (Nat.le_refl _) _) | refine LL.up ?_ (Below.refl _ _).drew); (first | refine LL.up ?_ ((Below.refl _ _).alloc (Nat.le_refl _) _) | refine LL.up ?_ (Below.refl _ _).drew); exact LL2 (LArg.up t3_8 (by repeat (first | exact Below.refl _ _ | apply qbA | apply qbD))) (LArg.up t4_8 (by repeat (first | exact Below.refl _ _ | apply qbA | apply qbD))) (by simp)))).mono ?_
               rintro _ w9 ⟨⟨t5q, t5c, rfl, t5l⟩, hbb_9⟩
               have hbk_9 : Below w8.heap.size w8 w9 := qbt (by repeat (first | exact Below.refl _ _ | apply qbA | apply qbD)) hbb_9
               have hb_9 := qbt hb_8 hbk_9
               have hq_9 := hq_8.up hbk_9
               have ha_9 := ha_8.up hbk_9
               have hA_9 := hA_8.up hbk_9
               have hB_9 := hB_8.up hbk_9
               have r1_9 := r1_8.up hbk_9
               have t3_9 := t3_8.up hbk_9
               have t4_9 := t4_8.up hbk_9
               have t5_9 := t5l
               clear hb_8 hq_8 ha_8 hA_8 hB_8 r1_8 t3_8 t4_8)
            | (go_at_call 14
               refine (evalue_arg cs _ (EvArg.up ha_9 (by repeat (first | exact Below.refl _ _ | apply qbA | apply qbD))) (LArg.up t5_9 (by repeat (first | exact Below.refl _ _ | apply qbA | apply qbD))) rfl).mono ?_
               rintro _ w10 ⟨⟨r2v, r2f, rfl, r2l⟩, hbb_10⟩
               have hbk_10 : Below w9.heap.size w9 w10 := qbt (by repeat (first | exact Below.refl _ _ | apply qbA | apply qbD)) hbb_10
               have hb_10 := qbt hb_9 hbk_10
               have hq_10 := hq_9.up hbk_10
               have ha_10 := ha_9.up hbk_10
               have hA_10 := hA_9.up hbk_10
               have hB_10 := hB_9.up hbk_10
               have r1_10 := r1_9.up hbk_10
               have t3_10 := t3_9.up hbk_10
               have t4_10 := t4_9.up hbk_10
               have t5_10 := t5_9.up hbk_10
               have r2_10 := r2l
               clear hb_9 hq_9 ha_9 hA_9 hB_9 r1_9 t3_9 t4_9 t5_9))
          all_goals
            clear t3_10 t4_10 t5_10
            obtain ⟨x0, x1, x2, x3, x4, x5, x6⟩ := hq_10.cells
            go_wp2_with fail
            refine (same_ans _ r1_10 r2_10 ha_10.er).mono ?_
            rintro _ w11 ⟨rfl, hbb⟩
            clear x0 x1 x2 x3 x4 x5 x6
            have hb_11 := qbt hb_10 hbb
            have hq_11 := hq_10.up hbb
            have ha_11 := ha_10.up hbb
            have hA_11 := hA_10.up hbb
            have hB_11 := hB_10.up hbb
            have r1_11 := r1_10.up hbb
            have r2_11 := r2_10.up hbb
            clear hbb hb_10 hq_10 ha_10 hA_10 hB_10 r1_10 r2_10
            clear r1_11 r2_11
            go_wp2_with fail
            go_region_held (fun w' => w'.cell? ⟨w.heap.size, 0, none⟩ = some (.string q.who.t) ∧ w'.cell? ⟨w.heap.size, 1, none⟩ = some (.string q.who.i) ∧ w'.cell? ⟨w.heap.size, 2, none⟩ = some (.string q.act.t) ∧ w'.cell? ⟨w.heap.size, 3, none⟩ = some (.string q.act.i) ∧ w'.cell? ⟨w.heap.size, 4, none⟩ = some (.string q.what.t) ∧ w'.cell? ⟨w.heap.size, 5, none⟩ = some (.string q.what.i) ∧ w'.cell? ⟨w.heap.size, 6, none⟩ = some (.slice pq q.cx.length cq)) (first | exact QB.cells (QB.up hq_14 (by repeat (first | exact Below.refl _ _ | apply qbA | apply qbD))) | exact QB.cells (QB.up hq_13 (by repeat (first | exact Below.refl _ _ | apply qbA | apply qbD))) | exact QB.cells (QB.up hq_12 (by repeat (first | exact Below.refl _ _ | apply qbA | apply qbD))) | exact QB.cells (QB.up hq_11 (by repeat (first | exact Below.refl _ _ | apply qbA | apply qbD)))) (first
              | (go_at_call 22
                 refine (op2_at 12 (by decide) hA_11 HNA.out (by have := HLN.out; omega) hB_11 HNB.out (by have := HLN.out; omega) (by first | exact LL2 (LArg.up hA_11 (by repeat (first | exact Below.refl _ _ | apply qbA | apply qbD))) (LArg.up hB_11 (by repeat (first | exact Below.refl _ _ | apply qbA | apply qbD))) (by simp) | ((first | refine LL.up ?_ ((Below.refl _ _).alloc (Nat.le_refl _) _) | refine LL.up ?_ (Below.refl _ _).drew); exact LL2 (LArg.up hA_11 (by repeat (first | exact Below.refl _ _ | apply qbA | apply qbD))) (LArg.up hB_11 (by repeat (first | exact Below.refl _ _ | apply qbA | apply qbD))) (by simp)) | ((first | refine LL.up ?_ ((Below.refl _ _).alloc (Nat.le_refl _) _) | refine LL.up ?_ (Below.refl _ _).drew); (first | refine LL.up ?_ ((Below.refl _ _).alloc (Nat.le_refl _) _) | refine LL.up ?_ (Below.refl _ _).drew); exact LL2 (LArg.up hA_11 (by repeat (first | exact Below.refl _ _ | apply qbA | apply qbD))) (LArg.up hB_11 (by repeat (first | exact Below.refl _ _ | apply qbA | apply qbD))) (by simp)) | ((first | refine LL.up ?_ ((Below.refl _ _).alloc (Nat.le_refl _) _) | refine LL.up ?_ (Below.refl _ _).drew); (first | refine LL.up ?_ ((Below.refl _ _).alloc (Nat.le_refl _) _) | refine LL.up ?_ (Below.refl _ _).drew); (first | refine LL.up ?_ ((Below.refl _ _).alloc (Nat.le_refl _) _) | refine LL.up ?_ (Below.refl _ _).drew); exact LL2 (LArg.up hA_11 (by repeat (first | exact Below.refl _ _ | apply qbA | apply qbD))) (LArg.up hB_11 (by repeat (first | exact Below.refl _ _ | apply qbA | apply qbD))) (by simp)))).mono ?_
                 rintro _ w12 ⟨⟨t1q, t1c, rfl, t1l⟩, hbb_12⟩
                 have hbk_12 : Below w11.heap.size w11 w12 := qbt (by repeat (first | exact Below.refl _ _ | apply qbA | apply qbD)) hbb_12
                 have hb_12 := qbt hb_11 hbk_12
                 have hq_12 := hq_11.up hbk_12
                 have ha_12 := ha_11.up hbk_12
                 have hA_12 := hA_11.up hbk_12
                 have hB_12 := hB_11.up hbk_12
                 have t1_12 := t1l
                 clear hb_11 hq_11 ha_11 hA_11)
              | (go_at_call 22
                 refine (op1_at 9 (by decide) t1_12 (by simp) (by have := HLN.out; omega) (by first | exact LL1 (LArg.up t1_12 (by repeat (first | exact Below.refl _ _ | apply qbA | apply qbD))) (by simp) | ((first | refine LL.up ?_ ((Below.refl _ _).alloc (Nat.le_refl _) _) | refine LL.up ?_ (Below.refl _ _).drew); exact LL1 (LArg.up t1_12 (by repeat (first | exact Below.refl _ _ | apply qbA | apply qbD))) (by simp)) | ((first | refine LL.up ?_ ((Below.refl _ _).alloc (Nat.le_refl _) _) | refine LL.up ?_ (Below.refl _ _).drew); (first | refine LL.up ?_ ((Below.refl _ _).alloc (Nat.le_refl _) _) | refine LL.up ?_ (Below.refl _ _).drew); exact LL1 (LArg.up t1_12 (by repeat (first | exact Below.refl _ _ | apply qbA | apply qbD))) (by simp)) | ((first | refine LL.up ?_ ((Below.refl _ _).alloc (Nat.le_refl _) _) | refine LL.up ?_ (Below.refl _ _).drew); (first | refine LL.up ?_ ((Below.refl _ _).alloc (Nat.le_refl _) _) | refine LL.up ?_ (Below.refl _ _).drew); (first | refine LL.up ?_ ((Below.refl _ _).alloc (Nat.le_refl _) _) | refine LL.up ?_ (Below.refl _ _).drew); exact LL1 (LArg.up t1_12 (by repeat (first | exact Below.refl _ _ | apply qbA | apply qbD))) (by simp)))).mono ?_
                 rintro _ w13 ⟨⟨t2q, t2c, rfl, t2l⟩, hbb_13⟩
                 have hbk_13 : Below w12.heap.size w12 w13 := qbt (by repeat (first | exact Below.refl _ _ | apply qbA | apply qbD)) hbb_13
                 have hb_13 := qbt hb_12 hbk_13
                 have hq_13 := hq_12.up hbk_13
                 have ha_13 := ha_12.up hbk_13
                 have hA_13 := hA_12.up hbk_13
                 have hB_13 := hB_12.up hbk_13
                 have t1_13 := t1_12.up hbk_13
                 have t2_13 := t2l
                 clear hb_12 hq_12 ha_12 hA_12 hB_12 t1_12)
              | (go_at_call 14
                 refine (evalue_arg cs _ (EvArg.up ha_13 (by repeat (first | exact Below.refl _ _ | apply qbA | apply qbD))) (LArg.up t2_13 (by repeat (first | exact Below.refl _ _ | apply qbA | apply qbD))) M2.out).mono ?_
                 rintro _ w14 ⟨⟨r1v, r1f, rfl, r1l⟩, hbb_14⟩
                 have hbk_14 : Below w13.heap.size w13 w14 := qbt (by repeat (first | exact Below.refl _ _ | apply qbA | apply qbD)) hbb_14
                 have hb_14 := qbt hb_13 hbk_14
                 have hq_14 := hq_13.up hbk_14
                 have ha_14 := ha_13.up hbk_14
                 have hA_14 := hA_13.up hbk_14
                 have hB_14 := hB_13.up hbk_14
                 have t1_14 := t1_13.up hbk_14
                 have t2_14 := t2_13.up hbk_14
                 have r1_14 := r1l
                 clear hb_13 hq_13 ha_13 hA_13 hB_13 t1_13 t2_13))
            all_goals
              clear t1_14 t2_14
              go_wp2_with fail
              go_region_held (fun w' => w'.cell? ⟨w.heap.size, 0, none⟩ = some (.string q.who.t) ∧ w'.cell? ⟨w.heap.size, 1, none⟩ = some (.string q.who.i) ∧ w'.cell? ⟨w.heap.size, 2, none⟩ = some (.string q.act.t) ∧ w'.cell? ⟨w.heap.size, 3, none⟩ = some (.string q.act.i) ∧ w'.cell? ⟨w.heap.size, 4, none⟩ = some (.string q.what.t) ∧ w'.cell? ⟨w.heap.size, 5, none⟩ = some (.string q.what.i) ∧ w'.cell? ⟨w.heap.size, 6, none⟩ = some (.slice pq q.cx.length cq)) (first | exact QB.cells (QB.up hq_18 (by repeat (first | exact Below.refl _ _ | apply qbA | apply qbD))) | exact QB.cells (QB.up hq_17 (by repeat (first | exact Below.refl _ _ | apply qbA | apply qbD))) | exact QB.cells (QB.up hq_16 (by repeat (first | exact Below.refl _ _ | apply qbA | apply qbD))) | exact QB.cells (QB.up hq_15 (by repeat (first | exact Below.refl _ _ | apply qbA | apply qbD))) | exact QB.cells (QB.up hq_14 (by repeat (first | exact Below.refl _ _ | apply qbA | apply qbD)))) (first
                | (go_at_call 22
                   refine (op1_at 9 (by decide) hA_14 HNA.out (by have := HLN.out; omega) (by first | exact LL1 (LArg.up hA_14 (by repeat (first | exact Below.refl _ _ | apply qbA | apply qbD))) (by simp) | ((first | refine LL.up ?_ ((Below.refl _ _).alloc (Nat.le_refl _) _) | refine LL.up ?_ (Below.refl _ _).drew); exact LL1 (LArg.up hA_14 (by repeat (first | exact Below.refl _ _ | apply qbA | apply qbD))) (by simp)) | ((first | refine LL.up ?_ ((Below.refl _ _).alloc (Nat.le_refl _) _) | refine LL.up ?_ (Below.refl _ _).drew); (first | refine LL.up ?_ ((Below.refl _ _).alloc (Nat.le_refl _) _) | refine LL.up ?_ (Below.refl _ _).drew); exact LL1 (LArg.up hA_14 (by repeat (first | exact Below.refl _ _ | apply qbA | apply qbD))) (by simp)) | ((first | refine LL.up ?_ ((Below.refl _ _).alloc (Nat.le_refl _) _) | refine LL.up ?_ (Below.refl _ _).drew); (first | refine LL.up ?_ ((Below.refl _ _).alloc (Nat.le_refl _) _) | refine LL.up ?_ (Below.refl _ _).drew); (first | refine LL.up ?_ ((Below.refl _ _).alloc (Nat.le_refl _) _) | refine LL.up ?_ (Below.refl _ _).drew); exact LL1 (LArg.up hA_14 (by repeat (first | exact Below.refl _ _ | apply qbA | apply qbD))) (by simp)))).mono ?_
                   rintro _ w15 ⟨⟨t3q, t3c, rfl, t3l⟩, hbb_15⟩
                   have hbk_15 : Below w14.heap.size w14 w15 := qbt (by repeat (first | exact Below.refl _ _ | apply qbA | apply qbD)) hbb_15
                   have hb_15 := qbt hb_14 hbk_15
                   have hq_15 := hq_14.up hbk_15
                   have ha_15 := ha_14.up hbk_15
                   have hA_15 := hA_14.up hbk_15
                   have hB_15 := hB_14.up hbk_15
                   have r1_15 := r1_14.up hbk_15
                   have t3_15 := t3l
                   clear hb_14 hq_14 ha_14 hA_14 r1_14)
                | (go_at_call 22
                   refine (op1_at 9 (by decide) hB_15 HNB.out (by have := HLN.out; omega) (by first | exact LL1 (LArg.up hB_15 (by repeat (first | exact Below.refl _ _ | apply qbA | apply qbD))) (by simp) | (refine LL.up ?_ hbb_15; first | exact LL1 (LArg.up hB_14 (by repeat (first | exact Below.refl _ _ | apply qbA | apply qbD))) (by simp) | ((first | refine LL.up ?_ ((Below.refl _ _).alloc (Nat.le_refl _) _) | refine LL.up ?_ (Below.refl _ _).drew); exact LL1 (LArg.up hB_14 (by repeat (first | exact Below.refl _ _ | apply qbA | apply qbD))) (by simp)) | ((first | refine LL.up ?_ ((Below.refl _ _).alloc (Nat.le_refl _) _) | refine LL.up ?_ (Below.refl _ _).drew); (first | refine LL.up ?_ ((Below.refl _ _).alloc (Nat.le_refl _) _) | refine LL.up ?_ (Below.refl _ _).drew); exact LL1 (LArg.up hB_14 (by repeat (first | exact Below.refl _ _ | apply qbA | apply qbD))) (by simp)) | ((first | refine LL.up ?_ ((Below.refl _ _).alloc (Nat.le_refl _) _) | refine LL.up ?_ (Below.refl _ _).drew); (first | refine LL.up ?_ ((Below.refl _ _).alloc (Nat.le_refl _) _) | refine LL.up ?_ (Below.refl _ _).drew); (first | refine LL.up ?_ ((Below.refl _ _).alloc (Nat.le_refl _) _) | refine LL.up ?_ (Below.refl _ _).drew); exact LL1 (LArg.up hB_14 (by repeat (first | exact Below.refl _ _ | apply qbA | apply qbD))) (by simp))))).mono ?_
                   rintro _ w16 ⟨⟨t4q, t4c, rfl, t4l⟩, hbb_16⟩
                   have hbk_16 : Below w15.heap.size w15 w16 := qbt (by repeat (first | exact Below.refl _ _ | apply qbA | apply qbD)) hbb_16
                   have hb_16 := qbt hb_15 hbk_16
                   have hq_16 := hq_15.up hbk_16
                   have ha_16 := ha_15.up hbk_16
                   have hA_16 := hA_15.up hbk_16
                   have hB_16 := hB_15.up hbk_16
                   have r1_16 := r1_15.up hbk_16
                   have t3_16 := t3_15.up hbk_16
                   have t4_16 := t4l
                   clear hb_15 hq_15 ha_15 hA_15 hB_15 r1_15 t3_15)
                | (go_at_call 22
                   refine (op2_at 11 (by decide) t3_16 (by simp) (by have := HLN.out; omega) t4_16 (by simp) (by have := HLN.out; omega) (by first | exact LL2 (LArg.up t3_16 (by repeat (first | exact Below.refl _ _ | apply qbA | apply qbD))) (LArg.up t4_16 (by repeat (first | exact Below.refl _ _ | apply qbA | apply qbD))) (by simp) | ((first | refine LL.up ?_ ((Below.refl _ _).alloc (Nat.le_refl _) _) | refine LL.up ?_ (Below.refl _ _).drew); exact LL2 (LArg.up t3_16 (by repeat (first | exact Below.refl _ _ | apply qbA | apply qbD))) (LArg.up t4_16 (by repeat (first | exact Below.refl _ _ | apply qbA | apply qbD))) (by simp)) | ((first | refine LL.up ?_ ((Below.refl _ _).alloc (Nat.le_refl _) _) | refine LL.up ?_ (Below.refl _ _).drew); (first | refine LL.up ?_ ((Below.refl _ _).alloc (Nat.le_refl _) _) | refine LL.up ?_ (Below.refl _ _).drew); exact LL2 (LArg.up t3_16 (by repeat (first | exact Below.refl _ _ | apply qbA | apply qbD))) (LArg.up t4_16 (by repeat (first | exact Below.refl _ _ | apply qbA | apply qbD))) (by simp)) | ((first | refine LL.up ?_ ((Below.refl _ _).alloc (Nat.le_refl _) _) | refine LL.up ?_ (Below.refl _ _).drew); (first | refine LL.up ?_ ((Below.refl _ _).alloc (Nat.le_refl _) _) | refine LL.up ?_ (Below.refl _ _).drew); (first | refine LL.up ?_ ((Below.refl _ _).alloc (Nat.le_refl _) _) | refine LL.up ?_ (Below.refl _ _).drew); exact LL2 (LArg.up t3_16 (by repeat (first | exact Below.refl _ _ | apply qbA | apply qbD))) (LArg.up t4_16 (by repeat (first | exact Below.refl _ _ | apply qbA | apply qbD))) (by simp)))).mono ?_
                   rintro _ w17 ⟨⟨t5q, t5c, rfl, t5l⟩, hbb_17⟩
                   have hbk_17 : Below w16.heap.size w16 w17 := qbt (by repeat (first | exact Below.refl _ _ | apply qbA | apply qbD)) hbb_17
                   have hb_17 := qbt hb_16 hbk_17
                   have hq_17 := hq_16.up hbk_17
                   have ha_17 := ha_16.up hbk_17
                   have hA_17 := hA_16.up hbk_17
                   have hB_17 := hB_16.up hbk_17
                   have r1_17 := r1_16.up hbk_17
                   have t3_17 := t3_16.up hbk_17
                   have t4_17 := t4_16.up hbk_17
                   have t5_17 := t5l
                   clear hb_16 hq_16 ha_16 hA_16 hB_16 r1_16 t3_16 t4_16)
                | (go_at_call 14
                   refine (evalue_arg cs _ (EvArg.up ha_17 (by repeat (first | exact Below.refl _ _ | apply qbA | apply qbD))) (LArg.up t5_17 (by repeat (first | exact Below.refl _ _ | apply qbA | apply qbD))) rfl).mono ?_
                   rintro _ w18 ⟨⟨r2v, r2f, rfl, r2l⟩, hbb_18⟩
                   have hbk_18 : Below w17.heap.size w17 w18 := qbt (by repeat (first | exact Below.refl _ _ | apply qbA | apply qbD)) hbb_18
                   have hb_18 := qbt hb_17 hbk_18
                   have hq_18 := hq_17.up hbk_18
                   have ha_18 := ha_17.up hbk_18
                   have hA_18 := hA_17.up hbk_18
                   have hB_18 := hB_17.up hbk_18
                   have r1_18 := r1_17.up hbk_18
                   have t3_18 := t3_17.up hbk_18
                   have t4_18 := t4_17.up hbk_18
                   have t5_18 := t5_17.up hbk_18
                   have r2_18 := r2l
                   clear hb_17 hq_17 ha_17 hA_17 hB_17 r1_17 t3_17 t4_17 t5_17))
              all_goals
                clear t3_18 t4_18 t5_18
                obtain ⟨x0, x1, x2, x3, x4, x5, x6⟩ := hq_18.cells
                go_wp2_with fail
                refine (same_ans _ r1_18 r2_18 ha_18.er).mono ?_
                rintro _ w19 ⟨rfl, hbb⟩
                clear x0 x1 x2 x3 x4 x5 x6
                have hb_19 := qbt hb_18 hbb
                have hq_19 := hq_18.up hbb
                have ha_19 := ha_18.up hbb
                have hA_19 := hA_18.up hbb
                have hB_19 := hB_18.up hbb
                have r1_19 := r1_18.up hbb
                have r2_19 := r2_18.up hbb
                clear hbb hb_18 hq_18 ha_18 hA_18 hB_18 r1_18 r2_18
                clear r1_19 r2_19
                go_wp2_with fail
                go_region_held (fun w' => w'.cell? ⟨w.heap.size, 0, none⟩ = some (.string q.who.t) ∧ w'.cell? ⟨w.heap.size, 1, none⟩ = some (.string q.who.i) ∧ w'.cell? ⟨w.heap.size, 2, none⟩ = some (.string q.act.t) ∧ w'.cell? ⟨w.heap.size, 3, none⟩ = some (.string q.act.i) ∧ w'.cell? ⟨w.heap.size, 4, none⟩ = some (.string q.what.t) ∧ w'.cell? ⟨w.heap.size, 5, none⟩ = some (.string q.what.i) ∧ w'.cell? ⟨w.heap.size, 6, none⟩ = some (.slice pq q.cx.length cq)) (first | exact QB.cells (QB.up hq_23 (by repeat (first | exact Below.refl _ _ | apply qbA | apply qbD))) | exact QB.cells (QB.up hq_22 (by repeat (first | exact Below.refl _ _ | apply qbA | apply qbD))) | exact QB.cells (QB.up hq_21 (by repeat (first | exact Below.refl _ _ | apply qbA | apply qbD))) | exact QB.cells (QB.up hq_20 (by repeat (first | exact Below.refl _ _ | apply qbA | apply qbD))) | exact QB.cells (QB.up hq_19 (by repeat (first | exact Below.refl _ _ | apply qbA | apply qbD)))) (first
                  | (go_at_call 22
                     refine (op2_at 14 (by decide) hA_19 HNA.out (by have := HLN.out; omega) hB_19 HNB.out (by have := HLN.out; omega) (by first | exact LL2 (LArg.up hA_19 (by repeat (first | exact Below.refl _ _ | apply qbA | apply qbD))) (LArg.up hB_19 (by repeat (first | exact Below.refl _ _ | apply qbA | apply qbD))) (by simp) | ((first | refine LL.up ?_ ((Below.refl _ _).alloc (Nat.le_refl _) _) | refine LL.up ?_ (Below.refl _ _).drew); exact LL2 (LArg.up hA_19 (by repeat (first | exact Below.refl _ _ | apply qbA | apply qbD))) (LArg.up hB_19 (by repeat (first | exact Below.refl _ _ | apply qbA | apply qbD))) (by simp)) | ((first | refine LL.up ?_ ((Below.refl _ _).alloc (Nat.le_refl _) _) | refine LL.up ?_ (Below.refl _ _).drew); (first | refine LL.up ?_ ((Below.refl _ _).alloc (Nat.le_refl _) _) | refine LL.up ?_ (Below.refl _ _).drew); exact LL2 (LArg.up hA_19 (by repeat (first | exact Below.refl _ _ | apply qbA | apply qbD))) (LArg.up hB_19 (by repeat (first | exact Below.refl _ _ | apply qbA | apply qbD))) (by simp)) | ((first | refine LL.up ?_ ((Below.refl _ _).alloc (Nat.le_refl _) _) | refine LL.up ?_ (Below.refl _ _).drew); (first | refine LL.up ?_ ((Below.refl _ _).alloc (Nat.le_refl _) _) | refine LL.up ?_ (Below.refl _ _).drew); (first | refine LL.up ?_ ((Below.refl _ _).alloc (Nat.le_refl _) _) | refine LL.up ?_ (Below.refl _ _).drew); exact LL2 (LArg.up hA_19 (by repeat (first | exact Below.refl _ _ | apply qbA | apply qbD))) (LArg.up hB_19 (by repeat (first | exact Below.refl _ _ | apply qbA | apply qbD))) (by simp)))).mono ?_
                     rintro _ w20 ⟨⟨t1q, t1c, rfl, t1l⟩, hbb_20⟩
                     have hbk_20 : Below w19.heap.size w19 w20 := qbt (by repeat (first | exact Below.refl _ _ | apply qbA | apply qbD)) hbb_20
                     have hb_20 := qbt hb_19 hbk_20
                     have hq_20 := hq_19.up hbk_20
                     have ha_20 := ha_19.up hbk_20
                     have hA_20 := hA_19.up hbk_20
                     have hB_20 := hB_19.up hbk_20
                     have t1_20 := t1l
                     clear hb_19 hq_19 ha_19 hA_19)
                  | (go_at_call 22
                     refine (op1_at 9 (by decide) t1_20 (by simp) (by have := HLN.out; omega) (by first | exact LL1 (LArg.up t1_20 (by repeat (first | exact Below.refl _ _ | apply qbA | apply qbD))) (by simp) | ((first | refine LL.up ?_ ((Below.refl _ _).alloc (Nat.le_refl _) _) | refine LL.up ?_ (Below.refl _ _).drew); exact LL1 (LArg.up t1_20 (by repeat (first | exact Below.refl _ _ | apply qbA | apply qbD))) (by simp)) | ((first | refine LL.up ?_ ((Below.refl _ _).alloc (Nat.le_refl _) _) | refine LL.up ?_ (Below.refl _ _).drew); (first | refine LL.up ?_ ((Below.refl _ _).alloc (Nat.le_refl _) _) | refine LL.up ?_ (Below.refl _ _).drew); exact LL1 (LArg.up t1_20 (by repeat (first | exact Below.refl _ _ | apply qbA | apply qbD))) (by simp)) | ((first | refine LL.up ?_ ((Below.refl _ _).alloc (Nat.le_refl _) _) | refine LL.up ?_ (Below.refl _ _).drew); (first | refine LL.up ?_ ((Below.refl _ _).alloc (Nat.le_refl _) _) | refine LL.up ?_ (Below.refl _ _).drew); (first | refine LL.up ?_ ((Below.refl _ _).alloc (Nat.le_refl _) _) | refine LL.up ?_ (Below.refl _ _).drew); exact LL1 (LArg.up t1_20 (by repeat (first | exact Below.refl _ _ | apply qbA | apply qbD))) (by simp)))).mono ?_
                     rintro _ w21 ⟨⟨t2q, t2c, rfl, t2l⟩, hbb_21⟩
                     have hbk_21 : Below w20.heap.size w20 w21 := qbt (by repeat (first | exact Below.refl _ _ | apply qbA | apply qbD)) hbb_21
                     have hb_21 := qbt hb_20 hbk_21
                     have hq_21 := hq_20.up hbk_21
                     have ha_21 := ha_20.up hbk_21
                     have hA_21 := hA_20.up hbk_21
                     have hB_21 := hB_20.up hbk_21
                     have t1_21 := t1_20.up hbk_21
                     have t2_21 := t2l
                     clear hb_20 hq_20 ha_20 hA_20 hB_20 t1_20)
                  | (go_at_call 22
                     refine (op1_at 9 (by decide) t2_21 (by simp) (by have := HLN.out; omega) (by first | exact LL1 (LArg.up t2_21 (by repeat (first | exact Below.refl _ _ | apply qbA | apply qbD))) (by simp) | ((first | refine LL.up ?_ ((Below.refl _ _).alloc (Nat.le_refl _) _) | refine LL.up ?_ (Below.refl _ _).drew); exact LL1 (LArg.up t2_21 (by repeat (first | exact Below.refl _ _ | apply qbA | apply qbD))) (by simp)) | ((first | refine LL.up ?_ ((Below.refl _ _).alloc (Nat.le_refl _) _) | refine LL.up ?_ (Below.refl _ _).drew); (first | refine LL.up ?_ ((Below.refl _ _).alloc (Nat.le_refl _) _) | refine LL.up ?_ (Below.refl _ _).drew); exact LL1 (LArg.up t2_21 (by repeat (first | exact Below.refl _ _ | apply qbA | apply qbD))) (by simp)) | ((first | refine LL.up ?_ ((Below.refl _ _).alloc (Nat.le_refl _) _) | refine LL.up ?_ (Below.refl _ _).drew); (first | refine LL.up ?_ ((Below.refl _ _).alloc (Nat.le_refl _) _) | refine LL.up ?_ (Below.refl _ _).drew); (first | refine LL.up ?_ ((Below.refl _ _).alloc (Nat.le_refl _) _) | refine LL.up ?_ (Below.refl _ _).drew); exact LL1 (LArg.up t2_21 (by repeat (first | exact Below.refl _ _ | apply qbA | apply qbD))) (by simp)))).mono ?_
                     rintro _ w22 ⟨⟨t3q, t3c, rfl, t3l⟩, hbb_22⟩
                     have hbk_22 : Below w21.heap.size w21 w22 := qbt (by repeat (first | exact Below.refl _ _ | apply qbA | apply qbD)) hbb_22
                     have hb_22 := qbt hb_21 hbk_22
                     have hq_22 := hq_21.up hbk_22
                     have ha_22 := ha_21.up hbk_22
                     have hA_22 := hA_21.up hbk_22
                     have hB_22 := hB_21.up hbk_22
                     have t1_22 := t1_21.up hbk_22
                     have t2_22 := t2_21.up hbk_22
                     have t3_22 := t3l
                     clear hb_21 hq_21 ha_21 hA_21 hB_21 t1_21 t2_21)
                  | (go_at_call 14
                     refine (evalue_arg cs _ (EvArg.up ha_22 (by repeat (first | exact Below.refl _ _ | apply qbA | apply qbD))) (LArg.up t3_22 (by repeat (first | exact Below.refl _ _ | apply qbA | apply qbD))) M3.out).mono ?_
                     rintro _ w23 ⟨⟨r1v, r1f, rfl, r1l⟩, hbb_23⟩
                     have hbk_23 : Below w22.heap.size w22 w23 := qbt (by repeat (first | exact Below.refl _ _ | apply qbA | apply qbD)) hbb_23
                     have hb_23 := qbt hb_22 hbk_23
                     have hq_23 := hq_22.up hbk_23
                     have ha_23 := ha_22.up hbk_23
                     have hA_23 := hA_22.up hbk_23
                     have hB_23 := hB_22.up hbk_23
                     have t1_23 := t1_22.up hbk_23
                     have t2_23 := t2_22.up hbk_23
                     have t3_23 := t3_22.up hbk_23
                     have r1_23 := r1l
                     clear hb_22 hq_22 ha_22 hA_22 hB_22 t1_22 t2_22 t3_22))
                all_goals
                  clear t1_23 t2_23 t3_23
                  go_wp2_with fail
                  go_region_held (fun w' => w'.cell? ⟨w.heap.size, 0, none⟩ = some (.string q.who.t) ∧ w'.cell? ⟨w.heap.size, 1, none⟩ = some (.string q.who.i) ∧ w'.cell? ⟨w.heap.size, 2, none⟩ = some (.string q.act.t) ∧ w'.cell? ⟨w.heap.size, 3, none⟩ = some (.string q.act.i) ∧ w'.cell? ⟨w.heap.size, 4, none⟩ = some (.string q.what.t) ∧ w'.cell? ⟨w.heap.size, 5, none⟩ = some (.string q.what.i) ∧ w'.cell? ⟨w.heap.size, 6, none⟩ = some (.slice pq q.cx.length cq)) (first | exact QB.cells (QB.up hq_25 (by repeat (first | exact Below.refl _ _ | apply qbA | apply qbD))) | exact QB.cells (QB.up hq_24 (by repeat (first | exact Below.refl _ _ | apply qbA | apply qbD))) | exact QB.cells (QB.up hq_23 (by repeat (first | exact Below.refl _ _ | apply qbA | apply qbD)))) (first
                    | (go_at_call 22
                       refine (op2_at 14 (by decide) hA_23 HNA.out (by have := HLN.out; omega) hB_23 HNB.out (by have := HLN.out; omega) (by first | exact LL2 (LArg.up hA_23 (by repeat (first | exact Below.refl _ _ | apply qbA | apply qbD))) (LArg.up hB_23 (by repeat (first | exact Below.refl _ _ | apply qbA | apply qbD))) (by simp) | ((first | refine LL.up ?_ ((Below.refl _ _).alloc (Nat.le_refl _) _) | refine LL.up ?_ (Below.refl _ _).drew); exact LL2 (LArg.up hA_23 (by repeat (first | exact Below.refl _ _ | apply qbA | apply qbD))) (LArg.up hB_23 (by repeat (first | exact Below.refl _ _ | apply qbA | apply qbD))) (by simp)) | ((first | refine LL.up ?_ ((Below.refl _ _).alloc (Nat.le_refl _) _) | refine LL.up ?_ (Below.refl _ _).drew); (first | refine LL.up ?_ ((Below.refl _ _).alloc (Nat.le_refl _) _) | refine LL.up ?_ (Below.refl _ _).drew); exact LL2 (LArg.up hA_23 (by repeat (first | exact Below.refl _ _ | apply qbA | apply qbD))) (LArg.up hB_23 (by repeat (first | exact Below.refl _ _ | apply qbA | apply qbD))) (by simp)) | ((first | refine LL.up ?_ ((Below.refl _ _).alloc (Nat.le_refl _) _) | refine LL.up ?_ (Below.refl _ _).drew); (first | refine LL.up ?_ ((Below.refl _ _).alloc (Nat.le_refl _) _) | refine LL.up ?_ (Below.refl _ _).drew); (first | refine LL.up ?_ ((Below.refl _ _).alloc (Nat.le_refl _) _) | refine LL.up ?_ (Below.refl _ _).drew); exact LL2 (LArg.up hA_23 (by repeat (first | exact Below.refl _ _ | apply qbA | apply qbD))) (LArg.up hB_23 (by repeat (first | exact Below.refl _ _ | apply qbA | apply qbD))) (by simp)))).mono ?_
                       rintro _ w24 ⟨⟨t4q, t4c, rfl, t4l⟩, hbb_24⟩
                       have hbk_24 : Below w23.heap.size w23 w24 := qbt (by repeat (first | exact Below.refl _ _ | apply qbA | apply qbD)) hbb_24
                       have hb_24 := qbt hb_23 hbk_24
                       have hq_24 := hq_23.up hbk_24
                       have ha_24 := ha_23.up hbk_24
                       have hA_24 := hA_23.up hbk_24
                       have hB_24 := hB_23.up hbk_24
                       have r1_24 := r1_23.up hbk_24
                       have t4_24 := t4l
                       clear hb_23 hq_23 ha_23 hA_23 r1_23)
                    | (go_at_call 14
                       refine (evalue_arg cs _ (EvArg.up ha_24 (by repeat (first | exact Below.refl _ _ | apply qbA | apply qbD))) (LArg.up t4_24 (by repeat (first | exact Below.refl _ _ | apply qbA | apply qbD))) rfl).mono ?_
                       rintro _ w25 ⟨⟨r2v, r2f, rfl, r2l⟩, hbb_25⟩
                       have hbk_25 : Below w24.heap.size w24 w25 := qbt (by repeat (first | exact Below.refl _ _ | apply qbA | apply qbD)) hbb_25
                       have hb_25 := qbt hb_24 hbk_25
                       have hq_25 := hq_24.up hbk_25
                       have ha_25 := ha_24.up hbk_25
                       have hA_25 := hA_24.up hbk_25
                       have hB_25 := hB_24.up hbk_25
                       have r1_25 := r1_24.up hbk_25
                       have t4_25 := t4_24.up hbk_25
                       have r2_25 := r2l
                       clear hb_24 hq_24 ha_24 hA_24 hB_24 r1_24 t4_24))
                  all_goals
                    clear t4_25
                    obtain ⟨x0, x1, x2, x3, x4, x5, x6⟩ := hq_25.cells
                    go_wp2_with fail
                    refine (same_ans _ r1_25 r2_25 ha_25.er).mono ?_
                    rintro _ w26 ⟨rfl, hbb⟩
                    clear x0 x1 x2 x3 x4 x5 x6
                    have hb_26 := qbt hb_25 hbb
                    have hq_26 := hq_25.up hbb
                    have ha_26 := ha_25.up hbb
                    have hA_26 := hA_25.up hbb
                    have hB_26 := hB_25.up hbb
                    have r1_26 := r1_25.up hbb
                    have r2_26 := r2_25.up hbb
                    clear hbb hb_25 hq_25 ha_25 hA_25 hB_25 r1_25 r2_25
                    clear r1_26 r2_26
                    obtain ⟨x0, x1, x2, x3, x4, x5, x6⟩ := hq_26.cells
                    go_wp2_with fail
                    go_ret
                    exact ⟨rfl, hb_26⟩
      · have i0 : (200 : Int) < ((a.length : Int) + (b.length : Int) + 3) := by omega
        have i1 : (a.length : Int) ≤ 200 := by have := (xfault_zero k1).1; omega
        have i2 : (b.length : Int) ≤ 200 := by have := (xfault_zero k2).1; omega
        clear k1 k2 k3
        obtain ⟨x0, x1, x2, x3, x4, x5, x6⟩ := hq_1.cells
        go_wp2_with fail
        refine (HTA _ hA_1).mono ?_
        rintro _ w2 ⟨rfl, hbb⟩
        clear x0 x1 x2 x3 x4 x5 x6
        have hb_2 := qbt hb_1 hbb
        have hq_2 := hq_1.up hbb
        have ha_2 := ha_1.up hbb
        have hA_2 := hA_1.up hbb
        have hB_2 := hB_1.up hbb
        clear hbb hb_1 hq_1 ha_1 hA_1 hB_1
        obtain ⟨x0, x1, x2, x3, x4, x5, x6⟩ := hq_2.cells
        go_wp2_with fail
        refine (HTB _ hB_2).mono ?_
        rintro _ w3 ⟨rfl, hbb⟩
        clear x0 x1 x2 x3 x4 x5 x6
        have hb_3 := qbt hb_2 hbb
        have hq_3 := hq_2.up hbb
        have ha_3 := ha_2.up hbb
        have hA_3 := hA_2.up hbb
        have hB_3 := hB_2.up hbb
        clear hbb hb_2 hq_2 ha_2 hA_2 hB_2
        obtain ⟨x0, x1, x2, x3, x4, x5, x6⟩ := hq_3.cells
        go_wp2_with fail
        go_ret
        exact ⟨rfl, hb_3⟩
    · rw [eV_not k2] at HTB
      clear k1 k2
      generalize xfault b = n3 at *
      obtain ⟨x0, x1, x2, x3, x4, x5, x6⟩ := hq_1.cells
      go_wp2_with fail
      refine (HTA _ hA_1).mono ?_
      rintro _ w2 ⟨rfl, hbb⟩
      clear x0 x1 x2 x3 x4 x5 x6
      have hb_2 := qbt hb_1 hbb
      have hq_2 := hq_1.up hbb
      have ha_2 := ha_1.up hbb
      have hA_2 := hA_1.up hbb
      have hB_2 := hB_1.up hbb
      clear hbb hb_1 hq_1 ha_1 hA_1 hB_1
      obtain ⟨x0, x1, x2, x3, x4, x5, x6⟩ := hq_2.cells
      go_wp2_with fail
      refine (HTB _ hB_2).mono ?_
      rintro _ w3 ⟨rfl, hbb⟩
      clear x0 x1 x2 x3 x4 x5 x6
      have hb_3 := qbt hb_2 hbb
      have hq_3 := hq_2.up hbb
      have ha_3 := ha_2.up hbb
      have hA_3 := hA_2.up hbb
      have hB_3 := hB_2.up hbb
      clear hbb hb_2 hq_2 ha_2 hA_2 hB_2
      obtain ⟨x0, x1, x2, x3, x4, x5, x6⟩ := hq_3.cells
      go_wp2_with fail
      go_ret
      exact ⟨rfl, hb_3⟩
  · rw [eV_not k1] at HTA
    clear k1
    generalize xfault a = n3 at *
    obtain ⟨x0, x1, x2, x3, x4, x5, x6⟩ := hq_1.cells
    go_wp2_with fail
    refine (HTA _ hA_1).mono ?_
    rintro _ w2 ⟨rfl, hbb⟩
    clear x0 x1 x2 x3 x4 x5 x6
    have hb_2 := qbt hb_1 hbb
    have hq_2 := hq_1.up hbb
    have ha_2 := ha_1.up hbb
    have hA_2 := hA_1.up hbb
    have hB_2 := hB_1.up hbb
    clear hbb hb_1 hq_1 ha_1 hA_1 hB_1
    obtain ⟨x0, x1, x2, x3, x4, x5, x6⟩ := hq_2.cells
    go_wp2_with fail
    go_ret
    exact ⟨rfl, hb_2⟩
end Go.Proofs.YtglhjhbhijekjaaGreatDoor
