/- EvalShort: the walk of the statement's own function. -/
import Derived.Test.YtglhjhbhijekjaaGreatDoorG39
namespace Go.Proofs.YtglhjhbhijekjaaGreatDoor
open Go.RowKit
set_option linter.unusedVariables false
set_option maxRecDepth 100000

theorem VArg.some {w : World} {a : List Nd} {n : Nat} {q : Option Addr} {c : Nat} (h : VArg w a n q c) : ∃ b off, q = Option.some ⟨b, off, none⟩ := by
  obtain ⟨x, r, b, off, _, h1, _⟩ := h.head
  exact ⟨b, off, h1⟩
theorem VArg.cell0 {w : World} {a : List Nd} {n : Nat} {b off : Nat} {c : Nat} (h : VArg w a n (Option.some ⟨b, off, none⟩) c) (h1 : opV a = 1) : w.cell? ⟨b, off, none⟩ = Option.some (.int .i64 1) := by
  obtain ⟨x, r, b', off', rfl, e, _, h3, _⟩ := h.head
  cases e
  have : x.op = 1 := h1
  rw [this] at h3
  exact h3
theorem VArg.cell1 {w : World} {a : List Nd} {n : Nat} {b off : Nat} {c : Nat} (h : VArg w a n (Option.some ⟨b, off, none⟩) c) : w.cell? ⟨b, off + 1, none⟩ = Option.some (.int .i64 (nV a)) := by
  obtain ⟨x, r, b', off', rfl, e, _, _, h3, _⟩ := h.head
  cases e
  exact h3
set_option maxHeartbeats 20000000 in
theorem eshort_walk (es : List En) (ps : Option Addr) (cs : Nat) (q : Rq) (pq : Option Addr) (cq : Nat) (a : List Nd) (pa : Option Addr) (ca : Nat) (b : List Nd) (pb : Option Addr) (cb : Nat) (c : List Nd) (pc : Option Addr) (cc : Nat) (w : World)
    (ha : EvArg w es ps q pq cq) (hA : LArg w a a.length pa ca) (hB : LArg w b b.length pb cb) (hC : LArg w c c.length pc cc) :
    Calls Tryz.prog 8 #[.slice ps es.length cs, reqV q pq cq, .slice pa a.length ca, .slice pb b.length cb, .slice pc c.length cc] w fun e w' => e = .returned (.bool true) ∧ Below w.heap.size w w' := by
  obtain ⟨R, hR⟩ : ∃ R, valueL es q a = R := ⟨_, rfl⟩
  obtain ⟨W, hW⟩ : ∃ W, W = w.alloc (.cells #[.string q.who.t, .string q.who.i, .string q.act.t, .string q.act.i, .string q.what.t, .string q.what.i, .slice pq q.cx.length cq] 26) := ⟨_, rfl⟩
  have hb_0 : Below w.heap.size w W := by rw [hW]; exact (Below.refl _ _).alloc (Nat.le_refl _) _
  have hq_0 : QB W w.heap.size q pq cq := by rw [hW]; exact QB.new w q pq cq
  have ha_0 := ha.up hb_0
  have hA_0 := hA.up hb_0
  have hB_0 := hB.up hb_0
  have hC_0 := hC.up hb_0
  clear ha hA hB hC
  unfold reqV
  go_enter Tryz.func8, Tryz.ntmps8
  obtain ⟨x0, x1, x2, x3, x4, x5, x6⟩ := hq_0.cells
  go_wp2_with fail
  rw [← hW]
  refine (lfact_any _ ha_0.er).mono ?_
  rintro _ w1 ⟨rfl, hbb⟩
  clear x0 x1 x2 x3 x4 x5 x6
  have hb_1 := qbt hb_0 hbb
  have hq_1 := hq_0.up hbb
  have ha_1 := ha_0.up hbb
  have hA_1 := hA_0.up hbb
  have hB_1 := hB_0.up hbb
  have hC_1 := hC_0.up hbb
  clear hbb hb_0 hq_0 ha_0 hA_0 hB_0 hC_0
  obtain ⟨x0, x1, x2, x3, x4, x5, x6⟩ := hq_1.cells
  go_wp2_with fail
  refine (evalue_arg cs _ ha_1 hA_1 hR).mono ?_
  rintro _ w2 ⟨⟨x, f, rfl, hx⟩, hbb⟩
  clear x0 x1 x2 x3 x4 x5 x6
  have hb_2 := qbt hb_1 hbb
  have hq_2 := hq_1.up hbb
  have ha_2 := ha_1.up hbb
  have hA_2 := hA_1.up hbb
  have hB_2 := hB_1.up hbb
  have hC_2 := hC_1.up hbb
  clear hbb hb_1 hq_1 ha_1 hA_1 hB_1 hC_1
  cases R with
  | error n =>
    obtain ⟨rfl, rfl⟩ := hx
    clear hR
    obtain ⟨x0, x1, x2, x3, x4, x5, x6⟩ := hq_2.cells
    go_wp2_with fail
    go_ret
    exact ⟨rfl, hb_2⟩
  | ok v =>
    obtain ⟨qv, cv, rfl, rfl, hv⟩ := hx
    have hV_2 := hv
    clear hv
    obtain ⟨z1, z2, z3, z4⟩ := valueL_ok hR
    clear hR
    have hVal := hV_2.is.val
    generalize hnv : v.length = nv at *
    have HNV : Hid (v.length = nv) := hnv
    clear hnv
    have i9 : (0 : Int) < (nv : Int) := by have := hV_2.len; have h2 := List.length_pos_iff.2 hV_2.is.ne; omega
    by_cases h1 : opV v = 1
    · have hvt := truth_is hVal h1
      have hnb : (nV v == 1) = true ↔ nV v = 1 := by simp
      have HTB := fun w1 h1 => tcheck_arg (a := b) (n := b.length) (p := pb) (c := cb) w1 h1
      have HTC := fun w1 h1 => tcheck_arg (a := c) (n := c.length) (p := pc) (c := cc) w1 h1
      obtain ⟨b0, off, rfl⟩ := hV_2.some
      have d0_2 := hV_2.cell0 h1
      have d1_2 := hV_2.cell1
      by_cases k2 : xfault b = 0
      · rw [eV_nil k2] at HTB
        by_cases k3 : xfault c = 0
        · rw [eV_nil k3] at HTC
          by_cases k4 : a.length + b.length + c.length + 1 ≤ 200
          · have i0 : ¬ (200 : Int) < ((a.length : Int) + (b.length : Int) + (c.length : Int) + 1) := by omega
            have i1 : (a.length : Int) ≤ 200 := by omega
            have i2 : (b.length : Int) ≤ 200 := by omega
            have i3 : (c.length : Int) ≤ 200 := by omega
            have HLN : Hid (a.length + b.length + c.length + 1 ≤ 200) := k4
            have HNA : Hid (a ≠ []) := fun e => by rw [e] at z3; cases z3
            have HNB : Hid (b ≠ []) := fun e => by rw [e] at k2; cases k2
            have HNC : Hid (c ≠ []) := fun e => by rw [e] at k3; cases k3
            have HIF : Hid (_ = _) := short_if (b := b) (c := c) z3 k2 k3 z4 h1
            have HVI : Hid (valueL es q (oN 13 :: (a ++ (b ++ c))) = ev0 es q (oN 13 :: (a ++ (b ++ c)))) := by show _ = _; rw [valueL_ex (if_ex z3 k2 k3 k4), if_pos z1, if_pos z2]
            have HVB : Hid (valueL es q b = ev0 es q b) := by show _ = _; rw [valueL_ex k2, if_pos z1, if_pos z2]
            have HVC : Hid (valueL es q c = ev0 es q c) := by show _ = _; rw [valueL_ex k3, if_pos z1, if_pos z2]
            have xa := op2_ex (o := 11) (by decide) (by decide) rfl rfl z3 k2 (by omega)
            have xo := op2_ex (o := 12) (by decide) (by decide) rfl rfl z3 k2 (by omega)
            have HVA : Hid (valueL es q (oN 11 :: (a ++ b)) = ev0 es q (oN 11 :: (a ++ b))) := by show _ = _; rw [valueL_ex xa, if_pos z1, if_pos z2]
            have HVO : Hid (valueL es q (oN 12 :: (a ++ b)) = ev0 es q (oN 12 :: (a ++ b))) := by show _ = _; rw [valueL_ex xo, if_pos z1, if_pos z2]
            clear xa xo
            by_cases k5 : nV v = 1
            · have HR : Hid (valueL es q (oN 13 :: (a ++ (b ++ c))) = valueL es q b) := by show _ = _; rw [HVI.out, HIF.out, if_pos k5, HVB.out]
              have HO : Hid (valueL es q (oN 12 :: (a ++ b)) = .ok v) := by show _ = _; rw [HVO.out]; exact short_or z3 k2 z4 hVal h1 k5
              have K5 : (nV v == 1) = true := by simpa using k5
              have H1 : Hid (opV v = 1) := h1
              clear HIF HVI HVB HVC HVA HVO k2 k3 k4 k5 z1 z2 z3 z4 hvt hnb hVal h1
              obtain ⟨x0, x1, x2, x3, x4, x5, x6⟩ := hq_2.cells
              go_wp2_with fail
              refine (HTB _ hB_2).mono ?_
              rintro _ w3 ⟨rfl, hbb⟩
              clear x0 x1 x2 x3 x4 x5 x6
              have hb_3 := qbt hb_2 hbb
              have hq_3 := hq_2.up hbb
              have ha_3 := ha_2.up hbb
              have hA_3 := hA_2.up hbb
              have hB_3 := hB_2.up hbb
              have hC_3 := hC_2.up hbb
              have hV_3 := hV_2.up hbb
              clear hbb hb_2 hq_2 ha_2 hA_2 hB_2 hC_2 hV_2
              obtain ⟨x0, x1, x2, x3, x4, x5, x6⟩ := hq_3.cells
              go_wp2_with fail
              refine (HTC _ hC_3).mono ?_
              rintro _ w4 ⟨rfl, hbb⟩
              clear x0 x1 x2 x3 x4 x5 x6
              have hb_4 := qbt hb_3 hbb
              have hq_4 := hq_3.up hbb
              have ha_4 := ha_3.up hbb
              have hA_4 := hA_3.up hbb
              have hB_4 := hB_3.up hbb
              have hC_4 := hC_3.up hbb
              have hV_4 := hV_3.up hbb
              clear hbb hb_3 hq_3 ha_3 hA_3 hB_3 hC_3 hV_3
              go_wp2_with fail
              go_region_held (fun w' => w'.cell? ⟨w.heap.size, 0, none⟩ = some (.string q.who.t) ∧ w'.cell? ⟨w.heap.size, 1, none⟩ = some (.string q.who.i) ∧ w'.cell? ⟨w.heap.size, 2, none⟩ = some (.string q.act.t) ∧ w'.cell? ⟨w.heap.size, 3, none⟩ = some (.string q.act.i) ∧ w'.cell? ⟨w.heap.size, 4, none⟩ = some (.string q.what.t) ∧ w'.cell? ⟨w.heap.size, 5, none⟩ = some (.string q.what.i) ∧ w'.cell? ⟨w.heap.size, 6, none⟩ = some (.slice pq q.cx.length cq)) (first | exact QB.cells (QB.up hq_6 (by repeat (first | exact Below.refl _ _ | apply qbA | apply qbD))) | exact QB.cells (QB.up hq_5 (by repeat (first | exact Below.refl _ _ | apply qbA | apply qbD))) | exact QB.cells (QB.up hq_4 (by repeat (first | exact Below.refl _ _ | apply qbA | apply qbD)))) (first
                | (go_at_call 22
                   refine (op3_at 13 (by decide) hA_4 HNA.out (by have := HLN.out; omega) hB_4 HNB.out (by have := HLN.out; omega) hC_4 HNC.out (by have := HLN.out; omega) (by first | exact LL3 (LArg.up hA_4 (by repeat (first | exact Below.refl _ _ | apply qbA | apply qbD))) (LArg.up hB_4 (by repeat (first | exact Below.refl _ _ | apply qbA | apply qbD))) (LArg.up hC_4 (by repeat (first | exact Below.refl _ _ | apply qbA | apply qbD))) (by simp) | ((first | refine LL.up ?_ ((Below.refl _ _).alloc (Nat.le_refl _) _) | refine LL.up ?_ (Below.refl _ _).drew); exact LL3 (LArg.up hA_4 (by repeat (first | exact Below.refl _ _ | apply qbA | apply qbD))) (LArg.up hB_4 (by repeat (first | exact Below.refl _ _ | apply qbA | apply qbD))) (LArg.up hC_4 (by repeat (first | exact Below.refl _ _ | apply qbA | apply qbD))) (by simp)) | ((first | refine LL.up ?_ ((Below.refl _ _).alloc (Nat.le_refl _) _) | refine LL.up ?_ (Below.refl _ _).drew); (first | refine LL.up ?_ ((Below.refl _ _).alloc (Nat.le_refl _) _) | refine LL.up ?_ (Below.refl _ _).drew); exact LL3 (LArg.up hA_4 (by repeat (first | exact Below.refl _ _ | apply qbA | apply qbD))) (LArg.up hB_4 (by repeat (first | exact Below.refl _ _ | apply qbA | apply qbD))) (LArg.up hC_4 (by repeat (first | exact Below.refl _ _ | apply qbA | apply qbD))) (by simp)) | ((first | refine LL.up ?_ ((Below.refl _ _).alloc (Nat.le_refl _) _) | refine LL.up ?_ (Below.refl _ _).drew); (first | refine LL.up ?_ ((Below.refl _ _).alloc (Nat.le_refl _) _) | refine LL.up ?_ (Below.refl _ _).drew); (first | refine LL.up ?_ ((Below.refl _ _).alloc (Nat.le_refl _) _) | refine LL.up ?_ (Below.refl _ _).drew); exact LL3 (LArg.up hA_4 (by repeat (first | exact Below.refl _ _ | apply qbA | apply qbD))) (LArg.up hB_4 (by repeat (first | exact Below.refl _ _ | apply qbA | apply qbD))) (LArg.up hC_4 (by repeat (first | exact Below.refl _ _ | apply qbA | apply qbD))) (by simp)))).mono ?_
                   rintro _ w5 ⟨⟨t1q, t1c, rfl, t1l⟩, hbb_5⟩
                   have hbk_5 : Below w4.heap.size w4 w5 := qbt (by repeat (first | exact Below.refl _ _ | apply qbA | apply qbD)) hbb_5
                   have hb_5 := qbt hb_4 hbk_5
                   have hq_5 := hq_4.up hbk_5
                   have ha_5 := ha_4.up hbk_5
                   have hA_5 := hA_4.up hbk_5
                   have hB_5 := hB_4.up hbk_5
                   have hC_5 := hC_4.up hbk_5
                   have hV_5 := hV_4.up hbk_5
                   have t1_5 := t1l
                   clear hb_4 hq_4 ha_4 hA_4 hC_4 hV_4)
                | (go_at_call 14
                   refine (evalue_arg cs _ (EvArg.up ha_5 (by repeat (first | exact Below.refl _ _ | apply qbA | apply qbD))) (LArg.up t1_5 (by repeat (first | exact Below.refl _ _ | apply qbA | apply qbD))) HR.out).mono ?_
                   rintro _ w6 ⟨⟨r1v, r1f, rfl, r1l⟩, hbb_6⟩
                   have hbk_6 : Below w5.heap.size w5 w6 := qbt (by repeat (first | exact Below.refl _ _ | apply qbA | apply qbD)) hbb_6
                   have hb_6 := qbt hb_5 hbk_6
                   have hq_6 := hq_5.up hbk_6
                   have ha_6 := ha_5.up hbk_6
                   have hA_6 := hA_5.up hbk_6
                   have hB_6 := hB_5.up hbk_6
                   have hC_6 := hC_5.up hbk_6
                   have hV_6 := hV_5.up hbk_6
                   have t1_6 := t1_5.up hbk_6
                   have r1_6 := r1l
                   clear hb_5 hq_5 ha_5 hA_5 hB_5 hC_5 hV_5 t1_5))
              all_goals
                clear t1_6
                obtain ⟨x0, x1, x2, x3, x4, x5, x6⟩ := hq_6.cells
                go_wp2_with fail
                refine (evalue_arg cs _ ha_6 hC_6 rfl).mono ?_
                rintro _ w7 ⟨⟨r2v, r2f, rfl, r2l⟩, hbb⟩
                clear x0 x1 x2 x3 x4 x5 x6
                have hb_7 := qbt hb_6 hbb
                have hq_7 := hq_6.up hbb
                have ha_7 := ha_6.up hbb
                have hA_7 := hA_6.up hbb
                have hB_7 := hB_6.up hbb
                have hC_7 := hC_6.up hbb
                have hV_7 := hV_6.up hbb
                have r1_7 := r1_6.up hbb
                clear hbb hb_6 hq_6 ha_6 hA_6 hB_6 hC_6 hV_6 r1_6
                have r2_7 := r2l
                clear r2l
                have d1_7 := hV_7.cell1
                obtain ⟨x0, x1, x2, x3, x4, x5, x6⟩ := hq_7.cells
                go_wp2_with fail
                refine (evalue_arg cs _ ha_7 hB_7 rfl).mono ?_
                rintro _ w8 ⟨⟨r3v, r3f, rfl, r3l⟩, hbb⟩
                clear x0 x1 x2 x3 x4 x5 x6
                have hb_8 := qbt hb_7 hbb
                have hq_8 := hq_7.up hbb
                have ha_8 := ha_7.up hbb
                have hA_8 := hA_7.up hbb
                have hB_8 := hB_7.up hbb
                have hC_8 := hC_7.up hbb
                have hV_8 := hV_7.up hbb
                have r1_8 := r1_7.up hbb
                have r2_8 := r2_7.up hbb
                clear hbb hb_7 hq_7 ha_7 hA_7 hB_7 hC_7 hV_7 r1_7 r2_7
                have r3_8 := r3l
                clear r3l
                obtain ⟨x0, x1, x2, x3, x4, x5, x6⟩ := hq_8.cells
                go_wp2_with fail
                refine (same_ans _ r1_8 r3_8 ha_8.er).mono ?_
                rintro _ w9 ⟨rfl, hbb⟩
                clear x0 x1 x2 x3 x4 x5 x6
                have hb_9 := qbt hb_8 hbb
                have hq_9 := hq_8.up hbb
                have ha_9 := ha_8.up hbb
                have hA_9 := hA_8.up hbb
                have hB_9 := hB_8.up hbb
                have hC_9 := hC_8.up hbb
                have hV_9 := hV_8.up hbb
                have r1_9 := r1_8.up hbb
                have r2_9 := r2_8.up hbb
                have r3_9 := r3_8.up hbb
                clear hbb hb_8 hq_8 ha_8 hA_8 hB_8 hC_8 hV_8 r1_8 r2_8 r3_8
                clear hC_9 r1_9 r2_9 r3_9
                have d1_9 := hV_9.cell1
                go_wp2_with fail
                go_region_held (fun w' => w'.cell? ⟨w.heap.size, 0, none⟩ = some (.string q.who.t) ∧ w'.cell? ⟨w.heap.size, 1, none⟩ = some (.string q.who.i) ∧ w'.cell? ⟨w.heap.size, 2, none⟩ = some (.string q.act.t) ∧ w'.cell? ⟨w.heap.size, 3, none⟩ = some (.string q.act.i) ∧ w'.cell? ⟨w.heap.size, 4, none⟩ = some (.string q.what.t) ∧ w'.cell? ⟨w.heap.size, 5, none⟩ = some (.string q.what.i) ∧ w'.cell? ⟨w.heap.size, 6, none⟩ = some (.slice pq q.cx.length cq)) (first | exact QB.cells (QB.up hq_11 (by repeat (first | exact Below.refl _ _ | apply qbA | apply qbD))) | exact QB.cells (QB.up hq_10 (by repeat (first | exact Below.refl _ _ | apply qbA | apply qbD))) | exact QB.cells (QB.up hq_9 (by repeat (first | exact Below.refl _ _ | apply qbA | apply qbD)))) (first
                  | (go_at_call 22
                     refine (op2_at 12 (by decide) hA_9 HNA.out (by have := HLN.out; omega) hB_9 HNB.out (by have := HLN.out; omega) (by first | exact LL2 (LArg.up hA_9 (by repeat (first | exact Below.refl _ _ | apply qbA | apply qbD))) (LArg.up hB_9 (by repeat (first | exact Below.refl _ _ | apply qbA | apply qbD))) (by simp) | ((first | refine LL.up ?_ ((Below.refl _ _).alloc (Nat.le_refl _) _) | refine LL.up ?_ (Below.refl _ _).drew); exact LL2 (LArg.up hA_9 (by repeat (first | exact Below.refl _ _ | apply qbA | apply qbD))) (LArg.up hB_9 (by repeat (first | exact Below.refl _ _ | apply qbA | apply qbD))) (by simp)) | ((first | refine LL.up ?_ ((Below.refl _ _).alloc (Nat.le_refl _) _) | refine LL.up ?_ (Below.refl _ _).drew); (first | refine LL.up ?_ ((Below.refl _ _).alloc (Nat.le_refl _) _) | refine LL.up ?_ (Below.refl _ _).drew); exact LL2 (LArg.up hA_9 (by repeat (first | exact Below.refl _ _ | apply qbA | apply qbD))) (LArg.up hB_9 (by repeat (first | exact Below.refl _ _ | apply qbA | apply qbD))) (by simp)) | ((first | refine LL.up ?_ ((Below.refl _ _).alloc (Nat.le_refl _) _) | refine LL.up ?_ (Below.refl _ _).drew); (first | refine LL.up ?_ ((Below.refl _ _).alloc (Nat.le_refl _) _) | refine LL.up ?_ (Below.refl _ _).drew); (first | refine LL.up ?_ ((Below.refl _ _).alloc (Nat.le_refl _) _) | refine LL.up ?_ (Below.refl _ _).drew); exact LL2 (LArg.up hA_9 (by repeat (first | exact Below.refl _ _ | apply qbA | apply qbD))) (LArg.up hB_9 (by repeat (first | exact Below.refl _ _ | apply qbA | apply qbD))) (by simp)))).mono ?_
                     rintro _ w10 ⟨⟨t2q, t2c, rfl, t2l⟩, hbb_10⟩
                     have hbk_10 : Below w9.heap.size w9 w10 := qbt (by repeat (first | exact Below.refl _ _ | apply qbA | apply qbD)) hbb_10
                     have hb_10 := qbt hb_9 hbk_10
                     have hq_10 := hq_9.up hbk_10
                     have ha_10 := ha_9.up hbk_10
                     have hA_10 := hA_9.up hbk_10
                     have hB_10 := hB_9.up hbk_10
                     have hV_10 := hV_9.up hbk_10
                     have t2_10 := t2l
                     clear hb_9 hq_9 ha_9 hA_9 hV_9)
                  | (go_at_call 14
                     refine (evalue_arg cs _ (EvArg.up ha_10 (by repeat (first | exact Below.refl _ _ | apply qbA | apply qbD))) (LArg.up t2_10 (by repeat (first | exact Below.refl _ _ | apply qbA | apply qbD))) HO.out).mono ?_
                     rintro _ w11 ⟨⟨r4v, r4f, rfl, r4l⟩, hbb_11⟩
                     have hbk_11 : Below w10.heap.size w10 w11 := qbt (by repeat (first | exact Below.refl _ _ | apply qbA | apply qbD)) hbb_11
                     have hb_11 := qbt hb_10 hbk_11
                     have hq_11 := hq_10.up hbk_11
                     have ha_11 := ha_10.up hbk_11
                     have hA_11 := hA_10.up hbk_11
                     have hB_11 := hB_10.up hbk_11
                     have hV_11 := hV_10.up hbk_11
                     have t2_11 := t2_10.up hbk_11
                     have r4_11 := r4l
                     clear hb_10 hq_10 ha_10 hA_10 hB_10 hV_10 t2_10))
                all_goals
                  clear hA_11 hB_11 t2_11
                  obtain ⟨x0, x1, x2, x3, x4, x5, x6⟩ := hq_11.cells
                  go_wp2_with fail
                  refine (same_ans _ r4_11 (R := .ok v) (v' := .slice _ nv cv) (e' := .nilIface) ⟨_, _, by rw [HNV.out], rfl, by rw [HNV.out]; exact hV_11⟩ ha_11.er).mono ?_
                  rintro _ w12 ⟨rfl, hbb⟩
                  clear x0 x1 x2 x3 x4 x5 x6
                  have hb_12 := qbt hb_11 hbb
                  have hq_12 := hq_11.up hbb
                  have ha_12 := ha_11.up hbb
                  have hV_12 := hV_11.up hbb
                  have r4_12 := r4_11.up hbb
                  clear hbb hb_11 hq_11 ha_11 hV_11 r4_11
                  obtain ⟨x0, x1, x2, x3, x4, x5, x6⟩ := hq_12.cells
                  go_wp2_with fail
                  go_ret
                  exact ⟨rfl, hb_12⟩
            · have HR : Hid (valueL es q (oN 13 :: (a ++ (b ++ c))) = valueL es q c) := by show _ = _; rw [HVI.out, HIF.out, if_neg k5, HVC.out]
              have HO : Hid (valueL es q (oN 11 :: (a ++ b)) = .ok v) := by show _ = _; rw [HVA.out]; exact short_and z3 k2 z4 hVal h1 k5
              have K5 : (nV v == 1) = false := by simpa using k5
              have H1 : Hid (opV v = 1) := h1
              clear HIF HVI HVB HVC HVA HVO k2 k3 k4 k5 z1 z2 z3 z4 hvt hnb hVal h1
              obtain ⟨x0, x1, x2, x3, x4, x5, x6⟩ := hq_2.cells
              go_wp2_with fail
              refine (HTB _ hB_2).mono ?_
              rintro _ w3 ⟨rfl, hbb⟩
              clear x0 x1 x2 x3 x4 x5 x6
              have hb_3 := qbt hb_2 hbb
              have hq_3 := hq_2.up hbb
              have ha_3 := ha_2.up hbb
              have hA_3 := hA_2.up hbb
              have hB_3 := hB_2.up hbb
              have hC_3 := hC_2.up hbb
              have hV_3 := hV_2.up hbb
              clear hbb hb_2 hq_2 ha_2 hA_2 hB_2 hC_2 hV_2
              obtain ⟨x0, x1, x2, x3, x4, x5, x6⟩ := hq_3.cells
              go_wp2_with fail
              refine (HTC _ hC_3).mono ?_
              rintro _ w4 ⟨rfl, hbb⟩
              clear x0 x1 x2 x3 x4 x5 x6
              have hb_4 := qbt hb_3 hbb
              have hq_4 := hq_3.up hbb
              have ha_4 := ha_3.up hbb
              have hA_4 := hA_3.up hbb
              have hB_4 := hB_3.up hbb
              have hC_4 := hC_3.up hbb
              have hV_4 := hV_3.up hbb
              clear hbb hb_3 hq_3 ha_3 hA_3 hB_3 hC_3 hV_3
              go_wp2_with fail
              go_region_held (fun w' => w'.cell? ⟨w.heap.size, 0, none⟩ = some (.string q.who.t) ∧ w'.cell? ⟨w.heap.size, 1, none⟩ = some (.string q.who.i) ∧ w'.cell? ⟨w.heap.size, 2, none⟩ = some (.string q.act.t) ∧ w'.cell? ⟨w.heap.size, 3, none⟩ = some (.string q.act.i) ∧ w'.cell? ⟨w.heap.size, 4, none⟩ = some (.string q.what.t) ∧ w'.cell? ⟨w.heap.size, 5, none⟩ = some (.string q.what.i) ∧ w'.cell? ⟨w.heap.size, 6, none⟩ = some (.slice pq q.cx.length cq)) (first | exact QB.cells (QB.up hq_6 (by repeat (first | exact Below.refl _ _ | apply qbA | apply qbD))) | exact QB.cells (QB.up hq_5 (by repeat (first | exact Below.refl _ _ | apply qbA | apply qbD))) | exact QB.cells (QB.up hq_4 (by repeat (first | exact Below.refl _ _ | apply qbA | apply qbD)))) (first
                | (go_at_call 22
                   refine (op3_at 13 (by decide) hA_4 HNA.out (by have := HLN.out; omega) hB_4 HNB.out (by have := HLN.out; omega) hC_4 HNC.out (by have := HLN.out; omega) (by first | exact LL3 (LArg.up hA_4 (by repeat (first | exact Below.refl _ _ | apply qbA | apply qbD))) (LArg.up hB_4 (by repeat (first | exact Below.refl _ _ | apply qbA | apply qbD))) (LArg.up hC_4 (by repeat (first | exact Below.refl _ _ | apply qbA | apply qbD))) (by simp) | ((first | refine LL.up ?_ ((Below.refl _ _).alloc (Nat.le_refl _) _) | refine LL.up ?_ (Below.refl _ _).drew); exact LL3 (LArg.up hA_4 (by repeat (first | exact Below.refl _ _ | apply qbA | apply qbD))) (LArg.up hB_4 (by repeat (first | exact Below.refl _ _ | apply qbA | apply qbD))) (LArg.up hC_4 (by repeat (first | exact Below.refl _ _ | apply qbA | apply qbD))) (by simp)) | ((first | refine LL.up ?_ ((Below.refl _ _).alloc (Nat.le_refl _) _) | refine LL.up ?_ (Below.refl _ _).drew); (first | refine LL.up ?_ ((Below.refl _ _).alloc (Nat.le_refl _) _) | refine LL.up ?_ (Below.refl _ _).drew); exact LL3 (LArg.up hA_4 (by repeat (first | exact Below.refl _ _ | apply qbA | apply qbD))) (LArg.up hB_4 (by repeat (first | exact Below.refl _ _ | apply qbA | apply qbD))) (LArg.up hC_4 (by repeat (first | exact Below.refl _ _ | apply qbA | apply qbD))) (by simp)) | ((first | refine LL.up ?_ ((Below.refl _ _).alloc (Nat.le_refl _) _) | refine LL.up ?_ (Below.refl _ _).drew); (first | refine LL.up ?_ ((Below.refl _ _).alloc (Nat.le_refl _) _) | refine LL.up ?_ (Below.refl _ _).drew); (first | refine LL.up ?_ ((Below.refl _ _).alloc (Nat.le_refl _) _) | refine LL.up ?_ (Below.refl _ _).drew); exact LL3 (LArg.up hA_4 (by repeat (first | exact Below.refl _ _ | apply qbA | apply qbD))) (LArg.up hB_4 (by repeat (first | exact Below.refl _ _ | apply qbA | apply qbD))) (LArg.up hC_4 (by repeat (first | exact Below.refl _ _ | apply qbA | apply qbD))) (by simp)))).mono ?_
                   rintro _ w5 ⟨⟨t1q, t1c, rfl, t1l⟩, hbb_5⟩
                   have hbk_5 : Below w4.heap.size w4 w5 := qbt (by repeat (first | exact Below.refl _ _ | apply qbA | apply qbD)) hbb_5
                   have hb_5 := qbt hb_4 hbk_5
                   have hq_5 := hq_4.up hbk_5
                   have ha_5 := ha_4.up hbk_5
                   have hA_5 := hA_4.up hbk_5
                   have hB_5 := hB_4.up hbk_5
                   have hC_5 := hC_4.up hbk_5
                   have hV_5 := hV_4.up hbk_5
                   have t1_5 := t1l
                   clear hb_4 hq_4 ha_4 hA_4 hC_4 hV_4)
                | (go_at_call 14
                   refine (evalue_arg cs _ (EvArg.up ha_5 (by repeat (first | exact Below.refl _ _ | apply qbA | apply qbD))) (LArg.up t1_5 (by repeat (first | exact Below.refl _ _ | apply qbA | apply qbD))) HR.out).mono ?_
                   rintro _ w6 ⟨⟨r1v, r1f, rfl, r1l⟩, hbb_6⟩
                   have hbk_6 : Below w5.heap.size w5 w6 := qbt (by repeat (first | exact Below.refl _ _ | apply qbA | apply qbD)) hbb_6
                   have hb_6 := qbt hb_5 hbk_6
                   have hq_6 := hq_5.up hbk_6
                   have ha_6 := ha_5.up hbk_6
                   have hA_6 := hA_5.up hbk_6
                   have hB_6 := hB_5.up hbk_6
                   have hC_6 := hC_5.up hbk_6
                   have hV_6 := hV_5.up hbk_6
                   have t1_6 := t1_5.up hbk_6
                   have r1_6 := r1l
                   clear hb_5 hq_5 ha_5 hA_5 hB_5 hC_5 hV_5 t1_5))
              all_goals
                clear t1_6
                obtain ⟨x0, x1, x2, x3, x4, x5, x6⟩ := hq_6.cells
                go_wp2_with fail
                refine (evalue_arg cs _ ha_6 hC_6 rfl).mono ?_
                rintro _ w7 ⟨⟨r2v, r2f, rfl, r2l⟩, hbb⟩
                clear x0 x1 x2 x3 x4 x5 x6
                have hb_7 := qbt hb_6 hbb
                have hq_7 := hq_6.up hbb
                have ha_7 := ha_6.up hbb
                have hA_7 := hA_6.up hbb
                have hB_7 := hB_6.up hbb
                have hC_7 := hC_6.up hbb
                have hV_7 := hV_6.up hbb
                have r1_7 := r1_6.up hbb
                clear hbb hb_6 hq_6 ha_6 hA_6 hB_6 hC_6 hV_6 r1_6
                have r2_7 := r2l
                clear r2l
                have d1_7 := hV_7.cell1
                obtain ⟨x0, x1, x2, x3, x4, x5, x6⟩ := hq_7.cells
                go_wp2_with fail
                refine (same_ans _ r1_7 r2_7 ha_7.er).mono ?_
                rintro _ w8 ⟨rfl, hbb⟩
                clear x0 x1 x2 x3 x4 x5 x6
                have hb_8 := qbt hb_7 hbb
                have hq_8 := hq_7.up hbb
                have ha_8 := ha_7.up hbb
                have hA_8 := hA_7.up hbb
                have hB_8 := hB_7.up hbb
                have hC_8 := hC_7.up hbb
                have hV_8 := hV_7.up hbb
                have r1_8 := r1_7.up hbb
                have r2_8 := r2_7.up hbb
                clear hbb hb_7 hq_7 ha_7 hA_7 hB_7 hC_7 hV_7 r1_7 r2_7
                clear hC_8 r1_8 r2_8
                have d1_8 := hV_8.cell1
                go_wp2_with fail
                go_region_held (fun w' => w'.cell? ⟨w.heap.size, 0, none⟩ = some (.string q.who.t) ∧ w'.cell? ⟨w.heap.size, 1, none⟩ = some (.string q.who.i) ∧ w'.cell? ⟨w.heap.size, 2, none⟩ = some (.string q.act.t) ∧ w'.cell? ⟨w.heap.size, 3, none⟩ = some (.string q.act.i) ∧ w'.cell? ⟨w.heap.size, 4, none⟩ = some (.string q.what.t) ∧ w'.cell? ⟨w.heap.size, 5, none⟩ = some (.string q.what.i) ∧ w'.cell? ⟨w.heap.size, 6, none⟩ = some (.slice pq q.cx.length cq)) (first | exact QB.cells (QB.up hq_10 (by repeat (first | exact Below.refl _ _ | apply qbA | apply qbD))) | exact QB.cells (QB.up hq_9 (by repeat (first | exact Below.refl _ _ | apply qbA | apply qbD))) | exact QB.cells (QB.up hq_8 (by repeat (first | exact Below.refl _ _ | apply qbA | apply qbD)))) (first
                  | (go_at_call 22
                     refine (op2_at 11 (by decide) hA_8 HNA.out (by have := HLN.out; omega) hB_8 HNB.out (by have := HLN.out; omega) (by first | exact LL2 (LArg.up hA_8 (by repeat (first | exact Below.refl _ _ | apply qbA | apply qbD))) (LArg.up hB_8 (by repeat (first | exact Below.refl _ _ | apply qbA | apply qbD))) (by simp) | ((first | refine LL.up ?_ ((Below.refl _ _).alloc (Nat.le_refl _) _) | refine LL.up ?_ (Below.refl _ _).drew); exact LL2 (LArg.up hA_8 (by repeat (first | exact Below.refl _ _ | apply qbA | apply qbD))) (LArg.up hB_8 (by repeat (first | exact Below.refl _ _ | apply qbA | apply qbD))) (by simp)) | ((first | refine LL.up ?_ ((Below.refl _ _).alloc (Nat.le_refl _) _) | refine LL.up ?_ (Below.refl _ _).drew); (first | refine LL.up ?_ ((Below.refl _ _).alloc (Nat.le_refl _) _) | refine LL.up ?_ (Below.refl _ _).drew); exact LL2 (LArg.up hA_8 (by repeat (first | exact Below.refl _ _ | apply qbA | apply qbD))) (LArg.up hB_8 (by repeat (first | exact Below.refl _ _ | apply qbA | apply qbD))) (by simp)) | ((first | refine LL.up ?_ ((Below.refl _ _).alloc (Nat.le_refl _) _) | refine LL.up ?_ (Below.refl _ _).drew); (first | refine LL.up ?_ ((Below.refl _ _).alloc (Nat.le_refl _) _) | refine LL.up ?_ (Below.refl _ _).drew); (first | refine LL.up ?_ ((Below.refl _ _).alloc (Nat.le_refl _) _) | refine LL.up ?_ (Below.refl _ _).drew); exact LL2 (LArg.up hA_8 (by repeat (first | exact Below.refl _ _ | apply qbA | apply qbD))) (LArg.up hB_8 (by repeat (first | exact Below.refl _ _ | apply qbA | apply qbD))) (by simp)))).mono ?_
                     rintro _ w9 ⟨⟨t2q, t2c, rfl, t2l⟩, hbb_9⟩
                     have hbk_9 : Below w8.heap.size w8 w9 := qbt (by repeat (first | exact Below.refl _ _ | apply qbA | apply qbD)) hbb_9
                     have hb_9 := qbt hb_8 hbk_9
                     have hq_9 := hq_8.up hbk_9
                     have ha_9 := ha_8.up hbk_9
                     have hA_9 := hA_8.up hbk_9
                     have hB_9 := hB_8.up hbk_9
                     have hV_9 := hV_8.up hbk_9
                     have t2_9 := t2l
                     clear hb_8 hq_8 ha_8 hA_8 hV_8)
                  | (go_at_call 14
                     refine (evalue_arg cs _ (EvArg.up ha_9 (by repeat (first | exact Below.refl _ _ | apply qbA | apply qbD))) (LArg.up t2_9 (by repeat (first | exact Below.refl _ _ | apply qbA | apply qbD))) HO.out).mono ?_
                     rintro _ w10 ⟨⟨r4v, r4f, rfl, r4l⟩, hbb_10⟩
                     have hbk_10 : Below w9.heap.size w9 w10 := qbt (by repeat (first | exact Below.refl _ _ | apply qbA | apply qbD)) hbb_10
                     have hb_10 := qbt hb_9 hbk_10
                     have hq_10 := hq_9.up hbk_10
                     have ha_10 := ha_9.up hbk_10
                     have hA_10 := hA_9.up hbk_10
                     have hB_10 := hB_9.up hbk_10
                     have hV_10 := hV_9.up hbk_10
                     have t2_10 := t2_9.up hbk_10
                     have r4_10 := r4l
                     clear hb_9 hq_9 ha_9 hA_9 hB_9 hV_9 t2_9))
                all_goals
                  clear hA_10 hB_10 t2_10
                  obtain ⟨x0, x1, x2, x3, x4, x5, x6⟩ := hq_10.cells
                  go_wp2_with fail
                  refine (same_ans _ r4_10 (R := .ok v) (v' := .slice _ nv cv) (e' := .nilIface) ⟨_, _, by rw [HNV.out], rfl, by rw [HNV.out]; exact hV_10⟩ ha_10.er).mono ?_
                  rintro _ w11 ⟨rfl, hbb⟩
                  clear x0 x1 x2 x3 x4 x5 x6
                  have hb_11 := qbt hb_10 hbb
                  have hq_11 := hq_10.up hbb
                  have ha_11 := ha_10.up hbb
                  have hV_11 := hV_10.up hbb
                  have r4_11 := r4_10.up hbb
                  clear hbb hb_10 hq_10 ha_10 hV_10 r4_10
                  obtain ⟨x0, x1, x2, x3, x4, x5, x6⟩ := hq_11.cells
                  go_wp2_with fail
                  go_ret
                  exact ⟨rfl, hb_11⟩
          · have i0 : (200 : Int) < ((a.length : Int) + (b.length : Int) + (c.length : Int) + 1) := by omega
            have i1 : (a.length : Int) ≤ 200 := by have := (xfault_zero z3).1; omega
            have i2 : (b.length : Int) ≤ 200 := by have := (xfault_zero k2).1; omega
            have i3 : (c.length : Int) ≤ 200 := by have := (xfault_zero k3).1; omega
            clear k2 k3 k4 z1 z2 z3 z4 hvt hnb hVal h1
            obtain ⟨x0, x1, x2, x3, x4, x5, x6⟩ := hq_2.cells
            go_wp2_with fail
            refine (HTB _ hB_2).mono ?_
            rintro _ w3 ⟨rfl, hbb⟩
            clear x0 x1 x2 x3 x4 x5 x6
            have hb_3 := qbt hb_2 hbb
            have hq_3 := hq_2.up hbb
            have ha_3 := ha_2.up hbb
            have hA_3 := hA_2.up hbb
            have hB_3 := hB_2.up hbb
            have hC_3 := hC_2.up hbb
            have hV_3 := hV_2.up hbb
            clear hbb hb_2 hq_2 ha_2 hA_2 hB_2 hC_2 hV_2
            obtain ⟨x0, x1, x2, x3, x4, x5, x6⟩ := hq_3.cells
            go_wp2_with fail
            refine (HTC _ hC_3).mono ?_
            rintro _ w4 ⟨rfl, hbb⟩
            clear x0 x1 x2 x3 x4 x5 x6
            have hb_4 := qbt hb_3 hbb
            have hq_4 := hq_3.up hbb
            have ha_4 := ha_3.up hbb
            have hA_4 := hA_3.up hbb
            have hB_4 := hB_3.up hbb
            have hC_4 := hC_3.up hbb
            have hV_4 := hV_3.up hbb
            clear hbb hb_3 hq_3 ha_3 hA_3 hB_3 hC_3 hV_3
            obtain ⟨x0, x1, x2, x3, x4, x5, x6⟩ := hq_4.cells
            go_wp2_with fail
            go_ret
            exact ⟨rfl, hb_4⟩
        · rw [eV_not k3] at HTC
          clear k2 k3 z1 z2 z3 z4 hvt hnb hVal h1
          generalize xfault c = n3 at *
          obtain ⟨x0, x1, x2, x3, x4, x5, x6⟩ := hq_2.cells
          go_wp2_with fail
          refine (HTB _ hB_2).mono ?_
          rintro _ w3 ⟨rfl, hbb⟩
          clear x0 x1 x2 x3 x4 x5 x6
          have hb_3 := qbt hb_2 hbb
          have hq_3 := hq_2.up hbb
          have ha_3 := ha_2.up hbb
          have hA_3 := hA_2.up hbb
          have hB_3 := hB_2.up hbb
          have hC_3 := hC_2.up hbb
          have hV_3 := hV_2.up hbb
          clear hbb hb_2 hq_2 ha_2 hA_2 hB_2 hC_2 hV_2
          obtain ⟨x0, x1, x2, x3, x4, x5, x6⟩ := hq_3.cells
          go_wp2_with fail
          refine (HTC _ hC_3).mono ?_
          rintro _ w4 ⟨rfl, hbb⟩
          clear x0 x1 x2 x3 x4 x5 x6
          have hb_4 := qbt hb_3 hbb
          have hq_4 := hq_3.up hbb
          have ha_4 := ha_3.up hbb
          have hA_4 := hA_3.up hbb
          have hB_4 := hB_3.up hbb
          have hC_4 := hC_3.up hbb
          have hV_4 := hV_3.up hbb
          clear hbb hb_3 hq_3 ha_3 hA_3 hB_3 hC_3 hV_3
          obtain ⟨x0, x1, x2, x3, x4, x5, x6⟩ := hq_4.cells
          go_wp2_with fail
          go_ret
          exact ⟨rfl, hb_4⟩
      · rw [eV_not k2] at HTB
        clear k2 z1 z2 z3 z4 hvt hnb hVal h1
        generalize xfault b = n3 at *
        obtain ⟨x0, x1, x2, x3, x4, x5, x6⟩ := hq_2.cells
        go_wp2_with fail
        refine (HTB _ hB_2).mono ?_
        rintro _ w3 ⟨rfl, hbb⟩
        clear x0 x1 x2 x3 x4 x5 x6
        have hb_3 := qbt hb_2 hbb
        have hq_3 := hq_2.up hbb
        have ha_3 := ha_2.up hbb
        have hA_3 := hA_2.up hbb
        have hB_3 := hB_2.up hbb
        have hC_3 := hC_2.up hbb
        have hV_3 := hV_2.up hbb
        clear hbb hb_2 hq_2 ha_2 hA_2 hB_2 hC_2 hV_2
        obtain ⟨x0, x1, x2, x3, x4, x5, x6⟩ := hq_3.cells
        go_wp2_with fail
        go_ret
        exact ⟨rfl, hb_3⟩
    · obtain ⟨y, r, b0, off, ey, rfl, hbb0, d0, d1, _⟩ := hV_2.head
      have y1 : y.op ≠ 1 := by rw [ey] at h1; exact h1
      have e1 : (y.op != 1) = true := by simpa using y1
      clear y1 h1 hVal z1 z2 z3 z4
      obtain ⟨x0, x1, x2, x3, x4, x5, x6⟩ := hq_2.cells
      go_wp2_with fail
      go_ret
      exact ⟨rfl, hb_2⟩
end Go.Proofs.YtglhjhbhijekjaaGreatDoor
