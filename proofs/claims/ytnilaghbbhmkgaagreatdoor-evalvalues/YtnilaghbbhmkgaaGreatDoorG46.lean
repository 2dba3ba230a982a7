/- The document's lazy, given what Worth does: by a walk of its own text (written by a script of our own). The document's lazy, whole, given what Worth does. The document's Worth, but its loop: by a walk of its own text (written by a script of our own). The loop of the document's Worth: by a walk of its own text (written by a script of our own). The document's Worth, part by part: what it does, given what it does to the parts. -/
import Derived.Test.YtnilaghbbhmkgaaGreatDoorG45
import Derived.Test.YtnilaghbbhmkgaaGreatDoorG39
namespace Go.Proofs.YtnilaghbbhmkgaaGreatDoor
open Go.RowKit
set_option linter.unusedVariables false
set_option maxRecDepth 100000

section
variable (es : List En) (ps : Option Addr) (cs : Nat) (q : Rq) (pq : Option Addr) (cq : Nat) (e : List Nd) (pe : Option Addr) (ce : Nat) (bp op lp cp : Nat) (k0 k1 k2 : Int) (w : World) (hE0 : WArg es ps q pq cq e pe w) (hP0 : P3 w bp op k0 k1 k2) (hlp : 3 ≤ lp) (x0 x1 : Nd) (r0 r1 : List Nd) (m0 m1 : Nat) (n0 n1 : Int) (R : Except Int (List Nd))
include hE0 hP0 hlp
set_option maxHeartbeats 4000000 in
theorem lz_goK_11 (hx1 : x1.op = 1) (HW0 : ∀ w1, WArg es ps q pq cq e pe w1 → Calls Tryz.prog 21 #[.slice ps es.length cs, reqV q pq cq, .slice pe e.length ce, .int .i64 k0] w1 fun en w' => HOk tT [] 1 en w' ∧ Below w1.heap.size w1 w') (HW1 : ∀ w1, WArg es ps q pq cq e pe w1 → Calls Tryz.prog 21 #[.slice ps es.length cs, reqV q pq cq, .slice pe e.length ce, .int .i64 k1] w1 fun en w' => HOk x1 r1 m1 en w' ∧ Below w1.heap.size w1 w') :
    Calls Tryz.prog 41 #[.slice ps es.length cs, reqV q pq cq, .slice pe e.length ce, .int .i64 11, .slice (some ⟨bp, op, none⟩) lp cp] w fun en w' => GRet (.ok (x1 :: r1)) en w' ∧ Below w.heap.size w w' := by
  have HI := fun w1 b off c (h1 : VArg w1 (tT :: []) 1 (some ⟨b, off, none⟩) c) => refIs_any w1 (tT :: []) 1 (some ⟨b, off, none⟩) c 1 h1
  rw [show (opV (tT :: []) == 1) = true from rfl] at HI
  have HI1 := fun w1 b off c (h1 : VArg w1 (x1 :: r1) m1 (some ⟨b, off, none⟩) c) => refIs_any w1 (x1 :: r1) m1 (some ⟨b, off, none⟩) c 1 h1
  rw [show (opV (x1 :: r1) == 1) = true by simpa [opV] using hx1] at HI1
  obtain ⟨W, hW⟩ : ∃ W, W = (w.alloc (.cells #[.string q.who.t, .string q.who.i, .string q.act.t, .string q.act.i, .string q.what.t, .string q.what.i, .slice pq q.cx.length cq] 27)).alloc (.cells #[.slice none 0 0, .int .i64 0] 30) := ⟨_, rfl⟩
  have hb_0 : Below w.heap.size w W := by rw [hW]; exact ((Below.refl _ _).alloc (Nat.le_refl _) _).alloc (by simp) _
  have hQ_0 : QR W w.heap.size q pq cq := by rw [hW]; exact (QR.new w q pq cq).up ((Below.refl _ _).alloc (Nat.le_refl _) _)
  have hR_0 : GR W (w.heap.size + 1) := by rw [hW]; exact GR.new _ (by simp)
  have hWs : W.heap.size = w.heap.size + 1 + 1 := by rw [hW]; simp
  have hE_0 := hE0.up hb_0
  have hP_0 := hP0.up hb_0
  have hPlt := hP0.lt
  have hQlt : w.heap.size + 1 < W.heap.size := by omega
  unfold reqV at HW0 HW1 ⊢
  have i7 : (0 : Int) < (lp : Int) := by omega
  have i8 : (1 : Int) < (lp : Int) := by omega
  have i9 : (2 : Int) < (lp : Int) := by omega
  go_enter Tryz.func41, Tryz.ntmps41
  obtain ⟨x0, x1, x2, x3, x4, x5, x6⟩ := hQ_0.cells
  obtain ⟨r0, r1, f0, f1⟩ := hR_0.cells
  obtain ⟨p0, p1, p2⟩ := hP_0.cells
  go_wp2_with fail
  rw [← hW]
  clear hW
  go_region_held (fun w' => w'.cell? ⟨w.heap.size, 0, none⟩ = some (.string q.who.t) ∧ w'.cell? ⟨w.heap.size, 1, none⟩ = some (.string q.who.i) ∧ w'.cell? ⟨w.heap.size, 2, none⟩ = some (.string q.act.t) ∧ w'.cell? ⟨w.heap.size, 3, none⟩ = some (.string q.act.i) ∧ w'.cell? ⟨w.heap.size, 4, none⟩ = some (.string q.what.t) ∧ w'.cell? ⟨w.heap.size, 5, none⟩ = some (.string q.what.i) ∧ w'.cell? ⟨w.heap.size, 6, none⟩ = some (.slice pq q.cx.length cq) ∧ w'.cell? ⟨bp, op, none⟩ = some (.int .i64 k0) ∧ w'.cell? ⟨bp, op + 1, none⟩ = some (.int .i64 k1) ∧ w'.cell? ⟨bp, op + 2, none⟩ = some (.int .i64 k2)) (first | exact QP.cells (QR.bel hQ_1 (GR.bel (Nat.le_refl (w.heap.size + 1 + 1)) _ _) (by have := hR_0.lt; have := hPlt; have := hb_0.size; omega)) (P3.bel hP_1 (GR.bel (Nat.le_refl (w.heap.size + 1 + 1)) _ _) (by have := hR_0.lt; have := hPlt; have := hb_0.size; omega)) | exact QP.cells (QR.bel hQ_1 ((Below.refl _ _).setCell (p := ⟨(w.heap.size + 1 + 1), 0, none⟩) (Nat.le_refl _) _) (by have := hR_0.lt; have := hPlt; have := hb_0.size; omega)) (P3.bel hP_1 ((Below.refl _ _).setCell (p := ⟨(w.heap.size + 1 + 1), 0, none⟩) (Nat.le_refl _) _) (by have := hR_0.lt; have := hPlt; have := hb_0.size; omega)) | exact QP.cells (QR.up hQ_1 (by repeat (first | exact Below.refl _ _ | apply zbA | apply zbD))) (P3.up hP_1 (by repeat (first | exact Below.refl _ _ | apply zbA | apply zbD))) | exact QP.cells (QR.up hQ_0 (by repeat (first | exact Below.refl _ _ | apply zbA | apply zbD))) (P3.up hP_0 (by repeat (first | exact Below.refl _ _ | apply zbA | apply zbD)))) (first
    | (go_at_call 21
       refine (HW0 _ (WArg.up hE_0 (by repeat (first | exact Below.refl _ _ | apply zbA | apply zbD)))).mono ?_
       rintro _ w1 ⟨⟨bhv, ohv, chv, rfl, hv_1⟩, hbb_1⟩
       have hbk_1 : Below W.heap.size W w1 := qbt (by repeat (first | exact Below.refl _ _ | apply zbA | apply zbD)) hbb_1
       have hb_1 := qbt hb_0 hbk_1
       have hQ_1 := hQ_0.up hbk_1
       have hR_1 := hR_0.up hbk_1
       have hE_1 := hE_0.up hbk_1
       have hP_1 := hP_0.up hbk_1
       first | (have hC0 : GR w1 ((w.heap.size + 1 + 1)) := GR.up (GR.up (GR.new W hWs.symm) (zbD (Below.refl _ _))) hbb_1; obtain ⟨cc0, cc1, cf0, cf1⟩ := hC0.cells) | skip))
  all_goals
    first
    | (obtain ⟨w2, hV⟩ : ∃ V, V = w1.alloc (.cells #[.slice (some ⟨bhv, ohv, none⟩) 1 chv, .int .i64 0] 30) := ⟨_, rfl⟩
       obtain ⟨Bgc, hBc⟩ : ∃ V, V = w1.heap.size := ⟨_, rfl⟩
       have hEd : Ended w1 (w.heap.size + 1 + 1) (.slice (some ⟨bhv, ohv, none⟩) 1 chv) (.int .i64 0) w2 Bgc := .inl ⟨hV, hBc⟩
       rw [← hV, ← hBc]
       clear hV hBc)
    | (obtain ⟨w2, hV⟩ : ∃ V, V = (w1.setCell ⟨(w.heap.size + 1 + 1), 0, none⟩ (.slice (some ⟨bhv, ohv, none⟩) 1 chv)).setCell ⟨(w.heap.size + 1 + 1), 1, none⟩ (.int .i64 0) := ⟨_, rfl⟩
       obtain ⟨Bgc, hBc⟩ : ∃ V, V = (w.heap.size + 1 + 1) := ⟨_, rfl⟩
       have hEd : Ended w1 (w.heap.size + 1 + 1) (.slice (some ⟨bhv, ohv, none⟩) 1 chv) (.int .i64 0) w2 Bgc := .inr ⟨hC0, hV, hBc⟩
       rw [← hV, ← hBc]
       clear hV hBc hC0 cc0 cc1 cf0 cf1)
    have hb_2 := hEd.below hb_1 (by have := hR_0.lt; have := hPlt; have := hb_0.size; omega)
    have gc_2 := hEd.g2
    have hQ_2 := hEd.hQ hQ_1 (by have := hR_0.lt; have := hPlt; have := hb_0.size; omega)
    have hR_2 := hEd.hR hR_1 (by have := hR_0.lt; have := hPlt; have := hb_0.size; omega)
    have hE_2 := hE0.up hb_2
    have hP_2 := hP0.up hb_2
    have hv_2 := hEd.val hv_1
    clear hEd
    obtain ⟨x0, x1, x2, x3, x4, x5, x6⟩ := hQ_2.cells
    obtain ⟨r0, r1, f0, f1⟩ := hR_2.cells
    obtain ⟨p0, p1, p2⟩ := hP_2.cells
    obtain ⟨gca, gcb⟩ := gc_2.cells
    obtain ⟨ca, cb⟩ := cellsT hv_2
    go_wp2_with fail
    refine (HI _ _ _ _ hv_2).mono ?_
    rintro _ w3 ⟨rfl, hbb⟩
    clear x0 x1 x2 x3 x4 x5 x6 r0 r1 f0 f1 p0 p1 p2 gca gcb
    have hb_3 := qbt hb_2 hbb
    have hQ_3 := hQ_2.up hbb
    have hR_3 := hR_2.up hbb
    have hE_3 := hE_2.up hbb
    have hP_3 := hP_2.up hbb
    have hv_3 := hv_2.up hbb
    have gc_3 := gc_2.up hbb
    clear hbb hb_2 hQ_2 hR_2 hE_2 hP_2 hv_2 gc_2
    obtain ⟨x0, x1, x2, x3, x4, x5, x6⟩ := hQ_3.cells
    obtain ⟨r0, r1, f0, f1⟩ := hR_3.cells
    obtain ⟨p0, p1, p2⟩ := hP_3.cells
    obtain ⟨gca, gcb⟩ := gc_3.cells
    obtain ⟨ca, cb⟩ := cellsT hv_3
    go_wp2_with fail
    go_region_held (fun w' => w'.cell? ⟨w.heap.size, 0, none⟩ = some (.string q.who.t) ∧ w'.cell? ⟨w.heap.size, 1, none⟩ = some (.string q.who.i) ∧ w'.cell? ⟨w.heap.size, 2, none⟩ = some (.string q.act.t) ∧ w'.cell? ⟨w.heap.size, 3, none⟩ = some (.string q.act.i) ∧ w'.cell? ⟨w.heap.size, 4, none⟩ = some (.string q.what.t) ∧ w'.cell? ⟨w.heap.size, 5, none⟩ = some (.string q.what.i) ∧ w'.cell? ⟨w.heap.size, 6, none⟩ = some (.slice pq q.cx.length cq) ∧ w'.cell? ⟨bp, op, none⟩ = some (.int .i64 k0) ∧ w'.cell? ⟨bp, op + 1, none⟩ = some (.int .i64 k1) ∧ w'.cell? ⟨bp, op + 2, none⟩ = some (.int .i64 k2)) (first | exact QP.cells (QR.bel hQ_4 (GR.bel (Nat.le_refl w3.heap.size) _ _) (by have := hR_3.lt; have := hPlt; have := hb_3.size; omega)) (P3.bel hP_4 (GR.bel (Nat.le_refl w3.heap.size) _ _) (by have := hR_3.lt; have := hPlt; have := hb_3.size; omega)) | exact QP.cells (QR.bel hQ_4 ((Below.refl _ _).setCell (p := ⟨w3.heap.size, 0, none⟩) (Nat.le_refl _) _) (by have := hR_3.lt; have := hPlt; have := hb_3.size; omega)) (P3.bel hP_4 ((Below.refl _ _).setCell (p := ⟨w3.heap.size, 0, none⟩) (Nat.le_refl _) _) (by have := hR_3.lt; have := hPlt; have := hb_3.size; omega)) | exact QP.cells (QR.up hQ_4 (by repeat (first | exact Below.refl _ _ | apply zbA | apply zbD))) (P3.up hP_4 (by repeat (first | exact Below.refl _ _ | apply zbA | apply zbD))) | exact QP.cells (QR.up hQ_3 (by repeat (first | exact Below.refl _ _ | apply zbA | apply zbD))) (P3.up hP_3 (by repeat (first | exact Below.refl _ _ | apply zbA | apply zbD)))) (first
      | (go_at_call 21
         refine (HW1 _ (WArg.up hE_3 (by repeat (first | exact Below.refl _ _ | apply zbA | apply zbD)))).mono ?_
         rintro _ w4 ⟨⟨bhvd, ohvd, chvd, rfl, hvd_4⟩, hbb_4⟩
         have hbk_4 : Below w3.heap.size w3 w4 := qbt (by repeat (first | exact Below.refl _ _ | apply zbA | apply zbD)) hbb_4
         have hb_4 := qbt hb_3 hbk_4
         have hQ_4 := hQ_3.up hbk_4
         have hR_4 := hR_3.up hbk_4
         have hE_4 := hE_3.up hbk_4
         have hP_4 := hP_3.up hbk_4
         have hv_4 := hv_3.up hbk_4
         have gc_4 := gc_3.up hbk_4
         first | (have hC0 : GR w4 (w3.heap.size) := GR.up (GR.up (GR.new w3 rfl) (zbD (Below.refl _ _))) hbb_4; obtain ⟨cc0, cc1, cf0, cf1⟩ := hC0.cells) | skip))
    all_goals
      first
      | (obtain ⟨w5, hV⟩ : ∃ V, V = w4.alloc (.cells #[.slice (some ⟨bhvd, ohvd, none⟩) m1 chvd, .int .i64 0] 30) := ⟨_, rfl⟩
         obtain ⟨Bgd, hBc⟩ : ∃ V, V = w4.heap.size := ⟨_, rfl⟩
         have hEd : Ended w4 w3.heap.size (.slice (some ⟨bhvd, ohvd, none⟩) m1 chvd) (.int .i64 0) w5 Bgd := .inl ⟨hV, hBc⟩
         rw [← hV, ← hBc]
         clear hV hBc)
      | (obtain ⟨w5, hV⟩ : ∃ V, V = (w4.setCell ⟨w3.heap.size, 0, none⟩ (.slice (some ⟨bhvd, ohvd, none⟩) m1 chvd)).setCell ⟨w3.heap.size, 1, none⟩ (.int .i64 0) := ⟨_, rfl⟩
         obtain ⟨Bgd, hBc⟩ : ∃ V, V = w3.heap.size := ⟨_, rfl⟩
         have hEd : Ended w4 w3.heap.size (.slice (some ⟨bhvd, ohvd, none⟩) m1 chvd) (.int .i64 0) w5 Bgd := .inr ⟨hC0, hV, hBc⟩
         rw [← hV, ← hBc]
         clear hV hBc hC0 cc0 cc1 cf0 cf1)
      have hb_5 := hEd.below hb_4 (by have := hR_3.lt; have := hPlt; have := hb_3.size; have := gc_3.lt; omega)
      have gd_5 := hEd.g2
      have hQ_5 := hEd.hQ hQ_4 (by have := hR_3.lt; have := hPlt; have := hb_3.size; have := gc_3.lt; omega)
      have hR_5 := hEd.hR hR_4 (by have := hR_3.lt; have := hPlt; have := hb_3.size; have := gc_3.lt; omega)
      have hE_5 := hE0.up hb_5
      have hP_5 := hP0.up hb_5
      have hv_5 := hEd.val hv_4
      have gc_5 := hEd.g2k gc_4 (by have := hR_3.lt; have := hPlt; have := hb_3.size; have := gc_3.lt; omega)
      have hvd_5 := hEd.val hvd_4
      clear hEd
      obtain ⟨x0, x1, x2, x3, x4, x5, x6⟩ := hQ_5.cells
      obtain ⟨r0, r1, f0, f1⟩ := hR_5.cells
      obtain ⟨p0, p1, p2⟩ := hP_5.cells
      obtain ⟨gca, gcb⟩ := gc_5.cells
      obtain ⟨gda, gdb⟩ := gd_5.cells
      obtain ⟨ca, cb⟩ := cellsT hv_5
      go_wp2_with fail
      refine (HI1 _ _ _ _ hvd_5).mono ?_
      rintro _ w6 ⟨rfl, hbb⟩
      clear x0 x1 x2 x3 x4 x5 x6 r0 r1 f0 f1 p0 p1 p2 gca gcb gda gdb
      have hb_6 := qbt hb_5 hbb
      have hQ_6 := hQ_5.up hbb
      have hR_6 := hR_5.up hbb
      have hE_6 := hE_5.up hbb
      have hP_6 := hP_5.up hbb
      have hv_6 := hv_5.up hbb
      have gc_6 := gc_5.up hbb
      have hvd_6 := hvd_5.up hbb
      have gd_6 := gd_5.up hbb
      clear hbb hb_5 hQ_5 hR_5 hE_5 hP_5 hv_5 gc_5 hvd_5 gd_5
      obtain ⟨x0, x1, x2, x3, x4, x5, x6⟩ := hQ_6.cells
      obtain ⟨r0, r1, f0, f1⟩ := hR_6.cells
      obtain ⟨p0, p1, p2⟩ := hP_6.cells
      obtain ⟨gca, gcb⟩ := gc_6.cells
      obtain ⟨gda, gdb⟩ := gd_6.cells
      obtain ⟨ca, cb⟩ := cellsT hv_6
      go_wp2
      exact bodyPost_ret (v := .agg #[.slice (some ⟨bhvd, ohvd, none⟩) m1 chvd, .int .i64 0]) (by simp [results, Tryz.results41, go_sem, (hR_6.told _ _).1, (hR_6.told _ _).2]) rfl (hR_6.ret (by omega) hb_6 (⟨_, _, by rw [hvd_6.len], by rw [hvd_6.len]; exact hvd_6⟩))
set_option maxHeartbeats 4000000 in
theorem lz_goK_12 (hx1 : x1.op = 1) (HW0 : ∀ w1, WArg es ps q pq cq e pe w1 → Calls Tryz.prog 21 #[.slice ps es.length cs, reqV q pq cq, .slice pe e.length ce, .int .i64 k0] w1 fun en w' => HOk tF [] 1 en w' ∧ Below w1.heap.size w1 w') (HW1 : ∀ w1, WArg es ps q pq cq e pe w1 → Calls Tryz.prog 21 #[.slice ps es.length cs, reqV q pq cq, .slice pe e.length ce, .int .i64 k1] w1 fun en w' => HOk x1 r1 m1 en w' ∧ Below w1.heap.size w1 w') :
    Calls Tryz.prog 41 #[.slice ps es.length cs, reqV q pq cq, .slice pe e.length ce, .int .i64 12, .slice (some ⟨bp, op, none⟩) lp cp] w fun en w' => GRet (.ok (x1 :: r1)) en w' ∧ Below w.heap.size w w' := by
  have HI := fun w1 b off c (h1 : VArg w1 (tF :: []) 1 (some ⟨b, off, none⟩) c) => refIs_any w1 (tF :: []) 1 (some ⟨b, off, none⟩) c 1 h1
  rw [show (opV (tF :: []) == 1) = true from rfl] at HI
  have HI1 := fun w1 b off c (h1 : VArg w1 (x1 :: r1) m1 (some ⟨b, off, none⟩) c) => refIs_any w1 (x1 :: r1) m1 (some ⟨b, off, none⟩) c 1 h1
  rw [show (opV (x1 :: r1) == 1) = true by simpa [opV] using hx1] at HI1
  obtain ⟨W, hW⟩ : ∃ W, W = (w.alloc (.cells #[.string q.who.t, .string q.who.i, .string q.act.t, .string q.act.i, .string q.what.t, .string q.what.i, .slice pq q.cx.length cq] 27)).alloc (.cells #[.slice none 0 0, .int .i64 0] 30) := ⟨_, rfl⟩
  have hb_0 : Below w.heap.size w W := by rw [hW]; exact ((Below.refl _ _).alloc (Nat.le_refl _) _).alloc (by simp) _
  have hQ_0 : QR W w.heap.size q pq cq := by rw [hW]; exact (QR.new w q pq cq).up ((Below.refl _ _).alloc (Nat.le_refl _) _)
  have hR_0 : GR W (w.heap.size + 1) := by rw [hW]; exact GR.new _ (by simp)
  have hWs : W.heap.size = w.heap.size + 1 + 1 := by rw [hW]; simp
  have hE_0 := hE0.up hb_0
  have hP_0 := hP0.up hb_0
  have hPlt := hP0.lt
  have hQlt : w.heap.size + 1 < W.heap.size := by omega
  unfold reqV at HW0 HW1 ⊢
  have i7 : (0 : Int) < (lp : Int) := by omega
  have i8 : (1 : Int) < (lp : Int) := by omega
  have i9 : (2 : Int) < (lp : Int) := by omega
  go_enter Tryz.func41, Tryz.ntmps41
  obtain ⟨x0, x1, x2, x3, x4, x5, x6⟩ := hQ_0.cells
  obtain ⟨r0, r1, f0, f1⟩ := hR_0.cells
  obtain ⟨p0, p1, p2⟩ := hP_0.cells
  go_wp2_with fail
  rw [← hW]
  clear hW
  go_region_held (fun w' => w'.cell? ⟨w.heap.size, 0, none⟩ = some (.string q.who.t) ∧ w'.cell? ⟨w.heap.size, 1, none⟩ = some (.string q.who.i) ∧ w'.cell? ⟨w.heap.size, 2, none⟩ = some (.string q.act.t) ∧ w'.cell? ⟨w.heap.size, 3, none⟩ = some (.string q.act.i) ∧ w'.cell? ⟨w.heap.size, 4, none⟩ = some (.string q.what.t) ∧ w'.cell? ⟨w.heap.size, 5, none⟩ = some (.string q.what.i) ∧ w'.cell? ⟨w.heap.size, 6, none⟩ = some (.slice pq q.cx.length cq) ∧ w'.cell? ⟨bp, op, none⟩ = some (.int .i64 k0) ∧ w'.cell? ⟨bp, op + 1, none⟩ = some (.int .i64 k1) ∧ w'.cell? ⟨bp, op + 2, none⟩ = some (.int .i64 k2)) (first | exact QP.cells (QR.bel hQ_1 (GR.bel (Nat.le_refl (w.heap.size + 1 + 1)) _ _) (by have := hR_0.lt; have := hPlt; have := hb_0.size; omega)) (P3.bel hP_1 (GR.bel (Nat.le_refl (w.heap.size + 1 + 1)) _ _) (by have := hR_0.lt; have := hPlt; have := hb_0.size; omega)) | exact QP.cells (QR.bel hQ_1 ((Below.refl _ _).setCell (p := ⟨(w.heap.size + 1 + 1), 0, none⟩) (Nat.le_refl _) _) (by have := hR_0.lt; have := hPlt; have := hb_0.size; omega)) (P3.bel hP_1 ((Below.refl _ _).setCell (p := ⟨(w.heap.size + 1 + 1), 0, none⟩) (Nat.le_refl _) _) (by have := hR_0.lt; have := hPlt; have := hb_0.size; omega)) | exact QP.cells (QR.up hQ_1 (by repeat (first | exact Below.refl _ _ | apply zbA | apply zbD))) (P3.up hP_1 (by repeat (first | exact Below.refl _ _ | apply zbA | apply zbD))) | exact QP.cells (QR.up hQ_0 (by repeat (first | exact Below.refl _ _ | apply zbA | apply zbD))) (P3.up hP_0 (by repeat (first | exact Below.refl _ _ | apply zbA | apply zbD)))) (first
    | (go_at_call 21
       refine (HW0 _ (WArg.up hE_0 (by repeat (first | exact Below.refl _ _ | apply zbA | apply zbD)))).mono ?_
       rintro _ w1 ⟨⟨bhv, ohv, chv, rfl, hv_1⟩, hbb_1⟩
       have hbk_1 : Below W.heap.size W w1 := qbt (by repeat (first | exact Below.refl _ _ | apply zbA | apply zbD)) hbb_1
       have hb_1 := qbt hb_0 hbk_1
       have hQ_1 := hQ_0.up hbk_1
       have hR_1 := hR_0.up hbk_1
       have hE_1 := hE_0.up hbk_1
       have hP_1 := hP_0.up hbk_1
       first | (have hC0 : GR w1 ((w.heap.size + 1 + 1)) := GR.up (GR.up (GR.new W hWs.symm) (zbD (Below.refl _ _))) hbb_1; obtain ⟨cc0, cc1, cf0, cf1⟩ := hC0.cells) | skip))
  all_goals
    first
    | (obtain ⟨w2, hV⟩ : ∃ V, V = w1.alloc (.cells #[.slice (some ⟨bhv, ohv, none⟩) 1 chv, .int .i64 0] 30) := ⟨_, rfl⟩
       obtain ⟨Bgc, hBc⟩ : ∃ V, V = w1.heap.size := ⟨_, rfl⟩
       have hEd : Ended w1 (w.heap.size + 1 + 1) (.slice (some ⟨bhv, ohv, none⟩) 1 chv) (.int .i64 0) w2 Bgc := .inl ⟨hV, hBc⟩
       rw [← hV, ← hBc]
       clear hV hBc)
    | (obtain ⟨w2, hV⟩ : ∃ V, V = (w1.setCell ⟨(w.heap.size + 1 + 1), 0, none⟩ (.slice (some ⟨bhv, ohv, none⟩) 1 chv)).setCell ⟨(w.heap.size + 1 + 1), 1, none⟩ (.int .i64 0) := ⟨_, rfl⟩
       obtain ⟨Bgc, hBc⟩ : ∃ V, V = (w.heap.size + 1 + 1) := ⟨_, rfl⟩
       have hEd : Ended w1 (w.heap.size + 1 + 1) (.slice (some ⟨bhv, ohv, none⟩) 1 chv) (.int .i64 0) w2 Bgc := .inr ⟨hC0, hV, hBc⟩
       rw [← hV, ← hBc]
       clear hV hBc hC0 cc0 cc1 cf0 cf1)
    have hb_2 := hEd.below hb_1 (by have := hR_0.lt; have := hPlt; have := hb_0.size; omega)
    have gc_2 := hEd.g2
    have hQ_2 := hEd.hQ hQ_1 (by have := hR_0.lt; have := hPlt; have := hb_0.size; omega)
    have hR_2 := hEd.hR hR_1 (by have := hR_0.lt; have := hPlt; have := hb_0.size; omega)
    have hE_2 := hE0.up hb_2
    have hP_2 := hP0.up hb_2
    have hv_2 := hEd.val hv_1
    clear hEd
    obtain ⟨x0, x1, x2, x3, x4, x5, x6⟩ := hQ_2.cells
    obtain ⟨r0, r1, f0, f1⟩ := hR_2.cells
    obtain ⟨p0, p1, p2⟩ := hP_2.cells
    obtain ⟨gca, gcb⟩ := gc_2.cells
    obtain ⟨ca, cb⟩ := cellsF hv_2
    go_wp2_with fail
    refine (HI _ _ _ _ hv_2).mono ?_
    rintro _ w3 ⟨rfl, hbb⟩
    clear x0 x1 x2 x3 x4 x5 x6 r0 r1 f0 f1 p0 p1 p2 gca gcb
    have hb_3 := qbt hb_2 hbb
    have hQ_3 := hQ_2.up hbb
    have hR_3 := hR_2.up hbb
    have hE_3 := hE_2.up hbb
    have hP_3 := hP_2.up hbb
    have hv_3 := hv_2.up hbb
    have gc_3 := gc_2.up hbb
    clear hbb hb_2 hQ_2 hR_2 hE_2 hP_2 hv_2 gc_2
    obtain ⟨x0, x1, x2, x3, x4, x5, x6⟩ := hQ_3.cells
    obtain ⟨r0, r1, f0, f1⟩ := hR_3.cells
    obtain ⟨p0, p1, p2⟩ := hP_3.cells
    obtain ⟨gca, gcb⟩ := gc_3.cells
    obtain ⟨ca, cb⟩ := cellsF hv_3
    go_wp2_with fail
    go_region_held (fun w' => w'.cell? ⟨w.heap.size, 0, none⟩ = some (.string q.who.t) ∧ w'.cell? ⟨w.heap.size, 1, none⟩ = some (.string q.who.i) ∧ w'.cell? ⟨w.heap.size, 2, none⟩ = some (.string q.act.t) ∧ w'.cell? ⟨w.heap.size, 3, none⟩ = some (.string q.act.i) ∧ w'.cell? ⟨w.heap.size, 4, none⟩ = some (.string q.what.t) ∧ w'.cell? ⟨w.heap.size, 5, none⟩ = some (.string q.what.i) ∧ w'.cell? ⟨w.heap.size, 6, none⟩ = some (.slice pq q.cx.length cq) ∧ w'.cell? ⟨bp, op, none⟩ = some (.int .i64 k0) ∧ w'.cell? ⟨bp, op + 1, none⟩ = some (.int .i64 k1) ∧ w'.cell? ⟨bp, op + 2, none⟩ = some (.int .i64 k2)) (first | exact QP.cells (QR.bel hQ_4 (GR.bel (Nat.le_refl w3.heap.size) _ _) (by have := hR_3.lt; have := hPlt; have := hb_3.size; omega)) (P3.bel hP_4 (GR.bel (Nat.le_refl w3.heap.size) _ _) (by have := hR_3.lt; have := hPlt; have := hb_3.size; omega)) | exact QP.cells (QR.bel hQ_4 ((Below.refl _ _).setCell (p := ⟨w3.heap.size, 0, none⟩) (Nat.le_refl _) _) (by have := hR_3.lt; have := hPlt; have := hb_3.size; omega)) (P3.bel hP_4 ((Below.refl _ _).setCell (p := ⟨w3.heap.size, 0, none⟩) (Nat.le_refl _) _) (by have := hR_3.lt; have := hPlt; have := hb_3.size; omega)) | exact QP.cells (QR.up hQ_4 (by repeat (first | exact Below.refl _ _ | apply zbA | apply zbD))) (P3.up hP_4 (by repeat (first | exact Below.refl _ _ | apply zbA | apply zbD))) | exact QP.cells (QR.up hQ_3 (by repeat (first | exact Below.refl _ _ | apply zbA | apply zbD))) (P3.up hP_3 (by repeat (first | exact Below.refl _ _ | apply zbA | apply zbD)))) (first
      | (go_at_call 21
         refine (HW1 _ (WArg.up hE_3 (by repeat (first | exact Below.refl _ _ | apply zbA | apply zbD)))).mono ?_
         rintro _ w4 ⟨⟨bhvd, ohvd, chvd, rfl, hvd_4⟩, hbb_4⟩
         have hbk_4 : Below w3.heap.size w3 w4 := qbt (by repeat (first | exact Below.refl _ _ | apply zbA | apply zbD)) hbb_4
         have hb_4 := qbt hb_3 hbk_4
         have hQ_4 := hQ_3.up hbk_4
         have hR_4 := hR_3.up hbk_4
         have hE_4 := hE_3.up hbk_4
         have hP_4 := hP_3.up hbk_4
         have hv_4 := hv_3.up hbk_4
         have gc_4 := gc_3.up hbk_4
         first | (have hC0 : GR w4 (w3.heap.size) := GR.up (GR.up (GR.new w3 rfl) (zbD (Below.refl _ _))) hbb_4; obtain ⟨cc0, cc1, cf0, cf1⟩ := hC0.cells) | skip))
    all_goals
      first
      | (obtain ⟨w5, hV⟩ : ∃ V, V = w4.alloc (.cells #[.slice (some ⟨bhvd, ohvd, none⟩) m1 chvd, .int .i64 0] 30) := ⟨_, rfl⟩
         obtain ⟨Bgd, hBc⟩ : ∃ V, V = w4.heap.size := ⟨_, rfl⟩
         have hEd : Ended w4 w3.heap.size (.slice (some ⟨bhvd, ohvd, none⟩) m1 chvd) (.int .i64 0) w5 Bgd := .inl ⟨hV, hBc⟩
         rw [← hV, ← hBc]
         clear hV hBc)
      | (obtain ⟨w5, hV⟩ : ∃ V, V = (w4.setCell ⟨w3.heap.size, 0, none⟩ (.slice (some ⟨bhvd, ohvd, none⟩) m1 chvd)).setCell ⟨w3.heap.size, 1, none⟩ (.int .i64 0) := ⟨_, rfl⟩
         obtain ⟨Bgd, hBc⟩ : ∃ V, V = w3.heap.size := ⟨_, rfl⟩
         have hEd : Ended w4 w3.heap.size (.slice (some ⟨bhvd, ohvd, none⟩) m1 chvd) (.int .i64 0) w5 Bgd := .inr ⟨hC0, hV, hBc⟩
         rw [← hV, ← hBc]
         clear hV hBc hC0 cc0 cc1 cf0 cf1)
      have hb_5 := hEd.below hb_4 (by have := hR_3.lt; have := hPlt; have := hb_3.size; have := gc_3.lt; omega)
      have gd_5 := hEd.g2
      have hQ_5 := hEd.hQ hQ_4 (by have := hR_3.lt; have := hPlt; have := hb_3.size; have := gc_3.lt; omega)
      have hR_5 := hEd.hR hR_4 (by have := hR_3.lt; have := hPlt; have := hb_3.size; have := gc_3.lt; omega)
      have hE_5 := hE0.up hb_5
      have hP_5 := hP0.up hb_5
      have hv_5 := hEd.val hv_4
      have gc_5 := hEd.g2k gc_4 (by have := hR_3.lt; have := hPlt; have := hb_3.size; have := gc_3.lt; omega)
      have hvd_5 := hEd.val hvd_4
      clear hEd
      obtain ⟨x0, x1, x2, x3, x4, x5, x6⟩ := hQ_5.cells
      obtain ⟨r0, r1, f0, f1⟩ := hR_5.cells
      obtain ⟨p0, p1, p2⟩ := hP_5.cells
      obtain ⟨gca, gcb⟩ := gc_5.cells
      obtain ⟨gda, gdb⟩ := gd_5.cells
      obtain ⟨ca, cb⟩ := cellsF hv_5
      go_wp2_with fail
      refine (HI1 _ _ _ _ hvd_5).mono ?_
      rintro _ w6 ⟨rfl, hbb⟩
      clear x0 x1 x2 x3 x4 x5 x6 r0 r1 f0 f1 p0 p1 p2 gca gcb gda gdb
      have hb_6 := qbt hb_5 hbb
      have hQ_6 := hQ_5.up hbb
      have hR_6 := hR_5.up hbb
      have hE_6 := hE_5.up hbb
      have hP_6 := hP_5.up hbb
      have hv_6 := hv_5.up hbb
      have gc_6 := gc_5.up hbb
      have hvd_6 := hvd_5.up hbb
      have gd_6 := gd_5.up hbb
      clear hbb hb_5 hQ_5 hR_5 hE_5 hP_5 hv_5 gc_5 hvd_5 gd_5
      obtain ⟨x0, x1, x2, x3, x4, x5, x6⟩ := hQ_6.cells
      obtain ⟨r0, r1, f0, f1⟩ := hR_6.cells
      obtain ⟨p0, p1, p2⟩ := hP_6.cells
      obtain ⟨gca, gcb⟩ := gc_6.cells
      obtain ⟨gda, gdb⟩ := gd_6.cells
      obtain ⟨ca, cb⟩ := cellsF hv_6
      go_wp2
      exact bodyPost_ret (v := .agg #[.slice (some ⟨bhvd, ohvd, none⟩) m1 chvd, .int .i64 0]) (by simp [results, Tryz.results41, go_sem, (hR_6.told _ _).1, (hR_6.told _ _).2]) rfl (hR_6.ret (by omega) hb_6 (⟨_, _, by rw [hvd_6.len], by rw [hvd_6.len]; exact hvd_6⟩))
end
end Go.Proofs.YtnilaghbbhmkgaaGreatDoor
namespace Go.Proofs.YtnilaghbbhmkgaaGreatDoor
open Go.RowKit
set_option linter.unusedVariables false
set_option maxRecDepth 100000

theorem GRet.hok {x : Nd} {r : List Nd} {en : Ending} {w : World} (h : GRet (.ok (x :: r)) en w) : HOk x r (r.length + 1) en w := by
  obtain ⟨q, c, e, hv⟩ := h
  obtain ⟨_, _, b, off, _, rfl, _⟩ := hv.head
  exact ⟨b, off, c, e, hv⟩
theorem tN_t : tN true = [tT] := rfl
theorem tN_f : tN false = [tF] := rfl
section
variable (es : List En) (ps : Option Addr) (cs : Nat) (q : Rq) (pq : Option Addr) (cq : Nat) (e : List Nd) (pe : Option Addr) (ce : Nat) (bp op lp cp : Nat) (k0 k1 k2 : Int) (w : World) (hE0 : WArg es ps q pq cq e pe w) (hP0 : P3 w bp op k0 k1 k2) (hlp : 3 ≤ lp)
  (A B C : Except Int (List Nd)) (hA0 : ∀ n, A = .error n → n ≠ 0) (hB0 : ∀ n, B = .error n → n ≠ 0) (hA : ∀ a, A = .ok a → IsV a) (hB : ∀ a, B = .ok a → IsV a)
  (HW0 : ∀ w1, WArg es ps q pq cq e pe w1 → Calls Tryz.prog 21 #[.slice ps es.length cs, reqV q pq cq, .slice pe e.length ce, .int .i64 k0] w1 fun en w' => GRet A en w' ∧ Below w1.heap.size w1 w')
  (HW1 : ∀ w1, WArg es ps q pq cq e pe w1 → Calls Tryz.prog 21 #[.slice ps es.length cs, reqV q pq cq, .slice pe e.length ce, .int .i64 k1] w1 fun en w' => GRet B en w' ∧ Below w1.heap.size w1 w')
  (HW2 : ∀ w1, WArg es ps q pq cq e pe w1 → Calls Tryz.prog 21 #[.slice ps es.length cs, reqV q pq cq, .slice pe e.length ce, .int .i64 k2] w1 fun en w' => GRet C en w' ∧ Below w1.heap.size w1 w')
include hE0 hP0 hlp hA0 hA HW0
theorem lz_first (o : Int) (R : Except Int (List Nd)) (h1 : ∀ n, A = .error n → R = .error n) (h2 : ∀ a, A = .ok a → opV a ≠ 1 → R = .error 2)
    (h3 : ∀ t, A = .ok (tN t) → Calls Tryz.prog 41 #[.slice ps es.length cs, reqV q pq cq, .slice pe e.length ce, .int .i64 o, .slice (some ⟨bp, op, none⟩) lp cp] w fun en w' => GRet R en w' ∧ Below w.heap.size w w') :
    Calls Tryz.prog 41 #[.slice ps es.length cs, reqV q pq cq, .slice pe e.length ce, .int .i64 o, .slice (some ⟨bp, op, none⟩) lp cp] w fun en w' => GRet R en w' ∧ Below w.heap.size w w' := by
  cases A with
  | error n =>
    rw [h1 n rfl]
    exact lz_err es ps cs q pq cq e pe ce bp op lp cp k0 k1 k2 w hE0 hP0 hlp n o (hA0 n rfl) HW0
  | ok a =>
    obtain ⟨x, r, rfl, _⟩ := value_head (hA a rfl).val
    by_cases hx : opV (x :: r) = 1
    · have ha := truth_is (hA _ rfl).val hx
      exact h3 _ (congrArg Except.ok ha)
    · rw [h2 _ rfl hx]
      exact lz_bad es ps cs q pq cq e pe ce bp op lp cp k0 k1 k2 w hE0 hP0 hlp x r _ o hx (fun w1 h => (HW0 w1 h).mono fun en w' g => ⟨g.1.hok, g.2⟩)
include hB0 hB HW1
theorem refLazy_and : Calls Tryz.prog 41 #[.slice ps es.length cs, reqV q pq cq, .slice pe e.length ce, .int .i64 11, .slice (some ⟨bp, op, none⟩) lp cp] w fun en w' => GRet (lazyE false A B) en w' ∧ Below w.heap.size w w' := by
  refine lz_first es ps cs q pq cq e pe ce bp op lp cp k0 k1 k2 w hE0 hP0 hlp A hA0 hA HW0 11 _ (fun n h => by rw [h]; rfl) (fun a h h1 => by rw [h]; simp [lazyE, boolE, h1]) (fun t h => ?_)
  subst h
  cases t with
  | false =>
    rw [show lazyE false (.ok (tN false)) B = .ok [tF] from rfl]
    exact lz_en_11 es ps cs q pq cq e pe ce bp op lp cp k0 k1 k2 w hE0 hP0 hlp (fun w1 h => (HW0 w1 h).mono fun en w' g => ⟨GRet.hok (x := tF) (r := []) g.1, g.2⟩)
  | true =>
    have HT := fun w1 (h : WArg es ps q pq cq e pe w1) => (HW0 w1 h).mono (R' := fun en w' => HOk tT [] 1 en w' ∧ Below w1.heap.size w1 w') fun en w' g => ⟨GRet.hok (x := tT) (r := []) g.1, g.2⟩
    cases B with
    | error n =>
      rw [show lazyE false (.ok (tN true)) (.error n) = .error n from rfl]
      exact lz_goE_11 es ps cs q pq cq e pe ce bp op lp cp k0 k1 k2 w hE0 hP0 hlp n (hB0 n rfl) HT HW1
    | ok b =>
      obtain ⟨x, r, rfl, _⟩ := value_head (hB b rfl).val
      have HG := fun w1 (h : WArg es ps q pq cq e pe w1) => (HW1 w1 h).mono (R' := fun en w' => HOk x r (r.length + 1) en w' ∧ Below w1.heap.size w1 w') fun en w' g => ⟨g.1.hok, g.2⟩
      by_cases hx : x.op = 1
      · have hb := truth_is (hB _ rfl).val hx
        rw [show lazyE false (.ok (tN true)) (.ok (x :: r)) = .ok (x :: r) from ?_]
        · exact lz_goK_11 es ps cs q pq cq e pe ce bp op lp cp k0 k1 k2 w hE0 hP0 hlp x r _ hx HT HG
        · conv => rhs; rw [hb]
          simp [lazyE, boolE, opV, hx, tN, nV]
      · rw [show lazyE false (.ok (tN true)) (.ok (x :: r)) = .error 2 by simp [lazyE, boolE, opV, hx, tN, nV]]
        exact lz_goB_11 es ps cs q pq cq e pe ce bp op lp cp k0 k1 k2 w hE0 hP0 hlp x r _ hx HT HG
theorem refLazy_or : Calls Tryz.prog 41 #[.slice ps es.length cs, reqV q pq cq, .slice pe e.length ce, .int .i64 12, .slice (some ⟨bp, op, none⟩) lp cp] w fun en w' => GRet (lazyE true A B) en w' ∧ Below w.heap.size w w' := by
  refine lz_first es ps cs q pq cq e pe ce bp op lp cp k0 k1 k2 w hE0 hP0 hlp A hA0 hA HW0 12 _ (fun n h => by rw [h]; rfl) (fun a h h1 => by rw [h]; simp [lazyE, boolE, h1]) (fun t h => ?_)
  subst h
  cases t with
  | true =>
    rw [show lazyE true (.ok (tN true)) B = .ok [tT] from rfl]
    exact lz_en_12 es ps cs q pq cq e pe ce bp op lp cp k0 k1 k2 w hE0 hP0 hlp (fun w1 h => (HW0 w1 h).mono fun en w' g => ⟨GRet.hok (x := tT) (r := []) g.1, g.2⟩)
  | false =>
    have HT := fun w1 (h : WArg es ps q pq cq e pe w1) => (HW0 w1 h).mono (R' := fun en w' => HOk tF [] 1 en w' ∧ Below w1.heap.size w1 w') fun en w' g => ⟨GRet.hok (x := tF) (r := []) g.1, g.2⟩
    cases B with
    | error n =>
      rw [show lazyE true (.ok (tN false)) (.error n) = .error n from rfl]
      exact lz_goE_12 es ps cs q pq cq e pe ce bp op lp cp k0 k1 k2 w hE0 hP0 hlp n (hB0 n rfl) HT HW1
    | ok b =>
      obtain ⟨x, r, rfl, _⟩ := value_head (hB b rfl).val
      have HG := fun w1 (h : WArg es ps q pq cq e pe w1) => (HW1 w1 h).mono (R' := fun en w' => HOk x r (r.length + 1) en w' ∧ Below w1.heap.size w1 w') fun en w' g => ⟨g.1.hok, g.2⟩
      by_cases hx : x.op = 1
      · have hb := truth_is (hB _ rfl).val hx
        rw [show lazyE true (.ok (tN false)) (.ok (x :: r)) = .ok (x :: r) from ?_]
        · exact lz_goK_12 es ps cs q pq cq e pe ce bp op lp cp k0 k1 k2 w hE0 hP0 hlp x r _ hx HT HG
        · conv => rhs; rw [hb]
          simp [lazyE, boolE, opV, hx, tN, nV]
      · rw [show lazyE true (.ok (tN false)) (.ok (x :: r)) = .error 2 by simp [lazyE, boolE, opV, hx, tN, nV]]
        exact lz_goB_12 es ps cs q pq cq e pe ce bp op lp cp k0 k1 k2 w hE0 hP0 hlp x r _ hx HT HG
omit hB0 hB
include HW2
theorem refLazy_if : Calls Tryz.prog 41 #[.slice ps es.length cs, reqV q pq cq, .slice pe e.length ce, .int .i64 13, .slice (some ⟨bp, op, none⟩) lp cp] w fun en w' => GRet (ifE A B C) en w' ∧ Below w.heap.size w w' := by
  refine lz_first es ps cs q pq cq e pe ce bp op lp cp k0 k1 k2 w hE0 hP0 hlp A hA0 hA HW0 13 _ (fun n h => by rw [h]; rfl) (fun a h h1 => by rw [h]; simp [ifE, boolE, h1]) (fun t h => ?_)
  subst h
  cases t with
  | true =>
    rw [show ifE (.ok (tN true)) B C = B from rfl]
    exact lz_if_T es ps cs q pq cq e pe ce bp op lp cp k0 k1 k2 w hE0 hP0 hlp B (fun w1 h => (HW0 w1 h).mono fun en w' g => ⟨GRet.hok (x := tT) (r := []) g.1, g.2⟩) HW1
  | false =>
    rw [show ifE (.ok (tN false)) B C = C from rfl]
    exact lz_if_F es ps cs q pq cq e pe ce bp op lp cp k0 k1 k2 w hE0 hP0 hlp C (fun w1 h => (HW0 w1 h).mono fun en w' g => ⟨GRet.hok (x := tF) (r := []) g.1, g.2⟩) HW2
end
end Go.Proofs.YtnilaghbbhmkgaaGreatDoor
namespace Go.Proofs.YtnilaghbbhmkgaaGreatDoor
open Go.RowKit
set_option linter.unusedVariables false
set_option linter.unusedSectionVars false
set_option maxRecDepth 100000

theorem node_at {e : List Nd} {p : Option Addr} {k : Nat} {x : Nd} {m : List Nd} {w : World} (hv : NL w p e) (hk : e.drop k = x :: m) :
    ∃ bq oq, p = some ⟨bq, oq, none⟩ ∧ bq < w.heap.size ∧ k < e.length ∧ w.cell? ⟨bq, oq + k * 4, none⟩ = some (.int .i64 x.op) ∧ w.cell? ⟨bq, oq + k * 4 + 1, none⟩ = some (.int .i64 x.n) ∧ w.cell? ⟨bq, oq + k * 4 + 2, none⟩ = some (.string x.s) ∧ w.cell? ⟨bq, oq + k * 4 + 3, none⟩ = some (.string x.t) ∧ x.wf := by
  have hkl : k < e.length := by
    have := congrArg List.length hk
    simp at this
    omega
  obtain ⟨bq, oq, hpq, hbq, e0, e1, e2, e3, xw⟩ := hv.at hkl
  have hex : e[k] = x := by
    have := congrArg List.head? hk
    rw [List.drop_eq_getElem_cons hkl] at this
    simpa only [List.head?_cons, Option.some.injEq] using this
  rw [hex] at e0 e1 e2 e3 xw
  exact ⟨bq, oq, hpq, hbq, hkl, e0, e1, e2, e3, xw⟩
section
variable (es : List En) (ps : Option Addr) (cs : Nat) (q : Rq) (pq : Option Addr) (cq : Nat) (e : List Nd) (pe : Option Addr) (ce : Nat) (k : Nat) (x : Nd) (m : List Nd) (w : World) (hE0 : WArg es ps q pq cq e pe w) (hl : e.length ≤ 200) (hk : e.drop k = x :: m)
include hE0 hl hk
set_option maxHeartbeats 2000000 in
theorem worth_atom (h1 : 1 ≤ x.op) (h4 : x.op ≤ 4) (hi : IsV [x]) :
    Calls Tryz.prog 21 #[.slice ps es.length cs, reqV q pq cq, .slice pe e.length ce, .int .i64 (k : Int)] w fun en w' => GRet (.ok [x]) en w' ∧ Below w.heap.size w w' := by
  obtain ⟨bq, oq, hpq, hbq, hkl, e0, e1, e2, e3, xw⟩ := node_at hE0.nl hk
  have i1 : (k : Int) < (e.length : Int) := by omega
  obtain ⟨xo, xn, xs, xt⟩ := x
  dsimp only [Nd.val] at e0 e1 e2 e3 h1 h4
  subst hpq
  obtain ⟨W, hW⟩ : ∃ W, W = ((w.alloc (.cells #[.string q.who.t, .string q.who.i, .string q.act.t, .string q.act.i, .string q.what.t, .string q.what.i, .slice pq q.cx.length cq] 27)).alloc (.cells #[.slice none 0 0, .int .i64 0] 30)).alloc (.cells #[.int .i64 xo, .int .i64 xn, .string xs, .string xt] 41) := ⟨_, rfl⟩
  have hb_0 : Below w.heap.size w W := by rw [hW]; exact (((Below.refl _ _).alloc (Nat.le_refl _) _).alloc (by simp) _).alloc (by simp; omega) _
  have hQ_0 : QR W w.heap.size q pq cq := by rw [hW]; exact ((QR.new w q pq cq).up ((Below.refl _ _).alloc (Nat.le_refl _) _)).up ((Below.refl _ _).alloc (Nat.le_refl _) _)
  have hR_0 : GR W (w.heap.size + 1) := by rw [hW]; exact (GR.new _ (by simp)).up ((Below.refl _ _).alloc (Nat.le_refl _) _)
  have hn_0 : NB W (w.heap.size + 1 + 1) xo xn xs xt := by rw [hW]; exact NB.new _ _ _ _ _ (by simp)
  have hWs : W.heap.size = w.heap.size + 1 + 1 + 1 := by rw [hW]; simp
  have hE_0 := hE0.up hb_0
  unfold reqV
  go_enter Tryz.func21, Tryz.ntmps21
  have hbN : Below W.heap.size W (W.alloc (.cells #[.int .i64 xo, .int .i64 xn, .string xs, .string xt] 41)) := (Below.refl _ _).alloc (Nat.le_refl _) _
  have hvN : VArg (W.alloc (.cells #[.int .i64 xo, .int .i64 xn, .string xs, .string xt] 41)) [⟨xo, xn, xs, xt⟩] 1 (some ⟨w.heap.size + 1 + 1 + 1, 0, none⟩) 1 := by
    refine VArg.mk rfl ?_ (Nat.le_refl _) (by unfold maxLen; decide) hi
    exact NL.single W _ ⟨xo, xn, xs, xt⟩ xw hWs
  go_wp2_with fail
  rw [← hW]
  clear hW
  have hb_1 := qbt hb_0 hbN
  have hR_1 := hR_0.up hbN
  refine (refGood_any _ _ _ _).mono ?_
  rintro _ w2 ⟨rfl, hbb⟩
  have hb_2 := qbt hb_1 hbb
  have hR_2 := hR_1.up hbb
  have hv_2 := hvN.up hbb
  clear hb_0 hQ_0 hR_0 hn_0 hE_0 hb_1 hR_1 hvN hbN
  obtain ⟨r0, r1, f0, f1⟩ := hR_2.cells
  go_wp2
  exact bodyPost_ret (v := .agg #[.slice (some ⟨w.heap.size + 1 + 1 + 1, 0, none⟩) 1 1, .int .i64 0]) (by simp [results, Tryz.results21, go_sem, (hR_2.told _ _).1, (hR_2.told _ _).2]) rfl (hR_2.ret (by omega) hb_2 (⟨_, _, rfl, hv_2⟩))
set_option maxHeartbeats 2000000 in
theorem worth_var (h8 : x.op = 8) (ho : EnvOk es q) :
    Calls Tryz.prog 21 #[.slice ps es.length cs, reqV q pq cq, .slice pe e.length ce, .int .i64 (k : Int)] w fun en w' => GRet (varE q x.s) en w' ∧ Below w.heap.size w w' := by
  obtain ⟨bq, oq, hpq, hbq, hkl, e0, e1, e2, e3, xw⟩ := node_at hE0.nl hk
  have i1 : (k : Int) < (e.length : Int) := by omega
  obtain ⟨xo, xn, xs, xt⟩ := x
  dsimp only [Nd.val] at e0 e1 e2 e3 h8
  subst hpq
  obtain ⟨W, hW⟩ : ∃ W, W = ((w.alloc (.cells #[.string q.who.t, .string q.who.i, .string q.act.t, .string q.act.i, .string q.what.t, .string q.what.i, .slice pq q.cx.length cq] 27)).alloc (.cells #[.slice none 0 0, .int .i64 0] 30)).alloc (.cells #[.int .i64 xo, .int .i64 xn, .string xs, .string xt] 41) := ⟨_, rfl⟩
  have hb_0 : Below w.heap.size w W := by rw [hW]; exact (((Below.refl _ _).alloc (Nat.le_refl _) _).alloc (by simp) _).alloc (by simp; omega) _
  have hQ_0 : QR W w.heap.size q pq cq := by rw [hW]; exact ((QR.new w q pq cq).up ((Below.refl _ _).alloc (Nat.le_refl _) _)).up ((Below.refl _ _).alloc (Nat.le_refl _) _)
  have hR_0 : GR W (w.heap.size + 1) := by rw [hW]; exact (GR.new _ (by simp)).up ((Below.refl _ _).alloc (Nat.le_refl _) _)
  have hn_0 : NB W (w.heap.size + 1 + 1) xo xn xs xt := by rw [hW]; exact NB.new _ _ _ _ _ (by simp)
  have hWs : W.heap.size = w.heap.size + 1 + 1 + 1 := by rw [hW]; simp
  have hE_0 := hE0.up hb_0
  unfold reqV
  go_enter Tryz.func21, Tryz.ntmps21
  subst h8
  obtain ⟨x0, x1, x2, x3, x4, x5, x6⟩ := hQ_0.cells
  obtain ⟨r0, r1, f0, f1⟩ := hR_0.cells
  obtain ⟨n0, n1, n2, n3⟩ := hn_0.cells
  go_wp2_with fail
  rw [← hW]
  clear hW
  refine (refNamed_any _ es q pq cq _ ho hE_0.rq).mono ?_
  rintro _ w1 ⟨hG, hbb⟩
  obtain ⟨gq, gn, gc, gk, rfl⟩ := hG.shape
  have hb_1 := qbt hb_0 hbb
  have hR_1 := hR_0.up hbb
  clear x0 x1 x2 x3 x4 x5 x6 r0 r1 f0 f1 n0 n1 n2 n3
  obtain ⟨r0, r1, f0, f1⟩ := hR_1.cells
  go_wp2
  exact bodyPost_ret (v := .agg #[.slice gq gn gc, .int .i64 gk]) (by simp [results, Tryz.results21, go_sem, (hR_1.told _ _).1, (hR_1.told _ _).2]) rfl (hR_1.ret (by omega) hb_1 (hG))
set_option maxHeartbeats 2000000 in
theorem worth_lazy_11 (f : Nat) (r : List Nd) (hp : pastE (f + 1) (x :: m) = some r) (h8 : x.op = 11) (R : Except Int (List Nd)) (HL : ∀ w1 bp op cp, WArg es ps q pq cq e pe w1 → IL w1 (some ⟨bp, op, none⟩) ((ssOf f x m).map (pos e) ++ [pos e r]) → Calls Tryz.prog 41 #[.slice ps es.length cs, reqV q pq cq, .slice pe e.length ce, .int .i64 11, .slice (some ⟨bp, op, none⟩) 3 cp] w1 fun en w' => GRet R en w' ∧ Below w1.heap.size w1 w') :
    Calls Tryz.prog 21 #[.slice ps es.length cs, reqV q pq cq, .slice pe e.length ce, .int .i64 (k : Int)] w fun en w' => GRet (R) en w' ∧ Below w.heap.size w w' := by
  obtain ⟨bq, oq, hpq, hbq, hkl, e0, e1, e2, e3, xw⟩ := node_at hE0.nl hk
  have i1 : (k : Int) < (e.length : Int) := by omega
  have HPO := fun w1 (h1 : NL w1 pe e) => refPartsOf_any f e pe ce k x m r w1 h1 hl hk hp
  rw [show (prt x).toNat + 1 = 3 by unfold prt; rw [if_neg (by omega), if_neg (by omega)]; simp [h8]] at HPO
  obtain ⟨xo, xn, xs, xt⟩ := x
  dsimp only [Nd.val] at e0 e1 e2 e3 h8
  subst hpq
  obtain ⟨W, hW⟩ : ∃ W, W = ((w.alloc (.cells #[.string q.who.t, .string q.who.i, .string q.act.t, .string q.act.i, .string q.what.t, .string q.what.i, .slice pq q.cx.length cq] 27)).alloc (.cells #[.slice none 0 0, .int .i64 0] 30)).alloc (.cells #[.int .i64 xo, .int .i64 xn, .string xs, .string xt] 41) := ⟨_, rfl⟩
  have hb_0 : Below w.heap.size w W := by rw [hW]; exact (((Below.refl _ _).alloc (Nat.le_refl _) _).alloc (by simp) _).alloc (by simp; omega) _
  have hQ_0 : QR W w.heap.size q pq cq := by rw [hW]; exact ((QR.new w q pq cq).up ((Below.refl _ _).alloc (Nat.le_refl _) _)).up ((Below.refl _ _).alloc (Nat.le_refl _) _)
  have hR_0 : GR W (w.heap.size + 1) := by rw [hW]; exact (GR.new _ (by simp)).up ((Below.refl _ _).alloc (Nat.le_refl _) _)
  have hn_0 : NB W (w.heap.size + 1 + 1) xo xn xs xt := by rw [hW]; exact NB.new _ _ _ _ _ (by simp)
  have hWs : W.heap.size = w.heap.size + 1 + 1 + 1 := by rw [hW]; simp
  have hE_0 := hE0.up hb_0
  unfold reqV
  go_enter Tryz.func21, Tryz.ntmps21
  subst h8
  obtain ⟨x0, x1, x2, x3, x4, x5, x6⟩ := hQ_0.cells
  obtain ⟨r0, r1, f0, f1⟩ := hR_0.cells
  obtain ⟨n0, n1, n2, n3⟩ := hn_0.cells
  go_wp2_with fail
  rw [← hW]
  refine (HPO _ hE_0.nl).mono ?_
  rintro _ w1 ⟨⟨q3, c3, rfl, hil_1⟩, hbb⟩
  clear x0 x1 x2 x3 x4 x5 x6 r0 r1 f0 f1 n0 n1 n2 n3
  have hb_1 := qbt hb_0 hbb
  have hQ_1 := hQ_0.up hbb
  have hR_1 := hR_0.up hbb
  have hE_1 := hE_0.up hbb
  have hn_1 := hn_0.up hbb
  clear hbb hb_0 hQ_0 hR_0 hE_0 hn_0
  obtain ⟨bp, op, rfl⟩ : ∃ b o, q3 = some ⟨b, o, none⟩ := by
    rcases hil_1 with h | ⟨b, o, h, _⟩
    · simp at h
    · exact ⟨b, o, h⟩
  obtain ⟨x0, x1, x2, x3, x4, x5, x6⟩ := hQ_1.cells
  obtain ⟨r0, r1, f0, f1⟩ := hR_1.cells
  obtain ⟨n0, n1, n2, n3⟩ := hn_1.cells
  go_wp2_with fail
  refine (HL _ bp op c3 hE_1 hil_1).mono ?_
  rintro _ w2 ⟨hG, hbb⟩
  obtain ⟨gq, gn, gc, gk, rfl⟩ := hG.shape
  have hb_2 := qbt hb_1 hbb
  have hR_2 := hR_1.up hbb
  clear x0 x1 x2 x3 x4 x5 x6 r0 r1 f0 f1 n0 n1 n2 n3
  obtain ⟨r0, r1, f0, f1⟩ := hR_2.cells
  go_wp2
  exact bodyPost_ret (v := .agg #[.slice gq gn gc, .int .i64 gk]) (by simp [results, Tryz.results21, go_sem, (hR_2.told _ _).1, (hR_2.told _ _).2]) rfl (hR_2.ret (by omega) hb_2 (hG))
set_option maxHeartbeats 2000000 in
theorem worth_lazy_12 (f : Nat) (r : List Nd) (hp : pastE (f + 1) (x :: m) = some r) (h8 : x.op = 12) (R : Except Int (List Nd)) (HL : ∀ w1 bp op cp, WArg es ps q pq cq e pe w1 → IL w1 (some ⟨bp, op, none⟩) ((ssOf f x m).map (pos e) ++ [pos e r]) → Calls Tryz.prog 41 #[.slice ps es.length cs, reqV q pq cq, .slice pe e.length ce, .int .i64 12, .slice (some ⟨bp, op, none⟩) 3 cp] w1 fun en w' => GRet R en w' ∧ Below w1.heap.size w1 w') :
    Calls Tryz.prog 21 #[.slice ps es.length cs, reqV q pq cq, .slice pe e.length ce, .int .i64 (k : Int)] w fun en w' => GRet (R) en w' ∧ Below w.heap.size w w' := by
  obtain ⟨bq, oq, hpq, hbq, hkl, e0, e1, e2, e3, xw⟩ := node_at hE0.nl hk
  have i1 : (k : Int) < (e.length : Int) := by omega
  have HPO := fun w1 (h1 : NL w1 pe e) => refPartsOf_any f e pe ce k x m r w1 h1 hl hk hp
  rw [show (prt x).toNat + 1 = 3 by unfold prt; rw [if_neg (by omega), if_neg (by omega)]; simp [h8]] at HPO
  obtain ⟨xo, xn, xs, xt⟩ := x
  dsimp only [Nd.val] at e0 e1 e2 e3 h8
  subst hpq
  obtain ⟨W, hW⟩ : ∃ W, W = ((w.alloc (.cells #[.string q.who.t, .string q.who.i, .string q.act.t, .string q.act.i, .string q.what.t, .string q.what.i, .slice pq q.cx.length cq] 27)).alloc (.cells #[.slice none 0 0, .int .i64 0] 30)).alloc (.cells #[.int .i64 xo, .int .i64 xn, .string xs, .string xt] 41) := ⟨_, rfl⟩
  have hb_0 : Below w.heap.size w W := by rw [hW]; exact (((Below.refl _ _).alloc (Nat.le_refl _) _).alloc (by simp) _).alloc (by simp; omega) _
  have hQ_0 : QR W w.heap.size q pq cq := by rw [hW]; exact ((QR.new w q pq cq).up ((Below.refl _ _).alloc (Nat.le_refl _) _)).up ((Below.refl _ _).alloc (Nat.le_refl _) _)
  have hR_0 : GR W (w.heap.size + 1) := by rw [hW]; exact (GR.new _ (by simp)).up ((Below.refl _ _).alloc (Nat.le_refl _) _)
  have hn_0 : NB W (w.heap.size + 1 + 1) xo xn xs xt := by rw [hW]; exact NB.new _ _ _ _ _ (by simp)
  have hWs : W.heap.size = w.heap.size + 1 + 1 + 1 := by rw [hW]; simp
  have hE_0 := hE0.up hb_0
  unfold reqV
  go_enter Tryz.func21, Tryz.ntmps21
  subst h8
  obtain ⟨x0, x1, x2, x3, x4, x5, x6⟩ := hQ_0.cells
  obtain ⟨r0, r1, f0, f1⟩ := hR_0.cells
  obtain ⟨n0, n1, n2, n3⟩ := hn_0.cells
  go_wp2_with fail
  rw [← hW]
  refine (HPO _ hE_0.nl).mono ?_
  rintro _ w1 ⟨⟨q3, c3, rfl, hil_1⟩, hbb⟩
  clear x0 x1 x2 x3 x4 x5 x6 r0 r1 f0 f1 n0 n1 n2 n3
  have hb_1 := qbt hb_0 hbb
  have hQ_1 := hQ_0.up hbb
  have hR_1 := hR_0.up hbb
  have hE_1 := hE_0.up hbb
  have hn_1 := hn_0.up hbb
  clear hbb hb_0 hQ_0 hR_0 hE_0 hn_0
  obtain ⟨bp, op, rfl⟩ : ∃ b o, q3 = some ⟨b, o, none⟩ := by
    rcases hil_1 with h | ⟨b, o, h, _⟩
    · simp at h
    · exact ⟨b, o, h⟩
  obtain ⟨x0, x1, x2, x3, x4, x5, x6⟩ := hQ_1.cells
  obtain ⟨r0, r1, f0, f1⟩ := hR_1.cells
  obtain ⟨n0, n1, n2, n3⟩ := hn_1.cells
  go_wp2_with fail
  refine (HL _ bp op c3 hE_1 hil_1).mono ?_
  rintro _ w2 ⟨hG, hbb⟩
  obtain ⟨gq, gn, gc, gk, rfl⟩ := hG.shape
  have hb_2 := qbt hb_1 hbb
  have hR_2 := hR_1.up hbb
  clear x0 x1 x2 x3 x4 x5 x6 r0 r1 f0 f1 n0 n1 n2 n3
  obtain ⟨r0, r1, f0, f1⟩ := hR_2.cells
  go_wp2
  exact bodyPost_ret (v := .agg #[.slice gq gn gc, .int .i64 gk]) (by simp [results, Tryz.results21, go_sem, (hR_2.told _ _).1, (hR_2.told _ _).2]) rfl (hR_2.ret (by omega) hb_2 (hG))
set_option maxHeartbeats 2000000 in
theorem worth_lazy_13 (f : Nat) (r : List Nd) (hp : pastE (f + 1) (x :: m) = some r) (h8 : x.op = 13) (R : Except Int (List Nd)) (HL : ∀ w1 bp op cp, WArg es ps q pq cq e pe w1 → IL w1 (some ⟨bp, op, none⟩) ((ssOf f x m).map (pos e) ++ [pos e r]) → Calls Tryz.prog 41 #[.slice ps es.length cs, reqV q pq cq, .slice pe e.length ce, .int .i64 13, .slice (some ⟨bp, op, none⟩) 4 cp] w1 fun en w' => GRet R en w' ∧ Below w1.heap.size w1 w') :
    Calls Tryz.prog 21 #[.slice ps es.length cs, reqV q pq cq, .slice pe e.length ce, .int .i64 (k : Int)] w fun en w' => GRet (R) en w' ∧ Below w.heap.size w w' := by
  obtain ⟨bq, oq, hpq, hbq, hkl, e0, e1, e2, e3, xw⟩ := node_at hE0.nl hk
  have i1 : (k : Int) < (e.length : Int) := by omega
  have HPO := fun w1 (h1 : NL w1 pe e) => refPartsOf_any f e pe ce k x m r w1 h1 hl hk hp
  rw [show (prt x).toNat + 1 = 4 by unfold prt; rw [if_neg (by omega), if_neg (by omega)]; simp [h8]] at HPO
  obtain ⟨xo, xn, xs, xt⟩ := x
  dsimp only [Nd.val] at e0 e1 e2 e3 h8
  subst hpq
  obtain ⟨W, hW⟩ : ∃ W, W = ((w.alloc (.cells #[.string q.who.t, .string q.who.i, .string q.act.t, .string q.act.i, .string q.what.t, .string q.what.i, .slice pq q.cx.length cq] 27)).alloc (.cells #[.slice none 0 0, .int .i64 0] 30)).alloc (.cells #[.int .i64 xo, .int .i64 xn, .string xs, .string xt] 41) := ⟨_, rfl⟩
  have hb_0 : Below w.heap.size w W := by rw [hW]; exact (((Below.refl _ _).alloc (Nat.le_refl _) _).alloc (by simp) _).alloc (by simp; omega) _
  have hQ_0 : QR W w.heap.size q pq cq := by rw [hW]; exact ((QR.new w q pq cq).up ((Below.refl _ _).alloc (Nat.le_refl _) _)).up ((Below.refl _ _).alloc (Nat.le_refl _) _)
  have hR_0 : GR W (w.heap.size + 1) := by rw [hW]; exact (GR.new _ (by simp)).up ((Below.refl _ _).alloc (Nat.le_refl _) _)
  have hn_0 : NB W (w.heap.size + 1 + 1) xo xn xs xt := by rw [hW]; exact NB.new _ _ _ _ _ (by simp)
  have hWs : W.heap.size = w.heap.size + 1 + 1 + 1 := by rw [hW]; simp
  have hE_0 := hE0.up hb_0
  unfold reqV
  go_enter Tryz.func21, Tryz.ntmps21
  subst h8
  obtain ⟨x0, x1, x2, x3, x4, x5, x6⟩ := hQ_0.cells
  obtain ⟨r0, r1, f0, f1⟩ := hR_0.cells
  obtain ⟨n0, n1, n2, n3⟩ := hn_0.cells
  go_wp2_with fail
  rw [← hW]
  refine (HPO _ hE_0.nl).mono ?_
  rintro _ w1 ⟨⟨q3, c3, rfl, hil_1⟩, hbb⟩
  clear x0 x1 x2 x3 x4 x5 x6 r0 r1 f0 f1 n0 n1 n2 n3
  have hb_1 := qbt hb_0 hbb
  have hQ_1 := hQ_0.up hbb
  have hR_1 := hR_0.up hbb
  have hE_1 := hE_0.up hbb
  have hn_1 := hn_0.up hbb
  clear hbb hb_0 hQ_0 hR_0 hE_0 hn_0
  obtain ⟨bp, op, rfl⟩ : ∃ b o, q3 = some ⟨b, o, none⟩ := by
    rcases hil_1 with h | ⟨b, o, h, _⟩
    · simp at h
    · exact ⟨b, o, h⟩
  obtain ⟨x0, x1, x2, x3, x4, x5, x6⟩ := hQ_1.cells
  obtain ⟨r0, r1, f0, f1⟩ := hR_1.cells
  obtain ⟨n0, n1, n2, n3⟩ := hn_1.cells
  go_wp2_with fail
  refine (HL _ bp op c3 hE_1 hil_1).mono ?_
  rintro _ w2 ⟨hG, hbb⟩
  obtain ⟨gq, gn, gc, gk, rfl⟩ := hG.shape
  have hb_2 := qbt hb_1 hbb
  have hR_2 := hR_1.up hbb
  clear x0 x1 x2 x3 x4 x5 x6 r0 r1 f0 f1 n0 n1 n2 n3
  obtain ⟨r0, r1, f0, f1⟩ := hR_2.cells
  go_wp2
  exact bodyPost_ret (v := .agg #[.slice gq gn gc, .int .i64 gk]) (by simp [results, Tryz.results21, go_sem, (hR_2.told _ _).1, (hR_2.told _ _).2]) rfl (hR_2.ret (by omega) hb_2 (hG))
end
end Go.Proofs.YtnilaghbbhmkgaaGreatDoor
namespace Go.Proofs.YtnilaghbbhmkgaaGreatDoor
open Go.RowKit
set_option linter.unusedVariables false
set_option linter.unusedSectionVars false
set_option linter.unusedSimpArgs false
set_option maxRecDepth 100000

structure P1 (w : World) (bp o : Nat) (v : Value) : Prop where
  lt : bp < w.heap.size
  cells : w.cell? ⟨bp, o, none⟩ = some v
theorem P1.bel {N : Nat} {w w' : World} {bp o : Nat} {v : Value} (h : P1 w bp o v) (k : Below N w w') (hl : bp < N) : P1 w' bp o v := ⟨Nat.lt_of_lt_of_le h.lt k.size, (k.cell (p := ⟨bp, o, none⟩) hl).trans h.cells⟩
theorem P1.up {w w' : World} {bp o : Nat} {v : Value} (h : P1 w bp o v) (k : Below w.heap.size w w') : P1 w' bp o v := h.bel k h.lt
theorem QP1.cells {w : World} {B : Nat} {q : Rq} {pq : Option Addr} {cq : Nat} {bp o : Nat} {v : Value} (h : QR w B q pq cq) (k : P1 w bp o v) :
    w.cell? ⟨B, 0, none⟩ = some (.string q.who.t) ∧ w.cell? ⟨B, 1, none⟩ = some (.string q.who.i) ∧ w.cell? ⟨B, 2, none⟩ = some (.string q.act.t) ∧ w.cell? ⟨B, 3, none⟩ = some (.string q.act.i) ∧ w.cell? ⟨B, 4, none⟩ = some (.string q.what.t) ∧ w.cell? ⟨B, 5, none⟩ = some (.string q.what.i) ∧ w.cell? ⟨B, 6, none⟩ = some (.slice pq q.cx.length cq) ∧ w.cell? ⟨bp, o, none⟩ = some v := by
  obtain ⟨h0, h1, h2, h3, h4, h5, h6⟩ := h.cells
  exact ⟨h0, h1, h2, h3, h4, h5, h6, k.cells⟩
theorem NB.bel {N : Nat} {w w' : World} {B : Nat} {o n : Int} {s t : ByteArray} (h : NB w B o n s t) (k : Below N w w') (hl : B < N) : NB w' B o n s t := ⟨(k.block B hl).trans h.blk⟩
theorem okAll_snoc {ev : List Nd → Except Int (List Nd)} {s a : List Nd} : ∀ {l vs : List (List Nd)}, okAll ev l = .ok vs → ev s = .ok a → okAll ev (l ++ [s]) = .ok (vs ++ [a])
  | [], vs, h, hs => by injection h with h; subst h; simp [okAll, hs, bindE]
  | b :: l, vs, h, hs => by
    simp only [okAll, List.cons_append] at h ⊢
    cases e1 : ev b with
    | error n => rw [e1] at h; cases h
    | ok v =>
      rw [e1] at h
      simp only [bindE] at h ⊢
      cases e2 : okAll ev l with
      | error n => rw [e2] at h; cases h
      | ok u =>
        rw [e2] at h
        injection h with h
        subst h
        rw [okAll_snoc e2 hs]
        rfl
theorem okAll_stop {ev : List Nd → Except Int (List Nd)} {s : List Nd} {n : Int} {t : List (List Nd)} : ∀ {l vs : List (List Nd)}, okAll ev l = .ok vs → ev s = .error n → okAll ev (l ++ s :: t) = .error n
  | [], vs, h, hs => by simp [okAll, hs, bindE]
  | b :: l, vs, h, hs => by
    simp only [okAll, List.cons_append] at h ⊢
    cases e1 : ev b with
    | error n => rw [e1] at h; cases h
    | ok v =>
      rw [e1] at h
      simp only [bindE] at h ⊢
      cases e2 : okAll ev l with
      | error n => rw [e2] at h; cases h
      | ok u => rw [okAll_stop e2 hs]
theorem gret_ok {a : List Nd} {en : Ending} {w : World} (h : GRet (.ok a) en w) : ∃ b off c, en = .returned (.agg #[.slice (some ⟨b, off, none⟩) a.length c, .int .i64 0]) ∧ VArg w a a.length (some ⟨b, off, none⟩) c := by
  obtain ⟨q, c, e, hv⟩ := h
  obtain ⟨_, _, b, off, _, rfl, _⟩ := hv.head
  exact ⟨b, off, c, e, hv⟩
theorem IL.bel {N : Nat} {w w' : World} {b o : Nat} {l : List Nat} (h : IL w (some ⟨b, o, none⟩) l) (k : Below N w w') (hb : b < N) : IL w' (some ⟨b, o, none⟩) l := by
  rcases h with h | ⟨b', o', h1, h2, h3⟩
  · exact .inl h
  · cases h1
    exact .inr ⟨b, o, rfl, Nat.lt_of_lt_of_le h2 k.size, fun i x hx => (k.cell (p := ⟨b, o + i, none⟩) hb).trans (h3 i x hx)⟩
section
variable (es : List En) (ps : Option Addr) (cs : Nat) (q : Rq) (pq : Option Addr) (cq : Nat) (e : List Nd) (pe : Option Addr) (ce : Nat) (k : Nat) (x : Nd) (m : List Nd) (w : World) (hE0 : WArg es ps q pq cq e pe w) (hl : e.length ≤ 200) (hk : e.drop k = x :: m)
include hE0 hl hk
set_option maxHeartbeats 6000000 in
theorem worth_one (f : Nat) (r : List Nd) (hp : pastE (f + 1) (x :: m) = some r) (hK200 : (prt x).toNat ≤ 200) (ho1 : 1 ≤ x.op) (ho4 : ¬ x.op ≤ 4) (ho8 : x.op ≠ 8) (ho11 : x.op ≠ 11) (ho12 : x.op ≠ 12) (ho13 : x.op ≠ 13) (R : Except Int (List Nd)) (HRe : ∀ n, okAll (evE es q f) (ssOf f x m) = .error n → R = .error n) (hE0n : ∀ s ∈ ssOf f x m, ∀ n, evE es q f s = .error n → n ≠ 0) (IH : ∀ s ∈ ssOf f x m, ∀ w1, WArg es ps q pq cq e pe w1 → Calls Tryz.prog 21 #[.slice ps es.length cs, reqV q pq cq, .slice pe e.length ce, .int .i64 (pos e s : Int)] w1 fun en w' => GRet (evE es q f s) en w' ∧ Below w1.heap.size w1 w') (ho5 : x.op ≠ 5) (ho6 : x.op ≠ 6) (hK1 : (prt x).toNat = 1) (HT : ∀ a, okAll (evE es q f) (ssOf f x m) = .ok [a] → ∀ w1 n q c, VArg w1 a n q c → EL w1 ps es → Calls Tryz.prog 45 #[.slice ps es.length cs, .agg #[.int .i64 x.op, .int .i64 x.n, .string x.s, .string x.t], .agg #[.slice q n c, .int .i64 0]] w1 fun en w' => GRet R en w' ∧ Below w1.heap.size w1 w') :
    Calls Tryz.prog 21 #[.slice ps es.length cs, reqV q pq cq, .slice pe e.length ce, .int .i64 (k : Int)] w fun en w' => GRet (R) en w' ∧ Below w.heap.size w w' := by
  obtain ⟨bq, oq, hpq, hbq, hkl, e0, e1, e2, e3, xw⟩ := node_at hE0.nl hk
  have i1 : (k : Int) < (e.length : Int) := by omega
  have HPO := fun w1 (h1 : NL w1 pe e) => refPartsOf_any f e pe ce k x m r w1 h1 hl hk hp
  have hsl := ssOf_len (f := f) (x := x) (m := m)
  have HKl : Hid ((prt x).toNat ≤ 200) := hK200
  have e11 : (x.op == 11) = false := by simpa using ho11
  have e12 : (x.op == 12) = false := by simpa using ho12
  have e13 : (x.op == 13) = false := by simpa using ho13
  have e5 : (x.op == 5) = false := by simpa using ho5
  have e6 : (x.op == 6) = false := by simpa using ho6
  generalize (prt x).toNat = K at *
  generalize ssOf f x m = ss at *
  obtain ⟨xo, xn, xs, xt⟩ := x
  dsimp only [Nd.val] at e0 e1 e2 e3 ho1 ho4 ho8 e11 e12 e13 e5 e6 HT
  subst hpq
  obtain ⟨W, hW⟩ : ∃ W, W = ((w.alloc (.cells #[.string q.who.t, .string q.who.i, .string q.act.t, .string q.act.i, .string q.what.t, .string q.what.i, .slice pq q.cx.length cq] 27)).alloc (.cells #[.slice none 0 0, .int .i64 0] 30)).alloc (.cells #[.int .i64 xo, .int .i64 xn, .string xs, .string xt] 41) := ⟨_, rfl⟩
  have hb_0 : Below w.heap.size w W := by rw [hW]; exact (((Below.refl _ _).alloc (Nat.le_refl _) _).alloc (by simp) _).alloc (by simp; omega) _
  have hQ_0 : QR W w.heap.size q pq cq := by rw [hW]; exact ((QR.new w q pq cq).up ((Below.refl _ _).alloc (Nat.le_refl _) _)).up ((Below.refl _ _).alloc (Nat.le_refl _) _)
  have hR_0 : GR W (w.heap.size + 1) := by rw [hW]; exact (GR.new _ (by simp)).up ((Below.refl _ _).alloc (Nat.le_refl _) _)
  have hn_0 : NB W (w.heap.size + 1 + 1) xo xn xs xt := by rw [hW]; exact NB.new _ _ _ _ _ (by simp)
  have hWs : W.heap.size = w.heap.size + 1 + 1 + 1 := by rw [hW]; simp
  have hE_0 := hE0.up hb_0
  unfold reqV
  go_enter Tryz.func21, Tryz.ntmps21
  have HE0 : Hid (WArg es ps q pq cq e (some ⟨bq, oq, none⟩) w) := hE0
  have HREr : Hid (∀ n, okAll (evE es q f) ss = .error n → R = .error n) := HRe
  have HNZ : Hid (∀ s ∈ ss, ∀ n, evE es q f s = .error n → n ≠ 0) := hE0n
  unfold reqV at IH
  have HIH : Hid (∀ s ∈ ss, ∀ w1, WArg es ps q pq cq e (some ⟨bq, oq, none⟩) w1 → Calls Tryz.prog 21 #[.slice ps es.length cs, .agg #[.string q.who.t, .string q.who.i, .string q.act.t, .string q.act.i, .string q.what.t, .string q.what.i, .slice pq q.cx.length cq], .slice (some ⟨bq, oq, none⟩) e.length ce, .int .i64 (pos e s : Int)] w1 fun en w' => GRet (evE es q f s) en w' ∧ Below w1.heap.size w1 w') := IH
  have HSL : Hid (ss.length = K) := hsl
  clear hE0 hk hp ho11 ho12 ho13 ho5 ho6 HRe hE0n IH hsl
  obtain ⟨x0, x1, x2, x3, x4, x5, x6⟩ := hQ_0.cells
  obtain ⟨r0, r1, f0, f1⟩ := hR_0.cells
  obtain ⟨n0, n1, n2, n3⟩ := hn_0.cells
  go_wp2_with fail
  rw [← hW]
  refine (HPO _ hE_0.nl).mono ?_
  rintro _ w1 ⟨⟨q3, c3, rfl, hil_1⟩, hbb⟩
  clear x0 x1 x2 x3 x4 x5 x6 r0 r1 f0 f1 n0 n1 n2 n3
  have hb_1 := qbt hb_0 hbb
  have hQ_1 := hQ_0.up hbb
  have hR_1 := hR_0.up hbb
  have hE_1 := hE_0.up hbb
  have hn_1 := hn_0.up hbb
  clear hbb hb_0 hQ_0 hR_0 hE_0 hn_0
  obtain ⟨bp, op, rfl⟩ : ∃ b o, q3 = some ⟨b, o, none⟩ := by
    rcases hil_1 with h | ⟨b, o, h, _⟩
    · simp at h
    · exact ⟨b, o, h⟩
  obtain ⟨x0, x1, x2, x3, x4, x5, x6⟩ := hQ_1.cells
  obtain ⟨r0, r1, f0, f1⟩ := hR_1.cells
  obtain ⟨n0, n1, n2, n3⟩ := hn_1.cells
  have hKi : ((K : Int) + 1) - 1 = (K : Int) := by omega
  go_wp2_with fail
  clear e0 e1 e2 e3 HPO hW x0 x1 x2 x3 x4 x5 x6 r0 r1 f0 f1 n0 n1 n2 n3
  have hlow : w.heap.size + 1 + 1 < w1.heap.size := hn_1.lt
  have hbp : bp < w1.heap.size := by
    rcases hil_1 with h | ⟨b, o, h, hb, _⟩
    · simp at h
    · cases h; exact hb
  go_loopw [11, 12] (fun ov i wr => ∃ (j : Nat) (done todo vs : List (List Nd)), i = .int .i64 j ∧ j ≤ K ∧ Hid (done ++ todo = ss) ∧ done.length = j ∧ Hid (okAll (evE es q f) done = .ok vs) ∧ OG wr w1.heap.size ov vs ∧ QR wr w.heap.size q pq cq ∧ GR wr (w.heap.size + 1) ∧ NB wr (w.heap.size + 1 + 1) xo xn xs xt ∧ IL wr (some ⟨bp, op, none⟩) (ss.map (pos e) ++ [pos e r]) ∧ Below w.heap.size w wr ∧ w1.heap.size ≤ wr.heap.size) (fun _ i _ => K - (intOf i).toNat)
  case atStart => exact ⟨0, [], ss, [], rfl, Nat.zero_le _, rfl, rfl, rfl, OG.nil _ _, hQ_1, hR_1, hn_1, hil_1, hb_1, Nat.le_refl _⟩
  case round =>
    rename World => w5
    obtain ⟨j, done, todo, vs, rfl, hj, HD, hdl, HK, hO_5, hQ_5, hR_5, hn_5, hil_5, hb_5, hbase⟩ := hrel
    have hE_5 := HE0.out.up hb_5
    by_cases hlt : j < K
    · have i2 : (j : Int) < (K : Int) + 1 - 1 := by omega
      have i3 : (j : Int) < (K : Int) + 1 := by omega
      obtain ⟨s, todo, rfl⟩ : ∃ a l, todo = a :: l := by
        cases todo with
        | nil => exfalso; have := congrArg List.length HD.out; have h2 := HSL.out; simp at this; omega
        | cons a l => exact ⟨a, l, rfl⟩
      have hsm : s ∈ ss := by rw [← HD.out]; simp
      have HW0 := HIH.out s hsm
      obtain ⟨kj, hkj⟩ : ∃ n, n = pos e s := ⟨_, rfl⟩
      rw [← hkj] at HW0
      have hP_5 : P1 w5 bp (op + j) (.int .i64 (kj : Int)) := by
        rcases hil_5 with h | ⟨b, o, h, hb, h2⟩
        · simp at h
        · cases h
          refine ⟨hb, h2 j kj ?_⟩
          rw [hkj, ← HD.out, ← hdl]
          simp
      have hPlt := hP_5.lt
      have hKb : K ≤ 200 := HKl.out
      have HV0 : Hid (∀ n, evE es q f s = .error n → n ≠ 0) := HNZ.out s hsm
      cases hev : evE es q f s with
      | error nz =>
        have HRn : Hid (R = .error nz) := HREr.out nz (by rw [← HD.out]; exact okAll_stop HK.out hev)
        have hnz : nz ≠ 0 := HV0.out nz hev
        rw [hev] at HW0
        replace HW0 := fun w1 h1 => (HW0 w1 h1).mono (R' := fun en w' => en = .returned (.agg #[.slice none 0 0, .int .i64 nz]) ∧ Below w1.heap.size w1 w') fun en w' g => ⟨g.1, g.2⟩
        clear HV0 hev HNZ HIH HREr hsm hkj hj hlt
        obtain ⟨x0, x1, x2, x3, x4, x5, x6⟩ := hQ_5.cells
        obtain ⟨r0, r1, f0, f1⟩ := hR_5.cells
        obtain ⟨n0, n1, n2, n3⟩ := hn_5.cells
        obtain p0 := hP_5.cells
        go_wp2_with fail
        go_region_held (fun w' => w'.cell? ⟨w.heap.size, 0, none⟩ = some (.string q.who.t) ∧ w'.cell? ⟨w.heap.size, 1, none⟩ = some (.string q.who.i) ∧ w'.cell? ⟨w.heap.size, 2, none⟩ = some (.string q.act.t) ∧ w'.cell? ⟨w.heap.size, 3, none⟩ = some (.string q.act.i) ∧ w'.cell? ⟨w.heap.size, 4, none⟩ = some (.string q.what.t) ∧ w'.cell? ⟨w.heap.size, 5, none⟩ = some (.string q.what.i) ∧ w'.cell? ⟨w.heap.size, 6, none⟩ = some (.slice pq q.cx.length cq) ∧ w'.cell? ⟨bp, op + j, none⟩ = some (.int .i64 (kj : Int))) (first | exact QP1.cells (QR.bel hQ_6 (GR.bel (Nat.le_refl w5.heap.size) _ _) (by have := hR_5.lt; have := hPlt; have := hb_5.size; omega)) (P1.bel hP_6 (GR.bel (Nat.le_refl w5.heap.size) _ _) (by have := hR_5.lt; have := hPlt; have := hb_5.size; omega)) | exact QP1.cells (QR.bel hQ_6 ((Below.refl _ _).setCell (p := ⟨w5.heap.size, 0, none⟩) (Nat.le_refl _) _) (by have := hR_5.lt; have := hPlt; have := hb_5.size; omega)) (P1.bel hP_6 ((Below.refl _ _).setCell (p := ⟨w5.heap.size, 0, none⟩) (Nat.le_refl _) _) (by have := hR_5.lt; have := hPlt; have := hb_5.size; omega)) | exact QP1.cells (QR.up hQ_6 (by repeat (first | exact Below.refl _ _ | apply zbA | apply zbD))) (P1.up hP_6 (by repeat (first | exact Below.refl _ _ | apply zbA | apply zbD))) | exact QP1.cells (QR.up hQ_5 (by repeat (first | exact Below.refl _ _ | apply zbA | apply zbD))) (P1.up hP_5 (by repeat (first | exact Below.refl _ _ | apply zbA | apply zbD)))) (first
          | (go_at_call 21
             refine (HW0 _ (WArg.up hE_5 (by repeat (first | exact Below.refl _ _ | apply zbA | apply zbD)))).mono ?_
             rintro _ w6 ⟨rfl, hbb_6⟩
             have hbk_6 : Below w5.heap.size w5 w6 := qbt (by repeat (first | exact Below.refl _ _ | apply zbA | apply zbD)) hbb_6
             have hb_6 := qbt hb_5 hbk_6
             have hQ_6 := hQ_5.up hbk_6
             have hR_6 := hR_5.up hbk_6
             have hn_6 := hn_5.up hbk_6
             have hE_6 := hE_5.up hbk_6
             have hP_6 := hP_5.up hbk_6
             have hO_6 := hO_5.up hbk_6
             have hil_6 := hil_5.up hbk_6
             first | (have hC0 : GR w6 (w5.heap.size) := GR.up (GR.up (GR.new w5 rfl) (zbD (Below.refl _ _))) hbb_6; obtain ⟨cc0, cc1, cf0, cf1⟩ := hC0.cells) | skip))
        all_goals
          first
          | (obtain ⟨w7, hV⟩ : ∃ V, V = w6.alloc (.cells #[.slice none 0 0, .int .i64 nz] 30) := ⟨_, rfl⟩
             obtain ⟨Bgc, hBc⟩ : ∃ V, V = w6.heap.size := ⟨_, rfl⟩
             have hEd : Ended w6 w5.heap.size (.slice none 0 0) (.int .i64 nz) w7 Bgc := .inl ⟨hV, hBc⟩
             rw [← hV, ← hBc]
             clear hV hBc)
          | (obtain ⟨w7, hV⟩ : ∃ V, V = (w6.setCell ⟨w5.heap.size, 0, none⟩ (.slice none 0 0)).setCell ⟨w5.heap.size, 1, none⟩ (.int .i64 nz) := ⟨_, rfl⟩
             obtain ⟨Bgc, hBc⟩ : ∃ V, V = w5.heap.size := ⟨_, rfl⟩
             have hEd : Ended w6 w5.heap.size (.slice none 0 0) (.int .i64 nz) w7 Bgc := .inr ⟨hC0, hV, hBc⟩
             rw [← hV, ← hBc]
             clear hV hBc hC0 cc0 cc1 cf0 cf1)
          have hbV := hEd.below hbk_6 (Nat.le_refl _)
          have hb_7 := qbt hb_5 hbV
          have gc_7 := hEd.g2
          have hQ_7 := hQ_5.up hbV
          have hR_7 := hR_5.up hbV
          have hn_7 := hn_5.up hbV
          have hE_7 := hE_5.up hbV
          have hP_7 := hP_5.up hbV
          have hO_7 := hO_5.up hbV
          have hil_7 := hil_5.up hbV
          clear hEd
          obtain ⟨x0, x1, x2, x3, x4, x5, x6⟩ := hQ_7.cells
          obtain ⟨r0, r1, f0, f1⟩ := hR_7.cells
          obtain ⟨n0, n1, n2, n3⟩ := hn_7.cells
          obtain p0 := hP_7.cells
          obtain ⟨gca, gcb⟩ := gc_7.cells
          go_wp2
          rw [HRn.out]
          exact bodyPost_ret (v := .agg #[.slice none 0 0, .int .i64 nz]) (by simp [results, Tryz.results21, go_sem, (hR_7.told _ _).1, (hR_7.told _ _).2]) rfl (hR_7.ret (by omega) hb_7 rfl)
      | ok a0 =>
        have HK2 : Hid (okAll (evE es q f) (done ++ [s]) = .ok (vs ++ [a0])) := okAll_snoc HK.out hev
        rw [hev] at HW0
        replace HW0 := fun w1 h1 => (HW0 w1 h1).mono (R' := fun en w' => (∃ b off c, en = .returned (.agg #[.slice (some ⟨b, off, none⟩) a0.length c, .int .i64 0]) ∧ VArg w' a0 a0.length (some ⟨b, off, none⟩) c) ∧ Below w1.heap.size w1 w') fun en w' g => ⟨gret_ok g.1, g.2⟩
        clear HV0 hev HNZ HIH HREr hsm hkj
        obtain ⟨x0, x1, x2, x3, x4, x5, x6⟩ := hQ_5.cells
        obtain ⟨r0, r1, f0, f1⟩ := hR_5.cells
        obtain ⟨n0, n1, n2, n3⟩ := hn_5.cells
        obtain p0 := hP_5.cells
        go_wp2_with fail
        go_region_held (fun w' => w'.cell? ⟨w.heap.size, 0, none⟩ = some (.string q.who.t) ∧ w'.cell? ⟨w.heap.size, 1, none⟩ = some (.string q.who.i) ∧ w'.cell? ⟨w.heap.size, 2, none⟩ = some (.string q.act.t) ∧ w'.cell? ⟨w.heap.size, 3, none⟩ = some (.string q.act.i) ∧ w'.cell? ⟨w.heap.size, 4, none⟩ = some (.string q.what.t) ∧ w'.cell? ⟨w.heap.size, 5, none⟩ = some (.string q.what.i) ∧ w'.cell? ⟨w.heap.size, 6, none⟩ = some (.slice pq q.cx.length cq) ∧ w'.cell? ⟨bp, op + j, none⟩ = some (.int .i64 (kj : Int))) (first | exact QP1.cells (QR.bel hQ_6 (GR.bel (Nat.le_refl w5.heap.size) _ _) (by have := hR_5.lt; have := hPlt; have := hb_5.size; omega)) (P1.bel hP_6 (GR.bel (Nat.le_refl w5.heap.size) _ _) (by have := hR_5.lt; have := hPlt; have := hb_5.size; omega)) | exact QP1.cells (QR.bel hQ_6 ((Below.refl _ _).setCell (p := ⟨w5.heap.size, 0, none⟩) (Nat.le_refl _) _) (by have := hR_5.lt; have := hPlt; have := hb_5.size; omega)) (P1.bel hP_6 ((Below.refl _ _).setCell (p := ⟨w5.heap.size, 0, none⟩) (Nat.le_refl _) _) (by have := hR_5.lt; have := hPlt; have := hb_5.size; omega)) | exact QP1.cells (QR.up hQ_6 (by repeat (first | exact Below.refl _ _ | apply zbA | apply zbD))) (P1.up hP_6 (by repeat (first | exact Below.refl _ _ | apply zbA | apply zbD))) | exact QP1.cells (QR.up hQ_5 (by repeat (first | exact Below.refl _ _ | apply zbA | apply zbD))) (P1.up hP_5 (by repeat (first | exact Below.refl _ _ | apply zbA | apply zbD)))) (first
          | (go_at_call 21
             refine (HW0 _ (WArg.up hE_5 (by repeat (first | exact Below.refl _ _ | apply zbA | apply zbD)))).mono ?_
             rintro _ w6 ⟨⟨bhv, ohv, chv, rfl, hv_6⟩, hbb_6⟩
             have hbk_6 : Below w5.heap.size w5 w6 := qbt (by repeat (first | exact Below.refl _ _ | apply zbA | apply zbD)) hbb_6
             have hb_6 := qbt hb_5 hbk_6
             have hQ_6 := hQ_5.up hbk_6
             have hR_6 := hR_5.up hbk_6
             have hn_6 := hn_5.up hbk_6
             have hE_6 := hE_5.up hbk_6
             have hP_6 := hP_5.up hbk_6
             have hO_6 := hO_5.up hbk_6
             have hil_6 := hil_5.up hbk_6
             first | (have hC0 : GR w6 (w5.heap.size) := GR.up (GR.up (GR.new w5 rfl) (zbD (Below.refl _ _))) hbb_6; obtain ⟨cc0, cc1, cf0, cf1⟩ := hC0.cells) | skip))
        all_goals
          first
          | (obtain ⟨w7, hV⟩ : ∃ V, V = w6.alloc (.cells #[.slice (some ⟨bhv, ohv, none⟩) a0.length chv, .int .i64 0] 30) := ⟨_, rfl⟩
             obtain ⟨Bgc, hBc⟩ : ∃ V, V = w6.heap.size := ⟨_, rfl⟩
             have hEd : Ended w6 w5.heap.size (.slice (some ⟨bhv, ohv, none⟩) a0.length chv) (.int .i64 0) w7 Bgc := .inl ⟨hV, hBc⟩
             rw [← hV, ← hBc]
             clear hV hBc)
          | (obtain ⟨w7, hV⟩ : ∃ V, V = (w6.setCell ⟨w5.heap.size, 0, none⟩ (.slice (some ⟨bhv, ohv, none⟩) a0.length chv)).setCell ⟨w5.heap.size, 1, none⟩ (.int .i64 0) := ⟨_, rfl⟩
             obtain ⟨Bgc, hBc⟩ : ∃ V, V = w5.heap.size := ⟨_, rfl⟩
             have hEd : Ended w6 w5.heap.size (.slice (some ⟨bhv, ohv, none⟩) a0.length chv) (.int .i64 0) w7 Bgc := .inr ⟨hC0, hV, hBc⟩
             rw [← hV, ← hBc]
             clear hV hBc hC0 cc0 cc1 cf0 cf1)
          have hbV := hEd.below hbk_6 (Nat.le_refl _)
          have hb_7 := qbt hb_5 hbV
          have gc_7 := hEd.g2
          have hQ_7 := hQ_5.up hbV
          have hR_7 := hR_5.up hbV
          have hn_7 := hn_5.up hbV
          have hE_7 := hE_5.up hbV
          have hP_7 := hP_5.up hbV
          have hO_7 := hO_5.up hbV
          have hil_7 := hil_5.up hbV
          have hv_7 := hEd.val hv_6
          clear hEd
          have hvl : vs.length + 1 ≤ 1000000 := by
            have h1 := okAll_len HK.out
            have h2 := HKl.out
            omega
          have hbs : w1.heap.size ≤ w7.heap.size := Nat.le_trans hbase hbV.size
          obtain ⟨x0, x1, x2, x3, x4, x5, x6⟩ := hQ_7.cells
          obtain ⟨r0, r1, f0, f1⟩ := hR_7.cells
          obtain ⟨n0, n1, n2, n3⟩ := hn_7.cells
          obtain p0 := hP_7.cells
          obtain ⟨gca, gcb⟩ := gc_7.cells
          go_wp2_with (first | (at_builtin; refine append_got w7 rfl (.tmp 81) (.tmp 83) rfl w1.heap.size u11 vs rfl hO_7 a0 _ _ _ hv_7 rfl hvl hbs ?_; intro v2 w9 hO_9 hb9))
          go_roundw
          case rel => exact ⟨j + 1, done ++ [s], todo, vs ++ [a0], by go_num, by omega, by rw [← HD.out]; show _ = _; simp, by simp [hdl], HK2, hO_9, hQ_7.bel hb9 (by omega), hR_7.belk hb9 (by omega), hn_7.bel hb9 (by omega), IL.bel hil_7 hb9 (hbp), hb_7.trans (hb9.mono (by omega)), Nat.le_trans hbs hb9.size⟩
          case measure => simp [intOf]; omega
    · have i2 : ¬ (j : Int) < (K : Int) + 1 - 1 := by omega
      obtain rfl : j = K := by omega
      have ht : todo = [] := by
        cases todo with
        | nil => rfl
        | cons a l => exfalso; have := congrArg List.length HD.out; have h2 := HSL.out; simp at this; omega
      subst ht
      have HKs : Hid (okAll (evE es q f) ss = .ok vs) := by
        have := HK.out
        rw [← HD.out, List.append_nil]
        exact this
      obtain ⟨a, rfl⟩ : ∃ a, vs = [a] := by
        have := okAll_len HKs.out
        have h2 := HSL.out
        rw [h2, hK1] at this
        match vs, this with
        | [a], _ => exact ⟨a, rfl⟩
      have HC := HT a HKs.out
      clear HT
      obtain ⟨ga, capa, qa, ca, hua, hga, va0, va1, hva_5⟩ := hO_5.at (i := 0) (by simp)
      simp only [List.getElem_cons_zero, List.getElem_cons_succ, Nat.zero_mul, Nat.one_mul, Nat.zero_add, Nat.reduceAdd] at va0 va1 hva_5
      subst hua
      obtain ⟨x0, x1, x2, x3, x4, x5, x6⟩ := hQ_5.cells
      obtain ⟨r0, r1, f0, f1⟩ := hR_5.cells
      obtain ⟨n0, n1, n2, n3⟩ := hn_5.cells
      go_wp2_with fail
      go_region_with (first
        | (go_at_call 45
           refine (HC _ _ _ _ (hva_5.up (by repeat (first | exact Below.refl _ _ | apply zbA | apply zbD))) (hE_5.el.up (by repeat (first | exact Below.refl _ _ | apply zbA | apply zbD)))).mono ?_
           rintro _ w6 ⟨hG, hbb⟩
           obtain ⟨gq, gn, gc, gk, rfl⟩ := hG.shape
           have hbk : Below w5.heap.size w5 w6 := qbt (by repeat (first | exact Below.refl _ _ | apply zbA | apply zbD)) hbb
           have hb_6 := qbt hb_5 hbk
           have hR_6 := hR_5.up hbk
           obtain ⟨cc0, cc1, cf0, cf1⟩ := hR_6.cells))
      all_goals
        go_wp2
        exact bodyPost_ret (v := .agg #[.slice gq gn gc, .int .i64 gk]) (by simp [results, Tryz.results21, go_sem, (hR_6.told _ _).1, (hR_6.told _ _).2]) rfl (hR_6.ret (by omega) hb_6 (hG))
set_option maxHeartbeats 6000000 in
theorem worth_two (f : Nat) (r : List Nd) (hp : pastE (f + 1) (x :: m) = some r) (hK200 : (prt x).toNat ≤ 200) (ho1 : 1 ≤ x.op) (ho4 : ¬ x.op ≤ 4) (ho8 : x.op ≠ 8) (ho11 : x.op ≠ 11) (ho12 : x.op ≠ 12) (ho13 : x.op ≠ 13) (R : Except Int (List Nd)) (HRe : ∀ n, okAll (evE es q f) (ssOf f x m) = .error n → R = .error n) (hE0n : ∀ s ∈ ssOf f x m, ∀ n, evE es q f s = .error n → n ≠ 0) (IH : ∀ s ∈ ssOf f x m, ∀ w1, WArg es ps q pq cq e pe w1 → Calls Tryz.prog 21 #[.slice ps es.length cs, reqV q pq cq, .slice pe e.length ce, .int .i64 (pos e s : Int)] w1 fun en w' => GRet (evE es q f s) en w' ∧ Below w1.heap.size w1 w') (ho5 : x.op ≠ 5) (ho6 : x.op ≠ 6) (hK1 : (prt x).toNat = 2) (HT : ∀ a b, okAll (evE es q f) (ssOf f x m) = .ok [a, b] → ∀ w1 n q c m p d, VArg w1 a n q c → VArg w1 b m p d → EL w1 ps es → Calls Tryz.prog 46 #[.slice ps es.length cs, .int .i64 x.op, .agg #[.slice q n c, .int .i64 0], .agg #[.slice p m d, .int .i64 0]] w1 fun en w' => GRet R en w' ∧ Below w1.heap.size w1 w') :
    Calls Tryz.prog 21 #[.slice ps es.length cs, reqV q pq cq, .slice pe e.length ce, .int .i64 (k : Int)] w fun en w' => GRet (R) en w' ∧ Below w.heap.size w w' := by
  obtain ⟨bq, oq, hpq, hbq, hkl, e0, e1, e2, e3, xw⟩ := node_at hE0.nl hk
  have i1 : (k : Int) < (e.length : Int) := by omega
  have HPO := fun w1 (h1 : NL w1 pe e) => refPartsOf_any f e pe ce k x m r w1 h1 hl hk hp
  have hsl := ssOf_len (f := f) (x := x) (m := m)
  have HKl : Hid ((prt x).toNat ≤ 200) := hK200
  have e11 : (x.op == 11) = false := by simpa using ho11
  have e12 : (x.op == 12) = false := by simpa using ho12
  have e13 : (x.op == 13) = false := by simpa using ho13
  have e5 : (x.op == 5) = false := by simpa using ho5
  have e6 : (x.op == 6) = false := by simpa using ho6
  generalize (prt x).toNat = K at *
  generalize ssOf f x m = ss at *
  obtain ⟨xo, xn, xs, xt⟩ := x
  dsimp only [Nd.val] at e0 e1 e2 e3 ho1 ho4 ho8 e11 e12 e13 e5 e6 HT
  subst hpq
  obtain ⟨W, hW⟩ : ∃ W, W = ((w.alloc (.cells #[.string q.who.t, .string q.who.i, .string q.act.t, .string q.act.i, .string q.what.t, .string q.what.i, .slice pq q.cx.length cq] 27)).alloc (.cells #[.slice none 0 0, .int .i64 0] 30)).alloc (.cells #[.int .i64 xo, .int .i64 xn, .string xs, .string xt] 41) := ⟨_, rfl⟩
  have hb_0 : Below w.heap.size w W := by rw [hW]; exact (((Below.refl _ _).alloc (Nat.le_refl _) _).alloc (by simp) _).alloc (by simp; omega) _
  have hQ_0 : QR W w.heap.size q pq cq := by rw [hW]; exact ((QR.new w q pq cq).up ((Below.refl _ _).alloc (Nat.le_refl _) _)).up ((Below.refl _ _).alloc (Nat.le_refl _) _)
  have hR_0 : GR W (w.heap.size + 1) := by rw [hW]; exact (GR.new _ (by simp)).up ((Below.refl _ _).alloc (Nat.le_refl _) _)
  have hn_0 : NB W (w.heap.size + 1 + 1) xo xn xs xt := by rw [hW]; exact NB.new _ _ _ _ _ (by simp)
  have hWs : W.heap.size = w.heap.size + 1 + 1 + 1 := by rw [hW]; simp
  have hE_0 := hE0.up hb_0
  unfold reqV
  go_enter Tryz.func21, Tryz.ntmps21
  have HE0 : Hid (WArg es ps q pq cq e (some ⟨bq, oq, none⟩) w) := hE0
  have HREr : Hid (∀ n, okAll (evE es q f) ss = .error n → R = .error n) := HRe
  have HNZ : Hid (∀ s ∈ ss, ∀ n, evE es q f s = .error n → n ≠ 0) := hE0n
  unfold reqV at IH
  have HIH : Hid (∀ s ∈ ss, ∀ w1, WArg es ps q pq cq e (some ⟨bq, oq, none⟩) w1 → Calls Tryz.prog 21 #[.slice ps es.length cs, .agg #[.string q.who.t, .string q.who.i, .string q.act.t, .string q.act.i, .string q.what.t, .string q.what.i, .slice pq q.cx.length cq], .slice (some ⟨bq, oq, none⟩) e.length ce, .int .i64 (pos e s : Int)] w1 fun en w' => GRet (evE es q f s) en w' ∧ Below w1.heap.size w1 w') := IH
  have HSL : Hid (ss.length = K) := hsl
  clear hE0 hk hp ho11 ho12 ho13 ho5 ho6 HRe hE0n IH hsl
  obtain ⟨x0, x1, x2, x3, x4, x5, x6⟩ := hQ_0.cells
  obtain ⟨r0, r1, f0, f1⟩ := hR_0.cells
  obtain ⟨n0, n1, n2, n3⟩ := hn_0.cells
  go_wp2_with fail
  rw [← hW]
  refine (HPO _ hE_0.nl).mono ?_
  rintro _ w1 ⟨⟨q3, c3, rfl, hil_1⟩, hbb⟩
  clear x0 x1 x2 x3 x4 x5 x6 r0 r1 f0 f1 n0 n1 n2 n3
  have hb_1 := qbt hb_0 hbb
  have hQ_1 := hQ_0.up hbb
  have hR_1 := hR_0.up hbb
  have hE_1 := hE_0.up hbb
  have hn_1 := hn_0.up hbb
  clear hbb hb_0 hQ_0 hR_0 hE_0 hn_0
  obtain ⟨bp, op, rfl⟩ : ∃ b o, q3 = some ⟨b, o, none⟩ := by
    rcases hil_1 with h | ⟨b, o, h, _⟩
    · simp at h
    · exact ⟨b, o, h⟩
  obtain ⟨x0, x1, x2, x3, x4, x5, x6⟩ := hQ_1.cells
  obtain ⟨r0, r1, f0, f1⟩ := hR_1.cells
  obtain ⟨n0, n1, n2, n3⟩ := hn_1.cells
  have hKi : ((K : Int) + 1) - 1 = (K : Int) := by omega
  go_wp2_with fail
  clear e0 e1 e2 e3 HPO hW x0 x1 x2 x3 x4 x5 x6 r0 r1 f0 f1 n0 n1 n2 n3
  have hlow : w.heap.size + 1 + 1 < w1.heap.size := hn_1.lt
  have hbp : bp < w1.heap.size := by
    rcases hil_1 with h | ⟨b, o, h, hb, _⟩
    · simp at h
    · cases h; exact hb
  go_loopw [11, 12] (fun ov i wr => ∃ (j : Nat) (done todo vs : List (List Nd)), i = .int .i64 j ∧ j ≤ K ∧ Hid (done ++ todo = ss) ∧ done.length = j ∧ Hid (okAll (evE es q f) done = .ok vs) ∧ OG wr w1.heap.size ov vs ∧ QR wr w.heap.size q pq cq ∧ GR wr (w.heap.size + 1) ∧ NB wr (w.heap.size + 1 + 1) xo xn xs xt ∧ IL wr (some ⟨bp, op, none⟩) (ss.map (pos e) ++ [pos e r]) ∧ Below w.heap.size w wr ∧ w1.heap.size ≤ wr.heap.size) (fun _ i _ => K - (intOf i).toNat)
  case atStart => exact ⟨0, [], ss, [], rfl, Nat.zero_le _, rfl, rfl, rfl, OG.nil _ _, hQ_1, hR_1, hn_1, hil_1, hb_1, Nat.le_refl _⟩
  case round =>
    rename World => w5
    obtain ⟨j, done, todo, vs, rfl, hj, HD, hdl, HK, hO_5, hQ_5, hR_5, hn_5, hil_5, hb_5, hbase⟩ := hrel
    have hE_5 := HE0.out.up hb_5
    by_cases hlt : j < K
    · have i2 : (j : Int) < (K : Int) + 1 - 1 := by omega
      have i3 : (j : Int) < (K : Int) + 1 := by omega
      obtain ⟨s, todo, rfl⟩ : ∃ a l, todo = a :: l := by
        cases todo with
        | nil => exfalso; have := congrArg List.length HD.out; have h2 := HSL.out; simp at this; omega
        | cons a l => exact ⟨a, l, rfl⟩
      have hsm : s ∈ ss := by rw [← HD.out]; simp
      have HW0 := HIH.out s hsm
      obtain ⟨kj, hkj⟩ : ∃ n, n = pos e s := ⟨_, rfl⟩
      rw [← hkj] at HW0
      have hP_5 : P1 w5 bp (op + j) (.int .i64 (kj : Int)) := by
        rcases hil_5 with h | ⟨b, o, h, hb, h2⟩
        · simp at h
        · cases h
          refine ⟨hb, h2 j kj ?_⟩
          rw [hkj, ← HD.out, ← hdl]
          simp
      have hPlt := hP_5.lt
      have hKb : K ≤ 200 := HKl.out
      have HV0 : Hid (∀ n, evE es q f s = .error n → n ≠ 0) := HNZ.out s hsm
      cases hev : evE es q f s with
      | error nz =>
        have HRn : Hid (R = .error nz) := HREr.out nz (by rw [← HD.out]; exact okAll_stop HK.out hev)
        have hnz : nz ≠ 0 := HV0.out nz hev
        rw [hev] at HW0
        replace HW0 := fun w1 h1 => (HW0 w1 h1).mono (R' := fun en w' => en = .returned (.agg #[.slice none 0 0, .int .i64 nz]) ∧ Below w1.heap.size w1 w') fun en w' g => ⟨g.1, g.2⟩
        clear HV0 hev HNZ HIH HREr hsm hkj hj hlt
        obtain ⟨x0, x1, x2, x3, x4, x5, x6⟩ := hQ_5.cells
        obtain ⟨r0, r1, f0, f1⟩ := hR_5.cells
        obtain ⟨n0, n1, n2, n3⟩ := hn_5.cells
        obtain p0 := hP_5.cells
        go_wp2_with fail
        go_region_held (fun w' => w'.cell? ⟨w.heap.size, 0, none⟩ = some (.string q.who.t) ∧ w'.cell? ⟨w.heap.size, 1, none⟩ = some (.string q.who.i) ∧ w'.cell? ⟨w.heap.size, 2, none⟩ = some (.string q.act.t) ∧ w'.cell? ⟨w.heap.size, 3, none⟩ = some (.string q.act.i) ∧ w'.cell? ⟨w.heap.size, 4, none⟩ = some (.string q.what.t) ∧ w'.cell? ⟨w.heap.size, 5, none⟩ = some (.string q.what.i) ∧ w'.cell? ⟨w.heap.size, 6, none⟩ = some (.slice pq q.cx.length cq) ∧ w'.cell? ⟨bp, op + j, none⟩ = some (.int .i64 (kj : Int))) (first | exact QP1.cells (QR.bel hQ_6 (GR.bel (Nat.le_refl w5.heap.size) _ _) (by have := hR_5.lt; have := hPlt; have := hb_5.size; omega)) (P1.bel hP_6 (GR.bel (Nat.le_refl w5.heap.size) _ _) (by have := hR_5.lt; have := hPlt; have := hb_5.size; omega)) | exact QP1.cells (QR.bel hQ_6 ((Below.refl _ _).setCell (p := ⟨w5.heap.size, 0, none⟩) (Nat.le_refl _) _) (by have := hR_5.lt; have := hPlt; have := hb_5.size; omega)) (P1.bel hP_6 ((Below.refl _ _).setCell (p := ⟨w5.heap.size, 0, none⟩) (Nat.le_refl _) _) (by have := hR_5.lt; have := hPlt; have := hb_5.size; omega)) | exact QP1.cells (QR.up hQ_6 (by repeat (first | exact Below.refl _ _ | apply zbA | apply zbD))) (P1.up hP_6 (by repeat (first | exact Below.refl _ _ | apply zbA | apply zbD))) | exact QP1.cells (QR.up hQ_5 (by repeat (first | exact Below.refl _ _ | apply zbA | apply zbD))) (P1.up hP_5 (by repeat (first | exact Below.refl _ _ | apply zbA | apply zbD)))) (first
          | (go_at_call 21
             refine (HW0 _ (WArg.up hE_5 (by repeat (first | exact Below.refl _ _ | apply zbA | apply zbD)))).mono ?_
             rintro _ w6 ⟨rfl, hbb_6⟩
             have hbk_6 : Below w5.heap.size w5 w6 := qbt (by repeat (first | exact Below.refl _ _ | apply zbA | apply zbD)) hbb_6
             have hb_6 := qbt hb_5 hbk_6
             have hQ_6 := hQ_5.up hbk_6
             have hR_6 := hR_5.up hbk_6
             have hn_6 := hn_5.up hbk_6
             have hE_6 := hE_5.up hbk_6
             have hP_6 := hP_5.up hbk_6
             have hO_6 := hO_5.up hbk_6
             have hil_6 := hil_5.up hbk_6
             first | (have hC0 : GR w6 (w5.heap.size) := GR.up (GR.up (GR.new w5 rfl) (zbD (Below.refl _ _))) hbb_6; obtain ⟨cc0, cc1, cf0, cf1⟩ := hC0.cells) | skip))
        all_goals
          first
          | (obtain ⟨w7, hV⟩ : ∃ V, V = w6.alloc (.cells #[.slice none 0 0, .int .i64 nz] 30) := ⟨_, rfl⟩
             obtain ⟨Bgc, hBc⟩ : ∃ V, V = w6.heap.size := ⟨_, rfl⟩
             have hEd : Ended w6 w5.heap.size (.slice none 0 0) (.int .i64 nz) w7 Bgc := .inl ⟨hV, hBc⟩
             rw [← hV, ← hBc]
             clear hV hBc)
          | (obtain ⟨w7, hV⟩ : ∃ V, V = (w6.setCell ⟨w5.heap.size, 0, none⟩ (.slice none 0 0)).setCell ⟨w5.heap.size, 1, none⟩ (.int .i64 nz) := ⟨_, rfl⟩
             obtain ⟨Bgc, hBc⟩ : ∃ V, V = w5.heap.size := ⟨_, rfl⟩
             have hEd : Ended w6 w5.heap.size (.slice none 0 0) (.int .i64 nz) w7 Bgc := .inr ⟨hC0, hV, hBc⟩
             rw [← hV, ← hBc]
             clear hV hBc hC0 cc0 cc1 cf0 cf1)
          have hbV := hEd.below hbk_6 (Nat.le_refl _)
          have hb_7 := qbt hb_5 hbV
          have gc_7 := hEd.g2
          have hQ_7 := hQ_5.up hbV
          have hR_7 := hR_5.up hbV
          have hn_7 := hn_5.up hbV
          have hE_7 := hE_5.up hbV
          have hP_7 := hP_5.up hbV
          have hO_7 := hO_5.up hbV
          have hil_7 := hil_5.up hbV
          clear hEd
          obtain ⟨x0, x1, x2, x3, x4, x5, x6⟩ := hQ_7.cells
          obtain ⟨r0, r1, f0, f1⟩ := hR_7.cells
          obtain ⟨n0, n1, n2, n3⟩ := hn_7.cells
          obtain p0 := hP_7.cells
          obtain ⟨gca, gcb⟩ := gc_7.cells
          go_wp2
          rw [HRn.out]
          exact bodyPost_ret (v := .agg #[.slice none 0 0, .int .i64 nz]) (by simp [results, Tryz.results21, go_sem, (hR_7.told _ _).1, (hR_7.told _ _).2]) rfl (hR_7.ret (by omega) hb_7 rfl)
      | ok a0 =>
        have HK2 : Hid (okAll (evE es q f) (done ++ [s]) = .ok (vs ++ [a0])) := okAll_snoc HK.out hev
        rw [hev] at HW0
        replace HW0 := fun w1 h1 => (HW0 w1 h1).mono (R' := fun en w' => (∃ b off c, en = .returned (.agg #[.slice (some ⟨b, off, none⟩) a0.length c, .int .i64 0]) ∧ VArg w' a0 a0.length (some ⟨b, off, none⟩) c) ∧ Below w1.heap.size w1 w') fun en w' g => ⟨gret_ok g.1, g.2⟩
        clear HV0 hev HNZ HIH HREr hsm hkj
        obtain ⟨x0, x1, x2, x3, x4, x5, x6⟩ := hQ_5.cells
        obtain ⟨r0, r1, f0, f1⟩ := hR_5.cells
        obtain ⟨n0, n1, n2, n3⟩ := hn_5.cells
        obtain p0 := hP_5.cells
        go_wp2_with fail
        go_region_held (fun w' => w'.cell? ⟨w.heap.size, 0, none⟩ = some (.string q.who.t) ∧ w'.cell? ⟨w.heap.size, 1, none⟩ = some (.string q.who.i) ∧ w'.cell? ⟨w.heap.size, 2, none⟩ = some (.string q.act.t) ∧ w'.cell? ⟨w.heap.size, 3, none⟩ = some (.string q.act.i) ∧ w'.cell? ⟨w.heap.size, 4, none⟩ = some (.string q.what.t) ∧ w'.cell? ⟨w.heap.size, 5, none⟩ = some (.string q.what.i) ∧ w'.cell? ⟨w.heap.size, 6, none⟩ = some (.slice pq q.cx.length cq) ∧ w'.cell? ⟨bp, op + j, none⟩ = some (.int .i64 (kj : Int))) (first | exact QP1.cells (QR.bel hQ_6 (GR.bel (Nat.le_refl w5.heap.size) _ _) (by have := hR_5.lt; have := hPlt; have := hb_5.size; omega)) (P1.bel hP_6 (GR.bel (Nat.le_refl w5.heap.size) _ _) (by have := hR_5.lt; have := hPlt; have := hb_5.size; omega)) | exact QP1.cells (QR.bel hQ_6 ((Below.refl _ _).setCell (p := ⟨w5.heap.size, 0, none⟩) (Nat.le_refl _) _) (by have := hR_5.lt; have := hPlt; have := hb_5.size; omega)) (P1.bel hP_6 ((Below.refl _ _).setCell (p := ⟨w5.heap.size, 0, none⟩) (Nat.le_refl _) _) (by have := hR_5.lt; have := hPlt; have := hb_5.size; omega)) | exact QP1.cells (QR.up hQ_6 (by repeat (first | exact Below.refl _ _ | apply zbA | apply zbD))) (P1.up hP_6 (by repeat (first | exact Below.refl _ _ | apply zbA | apply zbD))) | exact QP1.cells (QR.up hQ_5 (by repeat (first | exact Below.refl _ _ | apply zbA | apply zbD))) (P1.up hP_5 (by repeat (first | exact Below.refl _ _ | apply zbA | apply zbD)))) (first
          | (go_at_call 21
             refine (HW0 _ (WArg.up hE_5 (by repeat (first | exact Below.refl _ _ | apply zbA | apply zbD)))).mono ?_
             rintro _ w6 ⟨⟨bhv, ohv, chv, rfl, hv_6⟩, hbb_6⟩
             have hbk_6 : Below w5.heap.size w5 w6 := qbt (by repeat (first | exact Below.refl _ _ | apply zbA | apply zbD)) hbb_6
             have hb_6 := qbt hb_5 hbk_6
             have hQ_6 := hQ_5.up hbk_6
             have hR_6 := hR_5.up hbk_6
             have hn_6 := hn_5.up hbk_6
             have hE_6 := hE_5.up hbk_6
             have hP_6 := hP_5.up hbk_6
             have hO_6 := hO_5.up hbk_6
             have hil_6 := hil_5.up hbk_6
             first | (have hC0 : GR w6 (w5.heap.size) := GR.up (GR.up (GR.new w5 rfl) (zbD (Below.refl _ _))) hbb_6; obtain ⟨cc0, cc1, cf0, cf1⟩ := hC0.cells) | skip))
        all_goals
          first
          | (obtain ⟨w7, hV⟩ : ∃ V, V = w6.alloc (.cells #[.slice (some ⟨bhv, ohv, none⟩) a0.length chv, .int .i64 0] 30) := ⟨_, rfl⟩
             obtain ⟨Bgc, hBc⟩ : ∃ V, V = w6.heap.size := ⟨_, rfl⟩
             have hEd : Ended w6 w5.heap.size (.slice (some ⟨bhv, ohv, none⟩) a0.length chv) (.int .i64 0) w7 Bgc := .inl ⟨hV, hBc⟩
             rw [← hV, ← hBc]
             clear hV hBc)
          | (obtain ⟨w7, hV⟩ : ∃ V, V = (w6.setCell ⟨w5.heap.size, 0, none⟩ (.slice (some ⟨bhv, ohv, none⟩) a0.length chv)).setCell ⟨w5.heap.size, 1, none⟩ (.int .i64 0) := ⟨_, rfl⟩
             obtain ⟨Bgc, hBc⟩ : ∃ V, V = w5.heap.size := ⟨_, rfl⟩
             have hEd : Ended w6 w5.heap.size (.slice (some ⟨bhv, ohv, none⟩) a0.length chv) (.int .i64 0) w7 Bgc := .inr ⟨hC0, hV, hBc⟩
             rw [← hV, ← hBc]
             clear hV hBc hC0 cc0 cc1 cf0 cf1)
          have hbV := hEd.below hbk_6 (Nat.le_refl _)
          have hb_7 := qbt hb_5 hbV
          have gc_7 := hEd.g2
          have hQ_7 := hQ_5.up hbV
          have hR_7 := hR_5.up hbV
          have hn_7 := hn_5.up hbV
          have hE_7 := hE_5.up hbV
          have hP_7 := hP_5.up hbV
          have hO_7 := hO_5.up hbV
          have hil_7 := hil_5.up hbV
          have hv_7 := hEd.val hv_6
          clear hEd
          have hvl : vs.length + 1 ≤ 1000000 := by
            have h1 := okAll_len HK.out
            have h2 := HKl.out
            omega
          have hbs : w1.heap.size ≤ w7.heap.size := Nat.le_trans hbase hbV.size
          obtain ⟨x0, x1, x2, x3, x4, x5, x6⟩ := hQ_7.cells
          obtain ⟨r0, r1, f0, f1⟩ := hR_7.cells
          obtain ⟨n0, n1, n2, n3⟩ := hn_7.cells
          obtain p0 := hP_7.cells
          obtain ⟨gca, gcb⟩ := gc_7.cells
          go_wp2_with (first | (at_builtin; refine append_got w7 rfl (.tmp 81) (.tmp 83) rfl w1.heap.size u11 vs rfl hO_7 a0 _ _ _ hv_7 rfl hvl hbs ?_; intro v2 w9 hO_9 hb9))
          go_roundw
          case rel => exact ⟨j + 1, done ++ [s], todo, vs ++ [a0], by go_num, by omega, by rw [← HD.out]; show _ = _; simp, by simp [hdl], HK2, hO_9, hQ_7.bel hb9 (by omega), hR_7.belk hb9 (by omega), hn_7.bel hb9 (by omega), IL.bel hil_7 hb9 (hbp), hb_7.trans (hb9.mono (by omega)), Nat.le_trans hbs hb9.size⟩
          case measure => simp [intOf]; omega
    · have i2 : ¬ (j : Int) < (K : Int) + 1 - 1 := by omega
      obtain rfl : j = K := by omega
      have ht : todo = [] := by
        cases todo with
        | nil => rfl
        | cons a l => exfalso; have := congrArg List.length HD.out; have h2 := HSL.out; simp at this; omega
      subst ht
      have HKs : Hid (okAll (evE es q f) ss = .ok vs) := by
        have := HK.out
        rw [← HD.out, List.append_nil]
        exact this
      obtain ⟨a, b, rfl⟩ : ∃ a b, vs = [a, b] := by
        have := okAll_len HKs.out
        have h2 := HSL.out
        rw [h2, hK1] at this
        match vs, this with
        | [a, b], _ => exact ⟨a, b, rfl⟩
      have HC := HT a b HKs.out
      clear HT
      obtain ⟨ga, capa, qa, ca, hua, hga, va0, va1, hva_5⟩ := hO_5.at (i := 0) (by simp)
      simp only [List.getElem_cons_zero, List.getElem_cons_succ, Nat.zero_mul, Nat.one_mul, Nat.zero_add, Nat.reduceAdd] at va0 va1 hva_5
      obtain ⟨gb, capb, qb, cb, hub, hgb, vb0, vb1, hvb_5⟩ := hO_5.at (i := 1) (by simp)
      simp only [List.getElem_cons_zero, List.getElem_cons_succ, Nat.zero_mul, Nat.one_mul, Nat.zero_add, Nat.reduceAdd] at vb0 vb1 hvb_5
      subst hua
      injection hub with h1 h2 h3
      injection h1 with h1
      injection h1 with h1 _ _
      subst h1 h3
      obtain ⟨x0, x1, x2, x3, x4, x5, x6⟩ := hQ_5.cells
      obtain ⟨r0, r1, f0, f1⟩ := hR_5.cells
      obtain ⟨n0, n1, n2, n3⟩ := hn_5.cells
      go_wp2_with fail
      go_region_with (first
        | (go_at_call 46
           refine (HC _ _ _ _ _ _ _ (hva_5.up (by repeat (first | exact Below.refl _ _ | apply zbA | apply zbD))) (hvb_5.up (by repeat (first | exact Below.refl _ _ | apply zbA | apply zbD))) (hE_5.el.up (by repeat (first | exact Below.refl _ _ | apply zbA | apply zbD)))).mono ?_
           rintro _ w6 ⟨hG, hbb⟩
           obtain ⟨gq, gn, gc, gk, rfl⟩ := hG.shape
           have hbk : Below w5.heap.size w5 w6 := qbt (by repeat (first | exact Below.refl _ _ | apply zbA | apply zbD)) hbb
           have hb_6 := qbt hb_5 hbk
           have hR_6 := hR_5.up hbk
           obtain ⟨cc0, cc1, cf0, cf1⟩ := hR_6.cells))
      all_goals
        go_wp2
        exact bodyPost_ret (v := .agg #[.slice gq gn gc, .int .i64 gk]) (by simp [results, Tryz.results21, go_sem, (hR_6.told _ _).1, (hR_6.told _ _).2]) rfl (hR_6.ret (by omega) hb_6 (hG))
end
end Go.Proofs.YtnilaghbbhmkgaaGreatDoor
namespace Go.Proofs.YtnilaghbbhmkgaaGreatDoor
open Go.RowKit
set_option linter.unusedVariables false
set_option linter.unusedSectionVars false
set_option maxRecDepth 100000

/-- The parts stand in e. -/
theorem ss_in {f k : Nat} {e : List Nd} {x : Nd} {m r : List Nd} (hk : e.drop k = x :: m) (hp : pastE (f + 1) (x :: m) = some r) : InE f e k (ssOf f x m) ∧ (prt x).toNat ≤ e.length := by
  have hm1 : e.drop (k + 1) = m := by rw [← List.drop_drop, hk]; rfl
  have hlen := congrArg List.length hk
  simp at hlen
  have h0 : e.drop (e.length - m.length) = m := by rw [show e.length - m.length = k + 1 by omega]; exact hm1
  obtain ⟨f', y, m', ef, ey, h7, hx, hr⟩ := pastE_cons hp
  obtain rfl : f = f' := by omega
  cases ey
  rcases hr with ⟨h6, h⟩ | ⟨h6, h⟩
  · have e5 : (prt x).toNat = x.n.toNat := by unfold prt; rw [if_pos (Or.inr h6)]
    have := fields_le _ _ _ _ h
    refine ⟨?_, by omega⟩
    unfold ssOf
    rw [if_pos h6, e5]
    exact sfxR_in _ _ m r h0 (by omega) (by omega) h
  · have := parts_le _ _ _ h
    refine ⟨?_, by omega⟩
    unfold ssOf
    rw [if_neg h6]
    exact sfx_in _ m r h0 (by omega) (by omega) h
theorem ex_range {x : Nd} (h7 : x.op ≠ 7) (hx : exOk x = true) : 1 ≤ x.op ∧ x.op ≤ 27 := by
  unfold exOk at hx
  split at hx
  · omega
  · split at hx
    · cases hx
    · rename_i h
      unfold prt at h
      split at h
      · omega
      · split at h
        · omega
        · split at h
          · omega
          · split at h
            · omega
            · split at h
              · omega
              · exact absurd (by decide) h
theorem prt_one {x : Nd} (h : x.op = 9 ∨ x.op = 10 ∨ 21 ≤ x.op ∧ x.op ≤ 24) : (prt x).toNat = 1 := by
  unfold prt
  rw [if_neg (by omega), if_neg (by omega), if_pos (by omega)]
  rfl
theorem prt_two {x : Nd} (h : x.op ≠ 13) (h2 : 11 ≤ x.op ∧ x.op ≤ 20 ∨ 25 ≤ x.op ∧ x.op ≤ 27) : (prt x).toNat = 2 := by
  unfold prt
  rw [if_neg (by omega), if_neg (by omega), if_neg (by omega), if_neg h, if_pos h2]
  rfl
theorem prt_three {x : Nd} (h : x.op = 13) : (prt x).toNat = 3 := by
  unfold prt
  rw [if_neg (by omega), if_neg (by omega), if_neg (by omega), if_pos h]
  rfl
theorem P3.of {w : World} {bp op : Nat} {l : List Nat} {a b c : Nat} {t : List Nat} (h : IL w (some ⟨bp, op, none⟩) l) (hl : l = a :: b :: c :: t) : P3 w bp op a b c := by
  subst hl
  rcases h with h | ⟨b', o', h1, h2, h3⟩
  · cases h
  · cases h1
    exact ⟨⟨h3 0 a rfl, h3 1 b rfl, h3 2 c rfl⟩, h2⟩
section
variable (es : List En) (ps : Option Addr) (cs : Nat) (q : Rq) (pq : Option Addr) (cq : Nat) (e : List Nd) (pe : Option Addr) (ce : Nat)
/-- What Worth does. -/
def WkOk (f : Nat) : Prop := ∀ (w : World) (k : Nat) (r : List Nd), WArg es ps q pq cq e pe w → pastE f (e.drop k) = some r →
  Calls Tryz.prog 21 #[.slice ps es.length cs, reqV q pq cq, .slice pe e.length ce, .int .i64 (k : Int)] w fun en w' => GRet (evE es q f (e.drop k)) en w' ∧ Below w.heap.size w w'
variable {es ps cs q pq cq e pe ce}
theorem wk_at {f : Nat} (hV : WkOk es ps cs q pq cq e pe ce f) {s : List Nd} {k : Nat} {ss : List (List Nd)} (hi : InE f e k ss) (hs : s ∈ ss) (w1 : World) (hw : WArg es ps q pq cq e pe w1) :
    Calls Tryz.prog 21 #[.slice ps es.length cs, reqV q pq cq, .slice pe e.length ce, .int .i64 (pos e s : Int)] w1 fun en w' => GRet (evE es q f s) en w' ∧ Below w1.heap.size w1 w' := by
  obtain ⟨h1, _, _, r, h2⟩ := hi s hs
  have := hV w1 (pos e s) r hw (by unfold pos; rw [h1]; exact h2)
  unfold pos at this ⊢
  rw [h1] at this
  exact this
variable (ho : EnvOk es q) (hN : N64 e) (hl : e.length ≤ 200) {f : Nat} (hV : WkOk es ps cs q pq cq e pe ce f) (w : World) (hE0 : WArg es ps q pq cq e pe w) (k : Nat) (x : Nd) (m r : List Nd) (hk : e.drop k = x :: m) (hp : pastE (f + 1) (x :: m) = some r)
include ho hN hl hV hE0 hk hp
theorem wk_lazy (h : x.op = 11 ∨ x.op = 12 ∨ x.op = 13) :
    Calls Tryz.prog 21 #[.slice ps es.length cs, reqV q pq cq, .slice pe e.length ce, .int .i64 (k : Int)] w fun en w' => GRet (evE es q (f + 1) (x :: m)) en w' ∧ Below w.heap.size w w' := by
  obtain ⟨hi, hK⟩ := ss_in hk hp
  have hr0 : ∀ s ∈ ssOf f x m, (∀ n, evE es q f s = .error n → n ≠ 0) ∧ ∀ a, evE es q f s = .ok a → IsV a := by
    intro s hs
    obtain ⟨h1, _, _, r, h2⟩ := hi s hs
    exact ⟨fun n hn => ev_err es q f s r n h2 hn, fun a ha => ev_is ho f s r a h2 (by rw [← h1]; exact hN.drop _) ha⟩
  rcases h with h | h | h
  · have e1 : evE es q (f + 1) (x :: m) = lazyE false (evE es q f m) (evE es q f (bh f m)) := by
      simp only [evE]
      rw [if_neg (by omega), if_neg (by omega), if_neg (by omega), if_neg (by omega), if_pos h]
    have e2 : ssOf f x m = [m, bh f m] := by unfold ssOf; rw [if_neg (by omega), prt_two (by omega) (by omega)]; rfl
    rw [e2] at hi hr0
    rw [e1]
    refine worth_lazy_11 es ps cs q pq cq e pe ce k x m w hE0 hl hk f r hp h _ (fun w1 bp op cp hw hil => ?_)
    rw [e2] at hil
    have hP := P3.of hil rfl
    exact refLazy_and es ps cs q pq cq e pe ce bp op 3 cp _ _ _ w1 hw hP (by omega) _ _ (hr0 m (by simp)).1 (hr0 (bh f m) (by simp)).1 (hr0 m (by simp)).2 (hr0 (bh f m) (by simp)).2 (fun w2 h2 => wk_at hV hi (by simp) w2 h2) (fun w2 h2 => wk_at hV hi (by simp) w2 h2)
  · have e1 : evE es q (f + 1) (x :: m) = lazyE true (evE es q f m) (evE es q f (bh f m)) := by
      simp only [evE]
      rw [if_neg (by omega), if_neg (by omega), if_neg (by omega), if_neg (by omega), if_neg (by omega), if_pos h]
    have e2 : ssOf f x m = [m, bh f m] := by unfold ssOf; rw [if_neg (by omega), prt_two (by omega) (by omega)]; rfl
    rw [e2] at hi hr0
    rw [e1]
    refine worth_lazy_12 es ps cs q pq cq e pe ce k x m w hE0 hl hk f r hp h _ (fun w1 bp op cp hw hil => ?_)
    rw [e2] at hil
    have hP := P3.of hil rfl
    exact refLazy_or es ps cs q pq cq e pe ce bp op 3 cp _ _ _ w1 hw hP (by omega) _ _ (hr0 m (by simp)).1 (hr0 (bh f m) (by simp)).1 (hr0 m (by simp)).2 (hr0 (bh f m) (by simp)).2 (fun w2 h2 => wk_at hV hi (by simp) w2 h2) (fun w2 h2 => wk_at hV hi (by simp) w2 h2)
  · have e1 : evE es q (f + 1) (x :: m) = ifE (evE es q f m) (evE es q f (bh f m)) (evE es q f (bh f (bh f m))) := by
      simp only [evE]
      rw [if_neg (by omega), if_neg (by omega), if_neg (by omega), if_neg (by omega), if_neg (by omega), if_neg (by omega), if_pos h]
    have e2 : ssOf f x m = [m, bh f m, bh f (bh f m)] := by unfold ssOf; rw [if_neg (by omega), prt_three h]; rfl
    rw [e2] at hi hr0
    rw [e1]
    refine worth_lazy_13 es ps cs q pq cq e pe ce k x m w hE0 hl hk f r hp h _ (fun w1 bp op cp hw hil => ?_)
    rw [e2] at hil
    have hP := P3.of hil rfl
    exact refLazy_if es ps cs q pq cq e pe ce bp op 4 cp _ _ _ w1 hw hP (by omega) _ _ _ (hr0 m (by simp)).1 (hr0 m (by simp)).2 (fun w2 h2 => wk_at hV hi (by simp) w2 h2) (fun w2 h2 => wk_at hV hi (by simp) w2 h2) (fun w2 h2 => wk_at hV hi (by simp) w2 h2)
theorem wk_one (h : x.op = 9 ∨ x.op = 10 ∨ 21 ≤ x.op ∧ x.op ≤ 24) :
    Calls Tryz.prog 21 #[.slice ps es.length cs, reqV q pq cq, .slice pe e.length ce, .int .i64 (k : Int)] w fun en w' => GRet (evE es q (f + 1) (x :: m)) en w' ∧ Below w.heap.size w w' := by
  obtain ⟨hi, hK⟩ := ss_in hk hp
  obtain ⟨f', y, m', ef, ey, h7, hx, _⟩ := pastE_cons hp
  cases ey
  have e1 : evE es q (f + 1) (x :: m) = bindE (evE es q f m) (oneE es x) := by
    simp only [evE]
    rw [if_neg (by omega), if_neg (by omega), if_neg (by omega), if_neg (by omega), if_neg (by omega), if_neg (by omega), if_neg (by omega), if_pos h]
  have e2 : ssOf f x m = [m] := by unfold ssOf; rw [if_neg (by omega), prt_one h]; rfl
  refine worth_one es ps cs q pq cq e pe ce k x m w hE0 hl hk f r hp (by omega) (by omega) (by omega) (by omega) (by omega) (by omega) (by omega) _ (fun n hn => ?_) (fun s hs n hn => ?_) (fun s hs w1 h1 => wk_at hV hi hs w1 h1) (by omega) (by omega) (prt_one h) (fun a ha w1 n q' c hv hel => ?_)
  · rw [e2] at hn
    rw [e1]
    simp only [okAll] at hn
    cases e3 : evE es q f m with
    | error n' => rw [e3] at hn; simp only [bindE, Except.error.injEq] at hn ⊢; exact hn
    | ok a => rw [e3] at hn; cases hn
  · obtain ⟨_, _, _, r', h2⟩ := hi s hs
    exact ev_err es q f s r' n h2 hn
  · rw [e2] at ha
    simp only [okAll] at ha
    cases e3 : evE es q f m with
    | error n' => rw [e3] at ha; cases ha
    | ok b =>
      rw [e3] at ha
      simp only [bindE, Except.ok.injEq, List.cons.injEq, and_true] at ha
      subst ha
      rw [e1, e3]
      apply refOne_any (ho := ho) (hop := by omega) (hx := hx) (h := hv) (hl := hel)
theorem wk_two (h : 14 ≤ x.op ∧ x.op ≤ 20 ∨ 25 ≤ x.op ∧ x.op ≤ 27) :
    Calls Tryz.prog 21 #[.slice ps es.length cs, reqV q pq cq, .slice pe e.length ce, .int .i64 (k : Int)] w fun en w' => GRet (evE es q (f + 1) (x :: m)) en w' ∧ Below w.heap.size w w' := by
  obtain ⟨hi, hK⟩ := ss_in hk hp
  have e1 : evE es q (f + 1) (x :: m) = bindE (evE es q f m) fun a => bindE (evE es q f (bh f m)) fun b => twoE es x.op a b := by
    simp only [evE]
    rw [if_neg (by omega), if_neg (by omega), if_neg (by omega), if_neg (by omega), if_neg (by omega), if_neg (by omega), if_neg (by omega), if_neg (by omega)]
  have e2 : ssOf f x m = [m, bh f m] := by unfold ssOf; rw [if_neg (by omega), prt_two (by omega) (by omega)]; rfl
  refine worth_two es ps cs q pq cq e pe ce k x m w hE0 hl hk f r hp (by omega) (by omega) (by omega) (by omega) (by omega) (by omega) (by omega) _ (fun n hn => ?_) (fun s hs n hn => ?_) (fun s hs w1 h1 => wk_at hV hi hs w1 h1) (by omega) (by omega) (prt_two (by omega) (by omega)) (fun a b ha w1 n q' c m' p d hv hv2 hel => ?_)
  · rw [e2] at hn
    rw [e1]
    simp only [okAll] at hn
    cases e3 : evE es q f m with
    | error n' => rw [e3] at hn; simp only [bindE, Except.error.injEq] at hn ⊢; exact hn
    | ok a =>
      rw [e3] at hn
      cases e4 : evE es q f (bh f m) with
      | error n' => rw [e4] at hn; simpa [bindE] using hn
      | ok b => rw [e4] at hn; simp [bindE] at hn
  · obtain ⟨_, _, _, r', h2⟩ := hi s hs
    exact ev_err es q f s r' n h2 hn
  · rw [e2] at ha
    simp only [okAll] at ha
    cases e3 : evE es q f m with
    | error n' => rw [e3] at ha; cases ha
    | ok a' =>
      rw [e3] at ha
      cases e4 : evE es q f (bh f m) with
      | error n' => rw [e4] at ha; simp [bindE] at ha
      | ok b' =>
        rw [e4] at ha
        simp only [bindE, Except.ok.injEq, List.cons.injEq, and_true] at ha
        obtain ⟨rfl, rfl⟩ := ha
        rw [e1, e3, e4]
        apply refTwo_any (ho := ho) (hop := by omega) (h := hv) (g := hv2) (hl := hel)
/-- All but sets and records. -/
theorem wk_step (h56 : x.op = 5 ∨ x.op = 6 → Calls Tryz.prog 21 #[.slice ps es.length cs, reqV q pq cq, .slice pe e.length ce, .int .i64 (k : Int)] w fun en w' => GRet (evE es q (f + 1) (x :: m)) en w' ∧ Below w.heap.size w w') :
    Calls Tryz.prog 21 #[.slice ps es.length cs, reqV q pq cq, .slice pe e.length ce, .int .i64 (k : Int)] w fun en w' => GRet (evE es q (f + 1) (x :: m)) en w' ∧ Below w.heap.size w w' := by
  obtain ⟨f', y, m', ef, ey, h7, hx, _⟩ := pastE_cons hp
  cases ey
  obtain ⟨hx1, hx2⟩ := ex_range h7 hx
  by_cases h4 : x.op ≤ 4
  · have e1 : evE es q (f + 1) (x :: m) = .ok [x] := by simp only [evE]; rw [if_pos ⟨hx1, h4⟩]
    have hi : IsV [x] := ev_is ho (f + 1) (x :: m) r [x] hp (by rw [← hk]; exact hN.drop _) e1
    rw [e1]
    exact worth_atom es ps cs q pq cq e pe ce k x m w hE0 hl hk hx1 h4 hi
  · by_cases c5 : x.op = 5 ∨ x.op = 6
    · exact h56 c5
    · by_cases c8 : x.op = 8
      · have e1 : evE es q (f + 1) (x :: m) = varE q x.s := by
          simp only [evE]
          rw [if_neg (by omega), if_neg (by omega), if_neg (by omega), if_pos c8]
        rw [e1]
        exact worth_var es ps cs q pq cq e pe ce k x m w hE0 hl hk c8 ho
      · by_cases c11 : x.op = 11 ∨ x.op = 12 ∨ x.op = 13
        · exact wk_lazy ho hN hl hV w hE0 k x m r hk hp c11
        · by_cases c9 : x.op = 9 ∨ x.op = 10 ∨ 21 ≤ x.op ∧ x.op ≤ 24
          · exact wk_one ho hN hl hV w hE0 k x m r hk hp c9
          · exact wk_two ho hN hl hV w hE0 k x m r hk hp (by omega)
end
end Go.Proofs.YtnilaghbbhmkgaaGreatDoor
