/- Package eval: value at operators with one part, by a walk of its own text (written by a script of our own). Package eval: value at operators with one part, by a walk of its own text (written by a script of our own). -/
import Derived.Test.YtnilaghbbhmkgaaGreatDoorF43
namespace Go.Proofs.YtnilaghbbhmkgaaGreatDoor
open Go.RowKit
set_option linter.unusedVariables false
set_option linter.unusedSimpArgs false
set_option linter.unusedSectionVars false
set_option maxRecDepth 100000

section
variable {E : EvEnv} {B f : Nat} (ho : E.Ok) (hf : f ≤ E.e.length + 1) (hV : ValOk E B f) (w : World) (k : Nat) (x : Nd) (m r s t : List Nd)
include ho hf hV
set_option maxHeartbeats 2000000 in
theorem value_one9 (hs : AS E w B k) (hv : E.e.drop k = x :: m) (hx : exOk x = true) (h9 : x.op = 9) (p1 : pastE f m = some r) :
    Calls Tryz.prog 51 #[.pointer (some ⟨B, 0, none⟩)] w (VE E B (E.e.length - r.length) w (bindE (evE E.es E.q f m) (oneE E.es x))) := by
  have hk : k < E.e.length := by
    have := congrArg List.length hv
    simp only [List.length_drop, List.length_cons] at this
    omega
  have hxk : E.e[k] = x := by
    have := congrArg List.head? hv
    rw [List.head?_drop, List.head?_cons, List.getElem?_eq_getElem hk] at this
    exact Option.some.inj this
  have hm1 : E.e.drop (k + 1) = m := by
    have := congrArg List.tail hv
    rwa [List.tail_drop, List.tail_cons] at this
  have c8 := hs.c8
  have c9 := hs.c9
  obtain ⟨bq, oq, hpq, hbq, x0, x1, x2, x3, xw⟩ := (hs.ne ho).at hk
  rw [hxk] at x0 x1 x2 x3 xw
  rw [hpq] at c8
  have i2 : (k : Int) < (E.e.length : Int) := by omega
  have i3 : (k : Int) ≤ 200 := by have := ho.len; omega
  have hlt := hs.lt
  have hB2 : ¬ B = w.heap.size := by omega
  have hB3 : ¬ w.heap.size = B := by omega
  have hw9 : IntKind.i64.wrap ((k : Int) + 1) = (k : Int) + 1 := by rw [IntKind.wrap_i64]; omega
  have HO := fun w1 q1 c1 v (h1 : AS E w1 B (E.e.length - r.length)) (hv1 : VArg w1 v v.length q1 c1) => ofOne_any w1 B _ v v.length q1 c1 x (by omega) hx ho h1 hv1
  have H1 := fun w1 (h1 : AS E w1 B (k + 1)) => val_at hV w1 (k + 1) m r _ _ h1 hm1 p1 rfl rfl
  unfold nodeV at HO
  obtain ⟨op, nn, ss, tt⟩ := x
  dsimp only at *
  subst h9
  cases hA : evE E.es E.q f m with
  | error n =>
    rw [hA] at H1
    have HE : Hid (bindE (.error n) (oneE E.es ⟨9, nn, ss, tt⟩) = .error n) := rfl
    rw [HE.out]
    clear HO HE
    have hbV : Below w.heap.size w (w.alloc (.cells #[.int .i64 9, .int .i64 nn, .string ss, .string tt] 41)).drew := ((Below.refl _ _).alloc (Nat.le_refl _) _).drew
    have hsz : w.heap.size < (w.alloc (.cells #[.int .i64 9, .int .i64 nn, .string ss, .string tt] 41)).drew.heap.size := by show w.heap.size < (w.alloc (.cells #[.int .i64 9, .int .i64 nn, .string ss, .string tt] 41)).heap.size; simp
    have m0 : (w.alloc (.cells #[.int .i64 9, .int .i64 nn, .string ss, .string tt] 41)).drew.cell? ⟨w.heap.size, 0, none⟩ = some (.int .i64 9) := by show (w.alloc (.cells #[.int .i64 9, .int .i64 nn, .string ss, .string tt] 41)).cell? _ = _; simp
    have m1 : (w.alloc (.cells #[.int .i64 9, .int .i64 nn, .string ss, .string tt] 41)).drew.cell? ⟨w.heap.size, 1, none⟩ = some (.int .i64 nn) := by show (w.alloc (.cells #[.int .i64 9, .int .i64 nn, .string ss, .string tt] 41)).cell? _ = _; simp
    have m2 : (w.alloc (.cells #[.int .i64 9, .int .i64 nn, .string ss, .string tt] 41)).drew.cell? ⟨w.heap.size, 2, none⟩ = some (.string ss) := by show (w.alloc (.cells #[.int .i64 9, .int .i64 nn, .string ss, .string tt] 41)).cell? _ = _; simp
    have m3 : (w.alloc (.cells #[.int .i64 9, .int .i64 nn, .string ss, .string tt] 41)).drew.cell? ⟨w.heap.size, 3, none⟩ = some (.string tt) := by show (w.alloc (.cells #[.int .i64 9, .int .i64 nn, .string ss, .string tt] 41)).cell? _ = _; simp
    go_enter Tryz.func51, Tryz.ntmps51
    go_wp2
    go_region
    all_goals
      generalize (w.alloc (.cells #[.int .i64 9, .int .i64 nn, .string ss, .string tt] 41)).drew = V at *
      have hsV := hs.up hbV
      have d9 := hsV.c9
      have f9 := hsV.fz 9
      have hs2 := hsV.setAt (j := k + 1) (by omega)
      have hb2 : BX B w (V.setCell ⟨B, 9, none⟩ (.int .i64 ((k + 1 : Nat) : Int))) := (BX.of_below hbV).set 9 _
      have e9 : ((k + 1 : Nat) : Int) = (k : Int) + 1 := rfl
      rw [e9] at hs2 hb2
      have n0 : (V.setCell ⟨B, 9, none⟩ (.int .i64 ((k : Int) + 1))).cell? ⟨w.heap.size, 0, none⟩ = some (.int .i64 9) := (World.cell?_setCell_other _ _ _ _ (fun e => hB2 (congrArg Addr.block e))).trans m0
      have n1 : (V.setCell ⟨B, 9, none⟩ (.int .i64 ((k : Int) + 1))).cell? ⟨w.heap.size, 1, none⟩ = some (.int .i64 nn) := (World.cell?_setCell_other _ _ _ _ (fun e => hB2 (congrArg Addr.block e))).trans m1
      have n2 : (V.setCell ⟨B, 9, none⟩ (.int .i64 ((k : Int) + 1))).cell? ⟨w.heap.size, 2, none⟩ = some (.string ss) := (World.cell?_setCell_other _ _ _ _ (fun e => hB2 (congrArg Addr.block e))).trans m2
      have n3 : (V.setCell ⟨B, 9, none⟩ (.int .i64 ((k : Int) + 1))).cell? ⟨w.heap.size, 3, none⟩ = some (.string tt) := (World.cell?_setCell_other _ _ _ _ (fun e => hB2 (congrArg Addr.block e))).trans m3
      have hszU : w.heap.size < (V.setCell ⟨B, 9, none⟩ (.int .i64 ((k : Int) + 1))).heap.size := by rw [setc_size]; exact hsz
      go_wp2_with fail
      generalize V.setCell ⟨B, 9, none⟩ (.int .i64 ((k : Int) + 1)) = U at *
      have hbdU : Below U.heap.size U U.drew := (Below.refl _ _).drew
      have hsU := hs2.up hbdU
      have hbU := hb2.up hbdU
      refine wp_mono (Q := fun e a w' => e = .panic (thrownE n) ∧ a.defers = [] ∧ BX B w w') ?_ ?_
      rotate_left
      · rintro _ a w5 ⟨rfl, hd, hb5⟩
        go_wp2
        exact ⟨hd, rfl, hb5⟩
      refine wp_region_any (by kernel_rfl) ?_
      refine wpAny_take (i := 0) (v := ?_) rfl (by kernel_rfl) (by kernel_rfl) (by kernel_rfl) (fun _ _ _ h => h) (Or.inl ⟨by rfl, ?_⟩) ?_
      rotate_left
      · intro w; go_simp; with_reducible rfl
      refine wpAny_take (i := 2) (v := ?_) rfl (by kernel_rfl) (by kernel_rfl) (by kernel_rfl) (fun _ _ _ h => h) (Or.inl ⟨by rfl, ?_⟩) ?_
      rotate_left
      · intro w; go_simp; with_reducible rfl
      refine wpAny_ready (rs := [1, 3]) (by kernel_rfl) (by simp) ?_
      refine AllReady.cons rfl (fun K hK => ?_) ?_
      · have y0 : U.drew.cell? ⟨w.heap.size, 0, none⟩ = some (.int .i64 9) := n0
        have y1 : U.drew.cell? ⟨w.heap.size, 1, none⟩ = some (.int .i64 nn) := n1
        have y2 : U.drew.cell? ⟨w.heap.size, 2, none⟩ = some (.string ss) := n2
        have y3 : U.drew.cell? ⟨w.heap.size, 3, none⟩ = some (.string tt) := n3
        go_simp
        refine hK _ _ ?_
        clear hK K y0 y1 y2 y3
        refine wpAny_ready (rs := [3]) (by kernel_rfl) (by simp) ?_
        refine AllReady.cons rfl (fun K hK => ?_) AllReady.nil
        go_simp
        refine (H1 U.drew hsU).mono ?_
        rintro en w3 ⟨rfl, hb3⟩
        exact ⟨rfl, hbU.trans hb3⟩
      refine AllReady.cons rfl (fun K hK => ?_) AllReady.nil
      go_simp
      refine (H1 U.drew hsU).mono ?_
      rintro en w3 ⟨rfl, hb3⟩
      exact ⟨rfl, hbU.trans hb3⟩
  | ok v =>
    rw [hA] at H1
    have HO := fun w1 q1 c1 h1 hv1 => HO w1 q1 c1 v h1 hv1
    have HE : Hid (bindE (.ok v) (oneE E.es ⟨9, nn, ss, tt⟩) = oneE E.es ⟨9, nn, ss, tt⟩ v) := rfl
    rw [HE.out]
    clear HE
    generalize oneE E.es ⟨9, nn, ss, tt⟩ v = R at *
    cases R with
    | error n =>
      have hbV : Below w.heap.size w (w.alloc (.cells #[.int .i64 9, .int .i64 nn, .string ss, .string tt] 41)).drew := ((Below.refl _ _).alloc (Nat.le_refl _) _).drew
      have hsz : w.heap.size < (w.alloc (.cells #[.int .i64 9, .int .i64 nn, .string ss, .string tt] 41)).drew.heap.size := by show w.heap.size < (w.alloc (.cells #[.int .i64 9, .int .i64 nn, .string ss, .string tt] 41)).heap.size; simp
      have m0 : (w.alloc (.cells #[.int .i64 9, .int .i64 nn, .string ss, .string tt] 41)).drew.cell? ⟨w.heap.size, 0, none⟩ = some (.int .i64 9) := by show (w.alloc (.cells #[.int .i64 9, .int .i64 nn, .string ss, .string tt] 41)).cell? _ = _; simp
      have m1 : (w.alloc (.cells #[.int .i64 9, .int .i64 nn, .string ss, .string tt] 41)).drew.cell? ⟨w.heap.size, 1, none⟩ = some (.int .i64 nn) := by show (w.alloc (.cells #[.int .i64 9, .int .i64 nn, .string ss, .string tt] 41)).cell? _ = _; simp
      have m2 : (w.alloc (.cells #[.int .i64 9, .int .i64 nn, .string ss, .string tt] 41)).drew.cell? ⟨w.heap.size, 2, none⟩ = some (.string ss) := by show (w.alloc (.cells #[.int .i64 9, .int .i64 nn, .string ss, .string tt] 41)).cell? _ = _; simp
      have m3 : (w.alloc (.cells #[.int .i64 9, .int .i64 nn, .string ss, .string tt] 41)).drew.cell? ⟨w.heap.size, 3, none⟩ = some (.string tt) := by show (w.alloc (.cells #[.int .i64 9, .int .i64 nn, .string ss, .string tt] 41)).cell? _ = _; simp
      go_enter Tryz.func51, Tryz.ntmps51
      go_wp2
      go_region
      all_goals
        generalize (w.alloc (.cells #[.int .i64 9, .int .i64 nn, .string ss, .string tt] 41)).drew = V at *
        have hsV := hs.up hbV
        have d9 := hsV.c9
        have f9 := hsV.fz 9
        have hs2 := hsV.setAt (j := k + 1) (by omega)
        have hb2 : BX B w (V.setCell ⟨B, 9, none⟩ (.int .i64 ((k + 1 : Nat) : Int))) := (BX.of_below hbV).set 9 _
        have e9 : ((k + 1 : Nat) : Int) = (k : Int) + 1 := rfl
        rw [e9] at hs2 hb2
        have n0 : (V.setCell ⟨B, 9, none⟩ (.int .i64 ((k : Int) + 1))).cell? ⟨w.heap.size, 0, none⟩ = some (.int .i64 9) := (World.cell?_setCell_other _ _ _ _ (fun e => hB2 (congrArg Addr.block e))).trans m0
        have n1 : (V.setCell ⟨B, 9, none⟩ (.int .i64 ((k : Int) + 1))).cell? ⟨w.heap.size, 1, none⟩ = some (.int .i64 nn) := (World.cell?_setCell_other _ _ _ _ (fun e => hB2 (congrArg Addr.block e))).trans m1
        have n2 : (V.setCell ⟨B, 9, none⟩ (.int .i64 ((k : Int) + 1))).cell? ⟨w.heap.size, 2, none⟩ = some (.string ss) := (World.cell?_setCell_other _ _ _ _ (fun e => hB2 (congrArg Addr.block e))).trans m2
        have n3 : (V.setCell ⟨B, 9, none⟩ (.int .i64 ((k : Int) + 1))).cell? ⟨w.heap.size, 3, none⟩ = some (.string tt) := (World.cell?_setCell_other _ _ _ _ (fun e => hB2 (congrArg Addr.block e))).trans m3
        have hszU : w.heap.size < (V.setCell ⟨B, 9, none⟩ (.int .i64 ((k : Int) + 1))).heap.size := by rw [setc_size]; exact hsz
        go_wp2_with fail
        generalize V.setCell ⟨B, 9, none⟩ (.int .i64 ((k : Int) + 1)) = U at *
        have hbdU : Below U.heap.size U U.drew := (Below.refl _ _).drew
        have hsU := hs2.up hbdU
        have hbU := hb2.up hbdU
        refine wp_mono (Q := fun e a w' => e = .panic (thrownE n) ∧ a.defers = [] ∧ BX B w w') ?_ ?_
        rotate_left
        · rintro _ a w5 ⟨rfl, hd, hb5⟩
          go_wp2
          exact ⟨hd, rfl, hb5⟩
        refine wp_region_any (by kernel_rfl) ?_
        refine wpAny_take (i := 0) (v := ?_) rfl (by kernel_rfl) (by kernel_rfl) (by kernel_rfl) (fun _ _ _ h => h) (Or.inl ⟨by rfl, ?_⟩) ?_
        rotate_left
        · intro w; go_simp; with_reducible rfl
        refine wpAny_take (i := 2) (v := ?_) rfl (by kernel_rfl) (by kernel_rfl) (by kernel_rfl) (fun _ _ _ h => h) (Or.inl ⟨by rfl, ?_⟩) ?_
        rotate_left
        · intro w; go_simp; with_reducible rfl
        refine wpAny_ready (rs := [1, 3]) (by kernel_rfl) (by simp) ?_
        refine AllReady.cons rfl (fun K hK => ?_) ?_
        · have y0 : U.drew.cell? ⟨w.heap.size, 0, none⟩ = some (.int .i64 9) := n0
          have y1 : U.drew.cell? ⟨w.heap.size, 1, none⟩ = some (.int .i64 nn) := n1
          have y2 : U.drew.cell? ⟨w.heap.size, 2, none⟩ = some (.string ss) := n2
          have y3 : U.drew.cell? ⟨w.heap.size, 3, none⟩ = some (.string tt) := n3
          go_simp
          refine hK _ _ ?_
          clear hK K y0 y1 y2 y3
          refine wpAny_ready (rs := [3]) (by kernel_rfl) (by simp) ?_
          refine AllReady.cons rfl (fun K hK => ?_) AllReady.nil
          go_simp
          refine (H1 U.drew hsU).mono ?_
          rintro en w3 ⟨⟨q3, c3, rfl, hv3⟩, hs3, hb3⟩
          refine hK _ _ ?_
          clear hK K
          refine wpAny_ready (rs := [4]) (by kernel_rfl) (by simp) ?_
          refine AllReady.cons rfl (fun K hK => ?_) AllReady.nil
          go_simp
          refine (HO w3 q3 c3 hs3 hv3).mono ?_
          rintro en w4 ⟨h4, hb4⟩
          have h4' : en = .panicked (thrownE n) := h4
          subst h4'
          exact ⟨rfl, (hbU.trans hb3).up hb4⟩
        refine AllReady.cons rfl (fun K hK => ?_) AllReady.nil
        go_simp
        refine (H1 U.drew hsU).mono ?_
        rintro en w3 ⟨⟨q3, c3, rfl, hv3⟩, hs3, hb3⟩
        refine hK _ _ ?_
        clear hK K
        refine wpAny_ready (rs := [1]) (by kernel_rfl) (by simp) ?_
        refine AllReady.cons rfl (fun K hK => ?_) AllReady.nil
        have y0 : w3.cell? ⟨w.heap.size, 0, none⟩ = some (.int .i64 9) := (hb3.cell (p := ⟨w.heap.size, 0, none⟩) hszU hB3).trans n0
        have y1 : w3.cell? ⟨w.heap.size, 1, none⟩ = some (.int .i64 nn) := (hb3.cell (p := ⟨w.heap.size, 1, none⟩) hszU hB3).trans n1
        have y2 : w3.cell? ⟨w.heap.size, 2, none⟩ = some (.string ss) := (hb3.cell (p := ⟨w.heap.size, 2, none⟩) hszU hB3).trans n2
        have y3 : w3.cell? ⟨w.heap.size, 3, none⟩ = some (.string tt) := (hb3.cell (p := ⟨w.heap.size, 3, none⟩) hszU hB3).trans n3
        go_simp
        refine hK _ _ ?_
        clear hK K y0 y1 y2 y3
        refine wpAny_ready (rs := [4]) (by kernel_rfl) (by simp) ?_
        refine AllReady.cons rfl (fun K hK => ?_) AllReady.nil
        go_simp
        refine (HO w3 q3 c3 hs3 hv3).mono ?_
        rintro en w4 ⟨h4, hb4⟩
        have h4' : en = .panicked (thrownE n) := h4
        subst h4'
        exact ⟨rfl, (hbU.trans hb3).up hb4⟩
    | ok u =>
      have hbV : Below w.heap.size w (w.alloc (.cells #[.int .i64 9, .int .i64 nn, .string ss, .string tt] 41)).drew := ((Below.refl _ _).alloc (Nat.le_refl _) _).drew
      have hsz : w.heap.size < (w.alloc (.cells #[.int .i64 9, .int .i64 nn, .string ss, .string tt] 41)).drew.heap.size := by show w.heap.size < (w.alloc (.cells #[.int .i64 9, .int .i64 nn, .string ss, .string tt] 41)).heap.size; simp
      have m0 : (w.alloc (.cells #[.int .i64 9, .int .i64 nn, .string ss, .string tt] 41)).drew.cell? ⟨w.heap.size, 0, none⟩ = some (.int .i64 9) := by show (w.alloc (.cells #[.int .i64 9, .int .i64 nn, .string ss, .string tt] 41)).cell? _ = _; simp
      have m1 : (w.alloc (.cells #[.int .i64 9, .int .i64 nn, .string ss, .string tt] 41)).drew.cell? ⟨w.heap.size, 1, none⟩ = some (.int .i64 nn) := by show (w.alloc (.cells #[.int .i64 9, .int .i64 nn, .string ss, .string tt] 41)).cell? _ = _; simp
      have m2 : (w.alloc (.cells #[.int .i64 9, .int .i64 nn, .string ss, .string tt] 41)).drew.cell? ⟨w.heap.size, 2, none⟩ = some (.string ss) := by show (w.alloc (.cells #[.int .i64 9, .int .i64 nn, .string ss, .string tt] 41)).cell? _ = _; simp
      have m3 : (w.alloc (.cells #[.int .i64 9, .int .i64 nn, .string ss, .string tt] 41)).drew.cell? ⟨w.heap.size, 3, none⟩ = some (.string tt) := by show (w.alloc (.cells #[.int .i64 9, .int .i64 nn, .string ss, .string tt] 41)).cell? _ = _; simp
      go_enter Tryz.func51, Tryz.ntmps51
      go_wp2
      go_region
      all_goals
        generalize (w.alloc (.cells #[.int .i64 9, .int .i64 nn, .string ss, .string tt] 41)).drew = V at *
        have hsV := hs.up hbV
        have d9 := hsV.c9
        have f9 := hsV.fz 9
        have hs2 := hsV.setAt (j := k + 1) (by omega)
        have hb2 : BX B w (V.setCell ⟨B, 9, none⟩ (.int .i64 ((k + 1 : Nat) : Int))) := (BX.of_below hbV).set 9 _
        have e9 : ((k + 1 : Nat) : Int) = (k : Int) + 1 := rfl
        rw [e9] at hs2 hb2
        have n0 : (V.setCell ⟨B, 9, none⟩ (.int .i64 ((k : Int) + 1))).cell? ⟨w.heap.size, 0, none⟩ = some (.int .i64 9) := (World.cell?_setCell_other _ _ _ _ (fun e => hB2 (congrArg Addr.block e))).trans m0
        have n1 : (V.setCell ⟨B, 9, none⟩ (.int .i64 ((k : Int) + 1))).cell? ⟨w.heap.size, 1, none⟩ = some (.int .i64 nn) := (World.cell?_setCell_other _ _ _ _ (fun e => hB2 (congrArg Addr.block e))).trans m1
        have n2 : (V.setCell ⟨B, 9, none⟩ (.int .i64 ((k : Int) + 1))).cell? ⟨w.heap.size, 2, none⟩ = some (.string ss) := (World.cell?_setCell_other _ _ _ _ (fun e => hB2 (congrArg Addr.block e))).trans m2
        have n3 : (V.setCell ⟨B, 9, none⟩ (.int .i64 ((k : Int) + 1))).cell? ⟨w.heap.size, 3, none⟩ = some (.string tt) := (World.cell?_setCell_other _ _ _ _ (fun e => hB2 (congrArg Addr.block e))).trans m3
        have hszU : w.heap.size < (V.setCell ⟨B, 9, none⟩ (.int .i64 ((k : Int) + 1))).heap.size := by rw [setc_size]; exact hsz
        go_wp2_with fail
        generalize V.setCell ⟨B, 9, none⟩ (.int .i64 ((k : Int) + 1)) = U at *
        have hbdU : Below U.heap.size U U.drew := (Below.refl _ _).drew
        have hsU := hs2.up hbdU
        have hbU := hb2.up hbdU
        refine wp_mono (Q := fun e a w' => e = .normal ∧ a.defers = [] ∧ (∃ q c, a.tmps[2]? = some (.slice q u.length c) ∧ VArg w' u u.length q c) ∧ AS E w' B (E.e.length - r.length) ∧ BX B w w') ?_ ?_
        rotate_left
        · rintro _ a w5 ⟨rfl, hd, ⟨q5, c5, ht, hv5⟩, hs5, hb5⟩
          go_wp2
          exact bodyPost_ret (v := .slice q5 u.length c5) (by simp [results, Tryz.results51, go_sem, ht]) hd ⟨⟨q5, c5, rfl, hv5⟩, hs5, hb5⟩
        refine wp_region_any (by kernel_rfl) ?_
        refine wpAny_take (i := 0) (v := ?_) rfl (by kernel_rfl) (by kernel_rfl) (by kernel_rfl) (fun _ _ _ h => by cases h.1) (Or.inl ⟨by rfl, ?_⟩) ?_
        rotate_left
        · intro w; go_simp; with_reducible rfl
        refine wpAny_take (i := 2) (v := ?_) rfl (by kernel_rfl) (by kernel_rfl) (by kernel_rfl) (fun _ _ _ h => by cases h.1) (Or.inl ⟨by rfl, ?_⟩) ?_
        rotate_left
        · intro w; go_simp; with_reducible rfl
        refine wpAny_ready (rs := [1, 3]) (by kernel_rfl) (by simp) ?_
        refine AllReady.cons rfl (fun K hK => ?_) ?_
        · have y0 : U.drew.cell? ⟨w.heap.size, 0, none⟩ = some (.int .i64 9) := n0
          have y1 : U.drew.cell? ⟨w.heap.size, 1, none⟩ = some (.int .i64 nn) := n1
          have y2 : U.drew.cell? ⟨w.heap.size, 2, none⟩ = some (.string ss) := n2
          have y3 : U.drew.cell? ⟨w.heap.size, 3, none⟩ = some (.string tt) := n3
          go_simp
          refine hK _ _ ?_
          clear hK K y0 y1 y2 y3
          refine wpAny_ready (rs := [3]) (by kernel_rfl) (by simp) ?_
          refine AllReady.cons rfl (fun K hK => ?_) AllReady.nil
          go_simp
          refine (H1 U.drew hsU).mono ?_
          rintro en w3 ⟨⟨q3, c3, rfl, hv3⟩, hs3, hb3⟩
          refine hK _ _ ?_
          clear hK K
          refine wpAny_ready (rs := [4]) (by kernel_rfl) (by simp) ?_
          refine AllReady.cons rfl (fun K hK => ?_) AllReady.nil
          go_simp
          refine (HO w3 q3 c3 hs3 hv3).mono ?_
          rintro en w4 ⟨⟨q4, c4, rfl, hv4⟩, hb4⟩
          refine hK _ _ ?_
          clear hK K
          refine wpAny_take (i := 5) (v := ?_) rfl (by kernel_rfl) (by kernel_rfl) (by kernel_rfl) (fun _ _ _ h => by cases h.1) (Or.inl ⟨by rfl, ?_⟩) ?_
          rotate_left
          · intro w; go_simp; with_reducible rfl
          refine wpAny_done (by kernel_rfl) ?_ _
          exact ⟨rfl, rfl, ⟨q4, c4, rfl, hv4⟩, hs3.up hb4, (hbU.trans hb3).up hb4⟩
        refine AllReady.cons rfl (fun K hK => ?_) AllReady.nil
        go_simp
        refine (H1 U.drew hsU).mono ?_
        rintro en w3 ⟨⟨q3, c3, rfl, hv3⟩, hs3, hb3⟩
        refine hK _ _ ?_
        clear hK K
        refine wpAny_ready (rs := [1]) (by kernel_rfl) (by simp) ?_
        refine AllReady.cons rfl (fun K hK => ?_) AllReady.nil
        have y0 : w3.cell? ⟨w.heap.size, 0, none⟩ = some (.int .i64 9) := (hb3.cell (p := ⟨w.heap.size, 0, none⟩) hszU hB3).trans n0
        have y1 : w3.cell? ⟨w.heap.size, 1, none⟩ = some (.int .i64 nn) := (hb3.cell (p := ⟨w.heap.size, 1, none⟩) hszU hB3).trans n1
        have y2 : w3.cell? ⟨w.heap.size, 2, none⟩ = some (.string ss) := (hb3.cell (p := ⟨w.heap.size, 2, none⟩) hszU hB3).trans n2
        have y3 : w3.cell? ⟨w.heap.size, 3, none⟩ = some (.string tt) := (hb3.cell (p := ⟨w.heap.size, 3, none⟩) hszU hB3).trans n3
        go_simp
        refine hK _ _ ?_
        clear hK K y0 y1 y2 y3
        refine wpAny_ready (rs := [4]) (by kernel_rfl) (by simp) ?_
        refine AllReady.cons rfl (fun K hK => ?_) AllReady.nil
        go_simp
        refine (HO w3 q3 c3 hs3 hv3).mono ?_
        rintro en w4 ⟨⟨q4, c4, rfl, hv4⟩, hb4⟩
        refine hK _ _ ?_
        clear hK K
        refine wpAny_take (i := 5) (v := ?_) rfl (by kernel_rfl) (by kernel_rfl) (by kernel_rfl) (fun _ _ _ h => by cases h.1) (Or.inl ⟨by rfl, ?_⟩) ?_
        rotate_left
        · intro w; go_simp; with_reducible rfl
        refine wpAny_done (by kernel_rfl) ?_ _
        exact ⟨rfl, rfl, ⟨q4, c4, rfl, hv4⟩, hs3.up hb4, (hbU.trans hb3).up hb4⟩
set_option maxHeartbeats 2000000 in
theorem value_one10 (hs : AS E w B k) (hv : E.e.drop k = x :: m) (hx : exOk x = true) (h9 : x.op = 10) (p1 : pastE f m = some r) :
    Calls Tryz.prog 51 #[.pointer (some ⟨B, 0, none⟩)] w (VE E B (E.e.length - r.length) w (bindE (evE E.es E.q f m) (oneE E.es x))) := by
  have hk : k < E.e.length := by
    have := congrArg List.length hv
    simp only [List.length_drop, List.length_cons] at this
    omega
  have hxk : E.e[k] = x := by
    have := congrArg List.head? hv
    rw [List.head?_drop, List.head?_cons, List.getElem?_eq_getElem hk] at this
    exact Option.some.inj this
  have hm1 : E.e.drop (k + 1) = m := by
    have := congrArg List.tail hv
    rwa [List.tail_drop, List.tail_cons] at this
  have c8 := hs.c8
  have c9 := hs.c9
  obtain ⟨bq, oq, hpq, hbq, x0, x1, x2, x3, xw⟩ := (hs.ne ho).at hk
  rw [hxk] at x0 x1 x2 x3 xw
  rw [hpq] at c8
  have i2 : (k : Int) < (E.e.length : Int) := by omega
  have i3 : (k : Int) ≤ 200 := by have := ho.len; omega
  have hlt := hs.lt
  have hB2 : ¬ B = w.heap.size := by omega
  have hB3 : ¬ w.heap.size = B := by omega
  have hw9 : IntKind.i64.wrap ((k : Int) + 1) = (k : Int) + 1 := by rw [IntKind.wrap_i64]; omega
  have HO := fun w1 q1 c1 v (h1 : AS E w1 B (E.e.length - r.length)) (hv1 : VArg w1 v v.length q1 c1) => ofOne_any w1 B _ v v.length q1 c1 x (by omega) hx ho h1 hv1
  have H1 := fun w1 (h1 : AS E w1 B (k + 1)) => val_at hV w1 (k + 1) m r _ _ h1 hm1 p1 rfl rfl
  unfold nodeV at HO
  obtain ⟨op, nn, ss, tt⟩ := x
  dsimp only at *
  subst h9
  cases hA : evE E.es E.q f m with
  | error n =>
    rw [hA] at H1
    have HE : Hid (bindE (.error n) (oneE E.es ⟨10, nn, ss, tt⟩) = .error n) := rfl
    rw [HE.out]
    clear HO HE
    have hbV : Below w.heap.size w (w.alloc (.cells #[.int .i64 10, .int .i64 nn, .string ss, .string tt] 41)).drew := ((Below.refl _ _).alloc (Nat.le_refl _) _).drew
    have hsz : w.heap.size < (w.alloc (.cells #[.int .i64 10, .int .i64 nn, .string ss, .string tt] 41)).drew.heap.size := by show w.heap.size < (w.alloc (.cells #[.int .i64 10, .int .i64 nn, .string ss, .string tt] 41)).heap.size; simp
    have m0 : (w.alloc (.cells #[.int .i64 10, .int .i64 nn, .string ss, .string tt] 41)).drew.cell? ⟨w.heap.size, 0, none⟩ = some (.int .i64 10) := by show (w.alloc (.cells #[.int .i64 10, .int .i64 nn, .string ss, .string tt] 41)).cell? _ = _; simp
    have m1 : (w.alloc (.cells #[.int .i64 10, .int .i64 nn, .string ss, .string tt] 41)).drew.cell? ⟨w.heap.size, 1, none⟩ = some (.int .i64 nn) := by show (w.alloc (.cells #[.int .i64 10, .int .i64 nn, .string ss, .string tt] 41)).cell? _ = _; simp
    have m2 : (w.alloc (.cells #[.int .i64 10, .int .i64 nn, .string ss, .string tt] 41)).drew.cell? ⟨w.heap.size, 2, none⟩ = some (.string ss) := by show (w.alloc (.cells #[.int .i64 10, .int .i64 nn, .string ss, .string tt] 41)).cell? _ = _; simp
    have m3 : (w.alloc (.cells #[.int .i64 10, .int .i64 nn, .string ss, .string tt] 41)).drew.cell? ⟨w.heap.size, 3, none⟩ = some (.string tt) := by show (w.alloc (.cells #[.int .i64 10, .int .i64 nn, .string ss, .string tt] 41)).cell? _ = _; simp
    go_enter Tryz.func51, Tryz.ntmps51
    go_wp2
    go_region
    all_goals
      generalize (w.alloc (.cells #[.int .i64 10, .int .i64 nn, .string ss, .string tt] 41)).drew = V at *
      have hsV := hs.up hbV
      have d9 := hsV.c9
      have f9 := hsV.fz 9
      have hs2 := hsV.setAt (j := k + 1) (by omega)
      have hb2 : BX B w (V.setCell ⟨B, 9, none⟩ (.int .i64 ((k + 1 : Nat) : Int))) := (BX.of_below hbV).set 9 _
      have e9 : ((k + 1 : Nat) : Int) = (k : Int) + 1 := rfl
      rw [e9] at hs2 hb2
      have n0 : (V.setCell ⟨B, 9, none⟩ (.int .i64 ((k : Int) + 1))).cell? ⟨w.heap.size, 0, none⟩ = some (.int .i64 10) := (World.cell?_setCell_other _ _ _ _ (fun e => hB2 (congrArg Addr.block e))).trans m0
      have n1 : (V.setCell ⟨B, 9, none⟩ (.int .i64 ((k : Int) + 1))).cell? ⟨w.heap.size, 1, none⟩ = some (.int .i64 nn) := (World.cell?_setCell_other _ _ _ _ (fun e => hB2 (congrArg Addr.block e))).trans m1
      have n2 : (V.setCell ⟨B, 9, none⟩ (.int .i64 ((k : Int) + 1))).cell? ⟨w.heap.size, 2, none⟩ = some (.string ss) := (World.cell?_setCell_other _ _ _ _ (fun e => hB2 (congrArg Addr.block e))).trans m2
      have n3 : (V.setCell ⟨B, 9, none⟩ (.int .i64 ((k : Int) + 1))).cell? ⟨w.heap.size, 3, none⟩ = some (.string tt) := (World.cell?_setCell_other _ _ _ _ (fun e => hB2 (congrArg Addr.block e))).trans m3
      have hszU : w.heap.size < (V.setCell ⟨B, 9, none⟩ (.int .i64 ((k : Int) + 1))).heap.size := by rw [setc_size]; exact hsz
      go_wp2_with fail
      generalize V.setCell ⟨B, 9, none⟩ (.int .i64 ((k : Int) + 1)) = U at *
      have hbdU : Below U.heap.size U U.drew := (Below.refl _ _).drew
      have hsU := hs2.up hbdU
      have hbU := hb2.up hbdU
      refine wp_mono (Q := fun e a w' => e = .panic (thrownE n) ∧ a.defers = [] ∧ BX B w w') ?_ ?_
      rotate_left
      · rintro _ a w5 ⟨rfl, hd, hb5⟩
        go_wp2
        exact ⟨hd, rfl, hb5⟩
      refine wp_region_any (by kernel_rfl) ?_
      refine wpAny_take (i := 0) (v := ?_) rfl (by kernel_rfl) (by kernel_rfl) (by kernel_rfl) (fun _ _ _ h => h) (Or.inl ⟨by rfl, ?_⟩) ?_
      rotate_left
      · intro w; go_simp; with_reducible rfl
      refine wpAny_take (i := 2) (v := ?_) rfl (by kernel_rfl) (by kernel_rfl) (by kernel_rfl) (fun _ _ _ h => h) (Or.inl ⟨by rfl, ?_⟩) ?_
      rotate_left
      · intro w; go_simp; with_reducible rfl
      refine wpAny_ready (rs := [1, 3]) (by kernel_rfl) (by simp) ?_
      refine AllReady.cons rfl (fun K hK => ?_) ?_
      · have y0 : U.drew.cell? ⟨w.heap.size, 0, none⟩ = some (.int .i64 10) := n0
        have y1 : U.drew.cell? ⟨w.heap.size, 1, none⟩ = some (.int .i64 nn) := n1
        have y2 : U.drew.cell? ⟨w.heap.size, 2, none⟩ = some (.string ss) := n2
        have y3 : U.drew.cell? ⟨w.heap.size, 3, none⟩ = some (.string tt) := n3
        go_simp
        refine hK _ _ ?_
        clear hK K y0 y1 y2 y3
        refine wpAny_ready (rs := [3]) (by kernel_rfl) (by simp) ?_
        refine AllReady.cons rfl (fun K hK => ?_) AllReady.nil
        go_simp
        refine (H1 U.drew hsU).mono ?_
        rintro en w3 ⟨rfl, hb3⟩
        exact ⟨rfl, hbU.trans hb3⟩
      refine AllReady.cons rfl (fun K hK => ?_) AllReady.nil
      go_simp
      refine (H1 U.drew hsU).mono ?_
      rintro en w3 ⟨rfl, hb3⟩
      exact ⟨rfl, hbU.trans hb3⟩
  | ok v =>
    rw [hA] at H1
    have HO := fun w1 q1 c1 h1 hv1 => HO w1 q1 c1 v h1 hv1
    have HE : Hid (bindE (.ok v) (oneE E.es ⟨10, nn, ss, tt⟩) = oneE E.es ⟨10, nn, ss, tt⟩ v) := rfl
    rw [HE.out]
    clear HE
    generalize oneE E.es ⟨10, nn, ss, tt⟩ v = R at *
    cases R with
    | error n =>
      have hbV : Below w.heap.size w (w.alloc (.cells #[.int .i64 10, .int .i64 nn, .string ss, .string tt] 41)).drew := ((Below.refl _ _).alloc (Nat.le_refl _) _).drew
      have hsz : w.heap.size < (w.alloc (.cells #[.int .i64 10, .int .i64 nn, .string ss, .string tt] 41)).drew.heap.size := by show w.heap.size < (w.alloc (.cells #[.int .i64 10, .int .i64 nn, .string ss, .string tt] 41)).heap.size; simp
      have m0 : (w.alloc (.cells #[.int .i64 10, .int .i64 nn, .string ss, .string tt] 41)).drew.cell? ⟨w.heap.size, 0, none⟩ = some (.int .i64 10) := by show (w.alloc (.cells #[.int .i64 10, .int .i64 nn, .string ss, .string tt] 41)).cell? _ = _; simp
      have m1 : (w.alloc (.cells #[.int .i64 10, .int .i64 nn, .string ss, .string tt] 41)).drew.cell? ⟨w.heap.size, 1, none⟩ = some (.int .i64 nn) := by show (w.alloc (.cells #[.int .i64 10, .int .i64 nn, .string ss, .string tt] 41)).cell? _ = _; simp
      have m2 : (w.alloc (.cells #[.int .i64 10, .int .i64 nn, .string ss, .string tt] 41)).drew.cell? ⟨w.heap.size, 2, none⟩ = some (.string ss) := by show (w.alloc (.cells #[.int .i64 10, .int .i64 nn, .string ss, .string tt] 41)).cell? _ = _; simp
      have m3 : (w.alloc (.cells #[.int .i64 10, .int .i64 nn, .string ss, .string tt] 41)).drew.cell? ⟨w.heap.size, 3, none⟩ = some (.string tt) := by show (w.alloc (.cells #[.int .i64 10, .int .i64 nn, .string ss, .string tt] 41)).cell? _ = _; simp
      go_enter Tryz.func51, Tryz.ntmps51
      go_wp2
      go_region
      all_goals
        generalize (w.alloc (.cells #[.int .i64 10, .int .i64 nn, .string ss, .string tt] 41)).drew = V at *
        have hsV := hs.up hbV
        have d9 := hsV.c9
        have f9 := hsV.fz 9
        have hs2 := hsV.setAt (j := k + 1) (by omega)
        have hb2 : BX B w (V.setCell ⟨B, 9, none⟩ (.int .i64 ((k + 1 : Nat) : Int))) := (BX.of_below hbV).set 9 _
        have e9 : ((k + 1 : Nat) : Int) = (k : Int) + 1 := rfl
        rw [e9] at hs2 hb2
        have n0 : (V.setCell ⟨B, 9, none⟩ (.int .i64 ((k : Int) + 1))).cell? ⟨w.heap.size, 0, none⟩ = some (.int .i64 10) := (World.cell?_setCell_other _ _ _ _ (fun e => hB2 (congrArg Addr.block e))).trans m0
        have n1 : (V.setCell ⟨B, 9, none⟩ (.int .i64 ((k : Int) + 1))).cell? ⟨w.heap.size, 1, none⟩ = some (.int .i64 nn) := (World.cell?_setCell_other _ _ _ _ (fun e => hB2 (congrArg Addr.block e))).trans m1
        have n2 : (V.setCell ⟨B, 9, none⟩ (.int .i64 ((k : Int) + 1))).cell? ⟨w.heap.size, 2, none⟩ = some (.string ss) := (World.cell?_setCell_other _ _ _ _ (fun e => hB2 (congrArg Addr.block e))).trans m2
        have n3 : (V.setCell ⟨B, 9, none⟩ (.int .i64 ((k : Int) + 1))).cell? ⟨w.heap.size, 3, none⟩ = some (.string tt) := (World.cell?_setCell_other _ _ _ _ (fun e => hB2 (congrArg Addr.block e))).trans m3
        have hszU : w.heap.size < (V.setCell ⟨B, 9, none⟩ (.int .i64 ((k : Int) + 1))).heap.size := by rw [setc_size]; exact hsz
        go_wp2_with fail
        generalize V.setCell ⟨B, 9, none⟩ (.int .i64 ((k : Int) + 1)) = U at *
        have hbdU : Below U.heap.size U U.drew := (Below.refl _ _).drew
        have hsU := hs2.up hbdU
        have hbU := hb2.up hbdU
        refine wp_mono (Q := fun e a w' => e = .panic (thrownE n) ∧ a.defers = [] ∧ BX B w w') ?_ ?_
        rotate_left
        · rintro _ a w5 ⟨rfl, hd, hb5⟩
          go_wp2
          exact ⟨hd, rfl, hb5⟩
        refine wp_region_any (by kernel_rfl) ?_
        refine wpAny_take (i := 0) (v := ?_) rfl (by kernel_rfl) (by kernel_rfl) (by kernel_rfl) (fun _ _ _ h => h) (Or.inl ⟨by rfl, ?_⟩) ?_
        rotate_left
        · intro w; go_simp; with_reducible rfl
        refine wpAny_take (i := 2) (v := ?_) rfl (by kernel_rfl) (by kernel_rfl) (by kernel_rfl) (fun _ _ _ h => h) (Or.inl ⟨by rfl, ?_⟩) ?_
        rotate_left
        · intro w; go_simp; with_reducible rfl
        refine wpAny_ready (rs := [1, 3]) (by kernel_rfl) (by simp) ?_
        refine AllReady.cons rfl (fun K hK => ?_) ?_
        · have y0 : U.drew.cell? ⟨w.heap.size, 0, none⟩ = some (.int .i64 10) := n0
          have y1 : U.drew.cell? ⟨w.heap.size, 1, none⟩ = some (.int .i64 nn) := n1
          have y2 : U.drew.cell? ⟨w.heap.size, 2, none⟩ = some (.string ss) := n2
          have y3 : U.drew.cell? ⟨w.heap.size, 3, none⟩ = some (.string tt) := n3
          go_simp
          refine hK _ _ ?_
          clear hK K y0 y1 y2 y3
          refine wpAny_ready (rs := [3]) (by kernel_rfl) (by simp) ?_
          refine AllReady.cons rfl (fun K hK => ?_) AllReady.nil
          go_simp
          refine (H1 U.drew hsU).mono ?_
          rintro en w3 ⟨⟨q3, c3, rfl, hv3⟩, hs3, hb3⟩
          refine hK _ _ ?_
          clear hK K
          refine wpAny_ready (rs := [4]) (by kernel_rfl) (by simp) ?_
          refine AllReady.cons rfl (fun K hK => ?_) AllReady.nil
          go_simp
          refine (HO w3 q3 c3 hs3 hv3).mono ?_
          rintro en w4 ⟨h4, hb4⟩
          have h4' : en = .panicked (thrownE n) := h4
          subst h4'
          exact ⟨rfl, (hbU.trans hb3).up hb4⟩
        refine AllReady.cons rfl (fun K hK => ?_) AllReady.nil
        go_simp
        refine (H1 U.drew hsU).mono ?_
        rintro en w3 ⟨⟨q3, c3, rfl, hv3⟩, hs3, hb3⟩
        refine hK _ _ ?_
        clear hK K
        refine wpAny_ready (rs := [1]) (by kernel_rfl) (by simp) ?_
        refine AllReady.cons rfl (fun K hK => ?_) AllReady.nil
        have y0 : w3.cell? ⟨w.heap.size, 0, none⟩ = some (.int .i64 10) := (hb3.cell (p := ⟨w.heap.size, 0, none⟩) hszU hB3).trans n0
        have y1 : w3.cell? ⟨w.heap.size, 1, none⟩ = some (.int .i64 nn) := (hb3.cell (p := ⟨w.heap.size, 1, none⟩) hszU hB3).trans n1
        have y2 : w3.cell? ⟨w.heap.size, 2, none⟩ = some (.string ss) := (hb3.cell (p := ⟨w.heap.size, 2, none⟩) hszU hB3).trans n2
        have y3 : w3.cell? ⟨w.heap.size, 3, none⟩ = some (.string tt) := (hb3.cell (p := ⟨w.heap.size, 3, none⟩) hszU hB3).trans n3
        go_simp
        refine hK _ _ ?_
        clear hK K y0 y1 y2 y3
        refine wpAny_ready (rs := [4]) (by kernel_rfl) (by simp) ?_
        refine AllReady.cons rfl (fun K hK => ?_) AllReady.nil
        go_simp
        refine (HO w3 q3 c3 hs3 hv3).mono ?_
        rintro en w4 ⟨h4, hb4⟩
        have h4' : en = .panicked (thrownE n) := h4
        subst h4'
        exact ⟨rfl, (hbU.trans hb3).up hb4⟩
    | ok u =>
      have hbV : Below w.heap.size w (w.alloc (.cells #[.int .i64 10, .int .i64 nn, .string ss, .string tt] 41)).drew := ((Below.refl _ _).alloc (Nat.le_refl _) _).drew
      have hsz : w.heap.size < (w.alloc (.cells #[.int .i64 10, .int .i64 nn, .string ss, .string tt] 41)).drew.heap.size := by show w.heap.size < (w.alloc (.cells #[.int .i64 10, .int .i64 nn, .string ss, .string tt] 41)).heap.size; simp
      have m0 : (w.alloc (.cells #[.int .i64 10, .int .i64 nn, .string ss, .string tt] 41)).drew.cell? ⟨w.heap.size, 0, none⟩ = some (.int .i64 10) := by show (w.alloc (.cells #[.int .i64 10, .int .i64 nn, .string ss, .string tt] 41)).cell? _ = _; simp
      have m1 : (w.alloc (.cells #[.int .i64 10, .int .i64 nn, .string ss, .string tt] 41)).drew.cell? ⟨w.heap.size, 1, none⟩ = some (.int .i64 nn) := by show (w.alloc (.cells #[.int .i64 10, .int .i64 nn, .string ss, .string tt] 41)).cell? _ = _; simp
      have m2 : (w.alloc (.cells #[.int .i64 10, .int .i64 nn, .string ss, .string tt] 41)).drew.cell? ⟨w.heap.size, 2, none⟩ = some (.string ss) := by show (w.alloc (.cells #[.int .i64 10, .int .i64 nn, .string ss, .string tt] 41)).cell? _ = _; simp
      have m3 : (w.alloc (.cells #[.int .i64 10, .int .i64 nn, .string ss, .string tt] 41)).drew.cell? ⟨w.heap.size, 3, none⟩ = some (.string tt) := by show (w.alloc (.cells #[.int .i64 10, .int .i64 nn, .string ss, .string tt] 41)).cell? _ = _; simp
      go_enter Tryz.func51, Tryz.ntmps51
      go_wp2
      go_region
      all_goals
        generalize (w.alloc (.cells #[.int .i64 10, .int .i64 nn, .string ss, .string tt] 41)).drew = V at *
        have hsV := hs.up hbV
        have d9 := hsV.c9
        have f9 := hsV.fz 9
        have hs2 := hsV.setAt (j := k + 1) (by omega)
        have hb2 : BX B w (V.setCell ⟨B, 9, none⟩ (.int .i64 ((k + 1 : Nat) : Int))) := (BX.of_below hbV).set 9 _
        have e9 : ((k + 1 : Nat) : Int) = (k : Int) + 1 := rfl
        rw [e9] at hs2 hb2
        have n0 : (V.setCell ⟨B, 9, none⟩ (.int .i64 ((k : Int) + 1))).cell? ⟨w.heap.size, 0, none⟩ = some (.int .i64 10) := (World.cell?_setCell_other _ _ _ _ (fun e => hB2 (congrArg Addr.block e))).trans m0
        have n1 : (V.setCell ⟨B, 9, none⟩ (.int .i64 ((k : Int) + 1))).cell? ⟨w.heap.size, 1, none⟩ = some (.int .i64 nn) := (World.cell?_setCell_other _ _ _ _ (fun e => hB2 (congrArg Addr.block e))).trans m1
        have n2 : (V.setCell ⟨B, 9, none⟩ (.int .i64 ((k : Int) + 1))).cell? ⟨w.heap.size, 2, none⟩ = some (.string ss) := (World.cell?_setCell_other _ _ _ _ (fun e => hB2 (congrArg Addr.block e))).trans m2
        have n3 : (V.setCell ⟨B, 9, none⟩ (.int .i64 ((k : Int) + 1))).cell? ⟨w.heap.size, 3, none⟩ = some (.string tt) := (World.cell?_setCell_other _ _ _ _ (fun e => hB2 (congrArg Addr.block e))).trans m3
        have hszU : w.heap.size < (V.setCell ⟨B, 9, none⟩ (.int .i64 ((k : Int) + 1))).heap.size := by rw [setc_size]; exact hsz
        go_wp2_with fail
        generalize V.setCell ⟨B, 9, none⟩ (.int .i64 ((k : Int) + 1)) = U at *
        have hbdU : Below U.heap.size U U.drew := (Below.refl _ _).drew
        have hsU := hs2.up hbdU
        have hbU := hb2.up hbdU
        refine wp_mono (Q := fun e a w' => e = .normal ∧ a.defers = [] ∧ (∃ q c, a.tmps[2]? = some (.slice q u.length c) ∧ VArg w' u u.length q c) ∧ AS E w' B (E.e.length - r.length) ∧ BX B w w') ?_ ?_
        rotate_left
        · rintro _ a w5 ⟨rfl, hd, ⟨q5, c5, ht, hv5⟩, hs5, hb5⟩
          go_wp2
          exact bodyPost_ret (v := .slice q5 u.length c5) (by simp [results, Tryz.results51, go_sem, ht]) hd ⟨⟨q5, c5, rfl, hv5⟩, hs5, hb5⟩
        refine wp_region_any (by kernel_rfl) ?_
        refine wpAny_take (i := 0) (v := ?_) rfl (by kernel_rfl) (by kernel_rfl) (by kernel_rfl) (fun _ _ _ h => by cases h.1) (Or.inl ⟨by rfl, ?_⟩) ?_
        rotate_left
        · intro w; go_simp; with_reducible rfl
        refine wpAny_take (i := 2) (v := ?_) rfl (by kernel_rfl) (by kernel_rfl) (by kernel_rfl) (fun _ _ _ h => by cases h.1) (Or.inl ⟨by rfl, ?_⟩) ?_
        rotate_left
        · intro w; go_simp; with_reducible rfl
        refine wpAny_ready (rs := [1, 3]) (by kernel_rfl) (by simp) ?_
        refine AllReady.cons rfl (fun K hK => ?_) ?_
        · have y0 : U.drew.cell? ⟨w.heap.size, 0, none⟩ = some (.int .i64 10) := n0
          have y1 : U.drew.cell? ⟨w.heap.size, 1, none⟩ = some (.int .i64 nn) := n1
          have y2 : U.drew.cell? ⟨w.heap.size, 2, none⟩ = some (.string ss) := n2
          have y3 : U.drew.cell? ⟨w.heap.size, 3, none⟩ = some (.string tt) := n3
          go_simp
          refine hK _ _ ?_
          clear hK K y0 y1 y2 y3
          refine wpAny_ready (rs := [3]) (by kernel_rfl) (by simp) ?_
          refine AllReady.cons rfl (fun K hK => ?_) AllReady.nil
          go_simp
          refine (H1 U.drew hsU).mono ?_
          rintro en w3 ⟨⟨q3, c3, rfl, hv3⟩, hs3, hb3⟩
          refine hK _ _ ?_
          clear hK K
          refine wpAny_ready (rs := [4]) (by kernel_rfl) (by simp) ?_
          refine AllReady.cons rfl (fun K hK => ?_) AllReady.nil
          go_simp
          refine (HO w3 q3 c3 hs3 hv3).mono ?_
          rintro en w4 ⟨⟨q4, c4, rfl, hv4⟩, hb4⟩
          refine hK _ _ ?_
          clear hK K
          refine wpAny_take (i := 5) (v := ?_) rfl (by kernel_rfl) (by kernel_rfl) (by kernel_rfl) (fun _ _ _ h => by cases h.1) (Or.inl ⟨by rfl, ?_⟩) ?_
          rotate_left
          · intro w; go_simp; with_reducible rfl
          refine wpAny_done (by kernel_rfl) ?_ _
          exact ⟨rfl, rfl, ⟨q4, c4, rfl, hv4⟩, hs3.up hb4, (hbU.trans hb3).up hb4⟩
        refine AllReady.cons rfl (fun K hK => ?_) AllReady.nil
        go_simp
        refine (H1 U.drew hsU).mono ?_
        rintro en w3 ⟨⟨q3, c3, rfl, hv3⟩, hs3, hb3⟩
        refine hK _ _ ?_
        clear hK K
        refine wpAny_ready (rs := [1]) (by kernel_rfl) (by simp) ?_
        refine AllReady.cons rfl (fun K hK => ?_) AllReady.nil
        have y0 : w3.cell? ⟨w.heap.size, 0, none⟩ = some (.int .i64 10) := (hb3.cell (p := ⟨w.heap.size, 0, none⟩) hszU hB3).trans n0
        have y1 : w3.cell? ⟨w.heap.size, 1, none⟩ = some (.int .i64 nn) := (hb3.cell (p := ⟨w.heap.size, 1, none⟩) hszU hB3).trans n1
        have y2 : w3.cell? ⟨w.heap.size, 2, none⟩ = some (.string ss) := (hb3.cell (p := ⟨w.heap.size, 2, none⟩) hszU hB3).trans n2
        have y3 : w3.cell? ⟨w.heap.size, 3, none⟩ = some (.string tt) := (hb3.cell (p := ⟨w.heap.size, 3, none⟩) hszU hB3).trans n3
        go_simp
        refine hK _ _ ?_
        clear hK K y0 y1 y2 y3
        refine wpAny_ready (rs := [4]) (by kernel_rfl) (by simp) ?_
        refine AllReady.cons rfl (fun K hK => ?_) AllReady.nil
        go_simp
        refine (HO w3 q3 c3 hs3 hv3).mono ?_
        rintro en w4 ⟨⟨q4, c4, rfl, hv4⟩, hb4⟩
        refine hK _ _ ?_
        clear hK K
        refine wpAny_take (i := 5) (v := ?_) rfl (by kernel_rfl) (by kernel_rfl) (by kernel_rfl) (fun _ _ _ h => by cases h.1) (Or.inl ⟨by rfl, ?_⟩) ?_
        rotate_left
        · intro w; go_simp; with_reducible rfl
        refine wpAny_done (by kernel_rfl) ?_ _
        exact ⟨rfl, rfl, ⟨q4, c4, rfl, hv4⟩, hs3.up hb4, (hbU.trans hb3).up hb4⟩
end
end Go.Proofs.YtnilaghbbhmkgaaGreatDoor
namespace Go.Proofs.YtnilaghbbhmkgaaGreatDoor
open Go.RowKit
set_option linter.unusedVariables false
set_option linter.unusedSimpArgs false
set_option linter.unusedSectionVars false
set_option maxRecDepth 100000

section
variable {E : EvEnv} {B f : Nat} (ho : E.Ok) (hf : f ≤ E.e.length + 1) (hV : ValOk E B f) (w : World) (k : Nat) (x : Nd) (m r s t : List Nd)
include ho hf hV
set_option maxHeartbeats 2000000 in
theorem value_one21 (hs : AS E w B k) (hv : E.e.drop k = x :: m) (hx : exOk x = true) (h9 : x.op = 21) (p1 : pastE f m = some r) :
    Calls Tryz.prog 51 #[.pointer (some ⟨B, 0, none⟩)] w (VE E B (E.e.length - r.length) w (bindE (evE E.es E.q f m) (oneE E.es x))) := by
  have hk : k < E.e.length := by
    have := congrArg List.length hv
    simp only [List.length_drop, List.length_cons] at this
    omega
  have hxk : E.e[k] = x := by
    have := congrArg List.head? hv
    rw [List.head?_drop, List.head?_cons, List.getElem?_eq_getElem hk] at this
    exact Option.some.inj this
  have hm1 : E.e.drop (k + 1) = m := by
    have := congrArg List.tail hv
    rwa [List.tail_drop, List.tail_cons] at this
  have c8 := hs.c8
  have c9 := hs.c9
  obtain ⟨bq, oq, hpq, hbq, x0, x1, x2, x3, xw⟩ := (hs.ne ho).at hk
  rw [hxk] at x0 x1 x2 x3 xw
  rw [hpq] at c8
  have i2 : (k : Int) < (E.e.length : Int) := by omega
  have i3 : (k : Int) ≤ 200 := by have := ho.len; omega
  have hlt := hs.lt
  have hB2 : ¬ B = w.heap.size := by omega
  have hB3 : ¬ w.heap.size = B := by omega
  have hw9 : IntKind.i64.wrap ((k : Int) + 1) = (k : Int) + 1 := by rw [IntKind.wrap_i64]; omega
  have HO := fun w1 q1 c1 v (h1 : AS E w1 B (E.e.length - r.length)) (hv1 : VArg w1 v v.length q1 c1) => ofOne_any w1 B _ v v.length q1 c1 x (by omega) hx ho h1 hv1
  have H1 := fun w1 (h1 : AS E w1 B (k + 1)) => val_at hV w1 (k + 1) m r _ _ h1 hm1 p1 rfl rfl
  unfold nodeV at HO
  obtain ⟨op, nn, ss, tt⟩ := x
  dsimp only at *
  subst h9
  cases hA : evE E.es E.q f m with
  | error n =>
    rw [hA] at H1
    have HE : Hid (bindE (.error n) (oneE E.es ⟨21, nn, ss, tt⟩) = .error n) := rfl
    rw [HE.out]
    clear HO HE
    have hbV : Below w.heap.size w (w.alloc (.cells #[.int .i64 21, .int .i64 nn, .string ss, .string tt] 41)).drew := ((Below.refl _ _).alloc (Nat.le_refl _) _).drew
    have hsz : w.heap.size < (w.alloc (.cells #[.int .i64 21, .int .i64 nn, .string ss, .string tt] 41)).drew.heap.size := by show w.heap.size < (w.alloc (.cells #[.int .i64 21, .int .i64 nn, .string ss, .string tt] 41)).heap.size; simp
    have m0 : (w.alloc (.cells #[.int .i64 21, .int .i64 nn, .string ss, .string tt] 41)).drew.cell? ⟨w.heap.size, 0, none⟩ = some (.int .i64 21) := by show (w.alloc (.cells #[.int .i64 21, .int .i64 nn, .string ss, .string tt] 41)).cell? _ = _; simp
    have m1 : (w.alloc (.cells #[.int .i64 21, .int .i64 nn, .string ss, .string tt] 41)).drew.cell? ⟨w.heap.size, 1, none⟩ = some (.int .i64 nn) := by show (w.alloc (.cells #[.int .i64 21, .int .i64 nn, .string ss, .string tt] 41)).cell? _ = _; simp
    have m2 : (w.alloc (.cells #[.int .i64 21, .int .i64 nn, .string ss, .string tt] 41)).drew.cell? ⟨w.heap.size, 2, none⟩ = some (.string ss) := by show (w.alloc (.cells #[.int .i64 21, .int .i64 nn, .string ss, .string tt] 41)).cell? _ = _; simp
    have m3 : (w.alloc (.cells #[.int .i64 21, .int .i64 nn, .string ss, .string tt] 41)).drew.cell? ⟨w.heap.size, 3, none⟩ = some (.string tt) := by show (w.alloc (.cells #[.int .i64 21, .int .i64 nn, .string ss, .string tt] 41)).cell? _ = _; simp
    go_enter Tryz.func51, Tryz.ntmps51
    go_wp2
    go_region
    all_goals
      generalize (w.alloc (.cells #[.int .i64 21, .int .i64 nn, .string ss, .string tt] 41)).drew = V at *
      have hsV := hs.up hbV
      have d9 := hsV.c9
      have f9 := hsV.fz 9
      have hs2 := hsV.setAt (j := k + 1) (by omega)
      have hb2 : BX B w (V.setCell ⟨B, 9, none⟩ (.int .i64 ((k + 1 : Nat) : Int))) := (BX.of_below hbV).set 9 _
      have e9 : ((k + 1 : Nat) : Int) = (k : Int) + 1 := rfl
      rw [e9] at hs2 hb2
      have n0 : (V.setCell ⟨B, 9, none⟩ (.int .i64 ((k : Int) + 1))).cell? ⟨w.heap.size, 0, none⟩ = some (.int .i64 21) := (World.cell?_setCell_other _ _ _ _ (fun e => hB2 (congrArg Addr.block e))).trans m0
      have n1 : (V.setCell ⟨B, 9, none⟩ (.int .i64 ((k : Int) + 1))).cell? ⟨w.heap.size, 1, none⟩ = some (.int .i64 nn) := (World.cell?_setCell_other _ _ _ _ (fun e => hB2 (congrArg Addr.block e))).trans m1
      have n2 : (V.setCell ⟨B, 9, none⟩ (.int .i64 ((k : Int) + 1))).cell? ⟨w.heap.size, 2, none⟩ = some (.string ss) := (World.cell?_setCell_other _ _ _ _ (fun e => hB2 (congrArg Addr.block e))).trans m2
      have n3 : (V.setCell ⟨B, 9, none⟩ (.int .i64 ((k : Int) + 1))).cell? ⟨w.heap.size, 3, none⟩ = some (.string tt) := (World.cell?_setCell_other _ _ _ _ (fun e => hB2 (congrArg Addr.block e))).trans m3
      have hszU : w.heap.size < (V.setCell ⟨B, 9, none⟩ (.int .i64 ((k : Int) + 1))).heap.size := by rw [setc_size]; exact hsz
      go_wp2_with fail
      generalize V.setCell ⟨B, 9, none⟩ (.int .i64 ((k : Int) + 1)) = U at *
      have hbdU : Below U.heap.size U U.drew := (Below.refl _ _).drew
      have hsU := hs2.up hbdU
      have hbU := hb2.up hbdU
      refine wp_mono (Q := fun e a w' => e = .panic (thrownE n) ∧ a.defers = [] ∧ BX B w w') ?_ ?_
      rotate_left
      · rintro _ a w5 ⟨rfl, hd, hb5⟩
        go_wp2
        exact ⟨hd, rfl, hb5⟩
      refine wp_region_any (by kernel_rfl) ?_
      refine wpAny_take (i := 0) (v := ?_) rfl (by kernel_rfl) (by kernel_rfl) (by kernel_rfl) (fun _ _ _ h => h) (Or.inl ⟨by rfl, ?_⟩) ?_
      rotate_left
      · intro w; go_simp; with_reducible rfl
      refine wpAny_take (i := 2) (v := ?_) rfl (by kernel_rfl) (by kernel_rfl) (by kernel_rfl) (fun _ _ _ h => h) (Or.inl ⟨by rfl, ?_⟩) ?_
      rotate_left
      · intro w; go_simp; with_reducible rfl
      refine wpAny_ready (rs := [1, 3]) (by kernel_rfl) (by simp) ?_
      refine AllReady.cons rfl (fun K hK => ?_) ?_
      · have y0 : U.drew.cell? ⟨w.heap.size, 0, none⟩ = some (.int .i64 21) := n0
        have y1 : U.drew.cell? ⟨w.heap.size, 1, none⟩ = some (.int .i64 nn) := n1
        have y2 : U.drew.cell? ⟨w.heap.size, 2, none⟩ = some (.string ss) := n2
        have y3 : U.drew.cell? ⟨w.heap.size, 3, none⟩ = some (.string tt) := n3
        go_simp
        refine hK _ _ ?_
        clear hK K y0 y1 y2 y3
        refine wpAny_ready (rs := [3]) (by kernel_rfl) (by simp) ?_
        refine AllReady.cons rfl (fun K hK => ?_) AllReady.nil
        go_simp
        refine (H1 U.drew hsU).mono ?_
        rintro en w3 ⟨rfl, hb3⟩
        exact ⟨rfl, hbU.trans hb3⟩
      refine AllReady.cons rfl (fun K hK => ?_) AllReady.nil
      go_simp
      refine (H1 U.drew hsU).mono ?_
      rintro en w3 ⟨rfl, hb3⟩
      exact ⟨rfl, hbU.trans hb3⟩
  | ok v =>
    rw [hA] at H1
    have HO := fun w1 q1 c1 h1 hv1 => HO w1 q1 c1 v h1 hv1
    have HE : Hid (bindE (.ok v) (oneE E.es ⟨21, nn, ss, tt⟩) = oneE E.es ⟨21, nn, ss, tt⟩ v) := rfl
    rw [HE.out]
    clear HE
    generalize oneE E.es ⟨21, nn, ss, tt⟩ v = R at *
    cases R with
    | error n =>
      have hbV : Below w.heap.size w (w.alloc (.cells #[.int .i64 21, .int .i64 nn, .string ss, .string tt] 41)).drew := ((Below.refl _ _).alloc (Nat.le_refl _) _).drew
      have hsz : w.heap.size < (w.alloc (.cells #[.int .i64 21, .int .i64 nn, .string ss, .string tt] 41)).drew.heap.size := by show w.heap.size < (w.alloc (.cells #[.int .i64 21, .int .i64 nn, .string ss, .string tt] 41)).heap.size; simp
      have m0 : (w.alloc (.cells #[.int .i64 21, .int .i64 nn, .string ss, .string tt] 41)).drew.cell? ⟨w.heap.size, 0, none⟩ = some (.int .i64 21) := by show (w.alloc (.cells #[.int .i64 21, .int .i64 nn, .string ss, .string tt] 41)).cell? _ = _; simp
      have m1 : (w.alloc (.cells #[.int .i64 21, .int .i64 nn, .string ss, .string tt] 41)).drew.cell? ⟨w.heap.size, 1, none⟩ = some (.int .i64 nn) := by show (w.alloc (.cells #[.int .i64 21, .int .i64 nn, .string ss, .string tt] 41)).cell? _ = _; simp
      have m2 : (w.alloc (.cells #[.int .i64 21, .int .i64 nn, .string ss, .string tt] 41)).drew.cell? ⟨w.heap.size, 2, none⟩ = some (.string ss) := by show (w.alloc (.cells #[.int .i64 21, .int .i64 nn, .string ss, .string tt] 41)).cell? _ = _; simp
      have m3 : (w.alloc (.cells #[.int .i64 21, .int .i64 nn, .string ss, .string tt] 41)).drew.cell? ⟨w.heap.size, 3, none⟩ = some (.string tt) := by show (w.alloc (.cells #[.int .i64 21, .int .i64 nn, .string ss, .string tt] 41)).cell? _ = _; simp
      go_enter Tryz.func51, Tryz.ntmps51
      go_wp2
      go_region
      all_goals
        generalize (w.alloc (.cells #[.int .i64 21, .int .i64 nn, .string ss, .string tt] 41)).drew = V at *
        have hsV := hs.up hbV
        have d9 := hsV.c9
        have f9 := hsV.fz 9
        have hs2 := hsV.setAt (j := k + 1) (by omega)
        have hb2 : BX B w (V.setCell ⟨B, 9, none⟩ (.int .i64 ((k + 1 : Nat) : Int))) := (BX.of_below hbV).set 9 _
        have e9 : ((k + 1 : Nat) : Int) = (k : Int) + 1 := rfl
        rw [e9] at hs2 hb2
        have n0 : (V.setCell ⟨B, 9, none⟩ (.int .i64 ((k : Int) + 1))).cell? ⟨w.heap.size, 0, none⟩ = some (.int .i64 21) := (World.cell?_setCell_other _ _ _ _ (fun e => hB2 (congrArg Addr.block e))).trans m0
        have n1 : (V.setCell ⟨B, 9, none⟩ (.int .i64 ((k : Int) + 1))).cell? ⟨w.heap.size, 1, none⟩ = some (.int .i64 nn) := (World.cell?_setCell_other _ _ _ _ (fun e => hB2 (congrArg Addr.block e))).trans m1
        have n2 : (V.setCell ⟨B, 9, none⟩ (.int .i64 ((k : Int) + 1))).cell? ⟨w.heap.size, 2, none⟩ = some (.string ss) := (World.cell?_setCell_other _ _ _ _ (fun e => hB2 (congrArg Addr.block e))).trans m2
        have n3 : (V.setCell ⟨B, 9, none⟩ (.int .i64 ((k : Int) + 1))).cell? ⟨w.heap.size, 3, none⟩ = some (.string tt) := (World.cell?_setCell_other _ _ _ _ (fun e => hB2 (congrArg Addr.block e))).trans m3
        have hszU : w.heap.size < (V.setCell ⟨B, 9, none⟩ (.int .i64 ((k : Int) + 1))).heap.size := by rw [setc_size]; exact hsz
        go_wp2_with fail
        generalize V.setCell ⟨B, 9, none⟩ (.int .i64 ((k : Int) + 1)) = U at *
        have hbdU : Below U.heap.size U U.drew := (Below.refl _ _).drew
        have hsU := hs2.up hbdU
        have hbU := hb2.up hbdU
        refine wp_mono (Q := fun e a w' => e = .panic (thrownE n) ∧ a.defers = [] ∧ BX B w w') ?_ ?_
        rotate_left
        · rintro _ a w5 ⟨rfl, hd, hb5⟩
          go_wp2
          exact ⟨hd, rfl, hb5⟩
        refine wp_region_any (by kernel_rfl) ?_
        refine wpAny_take (i := 0) (v := ?_) rfl (by kernel_rfl) (by kernel_rfl) (by kernel_rfl) (fun _ _ _ h => h) (Or.inl ⟨by rfl, ?_⟩) ?_
        rotate_left
        · intro w; go_simp; with_reducible rfl
        refine wpAny_take (i := 2) (v := ?_) rfl (by kernel_rfl) (by kernel_rfl) (by kernel_rfl) (fun _ _ _ h => h) (Or.inl ⟨by rfl, ?_⟩) ?_
        rotate_left
        · intro w; go_simp; with_reducible rfl
        refine wpAny_ready (rs := [1, 3]) (by kernel_rfl) (by simp) ?_
        refine AllReady.cons rfl (fun K hK => ?_) ?_
        · have y0 : U.drew.cell? ⟨w.heap.size, 0, none⟩ = some (.int .i64 21) := n0
          have y1 : U.drew.cell? ⟨w.heap.size, 1, none⟩ = some (.int .i64 nn) := n1
          have y2 : U.drew.cell? ⟨w.heap.size, 2, none⟩ = some (.string ss) := n2
          have y3 : U.drew.cell? ⟨w.heap.size, 3, none⟩ = some (.string tt) := n3
          go_simp
          refine hK _ _ ?_
          clear hK K y0 y1 y2 y3
          refine wpAny_ready (rs := [3]) (by kernel_rfl) (by simp) ?_
          refine AllReady.cons rfl (fun K hK => ?_) AllReady.nil
          go_simp
          refine (H1 U.drew hsU).mono ?_
          rintro en w3 ⟨⟨q3, c3, rfl, hv3⟩, hs3, hb3⟩
          refine hK _ _ ?_
          clear hK K
          refine wpAny_ready (rs := [4]) (by kernel_rfl) (by simp) ?_
          refine AllReady.cons rfl (fun K hK => ?_) AllReady.nil
          go_simp
          refine (HO w3 q3 c3 hs3 hv3).mono ?_
          rintro en w4 ⟨h4, hb4⟩
          have h4' : en = .panicked (thrownE n) := h4
          subst h4'
          exact ⟨rfl, (hbU.trans hb3).up hb4⟩
        refine AllReady.cons rfl (fun K hK => ?_) AllReady.nil
        go_simp
        refine (H1 U.drew hsU).mono ?_
        rintro en w3 ⟨⟨q3, c3, rfl, hv3⟩, hs3, hb3⟩
        refine hK _ _ ?_
        clear hK K
        refine wpAny_ready (rs := [1]) (by kernel_rfl) (by simp) ?_
        refine AllReady.cons rfl (fun K hK => ?_) AllReady.nil
        have y0 : w3.cell? ⟨w.heap.size, 0, none⟩ = some (.int .i64 21) := (hb3.cell (p := ⟨w.heap.size, 0, none⟩) hszU hB3).trans n0
        have y1 : w3.cell? ⟨w.heap.size, 1, none⟩ = some (.int .i64 nn) := (hb3.cell (p := ⟨w.heap.size, 1, none⟩) hszU hB3).trans n1
        have y2 : w3.cell? ⟨w.heap.size, 2, none⟩ = some (.string ss) := (hb3.cell (p := ⟨w.heap.size, 2, none⟩) hszU hB3).trans n2
        have y3 : w3.cell? ⟨w.heap.size, 3, none⟩ = some (.string tt) := (hb3.cell (p := ⟨w.heap.size, 3, none⟩) hszU hB3).trans n3
        go_simp
        refine hK _ _ ?_
        clear hK K y0 y1 y2 y3
        refine wpAny_ready (rs := [4]) (by kernel_rfl) (by simp) ?_
        refine AllReady.cons rfl (fun K hK => ?_) AllReady.nil
        go_simp
        refine (HO w3 q3 c3 hs3 hv3).mono ?_
        rintro en w4 ⟨h4, hb4⟩
        have h4' : en = .panicked (thrownE n) := h4
        subst h4'
        exact ⟨rfl, (hbU.trans hb3).up hb4⟩
    | ok u =>
      have hbV : Below w.heap.size w (w.alloc (.cells #[.int .i64 21, .int .i64 nn, .string ss, .string tt] 41)).drew := ((Below.refl _ _).alloc (Nat.le_refl _) _).drew
      have hsz : w.heap.size < (w.alloc (.cells #[.int .i64 21, .int .i64 nn, .string ss, .string tt] 41)).drew.heap.size := by show w.heap.size < (w.alloc (.cells #[.int .i64 21, .int .i64 nn, .string ss, .string tt] 41)).heap.size; simp
      have m0 : (w.alloc (.cells #[.int .i64 21, .int .i64 nn, .string ss, .string tt] 41)).drew.cell? ⟨w.heap.size, 0, none⟩ = some (.int .i64 21) := by show (w.alloc (.cells #[.int .i64 21, .int .i64 nn, .string ss, .string tt] 41)).cell? _ = _; simp
      have m1 : (w.alloc (.cells #[.int .i64 21, .int .i64 nn, .string ss, .string tt] 41)).drew.cell? ⟨w.heap.size, 1, none⟩ = some (.int .i64 nn) := by show (w.alloc (.cells #[.int .i64 21, .int .i64 nn, .string ss, .string tt] 41)).cell? _ = _; simp
      have m2 : (w.alloc (.cells #[.int .i64 21, .int .i64 nn, .string ss, .string tt] 41)).drew.cell? ⟨w.heap.size, 2, none⟩ = some (.string ss) := by show (w.alloc (.cells #[.int .i64 21, .int .i64 nn, .string ss, .string tt] 41)).cell? _ = _; simp
      have m3 : (w.alloc (.cells #[.int .i64 21, .int .i64 nn, .string ss, .string tt] 41)).drew.cell? ⟨w.heap.size, 3, none⟩ = some (.string tt) := by show (w.alloc (.cells #[.int .i64 21, .int .i64 nn, .string ss, .string tt] 41)).cell? _ = _; simp
      go_enter Tryz.func51, Tryz.ntmps51
      go_wp2
      go_region
      all_goals
        generalize (w.alloc (.cells #[.int .i64 21, .int .i64 nn, .string ss, .string tt] 41)).drew = V at *
        have hsV := hs.up hbV
        have d9 := hsV.c9
        have f9 := hsV.fz 9
        have hs2 := hsV.setAt (j := k + 1) (by omega)
        have hb2 : BX B w (V.setCell ⟨B, 9, none⟩ (.int .i64 ((k + 1 : Nat) : Int))) := (BX.of_below hbV).set 9 _
        have e9 : ((k + 1 : Nat) : Int) = (k : Int) + 1 := rfl
        rw [e9] at hs2 hb2
        have n0 : (V.setCell ⟨B, 9, none⟩ (.int .i64 ((k : Int) + 1))).cell? ⟨w.heap.size, 0, none⟩ = some (.int .i64 21) := (World.cell?_setCell_other _ _ _ _ (fun e => hB2 (congrArg Addr.block e))).trans m0
        have n1 : (V.setCell ⟨B, 9, none⟩ (.int .i64 ((k : Int) + 1))).cell? ⟨w.heap.size, 1, none⟩ = some (.int .i64 nn) := (World.cell?_setCell_other _ _ _ _ (fun e => hB2 (congrArg Addr.block e))).trans m1
        have n2 : (V.setCell ⟨B, 9, none⟩ (.int .i64 ((k : Int) + 1))).cell? ⟨w.heap.size, 2, none⟩ = some (.string ss) := (World.cell?_setCell_other _ _ _ _ (fun e => hB2 (congrArg Addr.block e))).trans m2
        have n3 : (V.setCell ⟨B, 9, none⟩ (.int .i64 ((k : Int) + 1))).cell? ⟨w.heap.size, 3, none⟩ = some (.string tt) := (World.cell?_setCell_other _ _ _ _ (fun e => hB2 (congrArg Addr.block e))).trans m3
        have hszU : w.heap.size < (V.setCell ⟨B, 9, none⟩ (.int .i64 ((k : Int) + 1))).heap.size := by rw [setc_size]; exact hsz
        go_wp2_with fail
        generalize V.setCell ⟨B, 9, none⟩ (.int .i64 ((k : Int) + 1)) = U at *
        have hbdU : Below U.heap.size U U.drew := (Below.refl _ _).drew
        have hsU := hs2.up hbdU
        have hbU := hb2.up hbdU
        refine wp_mono (Q := fun e a w' => e = .normal ∧ a.defers = [] ∧ (∃ q c, a.tmps[2]? = some (.slice q u.length c) ∧ VArg w' u u.length q c) ∧ AS E w' B (E.e.length - r.length) ∧ BX B w w') ?_ ?_
        rotate_left
        · rintro _ a w5 ⟨rfl, hd, ⟨q5, c5, ht, hv5⟩, hs5, hb5⟩
          go_wp2
          exact bodyPost_ret (v := .slice q5 u.length c5) (by simp [results, Tryz.results51, go_sem, ht]) hd ⟨⟨q5, c5, rfl, hv5⟩, hs5, hb5⟩
        refine wp_region_any (by kernel_rfl) ?_
        refine wpAny_take (i := 0) (v := ?_) rfl (by kernel_rfl) (by kernel_rfl) (by kernel_rfl) (fun _ _ _ h => by cases h.1) (Or.inl ⟨by rfl, ?_⟩) ?_
        rotate_left
        · intro w; go_simp; with_reducible rfl
        refine wpAny_take (i := 2) (v := ?_) rfl (by kernel_rfl) (by kernel_rfl) (by kernel_rfl) (fun _ _ _ h => by cases h.1) (Or.inl ⟨by rfl, ?_⟩) ?_
        rotate_left
        · intro w; go_simp; with_reducible rfl
        refine wpAny_ready (rs := [1, 3]) (by kernel_rfl) (by simp) ?_
        refine AllReady.cons rfl (fun K hK => ?_) ?_
        · have y0 : U.drew.cell? ⟨w.heap.size, 0, none⟩ = some (.int .i64 21) := n0
          have y1 : U.drew.cell? ⟨w.heap.size, 1, none⟩ = some (.int .i64 nn) := n1
          have y2 : U.drew.cell? ⟨w.heap.size, 2, none⟩ = some (.string ss) := n2
          have y3 : U.drew.cell? ⟨w.heap.size, 3, none⟩ = some (.string tt) := n3
          go_simp
          refine hK _ _ ?_
          clear hK K y0 y1 y2 y3
          refine wpAny_ready (rs := [3]) (by kernel_rfl) (by simp) ?_
          refine AllReady.cons rfl (fun K hK => ?_) AllReady.nil
          go_simp
          refine (H1 U.drew hsU).mono ?_
          rintro en w3 ⟨⟨q3, c3, rfl, hv3⟩, hs3, hb3⟩
          refine hK _ _ ?_
          clear hK K
          refine wpAny_ready (rs := [4]) (by kernel_rfl) (by simp) ?_
          refine AllReady.cons rfl (fun K hK => ?_) AllReady.nil
          go_simp
          refine (HO w3 q3 c3 hs3 hv3).mono ?_
          rintro en w4 ⟨⟨q4, c4, rfl, hv4⟩, hb4⟩
          refine hK _ _ ?_
          clear hK K
          refine wpAny_take (i := 5) (v := ?_) rfl (by kernel_rfl) (by kernel_rfl) (by kernel_rfl) (fun _ _ _ h => by cases h.1) (Or.inl ⟨by rfl, ?_⟩) ?_
          rotate_left
          · intro w; go_simp; with_reducible rfl
          refine wpAny_done (by kernel_rfl) ?_ _
          exact ⟨rfl, rfl, ⟨q4, c4, rfl, hv4⟩, hs3.up hb4, (hbU.trans hb3).up hb4⟩
        refine AllReady.cons rfl (fun K hK => ?_) AllReady.nil
        go_simp
        refine (H1 U.drew hsU).mono ?_
        rintro en w3 ⟨⟨q3, c3, rfl, hv3⟩, hs3, hb3⟩
        refine hK _ _ ?_
        clear hK K
        refine wpAny_ready (rs := [1]) (by kernel_rfl) (by simp) ?_
        refine AllReady.cons rfl (fun K hK => ?_) AllReady.nil
        have y0 : w3.cell? ⟨w.heap.size, 0, none⟩ = some (.int .i64 21) := (hb3.cell (p := ⟨w.heap.size, 0, none⟩) hszU hB3).trans n0
        have y1 : w3.cell? ⟨w.heap.size, 1, none⟩ = some (.int .i64 nn) := (hb3.cell (p := ⟨w.heap.size, 1, none⟩) hszU hB3).trans n1
        have y2 : w3.cell? ⟨w.heap.size, 2, none⟩ = some (.string ss) := (hb3.cell (p := ⟨w.heap.size, 2, none⟩) hszU hB3).trans n2
        have y3 : w3.cell? ⟨w.heap.size, 3, none⟩ = some (.string tt) := (hb3.cell (p := ⟨w.heap.size, 3, none⟩) hszU hB3).trans n3
        go_simp
        refine hK _ _ ?_
        clear hK K y0 y1 y2 y3
        refine wpAny_ready (rs := [4]) (by kernel_rfl) (by simp) ?_
        refine AllReady.cons rfl (fun K hK => ?_) AllReady.nil
        go_simp
        refine (HO w3 q3 c3 hs3 hv3).mono ?_
        rintro en w4 ⟨⟨q4, c4, rfl, hv4⟩, hb4⟩
        refine hK _ _ ?_
        clear hK K
        refine wpAny_take (i := 5) (v := ?_) rfl (by kernel_rfl) (by kernel_rfl) (by kernel_rfl) (fun _ _ _ h => by cases h.1) (Or.inl ⟨by rfl, ?_⟩) ?_
        rotate_left
        · intro w; go_simp; with_reducible rfl
        refine wpAny_done (by kernel_rfl) ?_ _
        exact ⟨rfl, rfl, ⟨q4, c4, rfl, hv4⟩, hs3.up hb4, (hbU.trans hb3).up hb4⟩
set_option maxHeartbeats 2000000 in
theorem value_one22 (hs : AS E w B k) (hv : E.e.drop k = x :: m) (hx : exOk x = true) (h9 : x.op = 22) (p1 : pastE f m = some r) :
    Calls Tryz.prog 51 #[.pointer (some ⟨B, 0, none⟩)] w (VE E B (E.e.length - r.length) w (bindE (evE E.es E.q f m) (oneE E.es x))) := by
  have hk : k < E.e.length := by
    have := congrArg List.length hv
    simp only [List.length_drop, List.length_cons] at this
    omega
  have hxk : E.e[k] = x := by
    have := congrArg List.head? hv
    rw [List.head?_drop, List.head?_cons, List.getElem?_eq_getElem hk] at this
    exact Option.some.inj this
  have hm1 : E.e.drop (k + 1) = m := by
    have := congrArg List.tail hv
    rwa [List.tail_drop, List.tail_cons] at this
  have c8 := hs.c8
  have c9 := hs.c9
  obtain ⟨bq, oq, hpq, hbq, x0, x1, x2, x3, xw⟩ := (hs.ne ho).at hk
  rw [hxk] at x0 x1 x2 x3 xw
  rw [hpq] at c8
  have i2 : (k : Int) < (E.e.length : Int) := by omega
  have i3 : (k : Int) ≤ 200 := by have := ho.len; omega
  have hlt := hs.lt
  have hB2 : ¬ B = w.heap.size := by omega
  have hB3 : ¬ w.heap.size = B := by omega
  have hw9 : IntKind.i64.wrap ((k : Int) + 1) = (k : Int) + 1 := by rw [IntKind.wrap_i64]; omega
  have HO := fun w1 q1 c1 v (h1 : AS E w1 B (E.e.length - r.length)) (hv1 : VArg w1 v v.length q1 c1) => ofOne_any w1 B _ v v.length q1 c1 x (by omega) hx ho h1 hv1
  have H1 := fun w1 (h1 : AS E w1 B (k + 1)) => val_at hV w1 (k + 1) m r _ _ h1 hm1 p1 rfl rfl
  unfold nodeV at HO
  obtain ⟨op, nn, ss, tt⟩ := x
  dsimp only at *
  subst h9
  cases hA : evE E.es E.q f m with
  | error n =>
    rw [hA] at H1
    have HE : Hid (bindE (.error n) (oneE E.es ⟨22, nn, ss, tt⟩) = .error n) := rfl
    rw [HE.out]
    clear HO HE
    have hbV : Below w.heap.size w (w.alloc (.cells #[.int .i64 22, .int .i64 nn, .string ss, .string tt] 41)).drew := ((Below.refl _ _).alloc (Nat.le_refl _) _).drew
    have hsz : w.heap.size < (w.alloc (.cells #[.int .i64 22, .int .i64 nn, .string ss, .string tt] 41)).drew.heap.size := by show w.heap.size < (w.alloc (.cells #[.int .i64 22, .int .i64 nn, .string ss, .string tt] 41)).heap.size; simp
    have m0 : (w.alloc (.cells #[.int .i64 22, .int .i64 nn, .string ss, .string tt] 41)).drew.cell? ⟨w.heap.size, 0, none⟩ = some (.int .i64 22) := by show (w.alloc (.cells #[.int .i64 22, .int .i64 nn, .string ss, .string tt] 41)).cell? _ = _; simp
    have m1 : (w.alloc (.cells #[.int .i64 22, .int .i64 nn, .string ss, .string tt] 41)).drew.cell? ⟨w.heap.size, 1, none⟩ = some (.int .i64 nn) := by show (w.alloc (.cells #[.int .i64 22, .int .i64 nn, .string ss, .string tt] 41)).cell? _ = _; simp
    have m2 : (w.alloc (.cells #[.int .i64 22, .int .i64 nn, .string ss, .string tt] 41)).drew.cell? ⟨w.heap.size, 2, none⟩ = some (.string ss) := by show (w.alloc (.cells #[.int .i64 22, .int .i64 nn, .string ss, .string tt] 41)).cell? _ = _; simp
    have m3 : (w.alloc (.cells #[.int .i64 22, .int .i64 nn, .string ss, .string tt] 41)).drew.cell? ⟨w.heap.size, 3, none⟩ = some (.string tt) := by show (w.alloc (.cells #[.int .i64 22, .int .i64 nn, .string ss, .string tt] 41)).cell? _ = _; simp
    go_enter Tryz.func51, Tryz.ntmps51
    go_wp2
    go_region
    all_goals
      generalize (w.alloc (.cells #[.int .i64 22, .int .i64 nn, .string ss, .string tt] 41)).drew = V at *
      have hsV := hs.up hbV
      have d9 := hsV.c9
      have f9 := hsV.fz 9
      have hs2 := hsV.setAt (j := k + 1) (by omega)
      have hb2 : BX B w (V.setCell ⟨B, 9, none⟩ (.int .i64 ((k + 1 : Nat) : Int))) := (BX.of_below hbV).set 9 _
      have e9 : ((k + 1 : Nat) : Int) = (k : Int) + 1 := rfl
      rw [e9] at hs2 hb2
      have n0 : (V.setCell ⟨B, 9, none⟩ (.int .i64 ((k : Int) + 1))).cell? ⟨w.heap.size, 0, none⟩ = some (.int .i64 22) := (World.cell?_setCell_other _ _ _ _ (fun e => hB2 (congrArg Addr.block e))).trans m0
      have n1 : (V.setCell ⟨B, 9, none⟩ (.int .i64 ((k : Int) + 1))).cell? ⟨w.heap.size, 1, none⟩ = some (.int .i64 nn) := (World.cell?_setCell_other _ _ _ _ (fun e => hB2 (congrArg Addr.block e))).trans m1
      have n2 : (V.setCell ⟨B, 9, none⟩ (.int .i64 ((k : Int) + 1))).cell? ⟨w.heap.size, 2, none⟩ = some (.string ss) := (World.cell?_setCell_other _ _ _ _ (fun e => hB2 (congrArg Addr.block e))).trans m2
      have n3 : (V.setCell ⟨B, 9, none⟩ (.int .i64 ((k : Int) + 1))).cell? ⟨w.heap.size, 3, none⟩ = some (.string tt) := (World.cell?_setCell_other _ _ _ _ (fun e => hB2 (congrArg Addr.block e))).trans m3
      have hszU : w.heap.size < (V.setCell ⟨B, 9, none⟩ (.int .i64 ((k : Int) + 1))).heap.size := by rw [setc_size]; exact hsz
      go_wp2_with fail
      generalize V.setCell ⟨B, 9, none⟩ (.int .i64 ((k : Int) + 1)) = U at *
      have hbdU : Below U.heap.size U U.drew := (Below.refl _ _).drew
      have hsU := hs2.up hbdU
      have hbU := hb2.up hbdU
      refine wp_mono (Q := fun e a w' => e = .panic (thrownE n) ∧ a.defers = [] ∧ BX B w w') ?_ ?_
      rotate_left
      · rintro _ a w5 ⟨rfl, hd, hb5⟩
        go_wp2
        exact ⟨hd, rfl, hb5⟩
      refine wp_region_any (by kernel_rfl) ?_
      refine wpAny_take (i := 0) (v := ?_) rfl (by kernel_rfl) (by kernel_rfl) (by kernel_rfl) (fun _ _ _ h => h) (Or.inl ⟨by rfl, ?_⟩) ?_
      rotate_left
      · intro w; go_simp; with_reducible rfl
      refine wpAny_take (i := 2) (v := ?_) rfl (by kernel_rfl) (by kernel_rfl) (by kernel_rfl) (fun _ _ _ h => h) (Or.inl ⟨by rfl, ?_⟩) ?_
      rotate_left
      · intro w; go_simp; with_reducible rfl
      refine wpAny_ready (rs := [1, 3]) (by kernel_rfl) (by simp) ?_
      refine AllReady.cons rfl (fun K hK => ?_) ?_
      · have y0 : U.drew.cell? ⟨w.heap.size, 0, none⟩ = some (.int .i64 22) := n0
        have y1 : U.drew.cell? ⟨w.heap.size, 1, none⟩ = some (.int .i64 nn) := n1
        have y2 : U.drew.cell? ⟨w.heap.size, 2, none⟩ = some (.string ss) := n2
        have y3 : U.drew.cell? ⟨w.heap.size, 3, none⟩ = some (.string tt) := n3
        go_simp
        refine hK _ _ ?_
        clear hK K y0 y1 y2 y3
        refine wpAny_ready (rs := [3]) (by kernel_rfl) (by simp) ?_
        refine AllReady.cons rfl (fun K hK => ?_) AllReady.nil
        go_simp
        refine (H1 U.drew hsU).mono ?_
        rintro en w3 ⟨rfl, hb3⟩
        exact ⟨rfl, hbU.trans hb3⟩
      refine AllReady.cons rfl (fun K hK => ?_) AllReady.nil
      go_simp
      refine (H1 U.drew hsU).mono ?_
      rintro en w3 ⟨rfl, hb3⟩
      exact ⟨rfl, hbU.trans hb3⟩
  | ok v =>
    rw [hA] at H1
    have HO := fun w1 q1 c1 h1 hv1 => HO w1 q1 c1 v h1 hv1
    have HE : Hid (bindE (.ok v) (oneE E.es ⟨22, nn, ss, tt⟩) = oneE E.es ⟨22, nn, ss, tt⟩ v) := rfl
    rw [HE.out]
    clear HE
    generalize oneE E.es ⟨22, nn, ss, tt⟩ v = R at *
    cases R with
    | error n =>
      have hbV : Below w.heap.size w (w.alloc (.cells #[.int .i64 22, .int .i64 nn, .string ss, .string tt] 41)).drew := ((Below.refl _ _).alloc (Nat.le_refl _) _).drew
      have hsz : w.heap.size < (w.alloc (.cells #[.int .i64 22, .int .i64 nn, .string ss, .string tt] 41)).drew.heap.size := by show w.heap.size < (w.alloc (.cells #[.int .i64 22, .int .i64 nn, .string ss, .string tt] 41)).heap.size; simp
      have m0 : (w.alloc (.cells #[.int .i64 22, .int .i64 nn, .string ss, .string tt] 41)).drew.cell? ⟨w.heap.size, 0, none⟩ = some (.int .i64 22) := by show (w.alloc (.cells #[.int .i64 22, .int .i64 nn, .string ss, .string tt] 41)).cell? _ = _; simp
      have m1 : (w.alloc (.cells #[.int .i64 22, .int .i64 nn, .string ss, .string tt] 41)).drew.cell? ⟨w.heap.size, 1, none⟩ = some (.int .i64 nn) := by show (w.alloc (.cells #[.int .i64 22, .int .i64 nn, .string ss, .string tt] 41)).cell? _ = _; simp
      have m2 : (w.alloc (.cells #[.int .i64 22, .int .i64 nn, .string ss, .string tt] 41)).drew.cell? ⟨w.heap.size, 2, none⟩ = some (.string ss) := by show (w.alloc (.cells #[.int .i64 22, .int .i64 nn, .string ss, .string tt] 41)).cell? _ = _; simp
      have m3 : (w.alloc (.cells #[.int .i64 22, .int .i64 nn, .string ss, .string tt] 41)).drew.cell? ⟨w.heap.size, 3, none⟩ = some (.string tt) := by show (w.alloc (.cells #[.int .i64 22, .int .i64 nn, .string ss, .string tt] 41)).cell? _ = _; simp
      go_enter Tryz.func51, Tryz.ntmps51
      go_wp2
      go_region
      all_goals
        generalize (w.alloc (.cells #[.int .i64 22, .int .i64 nn, .string ss, .string tt] 41)).drew = V at *
        have hsV := hs.up hbV
        have d9 := hsV.c9
        have f9 := hsV.fz 9
        have hs2 := hsV.setAt (j := k + 1) (by omega)
        have hb2 : BX B w (V.setCell ⟨B, 9, none⟩ (.int .i64 ((k + 1 : Nat) : Int))) := (BX.of_below hbV).set 9 _
        have e9 : ((k + 1 : Nat) : Int) = (k : Int) + 1 := rfl
        rw [e9] at hs2 hb2
        have n0 : (V.setCell ⟨B, 9, none⟩ (.int .i64 ((k : Int) + 1))).cell? ⟨w.heap.size, 0, none⟩ = some (.int .i64 22) := (World.cell?_setCell_other _ _ _ _ (fun e => hB2 (congrArg Addr.block e))).trans m0
        have n1 : (V.setCell ⟨B, 9, none⟩ (.int .i64 ((k : Int) + 1))).cell? ⟨w.heap.size, 1, none⟩ = some (.int .i64 nn) := (World.cell?_setCell_other _ _ _ _ (fun e => hB2 (congrArg Addr.block e))).trans m1
        have n2 : (V.setCell ⟨B, 9, none⟩ (.int .i64 ((k : Int) + 1))).cell? ⟨w.heap.size, 2, none⟩ = some (.string ss) := (World.cell?_setCell_other _ _ _ _ (fun e => hB2 (congrArg Addr.block e))).trans m2
        have n3 : (V.setCell ⟨B, 9, none⟩ (.int .i64 ((k : Int) + 1))).cell? ⟨w.heap.size, 3, none⟩ = some (.string tt) := (World.cell?_setCell_other _ _ _ _ (fun e => hB2 (congrArg Addr.block e))).trans m3
        have hszU : w.heap.size < (V.setCell ⟨B, 9, none⟩ (.int .i64 ((k : Int) + 1))).heap.size := by rw [setc_size]; exact hsz
        go_wp2_with fail
        generalize V.setCell ⟨B, 9, none⟩ (.int .i64 ((k : Int) + 1)) = U at *
        have hbdU : Below U.heap.size U U.drew := (Below.refl _ _).drew
        have hsU := hs2.up hbdU
        have hbU := hb2.up hbdU
        refine wp_mono (Q := fun e a w' => e = .panic (thrownE n) ∧ a.defers = [] ∧ BX B w w') ?_ ?_
        rotate_left
        · rintro _ a w5 ⟨rfl, hd, hb5⟩
          go_wp2
          exact ⟨hd, rfl, hb5⟩
        refine wp_region_any (by kernel_rfl) ?_
        refine wpAny_take (i := 0) (v := ?_) rfl (by kernel_rfl) (by kernel_rfl) (by kernel_rfl) (fun _ _ _ h => h) (Or.inl ⟨by rfl, ?_⟩) ?_
        rotate_left
        · intro w; go_simp; with_reducible rfl
        refine wpAny_take (i := 2) (v := ?_) rfl (by kernel_rfl) (by kernel_rfl) (by kernel_rfl) (fun _ _ _ h => h) (Or.inl ⟨by rfl, ?_⟩) ?_
        rotate_left
        · intro w; go_simp; with_reducible rfl
        refine wpAny_ready (rs := [1, 3]) (by kernel_rfl) (by simp) ?_
        refine AllReady.cons rfl (fun K hK => ?_) ?_
        · have y0 : U.drew.cell? ⟨w.heap.size, 0, none⟩ = some (.int .i64 22) := n0
          have y1 : U.drew.cell? ⟨w.heap.size, 1, none⟩ = some (.int .i64 nn) := n1
          have y2 : U.drew.cell? ⟨w.heap.size, 2, none⟩ = some (.string ss) := n2
          have y3 : U.drew.cell? ⟨w.heap.size, 3, none⟩ = some (.string tt) := n3
          go_simp
          refine hK _ _ ?_
          clear hK K y0 y1 y2 y3
          refine wpAny_ready (rs := [3]) (by kernel_rfl) (by simp) ?_
          refine AllReady.cons rfl (fun K hK => ?_) AllReady.nil
          go_simp
          refine (H1 U.drew hsU).mono ?_
          rintro en w3 ⟨⟨q3, c3, rfl, hv3⟩, hs3, hb3⟩
          refine hK _ _ ?_
          clear hK K
          refine wpAny_ready (rs := [4]) (by kernel_rfl) (by simp) ?_
          refine AllReady.cons rfl (fun K hK => ?_) AllReady.nil
          go_simp
          refine (HO w3 q3 c3 hs3 hv3).mono ?_
          rintro en w4 ⟨h4, hb4⟩
          have h4' : en = .panicked (thrownE n) := h4
          subst h4'
          exact ⟨rfl, (hbU.trans hb3).up hb4⟩
        refine AllReady.cons rfl (fun K hK => ?_) AllReady.nil
        go_simp
        refine (H1 U.drew hsU).mono ?_
        rintro en w3 ⟨⟨q3, c3, rfl, hv3⟩, hs3, hb3⟩
        refine hK _ _ ?_
        clear hK K
        refine wpAny_ready (rs := [1]) (by kernel_rfl) (by simp) ?_
        refine AllReady.cons rfl (fun K hK => ?_) AllReady.nil
        have y0 : w3.cell? ⟨w.heap.size, 0, none⟩ = some (.int .i64 22) := (hb3.cell (p := ⟨w.heap.size, 0, none⟩) hszU hB3).trans n0
        have y1 : w3.cell? ⟨w.heap.size, 1, none⟩ = some (.int .i64 nn) := (hb3.cell (p := ⟨w.heap.size, 1, none⟩) hszU hB3).trans n1
        have y2 : w3.cell? ⟨w.heap.size, 2, none⟩ = some (.string ss) := (hb3.cell (p := ⟨w.heap.size, 2, none⟩) hszU hB3).trans n2
        have y3 : w3.cell? ⟨w.heap.size, 3, none⟩ = some (.string tt) := (hb3.cell (p := ⟨w.heap.size, 3, none⟩) hszU hB3).trans n3
        go_simp
        refine hK _ _ ?_
        clear hK K y0 y1 y2 y3
        refine wpAny_ready (rs := [4]) (by kernel_rfl) (by simp) ?_
        refine AllReady.cons rfl (fun K hK => ?_) AllReady.nil
        go_simp
        refine (HO w3 q3 c3 hs3 hv3).mono ?_
        rintro en w4 ⟨h4, hb4⟩
        have h4' : en = .panicked (thrownE n) := h4
        subst h4'
        exact ⟨rfl, (hbU.trans hb3).up hb4⟩
    | ok u =>
      have hbV : Below w.heap.size w (w.alloc (.cells #[.int .i64 22, .int .i64 nn, .string ss, .string tt] 41)).drew := ((Below.refl _ _).alloc (Nat.le_refl _) _).drew
      have hsz : w.heap.size < (w.alloc (.cells #[.int .i64 22, .int .i64 nn, .string ss, .string tt] 41)).drew.heap.size := by show w.heap.size < (w.alloc (.cells #[.int .i64 22, .int .i64 nn, .string ss, .string tt] 41)).heap.size; simp
      have m0 : (w.alloc (.cells #[.int .i64 22, .int .i64 nn, .string ss, .string tt] 41)).drew.cell? ⟨w.heap.size, 0, none⟩ = some (.int .i64 22) := by show (w.alloc (.cells #[.int .i64 22, .int .i64 nn, .string ss, .string tt] 41)).cell? _ = _; simp
      have m1 : (w.alloc (.cells #[.int .i64 22, .int .i64 nn, .string ss, .string tt] 41)).drew.cell? ⟨w.heap.size, 1, none⟩ = some (.int .i64 nn) := by show (w.alloc (.cells #[.int .i64 22, .int .i64 nn, .string ss, .string tt] 41)).cell? _ = _; simp
      have m2 : (w.alloc (.cells #[.int .i64 22, .int .i64 nn, .string ss, .string tt] 41)).drew.cell? ⟨w.heap.size, 2, none⟩ = some (.string ss) := by show (w.alloc (.cells #[.int .i64 22, .int .i64 nn, .string ss, .string tt] 41)).cell? _ = _; simp
      have m3 : (w.alloc (.cells #[.int .i64 22, .int .i64 nn, .string ss, .string tt] 41)).drew.cell? ⟨w.heap.size, 3, none⟩ = some (.string tt) := by show (w.alloc (.cells #[.int .i64 22, .int .i64 nn, .string ss, .string tt] 41)).cell? _ = _; simp
      go_enter Tryz.func51, Tryz.ntmps51
      go_wp2
      go_region
      all_goals
        generalize (w.alloc (.cells #[.int .i64 22, .int .i64 nn, .string ss, .string tt] 41)).drew = V at *
        have hsV := hs.up hbV
        have d9 := hsV.c9
        have f9 := hsV.fz 9
        have hs2 := hsV.setAt (j := k + 1) (by omega)
        have hb2 : BX B w (V.setCell ⟨B, 9, none⟩ (.int .i64 ((k + 1 : Nat) : Int))) := (BX.of_below hbV).set 9 _
        have e9 : ((k + 1 : Nat) : Int) = (k : Int) + 1 := rfl
        rw [e9] at hs2 hb2
        have n0 : (V.setCell ⟨B, 9, none⟩ (.int .i64 ((k : Int) + 1))).cell? ⟨w.heap.size, 0, none⟩ = some (.int .i64 22) := (World.cell?_setCell_other _ _ _ _ (fun e => hB2 (congrArg Addr.block e))).trans m0
        have n1 : (V.setCell ⟨B, 9, none⟩ (.int .i64 ((k : Int) + 1))).cell? ⟨w.heap.size, 1, none⟩ = some (.int .i64 nn) := (World.cell?_setCell_other _ _ _ _ (fun e => hB2 (congrArg Addr.block e))).trans m1
        have n2 : (V.setCell ⟨B, 9, none⟩ (.int .i64 ((k : Int) + 1))).cell? ⟨w.heap.size, 2, none⟩ = some (.string ss) := (World.cell?_setCell_other _ _ _ _ (fun e => hB2 (congrArg Addr.block e))).trans m2
        have n3 : (V.setCell ⟨B, 9, none⟩ (.int .i64 ((k : Int) + 1))).cell? ⟨w.heap.size, 3, none⟩ = some (.string tt) := (World.cell?_setCell_other _ _ _ _ (fun e => hB2 (congrArg Addr.block e))).trans m3
        have hszU : w.heap.size < (V.setCell ⟨B, 9, none⟩ (.int .i64 ((k : Int) + 1))).heap.size := by rw [setc_size]; exact hsz
        go_wp2_with fail
        generalize V.setCell ⟨B, 9, none⟩ (.int .i64 ((k : Int) + 1)) = U at *
        have hbdU : Below U.heap.size U U.drew := (Below.refl _ _).drew
        have hsU := hs2.up hbdU
        have hbU := hb2.up hbdU
        refine wp_mono (Q := fun e a w' => e = .normal ∧ a.defers = [] ∧ (∃ q c, a.tmps[2]? = some (.slice q u.length c) ∧ VArg w' u u.length q c) ∧ AS E w' B (E.e.length - r.length) ∧ BX B w w') ?_ ?_
        rotate_left
        · rintro _ a w5 ⟨rfl, hd, ⟨q5, c5, ht, hv5⟩, hs5, hb5⟩
          go_wp2
          exact bodyPost_ret (v := .slice q5 u.length c5) (by simp [results, Tryz.results51, go_sem, ht]) hd ⟨⟨q5, c5, rfl, hv5⟩, hs5, hb5⟩
        refine wp_region_any (by kernel_rfl) ?_
        refine wpAny_take (i := 0) (v := ?_) rfl (by kernel_rfl) (by kernel_rfl) (by kernel_rfl) (fun _ _ _ h => by cases h.1) (Or.inl ⟨by rfl, ?_⟩) ?_
        rotate_left
        · intro w; go_simp; with_reducible rfl
        refine wpAny_take (i := 2) (v := ?_) rfl (by kernel_rfl) (by kernel_rfl) (by kernel_rfl) (fun _ _ _ h => by cases h.1) (Or.inl ⟨by rfl, ?_⟩) ?_
        rotate_left
        · intro w; go_simp; with_reducible rfl
        refine wpAny_ready (rs := [1, 3]) (by kernel_rfl) (by simp) ?_
        refine AllReady.cons rfl (fun K hK => ?_) ?_
        · have y0 : U.drew.cell? ⟨w.heap.size, 0, none⟩ = some (.int .i64 22) := n0
          have y1 : U.drew.cell? ⟨w.heap.size, 1, none⟩ = some (.int .i64 nn) := n1
          have y2 : U.drew.cell? ⟨w.heap.size, 2, none⟩ = some (.string ss) := n2
          have y3 : U.drew.cell? ⟨w.heap.size, 3, none⟩ = some (.string tt) := n3
          go_simp
          refine hK _ _ ?_
          clear hK K y0 y1 y2 y3
          refine wpAny_ready (rs := [3]) (by kernel_rfl) (by simp) ?_
          refine AllReady.cons rfl (fun K hK => ?_) AllReady.nil
          go_simp
          refine (H1 U.drew hsU).mono ?_
          rintro en w3 ⟨⟨q3, c3, rfl, hv3⟩, hs3, hb3⟩
          refine hK _ _ ?_
          clear hK K
          refine wpAny_ready (rs := [4]) (by kernel_rfl) (by simp) ?_
          refine AllReady.cons rfl (fun K hK => ?_) AllReady.nil
          go_simp
          refine (HO w3 q3 c3 hs3 hv3).mono ?_
          rintro en w4 ⟨⟨q4, c4, rfl, hv4⟩, hb4⟩
          refine hK _ _ ?_
          clear hK K
          refine wpAny_take (i := 5) (v := ?_) rfl (by kernel_rfl) (by kernel_rfl) (by kernel_rfl) (fun _ _ _ h => by cases h.1) (Or.inl ⟨by rfl, ?_⟩) ?_
          rotate_left
          · intro w; go_simp; with_reducible rfl
          refine wpAny_done (by kernel_rfl) ?_ _
          exact ⟨rfl, rfl, ⟨q4, c4, rfl, hv4⟩, hs3.up hb4, (hbU.trans hb3).up hb4⟩
        refine AllReady.cons rfl (fun K hK => ?_) AllReady.nil
        go_simp
        refine (H1 U.drew hsU).mono ?_
        rintro en w3 ⟨⟨q3, c3, rfl, hv3⟩, hs3, hb3⟩
        refine hK _ _ ?_
        clear hK K
        refine wpAny_ready (rs := [1]) (by kernel_rfl) (by simp) ?_
        refine AllReady.cons rfl (fun K hK => ?_) AllReady.nil
        have y0 : w3.cell? ⟨w.heap.size, 0, none⟩ = some (.int .i64 22) := (hb3.cell (p := ⟨w.heap.size, 0, none⟩) hszU hB3).trans n0
        have y1 : w3.cell? ⟨w.heap.size, 1, none⟩ = some (.int .i64 nn) := (hb3.cell (p := ⟨w.heap.size, 1, none⟩) hszU hB3).trans n1
        have y2 : w3.cell? ⟨w.heap.size, 2, none⟩ = some (.string ss) := (hb3.cell (p := ⟨w.heap.size, 2, none⟩) hszU hB3).trans n2
        have y3 : w3.cell? ⟨w.heap.size, 3, none⟩ = some (.string tt) := (hb3.cell (p := ⟨w.heap.size, 3, none⟩) hszU hB3).trans n3
        go_simp
        refine hK _ _ ?_
        clear hK K y0 y1 y2 y3
        refine wpAny_ready (rs := [4]) (by kernel_rfl) (by simp) ?_
        refine AllReady.cons rfl (fun K hK => ?_) AllReady.nil
        go_simp
        refine (HO w3 q3 c3 hs3 hv3).mono ?_
        rintro en w4 ⟨⟨q4, c4, rfl, hv4⟩, hb4⟩
        refine hK _ _ ?_
        clear hK K
        refine wpAny_take (i := 5) (v := ?_) rfl (by kernel_rfl) (by kernel_rfl) (by kernel_rfl) (fun _ _ _ h => by cases h.1) (Or.inl ⟨by rfl, ?_⟩) ?_
        rotate_left
        · intro w; go_simp; with_reducible rfl
        refine wpAny_done (by kernel_rfl) ?_ _
        exact ⟨rfl, rfl, ⟨q4, c4, rfl, hv4⟩, hs3.up hb4, (hbU.trans hb3).up hb4⟩
end
end Go.Proofs.YtnilaghbbhmkgaaGreatDoor
