/- Package eval: value at operators with one part, by a walk of its own text (written by a script of our own). Package eval: value of any expression, by the bound. -/
import Derived.Test.YtnilaghbbhmkgaaGreatDoorF43
import Derived.Test.YtnilaghbbhmkgaaGreatDoorF44
namespace Go.Proofs.YtnilaghbbhmkgaaGreatDoor
open Go.RowKit
set_option linter.unusedVariables false
set_option linter.unusedSimpArgs false
set_option linter.unusedSectionVars false
set_option maxRecDepth 100000

section
variable {E : EvEnv} {B f : Nat} (ho : E.Ok) (hf : f ≤ E.e.length + 1) (hV : ValOk E B f) (w : World) (k : Nat) (x : Nd) (m r s t : List Nd)
include ho hf hV
set_option maxHeartbeats 2000000 in
theorem value_one23 (hs : AS E w B k) (hv : E.e.drop k = x :: m) (hx : exOk x = true) (h9 : x.op = 23) (p1 : pastE f m = some r) :
    Calls Tryz.prog 51 #[.pointer (some ⟨B, 0, none⟩)] w (VE E B (E.e.length - r.length) w (bindE (evE E.es E.q f m) (oneE E.es x))) := by
  have hk : k < E.e.length := by
    have := congrArg List.length hv
    simp only [List.length_drop, List.length_cons] at this
    omega
  have hxk : E.e[k] = x := by
    have := congrArg List.head? hv
    rw [List.head?_drop, List.head?_cons, List.getElem?_eq_getElem hk] at this
    exact Option.some.inj this
  have hm1 : E.e.drop (k + 1) = m := by
    have := congrArg List.tail hv
    rwa [List.tail_drop, List.tail_cons] at this
  have c8 := hs.c8
  have c9 := hs.c9
  obtain ⟨bq, oq, hpq, hbq, x0, x1, x2, x3, xw⟩ := (hs.ne ho).at hk
  rw [hxk] at x0 x1 x2 x3 xw
  rw [hpq] at c8
  have i2 : (k : Int) < (E.e.length : Int) := by omega
  have i3 : (k : Int) ≤ 200 := by have := ho.len; omega
  have hlt := hs.lt
  have hB2 : ¬ B = w.heap.size := by omega
  have hB3 : ¬ w.heap.size = B := by omega
  have hw9 : IntKind.i64.wrap ((k : Int) + 1) = (k : Int) + 1 := by rw [IntKind.wrap_i64]; omega
  have HO := fun w1 q1 c1 v (h1 : AS E w1 B (E.e.length - r.length)) (hv1 : VArg w1 v v.length q1 c1) => ofOne_any w1 B _ v v.length q1 c1 x (by omega) hx ho h1 hv1
  have H1 := fun w1 (h1 : AS E w1 B (k + 1)) => val_at hV w1 (k + 1) m r _ _ h1 hm1 p1 rfl rfl
  unfold nodeV at HO
  obtain ⟨op, nn, ss, tt⟩ := x
  dsimp only at *
  subst h9
  cases hA : evE E.es E.q f m with
  | error n =>
    rw [hA] at H1
    have HE : Hid (bindE (.error n) (oneE E.es ⟨23, nn, ss, tt⟩) = .error n) := rfl
    rw [HE.out]
    clear HO HE
    have hbV : Below w.heap.size w (w.alloc (.cells #[.int .i64 23, .int .i64 nn, .string ss, .string tt] 41)).drew := ((Below.refl _ _).alloc (Nat.le_refl _) _).drew
    have hsz : w.heap.size < (w.alloc (.cells #[.int .i64 23, .int .i64 nn, .string ss, .string tt] 41)).drew.heap.size := by show w.heap.size < (w.alloc (.cells #[.int .i64 23, .int .i64 nn, .string ss, .string tt] 41)).heap.size; simp
    have m0 : (w.alloc (.cells #[.int .i64 23, .int .i64 nn, .string ss, .string tt] 41)).drew.cell? ⟨w.heap.size, 0, none⟩ = some (.int .i64 23) := by show (w.alloc (.cells #[.int .i64 23, .int .i64 nn, .string ss, .string tt] 41)).cell? _ = _; simp
    have m1 : (w.alloc (.cells #[.int .i64 23, .int .i64 nn, .string ss, .string tt] 41)).drew.cell? ⟨w.heap.size, 1, none⟩ = some (.int .i64 nn) := by show (w.alloc (.cells #[.int .i64 23, .int .i64 nn, .string ss, .string tt] 41)).cell? _ = _; simp
    have m2 : (w.alloc (.cells #[.int .i64 23, .int .i64 nn, .string ss, .string tt] 41)).drew.cell? ⟨w.heap.size, 2, none⟩ = some (.string ss) := by show (w.alloc (.cells #[.int .i64 23, .int .i64 nn, .string ss, .string tt] 41)).cell? _ = _; simp
    have m3 : (w.alloc (.cells #[.int .i64 23, .int .i64 nn, .string ss, .string tt] 41)).drew.cell? ⟨w.heap.size, 3, none⟩ = some (.string tt) := by show (w.alloc (.cells #[.int .i64 23, .int .i64 nn, .string ss, .string tt] 41)).cell? _ = _; simp
    go_enter Tryz.func51, Tryz.ntmps51
    go_wp2
    go_region
    all_goals
      generalize (w.alloc (.cells #[.int .i64 23, .int .i64 nn, .string ss, .string tt] 41)).drew = V at *
      have hsV := hs.up hbV
      have d9 := hsV.c9
      have f9 := hsV.fz 9
      have hs2 := hsV.setAt (j := k + 1) (by omega)
      have hb2 : BX B w (V.setCell ⟨B, 9, none⟩ (.int .i64 ((k + 1 : Nat) : Int))) := (BX.of_below hbV).set 9 _
      have e9 : ((k + 1 : Nat) : Int) = (k : Int) + 1 := rfl
      rw [e9] at hs2 hb2
      have n0 : (V.setCell ⟨B, 9, none⟩ (.int .i64 ((k : Int) + 1))).cell? ⟨w.heap.size, 0, none⟩ = some (.int .i64 23) := (World.cell?_setCell_other _ _ _ _ (fun e => hB2 (congrArg Addr.block e))).trans m0
      have n1 : (V.setCell ⟨B, 9, none⟩ (.int .i64 ((k : Int) + 1))).cell? ⟨w.heap.size, 1, none⟩ = some (.int .i64 nn) := (World.cell?_setCell_other _ _ _ _ (fun e => hB2 (congrArg Addr.block e))).trans m1
      have n2 : (V.setCell ⟨B, 9, none⟩ (.int .i64 ((k : Int) + 1))).cell? ⟨w.heap.size, 2, none⟩ = some (.string ss) := (World.cell?_setCell_other _ _ _ _ (fun e => hB2 (congrArg Addr.block e))).trans m2
      have n3 : (V.setCell ⟨B, 9, none⟩ (.int .i64 ((k : Int) + 1))).cell? ⟨w.heap.size, 3, none⟩ = some (.string tt) := (World.cell?_setCell_other _ _ _ _ (fun e => hB2 (congrArg Addr.block e))).trans m3
      have hszU : w.heap.size < (V.setCell ⟨B, 9, none⟩ (.int .i64 ((k : Int) + 1))).heap.size := by rw [setc_size]; exact hsz
      go_wp2_with fail
      generalize V.setCell ⟨B, 9, none⟩ (.int .i64 ((k : Int) + 1)) = U at *
      have hbdU : Below U.heap.size U U.drew := (Below.refl _ _).drew
      have hsU := hs2.up hbdU
      have hbU := hb2.up hbdU
      refine wp_mono (Q := fun e a w' => e = .panic (thrownE n) ∧ a.defers = [] ∧ BX B w w') ?_ ?_
      rotate_left
      · rintro _ a w5 ⟨rfl, hd, hb5⟩
        go_wp2
        exact ⟨hd, rfl, hb5⟩
      refine wp_region_any (by kernel_rfl) ?_
      refine wpAny_take (i := 0) (v := ?_) rfl (by kernel_rfl) (by kernel_rfl) (by kernel_rfl) (fun _ _ _ h => h) (Or.inl ⟨by rfl, ?_⟩) ?_
      rotate_left
      · intro w; go_simp; with_reducible rfl
      refine wpAny_take (i := 2) (v := ?_) rfl (by kernel_rfl) (by kernel_rfl) (by kernel_rfl) (fun _ _ _ h => h) (Or.inl ⟨by rfl, ?_⟩) ?_
      rotate_left
      · intro w; go_simp; with_reducible rfl
      refine wpAny_ready (rs := [1, 3]) (by kernel_rfl) (by simp) ?_
      refine AllReady.cons rfl (fun K hK => ?_) ?_
      · have y0 : U.drew.cell? ⟨w.heap.size, 0, none⟩ = some (.int .i64 23) := n0
        have y1 : U.drew.cell? ⟨w.heap.size, 1, none⟩ = some (.int .i64 nn) := n1
        have y2 : U.drew.cell? ⟨w.heap.size, 2, none⟩ = some (.string ss) := n2
        have y3 : U.drew.cell? ⟨w.heap.size, 3, none⟩ = some (.string tt) := n3
        go_simp
        refine hK _ _ ?_
        clear hK K y0 y1 y2 y3
        refine wpAny_ready (rs := [3]) (by kernel_rfl) (by simp) ?_
        refine AllReady.cons rfl (fun K hK => ?_) AllReady.nil
        go_simp
        refine (H1 U.drew hsU).mono ?_
        rintro en w3 ⟨rfl, hb3⟩
        exact ⟨rfl, hbU.trans hb3⟩
      refine AllReady.cons rfl (fun K hK => ?_) AllReady.nil
      go_simp
      refine (H1 U.drew hsU).mono ?_
      rintro en w3 ⟨rfl, hb3⟩
      exact ⟨rfl, hbU.trans hb3⟩
  | ok v =>
    rw [hA] at H1
    have HO := fun w1 q1 c1 h1 hv1 => HO w1 q1 c1 v h1 hv1
    have HE : Hid (bindE (.ok v) (oneE E.es ⟨23, nn, ss, tt⟩) = oneE E.es ⟨23, nn, ss, tt⟩ v) := rfl
    rw [HE.out]
    clear HE
    generalize oneE E.es ⟨23, nn, ss, tt⟩ v = R at *
    cases R with
    | error n =>
      have hbV : Below w.heap.size w (w.alloc (.cells #[.int .i64 23, .int .i64 nn, .string ss, .string tt] 41)).drew := ((Below.refl _ _).alloc (Nat.le_refl _) _).drew
      have hsz : w.heap.size < (w.alloc (.cells #[.int .i64 23, .int .i64 nn, .string ss, .string tt] 41)).drew.heap.size := by show w.heap.size < (w.alloc (.cells #[.int .i64 23, .int .i64 nn, .string ss, .string tt] 41)).heap.size; simp
      have m0 : (w.alloc (.cells #[.int .i64 23, .int .i64 nn, .string ss, .string tt] 41)).drew.cell? ⟨w.heap.size, 0, none⟩ = some (.int .i64 23) := by show (w.alloc (.cells #[.int .i64 23, .int .i64 nn, .string ss, .string tt] 41)).cell? _ = _; simp
      have m1 : (w.alloc (.cells #[.int .i64 23, .int .i64 nn, .string ss, .string tt] 41)).drew.cell? ⟨w.heap.size, 1, none⟩ = some (.int .i64 nn) := by show (w.alloc (.cells #[.int .i64 23, .int .i64 nn, .string ss, .string tt] 41)).cell? _ = _; simp
      have m2 : (w.alloc (.cells #[.int .i64 23, .int .i64 nn, .string ss, .string tt] 41)).drew.cell? ⟨w.heap.size, 2, none⟩ = some (.string ss) := by show (w.alloc (.cells #[.int .i64 23, .int .i64 nn, .string ss, .string tt] 41)).cell? _ = _; simp
      have m3 : (w.alloc (.cells #[.int .i64 23, .int .i64 nn, .string ss, .string tt] 41)).drew.cell? ⟨w.heap.size, 3, none⟩ = some (.string tt) := by show (w.alloc (.cells #[.int .i64 23, .int .i64 nn, .string ss, .string tt] 41)).cell? _ = _; simp
      go_enter Tryz.func51, Tryz.ntmps51
      go_wp2
      go_region
      all_goals
        generalize (w.alloc (.cells #[.int .i64 23, .int .i64 nn, .string ss, .string tt] 41)).drew = V at *
        have hsV := hs.up hbV
        have d9 := hsV.c9
        have f9 := hsV.fz 9
        have hs2 := hsV.setAt (j := k + 1) (by omega)
        have hb2 : BX B w (V.setCell ⟨B, 9, none⟩ (.int .i64 ((k + 1 : Nat) : Int))) := (BX.of_below hbV).set 9 _
        have e9 : ((k + 1 : Nat) : Int) = (k : Int) + 1 := rfl
        rw [e9] at hs2 hb2
        have n0 : (V.setCell ⟨B, 9, none⟩ (.int .i64 ((k : Int) + 1))).cell? ⟨w.heap.size, 0, none⟩ = some (.int .i64 23) := (World.cell?_setCell_other _ _ _ _ (fun e => hB2 (congrArg Addr.block e))).trans m0
        have n1 : (V.setCell ⟨B, 9, none⟩ (.int .i64 ((k : Int) + 1))).cell? ⟨w.heap.size, 1, none⟩ = some (.int .i64 nn) := (World.cell?_setCell_other _ _ _ _ (fun e => hB2 (congrArg Addr.block e))).trans m1
        have n2 : (V.setCell ⟨B, 9, none⟩ (.int .i64 ((k : Int) + 1))).cell? ⟨w.heap.size, 2, none⟩ = some (.string ss) := (World.cell?_setCell_other _ _ _ _ (fun e => hB2 (congrArg Addr.block e))).trans m2
        have n3 : (V.setCell ⟨B, 9, none⟩ (.int .i64 ((k : Int) + 1))).cell? ⟨w.heap.size, 3, none⟩ = some (.string tt) := (World.cell?_setCell_other _ _ _ _ (fun e => hB2 (congrArg Addr.block e))).trans m3
        have hszU : w.heap.size < (V.setCell ⟨B, 9, none⟩ (.int .i64 ((k : Int) + 1))).heap.size := by rw [setc_size]; exact hsz
        go_wp2_with fail
        generalize V.setCell ⟨B, 9, none⟩ (.int .i64 ((k : Int) + 1)) = U at *
        have hbdU : Below U.heap.size U U.drew := (Below.refl _ _).drew
        have hsU := hs2.up hbdU
        have hbU := hb2.up hbdU
        refine wp_mono (Q := fun e a w' => e = .panic (thrownE n) ∧ a.defers = [] ∧ BX B w w') ?_ ?_
        rotate_left
        · rintro _ a w5 ⟨rfl, hd, hb5⟩
          go_wp2
          exact ⟨hd, rfl, hb5⟩
        refine wp_region_any (by kernel_rfl) ?_
        refine wpAny_take (i := 0) (v := ?_) rfl (by kernel_rfl) (by kernel_rfl) (by kernel_rfl) (fun _ _ _ h => h) (Or.inl ⟨by rfl, ?_⟩) ?_
        rotate_left
        · intro w; go_simp; with_reducible rfl
        refine wpAny_take (i := 2) (v := ?_) rfl (by kernel_rfl) (by kernel_rfl) (by kernel_rfl) (fun _ _ _ h => h) (Or.inl ⟨by rfl, ?_⟩) ?_
        rotate_left
        · intro w; go_simp; with_reducible rfl
        refine wpAny_ready (rs := [1, 3]) (by kernel_rfl) (by simp) ?_
        refine AllReady.cons rfl (fun K hK => ?_) ?_
        · have y0 : U.drew.cell? ⟨w.heap.size, 0, none⟩ = some (.int .i64 23) := n0
          have y1 : U.drew.cell? ⟨w.heap.size, 1, none⟩ = some (.int .i64 nn) := n1
          have y2 : U.drew.cell? ⟨w.heap.size, 2, none⟩ = some (.string ss) := n2
          have y3 : U.drew.cell? ⟨w.heap.size, 3, none⟩ = some (.string tt) := n3
          go_simp
          refine hK _ _ ?_
          clear hK K y0 y1 y2 y3
          refine wpAny_ready (rs := [3]) (by kernel_rfl) (by simp) ?_
          refine AllReady.cons rfl (fun K hK => ?_) AllReady.nil
          go_simp
          refine (H1 U.drew hsU).mono ?_
          rintro en w3 ⟨⟨q3, c3, rfl, hv3⟩, hs3, hb3⟩
          refine hK _ _ ?_
          clear hK K
          refine wpAny_ready (rs := [4]) (by kernel_rfl) (by simp) ?_
          refine AllReady.cons rfl (fun K hK => ?_) AllReady.nil
          go_simp
          refine (HO w3 q3 c3 hs3 hv3).mono ?_
          rintro en w4 ⟨h4, hb4⟩
          have h4' : en = .panicked (thrownE n) := h4
          subst h4'
          exact ⟨rfl, (hbU.trans hb3).up hb4⟩
        refine AllReady.cons rfl (fun K hK => ?_) AllReady.nil
        go_simp
        refine (H1 U.drew hsU).mono ?_
        rintro en w3 ⟨⟨q3, c3, rfl, hv3⟩, hs3, hb3⟩
        refine hK _ _ ?_
        clear hK K
        refine wpAny_ready (rs := [1]) (by kernel_rfl) (by simp) ?_
        refine AllReady.cons rfl (fun K hK => ?_) AllReady.nil
        have y0 : w3.cell? ⟨w.heap.size, 0, none⟩ = some (.int .i64 23) := (hb3.cell (p := ⟨w.heap.size, 0, none⟩) hszU hB3).trans n0
        have y1 : w3.cell? ⟨w.heap.size, 1, none⟩ = some (.int .i64 nn) := (hb3.cell (p := ⟨w.heap.size, 1, none⟩) hszU hB3).trans n1
        have y2 : w3.cell? ⟨w.heap.size, 2, none⟩ = some (.string ss) := (hb3.cell (p := ⟨w.heap.size, 2, none⟩) hszU hB3).trans n2
        have y3 : w3.cell? ⟨w.heap.size, 3, none⟩ = some (.string tt) := (hb3.cell (p := ⟨w.heap.size, 3, none⟩) hszU hB3).trans n3
        go_simp
        refine hK _ _ ?_
        clear hK K y0 y1 y2 y3
        refine wpAny_ready (rs := [4]) (by kernel_rfl) (by simp) ?_
        refine AllReady.cons rfl (fun K hK => ?_) AllReady.nil
        go_simp
        refine (HO w3 q3 c3 hs3 hv3).mono ?_
        rintro en w4 ⟨h4, hb4⟩
        have h4' : en = .panicked (thrownE n) := h4
        subst h4'
        exact ⟨rfl, (hbU.trans hb3).up hb4⟩
    | ok u =>
      have hbV : Below w.heap.size w (w.alloc (.cells #[.int .i64 23, .int .i64 nn, .string ss, .string tt] 41)).drew := ((Below.refl _ _).alloc (Nat.le_refl _) _).drew
      have hsz : w.heap.size < (w.alloc (.cells #[.int .i64 23, .int .i64 nn, .string ss, .string tt] 41)).drew.heap.size := by show w.heap.size < (w.alloc (.cells #[.int .i64 23, .int .i64 nn, .string ss, .string tt] 41)).heap.size; simp
      have m0 : (w.alloc (.cells #[.int .i64 23, .int .i64 nn, .string ss, .string tt] 41)).drew.cell? ⟨w.heap.size, 0, none⟩ = some (.int .i64 23) := by show (w.alloc (.cells #[.int .i64 23, .int .i64 nn, .string ss, .string tt] 41)).cell? _ = _; simp
      have m1 : (w.alloc (.cells #[.int .i64 23, .int .i64 nn, .string ss, .string tt] 41)).drew.cell? ⟨w.heap.size, 1, none⟩ = some (.int .i64 nn) := by show (w.alloc (.cells #[.int .i64 23, .int .i64 nn, .string ss, .string tt] 41)).cell? _ = _; simp
      have m2 : (w.alloc (.cells #[.int .i64 23, .int .i64 nn, .string ss, .string tt] 41)).drew.cell? ⟨w.heap.size, 2, none⟩ = some (.string ss) := by show (w.alloc (.cells #[.int .i64 23, .int .i64 nn, .string ss, .string tt] 41)).cell? _ = _; simp
      have m3 : (w.alloc (.cells #[.int .i64 23, .int .i64 nn, .string ss, .string tt] 41)).drew.cell? ⟨w.heap.size, 3, none⟩ = some (.string tt) := by show (w.alloc (.cells #[.int .i64 23, .int .i64 nn, .string ss, .string tt] 41)).cell? _ = _; simp
      go_enter Tryz.func51, Tryz.ntmps51
      go_wp2
      go_region
      all_goals
        generalize (w.alloc (.cells #[.int .i64 23, .int .i64 nn, .string ss, .string tt] 41)).drew = V at *
        have hsV := hs.up hbV
        have d9 := hsV.c9
        have f9 := hsV.fz 9
        have hs2 := hsV.setAt (j := k + 1) (by omega)
        have hb2 : BX B w (V.setCell ⟨B, 9, none⟩ (.int .i64 ((k + 1 : Nat) : Int))) := (BX.of_below hbV).set 9 _
        have e9 : ((k + 1 : Nat) : Int) = (k : Int) + 1 := rfl
        rw [e9] at hs2 hb2
        have n0 : (V.setCell ⟨B, 9, none⟩ (.int .i64 ((k : Int) + 1))).cell? ⟨w.heap.size, 0, none⟩ = some (.int .i64 23) := (World.cell?_setCell_other _ _ _ _ (fun e => hB2 (congrArg Addr.block e))).trans m0
        have n1 : (V.setCell ⟨B, 9, none⟩ (.int .i64 ((k : Int) + 1))).cell? ⟨w.heap.size, 1, none⟩ = some (.int .i64 nn) := (World.cell?_setCell_other _ _ _ _ (fun e => hB2 (congrArg Addr.block e))).trans m1
        have n2 : (V.setCell ⟨B, 9, none⟩ (.int .i64 ((k : Int) + 1))).cell? ⟨w.heap.size, 2, none⟩ = some (.string ss) := (World.cell?_setCell_other _ _ _ _ (fun e => hB2 (congrArg Addr.block e))).trans m2
        have n3 : (V.setCell ⟨B, 9, none⟩ (.int .i64 ((k : Int) + 1))).cell? ⟨w.heap.size, 3, none⟩ = some (.string tt) := (World.cell?_setCell_other _ _ _ _ (fun e => hB2 (congrArg Addr.block e))).trans m3
        have hszU : w.heap.size < (V.setCell ⟨B, 9, none⟩ (.int .i64 ((k : Int) + 1))).heap.size := by rw [setc_size]; exact hsz
        go_wp2_with fail
        generalize V.setCell ⟨B, 9, none⟩ (.int .i64 ((k : Int) + 1)) = U at *
        have hbdU : Below U.heap.size U U.drew := (Below.refl _ _).drew
        have hsU := hs2.up hbdU
        have hbU := hb2.up hbdU
        refine wp_mono (Q := fun e a w' => e = .normal ∧ a.defers = [] ∧ (∃ q c, a.tmps[2]? = some (.slice q u.length c) ∧ VArg w' u u.length q c) ∧ AS E w' B (E.e.length - r.length) ∧ BX B w w') ?_ ?_
        rotate_left
        · rintro _ a w5 ⟨rfl, hd, ⟨q5, c5, ht, hv5⟩, hs5, hb5⟩
          go_wp2
          exact bodyPost_ret (v := .slice q5 u.length c5) (by simp [results, Tryz.results51, go_sem, ht]) hd ⟨⟨q5, c5, rfl, hv5⟩, hs5, hb5⟩
        refine wp_region_any (by kernel_rfl) ?_
        refine wpAny_take (i := 0) (v := ?_) rfl (by kernel_rfl) (by kernel_rfl) (by kernel_rfl) (fun _ _ _ h => by cases h.1) (Or.inl ⟨by rfl, ?_⟩) ?_
        rotate_left
        · intro w; go_simp; with_reducible rfl
        refine wpAny_take (i := 2) (v := ?_) rfl (by kernel_rfl) (by kernel_rfl) (by kernel_rfl) (fun _ _ _ h => by cases h.1) (Or.inl ⟨by rfl, ?_⟩) ?_
        rotate_left
        · intro w; go_simp; with_reducible rfl
        refine wpAny_ready (rs := [1, 3]) (by kernel_rfl) (by simp) ?_
        refine AllReady.cons rfl (fun K hK => ?_) ?_
        · have y0 : U.drew.cell? ⟨w.heap.size, 0, none⟩ = some (.int .i64 23) := n0
          have y1 : U.drew.cell? ⟨w.heap.size, 1, none⟩ = some (.int .i64 nn) := n1
          have y2 : U.drew.cell? ⟨w.heap.size, 2, none⟩ = some (.string ss) := n2
          have y3 : U.drew.cell? ⟨w.heap.size, 3, none⟩ = some (.string tt) := n3
          go_simp
          refine hK _ _ ?_
          clear hK K y0 y1 y2 y3
          refine wpAny_ready (rs := [3]) (by kernel_rfl) (by simp) ?_
          refine AllReady.cons rfl (fun K hK => ?_) AllReady.nil
          go_simp
          refine (H1 U.drew hsU).mono ?_
          rintro en w3 ⟨⟨q3, c3, rfl, hv3⟩, hs3, hb3⟩
          refine hK _ _ ?_
          clear hK K
          refine wpAny_ready (rs := [4]) (by kernel_rfl) (by simp) ?_
          refine AllReady.cons rfl (fun K hK => ?_) AllReady.nil
          go_simp
          refine (HO w3 q3 c3 hs3 hv3).mono ?_
          rintro en w4 ⟨⟨q4, c4, rfl, hv4⟩, hb4⟩
          refine hK _ _ ?_
          clear hK K
          refine wpAny_take (i := 5) (v := ?_) rfl (by kernel_rfl) (by kernel_rfl) (by kernel_rfl) (fun _ _ _ h => by cases h.1) (Or.inl ⟨by rfl, ?_⟩) ?_
          rotate_left
          · intro w; go_simp; with_reducible rfl
          refine wpAny_done (by kernel_rfl) ?_ _
          exact ⟨rfl, rfl, ⟨q4, c4, rfl, hv4⟩, hs3.up hb4, (hbU.trans hb3).up hb4⟩
        refine AllReady.cons rfl (fun K hK => ?_) AllReady.nil
        go_simp
        refine (H1 U.drew hsU).mono ?_
        rintro en w3 ⟨⟨q3, c3, rfl, hv3⟩, hs3, hb3⟩
        refine hK _ _ ?_
        clear hK K
        refine wpAny_ready (rs := [1]) (by kernel_rfl) (by simp) ?_
        refine AllReady.cons rfl (fun K hK => ?_) AllReady.nil
        have y0 : w3.cell? ⟨w.heap.size, 0, none⟩ = some (.int .i64 23) := (hb3.cell (p := ⟨w.heap.size, 0, none⟩) hszU hB3).trans n0
        have y1 : w3.cell? ⟨w.heap.size, 1, none⟩ = some (.int .i64 nn) := (hb3.cell (p := ⟨w.heap.size, 1, none⟩) hszU hB3).trans n1
        have y2 : w3.cell? ⟨w.heap.size, 2, none⟩ = some (.string ss) := (hb3.cell (p := ⟨w.heap.size, 2, none⟩) hszU hB3).trans n2
        have y3 : w3.cell? ⟨w.heap.size, 3, none⟩ = some (.string tt) := (hb3.cell (p := ⟨w.heap.size, 3, none⟩) hszU hB3).trans n3
        go_simp
        refine hK _ _ ?_
        clear hK K y0 y1 y2 y3
        refine wpAny_ready (rs := [4]) (by kernel_rfl) (by simp) ?_
        refine AllReady.cons rfl (fun K hK => ?_) AllReady.nil
        go_simp
        refine (HO w3 q3 c3 hs3 hv3).mono ?_
        rintro en w4 ⟨⟨q4, c4, rfl, hv4⟩, hb4⟩
        refine hK _ _ ?_
        clear hK K
        refine wpAny_take (i := 5) (v := ?_) rfl (by kernel_rfl) (by kernel_rfl) (by kernel_rfl) (fun _ _ _ h => by cases h.1) (Or.inl ⟨by rfl, ?_⟩) ?_
        rotate_left
        · intro w; go_simp; with_reducible rfl
        refine wpAny_done (by kernel_rfl) ?_ _
        exact ⟨rfl, rfl, ⟨q4, c4, rfl, hv4⟩, hs3.up hb4, (hbU.trans hb3).up hb4⟩
set_option maxHeartbeats 2000000 in
theorem value_one24 (hs : AS E w B k) (hv : E.e.drop k = x :: m) (hx : exOk x = true) (h9 : x.op = 24) (p1 : pastE f m = some r) :
    Calls Tryz.prog 51 #[.pointer (some ⟨B, 0, none⟩)] w (VE E B (E.e.length - r.length) w (bindE (evE E.es E.q f m) (oneE E.es x))) := by
  have hk : k < E.e.length := by
    have := congrArg List.length hv
    simp only [List.length_drop, List.length_cons] at this
    omega
  have hxk : E.e[k] = x := by
    have := congrArg List.head? hv
    rw [List.head?_drop, List.head?_cons, List.getElem?_eq_getElem hk] at this
    exact Option.some.inj this
  have hm1 : E.e.drop (k + 1) = m := by
    have := congrArg List.tail hv
    rwa [List.tail_drop, List.tail_cons] at this
  have c8 := hs.c8
  have c9 := hs.c9
  obtain ⟨bq, oq, hpq, hbq, x0, x1, x2, x3, xw⟩ := (hs.ne ho).at hk
  rw [hxk] at x0 x1 x2 x3 xw
  rw [hpq] at c8
  have i2 : (k : Int) < (E.e.length : Int) := by omega
  have i3 : (k : Int) ≤ 200 := by have := ho.len; omega
  have hlt := hs.lt
  have hB2 : ¬ B = w.heap.size := by omega
  have hB3 : ¬ w.heap.size = B := by omega
  have hw9 : IntKind.i64.wrap ((k : Int) + 1) = (k : Int) + 1 := by rw [IntKind.wrap_i64]; omega
  have HO := fun w1 q1 c1 v (h1 : AS E w1 B (E.e.length - r.length)) (hv1 : VArg w1 v v.length q1 c1) => ofOne_any w1 B _ v v.length q1 c1 x (by omega) hx ho h1 hv1
  have H1 := fun w1 (h1 : AS E w1 B (k + 1)) => val_at hV w1 (k + 1) m r _ _ h1 hm1 p1 rfl rfl
  unfold nodeV at HO
  obtain ⟨op, nn, ss, tt⟩ := x
  dsimp only at *
  subst h9
  cases hA : evE E.es E.q f m with
  | error n =>
    rw [hA] at H1
    have HE : Hid (bindE (.error n) (oneE E.es ⟨24, nn, ss, tt⟩) = .error n) := rfl
    rw [HE.out]
    clear HO HE
    have hbV : Below w.heap.size w (w.alloc (.cells #[.int .i64 24, .int .i64 nn, .string ss, .string tt] 41)).drew := ((Below.refl _ _).alloc (Nat.le_refl _) _).drew
    have hsz : w.heap.size < (w.alloc (.cells #[.int .i64 24, .int .i64 nn, .string ss, .string tt] 41)).drew.heap.size := by show w.heap.size < (w.alloc (.cells #[.int .i64 24, .int .i64 nn, .string ss, .string tt] 41)).heap.size; simp
    have m0 : (w.alloc (.cells #[.int .i64 24, .int .i64 nn, .string ss, .string tt] 41)).drew.cell? ⟨w.heap.size, 0, none⟩ = some (.int .i64 24) := by show (w.alloc (.cells #[.int .i64 24, .int .i64 nn, .string ss, .string tt] 41)).cell? _ = _; simp
    have m1 : (w.alloc (.cells #[.int .i64 24, .int .i64 nn, .string ss, .string tt] 41)).drew.cell? ⟨w.heap.size, 1, none⟩ = some (.int .i64 nn) := by show (w.alloc (.cells #[.int .i64 24, .int .i64 nn, .string ss, .string tt] 41)).cell? _ = _; simp
    have m2 : (w.alloc (.cells #[.int .i64 24, .int .i64 nn, .string ss, .string tt] 41)).drew.cell? ⟨w.heap.size, 2, none⟩ = some (.string ss) := by show (w.alloc (.cells #[.int .i64 24, .int .i64 nn, .string ss, .string tt] 41)).cell? _ = _; simp
    have m3 : (w.alloc (.cells #[.int .i64 24, .int .i64 nn, .string ss, .string tt] 41)).drew.cell? ⟨w.heap.size, 3, none⟩ = some (.string tt) := by show (w.alloc (.cells #[.int .i64 24, .int .i64 nn, .string ss, .string tt] 41)).cell? _ = _; simp
    go_enter Tryz.func51, Tryz.ntmps51
    go_wp2
    go_region
    all_goals
      generalize (w.alloc (.cells #[.int .i64 24, .int .i64 nn, .string ss, .string tt] 41)).drew = V at *
      have hsV := hs.up hbV
      have d9 := hsV.c9
      have f9 := hsV.fz 9
      have hs2 := hsV.setAt (j := k + 1) (by omega)
      have hb2 : BX B w (V.setCell ⟨B, 9, none⟩ (.int .i64 ((k + 1 : Nat) : Int))) := (BX.of_below hbV).set 9 _
      have e9 : ((k + 1 : Nat) : Int) = (k : Int) + 1 := rfl
      rw [e9] at hs2 hb2
      have n0 : (V.setCell ⟨B, 9, none⟩ (.int .i64 ((k : Int) + 1))).cell? ⟨w.heap.size, 0, none⟩ = some (.int .i64 24) := (World.cell?_setCell_other _ _ _ _ (fun e => hB2 (congrArg Addr.block e))).trans m0
      have n1 : (V.setCell ⟨B, 9, none⟩ (.int .i64 ((k : Int) + 1))).cell? ⟨w.heap.size, 1, none⟩ = some (.int .i64 nn) := (World.cell?_setCell_other _ _ _ _ (fun e => hB2 (congrArg Addr.block e))).trans m1
      have n2 : (V.setCell ⟨B, 9, none⟩ (.int .i64 ((k : Int) + 1))).cell? ⟨w.heap.size, 2, none⟩ = some (.string ss) := (World.cell?_setCell_other _ _ _ _ (fun e => hB2 (congrArg Addr.block e))).trans m2
      have n3 : (V.setCell ⟨B, 9, none⟩ (.int .i64 ((k : Int) + 1))).cell? ⟨w.heap.size, 3, none⟩ = some (.string tt) := (World.cell?_setCell_other _ _ _ _ (fun e => hB2 (congrArg Addr.block e))).trans m3
      have hszU : w.heap.size < (V.setCell ⟨B, 9, none⟩ (.int .i64 ((k : Int) + 1))).heap.size := by rw [setc_size]; exact hsz
      go_wp2_with fail
      generalize V.setCell ⟨B, 9, none⟩ (.int .i64 ((k : Int) + 1)) = U at *
      have hbdU : Below U.heap.size U U.drew := (Below.refl _ _).drew
      have hsU := hs2.up hbdU
      have hbU := hb2.up hbdU
      refine wp_mono (Q := fun e a w' => e = .panic (thrownE n) ∧ a.defers = [] ∧ BX B w w') ?_ ?_
      rotate_left
      · rintro _ a w5 ⟨rfl, hd, hb5⟩
        go_wp2
        exact ⟨hd, rfl, hb5⟩
      refine wp_region_any (by kernel_rfl) ?_
      refine wpAny_take (i := 0) (v := ?_) rfl (by kernel_rfl) (by kernel_rfl) (by kernel_rfl) (fun _ _ _ h => h) (Or.inl ⟨by rfl, ?_⟩) ?_
      rotate_left
      · intro w; go_simp; with_reducible rfl
      refine wpAny_take (i := 2) (v := ?_) rfl (by kernel_rfl) (by kernel_rfl) (by kernel_rfl) (fun _ _ _ h => h) (Or.inl ⟨by rfl, ?_⟩) ?_
      rotate_left
      · intro w; go_simp; with_reducible rfl
      refine wpAny_ready (rs := [1, 3]) (by kernel_rfl) (by simp) ?_
      refine AllReady.cons rfl (fun K hK => ?_) ?_
      · have y0 : U.drew.cell? ⟨w.heap.size, 0, none⟩ = some (.int .i64 24) := n0
        have y1 : U.drew.cell? ⟨w.heap.size, 1, none⟩ = some (.int .i64 nn) := n1
        have y2 : U.drew.cell? ⟨w.heap.size, 2, none⟩ = some (.string ss) := n2
        have y3 : U.drew.cell? ⟨w.heap.size, 3, none⟩ = some (.string tt) := n3
        go_simp
        refine hK _ _ ?_
        clear hK K y0 y1 y2 y3
        refine wpAny_ready (rs := [3]) (by kernel_rfl) (by simp) ?_
        refine AllReady.cons rfl (fun K hK => ?_) AllReady.nil
        go_simp
        refine (H1 U.drew hsU).mono ?_
        rintro en w3 ⟨rfl, hb3⟩
        exact ⟨rfl, hbU.trans hb3⟩
      refine AllReady.cons rfl (fun K hK => ?_) AllReady.nil
      go_simp
      refine (H1 U.drew hsU).mono ?_
      rintro en w3 ⟨rfl, hb3⟩
      exact ⟨rfl, hbU.trans hb3⟩
  | ok v =>
    rw [hA] at H1
    have HO := fun w1 q1 c1 h1 hv1 => HO w1 q1 c1 v h1 hv1
    have HE : Hid (bindE (.ok v) (oneE E.es ⟨24, nn, ss, tt⟩) = oneE E.es ⟨24, nn, ss, tt⟩ v) := rfl
    rw [HE.out]
    clear HE
    generalize oneE E.es ⟨24, nn, ss, tt⟩ v = R at *
    cases R with
    | error n =>
      have hbV : Below w.heap.size w (w.alloc (.cells #[.int .i64 24, .int .i64 nn, .string ss, .string tt] 41)).drew := ((Below.refl _ _).alloc (Nat.le_refl _) _).drew
      have hsz : w.heap.size < (w.alloc (.cells #[.int .i64 24, .int .i64 nn, .string ss, .string tt] 41)).drew.heap.size := by show w.heap.size < (w.alloc (.cells #[.int .i64 24, .int .i64 nn, .string ss, .string tt] 41)).heap.size; simp
      have m0 : (w.alloc (.cells #[.int .i64 24, .int .i64 nn, .string ss, .string tt] 41)).drew.cell? ⟨w.heap.size, 0, none⟩ = some (.int .i64 24) := by show (w.alloc (.cells #[.int .i64 24, .int .i64 nn, .string ss, .string tt] 41)).cell? _ = _; simp
      have m1 : (w.alloc (.cells #[.int .i64 24, .int .i64 nn, .string ss, .string tt] 41)).drew.cell? ⟨w.heap.size, 1, none⟩ = some (.int .i64 nn) := by show (w.alloc (.cells #[.int .i64 24, .int .i64 nn, .string ss, .string tt] 41)).cell? _ = _; simp
      have m2 : (w.alloc (.cells #[.int .i64 24, .int .i64 nn, .string ss, .string tt] 41)).drew.cell? ⟨w.heap.size, 2, none⟩ = some (.string ss) := by show (w.alloc (.cells #[.int .i64 24, .int .i64 nn, .string ss, .string tt] 41)).cell? _ = _; simp
      have m3 : (w.alloc (.cells #[.int .i64 24, .int .i64 nn, .string ss, .string tt] 41)).drew.cell? ⟨w.heap.size, 3, none⟩ = some (.string tt) := by show (w.alloc (.cells #[.int .i64 24, .int .i64 nn, .string ss, .string tt] 41)).cell? _ = _; simp
      go_enter Tryz.func51, Tryz.ntmps51
      go_wp2
      go_region
      all_goals
        generalize (w.alloc (.cells #[.int .i64 24, .int .i64 nn, .string ss, .string tt] 41)).drew = V at *
        have hsV := hs.up hbV
        have d9 := hsV.c9
        have f9 := hsV.fz 9
        have hs2 := hsV.setAt (j := k + 1) (by omega)
        have hb2 : BX B w (V.setCell ⟨B, 9, none⟩ (.int .i64 ((k + 1 : Nat) : Int))) := (BX.of_below hbV).set 9 _
        have e9 : ((k + 1 : Nat) : Int) = (k : Int) + 1 := rfl
        rw [e9] at hs2 hb2
        have n0 : (V.setCell ⟨B, 9, none⟩ (.int .i64 ((k : Int) + 1))).cell? ⟨w.heap.size, 0, none⟩ = some (.int .i64 24) := (World.cell?_setCell_other _ _ _ _ (fun e => hB2 (congrArg Addr.block e))).trans m0
        have n1 : (V.setCell ⟨B, 9, none⟩ (.int .i64 ((k : Int) + 1))).cell? ⟨w.heap.size, 1, none⟩ = some (.int .i64 nn) := (World.cell?_setCell_other _ _ _ _ (fun e => hB2 (congrArg Addr.block e))).trans m1
        have n2 : (V.setCell ⟨B, 9, none⟩ (.int .i64 ((k : Int) + 1))).cell? ⟨w.heap.size, 2, none⟩ = some (.string ss) := (World.cell?_setCell_other _ _ _ _ (fun e => hB2 (congrArg Addr.block e))).trans m2
        have n3 : (V.setCell ⟨B, 9, none⟩ (.int .i64 ((k : Int) + 1))).cell? ⟨w.heap.size, 3, none⟩ = some (.string tt) := (World.cell?_setCell_other _ _ _ _ (fun e => hB2 (congrArg Addr.block e))).trans m3
        have hszU : w.heap.size < (V.setCell ⟨B, 9, none⟩ (.int .i64 ((k : Int) + 1))).heap.size := by rw [setc_size]; exact hsz
        go_wp2_with fail
        generalize V.setCell ⟨B, 9, none⟩ (.int .i64 ((k : Int) + 1)) = U at *
        have hbdU : Below U.heap.size U U.drew := (Below.refl _ _).drew
        have hsU := hs2.up hbdU
        have hbU := hb2.up hbdU
        refine wp_mono (Q := fun e a w' => e = .panic (thrownE n) ∧ a.defers = [] ∧ BX B w w') ?_ ?_
        rotate_left
        · rintro _ a w5 ⟨rfl, hd, hb5⟩
          go_wp2
          exact ⟨hd, rfl, hb5⟩
        refine wp_region_any (by kernel_rfl) ?_
        refine wpAny_take (i := 0) (v := ?_) rfl (by kernel_rfl) (by kernel_rfl) (by kernel_rfl) (fun _ _ _ h => h) (Or.inl ⟨by rfl, ?_⟩) ?_
        rotate_left
        · intro w; go_simp; with_reducible rfl
        refine wpAny_take (i := 2) (v := ?_) rfl (by kernel_rfl) (by kernel_rfl) (by kernel_rfl) (fun _ _ _ h => h) (Or.inl ⟨by rfl, ?_⟩) ?_
        rotate_left
        · intro w; go_simp; with_reducible rfl
        refine wpAny_ready (rs := [1, 3]) (by kernel_rfl) (by simp) ?_
        refine AllReady.cons rfl (fun K hK => ?_) ?_
        · have y0 : U.drew.cell? ⟨w.heap.size, 0, none⟩ = some (.int .i64 24) := n0
          have y1 : U.drew.cell? ⟨w.heap.size, 1, none⟩ = some (.int .i64 nn) := n1
          have y2 : U.drew.cell? ⟨w.heap.size, 2, none⟩ = some (.string ss) := n2
          have y3 : U.drew.cell? ⟨w.heap.size, 3, none⟩ = some (.string tt) := n3
          go_simp
          refine hK _ _ ?_
          clear hK K y0 y1 y2 y3
          refine wpAny_ready (rs := [3]) (by kernel_rfl) (by simp) ?_
          refine AllReady.cons rfl (fun K hK => ?_) AllReady.nil
          go_simp
          refine (H1 U.drew hsU).mono ?_
          rintro en w3 ⟨⟨q3, c3, rfl, hv3⟩, hs3, hb3⟩
          refine hK _ _ ?_
          clear hK K
          refine wpAny_ready (rs := [4]) (by kernel_rfl) (by simp) ?_
          refine AllReady.cons rfl (fun K hK => ?_) AllReady.nil
          go_simp
          refine (HO w3 q3 c3 hs3 hv3).mono ?_
          rintro en w4 ⟨h4, hb4⟩
          have h4' : en = .panicked (thrownE n) := h4
          subst h4'
          exact ⟨rfl, (hbU.trans hb3).up hb4⟩
        refine AllReady.cons rfl (fun K hK => ?_) AllReady.nil
        go_simp
        refine (H1 U.drew hsU).mono ?_
        rintro en w3 ⟨⟨q3, c3, rfl, hv3⟩, hs3, hb3⟩
        refine hK _ _ ?_
        clear hK K
        refine wpAny_ready (rs := [1]) (by kernel_rfl) (by simp) ?_
        refine AllReady.cons rfl (fun K hK => ?_) AllReady.nil
        have y0 : w3.cell? ⟨w.heap.size, 0, none⟩ = some (.int .i64 24) := (hb3.cell (p := ⟨w.heap.size, 0, none⟩) hszU hB3).trans n0
        have y1 : w3.cell? ⟨w.heap.size, 1, none⟩ = some (.int .i64 nn) := (hb3.cell (p := ⟨w.heap.size, 1, none⟩) hszU hB3).trans n1
        have y2 : w3.cell? ⟨w.heap.size, 2, none⟩ = some (.string ss) := (hb3.cell (p := ⟨w.heap.size, 2, none⟩) hszU hB3).trans n2
        have y3 : w3.cell? ⟨w.heap.size, 3, none⟩ = some (.string tt) := (hb3.cell (p := ⟨w.heap.size, 3, none⟩) hszU hB3).trans n3
        go_simp
        refine hK _ _ ?_
        clear hK K y0 y1 y2 y3
        refine wpAny_ready (rs := [4]) (by kernel_rfl) (by simp) ?_
        refine AllReady.cons rfl (fun K hK => ?_) AllReady.nil
        go_simp
        refine (HO w3 q3 c3 hs3 hv3).mono ?_
        rintro en w4 ⟨h4, hb4⟩
        have h4' : en = .panicked (thrownE n) := h4
        subst h4'
        exact ⟨rfl, (hbU.trans hb3).up hb4⟩
    | ok u =>
      have hbV : Below w.heap.size w (w.alloc (.cells #[.int .i64 24, .int .i64 nn, .string ss, .string tt] 41)).drew := ((Below.refl _ _).alloc (Nat.le_refl _) _).drew
      have hsz : w.heap.size < (w.alloc (.cells #[.int .i64 24, .int .i64 nn, .string ss, .string tt] 41)).drew.heap.size := by show w.heap.size < (w.alloc (.cells #[.int .i64 24, .int .i64 nn, .string ss, .string tt] 41)).heap.size; simp
      have m0 : (w.alloc (.cells #[.int .i64 24, .int .i64 nn, .string ss, .string tt] 41)).drew.cell? ⟨w.heap.size, 0, none⟩ = some (.int .i64 24) := by show (w.alloc (.cells #[.int .i64 24, .int .i64 nn, .string ss, .string tt] 41)).cell? _ = _; simp
      have m1 : (w.alloc (.cells #[.int .i64 24, .int .i64 nn, .string ss, .string tt] 41)).drew.cell? ⟨w.heap.size, 1, none⟩ = some (.int .i64 nn) := by show (w.alloc (.cells #[.int .i64 24, .int .i64 nn, .string ss, .string tt] 41)).cell? _ = _; simp
      have m2 : (w.alloc (.cells #[.int .i64 24, .int .i64 nn, .string ss, .string tt] 41)).drew.cell? ⟨w.heap.size, 2, none⟩ = some (.string ss) := by show (w.alloc (.cells #[.int .i64 24, .int .i64 nn, .string ss, .string tt] 41)).cell? _ = _; simp
      have m3 : (w.alloc (.cells #[.int .i64 24, .int .i64 nn, .string ss, .string tt] 41)).drew.cell? ⟨w.heap.size, 3, none⟩ = some (.string tt) := by show (w.alloc (.cells #[.int .i64 24, .int .i64 nn, .string ss, .string tt] 41)).cell? _ = _; simp
      go_enter Tryz.func51, Tryz.ntmps51
      go_wp2
      go_region
      all_goals
        generalize (w.alloc (.cells #[.int .i64 24, .int .i64 nn, .string ss, .string tt] 41)).drew = V at *
        have hsV := hs.up hbV
        have d9 := hsV.c9
        have f9 := hsV.fz 9
        have hs2 := hsV.setAt (j := k + 1) (by omega)
        have hb2 : BX B w (V.setCell ⟨B, 9, none⟩ (.int .i64 ((k + 1 : Nat) : Int))) := (BX.of_below hbV).set 9 _
        have e9 : ((k + 1 : Nat) : Int) = (k : Int) + 1 := rfl
        rw [e9] at hs2 hb2
        have n0 : (V.setCell ⟨B, 9, none⟩ (.int .i64 ((k : Int) + 1))).cell? ⟨w.heap.size, 0, none⟩ = some (.int .i64 24) := (World.cell?_setCell_other _ _ _ _ (fun e => hB2 (congrArg Addr.block e))).trans m0
        have n1 : (V.setCell ⟨B, 9, none⟩ (.int .i64 ((k : Int) + 1))).cell? ⟨w.heap.size, 1, none⟩ = some (.int .i64 nn) := (World.cell?_setCell_other _ _ _ _ (fun e => hB2 (congrArg Addr.block e))).trans m1
        have n2 : (V.setCell ⟨B, 9, none⟩ (.int .i64 ((k : Int) + 1))).cell? ⟨w.heap.size, 2, none⟩ = some (.string ss) := (World.cell?_setCell_other _ _ _ _ (fun e => hB2 (congrArg Addr.block e))).trans m2
        have n3 : (V.setCell ⟨B, 9, none⟩ (.int .i64 ((k : Int) + 1))).cell? ⟨w.heap.size, 3, none⟩ = some (.string tt) := (World.cell?_setCell_other _ _ _ _ (fun e => hB2 (congrArg Addr.block e))).trans m3
        have hszU : w.heap.size < (V.setCell ⟨B, 9, none⟩ (.int .i64 ((k : Int) + 1))).heap.size := by rw [setc_size]; exact hsz
        go_wp2_with fail
        generalize V.setCell ⟨B, 9, none⟩ (.int .i64 ((k : Int) + 1)) = U at *
        have hbdU : Below U.heap.size U U.drew := (Below.refl _ _).drew
        have hsU := hs2.up hbdU
        have hbU := hb2.up hbdU
        refine wp_mono (Q := fun e a w' => e = .normal ∧ a.defers = [] ∧ (∃ q c, a.tmps[2]? = some (.slice q u.length c) ∧ VArg w' u u.length q c) ∧ AS E w' B (E.e.length - r.length) ∧ BX B w w') ?_ ?_
        rotate_left
        · rintro _ a w5 ⟨rfl, hd, ⟨q5, c5, ht, hv5⟩, hs5, hb5⟩
          go_wp2
          exact bodyPost_ret (v := .slice q5 u.length c5) (by simp [results, Tryz.results51, go_sem, ht]) hd ⟨⟨q5, c5, rfl, hv5⟩, hs5, hb5⟩
        refine wp_region_any (by kernel_rfl) ?_
        refine wpAny_take (i := 0) (v := ?_) rfl (by kernel_rfl) (by kernel_rfl) (by kernel_rfl) (fun _ _ _ h => by cases h.1) (Or.inl ⟨by rfl, ?_⟩) ?_
        rotate_left
        · intro w; go_simp; with_reducible rfl
        refine wpAny_take (i := 2) (v := ?_) rfl (by kernel_rfl) (by kernel_rfl) (by kernel_rfl) (fun _ _ _ h => by cases h.1) (Or.inl ⟨by rfl, ?_⟩) ?_
        rotate_left
        · intro w; go_simp; with_reducible rfl
        refine wpAny_ready (rs := [1, 3]) (by kernel_rfl) (by simp) ?_
        refine AllReady.cons rfl (fun K hK => ?_) ?_
        · have y0 : U.drew.cell? ⟨w.heap.size, 0, none⟩ = some (.int .i64 24) := n0
          have y1 : U.drew.cell? ⟨w.heap.size, 1, none⟩ = some (.int .i64 nn) := n1
          have y2 : U.drew.cell? ⟨w.heap.size, 2, none⟩ = some (.string ss) := n2
          have y3 : U.drew.cell? ⟨w.heap.size, 3, none⟩ = some (.string tt) := n3
          go_simp
          refine hK _ _ ?_
          clear hK K y0 y1 y2 y3
          refine wpAny_ready (rs := [3]) (by kernel_rfl) (by simp) ?_
          refine AllReady.cons rfl (fun K hK => ?_) AllReady.nil
          go_simp
          refine (H1 U.drew hsU).mono ?_
          rintro en w3 ⟨⟨q3, c3, rfl, hv3⟩, hs3, hb3⟩
          refine hK _ _ ?_
          clear hK K
          refine wpAny_ready (rs := [4]) (by kernel_rfl) (by simp) ?_
          refine AllReady.cons rfl (fun K hK => ?_) AllReady.nil
          go_simp
          refine (HO w3 q3 c3 hs3 hv3).mono ?_
          rintro en w4 ⟨⟨q4, c4, rfl, hv4⟩, hb4⟩
          refine hK _ _ ?_
          clear hK K
          refine wpAny_take (i := 5) (v := ?_) rfl (by kernel_rfl) (by kernel_rfl) (by kernel_rfl) (fun _ _ _ h => by cases h.1) (Or.inl ⟨by rfl, ?_⟩) ?_
          rotate_left
          · intro w; go_simp; with_reducible rfl
          refine wpAny_done (by kernel_rfl) ?_ _
          exact ⟨rfl, rfl, ⟨q4, c4, rfl, hv4⟩, hs3.up hb4, (hbU.trans hb3).up hb4⟩
        refine AllReady.cons rfl (fun K hK => ?_) AllReady.nil
        go_simp
        refine (H1 U.drew hsU).mono ?_
        rintro en w3 ⟨⟨q3, c3, rfl, hv3⟩, hs3, hb3⟩
        refine hK _ _ ?_
        clear hK K
        refine wpAny_ready (rs := [1]) (by kernel_rfl) (by simp) ?_
        refine AllReady.cons rfl (fun K hK => ?_) AllReady.nil
        have y0 : w3.cell? ⟨w.heap.size, 0, none⟩ = some (.int .i64 24) := (hb3.cell (p := ⟨w.heap.size, 0, none⟩) hszU hB3).trans n0
        have y1 : w3.cell? ⟨w.heap.size, 1, none⟩ = some (.int .i64 nn) := (hb3.cell (p := ⟨w.heap.size, 1, none⟩) hszU hB3).trans n1
        have y2 : w3.cell? ⟨w.heap.size, 2, none⟩ = some (.string ss) := (hb3.cell (p := ⟨w.heap.size, 2, none⟩) hszU hB3).trans n2
        have y3 : w3.cell? ⟨w.heap.size, 3, none⟩ = some (.string tt) := (hb3.cell (p := ⟨w.heap.size, 3, none⟩) hszU hB3).trans n3
        go_simp
        refine hK _ _ ?_
        clear hK K y0 y1 y2 y3
        refine wpAny_ready (rs := [4]) (by kernel_rfl) (by simp) ?_
        refine AllReady.cons rfl (fun K hK => ?_) AllReady.nil
        go_simp
        refine (HO w3 q3 c3 hs3 hv3).mono ?_
        rintro en w4 ⟨⟨q4, c4, rfl, hv4⟩, hb4⟩
        refine hK _ _ ?_
        clear hK K
        refine wpAny_take (i := 5) (v := ?_) rfl (by kernel_rfl) (by kernel_rfl) (by kernel_rfl) (fun _ _ _ h => by cases h.1) (Or.inl ⟨by rfl, ?_⟩) ?_
        rotate_left
        · intro w; go_simp; with_reducible rfl
        refine wpAny_done (by kernel_rfl) ?_ _
        exact ⟨rfl, rfl, ⟨q4, c4, rfl, hv4⟩, hs3.up hb4, (hbU.trans hb3).up hb4⟩
end
end Go.Proofs.YtnilaghbbhmkgaaGreatDoor
namespace Go.Proofs.YtnilaghbbhmkgaaGreatDoor
open Go.RowKit
set_option linter.unusedVariables false
set_option maxRecDepth 100000

theorem value_ok {E : EvEnv} {B f : Nat} (ho : E.Ok) (hf : f ≤ E.e.length + 1) (hV : ValOk E B f) : ValOk E B (f + 1) := by
  intro w k r hs hp
  obtain ⟨g', x, m, e1, hv, h7, hx, hr⟩ := pastE_cons hp
  obtain rfl : f = g' := by omega
  have hmem : x ∈ E.e := by
    have : x ∈ E.e.drop k := by rw [hv]; exact List.mem_cons_self
    exact List.mem_of_mem_drop this
  have hn : x.op = 2 → Fit x.n := ho.n64 x hmem
  rw [hv]
  have one : 1 ≤ (prt x).toNat → x.op ≠ 6 → ∃ s1, pastE f m = some s1 ∧ partsE (pastE f) ((prt x).toNat - 1) s1 = some r := by
    intro h1 h6
    rcases hr with ⟨h6', _⟩ | ⟨_, hp⟩
    · exact absurd h6' h6
    · cases hk : (prt x).toNat with
      | zero => omega
      | succ d =>
        rw [hk] at hp
        obtain ⟨s1, p1, hp⟩ := partsE_one hp
        exact ⟨s1, p1, hp⟩
  have just0 : (prt x).toNat = 0 → x.op ≠ 6 → m = r := by
    intro h0 h6
    rcases hr with ⟨h6', _⟩ | ⟨_, hp⟩
    · exact absurd h6' h6
    · rw [h0] at hp; exact partsE_end hp
  have just1 : (prt x).toNat = 1 → x.op ≠ 6 → pastE f m = some r := by
    intro h1 h6
    obtain ⟨s1, p1, hp⟩ := one (by omega) h6
    rw [h1] at hp
    rw [p1, partsE_end hp]
  have just2 : (prt x).toNat = 2 → x.op ≠ 6 → ∃ s1, pastE f m = some s1 ∧ pastE f s1 = some r := by
    intro h1 h6
    obtain ⟨s1, p1, hp⟩ := one (by omega) h6
    rw [h1] at hp
    obtain ⟨s2, p2, hp⟩ := partsE_one hp
    exact ⟨s1, p1, by rw [p2, partsE_end hp]⟩
  have hrng : 1 ≤ x.op ∧ x.op ≤ 27 := by
    unfold exOk prt at hx
    repeat' split at hx
    all_goals first | omega | cases hx
  simp only [evE]
  by_cases c4 : 1 ≤ x.op ∧ x.op ≤ 4
  · rw [if_pos c4]
    have e0 : (prt x).toNat = 0 := by unfold prt; rw [if_neg (by omega), if_pos (by omega)]; rfl
    obtain rfl := just0 e0 (by omega)
    have c : x.op = 1 ∨ x.op = 2 ∨ x.op = 3 ∨ x.op = 4 := by omega
    rcases c with c | c | c | c
    · exact value_atom1 ho hf hV w k x m hs hv hx c hn
    · exact value_atom2 ho hf hV w k x m hs hv hx c hn
    · exact value_atom3 ho hf hV w k x m hs hv hx c hn
    · exact value_atom4 ho hf hV w k x m hs hv hx c hn
  rw [if_neg c4]
  by_cases c5 : x.op = 5
  · rw [if_pos c5]
    rcases hr with ⟨h6', _⟩ | ⟨_, hp⟩
    · omega
    · rw [show (prt x).toNat = x.n.toNat by unfold prt; rw [if_pos (Or.inl c5)]] at hp
      exact value_set ho hf hV w k x m r hs hv hx c5 hp
  rw [if_neg c5]
  by_cases c6 : x.op = 6
  · rw [if_pos c6]
    rcases hr with ⟨_, hp⟩ | ⟨h6', _⟩
    · exact value_rec ho hf hV w k x m r hs hv hx c6 hp
    · exact absurd c6 h6'
  rw [if_neg c6]
  by_cases c8 : x.op = 8
  · rw [if_pos c8]
    have e0 : (prt x).toNat = 0 := by unfold prt; rw [if_neg (by omega), if_pos (by omega)]; rfl
    obtain rfl := just0 e0 (by omega)
    exact value_var ho hf hV w k x m hs hv hx c8
  rw [if_neg c8]
  by_cases c11 : x.op = 11
  · rw [if_pos c11]
    obtain ⟨s1, p1, p2⟩ := just2 (by unfold prt; rw [c11]; rfl) (by omega)
    rw [bh_of p1]
    exact value_and ho hf hV w k x m r s1 hs hv hx c11 p1 p2
  rw [if_neg c11]
  by_cases c12 : x.op = 12
  · rw [if_pos c12]
    obtain ⟨s1, p1, p2⟩ := just2 (by unfold prt; rw [c12]; rfl) (by omega)
    rw [bh_of p1]
    exact value_or ho hf hV w k x m r s1 hs hv hx c12 p1 p2
  rw [if_neg c12]
  by_cases c13 : x.op = 13
  · rw [if_pos c13]
    have e3 : (prt x).toNat = 3 := by unfold prt; rw [c13]; rfl
    obtain ⟨s1, p1, hp1⟩ := one (by omega) (by omega)
    rw [e3] at hp1
    obtain ⟨s2, p2, hp2⟩ := partsE_one hp1
    obtain ⟨s3, p3, hp3⟩ := partsE_one hp2
    have := partsE_end hp3
    subst this
    rw [bh_of p1, bh_of p2]
    exact value_if ho hf hV w k x m s3 s1 s2 hs hv hx c13 p1 p2 p3
  rw [if_neg c13]
  by_cases c1 : x.op = 9 ∨ x.op = 10 ∨ 21 ≤ x.op ∧ x.op ≤ 24
  · rw [if_pos c1]
    have e1 : (prt x).toNat = 1 := by unfold prt; rw [if_neg (by omega), if_neg (by omega), if_pos (by omega)]; rfl
    have p1 := just1 e1 (by omega)
    have c : x.op = 9 ∨ x.op = 10 ∨ x.op = 21 ∨ x.op = 22 ∨ x.op = 23 ∨ x.op = 24 := by omega
    rcases c with c | c | c | c | c | c
    · exact value_one9 ho hf hV w k x m r hs hv hx c p1
    · exact value_one10 ho hf hV w k x m r hs hv hx c p1
    · exact value_one21 ho hf hV w k x m r hs hv hx c p1
    · exact value_one22 ho hf hV w k x m r hs hv hx c p1
    · exact value_one23 ho hf hV w k x m r hs hv hx c p1
    · exact value_one24 ho hf hV w k x m r hs hv hx c p1
  rw [if_neg c1]
  have e2 : (prt x).toNat = 2 := by unfold prt; rw [if_neg (by omega), if_neg (by omega), if_neg (by omega), if_neg (by omega), if_pos (by omega)]; rfl
  obtain ⟨s1, p1, p2⟩ := just2 e2 (by omega)
  rw [bh_of p1]
  exact value_two ho hf hV w k x m r s1 hs hv hx (by omega) p1 p2
theorem all_value {E : EvEnv} {B : Nat} (ho : E.Ok) : ∀ f, f ≤ E.e.length + 2 → ValOk E B f
  | 0, _ => fun w k r hs hp => by simp [pastE] at hp
  | f + 1, h => value_ok ho (by omega) (all_value ho f (by omega))
end Go.Proofs.YtnilaghbbhmkgaaGreatDoor
