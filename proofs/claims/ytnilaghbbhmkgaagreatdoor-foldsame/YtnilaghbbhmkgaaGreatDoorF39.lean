/- Package eval: ofOne, by a walk of its own text: Get, where all goes well (written by a script of our own). Package eval: ofOne and ofTwo of any values. Package eval: either, given what value does: by a walk of its own text. -/
import Derived.Test.YtnilaghbbhmkgaaGreatDoorF38
namespace Go.Proofs.YtnilaghbbhmkgaaGreatDoor
open Go.RowKit
set_option linter.unusedVariables false
set_option maxRecDepth 100000

section
variable {E : EvEnv} (w : World) (B k : Nat) (a : List Nd) (n : Nat) (q : Option Addr) (c : Nat) (x : Nd)
set_option maxHeartbeats 8000000 in
theorem one_get (ho : E.Ok) (hs : AS E w B k) (r : List Nd) (hR : attE E.es a = .ok r) (u : List Nd) (hu : fldV r x.s = some u) (h : VArg w a n q c) (hx : x.op = 22) :
    Calls Tryz.prog 87 #[.pointer (some ⟨B, 0, none⟩), nodeV x, .slice q n c] w fun e w' => VEndE (.ok u) e w' ∧ Below w.heap.size w w' := by
  obtain ⟨op, nn, ss, tt⟩ := x
  unfold nodeV
  dsimp only at *
  subst hx
  have hb0 : Below w.heap.size w (w.alloc (.cells #[.int .i64 22, .int .i64 nn, .string ss, .string tt] 41)) := (Below.refl _ _).alloc (Nat.le_refl _) _
  have hz : w.heap.size < (w.alloc (.cells #[.int .i64 22, .int .i64 nn, .string ss, .string tt] 41)).heap.size := by simp
  have m2 : (w.alloc (.cells #[.int .i64 22, .int .i64 nn, .string ss, .string tt] 41)).cell? ⟨w.heap.size, 2, none⟩ = some (.string ss) := by simp
  have h0 := h.up hb0
  have HR := fun w1 (hb : Below w.heap.size w w1) => record_any w1 B k a n q c ho (hs.up hb) (h.up hb)
  rw [hR] at HR
  have HG := fun w1 q1 c1 (hv : VArg w1 r r.length q1 c1) (h6 : opV r = 6) => get_field r r.length q1 c1 ss w1 hv h6
  rw [hu] at HG
  simp only at HG
  clear hR hu hs ho
  go_enter Tryz.func87, Tryz.ntmps87
  go_wp2_with fail
  generalize w.alloc (.cells #[.int .i64 22, .int .i64 nn, .string ss, .string tt] 41) = W at *
  have hbd : Below W.heap.size W W.drew := (Below.refl _ _).drew
  have hd := h0.up hbd
  have hzd : w.heap.size < W.drew.heap.size := hz
  have md : W.drew.cell? ⟨w.heap.size, 2, none⟩ = some (.string ss) := m2
  refine wp_mono (Q := fun e a w' => e = .normal ∧ a.defers = [] ∧ (∃ q3 c3, a.tmps[6]? = some (.slice q3 u.length c3) ∧ VArg w' u u.length q3 c3) ∧ Below w.heap.size w w') ?_ ?_
  rotate_left
  · rintro _ a w5 ⟨rfl, hd, ⟨q3, c3, ht, hv3⟩, hb5⟩
    go_wp2
    have ht2 : a.tmps.getD 6 undef = .slice q3 u.length c3 := by simp [Array.getD_eq_getD_getElem?, ht]
    refine bodyPost_ret (v := .slice q3 u.length c3) (by simp [results, Tryz.results87, go_sem, ht]) hd ⟨⟨q3, c3, rfl, hv3⟩, hb5⟩
  refine wp_region_any (by kernel_rfl) ?_
  refine wpAny_take (i := 0) (v := ?_) rfl (by kernel_rfl) (by kernel_rfl) (by kernel_rfl) (fun _ _ _ h => by cases h.1) (Or.inl ⟨by rfl, ?_⟩) ?_
  rotate_left
  · intro w; go_simp; with_reducible rfl
  refine wpAny_take (i := 1) (v := ?_) rfl (by kernel_rfl) (by kernel_rfl) (by kernel_rfl) (fun _ _ _ h => by cases h.1) (Or.inl ⟨by rfl, ?_⟩) ?_
  rotate_left
  · intro w; go_simp; with_reducible rfl
  refine wpAny_take (i := 6) (v := ?_) rfl (by kernel_rfl) (by kernel_rfl) (by kernel_rfl) (fun _ _ _ h => by cases h.1) (Or.inl ⟨by rfl, ?_⟩) ?_
  rotate_left
  · intro w; go_simp; with_reducible rfl
  refine wpAny_ready (rs := [2, 7]) (by kernel_rfl) (by simp) ?_
  refine AllReady.cons rfl (fun K hK => ?_) ?_
  · go_simp
    refine (HR W.drew (qbt hb0 hbd)).mono ?_
    rintro e w1 ⟨⟨q1, c1, rfl, hv1, h6⟩, hb1⟩
    refine hK _ _ ?_
    clear hK K
    refine wpAny_take (i := 3) (v := ?_) rfl (by kernel_rfl) (by kernel_rfl) (by kernel_rfl) (fun _ _ _ h => by cases h.1) (Or.inl ⟨by rfl, ?_⟩) ?_
    rotate_left
    · intro w; go_simp; with_reducible rfl
    refine wpAny_take (i := 4) (v := ?_) rfl (by kernel_rfl) (by kernel_rfl) (by kernel_rfl) (fun _ _ _ h => by cases h.1) (Or.inl ⟨by rfl, ?_⟩) ?_
    rotate_left
    · intro w; go_simp; with_reducible rfl
    refine wpAny_ready (rs := [5, 7]) (by kernel_rfl) (by simp) ?_
    refine AllReady.cons rfl (fun K hK => ?_) ?_
    · go_simp
      refine (sureN_ok w1 q1 _ c1).mono ?_
      rintro e w2 ⟨rfl, hw2⟩
      have hw3 := hw2.symm
      clear hw2
      subst hw3
      refine hK _ _ ?_
      clear hK K
      refine wpAny_ready (rs := [7]) (by kernel_rfl) (by simp) ?_
      refine AllReady.cons rfl (fun K hK => ?_) AllReady.nil
      have ml : w1.cell? ⟨w.heap.size, 2, none⟩ = some (.string ss) := ((qbt hbd hb1).cell (p := ⟨w.heap.size, 2, none⟩) hz).trans m2
      go_simp
      refine hK _ _ ?_
      clear hK K ml
      refine wpAny_ready (rs := [8]) (by kernel_rfl) (by simp) ?_
      refine AllReady.cons rfl (fun K hK => ?_) AllReady.nil
      go_simp
      refine (HG w1 q1 c1 hv1 h6).mono ?_
      rintro e w3 ⟨⟨q3, c3, rfl, hv3⟩, hb3⟩
      refine hK _ _ ?_
      clear hK K
      refine wpAny_take (i := 9) (v := ?_) rfl (by kernel_rfl) (by kernel_rfl) (by kernel_rfl) (fun _ _ _ h => by cases h.1) (Or.inl ⟨by rfl, ?_⟩) ?_
      rotate_left
      · intro w; go_simp; with_reducible rfl
      refine wpAny_take (i := 10) (v := ?_) rfl (by kernel_rfl) (by kernel_rfl) (by kernel_rfl) (fun _ _ _ h => by cases h.1) (Or.inl ⟨by rfl, ?_⟩) ?_
      rotate_left
      · intro w; go_simp; with_reducible rfl
      refine wpAny_ready (rs := [11]) (by kernel_rfl) (by simp) ?_
      refine AllReady.cons rfl (fun K hK => ?_) AllReady.nil
      go_simp
      refine (sureN_ok w3 q3 _ c3).mono ?_
      rintro e w4 ⟨rfl, hw4⟩
      have hw5 := hw4.symm
      clear hw4
      subst hw5
      refine hK _ _ ?_
      clear hK K
      refine wpAny_take (i := 12) (v := ?_) rfl (by kernel_rfl) (by kernel_rfl) (by kernel_rfl) (fun _ _ _ h => by cases h.1) (Or.inl ⟨by rfl, ?_⟩) ?_
      rotate_left
      · intro w; go_simp; with_reducible rfl
      refine wpAny_done (by kernel_rfl) ?_ _
      exact ⟨rfl, rfl, ⟨q3, c3, rfl, hv3⟩, qbt hb0 (qbt (qbt hbd hb1) hb3)⟩
    refine AllReady.cons rfl (fun K hK => ?_) AllReady.nil
    have ml : w1.cell? ⟨w.heap.size, 2, none⟩ = some (.string ss) := ((qbt hbd hb1).cell (p := ⟨w.heap.size, 2, none⟩) hz).trans m2
    go_simp
    refine hK _ _ ?_
    clear hK K ml
    refine wpAny_ready (rs := [5]) (by kernel_rfl) (by simp) ?_
    refine AllReady.cons rfl (fun K hK => ?_) AllReady.nil
    go_simp
    refine (sureN_ok w1 q1 _ c1).mono ?_
    rintro e w2 ⟨rfl, hw2⟩
    have hw3 := hw2.symm
    clear hw2
    subst hw3
    refine hK _ _ ?_
    clear hK K
    refine wpAny_ready (rs := [8]) (by kernel_rfl) (by simp) ?_
    refine AllReady.cons rfl (fun K hK => ?_) AllReady.nil
    go_simp
    refine (HG w1 q1 c1 hv1 h6).mono ?_
    rintro e w3 ⟨⟨q3, c3, rfl, hv3⟩, hb3⟩
    refine hK _ _ ?_
    clear hK K
    refine wpAny_take (i := 9) (v := ?_) rfl (by kernel_rfl) (by kernel_rfl) (by kernel_rfl) (fun _ _ _ h => by cases h.1) (Or.inl ⟨by rfl, ?_⟩) ?_
    rotate_left
    · intro w; go_simp; with_reducible rfl
    refine wpAny_take (i := 10) (v := ?_) rfl (by kernel_rfl) (by kernel_rfl) (by kernel_rfl) (fun _ _ _ h => by cases h.1) (Or.inl ⟨by rfl, ?_⟩) ?_
    rotate_left
    · intro w; go_simp; with_reducible rfl
    refine wpAny_ready (rs := [11]) (by kernel_rfl) (by simp) ?_
    refine AllReady.cons rfl (fun K hK => ?_) AllReady.nil
    go_simp
    refine (sureN_ok w3 q3 _ c3).mono ?_
    rintro e w4 ⟨rfl, hw4⟩
    have hw5 := hw4.symm
    clear hw4
    subst hw5
    refine hK _ _ ?_
    clear hK K
    refine wpAny_take (i := 12) (v := ?_) rfl (by kernel_rfl) (by kernel_rfl) (by kernel_rfl) (fun _ _ _ h => by cases h.1) (Or.inl ⟨by rfl, ?_⟩) ?_
    rotate_left
    · intro w; go_simp; with_reducible rfl
    refine wpAny_done (by kernel_rfl) ?_ _
    exact ⟨rfl, rfl, ⟨q3, c3, rfl, hv3⟩, qbt hb0 (qbt (qbt hbd hb1) hb3)⟩
  refine AllReady.cons rfl (fun K hK => ?_) AllReady.nil
  have ml : W.drew.cell? ⟨w.heap.size, 2, none⟩ = some (.string ss) := md
  go_simp
  refine hK _ _ ?_
  clear hK K ml
  refine wpAny_ready (rs := [2]) (by kernel_rfl) (by simp) ?_
  refine AllReady.cons rfl (fun K hK => ?_) AllReady.nil
  go_simp
  refine (HR W.drew (qbt hb0 hbd)).mono ?_
  rintro e w1 ⟨⟨q1, c1, rfl, hv1, h6⟩, hb1⟩
  refine hK _ _ ?_
  clear hK K
  refine wpAny_take (i := 3) (v := ?_) rfl (by kernel_rfl) (by kernel_rfl) (by kernel_rfl) (fun _ _ _ h => by cases h.1) (Or.inl ⟨by rfl, ?_⟩) ?_
  rotate_left
  · intro w; go_simp; with_reducible rfl
  refine wpAny_take (i := 4) (v := ?_) rfl (by kernel_rfl) (by kernel_rfl) (by kernel_rfl) (fun _ _ _ h => by cases h.1) (Or.inl ⟨by rfl, ?_⟩) ?_
  rotate_left
  · intro w; go_simp; with_reducible rfl
  refine wpAny_ready (rs := [5]) (by kernel_rfl) (by simp) ?_
  refine AllReady.cons rfl (fun K hK => ?_) AllReady.nil
  go_simp
  refine (sureN_ok w1 q1 _ c1).mono ?_
  rintro e w2 ⟨rfl, hw2⟩
  have hw3 := hw2.symm
  clear hw2
  subst hw3
  refine hK _ _ ?_
  clear hK K
  refine wpAny_ready (rs := [8]) (by kernel_rfl) (by simp) ?_
  refine AllReady.cons rfl (fun K hK => ?_) AllReady.nil
  go_simp
  refine (HG w1 q1 c1 hv1 h6).mono ?_
  rintro e w3 ⟨⟨q3, c3, rfl, hv3⟩, hb3⟩
  refine hK _ _ ?_
  clear hK K
  refine wpAny_take (i := 9) (v := ?_) rfl (by kernel_rfl) (by kernel_rfl) (by kernel_rfl) (fun _ _ _ h => by cases h.1) (Or.inl ⟨by rfl, ?_⟩) ?_
  rotate_left
  · intro w; go_simp; with_reducible rfl
  refine wpAny_take (i := 10) (v := ?_) rfl (by kernel_rfl) (by kernel_rfl) (by kernel_rfl) (fun _ _ _ h => by cases h.1) (Or.inl ⟨by rfl, ?_⟩) ?_
  rotate_left
  · intro w; go_simp; with_reducible rfl
  refine wpAny_ready (rs := [11]) (by kernel_rfl) (by simp) ?_
  refine AllReady.cons rfl (fun K hK => ?_) AllReady.nil
  go_simp
  refine (sureN_ok w3 q3 _ c3).mono ?_
  rintro e w4 ⟨rfl, hw4⟩
  have hw5 := hw4.symm
  clear hw4
  subst hw5
  refine hK _ _ ?_
  clear hK K
  refine wpAny_take (i := 12) (v := ?_) rfl (by kernel_rfl) (by kernel_rfl) (by kernel_rfl) (fun _ _ _ h => by cases h.1) (Or.inl ⟨by rfl, ?_⟩) ?_
  rotate_left
  · intro w; go_simp; with_reducible rfl
  refine wpAny_done (by kernel_rfl) ?_ _
  exact ⟨rfl, rfl, ⟨q3, c3, rfl, hv3⟩, qbt hb0 (qbt (qbt hbd hb1) hb3)⟩
end
end Go.Proofs.YtnilaghbbhmkgaaGreatDoor
namespace Go.Proofs.YtnilaghbbhmkgaaGreatDoor
open Go.RowKit
set_option linter.unusedVariables false
set_option linter.unusedSimpArgs false
set_option linter.unusedSectionVars false
set_option maxRecDepth 100000

section
variable {E : EvEnv} (w : World) (B k : Nat) (a b : List Nd) (n m : Nat) (p q : Option Addr) (c d : Nat)
theorem VArg.uok {w : World} {a : List Nd} {n : Nat} {q : Option Addr} {c : Nat} (h : VArg w a n q c) : UOk (uidV a) := by
  obtain ⟨y, r, b, off, rfl, rfl, hb, c0, c1, c2, c3, hwf, h1⟩ := h.head
  exact ⟨hwf.1, hwf.2.1⟩
theorem uidsE_len {b : List Nd} (h : IsV b) {us : List Ui} (hu : uidsE b = some us) : us.length ≤ 1000 := by
  unfold uidsE at hu
  split at hu
  · rename_i h5
    split at hu
    · injection hu with hu; subst hu
      have := (setR_parts h h5).2.2
      simp; omega
    · cases hu
  · split at hu
    · injection hu with hu; subst hu; simp
    · cases hu
set_option maxHeartbeats 600000 in
theorem two_in (ho : E.Ok) (hs : AS E w B k) (h : VArg w a n p c) (g : VArg w b m q d) :
    Calls Tryz.prog 88 #[.pointer (some ⟨B, 0, none⟩), .int .i64 20, .slice p n c, .slice q m d] w fun e w' => VEndE (inE E.es a b) e w' ∧ Below w.heap.size w w' := by
  by_cases h4 : opV a = 4
  · have HX := uidOf_ok w a n p c h h4
    have HY := fun w1 (hb : Below w.heap.size w w1) => uidsOf_any b m q d w1 (g.up hb)
    cases hu : uidsE b with
    | none =>
      have HE : Hid (inE E.es a b = .error 2) := by show _ = _; unfold inE; rw [if_pos h4, hu]
      rw [HE.out]
      generalize uidV a = u at *
      go_enter Tryz.func88, Tryz.ntmps88
      go_wp2_with fail
      refine HX.mono ?_
      rintro e w1 ⟨rfl, hb1⟩
      go_wp2_with fail
      refine (HY w1 hb1).mono ?_
      rintro e w2 ⟨h2, hb2⟩
      unfold UidsEnd at h2
      rw [hu] at h2
      subst h2
      exact ⟨rfl, rfl, qbt hb1 hb2⟩
    | some us =>
      have hl := uidsE_len g.is hu
      have HE : Hid (∀ t, t = (open Classical in decide (∃ t ∈ us, t = uidV a ∨ Abv E.es (uidV a) t)) → inE E.es a b = .ok (tN t)) := by
        rintro t rfl
        unfold inE
        rw [if_pos h4, hu]
      have HI := fun w1 (hb : Below w.heap.size w w1) q c (hq : UL w1 q us) => ein_any w1 B k q c ho (hs.up hb) (uidV a) h.uok us hq hl
      generalize (open Classical in decide (∃ t ∈ us, t = uidV a ∨ Abv E.es (uidV a) t)) = t at *
      rw [HE.out t rfl]
      clear HE
      generalize uidV a = u at *
      go_enter Tryz.func88, Tryz.ntmps88
      go_wp2_with fail
      refine HX.mono ?_
      rintro e w1 ⟨rfl, hb1⟩
      go_wp2_with fail
      refine (HY w1 hb1).mono ?_
      rintro e w2 ⟨h2, hb2⟩
      unfold UidsEnd at h2
      rw [hu] at h2
      obtain ⟨q2, c2, rfl, hq2, _, _⟩ := h2
      go_wp2_with fail
      refine (HI w2 (qbt hb1 hb2) q2 c2 hq2).mono ?_
      rintro e w3 ⟨rfl, hb3⟩
      go_wp2_with fail
      refine (truth_any w3 t).mono ?_
      rintro e w9 ⟨⟨q9, c9, rfl, hv9⟩, hb9⟩
      go_wp2
      go_ret
      exact ⟨⟨q9, c9, rfl, hv9⟩, qbt (qbt (qbt hb1 hb2) hb3) hb9⟩
  · have HX := uidOf_bad w a n p c h h4
    have HE : Hid (inE E.es a b = .error 2) := by show _ = _; unfold inE; rw [if_neg h4]
    rw [HE.out]
    go_enter Tryz.func88, Tryz.ntmps88
    go_wp2_with fail
    refine HX.mono ?_
    rintro e w1 ⟨rfl, hb1⟩
    exact ⟨rfl, rfl, hb1⟩
theorem ofTwo_any (op : Int) (hop : op = 14 ∨ op = 15 ∨ op = 16 ∨ op = 17 ∨ op = 18 ∨ op = 19 ∨ op = 20 ∨ op = 25 ∨ op = 26 ∨ op = 27) (ho : E.Ok) (hs : AS E w B k) (h : VArg w a n p c) (g : VArg w b m q d) :
    Calls Tryz.prog 88 #[.pointer (some ⟨B, 0, none⟩), .int .i64 op, .slice p n c, .slice q m d] w fun e w' => VEndE (twoE E.es op a b) e w' ∧ Below w.heap.size w w' := by
  have num : ∀ op, op = 17 ∨ op = 18 ∨ op = 19 → Calls Tryz.prog 88 #[.pointer (some ⟨B, 0, none⟩), .int .i64 op, .slice p n c, .slice q m d] w fun e w' => VEndE (twoE E.es op a b) e w' ∧ Below w.heap.size w w' := by
    intro op h17
    have e0 : twoE E.es op a b = if opV a = 2 ∧ opV b = 2 then (if nmf op (nV a) (nV b) = 0 then .ok (mN (nx op (nV a) (nV b))) else .error (nmf op (nV a) (nV b))) else .error 2 := by
      unfold twoE
      rw [if_neg (by omega), if_neg (by omega), if_neg (by omega), if_neg (by omega), if_neg (by omega), if_neg (by omega), if_neg (by omega)]
    rw [e0]
    by_cases h2 : opV a = 2 ∧ opV b = 2
    · rw [if_pos h2]
      by_cases hf : nmf op (nV a) (nV b) = 0
      · rw [if_pos hf]; exact two_num w B k a b n m p q c d op ho hs h g h17 h2.1 h2.2 hf
      · rw [if_neg hf]; exact two_num_over w B k a b n m p q c d op ho hs h g h17 h2.1 h2.2 hf
    · rw [if_neg h2]; exact two_num_bad w B k a b n m p q c d op ho hs h g h17 h2
  rcases hop with rfl | rfl | rfl | rfl | rfl | rfl | rfl | rfl | rfl | rfl
  · exact two_eq w B k a b n m p q c d ho hs h g
  · have e0 : twoE E.es 15 a b = if opV a = 2 ∧ opV b = 2 then .ok (tN (decide (nV a < nV b))) else .error 2 := rfl
    rw [e0]
    by_cases h2 : opV a = 2 ∧ opV b = 2
    · rw [if_pos h2]; exact two_lt w B k a b n m p q c d ho hs h g h2.1 h2.2
    · rw [if_neg h2]; exact two_lt_bad w B k a b n m p q c d ho hs h g h2
  · have e0 : twoE E.es 16 a b = if opV a = 2 ∧ opV b = 2 then .ok (tN (decide (nV a ≤ nV b))) else .error 2 := rfl
    rw [e0]
    by_cases h2 : opV a = 2 ∧ opV b = 2
    · rw [if_pos h2]; exact two_le w B k a b n m p q c d ho hs h g h2.1 h2.2
    · rw [if_neg h2]; exact two_le_bad w B k a b n m p q c d ho hs h g h2
  · exact num 17 (by omega)
  · exact num 18 (by omega)
  · exact num 19 (by omega)
  · exact two_in w B k a b n m p q c d ho hs h g
  · have e0 : twoE E.es 25 a b = if opV a = 5 then .ok (tN (inB (setR a) b)) else .error 2 := rfl
    rw [e0]
    by_cases h5 : opV a = 5
    · rw [if_pos h5]; exact two_one w B k a b n m p q c d ho hs h g h5
    · rw [if_neg h5]; exact two_one_bad w B k a b n m p q c d ho hs h g h5
  · have e0 : twoE E.es 26 a b = if opV a = 5 ∧ opV b = 5 then .ok (tN (allB (setR a) (setR b))) else .error 2 := rfl
    rw [e0]
    by_cases h5 : opV a = 5 ∧ opV b = 5
    · rw [if_pos h5]; exact two_all w B k a b n m p q c d ho hs h g h5.1 h5.2
    · rw [if_neg h5]; exact two_all_bad w B k a b n m p q c d ho hs h g h5
  · have e0 : twoE E.es 27 a b = if opV a = 5 ∧ opV b = 5 then .ok (tN (anyB (setR a) (setR b))) else .error 2 := rfl
    rw [e0]
    by_cases h5 : opV a = 5 ∧ opV b = 5
    · rw [if_pos h5]; exact two_any w B k a b n m p q c d ho hs h g h5.1 h5.2
    · rw [if_neg h5]; exact two_any_bad w B k a b n m p q c d ho hs h g h5
theorem ofOne_any (x : Nd) (hop : x.op = 9 ∨ x.op = 10 ∨ x.op = 21 ∨ x.op = 22 ∨ x.op = 23 ∨ x.op = 24) (hx : exOk x = true) (ho : E.Ok) (hs : AS E w B k) (h : VArg w a n q c) :
    Calls Tryz.prog 87 #[.pointer (some ⟨B, 0, none⟩), nodeV x, .slice q n c] w fun e w' => VEndE (oneE E.es x a) e w' ∧ Below w.heap.size w w' := by
  unfold oneE
  rcases hop with h9 | h9 | h9 | h9 | h9 | h9
  · rw [if_pos h9]
    by_cases h1 : opV a = 1
    · rw [if_pos h1]; exact one_not w B a n q c x h h9 h1
    · rw [if_neg h1]; exact one_not_bad w B a n q c x h h9 h1
  · rw [if_neg (by omega), if_pos h9]
    by_cases h1 : opV a = 2
    · rw [if_pos h1]
      by_cases hf : Fit (-nV a)
      · rw [if_pos hf]; exact one_neg w B a n q c x h h9 h1 hf
      · rw [if_neg hf]; exact one_neg_over w B a n q c x h h9 h1 hf
    · rw [if_neg h1]; exact one_neg_bad w B a n q c x h h9 h1
  · rw [if_neg (by omega), if_neg (by omega), if_pos h9]
    exact one_has w B k a n q c x ho hs h h9
  · rw [if_neg (by omega), if_neg (by omega), if_neg (by omega), if_pos h9]
    unfold getV
    cases hR : attE E.es a with
    | ok r =>
      simp only
      cases hu : fldV r x.s with
      | some u => exact one_get w B k a n q c x ho hs r hR u hu h h9
      | none => exact one_get_none w B k a n q c x ho hs r hR hu h h9
    | error e =>
      simp only
      have he : e = 2 ∨ e = 8 := by
        unfold attE at hR
        split at hR
        · cases hR
        · split at hR
          · split at hR
            · cases hR
            · injection hR with hR; exact .inr hR.symm
          · injection hR with hR; exact .inl hR.symm
      rcases he with rfl | rfl
      · exact one_get_bad w B k a n q c x ho hs hR h h9
      · exact one_get_lost w B k a n q c x ho hs hR h h9
  · rw [if_neg (by omega), if_neg (by omega), if_neg (by omega), if_neg (by omega), if_pos h9]
    by_cases h1 : opV a = 3
    · rw [if_pos h1]
      have hp : textOk x.s.data.toList = true := by
        unfold exOk at hx
        rw [if_neg (by omega)] at hx
        split at hx
        · cases hx
        · rw [if_neg (by omega), if_neg (by omega)] at hx
          simp only [if_pos h9, Bool.and_eq_true] at hx
          exact hx.2
      exact one_like w B a n q c x h1 hp h h9
    · rw [if_neg h1]; exact one_like_bad w B a n q c x h1 h h9
  · rw [if_neg (by omega), if_neg (by omega), if_neg (by omega), if_neg (by omega), if_neg (by omega)]
    by_cases h1 : opV a = 4
    · rw [if_pos h1]; exact one_is w B a n q c x h1 h h9
    · rw [if_neg h1]; exact one_is_bad w B a n q c x h1 h h9
end
end Go.Proofs.YtnilaghbbhmkgaaGreatDoor
namespace Go.Proofs.YtnilaghbbhmkgaaGreatDoor
open Go.RowKit
set_option linter.unusedVariables false
set_option maxRecDepth 100000

section
variable {E : EvEnv} {B f : Nat} (ho : E.Ok) (hf : f ≤ E.e.length + 1) (hV : ValOk E B f) (w : World) (k : Nat) (m s t r : List Nd)
include ho hf hV
set_option maxHeartbeats 1000000 in
theorem either_any (hs : AS E w B k) (hm : E.e.drop k = m) (p1 : pastE f m = some s) (p2 : pastE f s = some t) (p3 : pastE f t = some r) :
    Calls Tryz.prog 86 #[.pointer (some ⟨B, 0, none⟩)] w (VE E B (E.e.length - r.length) w (ifE (evE E.es E.q f m) (evE E.es E.q f s) (evE E.es E.q f t))) := by
  have hm2 : E.e.drop (E.e.length - s.length) = s := (nd_suffix (by rw [hm]; exact p1)).1
  have hm3 : E.e.drop (E.e.length - t.length) = t := (nd_suffix (k := E.e.length - s.length) (by rw [hm2]; exact p2)).1
  have H1 := val_at hV w k m s _ _ hs hm p1 rfl rfl
  have H2 := fun w1 hs1 => val_at hV w1 _ s t _ _ hs1 hm2 p2 rfl rfl
  have H3 := fun w1 hs1 => val_at hV w1 _ t r _ _ hs1 hm3 p3 rfl rfl
  have HS2 := fun w1 (hs1 : AS E w1 B (E.e.length - s.length)) => skip_any w1 B _ ho hs1 t f hf (by rw [hm2]; exact p2)
  have HS3 := fun w1 (hs1 : AS E w1 B (E.e.length - t.length)) => skip_any w1 B _ ho hs1 r f hf (by rw [hm3]; exact p3)
  cases hA : evE E.es E.q f m with
  | error n =>
    rw [hA] at H1
    have HE : Hid (ifE (.error n) (evE E.es E.q f s) (evE E.es E.q f t) = .error n) := rfl
    rw [HE.out]
    go_enter Tryz.func86, Tryz.ntmps86
    go_wp2_with fail
    refine H1.mono ?_
    rintro e w1 ⟨rfl, hb1⟩
    exact ⟨rfl, rfl, hb1⟩
  | ok v =>
    rw [hA] at H1
    by_cases h1 : opV v = 1
    · have hb : boolE (.ok v) = .ok (nV v == 1) := by unfold boolE; simp only [h1, if_true]
      by_cases ht : (nV v == 1) = true
      · have HE : Hid (ifE (.ok v) (evE E.es E.q f s) (evE E.es E.q f t) = evE E.es E.q f s) := by
          show _ = _
          unfold ifE
          rw [hb]
          simp only [ht, if_true]
        rw [HE.out]
        clear HE hb
        cases hB : evE E.es E.q f s with
        | error n =>
          rw [hB] at H2
          go_enter Tryz.func86, Tryz.ntmps86
          go_wp2_with fail
          refine H1.mono ?_
          rintro e w1 ⟨⟨q1, c1, rfl, hv1⟩, hs1, hb1⟩
          have HI := isTrue_ok w1 v _ q1 c1 hv1 h1
          rw [ht] at HI
          clear H1 ht
          go_wp2_with fail
          refine HI.mono ?_
          rintro e w2 ⟨rfl, hb2⟩
          have hs2 := hs1.up hb2
          go_wp2_with fail
          refine (H2 w2 hs2).mono ?_
          rintro e w3 ⟨rfl, hb3⟩
          exact ⟨rfl, rfl, (hb1.up hb2).trans hb3⟩
        | ok u =>
          rw [hB] at H2
          go_enter Tryz.func86, Tryz.ntmps86
          go_wp2_with fail
          refine H1.mono ?_
          rintro e w1 ⟨⟨q1, c1, rfl, hv1⟩, hs1, hb1⟩
          have HI := isTrue_ok w1 v _ q1 c1 hv1 h1
          rw [ht] at HI
          clear H1 ht
          go_wp2_with fail
          refine HI.mono ?_
          rintro e w2 ⟨rfl, hb2⟩
          have hs2 := hs1.up hb2
          go_wp2_with fail
          refine (H2 w2 hs2).mono ?_
          rintro e w3 ⟨⟨q3, c3, rfl, hv3⟩, hs3, hb3⟩
          go_wp2_with fail
          refine (HS3 w3 hs3).mono ?_
          rintro e w4 ⟨rfl, hs4, hb4⟩
          have hv4 := hv3.bx hs3 hb4
          go_wp2
          go_ret
          exact ⟨⟨q3, c3, rfl, hv4⟩, hs4, ((hb1.up hb2).trans hb3).trans hb4⟩
      · have ht' : (nV v == 1) = false := by simpa using ht
        have HE : Hid (ifE (.ok v) (evE E.es E.q f s) (evE E.es E.q f t) = evE E.es E.q f t) := by
          show _ = _
          unfold ifE
          rw [hb]
          simp only [ht']
          rfl
        rw [HE.out]
        clear HE hb ht
        cases hB : evE E.es E.q f t with
        | error n =>
          rw [hB] at H3
          go_enter Tryz.func86, Tryz.ntmps86
          go_wp2_with fail
          refine H1.mono ?_
          rintro e w1 ⟨⟨q1, c1, rfl, hv1⟩, hs1, hb1⟩
          have HI := isTrue_ok w1 v _ q1 c1 hv1 h1
          rw [ht'] at HI
          clear H1 ht'
          go_wp2_with fail
          refine HI.mono ?_
          rintro e w2 ⟨rfl, hb2⟩
          have hs2 := hs1.up hb2
          go_wp2_with fail
          refine (HS2 w2 hs2).mono ?_
          rintro e w3 ⟨rfl, hs3, hb3⟩
          go_wp2_with fail
          refine (H3 w3 hs3).mono ?_
          rintro e w4 ⟨rfl, hb4⟩
          exact ⟨rfl, rfl, ((hb1.up hb2).trans hb3).trans hb4⟩
        | ok u =>
          rw [hB] at H3
          go_enter Tryz.func86, Tryz.ntmps86
          go_wp2_with fail
          refine H1.mono ?_
          rintro e w1 ⟨⟨q1, c1, rfl, hv1⟩, hs1, hb1⟩
          have HI := isTrue_ok w1 v _ q1 c1 hv1 h1
          rw [ht'] at HI
          clear H1 ht'
          go_wp2_with fail
          refine HI.mono ?_
          rintro e w2 ⟨rfl, hb2⟩
          have hs2 := hs1.up hb2
          go_wp2_with fail
          refine (HS2 w2 hs2).mono ?_
          rintro e w3 ⟨rfl, hs3, hb3⟩
          go_wp2_with fail
          refine (H3 w3 hs3).mono ?_
          rintro e w4 ⟨⟨q4, c4, rfl, hv4⟩, hs4, hb4⟩
          go_wp2
          go_ret
          exact ⟨⟨q4, c4, rfl, hv4⟩, hs4, ((hb1.up hb2).trans hb3).trans hb4⟩
    · have HE : Hid (ifE (.ok v) (evE E.es E.q f s) (evE E.es E.q f t) = .error 2) := by
        show _ = _
        have hb : boolE (.ok v) = .error 2 := by unfold boolE; simp only [h1, if_false]
        unfold ifE
        rw [hb]
      rw [HE.out]
      go_enter Tryz.func86, Tryz.ntmps86
      go_wp2_with fail
      refine H1.mono ?_
      rintro e w1 ⟨⟨q1, c1, rfl, hv1⟩, hs1, hb1⟩
      have HI := isTrue_bad w1 v _ q1 c1 hv1 h1
      go_wp2_with fail
      refine HI.mono ?_
      rintro e w2 ⟨rfl, hb2⟩
      exact ⟨rfl, rfl, hb1.up hb2⟩
end
end Go.Proofs.YtnilaghbbhmkgaaGreatDoor
