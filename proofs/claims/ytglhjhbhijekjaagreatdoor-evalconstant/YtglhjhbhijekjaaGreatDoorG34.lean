/- Package eval: ofOne, by a walk of its own text: Get, Like, Is (written by a script of our own). Package eval: ofOne and ofTwo of any values. -/
import Derived.Test.YtglhjhbhijekjaaGreatDoorG30
import Derived.Test.YtglhjhbhijekjaaGreatDoorG33
import Derived.Test.YtglhjhbhijekjaaGreatDoorG25
namespace Go.Proofs.YtglhjhbhijekjaaGreatDoor
open Go.RowKit
set_option linter.unusedVariables false
set_option maxRecDepth 100000

theorem Tryz.fieldU0 (a b : ByteArray) (w : World) : Sem.run Tryz.prog (Instr.field 23 (.agg #[.string a, .string b]) 0) w = .ok (.string a) w := by kernel_rfl
section
variable {E : EvEnv} (w : World) (B k : Nat) (a : List Nd) (n : Nat) (q : Option Addr) (c : Nat) (x : Nd)
set_option maxHeartbeats 1000000 in
theorem one_is (h1 : opV a = 4) (h : VArg w a n q c) (hx : x.op = 24) :
    Calls Tryz.prog 97 #[.pointer (some ⟨B, 0, none⟩), nodeV x, .slice q n c] w fun e w' => VEndE (.ok (tN (decide (sV a = x.s)))) e w' ∧ Below w.heap.size w w' := by
  obtain ⟨op, nn, ss, tt⟩ := x
  unfold nodeV
  dsimp only at *
  subst hx
  have hb0 : Below w.heap.size w (w.alloc (.cells #[.int .i64 24, .int .i64 nn, .string ss, .string tt] 53)) := (Below.refl _ _).alloc (Nat.le_refl _) _
  have hz : w.heap.size < (w.alloc (.cells #[.int .i64 24, .int .i64 nn, .string ss, .string tt] 53)).heap.size := by simp
  have m2 : (w.alloc (.cells #[.int .i64 24, .int .i64 nn, .string ss, .string tt] 53)).cell? ⟨w.heap.size, 2, none⟩ = some (.string ss) := by simp
  have h0 := h.up hb0
  have hu : (uidV a).t = sV a := by cases a <;> rfl
  have hf := Tryz.fieldU0
  have HU := fun w1 (hv : VArg w1 a n q c) => uidOf_ok w1 a n q c hv h1
  rw [hu] at HU
  clear hu h1
  generalize (uidV a).i = ui at *
  by_cases he : sV a = ss
  · have HD : Hid (decide (sV a = ss) = true) := decide_eq_true he
    rw [HD.out]
    clear HD
    rw [he] at HU
    clear he
    go_enter Tryz.func97, Tryz.ntmps97
    go_wp2_with fail
    generalize w.alloc (.cells #[.int .i64 24, .int .i64 nn, .string ss, .string tt] 53) = W at *
    have hbd : Below W.heap.size W W.drew := (Below.refl _ _).drew
    have hd := h0.up hbd
    have hzd : w.heap.size < W.drew.heap.size := hz
    have md : W.drew.cell? ⟨w.heap.size, 2, none⟩ = some (.string ss) := m2
    go_region_with (first
      | (go_at_call 142; refine (HU W.drew hd).mono ?_; rintro e w1 ⟨rfl, hb1⟩; have m3 := (hb1.cell (p := ⟨w.heap.size, 2, none⟩) hzd).trans md)
      | (go_at_call 131; refine (truth_any w1 true).mono ?_; rintro e w9 ⟨⟨q9, c9, rfl, hv9⟩, hb9⟩))
    all_goals
      go_wp2
      go_ret
      exact ⟨⟨q9, c9, rfl, hv9⟩, qbt (qbt (qbt hb0 hbd) hb1) hb9⟩
  · have HD : Hid (decide (sV a = ss) = false) := decide_eq_false he
    rw [HD.out]
    clear HD
    have hne : ((sV a).toList == ss.toList) = false := by simpa using tl_ne he
    generalize sV a = sa at *
    clear he
    go_enter Tryz.func97, Tryz.ntmps97
    go_wp2_with fail
    generalize w.alloc (.cells #[.int .i64 24, .int .i64 nn, .string ss, .string tt] 53) = W at *
    have hbd : Below W.heap.size W W.drew := (Below.refl _ _).drew
    have hd := h0.up hbd
    have hzd : w.heap.size < W.drew.heap.size := hz
    have md : W.drew.cell? ⟨w.heap.size, 2, none⟩ = some (.string ss) := m2
    go_region_with (first
      | (go_at_call 142; refine (HU W.drew hd).mono ?_; rintro e w1 ⟨rfl, hb1⟩; have m3 := (hb1.cell (p := ⟨w.heap.size, 2, none⟩) hzd).trans md)
      | (go_at_call 131; refine (truth_any w1 false).mono ?_; rintro e w9 ⟨⟨q9, c9, rfl, hv9⟩, hb9⟩))
    all_goals
      go_wp2
      go_ret
      exact ⟨⟨q9, c9, rfl, hv9⟩, qbt (qbt (qbt hb0 hbd) hb1) hb9⟩
set_option maxHeartbeats 1000000 in
theorem one_is_bad (h1 : opV a ≠ 4) (h : VArg w a n q c) (hx : x.op = 24) :
    Calls Tryz.prog 97 #[.pointer (some ⟨B, 0, none⟩), nodeV x, .slice q n c] w fun e w' => e = .panicked (thrownE 2) ∧ Below w.heap.size w w' := by
  obtain ⟨op, nn, ss, tt⟩ := x
  unfold nodeV
  dsimp only at *
  subst hx
  have hb0 : Below w.heap.size w (w.alloc (.cells #[.int .i64 24, .int .i64 nn, .string ss, .string tt] 53)) := (Below.refl _ _).alloc (Nat.le_refl _) _
  have hz : w.heap.size < (w.alloc (.cells #[.int .i64 24, .int .i64 nn, .string ss, .string tt] 53)).heap.size := by simp
  have m2 : (w.alloc (.cells #[.int .i64 24, .int .i64 nn, .string ss, .string tt] 53)).cell? ⟨w.heap.size, 2, none⟩ = some (.string ss) := by simp
  have h0 := h.up hb0
  have HU := fun w1 (hv : VArg w1 a n q c) => uidOf_bad w1 a n q c hv h1
  clear h1
  go_enter Tryz.func97, Tryz.ntmps97
  go_wp2_with fail
  generalize w.alloc (.cells #[.int .i64 24, .int .i64 nn, .string ss, .string tt] 53) = W at *
  have hbd : Below W.heap.size W W.drew := (Below.refl _ _).drew
  have hd := h0.up hbd
  have hzd : w.heap.size < W.drew.heap.size := hz
  have md : W.drew.cell? ⟨w.heap.size, 2, none⟩ = some (.string ss) := m2
  refine wp_mono (Q := fun e a w' => e = .panic (thrownE 2) ∧ a.defers = [] ∧ Below w.heap.size w w') ?_ ?_
  rotate_left
  · rintro _ a w5 ⟨rfl, hd, hb5⟩
    go_wp2
    exact ⟨hd, rfl, hb5⟩
  refine wp_region_any (by kernel_rfl) ?_
  refine wpAny_take (i := 0) (v := ?_) rfl (by kernel_rfl) (by kernel_rfl) (by kernel_rfl) (fun _ _ _ h => h) (Or.inl ⟨by rfl, ?_⟩) ?_
  rotate_left
  · intro w; go_simp; with_reducible rfl
  refine wpAny_take (i := 3) (v := ?_) rfl (by kernel_rfl) (by kernel_rfl) (by kernel_rfl) (fun _ _ _ h => h) (Or.inl ⟨by rfl, ?_⟩) ?_
  rotate_left
  · intro w; go_simp; with_reducible rfl
  refine wpAny_ready (rs := [1, 4]) (by kernel_rfl) (by simp) ?_
  refine AllReady.cons rfl (fun K hK => ?_) ?_
  · go_simp
    refine (HU W.drew hd).mono ?_
    rintro e w9 ⟨rfl, hb9⟩
    exact ⟨rfl, qbt (qbt hb0 hbd) hb9⟩
  refine AllReady.cons rfl (fun K hK => ?_) AllReady.nil
  have ml : W.drew.cell? ⟨w.heap.size, 2, none⟩ = some (.string ss) := md
  go_simp
  refine hK _ _ ?_
  clear hK K ml
  refine wpAny_ready (rs := [1]) (by kernel_rfl) (by simp) ?_
  refine AllReady.cons rfl (fun K hK => ?_) AllReady.nil
  go_simp
  refine (HU W.drew hd).mono ?_
  rintro e w9 ⟨rfl, hb9⟩
  exact ⟨rfl, qbt (qbt hb0 hbd) hb9⟩
set_option maxHeartbeats 4000000 in
theorem one_like (h1 : opV a = 3) (hp : textOk x.s.data.toList = true) (h : VArg w a n q c) (hx : x.op = 23) :
    Calls Tryz.prog 97 #[.pointer (some ⟨B, 0, none⟩), nodeV x, .slice q n c] w fun e w' => VEndE (.ok (tN (pM (pcs x.s.data.toList) (sV a).data.toList))) e w' ∧ Below w.heap.size w w' := by
  obtain ⟨op, nn, ss, tt⟩ := x
  unfold nodeV
  dsimp only at *
  subst hx
  have hb0 : Below w.heap.size w (w.alloc (.cells #[.int .i64 23, .int .i64 nn, .string ss, .string tt] 53)) := (Below.refl _ _).alloc (Nat.le_refl _) _
  have hz : w.heap.size < (w.alloc (.cells #[.int .i64 23, .int .i64 nn, .string ss, .string tt] 53)).heap.size := by simp
  have m2 : (w.alloc (.cells #[.int .i64 23, .int .i64 nn, .string ss, .string tt] 53)).cell? ⟨w.heap.size, 2, none⟩ = some (.string ss) := by simp
  have h0 := h.up hb0
  have HU := fun w1 (hv : VArg w1 a n q c) => only_ok w1 3 a n q c hv h1
  have hts : textOk (sV a).data.toList = true := by
    obtain ⟨y, r, rfl, _, _, hy, _⟩ := value_head h.is.val
    have h3 : y.op = 3 := h1
    unfold ndOk at hy
    rw [if_neg (by omega), if_neg (by omega), if_pos h3] at hy
    simp only [Bool.and_eq_true] at hy
    exact hy.2
  have HM := fun w1 => match_ok ss (sV a) w1 hp hts
  have hf := Tryz.fieldN2
  generalize pM (pcs ss.data.toList) (sV a).data.toList = t at *
  clear h1 hp hts
  go_enter Tryz.func97, Tryz.ntmps97
  go_wp2_with fail
  generalize w.alloc (.cells #[.int .i64 23, .int .i64 nn, .string ss, .string tt] 53) = W at *
  have hbd : Below W.heap.size W W.drew := (Below.refl _ _).drew
  have hd := h0.up hbd
  have hzd : w.heap.size < W.drew.heap.size := hz
  have md : W.drew.cell? ⟨w.heap.size, 2, none⟩ = some (.string ss) := m2
  go_region_with (first
    | (go_at_call 141; refine (HU W.drew hd).mono ?_; rintro e w1 ⟨y, r, rfl, rfl, hb1⟩; have m3 := (hb1.cell (p := ⟨w.heap.size, 2, none⟩) hzd).trans md)
    | (go_at_call 140; refine (HM w1).mono ?_; rintro e w2 ⟨rfl, hb2⟩)
    | (go_at_call 139; refine (sureB_ok w2 t).mono ?_; rintro e w3 ⟨rfl, hw2⟩; have hw3 := hw2.symm; clear hw2; subst hw3)
    | (go_at_call 131; refine (truth_any w2 t).mono ?_; rintro e w9 ⟨⟨q9, c9, rfl, hv9⟩, hb9⟩))
  all_goals
    go_wp2
    go_ret
    exact ⟨⟨q9, c9, rfl, hv9⟩, qbt (qbt (qbt (qbt hb0 hbd) hb1) hb2) hb9⟩
set_option maxHeartbeats 1000000 in
theorem one_like_bad (h1 : opV a ≠ 3) (h : VArg w a n q c) (hx : x.op = 23) :
    Calls Tryz.prog 97 #[.pointer (some ⟨B, 0, none⟩), nodeV x, .slice q n c] w fun e w' => e = .panicked (thrownE 2) ∧ Below w.heap.size w w' := by
  obtain ⟨op, nn, ss, tt⟩ := x
  unfold nodeV
  dsimp only at *
  subst hx
  have hb0 : Below w.heap.size w (w.alloc (.cells #[.int .i64 23, .int .i64 nn, .string ss, .string tt] 53)) := (Below.refl _ _).alloc (Nat.le_refl _) _
  have hz : w.heap.size < (w.alloc (.cells #[.int .i64 23, .int .i64 nn, .string ss, .string tt] 53)).heap.size := by simp
  have m2 : (w.alloc (.cells #[.int .i64 23, .int .i64 nn, .string ss, .string tt] 53)).cell? ⟨w.heap.size, 2, none⟩ = some (.string ss) := by simp
  have h0 := h.up hb0
  have HU := fun w1 (hv : VArg w1 a n q c) => only_bad w1 3 a n q c hv h1
  clear h1
  go_enter Tryz.func97, Tryz.ntmps97
  go_wp2_with fail
  generalize w.alloc (.cells #[.int .i64 23, .int .i64 nn, .string ss, .string tt] 53) = W at *
  have hbd : Below W.heap.size W W.drew := (Below.refl _ _).drew
  have hd := h0.up hbd
  have hzd : w.heap.size < W.drew.heap.size := hz
  have md : W.drew.cell? ⟨w.heap.size, 2, none⟩ = some (.string ss) := m2
  refine wp_mono (Q := fun e a w' => e = .panic (thrownE 2) ∧ a.defers = [] ∧ Below w.heap.size w w') ?_ ?_
  rotate_left
  · rintro _ a w5 ⟨rfl, hd, hb5⟩
    go_wp2
    exact ⟨hd, rfl, hb5⟩
  refine wp_region_any (by kernel_rfl) ?_
  refine wpAny_take (i := 0) (v := ?_) rfl (by kernel_rfl) (by kernel_rfl) (by kernel_rfl) (fun _ _ _ h => h) (Or.inl ⟨by rfl, ?_⟩) ?_
  rotate_left
  · intro w; go_simp; with_reducible rfl
  refine wpAny_take (i := 2) (v := ?_) rfl (by kernel_rfl) (by kernel_rfl) (by kernel_rfl) (fun _ _ _ h => h) (Or.inl ⟨by rfl, ?_⟩) ?_
  rotate_left
  · intro w; go_simp; with_reducible rfl
  refine wpAny_ready (rs := [1, 3]) (by kernel_rfl) (by simp) ?_
  refine AllReady.cons rfl (fun K hK => ?_) ?_
  · have ml : W.drew.cell? ⟨w.heap.size, 2, none⟩ = some (.string ss) := md
    go_simp
    refine hK _ _ ?_
    clear hK K ml
    refine wpAny_ready (rs := [3]) (by kernel_rfl) (by simp) ?_
    refine AllReady.cons rfl (fun K hK => ?_) AllReady.nil
    go_simp
    refine (HU W.drew hd).mono ?_
    rintro e w9 ⟨rfl, hb9⟩
    exact ⟨rfl, qbt (qbt hb0 hbd) hb9⟩
  refine AllReady.cons rfl (fun K hK => ?_) AllReady.nil
  go_simp
  refine (HU W.drew hd).mono ?_
  rintro e w9 ⟨rfl, hb9⟩
  exact ⟨rfl, qbt (qbt hb0 hbd) hb9⟩
set_option maxHeartbeats 1000000 in
theorem one_get_bad (ho : E.Ok) (hs : AS E w B k) (hR : attE E.es a = .error 2) (h : VArg w a n q c) (hx : x.op = 22) :
    Calls Tryz.prog 97 #[.pointer (some ⟨B, 0, none⟩), nodeV x, .slice q n c] w fun e w' => e = .panicked (thrownE 2) ∧ Below w.heap.size w w' := by
  obtain ⟨op, nn, ss, tt⟩ := x
  unfold nodeV
  dsimp only at *
  subst hx
  have hb0 : Below w.heap.size w (w.alloc (.cells #[.int .i64 22, .int .i64 nn, .string ss, .string tt] 53)) := (Below.refl _ _).alloc (Nat.le_refl _) _
  have hz : w.heap.size < (w.alloc (.cells #[.int .i64 22, .int .i64 nn, .string ss, .string tt] 53)).heap.size := by simp
  have m2 : (w.alloc (.cells #[.int .i64 22, .int .i64 nn, .string ss, .string tt] 53)).cell? ⟨w.heap.size, 2, none⟩ = some (.string ss) := by simp
  have h0 := h.up hb0
  have HR : ∀ w1, Below w.heap.size w w1 → Calls Tryz.prog 138 #[.pointer (some ⟨B, 0, none⟩), .slice q n c] w1 fun e w' => e = .panicked (thrownE 2) ∧ Below w1.heap.size w1 w' := fun w1 hb => by
    have HR := record_any w1 B k a n q c ho (hs.up hb) (h.up hb)
    rw [hR] at HR
    refine HR.mono ?_
    rintro e w' ⟨⟨h8, _⟩ | ⟨_, h2⟩, hb'⟩
    · exact absurd h8 (by decide)
    · exact ⟨h2, hb'⟩
  clear hR hs ho
  go_enter Tryz.func97, Tryz.ntmps97
  go_wp2_with fail
  generalize w.alloc (.cells #[.int .i64 22, .int .i64 nn, .string ss, .string tt] 53) = W at *
  have hbd : Below W.heap.size W W.drew := (Below.refl _ _).drew
  have hd := h0.up hbd
  have hzd : w.heap.size < W.drew.heap.size := hz
  have md : W.drew.cell? ⟨w.heap.size, 2, none⟩ = some (.string ss) := m2
  refine wp_mono (Q := fun e a w' => e = .panic (thrownE 2) ∧ a.defers = [] ∧ Below w.heap.size w w') ?_ ?_
  rotate_left
  · rintro _ a w5 ⟨rfl, hd, hb5⟩
    go_wp2
    exact ⟨hd, rfl, hb5⟩
  refine wp_region_any (by kernel_rfl) ?_
  refine wpAny_take (i := 0) (v := ?_) rfl (by kernel_rfl) (by kernel_rfl) (by kernel_rfl) (fun _ _ _ h => h) (Or.inl ⟨by rfl, ?_⟩) ?_
  rotate_left
  · intro w; go_simp; with_reducible rfl
  refine wpAny_take (i := 1) (v := ?_) rfl (by kernel_rfl) (by kernel_rfl) (by kernel_rfl) (fun _ _ _ h => h) (Or.inl ⟨by rfl, ?_⟩) ?_
  rotate_left
  · intro w; go_simp; with_reducible rfl
  refine wpAny_take (i := 6) (v := ?_) rfl (by kernel_rfl) (by kernel_rfl) (by kernel_rfl) (fun _ _ _ h => h) (Or.inl ⟨by rfl, ?_⟩) ?_
  rotate_left
  · intro w; go_simp; with_reducible rfl
  refine wpAny_ready (rs := [2, 7]) (by kernel_rfl) (by simp) ?_
  refine AllReady.cons rfl (fun K hK => ?_) ?_
  · go_simp
    refine (HR W.drew (qbt hb0 hbd)).mono ?_
    rintro e w9 ⟨rfl, hb9⟩
    exact ⟨rfl, qbt (qbt hb0 hbd) hb9⟩
  refine AllReady.cons rfl (fun K hK => ?_) AllReady.nil
  have ml : W.drew.cell? ⟨w.heap.size, 2, none⟩ = some (.string ss) := md
  go_simp
  refine hK _ _ ?_
  clear hK K ml
  refine wpAny_ready (rs := [2]) (by kernel_rfl) (by simp) ?_
  refine AllReady.cons rfl (fun K hK => ?_) AllReady.nil
  go_simp
  refine (HR W.drew (qbt hb0 hbd)).mono ?_
  rintro e w9 ⟨rfl, hb9⟩
  exact ⟨rfl, qbt (qbt hb0 hbd) hb9⟩
set_option maxHeartbeats 1000000 in
theorem one_get_lost (ho : E.Ok) (hs : AS E w B k) (hR : attE E.es a = .error 8) (h : VArg w a n q c) (hx : x.op = 22) :
    Calls Tryz.prog 97 #[.pointer (some ⟨B, 0, none⟩), nodeV x, .slice q n c] w fun e w' => e = .panicked (thrownE 8) ∧ Below w.heap.size w w' := by
  obtain ⟨op, nn, ss, tt⟩ := x
  unfold nodeV
  dsimp only at *
  subst hx
  have hb0 : Below w.heap.size w (w.alloc (.cells #[.int .i64 22, .int .i64 nn, .string ss, .string tt] 53)) := (Below.refl _ _).alloc (Nat.le_refl _) _
  have hz : w.heap.size < (w.alloc (.cells #[.int .i64 22, .int .i64 nn, .string ss, .string tt] 53)).heap.size := by simp
  have m2 : (w.alloc (.cells #[.int .i64 22, .int .i64 nn, .string ss, .string tt] 53)).cell? ⟨w.heap.size, 2, none⟩ = some (.string ss) := by simp
  have h0 := h.up hb0
  have HR : ∀ w1, Below w.heap.size w w1 → Calls Tryz.prog 138 #[.pointer (some ⟨B, 0, none⟩), .slice q n c] w1 fun e w' => e = .returned (.tuple #[.slice none 0 0, .iface 31 (.int .i64 8)]) ∧ Below w1.heap.size w1 w' := fun w1 hb => by
    have HR := record_any w1 B k a n q c ho (hs.up hb) (h.up hb)
    rw [hR] at HR
    refine HR.mono ?_
    rintro e w' ⟨⟨_, h2⟩ | ⟨h8, _⟩, hb'⟩
    · exact ⟨h2, hb'⟩
    · exact absurd h8 (by decide)
  have HS : ∀ w1, Calls Tryz.prog 124 #[.slice none 0 0, .iface 31 (.int .i64 8)] w1 fun e w' => e = .panicked (thrownE 8) ∧ Below w1.heap.size w1 w' := fun w1 => (sureN_bad w1 none 0 0 8).mono fun e w' ⟨h1, h2⟩ => ⟨h1, by rw [h2]; exact Below.refl _ _⟩
  clear hR hs ho
  go_enter Tryz.func97, Tryz.ntmps97
  go_wp2_with fail
  generalize w.alloc (.cells #[.int .i64 22, .int .i64 nn, .string ss, .string tt] 53) = W at *
  have hbd : Below W.heap.size W W.drew := (Below.refl _ _).drew
  have hd := h0.up hbd
  have hzd : w.heap.size < W.drew.heap.size := hz
  have md : W.drew.cell? ⟨w.heap.size, 2, none⟩ = some (.string ss) := m2
  refine wp_mono (Q := fun e a w' => e = .panic (thrownE 8) ∧ a.defers = [] ∧ Below w.heap.size w w') ?_ ?_
  rotate_left
  · rintro _ a w5 ⟨rfl, hd, hb5⟩
    go_wp2
    exact ⟨hd, rfl, hb5⟩
  refine wp_region_any (by kernel_rfl) ?_
  refine wpAny_take (i := 0) (v := ?_) rfl (by kernel_rfl) (by kernel_rfl) (by kernel_rfl) (fun _ _ _ h => h) (Or.inl ⟨by rfl, ?_⟩) ?_
  rotate_left
  · intro w; go_simp; with_reducible rfl
  refine wpAny_take (i := 1) (v := ?_) rfl (by kernel_rfl) (by kernel_rfl) (by kernel_rfl) (fun _ _ _ h => h) (Or.inl ⟨by rfl, ?_⟩) ?_
  rotate_left
  · intro w; go_simp; with_reducible rfl
  refine wpAny_take (i := 6) (v := ?_) rfl (by kernel_rfl) (by kernel_rfl) (by kernel_rfl) (fun _ _ _ h => h) (Or.inl ⟨by rfl, ?_⟩) ?_
  rotate_left
  · intro w; go_simp; with_reducible rfl
  refine wpAny_ready (rs := [2, 7]) (by kernel_rfl) (by simp) ?_
  refine AllReady.cons rfl (fun K hK => ?_) ?_
  · go_simp
    refine (HR W.drew (qbt hb0 hbd)).mono ?_
    rintro e w1 ⟨rfl, hb1⟩
    refine hK _ _ ?_
    clear hK K
    refine wpAny_take (i := 3) (v := ?_) rfl (by kernel_rfl) (by kernel_rfl) (by kernel_rfl) (fun _ _ _ h => h) (Or.inl ⟨by rfl, ?_⟩) ?_
    rotate_left
    · intro w; go_simp; with_reducible rfl
    refine wpAny_take (i := 4) (v := ?_) rfl (by kernel_rfl) (by kernel_rfl) (by kernel_rfl) (fun _ _ _ h => h) (Or.inl ⟨by rfl, ?_⟩) ?_
    rotate_left
    · intro w; go_simp; with_reducible rfl
    refine wpAny_ready (rs := [5, 7]) (by kernel_rfl) (by simp) ?_
    refine AllReady.cons rfl (fun K hK => ?_) ?_
    · go_simp
      refine (HS w1).mono ?_
      rintro e w9 ⟨rfl, hb9⟩
      exact ⟨rfl, qbt (qbt hb0 (qbt hbd hb1)) hb9⟩
    refine AllReady.cons rfl (fun K hK => ?_) AllReady.nil
    have ml : w1.cell? ⟨w.heap.size, 2, none⟩ = some (.string ss) := ((qbt hbd hb1).cell (p := ⟨w.heap.size, 2, none⟩) hz).trans m2
    go_simp
    refine hK _ _ ?_
    clear hK K ml
    refine wpAny_ready (rs := [5]) (by kernel_rfl) (by simp) ?_
    refine AllReady.cons rfl (fun K hK => ?_) AllReady.nil
    go_simp
    refine (HS w1).mono ?_
    rintro e w9 ⟨rfl, hb9⟩
    exact ⟨rfl, qbt (qbt hb0 (qbt hbd hb1)) hb9⟩
  refine AllReady.cons rfl (fun K hK => ?_) AllReady.nil
  have ml : W.drew.cell? ⟨w.heap.size, 2, none⟩ = some (.string ss) := md
  go_simp
  refine hK _ _ ?_
  clear hK K ml
  refine wpAny_ready (rs := [2]) (by kernel_rfl) (by simp) ?_
  refine AllReady.cons rfl (fun K hK => ?_) AllReady.nil
  go_simp
  refine (HR W.drew (qbt hb0 hbd)).mono ?_
  rintro e w1 ⟨rfl, hb1⟩
  refine hK _ _ ?_
  clear hK K
  refine wpAny_take (i := 3) (v := ?_) rfl (by kernel_rfl) (by kernel_rfl) (by kernel_rfl) (fun _ _ _ h => h) (Or.inl ⟨by rfl, ?_⟩) ?_
  rotate_left
  · intro w; go_simp; with_reducible rfl
  refine wpAny_take (i := 4) (v := ?_) rfl (by kernel_rfl) (by kernel_rfl) (by kernel_rfl) (fun _ _ _ h => h) (Or.inl ⟨by rfl, ?_⟩) ?_
  rotate_left
  · intro w; go_simp; with_reducible rfl
  refine wpAny_ready (rs := [5]) (by kernel_rfl) (by simp) ?_
  refine AllReady.cons rfl (fun K hK => ?_) AllReady.nil
  go_simp
  refine (HS w1).mono ?_
  rintro e w9 ⟨rfl, hb9⟩
  exact ⟨rfl, qbt (qbt hb0 (qbt hbd hb1)) hb9⟩
set_option maxHeartbeats 1000000 in
theorem one_get_none (ho : E.Ok) (hs : AS E w B k) (r : List Nd) (hR : attE E.es a = .ok r) (hu : fldV r x.s = none) (h : VArg w a n q c) (hx : x.op = 22) :
    Calls Tryz.prog 97 #[.pointer (some ⟨B, 0, none⟩), nodeV x, .slice q n c] w fun e w' => e = .panicked (thrownE 3) ∧ Below w.heap.size w w' := by
  obtain ⟨op, nn, ss, tt⟩ := x
  unfold nodeV
  dsimp only at *
  subst hx
  have hb0 : Below w.heap.size w (w.alloc (.cells #[.int .i64 22, .int .i64 nn, .string ss, .string tt] 53)) := (Below.refl _ _).alloc (Nat.le_refl _) _
  have hz : w.heap.size < (w.alloc (.cells #[.int .i64 22, .int .i64 nn, .string ss, .string tt] 53)).heap.size := by simp
  have m2 : (w.alloc (.cells #[.int .i64 22, .int .i64 nn, .string ss, .string tt] 53)).cell? ⟨w.heap.size, 2, none⟩ = some (.string ss) := by simp
  have h0 := h.up hb0
  have HR := fun w1 (hb : Below w.heap.size w w1) => record_any w1 B k a n q c ho (hs.up hb) (h.up hb)
  rw [hR] at HR
  have HG := fun w1 q1 c1 (hv : VArg w1 r r.length q1 c1) (h6 : opV r = 6) => get_field r r.length q1 c1 ss w1 hv h6
  rw [hu] at HG
  simp only at HG
  have HS : ∀ w1 q1 c1, Calls Tryz.prog 124 #[.slice q1 0 c1, .iface 31 (.int .i64 3)] w1 fun e w' => e = .panicked (thrownE 3) ∧ Below w1.heap.size w1 w' := fun w1 q1 c1 => (sureN_bad w1 q1 0 c1 3).mono fun e w' ⟨h1, h2⟩ => ⟨h1, by rw [h2]; exact Below.refl _ _⟩
  clear hR hu hs ho
  go_enter Tryz.func97, Tryz.ntmps97
  go_wp2_with fail
  generalize w.alloc (.cells #[.int .i64 22, .int .i64 nn, .string ss, .string tt] 53) = W at *
  have hbd : Below W.heap.size W W.drew := (Below.refl _ _).drew
  have hd := h0.up hbd
  have hzd : w.heap.size < W.drew.heap.size := hz
  have md : W.drew.cell? ⟨w.heap.size, 2, none⟩ = some (.string ss) := m2
  refine wp_mono (Q := fun e a w' => e = .panic (thrownE 3) ∧ a.defers = [] ∧ Below w.heap.size w w') ?_ ?_
  rotate_left
  · rintro _ a w5 ⟨rfl, hd, hb5⟩
    go_wp2
    exact ⟨hd, rfl, hb5⟩
  refine wp_region_any (by kernel_rfl) ?_
  refine wpAny_take (i := 0) (v := ?_) rfl (by kernel_rfl) (by kernel_rfl) (by kernel_rfl) (fun _ _ _ h => h) (Or.inl ⟨by rfl, ?_⟩) ?_
  rotate_left
  · intro w; go_simp; with_reducible rfl
  refine wpAny_take (i := 1) (v := ?_) rfl (by kernel_rfl) (by kernel_rfl) (by kernel_rfl) (fun _ _ _ h => h) (Or.inl ⟨by rfl, ?_⟩) ?_
  rotate_left
  · intro w; go_simp; with_reducible rfl
  refine wpAny_take (i := 6) (v := ?_) rfl (by kernel_rfl) (by kernel_rfl) (by kernel_rfl) (fun _ _ _ h => h) (Or.inl ⟨by rfl, ?_⟩) ?_
  rotate_left
  · intro w; go_simp; with_reducible rfl
  refine wpAny_ready (rs := [2, 7]) (by kernel_rfl) (by simp) ?_
  refine AllReady.cons rfl (fun K hK => ?_) ?_
  · go_simp
    refine (HR W.drew (qbt hb0 hbd)).mono ?_
    rintro e w1 ⟨⟨q1, c1, rfl, hv1, h6⟩, hb1⟩
    refine hK _ _ ?_
    clear hK K
    refine wpAny_take (i := 3) (v := ?_) rfl (by kernel_rfl) (by kernel_rfl) (by kernel_rfl) (fun _ _ _ h => h) (Or.inl ⟨by rfl, ?_⟩) ?_
    rotate_left
    · intro w; go_simp; with_reducible rfl
    refine wpAny_take (i := 4) (v := ?_) rfl (by kernel_rfl) (by kernel_rfl) (by kernel_rfl) (fun _ _ _ h => h) (Or.inl ⟨by rfl, ?_⟩) ?_
    rotate_left
    · intro w; go_simp; with_reducible rfl
    refine wpAny_ready (rs := [5, 7]) (by kernel_rfl) (by simp) ?_
    refine AllReady.cons rfl (fun K hK => ?_) ?_
    · go_simp
      refine (sureN_ok w1 q1 _ c1).mono ?_
      rintro e w2 ⟨rfl, hw2⟩
      have hw3 := hw2.symm
      clear hw2
      subst hw3
      refine hK _ _ ?_
      clear hK K
      refine wpAny_ready (rs := [7]) (by kernel_rfl) (by simp) ?_
      refine AllReady.cons rfl (fun K hK => ?_) AllReady.nil
      have ml : w1.cell? ⟨w.heap.size, 2, none⟩ = some (.string ss) := ((qbt hbd hb1).cell (p := ⟨w.heap.size, 2, none⟩) hz).trans m2
      go_simp
      refine hK _ _ ?_
      clear hK K ml
      refine wpAny_ready (rs := [8]) (by kernel_rfl) (by simp) ?_
      refine AllReady.cons rfl (fun K hK => ?_) AllReady.nil
      go_simp
      refine (HG w1 q1 c1 hv1 h6).mono ?_
      rintro e w3 ⟨⟨q3, c3, rfl⟩, hb3⟩
      refine hK _ _ ?_
      clear hK K
      refine wpAny_take (i := 9) (v := ?_) rfl (by kernel_rfl) (by kernel_rfl) (by kernel_rfl) (fun _ _ _ h => h) (Or.inl ⟨by rfl, ?_⟩) ?_
      rotate_left
      · intro w; go_simp; with_reducible rfl
      refine wpAny_take (i := 10) (v := ?_) rfl (by kernel_rfl) (by kernel_rfl) (by kernel_rfl) (fun _ _ _ h => h) (Or.inl ⟨by rfl, ?_⟩) ?_
      rotate_left
      · intro w; go_simp; with_reducible rfl
      refine wpAny_ready (rs := [11]) (by kernel_rfl) (by simp) ?_
      refine AllReady.cons rfl (fun K hK => ?_) AllReady.nil
      go_simp
      refine (HS w3 q3 c3).mono ?_
      rintro e w9 ⟨rfl, hb9⟩
      exact ⟨rfl, qbt (qbt hb0 (qbt (qbt hbd hb1) hb3)) hb9⟩
    refine AllReady.cons rfl (fun K hK => ?_) AllReady.nil
    have ml : w1.cell? ⟨w.heap.size, 2, none⟩ = some (.string ss) := ((qbt hbd hb1).cell (p := ⟨w.heap.size, 2, none⟩) hz).trans m2
    go_simp
    refine hK _ _ ?_
    clear hK K ml
    refine wpAny_ready (rs := [5]) (by kernel_rfl) (by simp) ?_
    refine AllReady.cons rfl (fun K hK => ?_) AllReady.nil
    go_simp
    refine (sureN_ok w1 q1 _ c1).mono ?_
    rintro e w2 ⟨rfl, hw2⟩
    have hw3 := hw2.symm
    clear hw2
    subst hw3
    refine hK _ _ ?_
    clear hK K
    refine wpAny_ready (rs := [8]) (by kernel_rfl) (by simp) ?_
    refine AllReady.cons rfl (fun K hK => ?_) AllReady.nil
    go_simp
    refine (HG w1 q1 c1 hv1 h6).mono ?_
    rintro e w3 ⟨⟨q3, c3, rfl⟩, hb3⟩
    refine hK _ _ ?_
    clear hK K
    refine wpAny_take (i := 9) (v := ?_) rfl (by kernel_rfl) (by kernel_rfl) (by kernel_rfl) (fun _ _ _ h => h) (Or.inl ⟨by rfl, ?_⟩) ?_
    rotate_left
    · intro w; go_simp; with_reducible rfl
    refine wpAny_take (i := 10) (v := ?_) rfl (by kernel_rfl) (by kernel_rfl) (by kernel_rfl) (fun _ _ _ h => h) (Or.inl ⟨by rfl, ?_⟩) ?_
    rotate_left
    · intro w; go_simp; with_reducible rfl
    refine wpAny_ready (rs := [11]) (by kernel_rfl) (by simp) ?_
    refine AllReady.cons rfl (fun K hK => ?_) AllReady.nil
    go_simp
    refine (HS w3 q3 c3).mono ?_
    rintro e w9 ⟨rfl, hb9⟩
    exact ⟨rfl, qbt (qbt hb0 (qbt (qbt hbd hb1) hb3)) hb9⟩
  refine AllReady.cons rfl (fun K hK => ?_) AllReady.nil
  have ml : W.drew.cell? ⟨w.heap.size, 2, none⟩ = some (.string ss) := md
  go_simp
  refine hK _ _ ?_
  clear hK K ml
  refine wpAny_ready (rs := [2]) (by kernel_rfl) (by simp) ?_
  refine AllReady.cons rfl (fun K hK => ?_) AllReady.nil
  go_simp
  refine (HR W.drew (qbt hb0 hbd)).mono ?_
  rintro e w1 ⟨⟨q1, c1, rfl, hv1, h6⟩, hb1⟩
  refine hK _ _ ?_
  clear hK K
  refine wpAny_take (i := 3) (v := ?_) rfl (by kernel_rfl) (by kernel_rfl) (by kernel_rfl) (fun _ _ _ h => h) (Or.inl ⟨by rfl, ?_⟩) ?_
  rotate_left
  · intro w; go_simp; with_reducible rfl
  refine wpAny_take (i := 4) (v := ?_) rfl (by kernel_rfl) (by kernel_rfl) (by kernel_rfl) (fun _ _ _ h => h) (Or.inl ⟨by rfl, ?_⟩) ?_
  rotate_left
  · intro w; go_simp; with_reducible rfl
  refine wpAny_ready (rs := [5]) (by kernel_rfl) (by simp) ?_
  refine AllReady.cons rfl (fun K hK => ?_) AllReady.nil
  go_simp
  refine (sureN_ok w1 q1 _ c1).mono ?_
  rintro e w2 ⟨rfl, hw2⟩
  have hw3 := hw2.symm
  clear hw2
  subst hw3
  refine hK _ _ ?_
  clear hK K
  refine wpAny_ready (rs := [8]) (by kernel_rfl) (by simp) ?_
  refine AllReady.cons rfl (fun K hK => ?_) AllReady.nil
  go_simp
  refine (HG w1 q1 c1 hv1 h6).mono ?_
  rintro e w3 ⟨⟨q3, c3, rfl⟩, hb3⟩
  refine hK _ _ ?_
  clear hK K
  refine wpAny_take (i := 9) (v := ?_) rfl (by kernel_rfl) (by kernel_rfl) (by kernel_rfl) (fun _ _ _ h => h) (Or.inl ⟨by rfl, ?_⟩) ?_
  rotate_left
  · intro w; go_simp; with_reducible rfl
  refine wpAny_take (i := 10) (v := ?_) rfl (by kernel_rfl) (by kernel_rfl) (by kernel_rfl) (fun _ _ _ h => h) (Or.inl ⟨by rfl, ?_⟩) ?_
  rotate_left
  · intro w; go_simp; with_reducible rfl
  refine wpAny_ready (rs := [11]) (by kernel_rfl) (by simp) ?_
  refine AllReady.cons rfl (fun K hK => ?_) AllReady.nil
  go_simp
  refine (HS w3 q3 c3).mono ?_
  rintro e w9 ⟨rfl, hb9⟩
  exact ⟨rfl, qbt (qbt hb0 (qbt (qbt hbd hb1) hb3)) hb9⟩
end
end Go.Proofs.YtglhjhbhijekjaaGreatDoor
namespace Go.Proofs.YtglhjhbhijekjaaGreatDoor
open Go.RowKit
set_option linter.unusedVariables false
set_option linter.unusedSimpArgs false
set_option linter.unusedSectionVars false
set_option maxRecDepth 100000

section
variable {E : EvEnv} (w : World) (B k : Nat) (a b : List Nd) (n m : Nat) (p q : Option Addr) (c d : Nat)
theorem VArg.uok {w : World} {a : List Nd} {n : Nat} {q : Option Addr} {c : Nat} (h : VArg w a n q c) : UOk (uidV a) := by
  obtain ⟨y, r, b, off, rfl, rfl, hb, c0, c1, c2, c3, hwf, h1⟩ := h.head
  exact ⟨hwf.1, hwf.2.1⟩
theorem uidsE_len {b : List Nd} (h : IsV b) {us : List Ui} (hu : uidsE b = some us) : us.length ≤ 1000 := by
  unfold uidsE at hu
  split at hu
  · rename_i h5
    split at hu
    · injection hu with hu; subst hu
      have := (setR_parts h h5).2.2
      simp; omega
    · cases hu
  · split at hu
    · injection hu with hu; subst hu; simp
    · cases hu
set_option maxHeartbeats 600000 in
theorem two_in (ho : E.Ok) (hs : AS E w B k) (h : VArg w a n p c) (g : VArg w b m q d) :
    Calls Tryz.prog 98 #[.pointer (some ⟨B, 0, none⟩), .int .i64 20, .slice p n c, .slice q m d] w fun e w' => VEndE (inE E.es a b) e w' ∧ Below w.heap.size w w' := by
  by_cases h4 : opV a = 4
  · have HX := uidOf_ok w a n p c h h4
    have HY := fun w1 (hb : Below w.heap.size w w1) => uidsOf_any b m q d w1 (g.up hb)
    cases hu : uidsE b with
    | none =>
      have HE : Hid (inE E.es a b = .error 2) := by show _ = _; unfold inE; rw [if_pos h4, hu]
      rw [HE.out]
      generalize uidV a = u at *
      go_enter Tryz.func98, Tryz.ntmps98
      go_wp2_with fail
      refine HX.mono ?_
      rintro e w1 ⟨rfl, hb1⟩
      go_wp2_with fail
      refine (HY w1 hb1).mono ?_
      rintro e w2 ⟨h2, hb2⟩
      unfold UidsEnd at h2
      rw [hu] at h2
      subst h2
      exact ⟨rfl, rfl, qbt hb1 hb2⟩
    | some us =>
      have hl := uidsE_len g.is hu
      have HE : Hid (∀ t, t = (open Classical in decide (∃ t ∈ us, t = uidV a ∨ Abv E.es (uidV a) t)) → inE E.es a b = .ok (tN t)) := by
        rintro t rfl
        unfold inE
        rw [if_pos h4, hu]
      have HI := fun w1 (hb : Below w.heap.size w w1) q c (hq : UL w1 q us) => ein_any w1 B k q c ho (hs.up hb) (uidV a) h.uok us hq hl
      generalize (open Classical in decide (∃ t ∈ us, t = uidV a ∨ Abv E.es (uidV a) t)) = t at *
      rw [HE.out t rfl]
      clear HE
      generalize uidV a = u at *
      go_enter Tryz.func98, Tryz.ntmps98
      go_wp2_with fail
      refine HX.mono ?_
      rintro e w1 ⟨rfl, hb1⟩
      go_wp2_with fail
      refine (HY w1 hb1).mono ?_
      rintro e w2 ⟨h2, hb2⟩
      unfold UidsEnd at h2
      rw [hu] at h2
      obtain ⟨q2, c2, rfl, hq2, _, _⟩ := h2
      go_wp2_with fail
      refine (HI w2 (qbt hb1 hb2) q2 c2 hq2).mono ?_
      rintro e w3 ⟨rfl, hb3⟩
      go_wp2_with fail
      refine (truth_any w3 t).mono ?_
      rintro e w9 ⟨⟨q9, c9, rfl, hv9⟩, hb9⟩
      go_wp2
      go_ret
      exact ⟨⟨q9, c9, rfl, hv9⟩, qbt (qbt (qbt hb1 hb2) hb3) hb9⟩
  · have HX := uidOf_bad w a n p c h h4
    have HE : Hid (inE E.es a b = .error 2) := by show _ = _; unfold inE; rw [if_neg h4]
    rw [HE.out]
    go_enter Tryz.func98, Tryz.ntmps98
    go_wp2_with fail
    refine HX.mono ?_
    rintro e w1 ⟨rfl, hb1⟩
    exact ⟨rfl, rfl, hb1⟩
theorem ofTwo_any (op : Int) (hop : op = 14 ∨ op = 15 ∨ op = 16 ∨ op = 17 ∨ op = 18 ∨ op = 19 ∨ op = 20 ∨ op = 25 ∨ op = 26 ∨ op = 27) (ho : E.Ok) (hs : AS E w B k) (h : VArg w a n p c) (g : VArg w b m q d) :
    Calls Tryz.prog 98 #[.pointer (some ⟨B, 0, none⟩), .int .i64 op, .slice p n c, .slice q m d] w fun e w' => VEndE (twoE E.es op a b) e w' ∧ Below w.heap.size w w' := by
  have num : ∀ op, op = 17 ∨ op = 18 ∨ op = 19 → Calls Tryz.prog 98 #[.pointer (some ⟨B, 0, none⟩), .int .i64 op, .slice p n c, .slice q m d] w fun e w' => VEndE (twoE E.es op a b) e w' ∧ Below w.heap.size w w' := by
    intro op h17
    have e0 : twoE E.es op a b = if opV a = 2 ∧ opV b = 2 then (if nmf op (nV a) (nV b) = 0 then .ok (mN (nx op (nV a) (nV b))) else .error (nmf op (nV a) (nV b))) else .error 2 := by
      unfold twoE
      rw [if_neg (by omega), if_neg (by omega), if_neg (by omega), if_neg (by omega), if_neg (by omega), if_neg (by omega), if_neg (by omega)]
    rw [e0]
    by_cases h2 : opV a = 2 ∧ opV b = 2
    · rw [if_pos h2]
      by_cases hf : nmf op (nV a) (nV b) = 0
      · rw [if_pos hf]; exact two_num w B k a b n m p q c d op ho hs h g h17 h2.1 h2.2 hf
      · rw [if_neg hf]; exact two_num_over w B k a b n m p q c d op ho hs h g h17 h2.1 h2.2 hf
    · rw [if_neg h2]; exact two_num_bad w B k a b n m p q c d op ho hs h g h17 h2
  rcases hop with rfl | rfl | rfl | rfl | rfl | rfl | rfl | rfl | rfl | rfl
  · exact two_eq w B k a b n m p q c d ho hs h g
  · have e0 : twoE E.es 15 a b = if opV a = 2 ∧ opV b = 2 then .ok (tN (decide (nV a < nV b))) else .error 2 := rfl
    rw [e0]
    by_cases h2 : opV a = 2 ∧ opV b = 2
    · rw [if_pos h2]; exact two_lt w B k a b n m p q c d ho hs h g h2.1 h2.2
    · rw [if_neg h2]; exact two_lt_bad w B k a b n m p q c d ho hs h g h2
  · have e0 : twoE E.es 16 a b = if opV a = 2 ∧ opV b = 2 then .ok (tN (decide (nV a ≤ nV b))) else .error 2 := rfl
    rw [e0]
    by_cases h2 : opV a = 2 ∧ opV b = 2
    · rw [if_pos h2]; exact two_le w B k a b n m p q c d ho hs h g h2.1 h2.2
    · rw [if_neg h2]; exact two_le_bad w B k a b n m p q c d ho hs h g h2
  · exact num 17 (by omega)
  · exact num 18 (by omega)
  · exact num 19 (by omega)
  · exact two_in w B k a b n m p q c d ho hs h g
  · have e0 : twoE E.es 25 a b = if opV a = 5 then .ok (tN (inB (setR a) b)) else .error 2 := rfl
    rw [e0]
    by_cases h5 : opV a = 5
    · rw [if_pos h5]; exact two_one w B k a b n m p q c d ho hs h g h5
    · rw [if_neg h5]; exact two_one_bad w B k a b n m p q c d ho hs h g h5
  · have e0 : twoE E.es 26 a b = if opV a = 5 ∧ opV b = 5 then .ok (tN (allB (setR a) (setR b))) else .error 2 := rfl
    rw [e0]
    by_cases h5 : opV a = 5 ∧ opV b = 5
    · rw [if_pos h5]; exact two_all w B k a b n m p q c d ho hs h g h5.1 h5.2
    · rw [if_neg h5]; exact two_all_bad w B k a b n m p q c d ho hs h g h5
  · have e0 : twoE E.es 27 a b = if opV a = 5 ∧ opV b = 5 then .ok (tN (anyB (setR a) (setR b))) else .error 2 := rfl
    rw [e0]
    by_cases h5 : opV a = 5 ∧ opV b = 5
    · rw [if_pos h5]; exact two_any w B k a b n m p q c d ho hs h g h5.1 h5.2
    · rw [if_neg h5]; exact two_any_bad w B k a b n m p q c d ho hs h g h5
theorem ofOne_any (x : Nd) (hop : x.op = 9 ∨ x.op = 10 ∨ x.op = 21 ∨ x.op = 22 ∨ x.op = 23 ∨ x.op = 24) (hx : exOk x = true) (ho : E.Ok) (hs : AS E w B k) (h : VArg w a n q c) :
    Calls Tryz.prog 97 #[.pointer (some ⟨B, 0, none⟩), nodeV x, .slice q n c] w fun e w' => VEndE (oneE E.es x a) e w' ∧ Below w.heap.size w w' := by
  unfold oneE
  rcases hop with h9 | h9 | h9 | h9 | h9 | h9
  · rw [if_pos h9]
    by_cases h1 : opV a = 1
    · rw [if_pos h1]; exact one_not w B a n q c x h h9 h1
    · rw [if_neg h1]; exact one_not_bad w B a n q c x h h9 h1
  · rw [if_neg (by omega), if_pos h9]
    by_cases h1 : opV a = 2
    · rw [if_pos h1]
      by_cases hf : Fit (-nV a)
      · rw [if_pos hf]; exact one_neg w B a n q c x h h9 h1 hf
      · rw [if_neg hf]; exact one_neg_over w B a n q c x h h9 h1 hf
    · rw [if_neg h1]; exact one_neg_bad w B a n q c x h h9 h1
  · rw [if_neg (by omega), if_neg (by omega), if_pos h9]
    exact one_has w B k a n q c x ho hs h h9
  · rw [if_neg (by omega), if_neg (by omega), if_neg (by omega), if_pos h9]
    unfold getV
    cases hR : attE E.es a with
    | ok r =>
      simp only
      cases hu : fldV r x.s with
      | some u => exact one_get w B k a n q c x ho hs r hR u hu h h9
      | none => exact one_get_none w B k a n q c x ho hs r hR hu h h9
    | error e =>
      simp only
      have he : e = 2 ∨ e = 8 := by
        unfold attE at hR
        split at hR
        · cases hR
        · split at hR
          · split at hR
            · cases hR
            · injection hR with hR; exact .inr hR.symm
          · injection hR with hR; exact .inl hR.symm
      rcases he with rfl | rfl
      · exact one_get_bad w B k a n q c x ho hs hR h h9
      · exact one_get_lost w B k a n q c x ho hs hR h h9
  · rw [if_neg (by omega), if_neg (by omega), if_neg (by omega), if_neg (by omega), if_pos h9]
    by_cases h1 : opV a = 3
    · rw [if_pos h1]
      have hp : textOk x.s.data.toList = true := by
        unfold exOk at hx
        rw [if_neg (by omega)] at hx
        split at hx
        · cases hx
        · rw [if_neg (by omega), if_neg (by omega)] at hx
          simp only [if_pos h9, Bool.and_eq_true] at hx
          exact hx.2
      exact one_like w B a n q c x h1 hp h h9
    · rw [if_neg h1]; exact one_like_bad w B a n q c x h1 h h9
  · rw [if_neg (by omega), if_neg (by omega), if_neg (by omega), if_neg (by omega), if_neg (by omega)]
    by_cases h1 : opV a = 4
    · rw [if_pos h1]; exact one_is w B a n q c x h1 h h9
    · rw [if_neg h1]; exact one_is_bad w B a n q c x h1 h h9
end
end Go.Proofs.YtglhjhbhijekjaaGreatDoor
