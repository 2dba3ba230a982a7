/- Package kinds: has whole, and Has, by walks of their own texts. -/
import Derived.Test.YtjbjheeigdblkabKiG
import Derived.Test.YtjbjheeigdblkabKiY
import Derived.Test.YtjbjheeigdblkabCheck
namespace Go.Proofs.Ytjbjheeigdblkab
open Go.RowKit
set_option linter.unusedVariables false
set_option maxRecDepth 100000

section
variable (x y : Nd) (k l : Tp) (w : World) (v u : Value) (S : Nat → Prop) (hv : VK w k v S) (hu : VK w l u S)
include hv hu
set_option maxHeartbeats 4000000 in
theorem has_set (ih : ∀ z kz, kz.flat.length < l.flat.length → HasK z kz) (hx : x = lfN 45) (hk : T1 k) (h5 : y.op = 5) (hl : okV none l) (hk1 : k.flat.length ≤ 1000) (hl1 : l.flat.length ≤ 1000) :
    Calls Try.prog 15 #[partV x v, partV y u] w fun e w' => e = .returned (.bool (hs false l k)) ∧ Below w.heap.size w w' := by
  obtain ⟨z, kz, rfl, hz⟩ := hk.of
  obtain ⟨g, cap, uz, rfl, hP, hzw, hvz⟩ := hv.single
  obtain ⟨qz, cz, rfl, _⟩ := hvz.slice
  obtain ⟨q2, c2, rfl, _⟩ := hu.slice
  simp only [Tp.flat, List.append_nil, List.length_cons] at hk1
  subst hx
  obtain ⟨yo, yn, ys, yt⟩ := y
  dsimp only at h5
  subst h5
  obtain ⟨V6, hV6⟩ : ∃ V6, V6 = (w.alloc (.cells #[.int .i64 45, .int .i64 0, .string ⟨#[]⟩, .string ⟨#[]⟩, .slice (some ⟨g, 0, none⟩) 1 cap] 37)).alloc (.cells #[.int .i64 5, .int .i64 yn, .string ys, .string yt, .slice q2 l.len c2] 37) := ⟨_, rfl⟩
  have hb6 : Below w.heap.size w V6 := by rw [hV6]; exact kqx
  have hB6 : PBk V6 w.heap.size (lfN 45) (.slice (some ⟨g, 0, none⟩) 1 cap) := by rw [hV6]; exact (PBk.new w (lfN 45) _ rfl).up kqx
  have hO6 : PBk V6 (w.heap.size + 1) ⟨5, yn, ys, yt⟩ (.slice q2 l.len c2) := by rw [hV6]; exact PBk.new _ ⟨5, yn, ys, yt⟩ _ (by simp)
  have hC6 := fun q : BW V6.heap.size V6 => Calls.bel q (hasAll_any z kz l ih q.at_ _ _ S ((hvz.up hb6).up q.bel) ((hu.up hb6).up q.bel) hz hl (by omega) hl1)
  have d4 := fun q : BW V6.heap.size V6 => (hB6.up q.bel).cells.2.2.2.2
  have o0 := fun q : BW V6.heap.size V6 => (hO6.up q.bel).cells.1
  have o4 := fun q : BW V6.heap.size V6 => (hO6.up q.bel).cells.2.2.2.2
  have e0 := fun q : BW V6.heap.size V6 => ((hP.up hb6).up q.bel).cells.1
  have e1 := fun q : BW V6.heap.size V6 => ((hP.up hb6).up q.bel).cells.2.1
  have e2 := fun q : BW V6.heap.size V6 => ((hP.up hb6).up q.bel).cells.2.2.1
  have e3 := fun q : BW V6.heap.size V6 => ((hP.up hb6).up q.bel).cells.2.2.2.1
  have e4 := fun q : BW V6.heap.size V6 => ((hP.up hb6).up q.bel).cells.2.2.2.2
  dsimp only [Nat.zero_add, Nat.reduceAdd] at e0 e1 e2 e3 e4 o0
  have HB6 : Hid (Below w.heap.size w V6) := hb6
  generalize hs false l (.cons z kz .nil) = R at *
  clear hv hu ih hk hl hk1 hl1 hz hP hvz hB6 hO6 hb6
  unfold partV at *
  unfold lfN Go.Proofs.Ytjbjheeigdblkab.e0
  dsimp only
  go_enter Try.func15, Try.ntmps15
  go_wp2_with fail
  rw [← hV6]
  clear hV6
  refine wp_region_bel (by kernel_rfl) (by kernel_rfl) ?_
  repeat (go_big_quiet_step (exact hC6 _))
  refine wpQuiet_nil ?_
  rintro _ ⟨q9, rfl⟩
  go_wp2
  go_ret
  exact ⟨retb (by simp), HB6.out.trans (q9.bel.mono HB6.out.size)⟩
set_option maxHeartbeats 4000000 in
theorem has_setNo (hx : x = lfN 45) (h5 : y.op ≠ 5) :
    Calls Try.prog 15 #[partV x v, partV y u] w fun e w' => e = .returned (.bool false) ∧ Below w.heap.size w w' := by
  obtain ⟨q, c, rfl, _⟩ := hv.slice
  obtain ⟨q2, c2, rfl, _⟩ := hu.slice
  subst hx
  obtain ⟨yo, yn, ys, yt⟩ := y
  dsimp only at h5
  have e5 : (yo == 5) = false := by rw [beq_eq_false_iff_ne]; omega
  obtain ⟨V6, hV6⟩ : ∃ V6, V6 = (w.alloc (.cells #[.int .i64 45, .int .i64 0, .string ⟨#[]⟩, .string ⟨#[]⟩, .slice q k.len c] 37)).alloc (.cells #[.int .i64 yo, .int .i64 yn, .string ys, .string yt, .slice q2 l.len c2] 37) := ⟨_, rfl⟩
  have hb6 : Below w.heap.size w V6 := by rw [hV6]; exact kqx
  have hO6 : PBk V6 (w.heap.size + 1) ⟨yo, yn, ys, yt⟩ (.slice q2 l.len c2) := by rw [hV6]; exact PBk.new _ ⟨yo, yn, ys, yt⟩ _ (by simp)
  have o0 := fun q : BW V6.heap.size V6 => (hO6.up q.bel).cells.1
  have HB6 : Hid (Below w.heap.size w V6) := hb6
  clear hv hu hO6 hb6 h5
  dsimp only at o0
  unfold partV lfN e0
  dsimp only
  go_enter Try.func15, Try.ntmps15
  go_wp2_with fail
  rw [← hV6]
  clear hV6
  refine wp_region_bel (by kernel_rfl) (by kernel_rfl) ?_
  repeat (go_big_quiet_step (fail))
  refine wpQuiet_nil ?_
  rintro _ ⟨q9, rfl⟩
  go_wp2
  go_ret
  exact ⟨retb (by simp), HB6.out.trans (q9.bel.mono HB6.out.size)⟩
set_option maxHeartbeats 4000000 in
theorem has_rcd (ih : ∀ z kz, kz.flat.length < l.flat.length → HasK z kz) (m : Int) (hx : x = ⟨46, m, e0, e0⟩) (hk : Fl e0 k) (h6 : y.op = 6) (hl : okV (some e0) l) (hk1 : k.flat.length ≤ 1000) (hl1 : l.flat.length ≤ 1000) :
    Calls Try.prog 15 #[partV x v, partV y u] w fun e w' => e = .returned (.bool (hs true l k && noMiss l k)) ∧ Below w.heap.size w w' := by
  obtain ⟨q, c, rfl, _⟩ := hv.slice
  obtain ⟨q2, c2, rfl, _⟩ := hu.slice
  subst hx
  obtain ⟨yo, yn, ys, yt⟩ := y
  dsimp only at h6
  subst h6
  obtain ⟨V6, hV6⟩ : ∃ V6, V6 = (w.alloc (.cells #[.int .i64 46, .int .i64 m, .string ⟨#[]⟩, .string ⟨#[]⟩, .slice q k.len c] 37)).alloc (.cells #[.int .i64 6, .int .i64 yn, .string ys, .string yt, .slice q2 l.len c2] 37) := ⟨_, rfl⟩
  have hb6 : Below w.heap.size w V6 := by rw [hV6]; exact kqx
  have hB6 : PBk V6 w.heap.size ⟨46, m, ⟨#[]⟩, ⟨#[]⟩⟩ (.slice q k.len c) := by rw [hV6]; exact (PBk.new w ⟨46, m, ⟨#[]⟩, ⟨#[]⟩⟩ _ rfl).up kqx
  have hO6 : PBk V6 (w.heap.size + 1) ⟨6, yn, ys, yt⟩ (.slice q2 l.len c2) := by rw [hV6]; exact PBk.new _ ⟨6, yn, ys, yt⟩ _ (by simp)
  have HF := fun w1 (h1 : Below V6.heap.size V6 w1) => hasFields_any ⟨46, m, ⟨#[]⟩, ⟨#[]⟩⟩ ⟨6, yn, ys, yt⟩ k l ih w1 _ _ S ((hv.up hb6).up h1) ((hu.up hb6).up h1) hk hl hk1 hl1
  have HM := fun w1 (h1 : Below V6.heap.size V6 w1) => missesNone_any ⟨46, m, ⟨#[]⟩, ⟨#[]⟩⟩ ⟨6, yn, ys, yt⟩ k l w1 _ _ S ((hv.up hb6).up h1) ((hu.up hb6).up h1) hk1 hl1
  have HB6 : Hid (Below w.heap.size w V6) := hb6
  clear hv hu ih hk hl hk1 hl1 hb6
  generalize hs true l k = R1 at *
  generalize noMiss l k = R2 at *
  unfold partV at *
  unfold Go.Proofs.Ytjbjheeigdblkab.e0 at *
  dsimp only at *
  cases R1
  · go_enter Try.func15, Try.ntmps15
    go_wp2_with fail
    rw [← hV6]
    refine (HF V6 (Below.refl _ _)).mono ?_
    rintro _ w1 ⟨rfl, hb1⟩
    go_wp2
    go_ret
    exact ⟨rfl, HB6.out.trans (hb1.mono HB6.out.size)⟩
  · go_enter Try.func15, Try.ntmps15
    go_wp2_with fail
    rw [← hV6]
    refine (HF V6 (Below.refl _ _)).mono ?_
    rintro _ w1 ⟨rfl, hb1⟩
    obtain ⟨d0, d1, d2, d3, d4⟩ := (hB6.up hb1).cells
    obtain ⟨f0, f1, f2, f3, f4⟩ := (hO6.up hb1).cells
    go_wp2_with fail
    refine (HM w1 hb1).mono ?_
    rintro _ w2 ⟨rfl, hb2⟩
    go_wp2
    go_ret
    exact ⟨retb (by simp), HB6.out.trans ((kqt hb1 hb2).mono HB6.out.size)⟩
set_option maxHeartbeats 4000000 in
theorem has_rcdNo (m : Int) (hx : x = ⟨46, m, e0, e0⟩) (h6 : y.op ≠ 6) :
    Calls Try.prog 15 #[partV x v, partV y u] w fun e w' => e = .returned (.bool false) ∧ Below w.heap.size w w' := by
  obtain ⟨q, c, rfl, _⟩ := hv.slice
  obtain ⟨q2, c2, rfl, _⟩ := hu.slice
  clear hv hu
  have HL : Hid (∀ o1 o2, Below w.heap.size w ((w.alloc o1).alloc o2)) := fun o1 o2 => kqx
  subst hx
  obtain ⟨yo, yn, ys, yt⟩ := y
  dsimp only at h6
  have e6 : (yo == 6) = false := by rw [beq_eq_false_iff_ne]; omega
  clear h6
  unfold partV e0
  dsimp only
  go_enter Try.func15, Try.ntmps15
  go_wp2
  go_ret
  exact ⟨rfl, HL.out _ _⟩
end
theorem hasK_any : ∀ (N : Nat) (y : Nd) (l : Tp), l.flat.length < N → HasK y l
  | 0, y, l, h => by omega
  | N + 1, y, l, h => by
    have ih : ∀ z kz, kz.flat.length < l.flat.length → HasK z kz := fun z kz hz => hasK_any N z kz (by omega)
    intro x k w v u S hv hu hx hy hk1 hl1
    obtain ⟨⟨h7, hnd, hway⟩, _⟩ := okV.none_iff.1 hy
    have hnil : ∀ c, hs false .nil c = true := fun c => by rw [hs]
    rw [hs_cons, hnil, Bool.and_true]
    cases hx with
    | leaf o ho =>
      have := has_leaf _ y .nil l w v u S hv hu o ho rfl
      have e : (lfN o).op = o := rfl
      rw [e]
      have e2 : (if o = 48 then true else if o = 41 then decide (y.op = 1) else if o = 42 then decide (y.op = 2) else if o = 43 then decide (y.op = 3) else if o = 44 then decide (y.op = 4 ∧ y.s = (lfN o).s) else if o = 45 then decide (y.op = 5) && hs false l .nil else if o = 46 then decide (y.op = 6) && hs true l .nil && noMiss l .nil else false) = (if o = 48 then true else if o = 41 then decide (y.op = 1) else if o = 42 then decide (y.op = 2) else if o = 43 then decide (y.op = 3) else false) := by
        rw [if_neg (show ¬ o = 44 by omega), if_neg (show ¬ o = 45 by omega), if_neg (show ¬ o = 46 by omega)]
      rw [e2]
      exact this
    | ent s hs' =>
      simp only [show ¬ (44 : Int) = 48 by decide, show ¬ (44 : Int) = 41 by decide, show ¬ (44 : Int) = 42 by decide, show ¬ (44 : Int) = 43 by decide, if_true, if_false]
      exact has_ent _ y .nil l w v u S hv hu s rfl
    | set k hk =>
      have e : (lfN 45).op = 45 := rfl
      simp only [e, show ¬ (45 : Int) = 48 by decide, show ¬ (45 : Int) = 41 by decide, show ¬ (45 : Int) = 42 by decide, show ¬ (45 : Int) = 43 by decide, show ¬ (45 : Int) = 44 by decide, if_true, if_false]
      by_cases h5 : y.op = 5
      · rw [decide_eq_true h5, Bool.true_and]
        rcases hway with ⟨_, _, hk0⟩ | ⟨h6, _⟩ | ⟨h6, _⟩
        · exact has_set _ y k l w v u S hv hu ih rfl hk h5 hk0 hk1 hl1
        · omega
        · exact absurd h5 h6
      · rw [decide_eq_false h5, Bool.false_and]
        exact has_setNo _ y k l w v u S hv hu rfl h5
    | rcd k hk =>
      simp only [show ¬ (46 : Int) = 48 by decide, show ¬ (46 : Int) = 41 by decide, show ¬ (46 : Int) = 42 by decide, show ¬ (46 : Int) = 43 by decide, show ¬ (46 : Int) = 44 by decide, show ¬ (46 : Int) = 45 by decide, if_true, if_false]
      by_cases h6 : y.op = 6
      · rw [decide_eq_true h6, Bool.true_and]
        rcases hway with ⟨h5, _⟩ | ⟨_, _, hk0⟩ | ⟨_, h6', _⟩
        · omega
        · exact has_rcd _ y k l w v u S hv hu ih _ rfl hk h6 hk0 hk1 hl1
        · exact absurd h6 h6'
      · rw [decide_eq_false h6, Bool.false_and, Bool.false_and]
        exact has_rcdNo _ y k l w v u S hv hu _ rfl h6
theorem hasK (y : Nd) (l : Tp) : HasK y l := hasK_any _ y l (Nat.lt_succ_self _)
end Go.Proofs.Ytjbjheeigdblkab
