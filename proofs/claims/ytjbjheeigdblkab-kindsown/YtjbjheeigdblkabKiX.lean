/- Package kinds: below, by walks of its own text. -/
import Derived.Test.YtjbjheeigdblkabKiW
namespace Go.Proofs.Ytjbjheeigdblkab
open Go.RowKit
set_option linter.unusedVariables false
set_option maxRecDepth 100000

section
variable (x y : Nd) (k l : Tp) (w : World) (v u : Value) (S : Nat → Prop) (hv : VK w k v S) (hu : VK w l u S)
include hv hu
set_option maxHeartbeats 4000000 in
theorem below_yes (h : x.op = 49 ∨ x.op ≠ 49 ∧ y.op = 48) :
    Calls Try.prog 17 #[partV x v, partV y u] w fun e w' => e = .returned (.bool true) ∧ Below w.heap.size w w' := by
  obtain ⟨q, c, rfl, _⟩ := hv.slice
  obtain ⟨q2, c2, rfl, _⟩ := hu.slice
  clear hv hu
  have HL : Hid (∀ o1 o2, Below w.heap.size w ((w.alloc o1).alloc o2)) := fun o1 o2 => kqx
  obtain ⟨xo, xn, xs, xt⟩ := x
  obtain ⟨yo, yn, ys, yt⟩ := y
  dsimp only at h
  unfold partV
  dsimp only
  rcases h with rfl | ⟨h1, rfl⟩
  · go_enter Try.func17, Try.ntmps17
    go_wp2
    go_ret
    exact ⟨rfl, HL.out _ _⟩
  · have e1 : (xo == 49) = false := by rw [beq_eq_false_iff_ne]; omega
    clear h1
    go_enter Try.func17, Try.ntmps17
    go_wp2
    go_ret
    exact ⟨rfl, HL.out _ _⟩
set_option maxHeartbeats 4000000 in
theorem below_diff (h1 : x.op ≠ 49) (h2 : y.op ≠ 48) (h3 : x.op ≠ y.op) :
    Calls Try.prog 17 #[partV x v, partV y u] w fun e w' => e = .returned (.bool false) ∧ Below w.heap.size w w' := by
  obtain ⟨q, c, rfl, _⟩ := hv.slice
  obtain ⟨q2, c2, rfl, _⟩ := hu.slice
  clear hv hu
  have HL : Hid (∀ o1 o2, Below w.heap.size w ((w.alloc o1).alloc o2)) := fun o1 o2 => kqx
  obtain ⟨xo, xn, xs, xt⟩ := x
  obtain ⟨yo, yn, ys, yt⟩ := y
  dsimp only at h1 h2 h3
  unfold partV
  dsimp only
  have e1 : (xo == 49) = false := by rw [beq_eq_false_iff_ne]; omega
  have e2 : (yo == 48) = false := by rw [beq_eq_false_iff_ne]; omega
  have e3 : (xo != yo) = true := by simp [h3]
  clear h1 h2 h3
  go_enter Try.func17, Try.ntmps17
  go_wp2
  go_ret
  exact ⟨rfl, HL.out _ _⟩
set_option maxHeartbeats 4000000 in
theorem below_leaf (o : Int) (ho : o = 41 ∨ o = 42 ∨ o = 43) (hx : x = lfN o) (hy : y = lfN o) :
    Calls Try.prog 17 #[partV x v, partV y u] w fun e w' => e = .returned (.bool true) ∧ Below w.heap.size w w' := by
  obtain ⟨q, c, rfl, _⟩ := hv.slice
  obtain ⟨q2, c2, rfl, _⟩ := hu.slice
  clear hv hu
  have HL : Hid (∀ o1 o2, Below w.heap.size w ((w.alloc o1).alloc o2)) := fun o1 o2 => kqx
  subst hx hy
  unfold partV lfN e0
  dsimp only
  rcases ho with rfl | rfl | rfl
  all_goals
    go_enter Try.func17, Try.ntmps17
    go_wp2
    go_ret
    exact ⟨rfl, HL.out _ _⟩
set_option maxHeartbeats 4000000 in
theorem below_ent (s t : ByteArray) (hx : x = ⟨44, 0, s, e0⟩) (hy : y = ⟨44, 0, t, e0⟩) :
    Calls Try.prog 17 #[partV x v, partV y u] w fun e w' => e = .returned (.bool (decide (s = t))) ∧ Below w.heap.size w w' := by
  obtain ⟨q, c, rfl, _⟩ := hv.slice
  obtain ⟨q2, c2, rfl, _⟩ := hu.slice
  clear hv hu
  have HL : Hid (∀ o1 o2, Below w.heap.size w ((w.alloc o1).alloc o2)) := fun o1 o2 => kqx
  subst hx hy
  unfold partV e0
  dsimp only
  by_cases h : s = t
  · subst h
    have HR : Hid (decide (s = s) = true) := decide_eq_true rfl
    rw [HR.out]
    go_enter Try.func17, Try.ntmps17
    go_wp2
    go_ret
    exact ⟨rfl, HL.out _ _⟩
  · have HR : Hid (decide (s = t) = false) := decide_eq_false h
    rw [HR.out]
    have h3 : ¬ s.toList = t.toList := fun e => h (bytes_inj (by simpa only [ByteArray.toList_eq] using e))
    clear h
    go_enter Try.func17, Try.ntmps17
    go_wp2
    go_ret
    exact ⟨rfl, HL.out _ _⟩
set_option maxHeartbeats 4000000 in
theorem below_set (ih : ∀ z kz, kz.flat.length < k.flat.length → BelowK z kz) (hx : x = lfN 45) (hy : y = lfN 45) (hk : T1 k) (hl : T1 l) (hk1 : k.flat.length ≤ 1000) (hl1 : l.flat.length ≤ 1000) :
    Calls Try.prog 17 #[partV x v, partV y u] w fun e w' => e = .returned (.bool (blw false k l)) ∧ Below w.heap.size w w' := by
  obtain ⟨z, kz, rfl, hz⟩ := hk.of
  obtain ⟨z2, kz2, rfl, hz2⟩ := hl.of
  obtain ⟨g, cap, uz, rfl, hP, hzw, hvz⟩ := hv.single
  obtain ⟨g2, cap2, uz2, rfl, hP2, hzw2, hvz2⟩ := hu.single
  obtain ⟨qz, cz, rfl, _⟩ := hvz.slice
  obtain ⟨qz2, cz2, rfl, _⟩ := hvz2.slice
  simp only [Tp.flat, List.append_nil, List.length_cons] at ih hk1 hl1
  subst hx hy
  obtain ⟨V6, hV6⟩ : ∃ V6, V6 = (w.alloc (.cells #[.int .i64 45, .int .i64 0, .string ⟨#[]⟩, .string ⟨#[]⟩, .slice (some ⟨g, 0, none⟩) 1 cap] 37)).alloc (.cells #[.int .i64 45, .int .i64 0, .string ⟨#[]⟩, .string ⟨#[]⟩, .slice (some ⟨g2, 0, none⟩) 1 cap2] 37) := ⟨_, rfl⟩
  have hb6 : Below w.heap.size w V6 := by rw [hV6]; exact kqx
  have hB6 : PBk V6 w.heap.size (lfN 45) (.slice (some ⟨g, 0, none⟩) 1 cap) := by rw [hV6]; exact (PBk.new w (lfN 45) _ rfl).up kqx
  have hO6 : PBk V6 (w.heap.size + 1) (lfN 45) (.slice (some ⟨g2, 0, none⟩) 1 cap2) := by rw [hV6]; exact PBk.new _ (lfN 45) _ (by simp)
  have hC6 := fun q : BW V6.heap.size V6 => Calls.bel q (ih z kz (by omega) z2 kz2 q.at_ _ _ S ((hvz.up hb6).up q.bel) ((hvz2.up hb6).up q.bel) hz hz2 (by omega) (by omega))
  have d4 := fun q : BW V6.heap.size V6 => (hB6.up q.bel).cells.2.2.2.2
  have o4 := fun q : BW V6.heap.size V6 => (hO6.up q.bel).cells.2.2.2.2
  have e0 := fun q : BW V6.heap.size V6 => ((hP.up hb6).up q.bel).cells.1
  have e1 := fun q : BW V6.heap.size V6 => ((hP.up hb6).up q.bel).cells.2.1
  have e2 := fun q : BW V6.heap.size V6 => ((hP.up hb6).up q.bel).cells.2.2.1
  have e3 := fun q : BW V6.heap.size V6 => ((hP.up hb6).up q.bel).cells.2.2.2.1
  have e4 := fun q : BW V6.heap.size V6 => ((hP.up hb6).up q.bel).cells.2.2.2.2
  have f0 := fun q : BW V6.heap.size V6 => ((hP2.up hb6).up q.bel).cells.1
  have f1 := fun q : BW V6.heap.size V6 => ((hP2.up hb6).up q.bel).cells.2.1
  have f2 := fun q : BW V6.heap.size V6 => ((hP2.up hb6).up q.bel).cells.2.2.1
  have f3 := fun q : BW V6.heap.size V6 => ((hP2.up hb6).up q.bel).cells.2.2.2.1
  have f4 := fun q : BW V6.heap.size V6 => ((hP2.up hb6).up q.bel).cells.2.2.2.2
  dsimp only [Nat.zero_add, Nat.reduceAdd] at e0 e1 e2 e3 e4 f0 f1 f2 f3 f4
  have HB6 : Hid (Below w.heap.size w V6) := hb6
  generalize blw false (.cons z kz .nil) (.cons z2 kz2 .nil) = R at *
  clear hv hu ih hk hl hk1 hl1 hz hz2 hP hP2 hvz hvz2 hB6 hO6 hb6
  unfold partV at *
  unfold lfN Go.Proofs.Ytjbjheeigdblkab.e0 at *
  dsimp only at *
  go_enter Try.func17, Try.ntmps17
  go_wp2_with fail
  rw [← hV6]
  clear hV6
  refine wp_region_bel (by kernel_rfl) (by kernel_rfl) ?_
  repeat (go_big_quiet_step (exact hC6 _))
  refine wpQuiet_nil ?_
  rintro _ ⟨q9, rfl⟩
  go_wp2
  go_ret
  exact ⟨rfl, HB6.out.trans (q9.bel.mono HB6.out.size)⟩
set_option maxHeartbeats 4000000 in
theorem below_rcd (ih : ∀ z kz, kz.flat.length < k.flat.length → BelowK z kz) (m n : Int) (hx : x = ⟨46, m, e0, e0⟩) (hy : y = ⟨46, n, e0, e0⟩) (hk : Fl e0 k) (hl : Fl e0 l) (hk1 : k.flat.length ≤ 1000) (hl1 : l.flat.length ≤ 1000) :
    Calls Try.prog 17 #[partV x v, partV y u] w fun e w' => e = .returned (.bool (blw true k l && musts k l)) ∧ Below w.heap.size w w' := by
  obtain ⟨q, c, rfl, _⟩ := hv.slice
  obtain ⟨q2, c2, rfl, _⟩ := hu.slice
  subst hx hy
  obtain ⟨V6, hV6⟩ : ∃ V6, V6 = (w.alloc (.cells #[.int .i64 46, .int .i64 m, .string ⟨#[]⟩, .string ⟨#[]⟩, .slice q k.len c] 37)).alloc (.cells #[.int .i64 46, .int .i64 n, .string ⟨#[]⟩, .string ⟨#[]⟩, .slice q2 l.len c2] 37) := ⟨_, rfl⟩
  have hb6 : Below w.heap.size w V6 := by rw [hV6]; exact kqx
  have hB6 : PBk V6 w.heap.size ⟨46, m, ⟨#[]⟩, ⟨#[]⟩⟩ (.slice q k.len c) := by rw [hV6]; exact (PBk.new w ⟨46, m, ⟨#[]⟩, ⟨#[]⟩⟩ _ rfl).up kqx
  have hO6 : PBk V6 (w.heap.size + 1) ⟨46, n, ⟨#[]⟩, ⟨#[]⟩⟩ (.slice q2 l.len c2) := by rw [hV6]; exact PBk.new _ ⟨46, n, ⟨#[]⟩, ⟨#[]⟩⟩ _ (by simp)
  have HF := fun w1 (h1 : Below V6.heap.size V6 w1) => fieldsBelow_any ⟨46, m, ⟨#[]⟩, ⟨#[]⟩⟩ ⟨46, n, ⟨#[]⟩, ⟨#[]⟩⟩ k l ih w1 _ _ S ((hv.up hb6).up h1) ((hu.up hb6).up h1) hk hl hk1 hl1
  have HM := fun w1 (h1 : Below V6.heap.size V6 w1) => mustAll_any ⟨46, m, ⟨#[]⟩, ⟨#[]⟩⟩ ⟨46, n, ⟨#[]⟩, ⟨#[]⟩⟩ k l w1 _ _ S ((hv.up hb6).up h1) ((hu.up hb6).up h1) hk1 hl1
  have HB6 : Hid (Below w.heap.size w V6) := hb6
  clear hv hu ih hk hl hk1 hl1 hb6
  generalize blw true k l = R1 at *
  generalize musts k l = R2 at *
  unfold partV at *
  unfold Go.Proofs.Ytjbjheeigdblkab.e0 at *
  dsimp only at *
  cases R1
  · go_enter Try.func17, Try.ntmps17
    go_wp2_with fail
    rw [← hV6]
    refine (HF V6 (Below.refl _ _)).mono ?_
    rintro _ w1 ⟨rfl, hb1⟩
    go_wp2
    go_ret
    exact ⟨rfl, HB6.out.trans (hb1.mono HB6.out.size)⟩
  · go_enter Try.func17, Try.ntmps17
    go_wp2_with fail
    rw [← hV6]
    refine (HF V6 (Below.refl _ _)).mono ?_
    rintro _ w1 ⟨rfl, hb1⟩
    obtain ⟨d0, d1, d2, d3, d4⟩ := (hB6.up hb1).cells
    obtain ⟨f0, f1, f2, f3, f4⟩ := (hO6.up hb1).cells
    go_wp2_with fail
    refine (HM w1 hb1).mono ?_
    rintro _ w2 ⟨rfl, hb2⟩
    go_wp2
    go_ret
    exact ⟨retb (by simp), HB6.out.trans ((kqt hb1 hb2).mono HB6.out.size)⟩
end
theorem belowK_any : ∀ (N : Nat) (x : Nd) (k : Tp), k.flat.length < N → BelowK x k
  | 0, x, k, h => by omega
  | N + 1, x, k, h => by
    have ih : ∀ z kz, kz.flat.length < k.flat.length → BelowK z kz := fun z kz hz => belowK_any N z kz (by omega)
    intro y l w v u S hv hu hx hy hk1 hl1
    rw [blw_cons]
    by_cases h1 : x.op = 49 ∨ y.op = 48
    · rw [if_pos h1]
      exact below_yes x y k l w v u S hv hu (by omega)
    rw [if_neg h1]
    by_cases h2 : x.op ≠ y.op
    · rw [if_pos h2]
      exact below_diff x y k l w v u S hv hu (by omega) (by omega) h2
    rw [if_neg h2]
    cases hx with
    | leaf o ho =>
      cases hy with
      | leaf o2 ho2 =>
        have e1 : (lfN o).op = o := rfl
        have e2 : (lfN o2).op = o2 := rfl
        have : o = o2 := by omega
        subst this
        rw [if_neg (by omega), if_neg (by omega), ndEq_iff.2 rfl]
        exact below_leaf _ _ _ _ w v u S hv hu o (by omega) rfl rfl
      | ent s h => have e1 : (lfN o).op = o := rfl; simp only [e1] at h2; omega
      | set k h => have e1 : (lfN o).op = o := rfl; have e2 : (lfN 45).op = 45 := rfl; omega
      | rcd k h => have e1 : (lfN o).op = o := rfl; simp only [e1] at h2; omega
    | ent s hs =>
      cases hy with
      | leaf o2 ho2 => have e2 : (lfN o2).op = o2 := rfl; simp only [e2] at h2; omega
      | ent t ht =>
        rw [if_neg (by simp), if_neg (by simp)]
        have := below_ent _ _ _ _ w v u S hv hu s t rfl rfl
        rw [show ndEq ⟨44, 0, s, e0⟩ ⟨44, 0, t, e0⟩ = decide (s = t) by simp [ndEq]]
        exact this
      | set k h => simp [lfN] at h2
      | rcd k h => simp at h2
    | set k hk =>
      cases hy with
      | leaf o2 ho2 => have e2 : (lfN o2).op = o2 := rfl; have e1 : (lfN 45).op = 45 := rfl; omega
      | ent t ht => simp [lfN] at h2
      | set l hl =>
        rw [if_pos (show (lfN 45).op = 45 from rfl)]
        exact below_set _ _ k l w v u S hv hu ih rfl rfl hk hl hk1 hl1
      | rcd k h => simp [lfN] at h2
    | rcd k hk =>
      cases hy with
      | leaf o2 ho2 => have e2 : (lfN o2).op = o2 := rfl; simp only [e2] at h2; omega
      | ent t ht => simp at h2
      | set l hl => simp [lfN] at h2
      | rcd l hl =>
        rw [if_neg (by simp), if_pos rfl]
        exact below_rcd _ _ k l w v u S hv hu ih _ _ rfl rfl hk hl hk1 hl1
theorem belowK (x : Nd) (k : Tp) : BelowK x k := belowK_any _ x k (Nat.lt_succ_self _)
end Go.Proofs.Ytjbjheeigdblkab
