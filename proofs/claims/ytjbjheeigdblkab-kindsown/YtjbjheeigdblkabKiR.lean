/- Package kinds: join at sets and records, and whole. -/
import Derived.Test.YtjbjheeigdblkabKiK
namespace Go.Proofs.Ytjbjheeigdblkab
open Go.RowKit
set_option linter.unusedVariables false
set_option linter.unusedSectionVars false
set_option linter.unusedSimpArgs false
set_option maxRecDepth 100000

section
variable (x y : Nd) (k l : Tp) (w : World) (v u : Value) (S : Nat → Prop) (hv : VK w k v S) (hu : VK w l u S) (hxw : x.wf) (hyw : y.wf)
include hv hu hxw hyw
set_option maxHeartbeats 4000000 in
theorem join_set (ih : ∀ z kz, kz.flat.length < k.flat.length → JoinK z kz) (hx : x = lfN 45) (hy : y = lfN 45) (hk : T1 k) (hl : T1 l) (hk1 : k.flat.length ≤ 1000) (hl1 : l.flat.length ≤ 1000) :
    Calls Try.prog 18 #[partV x v, partV y u] w fun e w' => JRet S w w' (.cons (lfN 45) (jn false k l) .nil) e ∧ Below w.heap.size w w' := by
  obtain ⟨z, kz, rfl, hz⟩ := hk.of
  obtain ⟨z2, kz2, rfl, hz2⟩ := hl.of
  obtain ⟨g, cap, uz, rfl, hP, hzw, hvz⟩ := hv.single
  obtain ⟨g2, cap2, uz2, rfl, hP2, hzw2, hvz2⟩ := hu.single
  obtain ⟨qz, cz, rfl, _⟩ := hvz.slice
  obtain ⟨qz2, cz2, rfl, _⟩ := hvz2.slice
  simp only [Tp.flat, List.append_nil, List.length_cons] at ih hk1 hl1
  subst hx hy
  have hJ := JS.new w (lfN 45) (lfN 45) (.slice (some ⟨g, 0, none⟩) 1 cap) (.slice (some ⟨g2, 0, none⟩) 1 cap2)
  obtain ⟨W, hW⟩ : ∃ W, W = ((w.alloc (.cells #[.int .i64 45, .int .i64 0, .string ⟨#[]⟩, .string ⟨#[]⟩, .slice (some ⟨g, 0, none⟩) 1 cap] 37)).alloc (.cells #[.int .i64 45, .int .i64 0, .string ⟨#[]⟩, .string ⟨#[]⟩, .slice (some ⟨g2, 0, none⟩) 1 cap2] 37)).alloc (.cells #[.int .i64 0, .int .i64 0, .string ⟨#[]⟩, .string ⟨#[]⟩, .slice none 0 0] 37) := ⟨_, rfl⟩
  replace hJ : JS w W (lfN 45) (lfN 45) (.slice (some ⟨g, 0, none⟩) 1 cap) (.slice (some ⟨g2, 0, none⟩) 1 cap2) := by rw [hW]; exact hJ
  have HC := fun W9 (h9 : Below w.heap.size w W9) => ih z kz (by omega) z2 kz2 W9 _ _ (fun a => S a ∧ a < w.heap.size) (hvz.real.up h9) (hvz2.real.up h9) hzw hzw2 hz hz2 (by omega) (by omega)
  clear hv hu ih hk hl hk1 hl1 hz hz2
  unfold partV at *
  unfold lfN e0
  dsimp only
  go_enter Try.func18, Try.ntmps18
  go_wp2_with fail
  rw [← hW]
  clear hW
  have hd : Below W.heap.size W W.drew := kqx
  have hJx := hJ.bx.up hd
  have hJy := hJ.by_.up hd
  have hJr := hJ.br.up hd
  have hbd : Below w.heap.size w W.drew := kqt hJ.bel hd
  have hPd := hP.up hbd
  have hP2d := hP2.up hbd
  have hds : W.drew.heap.size = w.heap.size + 3 := hJ.sz
  refine wp_region_still_tail 8 (by kernel_rfl) (by kernel_rfl) ?_
  change wpStill _ _ W.drew (fun a' => wpList _ _ _ _ a' W.drew) _ _
  generalize W.drew = wd at *
  have d4 := hJx.cells.2.2.2.2
  have o4 := hJy.cells.2.2.2.2
  obtain ⟨a0, a1, a2, a3, a4⟩ := hPd.cells
  obtain ⟨f0, f1, f2, f3, f4⟩ := hP2d.cells
  dsimp only [Nat.zero_add, Nat.reduceAdd] at a0 a1 a2 a3 a4 f0 f1 f2 f3 f4
  simp only [List.take_succ_cons, List.take_zero, List.drop_succ_cons, List.drop_zero]
  repeat still_step
  refine wpStill_nil ?_
  go_wp2_with fail
  refine (HC wd hbd).mono ?_
  rintro _ w5 ⟨⟨xj, kj, qj, cj, hjn, rfl, hxj, hvj⟩, hb5⟩
  have HJN : Hid (jn false (.cons z kz .nil) (.cons z2 kz2 .nil) = .cons xj kj .nil) := hjn
  clear hjn HC a0 a1 a2 a3 a4 f0 f1 f2 f3 f4 d4 o4
  have hS := setOf_any xj kj w5 _ _ hvj hxj
  unfold partV at hS
  go_wp2_with fail
  refine hS.mono ?_
  rintro _ w6 ⟨⟨q6, c6, rfl, hv6⟩, hb6⟩
  have hb56 := kqt hb5 hb6
  have hr_6 := hJr.up hb56
  obtain ⟨r0, r1, r2, r3, r4⟩ := hr_6.cells
  have fr := hr_6.free
  have hb06 := kqt hbd hb56
  go_wp2
  obtain ⟨V, hV⟩ : ∃ V, V = ((((w6.setCell ⟨w.heap.size + 2, 0, none⟩ (.int .i64 45)).setCell ⟨w.heap.size + 2, 1, none⟩ (.int .i64 0)).setCell ⟨w.heap.size + 2, 2, none⟩ (.string ⟨#[]⟩)).setCell ⟨w.heap.size + 2, 3, none⟩ (.string ⟨#[]⟩)).setCell ⟨w.heap.size + 2, 4, none⟩ (.slice q6 1 c6) := ⟨_, rfl⟩
  rw [← hV]
  obtain ⟨hPV, hKV⟩ := hr_6.put (x := ⟨45, 0, ⟨#[]⟩, ⟨#[]⟩⟩) (u := .slice q6 1 c6) hV
  obtain ⟨t0, t1, t2, t3, t4⟩ := hPV.cells
  have hbV : Below w.heap.size w6 V := hKV.below (by have := hr_6.lt; omega) (fun a e => by omega)
  refine bodyPost_ret (v := .agg #[.int .i64 45, .int .i64 0, .string ⟨#[]⟩, .string ⟨#[]⟩, .slice q6 1 c6]) (by simp [results, Try.results18, go_sem, t0, t1, t2, t3, t4]) rfl ⟨⟨lfN 45, .cons xj kj .nil, q6, c6, by rw [HJN.out]; rfl, rfl, lfwf 45, ?_⟩, hb06.trans hbV⟩
  have hs5 : w.heap.size + 3 ≤ w5.heap.size := by have := hb5.size; omega
  exact (hv6.agree (fun a ha hl => hKV.block a hl (fun e => by
    rcases ha with (ha | ha) | ha
    · omega
    · omega
    · omega))).sub (fun a ha => by
    rcases ha with (ha | ha) | ha
    · exact .inl ha.1
    · exact .inr (by omega)
    · exact .inr (by omega))
set_option maxHeartbeats 4000000 in
theorem join_rcd (ih : ∀ z kz, kz.flat.length < k.flat.length → JoinK z kz) (m n : Int) (hx : x = ⟨46, m, e0, e0⟩) (hy : y = ⟨46, n, e0, e0⟩) (hk : Fl e0 k) (hl : Fl e0 l) (hk1 : k.flat.length ≤ 1000) (hl1 : l.flat.length ≤ 1000) :
    Calls Try.prog 18 #[partV x v, partV y u] w fun e w' => JRet S w w' (.cons ⟨46, (addF k l (jn true k l)).len, e0, e0⟩ (addF k l (jn true k l)) .nil) e ∧ Below w.heap.size w w' := by
  obtain ⟨q, c, rfl, _⟩ := hv.slice
  obtain ⟨q2, c2, rfl, _⟩ := hu.slice
  subst hx hy
  have hJ := JS.new w ⟨46, m, ⟨#[]⟩, ⟨#[]⟩⟩ ⟨46, n, ⟨#[]⟩, ⟨#[]⟩⟩ (.slice q k.len c) (.slice q2 l.len c2)
  obtain ⟨W, hW⟩ : ∃ W, W = ((w.alloc (.cells #[.int .i64 46, .int .i64 m, .string ⟨#[]⟩, .string ⟨#[]⟩, .slice q k.len c] 37)).alloc (.cells #[.int .i64 46, .int .i64 n, .string ⟨#[]⟩, .string ⟨#[]⟩, .slice q2 l.len c2] 37)).alloc (.cells #[.int .i64 0, .int .i64 0, .string ⟨#[]⟩, .string ⟨#[]⟩, .slice none 0 0] 37) := ⟨_, rfl⟩
  replace hJ : JS w W ⟨46, m, ⟨#[]⟩, ⟨#[]⟩⟩ ⟨46, n, ⟨#[]⟩, ⟨#[]⟩⟩ (.slice q k.len c) (.slice q2 l.len c2) := by rw [hW]; exact hJ
  have HC := joinFields_any ⟨46, m, ⟨#[]⟩, ⟨#[]⟩⟩ ⟨46, n, ⟨#[]⟩, ⟨#[]⟩⟩ k l ih W _ _ (fun a => S a ∧ a < w.heap.size) (hv.real.up hJ.bel) (hu.real.up hJ.bel) hk hl hk1 hl1
  clear hv hu ih hk hl hk1 hl1
  generalize addF k l (jn true k l) = T at *
  unfold partV at *
  unfold e0 at *
  dsimp only at *
  go_enter Try.func18, Try.ntmps18
  go_wp2_with fail
  rw [← hW]
  refine HC.mono ?_
  rintro _ w6 ⟨⟨xj, kj, qj, cj, hjn, rfl, hxj, hvj⟩, hb6⟩
  cases hjn
  have hr_6 := hJ.br.up hb6
  obtain ⟨r0, r1, r2, r3, r4⟩ := hr_6.cells
  have fr := hr_6.free
  have hb06 := kqt hJ.bel hb6
  have hWs := hJ.sz
  clear HC hW
  dsimp only at *
  go_wp2
  obtain ⟨V, hV⟩ : ∃ V, V = ((((w6.setCell ⟨w.heap.size + 2, 0, none⟩ (.int .i64 46)).setCell ⟨w.heap.size + 2, 1, none⟩ (.int .i64 T.len)).setCell ⟨w.heap.size + 2, 2, none⟩ (.string ⟨#[]⟩)).setCell ⟨w.heap.size + 2, 3, none⟩ (.string ⟨#[]⟩)).setCell ⟨w.heap.size + 2, 4, none⟩ (.slice qj T.len cj) := ⟨_, rfl⟩
  rw [← hV]
  obtain ⟨hPV, hKV⟩ := hr_6.put (x := ⟨46, T.len, ⟨#[]⟩, ⟨#[]⟩⟩) (u := .slice qj T.len cj) hV
  obtain ⟨t0, t1, t2, t3, t4⟩ := hPV.cells
  have hbV : Below w.heap.size w6 V := hKV.below (by have := hr_6.lt; omega) (fun a e => by omega)
  refine bodyPost_ret (v := .agg #[.int .i64 46, .int .i64 T.len, .string ⟨#[]⟩, .string ⟨#[]⟩, .slice qj T.len cj]) (by simp [results, Try.results18, go_sem, t0, t1, t2, t3, t4]) rfl ⟨⟨_, T, qj, cj, rfl, rfl, hxj, ?_⟩, hb06.trans hbV⟩
  exact (hvj.agree (fun a ha hl => hKV.block a hl (fun e => by
    rcases ha with ha | ha
    · omega
    · omega))).sub (fun a ha => by
    rcases ha with ha | ha
    · exact .inl ha.1
    · exact .inr (by omega))
end
theorem joinK_any : ∀ (N : Nat) (x : Nd) (k : Tp), k.flat.length < N → JoinK x k
  | 0, x, k, h => by omega
  | N + 1, x, k, h => by
    have ih : ∀ z kz, kz.flat.length < k.flat.length → JoinK z kz := fun z kz hz => joinK_any N z kz (by omega)
    intro y l w v u S hv hu hxw hyw hx hy hk1 hl1
    rw [jn_cons]
    by_cases h1 : x.op = 49
    · rw [if_pos h1]
      exact join_first x y k l w v u S hv hu hxw hyw h1
    rw [if_neg h1]
    by_cases h2 : y.op = 49
    · rw [if_pos h2]
      exact join_second x y k l w v u S hv hu hxw hyw h1 h2
    rw [if_neg h2]
    by_cases h5 : x.op = 45 ∧ y.op = 45
    · rw [if_pos h5]
      cases hx with
      | leaf o ho => have := h5.1; have e : (lfN o).op = o := rfl; omega
      | ent s h => have := h5.1; simp at this
      | rcd k h => have := h5.1; simp at this
      | set k hk =>
        cases hy with
        | leaf o ho => have := h5.2; have e : (lfN o).op = o := rfl; omega
        | ent s h => have := h5.2; simp at this
        | rcd k h => have := h5.2; simp at this
        | set l hl => exact join_set _ _ k l w v u S hv hu hxw hyw ih rfl rfl hk hl hk1 hl1
    rw [if_neg h5]
    by_cases h6 : x.op = 46 ∧ y.op = 46
    · rw [if_pos h6]
      cases hx with
      | leaf o ho => have := h6.1; have e : (lfN o).op = o := rfl; omega
      | ent s h => have := h6.1; simp at this
      | set k h => have := h6.1; simp [lfN] at this
      | rcd k hk =>
        cases hy with
        | leaf o ho => have := h6.2; have e : (lfN o).op = o := rfl; omega
        | ent s h => have := h6.2; simp at this
        | set k h => have := h6.2; simp [lfN] at this
        | rcd l hl => exact join_rcd _ _ k l w v u S hv hu hxw hyw ih _ _ rfl rfl hk hl hk1 hl1
    rw [if_neg h6]
    by_cases he : x = y
    · subst he
      rw [if_pos (ndEq_iff.2 rfl)]
      exact join_same x x k l w v u S hv hu hxw hyw h1 (fun e => h5 ⟨e, e⟩) (fun e => h6 ⟨e, e⟩) rfl
    · rw [if_neg (fun e => he (ndEq_iff.1 e))]
      by_cases hop : x.op = y.op
      · cases hx with
        | leaf o ho =>
          cases hy with
          | leaf o2 ho2 => exact absurd (by have e : o = o2 := hop; rw [e]) he
          | ent s h => have e : o = 44 := hop; omega
          | set k h => have e : o = 45 := hop; omega
          | rcd k h => have e : o = 46 := hop; omega
        | ent s hs =>
          cases hy with
          | leaf o2 ho2 => have e : 44 = o2 := hop; omega
          | ent t ht => exact join_ents _ _ _ _ w v u S hv hu hxw hyw s t rfl rfl (fun e => he (by rw [e]))
          | set k h => simp [lfN] at hop
          | rcd k h => simp at hop
        | set k hk => exact absurd ⟨rfl, hop.symm⟩ h5
        | rcd k hk => exact absurd ⟨rfl, hop.symm⟩ h6
      · exact join_diff x y k l w v u S hv hu hxw hyw h1 h2 hop
theorem joinK (x : Nd) (k : Tp) : JoinK x k := joinK_any _ x k (Nat.lt_succ_self _)
end Go.Proofs.Ytjbjheeigdblkab
