/- Package kinds: own at records, and whole; Own: by walks of their own texts. -/
import Derived.Test.YtjbjheeigdblkabKiOw
namespace Go.Proofs.Ytjbjheeigdblkab
open Go.RowKit
set_option linter.unusedVariables false
set_option linter.unusedSectionVars false
set_option linter.unusedSimpArgs false
set_option maxRecDepth 100000

theorem owT_len : ∀ a : Tp, (ow true a).len = a.len
  | .nil => by simp [ow]
  | .cons f kf r => by rw [ow_flds]; simp [Tp.len, owT_len r]
theorem okF_app : ∀ {a b : Tp} {m : ByteArray}, okV (some m) (a.app b) → ∃ m', okV (some m') b
  | .nil, b, m, h => ⟨m, h⟩
  | .cons y l r, b, m, h => okF_app (okV.some_iff.1 h).2.2
section
variable (y : Nd) (l : Tp) (w : World) (u : Value) (S : Nat → Prop) (hu : VK w l u S) (hyw : y.wf)
include hu hyw
set_option maxHeartbeats 4000000 in
theorem own_rcd (ih : ∀ z kz, kz.flat.length < l.flat.length → OwnK z kz) (hy : y.op = 6) (hl : okV (some e0) l) (hl1 : l.flat.length ≤ 300) :
    Calls Try.prog 12 #[partV y u] w fun e w' => JRet (fun _ => False) w w' (.cons ⟨46, (ow true l).len, e0, e0⟩ (ow true l) .nil) e ∧ Below w.heap.size w w' := by
  obtain ⟨q, c, rfl, _⟩ := hu.slice
  obtain ⟨yo, yn, ys, yt⟩ := y
  dsimp only at hy
  subst hy
  unfold partV
  dsimp only
  obtain ⟨W, hW⟩ : ∃ W, W = (w.alloc (.cells #[.int .i64 6, .int .i64 yn, .string ys, .string yt, .slice q l.len c] 37)).alloc (.cells #[.int .i64 0, .int .i64 0, .string ⟨#[]⟩, .string ⟨#[]⟩, .slice none 0 0] 37) := ⟨_, rfl⟩
  have hbW : Below w.heap.size w W := by rw [hW]; exact kqx
  have hrW : PBk W (w.heap.size + 1) zN (.slice none 0 0) := by rw [hW]; exact PBk.new _ zN _ (by simp)
  have hWs : W.heap.size = w.heap.size + 2 := by rw [hW]; simp
  have HU : Hid (VK w l (.slice q l.len c) (fun a => S a ∧ a < w.heap.size)) := hu.real
  have HIH : Hid (∀ z kz, kz.flat.length < l.flat.length → OwnK z kz) := ih
  have HL0 : Hid (okV (some e0) l) := hl
  have HL1 : Hid (l.flat.length ≤ 300) := hl1
  have hkb : l.len ≤ 1000 := by have := tp_len_flat l; omega
  have HRW : Hid (PBk W (w.heap.size + 1) zN (.slice none 0 0)) := hrW
  have HBW : Hid (Below w.heap.size w W) := hbW
  clear hu ih hl hl1 hrW hbW
  go_enter Try.func12, Try.ntmps12
  go_wp2
  rw [← hW]
  clear hW
  go_loopw [6, 48] (fun fv i wr => ∃ (done todo : Tp) (m : ByteArray), Hid (done.app todo = l) ∧ i = .int .i64 (done.len : Int) ∧ Gath W wr (fun _ => False) (ow true done) fv ∧ Hid (okV (some m) todo) ∧ Below W.heap.size W wr) (fun _ i _ => l.len - (intOf i).toNat)
  case atStart => exact ⟨.nil, l, e0, rfl, rfl, by rw [show ow true .nil = .nil by rw [ow]]; exact Gath.nil _ _ _, HL0, Below.refl _ _⟩
  case round =>
    rename World => w3
    obtain ⟨done, todo, m, HD, rfl, hG, HT, hb3⟩ := hrel
    have hbw3 := kqt HBW.out hb3
    have hs3 : W.heap.size ≤ w3.heap.size := hb3.size
    cases todo with
    | nil =>
      have hd : done = l := by have := HD.out; rw [tp_app_nil] at this; exact this
      subst hd
      have i1 : ¬ (done.len : Int) < (done.len : Int) := by omega
      obtain ⟨q6, c6, rfl⟩ := hG.slice
      obtain ⟨ld, Sd, hO3, hR3, hSd, hSg3⟩ := hG.ex
      have HT' : Hid ((ow true done).len ≤ 1000) := by show _ ≤ _; rw [owT_len]; omega
      have HSd : Hid (∀ a, Sd a → W.heap.size ≤ a) := fun a h => (hSd a h).2.elim (fun e => e.elim) id
      obtain ⟨M, hM⟩ : ∃ M, M = (ow true done).len := ⟨_, rfl⟩
      have HM : Hid (M = (ow true done).len) := hM
      have HO3 : Hid (w3.ownsRow 0 37 5 (.slice q6 M c6) (ow true done).len ld) := by rw [hM]; exact hO3
      have HG3 : Hid (∀ g, (Value.slice q6 M c6).ownBlock = some g → W.heap.size ≤ g) := by rw [hM]; exact fun g hg => (hSg3 g hg).1
      have HR3 : Hid (RK w3 (ow true done) ld Sd) := hR3
      rw [← hM]
      clear hO3 hR3 hSd hSg3 hG hM
      go_wp2_with fail
      refine (recOf_any q6 M c6 w3).mono ?_
      rintro _ w6 ⟨rfl, hb6⟩
      have hb06 := kqt hb3 hb6
      have hr_6 := HRW.out.up hb06
      obtain ⟨r0, r1, r2, r3, r4⟩ := hr_6.cells
      have fr := hr_6.free
      go_wp2
      obtain ⟨V, hV⟩ : ∃ V, V = ((((w6.setCell ⟨w.heap.size + 1, 0, none⟩ (.int .i64 46)).setCell ⟨w.heap.size + 1, 1, none⟩ (.int .i64 M)).setCell ⟨w.heap.size + 1, 2, none⟩ (.string ⟨#[]⟩)).setCell ⟨w.heap.size + 1, 3, none⟩ (.string ⟨#[]⟩)).setCell ⟨w.heap.size + 1, 4, none⟩ (.slice q6 M c6) := ⟨_, rfl⟩
      rw [← hV]
      obtain ⟨hPV, hKV⟩ := hr_6.put (x := ⟨46, M, ⟨#[]⟩, ⟨#[]⟩⟩) (u := .slice q6 M c6) hV
      obtain ⟨t0, t1, t2, t3, t4⟩ := hPV.cells
      have hbV : Below w.heap.size w6 V := hKV.below (by have := hr_6.lt; omega) (fun a e => by omega)
      refine bodyPost_ret (v := .agg #[.int .i64 46, .int .i64 M, .string ⟨#[]⟩, .string ⟨#[]⟩, .slice q6 M c6]) (by simp [results, Try.results12, go_sem, t0, t1, t2, t3, t4]) rfl ⟨⟨⟨46, (ow true done).len, Go.Proofs.Ytjbjheeigdblkab.e0, Go.Proofs.Ytjbjheeigdblkab.e0⟩, ow true done, q6, c6, rfl, by rw [← HM.out]; rfl, ⟨(by show (⟨#[]⟩ : ByteArray).size ≤ maxLen; unfold maxLen; decide), (by show (⟨#[]⟩ : ByteArray).size ≤ maxLen; unfold maxLen; decide), (by have := HT'.out; show ((ow true done).len : Int) ≤ _; omega)⟩, ?_⟩, (kqt HBW.out hb06).trans hbV⟩
      rw [← HM.out]
      refine ⟨ld, ownP_agree (ownP_agree HO3.out (fun g _ hl => hb6.block g hl)) (fun g hg hl => hKV.block g hl (fun e => by have := HG3.out g hg; omega)), fun g hg => .inr (by have := HG3.out g hg; omega), ?_⟩
      exact ((HR3.out.up hb6).agree (fun a ha hl => hKV.block a hl (fun e => by have := HSd.out a ha; omega))).sub (fun a ha => .inr (by have := HSd.out a ha; omega))
    | cons f kf r =>
      have hv3 : VK w3 l (.slice q l.len c) (fun a => S a ∧ a < w.heap.size) := HU.out.up hbw3
      have hkl : l.len = done.len + (r.len + 1) := by rw [← HD.out, tp_app_len]; rfl
      have hkf : l.flat.length = done.flat.length + (kf.flat.length + r.flat.length + 1) := by rw [← HD.out, tp_app_flat]; simp [Tp.flat] <;> omega
      have i1 : (done.len : Int) < (l.len : Int) := by omega
      rw [← HD.out] at hv3
      obtain ⟨g, cap, u, hu, hP, hfw, hvk, hSg⟩ := hv3.at
      rw [HD.out, ← hkl] at hu
      cases hu
      obtain ⟨-, ⟨hl1, hkz⟩, hFr⟩ := okV.some_iff.1 HT.out
      obtain ⟨z, kz, rfl⟩ := tp_len1 hl1
      clear hl1
      obtain ⟨gf, cf, uz, rfl, hPz, hzw, hvz⟩ := hvk.single
      have hgf : gf < w.heap.size := by
        obtain ⟨lk, h1, h2, _⟩ := hvk
        exact (h2 gf rfl).2
      obtain ⟨qz, cz, rfl, _⟩ := hvz.slice
      obtain ⟨p0, p1, p2, p3, p4⟩ := hP.cells
      simp only [Tp.flat, List.append_nil, List.length_cons] at hkf
      have HDn : Hid ((done.app (.cons f (.cons z kz .nil) .nil)).app r = l) := by show _ = _; rw [tp_app_assoc, ← HD.out]; rfl
      have HKL : Hid (l.len = done.len + (r.len + 1)) := hkl
      have HFr : Hid (okV (some f.s) r) := hFr
      have HJ2 : Hid (ow true (done.app (.cons f (.cons z kz .nil) .nil)) = (ow true done).app (.cons (fdN f.s 1) (ow false (.cons z kz .nil)) .nil)) := by show _ = _; rw [owF_app, ow_flds]; simp [ow]
      obtain ⟨V6, hV6⟩ : ∃ W4, W4 = w3.alloc (.cells #[.int .i64 f.op, .int .i64 f.n, .string f.s, .string f.t, .slice (some ⟨gf, 0, none⟩) 1 cf] 37) := ⟨_, rfl⟩
      have hb36 : Below w3.heap.size w3 V6 := by rw [hV6]; exact kqx
      have hB6 : PBk V6 w3.heap.size f (.slice (some ⟨gf, 0, none⟩) 1 cf) := by rw [hV6]; exact PBk.new w3 f _ rfl
      have hPz6 := hPz.up hb36
      have hd6 : Below V6.heap.size V6 V6.drew := kqx
      have hS0 := HJ1.of (hB6.up hd6) (hPz6.up hd6)
      have hcall := HIH.out z kz (by omega) V6.drew _ _ (hvz.up (kqt hb36 hd6)) hzw hkz (by have := HL1.out; omega)
      unfold partV at hcall
      obtain ⟨ld, Sd, hO3, hR3, hSd, hSg3⟩ := hG.ex
      have hFlen : (ow true done).len + 1 ≤ 1000000 := by rw [owT_len]; omega
      obtain ⟨q5, c5, rfl⟩ := hG.slice
      obtain ⟨M, hM⟩ : ∃ M, M = (ow true done).len := ⟨_, rfl⟩
      have HM : Hid (M = (ow true done).len) := hM
      have HG3 : Hid (∀ g, (Value.slice q5 M c5).ownBlock = some g → W.heap.size ≤ g ∧ g < w3.heap.size ∧ ¬ Sd g) := by rw [hM]; exact hSg3
      have HSd : Hid (∀ a, Sd a → a < w3.heap.size ∧ (False ∨ W.heap.size ≤ a)) := hSd
      have HR3 : Hid (RK w3 (ow true done) ld Sd) := hR3
      have HO3 : Hid (w3.ownsRow 0 37 5 (.slice q5 M c5) M ld) := by rw [hM]; exact hO3
      rw [← hM] at hFlen ⊢
      have hgB : (Value.slice q5 M c5).ownBlock ≠ some gf := fun hg => by have := (HG3.out gf hg).1; omega
      have hgC : (Value.slice q5 M c5).ownBlock ≠ some w3.heap.size := fun hg => by have := (HG3.out _ hg).2.1; omega
      clear hv3 hP hkl hvk hvz hFr hkz hO3 hR3 hSd hSg3 hG hM hkf
      go_wp2_with fail
      rw [← hV6]
      clear hV6 p0 p1 p2 p3 p4
      refine wp_region_held_drew (S := HJ1 w3.heap.size gf f z (.slice (some ⟨gf, 0, none⟩) 1 cf) (.slice qz kz.len cz)) (by kernel_rfl) hS0 (fun hHeld => ?_)
      refine wpAnyH_take (i := 0) (v := ?_) rfl (by kernel_rfl) (by kernel_rfl) (by kernel_rfl) (fun _ _ _ h => h) (Or.inl ⟨by rfl, ?_⟩) (by assumption) ?_
      rotate_left
      · intro w hSw
        go_simp
        all_goals with_reducible rfl
      try simp only [Act.put, List.setIfInBounds_toArray, List.set_cons_zero, List.set_cons_succ]
      refine wpAnyH_take (i := 1) (v := ?_) rfl (by kernel_rfl) (by kernel_rfl) (by kernel_rfl) (fun _ _ _ h => h) (Or.inl ⟨by rfl, ?_⟩) (by assumption) ?_
      rotate_left
      · intro w hSw
        go_simp
        all_goals with_reducible rfl
      try simp only [Act.put, List.setIfInBounds_toArray, List.set_cons_zero, List.set_cons_succ]
      refine wpAnyH_take (i := 2) (v := ?_) rfl (by kernel_rfl) (by kernel_rfl) (by kernel_rfl) (fun _ _ _ h => h) (Or.inl ⟨by rfl, ?_⟩) (by assumption) ?_
      rotate_left
      · intro w hSw
        go_simp
        all_goals with_reducible rfl
      try simp only [Act.put, List.setIfInBounds_toArray, List.set_cons_zero, List.set_cons_succ]
      refine wpAnyH_take (i := 3) (v := ?_) rfl (by kernel_rfl) (by kernel_rfl) (by kernel_rfl) (fun _ _ _ h => h) (Or.inl ⟨by rfl, ?_⟩) (by assumption) ?_
      rotate_left
      · intro w hSw
        go_simp
        all_goals with_reducible rfl
      try simp only [Act.put, List.setIfInBounds_toArray, List.set_cons_zero, List.set_cons_succ]
      refine wpAnyH_take (i := 4) (v := ?_) rfl (by kernel_rfl) (by kernel_rfl) (by kernel_rfl) (fun _ _ _ h => h) (Or.inl ⟨by rfl, ?_⟩) (by assumption) ?_
      rotate_left
      · intro w hSw
        go_simp
        all_goals with_reducible rfl
      try simp only [Act.put, List.setIfInBounds_toArray, List.set_cons_zero, List.set_cons_succ]
      refine wpAnyH_take (i := 5) (v := ?_) rfl (by kernel_rfl) (by kernel_rfl) (by kernel_rfl) (fun _ _ _ h => h) (Or.inl ⟨by rfl, ?_⟩) (by assumption) ?_
      rotate_left
      · intro w hSw
        go_simp
        all_goals with_reducible rfl
      try simp only [Act.put, List.setIfInBounds_toArray, List.set_cons_zero, List.set_cons_succ]
      refine wpAnyH_take (i := 6) (v := ?_) rfl (by kernel_rfl) (by kernel_rfl) (by kernel_rfl) (fun _ _ _ h => h) (Or.inl ⟨by rfl, ?_⟩) (by assumption) ?_
      rotate_left
      · intro w hSw
        go_simp
        all_goals with_reducible rfl
      try simp only [Act.put, List.setIfInBounds_toArray, List.set_cons_zero, List.set_cons_succ]
      refine wpAnyH_take (i := 7) (v := ?_) rfl (by kernel_rfl) (by kernel_rfl) (by kernel_rfl) (fun _ _ _ h => h) (Or.inl ⟨by rfl, ?_⟩) (by assumption) ?_
      rotate_left
      · intro w hSw
        go_simp
        all_goals with_reducible rfl
      try simp only [Act.put, List.setIfInBounds_toArray, List.set_cons_zero, List.set_cons_succ]
      refine wpAnyH_ready (rs := [8]) (by kernel_rfl) (by simp) ?_
      refine AllReadyH.cons rfl (fun K hK => ?_) AllReadyH.nil
      go_simp
      go_wp2_with fail
      refine hcall.mono ?_
      rintro _ w7 ⟨⟨xj, kj, qj, cj, hjn, rfl, hxj, hvj⟩, hb7⟩
      have HJN : Hid (ow false (.cons z kz .nil) = .cons xj kj .nil) := hjn
      clear hjn
      have hb67 : Below V6.heap.size V6 w7 := kqt hd6 hb7
      refine hK.out _ _ (HJ1.of (hB6.up hb67) (hPz6.up hb67)) (fun hHeld => ?_)
      clear hK K
      refine wpAnyH_ready (rs := [9]) (by kernel_rfl) (by simp) ?_
      refine AllReadyH.cons rfl (fun K hK => ?_) AllReadyH.nil
      go_simp
      go_wp2_with fail
      refine (fieldOf_any f.s 1 xj kj w7 _ _ hvj hxj).mono ?_
      rintro _ w8 ⟨⟨q8, c8, rfl, hv8⟩, hb8⟩
      have hb68 : Below V6.heap.size V6 w8 := kqt hb67 hb8
      have hB8 := hB6.up hb68
      have hP8 := hPz6.up hb68
      have hO8 : w8.ownsRow 0 37 5 (.slice q5 M c5) M ld := ownP_agree HO3.out (fun g hg hl => (kqt hb36 hb68).block g hl)
      refine hK.out _ _ (HJ1.of hB8 hP8) (fun hHeld => ?_)
      clear hK K
      refine wpAnyH_ready (rs := [10]) (by kernel_rfl) (by simp) ?_
      refine AllReadyH.cons rfl (fun K hK => ?_) AllReadyH.nil
      go_simp
      refine hK.out _ _ (HJ1.of (hB8.up kqx) (hP8.up kqx)) (fun hHeld => ?_)
      clear hK K
      refine wpAnyH_ready (rs := [11]) (by kernel_rfl) (by simp) ?_
      refine AllReadyH.cons rfl (fun K hK => ?_) AllReadyH.nil
      rw [if_pos (by rfl)]
      refine wp_appendP w8 (.tmp 52) (.tmp 62) rfl rfl (.slice q5 M c5) M ld rfl hO8 (fdN f.s 1) (.slice q8 1 c8) rfl hFlen w8.heap.size rfl rfl ?_
      intro v9 w9 hO9 hg9 hat9
      obtain ⟨q9, c9, rfl⟩ := ownP_slice hO9
      refine hK.out _ _ (HJ1.of (hB8.grown hg9 hgC) (hP8.grown hg9 hgB)) (fun hHeld => ?_)
      clear hK K
      try simp only [Act.put, List.setIfInBounds_toArray, List.set_cons_zero, List.set_cons_succ]
      refine wpAnyH_take (i := 12) (v := ?_) rfl (by kernel_rfl) (by kernel_rfl) (by kernel_rfl) (fun _ _ _ h => h) (Or.inl ⟨by rfl, ?_⟩) (by assumption) ?_
      rotate_left
      · intro w hSw
        go_simp
        all_goals with_reducible rfl
      try simp only [Act.put, List.setIfInBounds_toArray, List.set_cons_zero, List.set_cons_succ]
      refine wpAnyH_done (by kernel_rfl) ?_ _
      have hs8 : w3.heap.size ≤ w8.heap.size := (kqt hb36 hb68).size
      have hG9 : Gath W w9 (fun _ => False) ((ow true done).app (.cons (fdN f.s 1) (.cons xj kj .nil) .nil)) (.slice q9 (M + 1) c9) := Gath.more (w := w3) (fdwf hfw (.inr rfl)) (by rw [← HM.out]; exact hO8) (HR3.out.up (kqt hb36 hb68)) HSd.out HG3.out hs8 hs3 (fun a h => h.elim) ((hv8.sub (fun a h => h.elim (fun h => h.elim .inl (fun h => .inr (by have := hb36.size; have : V6.drew.heap.size = V6.heap.size := rfl; omega))) (fun h => .inr (by have := hb36.size; have := hb67.size; omega))))) (by rw [← HM.out]; exact hO9) hg9 hat9
      rw [← HJN.out, ← HJ2.out] at hG9
      have hb9 : Below W.heap.size W w9 := by
        have h1 : Below W.heap.size W w8 := kqt hb3 (kqt hb36 hb68)
        exact h1.trans ⟨hg9.os, hg9.tape, hg9.output, hg9.size, fun a ha => hg9.block a (Nat.lt_of_lt_of_le ha h1.size) (fun e => by have := (HG3.out a e.symm).1; omega)⟩
      clear hHeld hB8 hP8 hO8 hv8 hO9 hcall hvj
      go_wp2_with fail
      go_roundw
      case rel => exact ⟨done.app (.cons f (.cons z kz .nil) .nil), r, f.s, HDn, by rw [tp_app_len]; simp only [Tp.len]; go_num, hG9, HFr, hb9⟩
      case measure => have := HKL.out; simp [intOf]; omega
end
theorem ownK_any : ∀ (N : Nat) (y : Nd) (l : Tp), l.flat.length < N → OwnK y l
  | 0, y, l, h => by omega
  | N + 1, y, l, h => by
    have ih : ∀ z kz, kz.flat.length < l.flat.length → OwnK z kz := fun z kz hz => ownK_any N z kz (by omega)
    intro w u S hu hyw hy hl1
    obtain ⟨⟨h7, hnd, hway⟩, _⟩ := okV.none_iff.1 hy
    rw [ow_cons, show ow false .nil = .nil by rw [ow]]
    rcases hway with ⟨h5, _, hk⟩ | ⟨h6, _, hk⟩ | ⟨h5, h6, rfl⟩
    · rw [if_neg (by omega), if_neg (by omega), if_neg (by omega), if_neg (by omega), if_pos h5]
      exact own_set y l w u S hu hyw ih h5 hk hl1
    · rw [if_neg (by omega), if_neg (by omega), if_neg (by omega), if_neg (by omega), if_neg (by omega)]
      exact own_rcd y l w u S hu hyw ih h6 hk hl1
    · have ho : y.op = 1 ∨ y.op = 2 ∨ y.op = 3 ∨ y.op = 4 := by
        unfold ndOk at hnd
        repeat' split at hnd
        all_goals first | omega | cases hnd
      rcases ho with e | e | e | e
      · rw [if_pos e]; exact own_leaf y _ w u S hu hyw 1 (by omega) e
      · rw [if_neg (by omega), if_pos e]; exact own_leaf y _ w u S hu hyw 2 (by omega) e
      · rw [if_neg (by omega), if_neg (by omega), if_pos e]; exact own_leaf y _ w u S hu hyw 3 (by omega) e
      · rw [if_neg (by omega), if_neg (by omega), if_neg (by omega), if_pos e]; exact own_ent y _ w u S hu hyw e
theorem ownK (y : Nd) (l : Tp) : OwnK y l := ownK_any _ y l (Nat.lt_succ_self _)
end Go.Proofs.Ytjbjheeigdblkab
