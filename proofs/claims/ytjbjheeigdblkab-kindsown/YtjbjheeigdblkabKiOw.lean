/- Package kinds: own, by walks of its own text. -/
import Derived.Test.YtjbjheeigdblkabKiR
import Derived.Test.YtjbjheeigdblkabKiI
import Derived.Test.YtjbjheeigdblkabKiC
namespace Go.Proofs.Ytjbjheeigdblkab
open Go.RowKit
set_option linter.unusedVariables false
set_option linter.unusedSectionVars false
set_option linter.unusedSimpArgs false
set_option maxRecDepth 100000

/-- How many nodes there are at most in what a value has of its own. -/
theorem jall_flat {N : Nat} : ∀ (t acc : Tp), isTy none t = true → T1 acc → (jall acc t).flat.length ≤ acc.flat.length + t.flat.length
  | .nil, acc, _, _ => by simp [jall, Tp.flat]
  | .cons x k r, acc, ht, ha => by
    obtain ⟨h1, h2⟩ := isTy_none_cons.1 ht
    have hx := T1.iff.2 h1
    have h3 := jall_flat (N := N) r _ h2 (ha.jn hx)
    have h4 := jn_flat acc _ (Nat.lt_succ_self _) ha hx
    rw [jall]
    simp [Tp.flat] at h4 ⊢
    omega
theorem ow_flat : ∀ (t : Tp), (okV none t → (ow false t).flat.length ≤ 2 * t.flat.length) ∧ (∀ m, okV (some m) t → (ow true t).flat.length ≤ 2 * t.flat.length)
  | .nil => ⟨fun _ => by simp [ow, Tp.flat], fun m _ => by simp [ow, Tp.flat]⟩
  | .cons y l r => by
    refine ⟨fun h => ?_, fun m h => ?_⟩
    · obtain ⟨⟨h7, hy, hl⟩, hr⟩ := okV.none_iff.1 h
      have r1 := (ow_flat r).1 hr
      rw [ow_cons]
      split
      · simp [Tp.flat]; omega
      split
      · simp [Tp.flat]; omega
      split
      · simp [Tp.flat]; omega
      split
      · simp [Tp.flat]; omega
      split
      · rename_i h5
        rcases hl with ⟨_, _, hk⟩ | ⟨h6, _⟩ | ⟨h6, _⟩
        · have l1 := (ow_flat l).1 hk
          have l2 := jall_flat (N := 0) (ow false l) (.cons (lfN 49) .nil .nil) ((ow_ok l).1 hk).1 T1.none
          simp [Tp.flat] at l2 ⊢
          omega
        · omega
        · exact absurd h5 h6
      · rename_i h5
        rcases hl with ⟨h5', _⟩ | ⟨_, _, hk⟩ | ⟨_, h6, rfl⟩
        · exact absurd h5' h5
        · have l1 := (ow_flat l).2 _ hk
          simp [Tp.flat]
          omega
        · simp [Tp.flat, ow]; omega
    · obtain ⟨_, ⟨_, hk⟩, hr⟩ := okV.some_iff.1 h
      have r1 := (ow_flat r).2 _ hr
      have l1 := (ow_flat l).1 hk
      rw [ow_flds]
      simp [Tp.flat]
      omega
theorem jall_app : ∀ (a b acc : Tp), jall acc (a.app b) = jall (jall acc a) b
  | .nil, b, acc => rfl
  | .cons x k r, b, acc => by simp only [Tp.app, jall]; exact jall_app r b _
theorem ow_app : ∀ (a b : Tp), ow false (a.app b) = (ow false a).app (ow false b)
  | .nil, b => by simp [ow, Tp.app]
  | .cons y l r, b => by
    simp only [Tp.app, ow_cons]
    rw [ow_app r b]
    repeat' split
    all_goals rfl
theorem owF_app : ∀ (a b : Tp), ow true (a.app b) = (ow true a).app (ow true b)
  | .nil, b => by simp [ow, Tp.app]
  | .cons y l r, b => by simp only [Tp.app, ow_flds]; rw [owF_app r b]
theorem okV_app : ∀ {a b : Tp}, okV none (a.app b) ↔ okV none a ∧ okV none b
  | .nil, b => by simp [Tp.app, okV]
  | .cons y l r, b => by simp only [Tp.app, okV.none_iff, okV_app (a := r) (b := b), and_assoc]
/-- What own does. -/
def OwnK (y : Nd) (l : Tp) : Prop := ∀ (w : World) (u : Value) (S : Nat → Prop), VK w l u S → y.wf → okV none (.cons y l .nil) → l.flat.length ≤ 300 →
  Calls Try.prog 12 #[partV y u] w fun e w' => JRet (fun _ => False) w w' (ow false (.cons y l .nil)) e ∧ Below w.heap.size w w'
section
variable (y : Nd) (l : Tp) (w : World) (u : Value) (S : Nat → Prop) (hu : VK w l u S) (hyw : y.wf)
include hu hyw
set_option maxHeartbeats 4000000 in
theorem own_leaf (o : Int) (ho : o = 1 ∨ o = 2 ∨ o = 3) (hy : y.op = o) :
    Calls Try.prog 12 #[partV y u] w fun e w' => JRet (fun _ => False) w w' (.cons (lfN (o + 40)) .nil .nil) e ∧ Below w.heap.size w w' := by
  obtain ⟨q, c, rfl, _⟩ := hu.slice
  obtain ⟨yo, yn, ys, yt⟩ := y
  dsimp only at hy
  subst hy
  have HLf := fun n W => leaf_any n W
  clear hu hyw
  unfold partV
  dsimp only
  obtain ⟨W, hW⟩ : ∃ W, W = (w.alloc (.cells #[.int .i64 yo, .int .i64 yn, .string ys, .string yt, .slice q l.len c] 37)).alloc (.cells #[.int .i64 0, .int .i64 0, .string ⟨#[]⟩, .string ⟨#[]⟩, .slice none 0 0] 37) := ⟨_, rfl⟩
  have hbW : Below w.heap.size w W := by rw [hW]; exact kqx
  have hrW : PBk W (w.heap.size + 1) zN (.slice none 0 0) := by rw [hW]; exact PBk.new _ zN _ (by simp)
  rcases ho with rfl | rfl | rfl
  · go_enter Try.func12, Try.ntmps12
    go_wp2_with fail
    rw [← hW]
    refine (HLf 41 W).mono ?_
    rintro _ w1 ⟨rfl, hb1⟩
    have hr_1 := hrW.up hb1
    obtain ⟨r0, r1, r2, r3, r4⟩ := hr_1.cells
    have fr := hr_1.free
    go_wp2
    obtain ⟨V, hV⟩ : ∃ V, V = ((((w1.setCell ⟨w.heap.size + 1, 0, none⟩ (.int .i64 41)).setCell ⟨w.heap.size + 1, 1, none⟩ (.int .i64 0)).setCell ⟨w.heap.size + 1, 2, none⟩ (.string ⟨#[]⟩)).setCell ⟨w.heap.size + 1, 3, none⟩ (.string ⟨#[]⟩)).setCell ⟨w.heap.size + 1, 4, none⟩ (.slice none 0 0) := ⟨_, rfl⟩
    rw [← hV]
    obtain ⟨hPV, hKV⟩ := hr_1.put (x := ⟨41, 0, ⟨#[]⟩, ⟨#[]⟩⟩) (u := .slice none 0 0) hV
    obtain ⟨t0, t1, t2, t3, t4⟩ := hPV.cells
    have hbV : Below w.heap.size w1 V := hKV.below (by have := hr_1.lt; omega) (fun a e => by omega)
    exact bodyPost_ret (v := .agg #[.int .i64 41, .int .i64 0, .string ⟨#[]⟩, .string ⟨#[]⟩, .slice none 0 0]) (by simp [results, Try.results12, go_sem, t0, t1, t2, t3, t4]) rfl ⟨⟨lfN 41, .nil, none, 0, rfl, rfl, lfwf 41, VK.nil _ _⟩, (kqt hbW hb1).trans hbV⟩
  · go_enter Try.func12, Try.ntmps12
    go_wp2_with fail
    rw [← hW]
    refine (HLf 42 W).mono ?_
    rintro _ w1 ⟨rfl, hb1⟩
    have hr_1 := hrW.up hb1
    obtain ⟨r0, r1, r2, r3, r4⟩ := hr_1.cells
    have fr := hr_1.free
    go_wp2
    obtain ⟨V, hV⟩ : ∃ V, V = ((((w1.setCell ⟨w.heap.size + 1, 0, none⟩ (.int .i64 42)).setCell ⟨w.heap.size + 1, 1, none⟩ (.int .i64 0)).setCell ⟨w.heap.size + 1, 2, none⟩ (.string ⟨#[]⟩)).setCell ⟨w.heap.size + 1, 3, none⟩ (.string ⟨#[]⟩)).setCell ⟨w.heap.size + 1, 4, none⟩ (.slice none 0 0) := ⟨_, rfl⟩
    rw [← hV]
    obtain ⟨hPV, hKV⟩ := hr_1.put (x := ⟨42, 0, ⟨#[]⟩, ⟨#[]⟩⟩) (u := .slice none 0 0) hV
    obtain ⟨t0, t1, t2, t3, t4⟩ := hPV.cells
    have hbV : Below w.heap.size w1 V := hKV.below (by have := hr_1.lt; omega) (fun a e => by omega)
    exact bodyPost_ret (v := .agg #[.int .i64 42, .int .i64 0, .string ⟨#[]⟩, .string ⟨#[]⟩, .slice none 0 0]) (by simp [results, Try.results12, go_sem, t0, t1, t2, t3, t4]) rfl ⟨⟨lfN 42, .nil, none, 0, rfl, rfl, lfwf 42, VK.nil _ _⟩, (kqt hbW hb1).trans hbV⟩
  · go_enter Try.func12, Try.ntmps12
    go_wp2_with fail
    rw [← hW]
    refine (HLf 43 W).mono ?_
    rintro _ w1 ⟨rfl, hb1⟩
    have hr_1 := hrW.up hb1
    obtain ⟨r0, r1, r2, r3, r4⟩ := hr_1.cells
    have fr := hr_1.free
    go_wp2
    obtain ⟨V, hV⟩ : ∃ V, V = ((((w1.setCell ⟨w.heap.size + 1, 0, none⟩ (.int .i64 43)).setCell ⟨w.heap.size + 1, 1, none⟩ (.int .i64 0)).setCell ⟨w.heap.size + 1, 2, none⟩ (.string ⟨#[]⟩)).setCell ⟨w.heap.size + 1, 3, none⟩ (.string ⟨#[]⟩)).setCell ⟨w.heap.size + 1, 4, none⟩ (.slice none 0 0) := ⟨_, rfl⟩
    rw [← hV]
    obtain ⟨hPV, hKV⟩ := hr_1.put (x := ⟨43, 0, ⟨#[]⟩, ⟨#[]⟩⟩) (u := .slice none 0 0) hV
    obtain ⟨t0, t1, t2, t3, t4⟩ := hPV.cells
    have hbV : Below w.heap.size w1 V := hKV.below (by have := hr_1.lt; omega) (fun a e => by omega)
    exact bodyPost_ret (v := .agg #[.int .i64 43, .int .i64 0, .string ⟨#[]⟩, .string ⟨#[]⟩, .slice none 0 0]) (by simp [results, Try.results12, go_sem, t0, t1, t2, t3, t4]) rfl ⟨⟨lfN 43, .nil, none, 0, rfl, rfl, lfwf 43, VK.nil _ _⟩, (kqt hbW hb1).trans hbV⟩
set_option maxHeartbeats 4000000 in
theorem own_ent (hy : y.op = 4) :
    Calls Try.prog 12 #[partV y u] w fun e w' => JRet (fun _ => False) w w' (.cons ⟨44, 0, y.s, e0⟩ .nil .nil) e ∧ Below w.heap.size w w' := by
  obtain ⟨q, c, rfl, _⟩ := hu.slice
  have HW : Hid ((⟨44, 0, y.s, e0⟩ : Nd).wf) := ⟨hyw.1, (by show (⟨#[]⟩ : ByteArray).size ≤ maxLen; unfold maxLen; decide), (by show (0 : Int) ≤ _; omega)⟩
  obtain ⟨yo, yn, ys, yt⟩ := y
  dsimp only at hy
  subst hy
  clear hu hyw
  unfold partV
  dsimp only at *
  go_enter Try.func12, Try.ntmps12
  go_wp2
  exact bodyPost_ret (v := .agg #[.int .i64 44, .int .i64 0, .string ys, .string ⟨#[]⟩, .slice none 0 0]) (by simp [results, Try.results12, go_sem]) rfl ⟨⟨⟨44, 0, ys, e0⟩, .nil, none, 0, rfl, rfl, HW.out, VK.nil _ _⟩, kqx⟩
set_option maxHeartbeats 4000000 in
theorem own_set (ih : ∀ z kz, kz.flat.length < l.flat.length → OwnK z kz) (hy : y.op = 5) (hl : okV none l) (hl1 : l.flat.length ≤ 300) :
    Calls Try.prog 12 #[partV y u] w fun e w' => JRet (fun _ => False) w w' (.cons (lfN 45) (jall (.cons (lfN 49) .nil .nil) (ow false l)) .nil) e ∧ Below w.heap.size w w' := by
  obtain ⟨q, c, rfl, _⟩ := hu.slice
  obtain ⟨yo, yn, ys, yt⟩ := y
  dsimp only at hy
  subst hy
  unfold partV
  dsimp only
  obtain ⟨W, hW⟩ : ∃ W, W = (w.alloc (.cells #[.int .i64 5, .int .i64 yn, .string ys, .string yt, .slice q l.len c] 37)).alloc (.cells #[.int .i64 0, .int .i64 0, .string ⟨#[]⟩, .string ⟨#[]⟩, .slice none 0 0] 37) := ⟨_, rfl⟩
  have hbW : Below w.heap.size w W := by rw [hW]; exact kqx
  have hrW : PBk W (w.heap.size + 1) zN (.slice none 0 0) := by rw [hW]; exact PBk.new _ zN _ (by simp)
  have hyW : PBk W w.heap.size ⟨5, yn, ys, yt⟩ (.slice q l.len c) := by rw [hW]; exact (PBk.new w ⟨5, yn, ys, yt⟩ _ rfl).up kqx
  have hWs : W.heap.size = w.heap.size + 2 := by rw [hW]; simp
  go_enter Try.func12, Try.ntmps12
  go_wp2_with fail
  rw [← hW]
  refine (leaf_any 49 W).mono ?_
  rintro _ w1 ⟨rfl, hb1⟩
  obtain ⟨V1, hV1⟩ : ∃ V1, V1 = w1.alloc (.cells #[.int .i64 49, .int .i64 0, .string ⟨#[]⟩, .string ⟨#[]⟩, .slice none 0 0] 37) := ⟨_, rfl⟩
  have hb11 : Below W.heap.size W V1 := by rw [hV1]; exact kqA hb1
  have hA1 : PBk V1 w1.heap.size (lfN 49) (.slice none 0 0) := by rw [hV1]; exact PBk.new w1 (lfN 49) _ rfl
  have c4 := (hyW.up hb11).cells.2.2.2.2
  rw [hV1] at c4
  have hs1 : w.heap.size + 2 ≤ w1.heap.size := by have := hb1.size; omega
  have hsB : W.heap.size ≤ w1.heap.size := hb1.size
  have HU : Hid (VK w l (.slice q l.len c) S) := hu
  have HIH : Hid (∀ z kz, kz.flat.length < l.flat.length → OwnK z kz) := ih
  have HL0 : Hid (okV none l) := hl
  have HL1 : Hid (l.flat.length ≤ 300) := hl1
  have hkb : l.len ≤ 1000 := by have := tp_len_flat l; omega
  have HRW : Hid (PBk W (w.heap.size + 1) zN (.slice none 0 0)) := hrW
  have HBW : Hid (Below w.heap.size w W) := hbW
  obtain ⟨B, hB⟩ : ∃ B, B = w1.heap.size := ⟨_, rfl⟩
  have hV1s : B < V1.heap.size := by rw [hV1, hB]; simp
  rw [← hB] at hA1 hs1 hsB
  go_wp2
  rw [← hV1, ← hB]
  clear hV1 hu ih hl hl1 hrW hbW hyW hW c4 hb1 hB
  go_loopw [34] (fun i wr => ∃ (done todo : Tp) (xa : Nd) (ka : Tp) (qa : Option Addr) (ca : Nat), Hid (done.app todo = l) ∧ i = .int .i64 (done.len : Int) ∧ Hid (jall (.cons (lfN 49) .nil .nil) (ow false done) = .cons xa ka .nil) ∧ xa.wf ∧ PBk wr B xa (.slice qa ka.len ca) ∧ Hid (VK wr ka (.slice qa ka.len ca) (fun a => W.heap.size ≤ a ∧ a ≠ B)) ∧ Below W.heap.size W wr ∧ B < wr.heap.size) (fun i _ => l.len - (intOf i).toNat)
  case atStart => exact ⟨.nil, l, lfN 49, .nil, none, 0, rfl, rfl, (by show _ = _; rw [show ow false .nil = .nil by rw [ow]]; rfl), lfwf 49, hA1, VK.nil _ _, hb11, hV1s⟩
  case round =>
    rename World => w3
    obtain ⟨done, todo, xa, ka, qa, ca, HD, rfl, HJ, hxa, hA3, HV3, hb3, hs3⟩ := hrel
    have hbw3 := kqt HBW.out hb3
    cases todo with
    | nil =>
      have hd : done = l := by have := HD.out; rw [tp_app_nil] at this; exact this
      subst hd
      have i1 : ¬ (done.len : Int) < (done.len : Int) := by omega
      obtain ⟨a0, a1, a2, a3, a4⟩ := hA3.cells
      have hS := setOf_any xa ka w3 _ _ HV3.out hxa
      unfold partV at hS
      go_wp2_with fail
      refine hS.mono ?_
      rintro _ w6 ⟨⟨q6, c6, rfl, hv6⟩, hb6⟩
      have hb06 := kqt hb3 hb6
      have hr_6 := HRW.out.up hb06
      obtain ⟨r0, r1, r2, r3, r4⟩ := hr_6.cells
      have fr := hr_6.free
      clear hS a0 a1 a2 a3 a4
      go_wp2
      obtain ⟨V, hV⟩ : ∃ V, V = ((((w6.setCell ⟨w.heap.size + 1, 0, none⟩ (.int .i64 45)).setCell ⟨w.heap.size + 1, 1, none⟩ (.int .i64 0)).setCell ⟨w.heap.size + 1, 2, none⟩ (.string ⟨#[]⟩)).setCell ⟨w.heap.size + 1, 3, none⟩ (.string ⟨#[]⟩)).setCell ⟨w.heap.size + 1, 4, none⟩ (.slice q6 1 c6) := ⟨_, rfl⟩
      rw [← hV]
      obtain ⟨hPV, hKV⟩ := hr_6.put (x := ⟨45, 0, ⟨#[]⟩, ⟨#[]⟩⟩) (u := .slice q6 1 c6) hV
      obtain ⟨t0, t1, t2, t3, t4⟩ := hPV.cells
      have hbV : Below w.heap.size w6 V := hKV.below (by have := hr_6.lt; omega) (fun a e => by omega)
      refine bodyPost_ret (v := .agg #[.int .i64 45, .int .i64 0, .string ⟨#[]⟩, .string ⟨#[]⟩, .slice q6 1 c6]) (by simp [results, Try.results12, go_sem, t0, t1, t2, t3, t4]) rfl ⟨⟨lfN 45, .cons xa ka .nil, q6, c6, by rw [HJ.out], rfl, lfwf 45, ?_⟩, (kqt HBW.out hb06).trans hbV⟩
      have hs36 : W.heap.size ≤ w3.heap.size := hb3.size
      exact (hv6.agree (fun a ha hl => hKV.block a hl (fun e => by
        rcases ha with ha | ha
        · omega
        · omega))).sub (fun a ha => by
        rcases ha with ha | ha
        · exact .inr (by omega)
        · exact .inr (by omega))
    | cons y ky r =>
      have hu3 : VK w3 l (.slice q l.len c) S := HU.out.up hbw3
      have hkl : l.len = done.len + (r.len + 1) := by rw [← HD.out, tp_app_len]; rfl
      have hkf : l.flat.length = done.flat.length + (ky.flat.length + r.flat.length + 1) := by rw [← HD.out, tp_app_flat]; simp [Tp.flat] <;> omega
      have i1 : (done.len : Int) < (l.len : Int) := by omega
      rw [← HD.out] at hu3
      obtain ⟨g, cap, u, hu, hP, hyw', hvk, hSg⟩ := hu3.at
      rw [HD.out, ← hkl] at hu
      cases hu
      obtain ⟨qu, cu, rfl, _⟩ := hvk.slice
      obtain ⟨p0, p1, p2, p3, p4⟩ := hP.cells
      have hok := okV_app.1 (by rw [HD.out]; exact HL0.out)
      obtain ⟨hy1, hr1⟩ := okV.none_iff.1 hok.2
      have hy2 : okV none (.cons y ky .nil) := okV.none_iff.2 ⟨hy1, okV.nil⟩
      obtain ⟨hT1, _⟩ := own_ok hy2
      have hdo := (ow_ok done).1 hok.1
      have hTa : T1 (.cons xa ka .nil) := by rw [← HJ.out]; exact (jall_ok T1.none (ow false done) _ hdo.1 T1.none).1
      have hfa : ka.flat.length ≤ 1000 := by
        have h1 := jall_flat (N := 0) (ow false done) (.cons (lfN 49) .nil .nil) hdo.1 T1.none
        have h2 := (ow_flat done).1 hok.1
        rw [HJ.out] at h1
        simp [Tp.flat] at h1
        have := HL1.out
        omega
      have hfo := (ow_flat (.cons y ky .nil)).1 hy2
      have HDn : Hid ((done.app (.cons y ky .nil)).app r = l) := by show _ = _; rw [tp_app_assoc, ← HD.out]; rfl
      have HKL : Hid (l.len = done.len + (r.len + 1)) := hkl
      have HOW : Hid (ow false (done.app (.cons y ky .nil)) = (ow false done).app (ow false (.cons y ky .nil))) := ow_app _ _
      obtain ⟨W4, hW4⟩ : ∃ W4, W4 = w3.alloc (.cells #[.int .i64 y.op, .int .i64 y.n, .string y.s, .string y.t, .slice qu ky.len cu] 37) := ⟨_, rfl⟩
      have hb4 : Below w3.heap.size w3 W4 := by rw [hW4]; exact kqx
      have hd4 : Below W4.heap.size W4 W4.drew := kqx
      have hb4d := kqt hb4 hd4
      have hs4 : w3.heap.size < W4.drew.heap.size := by rw [hW4]; simp [World.drew]
      have hY4 : PBk W4.drew w3.heap.size y (.slice qu ky.len cu) := by rw [hW4]; exact (PBk.new w3 y _ rfl).up kqx
      have hA4 := hA3.up hb4d
      have hO := HIH.out y ky (by omega) W4.drew _ S (hvk.up hb4d) hyw' hy2 (by have := HL1.out; omega)
      have hJn := fun (xo : Nd) (ko : Tp) (hR : ow false (.cons y ky .nil) = .cons xo ko .nil) w5 (h5 : Below w3.heap.size w3 w5) u5 (h6 : VK w5 ko u5 (fun a => W.heap.size ≤ a ∧ a ≠ B)) (hxo : xo.wf) => joinK xa ka xo ko w5 _ u5 _ (HV3.out.up h5) h6 hxa hxo (T1.iff.1 hTa) (T1.iff.1 (by rw [← hR]; exact hT1)) hfa (by rw [hR] at hfo; simp [Tp.flat] at hfo; have := HL1.out; omega)
      have HJn : Hid (∀ (xo : Nd) (ko : Tp) (hR : ow false (.cons y ky .nil) = .cons xo ko .nil) w5 (h5 : Below w3.heap.size w3 w5) u5 (h6 : VK w5 ko u5 (fun a => W.heap.size ≤ a ∧ a ≠ B)) (hxo : xo.wf), _) := hJn
      unfold partV at hO
      obtain ⟨a0, a1, a2, a3, a4⟩ := hA4.cells
      obtain ⟨y0, y1, y2, y3, y4⟩ := hY4.cells
      have hsW : W.heap.size ≤ w3.heap.size := hb3.size
      clear hu3 hP hkl hvk hkf hok hy1 hr1 hy2 hT1 hdo hTa hfa hfo hJn
      go_wp2_with fail
      rw [← hW4]
      clear hW4 p0 p1 p2 p3 p4
      go_region_with (first
        | (go_at_call 12
           refine hO.mono ?_
           rintro _ w5 ⟨⟨xo, ko, qo, co, hRo, rfl, hxo, hvo⟩, hb5⟩
           have HRo : Hid (ow false (.cons y ky .nil) = .cons xo ko .nil) := hRo
           have hb35 := kqt hb4d hb5
           have hJ5 := HJn.out xo ko hRo w5 hb35 _ (hvo.sub (fun a h => h.elim (fun h => h.elim) (fun h => ⟨by omega, by omega⟩))) hxo
           unfold partV at hJ5
           clear hRo
           have hA5 := hA4.up hb5
           obtain ⟨e0', e1', e2', e3', e4'⟩ := hA5.cells)
        | (go_at_call 18
           refine hJ5.mono ?_
           rintro _ w6 ⟨⟨xj, kj, qj, cj, hRj, rfl, hxj, hvj⟩, hb6⟩
           have HRj : Hid (jn false (.cons xa ka .nil) (.cons xo ko .nil) = .cons xj kj .nil) := hRj
           clear hRj
           have hA6 := hA5.up hb6
           obtain ⟨g0, g1, g2, g3, g4⟩ := hA6.cells
           have fg := hA6.free))
      all_goals
        obtain ⟨V7, hV7⟩ : ∃ V7, V7 = ((((w6.setCell ⟨B, 0, none⟩ (.int .i64 xj.op)).setCell ⟨B, 1, none⟩ (.int .i64 xj.n)).setCell ⟨B, 2, none⟩ (.string xj.s)).setCell ⟨B, 3, none⟩ (.string xj.t)).setCell ⟨B, 4, none⟩ (.slice qj kj.len cj) := ⟨_, rfl⟩
        rw [← hV7]
        obtain ⟨hA7, hK7⟩ := hA6.put hV7
        have hs5 : w3.heap.size ≤ w5.heap.size := hb35.size
        have HV7 : Hid (VK V7 kj (.slice qj kj.len cj) (fun a => W.heap.size ≤ a ∧ a ≠ B)) := (hvj.agree (fun a ha hl => hK7.block a hl (fun e => by
          rcases ha with ha | ha
          · exact ha.2 e
          · omega))).sub (fun a ha => by
          rcases ha with ha | ha
          · exact ha
          · exact ⟨by omega, by omega⟩)
        have HJ7 : Hid (jall (.cons (lfN 49) .nil .nil) (ow false (done.app (.cons y ky .nil))) = .cons xj kj .nil) := by
          show _ = _
          rw [HOW.out, jall_app, HJ.out, HRo.out]
          simp only [jall]
          exact HRj.out
        have hb7 : Below W.heap.size W V7 := (kqt hb3 (kqt hb35 hb6)).trans (hK7.below (by have := (kqt hb3 (kqt hb35 hb6)).size; omega) (fun a e => by have := hb11.size; omega))
        have hs7 : B < V7.heap.size := hA7.lt
        clear hO hJ5 hvj hvo hV7 hK7 hA6 hA5 hA4 hY4 g0 g1 g2 g3 g4 fg e0' e1' e2' e3' e4' a0 a1 a2 a3 a4 y0 y1 y2 y3 y4 HJn
        go_wp2_with fail
        go_roundw
        case rel => exact ⟨done.app (.cons y ky .nil), r, xj, kj, qj, cj, HDn, by rw [tp_app_len]; simp only [Tp.len]; go_num, HJ7, hxj, hA7, HV7, hb7, hs7⟩
        case measure => have := HKL.out; simp [intOf]; omega
end
end Go.Proofs.Ytjbjheeigdblkab
