/- Package kinds: read, by a walk of its own text. -/
import Derived.Test.YtjbjheeigdblkabKiT
import Derived.Test.YtjbjheeigdblkabKiQ
namespace Go.Proofs.Ytjbjheeigdblkab
open Go.RowKit
set_option linter.unusedVariables false
set_option maxRecDepth 100000

/-- The nodes are just this type. -/
def KTy (v : List Nd) (x : Nd) (k : Tp) : Prop := T1 (.cons x k .nil) ∧ v = x :: k.flat
theorem KTy.uniq {v : List Nd} {x y : Nd} {k l : Tp} (h : KTy v x k) (h2 : KTy v y l) : x = y ∧ k = l := by
  have := tp_flat_inj (.cons x k .nil) (.cons y l .nil) [] [] (isTy_ar _ _ h.1.2) (isTy_ar _ _ h2.1.2) rfl (by simp [Tp.flat, ← h.2, ← h2.2])
  cases this.1
  exact ⟨rfl, rfl⟩
open Classical in
/-- What Check tells, by number. -/
noncomputable def kfault (v : List Nd) : Int := if 200 < v.length then 4 else if ∃ x k, KTy v x k then 0 else 1
theorem kfault_full {v : List Nd} (h : 200 < v.length) : kfault v = 4 := if_pos h
theorem kfault_ok {v : List Nd} (h : v.length ≤ 200) {x : Nd} {k : Tp} (hk : KTy v x k) : kfault v = 0 := by unfold kfault; rw [if_neg (by omega), if_pos ⟨x, k, hk⟩]
theorem kfault_bad {v : List Nd} (h : v.length ≤ 200) (hk : ∀ x k, ¬ KTy v x k) : kfault v = 1 := by unfold kfault; rw [if_neg (by omega), if_neg (fun ⟨x, k, h⟩ => hk x k h)]
theorem kfault_ways (v : List Nd) : (200 < v.length ∧ kfault v = 4) ∨ (v.length ≤ 200 ∧ (∀ x k, ¬ KTy v x k) ∧ kfault v = 1) ∨ (v.length ≤ 200 ∧ ∃ x k, KTy v x k ∧ kfault v = 0) := by
  by_cases h : 200 < v.length
  · exact .inl ⟨h, kfault_full h⟩
  · by_cases hk : ∃ x k, KTy v x k
    · obtain ⟨x, k, hk⟩ := hk
      exact .inr (.inr ⟨by omega, x, k, hk, kfault_ok (by omega) hk⟩)
    · exact .inr (.inl ⟨by omega, fun x k h => hk ⟨x, k, h⟩, kfault_bad (by omega) (fun x k h => hk ⟨x, k, h⟩)⟩)
section
variable (v : List Nd) (w : World) (p : Option Addr) (c : Nat) (hv : NL w p v) (hc : v.length ≤ c) (hcm : c ≤ maxLen)
include hv hc hcm
omit hv hc hcm in
set_option maxHeartbeats 4000000 in
theorem read_full (h : 200 < v.length) :
    Calls Try.prog 14 #[.slice p v.length c] w fun e w' => e = .returned (.tuple #[.agg #[.int .i64 0, .int .i64 0, .string ⟨#[]⟩, .string ⟨#[]⟩, .slice none 0 0], eV 4]) ∧ Below w.heap.size w w' := by
  have i1 : (200 : Int) < (v.length : Int) := by omega
  have HL : Hid (∀ o1, Below w.heap.size w (w.alloc o1)) := fun o1 => kqx
  clear h
  go_enter Try.func14, Try.ntmps14
  go_wp2
  exact bodyPost_ret (v := .tuple #[.agg #[.int .i64 0, .int .i64 0, .string ⟨#[]⟩, .string ⟨#[]⟩, .slice none 0 0], eV 4]) (by simp [results, Try.results14, go_sem, eV]) rfl ⟨rfl, HL.out _⟩
set_option maxHeartbeats 4000000 in
theorem read_ok (h : v.length ≤ 200) (x : Nd) (k : Tp) (hk : KTy v x k) :
    Calls Try.prog 14 #[.slice p v.length c] w fun e w' => (∃ q c', e = .returned (.tuple #[.agg #[.int .i64 x.op, .int .i64 x.n, .string x.s, .string x.t, .slice q k.len c'], .nilIface]) ∧ x.wf ∧ VK w' k (.slice q k.len c') (fun a => w.heap.size ≤ a)) ∧ Below w.heap.size w w' := by
  have hv1 : v = x :: (k.flat ++ []) := by rw [hk.2]; simp
  have hkf : k.flat.length ≤ 200 := by rw [hk.2] at h; simp at h; omega
  have hC := fun W (hW : Below w.heap.size w W) => (firstK v).yes (isTy_ar _ _ hk.1.2) hv1 hW hv rfl hc hcm (by omega)
  have HI := fun W q c' (hx : x.wf) (h1 : VK W k (.slice q k.len c') (fun a => w.heap.size ≤ a)) => isTyK x k W _ _ h1 hx (isTy_ar _ _ hk.1.2) (by omega)
  rw [hk.1.2] at HI
  have i1 : ¬ (200 : Int) < (v.length : Int) := by omega
  clear hv h hk hv1
  simp only [List.length_nil] at hC
  unfold partV at *
  obtain ⟨W, hW⟩ : ∃ W, W = w.alloc (.cells #[.int .i64 0, .int .i64 0, .string ⟨#[]⟩, .string ⟨#[]⟩, .slice none 0 0] 37) := ⟨_, rfl⟩
  have hbW : Below w.heap.size w W := by rw [hW]; exact kqx
  have hr_0 : PBk W w.heap.size zN (.slice none 0 0) := by rw [hW]; exact PBk.new w zN _ rfl
  go_enter Try.func14, Try.ntmps14
  go_wp2_with fail
  rw [← hW]
  refine (hC W hbW).mono ?_
  rintro _ w5 ⟨⟨u, q5, c5, rfl, hxw, hu, _, _, _⟩, hb5⟩
  obtain ⟨qu, cu, rfl, _⟩ := hu.slice
  obtain ⟨V6, hV6⟩ : ∃ V6, V6 = w5.alloc (.cells #[.int .i64 x.op, .int .i64 x.n, .string x.s, .string x.t, .slice qu k.len cu] 37) := ⟨_, rfl⟩
  have hb56 : Below w5.heap.size w5 V6 := by rw [hV6]; exact kqx
  have hb6 : Below W.heap.size W V6 := kqt hb5 hb56
  have hr_6 := hr_0.up hb6
  have hk_6 : PBk V6 w5.heap.size x (.slice qu k.len cu) := by rw [hV6]; exact PBk.new w5 x _ rfl
  have hW1 : W.heap.size = w.heap.size + 1 := by rw [hW]; simp
  have hu6 := (hu.sub (S2 := fun a => w.heap.size + 1 ≤ a) (fun a h => by omega)).up hb56
  have hI := HI V6 qu cu hxw (hu6.sub (fun a h => by omega))
  clear hC HI hW hu
  go_wp2_with fail
  rw [← hV6]
  refine hI.mono ?_
  rintro _ w7 ⟨rfl, hb7⟩
  obtain ⟨c0, c1, c2, c3, c4⟩ := (hk_6.up hb7).cells
  have hr_7 := hr_6.up hb7
  obtain ⟨r0, r1, r2, r3, r4⟩ := hr_7.cells
  have fr := hr_7.free
  clear hI
  go_wp2
  obtain ⟨V, hV⟩ : ∃ V, V = ((((w7.setCell ⟨w.heap.size, 0, none⟩ (.int .i64 x.op)).setCell ⟨w.heap.size, 1, none⟩ (.int .i64 x.n)).setCell ⟨w.heap.size, 2, none⟩ (.string x.s)).setCell ⟨w.heap.size, 3, none⟩ (.string x.t)).setCell ⟨w.heap.size, 4, none⟩ (.slice qu k.len cu) := ⟨_, rfl⟩
  rw [← hV]
  obtain ⟨hPV, hKV⟩ := hr_7.put hV
  obtain ⟨t0, t1, t2, t3, t4⟩ := hPV.cells
  have hbV : Below w.heap.size w7 V := hKV.below (by have := hr_7.lt; omega) (fun a e => by omega)
  refine bodyPost_ret (v := .tuple #[.agg #[.int .i64 x.op, .int .i64 x.n, .string x.s, .string x.t, .slice qu k.len cu], .nilIface]) (by simp [results, Try.results14, go_sem, t0, t1, t2, t3, t4]) rfl ⟨⟨_, _, rfl, hxw, ?_⟩, (kqt hbW (kqt hb6 hb7)).trans hbV⟩
  exact ((hu6.up hb7).agree (fun a ha hl => hKV.block a hl (by omega))).sub (fun a h => by omega)
set_option maxHeartbeats 4000000 in
theorem read_miss (h : v.length ≤ 200) (hno : ∀ x k z, arK (.cons x k .nil) → v ≠ x :: (k.flat ++ z)) :
    Calls Try.prog 14 #[.slice p v.length c] w fun e w' => e = .returned (.tuple #[.agg #[.int .i64 0, .int .i64 0, .string ⟨#[]⟩, .string ⟨#[]⟩, .slice none 0 0], eV 1]) ∧ Below w.heap.size w w' := by
  have i1 : ¬ (200 : Int) < (v.length : Int) := by omega
  obtain ⟨W, hW⟩ : ∃ W, W = w.alloc (.cells #[.int .i64 0, .int .i64 0, .string ⟨#[]⟩, .string ⟨#[]⟩, .slice none 0 0] 37) := ⟨_, rfl⟩
  have hbW : Below w.heap.size w W := by rw [hW]; exact kqx
  have hr_0 : PBk W w.heap.size zN (.slice none 0 0) := by rw [hW]; exact PBk.new w zN _ rfl
  have hC := (firstK v).no hno hbW hv rfl hc hcm (by omega)
  clear hv h hno
  unfold partV zN at hC
  go_enter Try.func14, Try.ntmps14
  go_wp2_with fail
  rw [← hW]
  refine hC.mono ?_
  rintro _ w5 ⟨rfl, hb5⟩
  obtain ⟨w7, hw7⟩ : ∃ V6, V6 = w5.alloc (.cells #[.int .i64 0, .int .i64 0, .string ⟨#[]⟩, .string ⟨#[]⟩, .slice none 0 0] 37) := ⟨_, rfl⟩
  have hr_7 : PBk w7 w.heap.size zN (.slice none 0 0) := by rw [hw7]; exact (hr_0.up hb5).up kqx
  have hb7 : Below w.heap.size w w7 := by rw [hw7]; exact kqA (kqt hbW hb5)
  have s0 := hr_7.cells
  have sr := hr_7.free
  rw [hw7] at s0 sr
  obtain ⟨s0, s1, s2, s3, s4⟩ := s0
  clear hC hW
  go_wp2_with fail
  rw [← hw7]
  clear hw7 s0 s1 s2 s3 s4 sr
  obtain ⟨r0, r1, r2, r3, r4⟩ := hr_7.cells
  have fr := hr_7.free
  go_wp2
  obtain ⟨V, hV⟩ : ∃ V, V = ((((w7.setCell ⟨w.heap.size, 0, none⟩ (.int .i64 zN.op)).setCell ⟨w.heap.size, 1, none⟩ (.int .i64 zN.n)).setCell ⟨w.heap.size, 2, none⟩ (.string zN.s)).setCell ⟨w.heap.size, 3, none⟩ (.string zN.t)).setCell ⟨w.heap.size, 4, none⟩ (.slice none 0 0) := ⟨_, rfl⟩
  obtain ⟨hPV, hKV⟩ := hr_7.put hV
  obtain ⟨t0, t1, t2, t3, t4⟩ := hPV.cells
  have hbV : Below w.heap.size w7 V := hKV.below (by have := hr_7.lt; omega) (fun a e => by omega)
  unfold zN at hV t0 t1 t2 t3
  dsimp only at hV t0 t1 t2 t3
  rw [← hV]
  exact bodyPost_ret (v := .tuple #[.agg #[.int .i64 0, .int .i64 0, .string ⟨#[]⟩, .string ⟨#[]⟩, .slice none 0 0], eV 1]) (by simp [results, Try.results14, go_sem, t0, t1, t2, t3, t4, eV]) rfl ⟨rfl, hb7.trans hbV⟩
set_option maxHeartbeats 4000000 in
theorem read_rest (h : v.length ≤ 200) (x : Nd) (k : Tp) (y : Nd) (z : List Nd) (hk : arK (.cons x k .nil)) (hz : v = x :: (k.flat ++ y :: z)) :
    Calls Try.prog 14 #[.slice p v.length c] w fun e w' => e = .returned (.tuple #[.agg #[.int .i64 0, .int .i64 0, .string ⟨#[]⟩, .string ⟨#[]⟩, .slice none 0 0], eV 1]) ∧ Below w.heap.size w w' := by
  have i1 : ¬ (200 : Int) < (v.length : Int) := by omega
  obtain ⟨W, hW⟩ : ∃ W, W = w.alloc (.cells #[.int .i64 0, .int .i64 0, .string ⟨#[]⟩, .string ⟨#[]⟩, .slice none 0 0] 37) := ⟨_, rfl⟩
  have hbW : Below w.heap.size w W := by rw [hW]; exact kqx
  have hr_0 : PBk W w.heap.size zN (.slice none 0 0) := by rw [hW]; exact PBk.new w zN _ rfl
  have hC := (firstK v).yes hk hz hbW hv rfl hc hcm (by omega)
  have hz9 : z.length ≤ 200 := by rw [hz] at h; simp at h; omega
  clear hv h hz hk
  simp only [List.length_cons] at hC
  unfold partV at hC
  go_enter Try.func14, Try.ntmps14
  go_wp2_with fail
  rw [← hW]
  refine hC.mono ?_
  rintro _ w5 ⟨⟨u, q5, c5, rfl, hxw, hu, _, _, _⟩, hb5⟩
  obtain ⟨qu, cu, rfl, _⟩ := hu.slice
  obtain ⟨w7, hw7⟩ : ∃ V6, V6 = w5.alloc (.cells #[.int .i64 x.op, .int .i64 x.n, .string x.s, .string x.t, .slice qu k.len cu] 37) := ⟨_, rfl⟩
  have hr_7 : PBk w7 w.heap.size zN (.slice none 0 0) := by rw [hw7]; exact (hr_0.up hb5).up kqx
  have hb7 : Below w.heap.size w w7 := by rw [hw7]; exact kqA (kqt hbW hb5)
  have s0 := hr_7.cells
  have sr := hr_7.free
  rw [hw7] at s0 sr
  obtain ⟨s0, s1, s2, s3, s4⟩ := s0
  have j1 : (0 : Int) < (z.length : Int) + 1 := by omega
  clear hC hW hu
  go_wp2_with fail
  rw [← hw7]
  clear hw7 s0 s1 s2 s3 s4 sr
  obtain ⟨r0, r1, r2, r3, r4⟩ := hr_7.cells
  have fr := hr_7.free
  go_wp2
  obtain ⟨V, hV⟩ : ∃ V, V = ((((w7.setCell ⟨w.heap.size, 0, none⟩ (.int .i64 zN.op)).setCell ⟨w.heap.size, 1, none⟩ (.int .i64 zN.n)).setCell ⟨w.heap.size, 2, none⟩ (.string zN.s)).setCell ⟨w.heap.size, 3, none⟩ (.string zN.t)).setCell ⟨w.heap.size, 4, none⟩ (.slice none 0 0) := ⟨_, rfl⟩
  obtain ⟨hPV, hKV⟩ := hr_7.put hV
  obtain ⟨t0, t1, t2, t3, t4⟩ := hPV.cells
  have hbV : Below w.heap.size w7 V := hKV.below (by have := hr_7.lt; omega) (fun a e => by omega)
  unfold zN at hV t0 t1 t2 t3
  dsimp only at hV t0 t1 t2 t3
  rw [← hV]
  exact bodyPost_ret (v := .tuple #[.agg #[.int .i64 0, .int .i64 0, .string ⟨#[]⟩, .string ⟨#[]⟩, .slice none 0 0], eV 1]) (by simp [results, Try.results14, go_sem, t0, t1, t2, t3, t4, eV]) rfl ⟨rfl, hb7.trans hbV⟩
set_option maxHeartbeats 4000000 in
theorem read_not (h : v.length ≤ 200) (x : Nd) (k : Tp) (hk : arK (.cons x k .nil)) (hz : v = x :: (k.flat ++ [])) (hty : isTy none (.cons x k .nil) = false) :
    Calls Try.prog 14 #[.slice p v.length c] w fun e w' => e = .returned (.tuple #[.agg #[.int .i64 0, .int .i64 0, .string ⟨#[]⟩, .string ⟨#[]⟩, .slice none 0 0], eV 1]) ∧ Below w.heap.size w w' := by
  have i1 : ¬ (200 : Int) < (v.length : Int) := by omega
  obtain ⟨W, hW⟩ : ∃ W, W = w.alloc (.cells #[.int .i64 0, .int .i64 0, .string ⟨#[]⟩, .string ⟨#[]⟩, .slice none 0 0] 37) := ⟨_, rfl⟩
  have hbW : Below w.heap.size w W := by rw [hW]; exact kqx
  have hr_0 : PBk W w.heap.size zN (.slice none 0 0) := by rw [hW]; exact PBk.new w zN _ rfl
  have hC := (firstK v).yes hk hz hbW hv rfl hc hcm (by omega)
  have hkf : k.flat.length ≤ 1000 := by rw [hz] at h; simp at h; omega
  have HI := fun W q c' (hx : x.wf) (h1 : VK W k (.slice q k.len c') (fun a => w.heap.size ≤ a)) => isTyK x k W _ _ h1 hx hk hkf
  rw [hty] at HI
  clear hv h hz hk hty
  simp only [List.length_nil] at hC
  unfold partV at hC HI
  go_enter Try.func14, Try.ntmps14
  go_wp2_with fail
  rw [← hW]
  refine hC.mono ?_
  rintro _ w5 ⟨⟨u, q5, c5, rfl, hxw, hu, _, _, _⟩, hb5⟩
  obtain ⟨qu, cu, rfl, _⟩ := hu.slice
  obtain ⟨V6, hV6⟩ : ∃ V6, V6 = w5.alloc (.cells #[.int .i64 x.op, .int .i64 x.n, .string x.s, .string x.t, .slice qu k.len cu] 37) := ⟨_, rfl⟩
  have hb56 : Below w5.heap.size w5 V6 := by rw [hV6]; exact kqx
  have hb6 : Below W.heap.size W V6 := kqt hb5 hb56
  have hr_6 := hr_0.up hb6
  have hW1 : w.heap.size ≤ W.heap.size := hbW.size
  have hI := HI V6 qu cu hxw ((hu.sub (fun a h => by omega)).up hb56)
  clear hC HI hW hu
  go_wp2_with fail
  rw [← hV6]
  refine hI.mono ?_
  rintro _ w7 ⟨rfl, hb67⟩
  have hr_7 := hr_6.up hb67
  have hb7 : Below w.heap.size w w7 := kqt hbW (kqt hb6 hb67)
  clear hI hV6
  obtain ⟨r0, r1, r2, r3, r4⟩ := hr_7.cells
  have fr := hr_7.free
  go_wp2
  obtain ⟨V, hV⟩ : ∃ V, V = ((((w7.setCell ⟨w.heap.size, 0, none⟩ (.int .i64 zN.op)).setCell ⟨w.heap.size, 1, none⟩ (.int .i64 zN.n)).setCell ⟨w.heap.size, 2, none⟩ (.string zN.s)).setCell ⟨w.heap.size, 3, none⟩ (.string zN.t)).setCell ⟨w.heap.size, 4, none⟩ (.slice none 0 0) := ⟨_, rfl⟩
  obtain ⟨hPV, hKV⟩ := hr_7.put hV
  obtain ⟨t0, t1, t2, t3, t4⟩ := hPV.cells
  have hbV : Below w.heap.size w7 V := hKV.below (by have := hr_7.lt; omega) (fun a e => by omega)
  unfold zN at hV t0 t1 t2 t3
  dsimp only at hV t0 t1 t2 t3
  rw [← hV]
  exact bodyPost_ret (v := .tuple #[.agg #[.int .i64 0, .int .i64 0, .string ⟨#[]⟩, .string ⟨#[]⟩, .slice none 0 0], eV 1]) (by simp [results, Try.results14, go_sem, t0, t1, t2, t3, t4, eV]) rfl ⟨rfl, hb7.trans hbV⟩
theorem read_bad (h : v.length ≤ 200) (hk : ∀ x k, ¬ KTy v x k) :
    Calls Try.prog 14 #[.slice p v.length c] w fun e w' => e = .returned (.tuple #[.agg #[.int .i64 0, .int .i64 0, .string ⟨#[]⟩, .string ⟨#[]⟩, .slice none 0 0], eV 1]) ∧ Below w.heap.size w w' := by
  by_cases hex : ∃ x k z, arK (.cons x k .nil) ∧ v = x :: (k.flat ++ z)
  · obtain ⟨x, k, z, h1, h2⟩ := hex
    cases z with
    | nil =>
      refine read_not v w p c hv hc hcm h x k h1 h2 ?_
      cases e : isTy none (.cons x k .nil) with
      | false => rfl
      | true => exact absurd ⟨⟨rfl, e⟩, by rw [h2]; simp⟩ (hk x k)
    | cons y z => exact read_rest v w p c hv hc hcm h x k y z h1 h2
  · exact read_miss v w p c hv hc hcm h (fun x k z h1 h2 => hex ⟨x, k, z, h1, h2⟩)
end
end Go.Proofs.Ytjbjheeigdblkab
