/- Package kinds: join, by walks of its own text. -/
import Derived.Test.YtjbjheeigdblkabKiJ
namespace Go.Proofs.Ytjbjheeigdblkab
open Go.RowKit
set_option linter.unusedVariables false
set_option linter.unusedSectionVars false
set_option maxRecDepth 100000

/-- The start of join: both boxed, and the block of what is told. -/
structure JS (w W : World) (x y : Nd) (v u : Value) : Prop where
  bel : Below w.heap.size w W
  sz : W.heap.size = w.heap.size + 3
  bx : PBk W w.heap.size x v
  by_ : PBk W (w.heap.size + 1) y u
  br : PBk W (w.heap.size + 2) zN (.slice none 0 0)
theorem JS.new (w : World) (x y : Nd) (v u : Value) : JS w (((w.alloc (.cells #[.int .i64 x.op, .int .i64 x.n, .string x.s, .string x.t, v] 37)).alloc (.cells #[.int .i64 y.op, .int .i64 y.n, .string y.s, .string y.t, u] 37)).alloc (.cells #[.int .i64 0, .int .i64 0, .string ⟨#[]⟩, .string ⟨#[]⟩, .slice none 0 0] 37)) x y v u where
  bel := kqx
  sz := by simp
  bx := (PBk.new w x _ rfl).up kqx
  by_ := (PBk.new (w.alloc (.cells #[.int .i64 x.op, .int .i64 x.n, .string x.s, .string x.t, v] 37)) y _ (by simp)).up kqx
  br := PBk.new _ zN _ (by simp)
theorem lfwf (o : Int) : (lfN o).wf := ⟨(by show (⟨#[]⟩ : ByteArray).size ≤ maxLen; unfold maxLen; decide), (by show (⟨#[]⟩ : ByteArray).size ≤ maxLen; unfold maxLen; decide), (by show (0 : Int) ≤ _; omega)⟩
section
variable (x y : Nd) (k l : Tp) (w : World) (v u : Value) (S : Nat → Prop) (hv : VK w k v S) (hu : VK w l u S) (hxw : x.wf) (hyw : y.wf)
include hv hu hxw hyw
set_option maxHeartbeats 4000000 in
theorem join_first (h1 : x.op = 49) :
    Calls Try.prog 18 #[partV x v, partV y u] w fun e w' => JRet S w w' (.cons y l .nil) e ∧ Below w.heap.size w w' := by
  obtain ⟨q, c, rfl, _⟩ := hv.slice
  obtain ⟨q2, c2, rfl, _⟩ := hu.slice
  have HV : Hid (VK w k (.slice q k.len c) S) := hv
  have HU : Hid (VK w l (.slice q2 l.len c2) S) := hu
  have e1 : (x.op == 49) = true := by rw [h1]; rfl
  clear hv hu h1
  unfold partV
  go_enter Try.func18, Try.ntmps18
  go_wp2
  exact bodyPost_ret (v := .agg #[.int .i64 y.op, .int .i64 y.n, .string y.s, .string y.t, .slice q2 l.len c2]) (by simp [results, Try.results18, go_sem]) rfl ⟨⟨y, l, _, _, rfl, rfl, hyw, (HU.out.up kqx).sub (fun a h => .inl h)⟩, kqx⟩
set_option maxHeartbeats 4000000 in
theorem join_second (h1 : x.op ≠ 49) (h2 : y.op = 49) :
    Calls Try.prog 18 #[partV x v, partV y u] w fun e w' => JRet S w w' (.cons x k .nil) e ∧ Below w.heap.size w w' := by
  obtain ⟨q, c, rfl, _⟩ := hv.slice
  obtain ⟨q2, c2, rfl, _⟩ := hu.slice
  have HV : Hid (VK w k (.slice q k.len c) S) := hv
  have HU : Hid (VK w l (.slice q2 l.len c2) S) := hu
  have e1 : (x.op == 49) = false := by simp [h1]
  have e2 : (y.op == 49) = true := by rw [h2]; rfl
  clear hv hu h1 h2
  unfold partV
  go_enter Try.func18, Try.ntmps18
  go_wp2
  exact bodyPost_ret (v := .agg #[.int .i64 x.op, .int .i64 x.n, .string x.s, .string x.t, .slice q k.len c]) (by simp [results, Try.results18, go_sem]) rfl ⟨⟨x, k, _, _, rfl, rfl, hxw, (HV.out.up kqx).sub (fun a h => .inl h)⟩, kqx⟩
set_option maxHeartbeats 4000000 in
theorem join_same (h1 : x.op ≠ 49) (h5 : x.op ≠ 45) (h6 : x.op ≠ 46) (hxy : x = y) :
    Calls Try.prog 18 #[partV x v, partV y u] w fun e w' => JRet S w w' (.cons x k .nil) e ∧ Below w.heap.size w w' := by
  subst hxy
  obtain ⟨q, c, rfl, _⟩ := hv.slice
  obtain ⟨q2, c2, rfl, _⟩ := hu.slice
  have HV : Hid (VK w k (.slice q k.len c) S) := hv
  have HU : Hid (VK w l (.slice q2 l.len c2) S) := hu
  have e1 : (x.op == 49) = false := by simp [h1]
  have e2 : (x.op == 45) = false := by simp [h5]
  have e3 : (x.op == 46) = false := by simp [h6]
  clear hv hu h1 h5 h6
  unfold partV
  go_enter Try.func18, Try.ntmps18
  go_wp2
  exact bodyPost_ret (v := .agg #[.int .i64 x.op, .int .i64 x.n, .string x.s, .string x.t, .slice q k.len c]) (by simp [results, Try.results18, go_sem]) rfl ⟨⟨x, k, _, _, rfl, rfl, hxw, (HV.out.up kqx).sub (fun a h => .inl h)⟩, kqx⟩
set_option maxHeartbeats 4000000 in
theorem join_diff (h1 : x.op ≠ 49) (h2 : y.op ≠ 49) (h3 : x.op ≠ y.op) :
    Calls Try.prog 18 #[partV x v, partV y u] w fun e w' => JRet S w w' (.cons (lfN 48) .nil .nil) e ∧ Below w.heap.size w w' := by
  obtain ⟨q, c, rfl, _⟩ := hv.slice
  obtain ⟨q2, c2, rfl, _⟩ := hu.slice
  have HV : Hid (VK w k (.slice q k.len c) S) := hv
  have HU : Hid (VK w l (.slice q2 l.len c2) S) := hu
  obtain ⟨xo, xn, xs, xt⟩ := x
  obtain ⟨yo, yn, ys, yt⟩ := y
  dsimp only at h1 h2 h3
  have e1 : (xo == 49) = false := by simp [h1]
  have e2 : (yo == 49) = false := by simp [h2]
  have e5 : (xo == yo) = false := by simp [h3]
  have HLf := fun W => leaf_any 48 W
  unfold partV
  dsimp only
  have hw : (xo = 45 ∧ yo ≠ 45) ∨ (xo = 46 ∧ yo ≠ 46) ∨ (xo ≠ 45 ∧ xo ≠ 46) := by omega
  clear hv hu h1 h2 h3
  rcases hw with ⟨rfl, c⟩ | ⟨rfl, c⟩ | ⟨c, c'⟩
  · have e6 : (yo == 45) = false := by simp [c]
    clear c
    go_enter Try.func18, Try.ntmps18
    go_wp2_with fail
    refine (HLf _).mono ?_
    rintro _ w1 ⟨rfl, hb1⟩
    have hJ := JS.new w ⟨45, xn, xs, xt⟩ ⟨yo, yn, ys, yt⟩ (.slice q k.len c) (.slice q2 l.len c2)
    have hr_1 := hJ.br.up hb1
    have hb01 := kqt hJ.bel hb1
    obtain ⟨r0, r1, r2, r3, r4⟩ := hr_1.cells
    have fr := hr_1.free
    go_wp2
    obtain ⟨V, hV⟩ : ∃ V, V = ((((w1.setCell ⟨w.heap.size + 2, 0, none⟩ (.int .i64 48)).setCell ⟨w.heap.size + 2, 1, none⟩ (.int .i64 0)).setCell ⟨w.heap.size + 2, 2, none⟩ (.string ⟨#[]⟩)).setCell ⟨w.heap.size + 2, 3, none⟩ (.string ⟨#[]⟩)).setCell ⟨w.heap.size + 2, 4, none⟩ (.slice none 0 0) := ⟨_, rfl⟩
    rw [← hV]
    obtain ⟨hPV, hKV⟩ := hr_1.put (x := ⟨48, 0, ⟨#[]⟩, ⟨#[]⟩⟩) (u := .slice none 0 0) hV
    obtain ⟨t0, t1, t2, t3, t4⟩ := hPV.cells
    have hbV : Below w.heap.size w1 V := hKV.below (by have := hr_1.lt; omega) (fun a e => by omega)
    exact bodyPost_ret (v := .agg #[.int .i64 48, .int .i64 0, .string ⟨#[]⟩, .string ⟨#[]⟩, .slice none 0 0]) (by simp [results, Try.results18, go_sem, t0, t1, t2, t3, t4]) rfl ⟨⟨lfN 48, .nil, none, 0, rfl, rfl, lfwf 48, VK.nil _ _⟩, hb01.trans hbV⟩
  · have e6 : (yo == 46) = false := by simp [c]
    clear c
    go_enter Try.func18, Try.ntmps18
    go_wp2_with fail
    refine (HLf _).mono ?_
    rintro _ w1 ⟨rfl, hb1⟩
    have hJ := JS.new w ⟨46, xn, xs, xt⟩ ⟨yo, yn, ys, yt⟩ (.slice q k.len c) (.slice q2 l.len c2)
    have hr_1 := hJ.br.up hb1
    have hb01 := kqt hJ.bel hb1
    obtain ⟨r0, r1, r2, r3, r4⟩ := hr_1.cells
    have fr := hr_1.free
    go_wp2
    obtain ⟨V, hV⟩ : ∃ V, V = ((((w1.setCell ⟨w.heap.size + 2, 0, none⟩ (.int .i64 48)).setCell ⟨w.heap.size + 2, 1, none⟩ (.int .i64 0)).setCell ⟨w.heap.size + 2, 2, none⟩ (.string ⟨#[]⟩)).setCell ⟨w.heap.size + 2, 3, none⟩ (.string ⟨#[]⟩)).setCell ⟨w.heap.size + 2, 4, none⟩ (.slice none 0 0) := ⟨_, rfl⟩
    rw [← hV]
    obtain ⟨hPV, hKV⟩ := hr_1.put (x := ⟨48, 0, ⟨#[]⟩, ⟨#[]⟩⟩) (u := .slice none 0 0) hV
    obtain ⟨t0, t1, t2, t3, t4⟩ := hPV.cells
    have hbV : Below w.heap.size w1 V := hKV.below (by have := hr_1.lt; omega) (fun a e => by omega)
    exact bodyPost_ret (v := .agg #[.int .i64 48, .int .i64 0, .string ⟨#[]⟩, .string ⟨#[]⟩, .slice none 0 0]) (by simp [results, Try.results18, go_sem, t0, t1, t2, t3, t4]) rfl ⟨⟨lfN 48, .nil, none, 0, rfl, rfl, lfwf 48, VK.nil _ _⟩, hb01.trans hbV⟩
  · have e6 : (xo == 45) = false := by simp [c]
    have e7 : (xo == 46) = false := by simp [c']
    clear c c'
    go_enter Try.func18, Try.ntmps18
    go_wp2_with fail
    refine (HLf _).mono ?_
    rintro _ w1 ⟨rfl, hb1⟩
    have hJ := JS.new w ⟨xo, xn, xs, xt⟩ ⟨yo, yn, ys, yt⟩ (.slice q k.len c) (.slice q2 l.len c2)
    have hr_1 := hJ.br.up hb1
    have hb01 := kqt hJ.bel hb1
    obtain ⟨r0, r1, r2, r3, r4⟩ := hr_1.cells
    have fr := hr_1.free
    go_wp2
    obtain ⟨V, hV⟩ : ∃ V, V = ((((w1.setCell ⟨w.heap.size + 2, 0, none⟩ (.int .i64 48)).setCell ⟨w.heap.size + 2, 1, none⟩ (.int .i64 0)).setCell ⟨w.heap.size + 2, 2, none⟩ (.string ⟨#[]⟩)).setCell ⟨w.heap.size + 2, 3, none⟩ (.string ⟨#[]⟩)).setCell ⟨w.heap.size + 2, 4, none⟩ (.slice none 0 0) := ⟨_, rfl⟩
    rw [← hV]
    obtain ⟨hPV, hKV⟩ := hr_1.put (x := ⟨48, 0, ⟨#[]⟩, ⟨#[]⟩⟩) (u := .slice none 0 0) hV
    obtain ⟨t0, t1, t2, t3, t4⟩ := hPV.cells
    have hbV : Below w.heap.size w1 V := hKV.below (by have := hr_1.lt; omega) (fun a e => by omega)
    exact bodyPost_ret (v := .agg #[.int .i64 48, .int .i64 0, .string ⟨#[]⟩, .string ⟨#[]⟩, .slice none 0 0]) (by simp [results, Try.results18, go_sem, t0, t1, t2, t3, t4]) rfl ⟨⟨lfN 48, .nil, none, 0, rfl, rfl, lfwf 48, VK.nil _ _⟩, hb01.trans hbV⟩
set_option maxHeartbeats 4000000 in
theorem join_ents (s t : ByteArray) (hx : x = ⟨44, 0, s, e0⟩) (hy : y = ⟨44, 0, t, e0⟩) (h : s ≠ t) :
    Calls Try.prog 18 #[partV x v, partV y u] w fun e w' => JRet S w w' (.cons (lfN 48) .nil .nil) e ∧ Below w.heap.size w w' := by
  obtain ⟨q, c, rfl, _⟩ := hv.slice
  obtain ⟨q2, c2, rfl, _⟩ := hu.slice
  subst hx hy
  have h3 : ¬ s.toList = t.toList := fun e => h (bytes_inj (by simpa only [ByteArray.toList_eq] using e))
  have HLf := fun W => leaf_any 48 W
  clear hv hu h
  unfold partV e0
  dsimp only
  have : True := trivial
  · go_enter Try.func18, Try.ntmps18
    go_wp2_with fail
    refine (HLf _).mono ?_
    rintro _ w1 ⟨rfl, hb1⟩
    have hJ := JS.new w ⟨44, 0, s, ⟨#[]⟩⟩ ⟨44, 0, t, ⟨#[]⟩⟩ (.slice q k.len c) (.slice q2 l.len c2)
    have hr_1 := hJ.br.up hb1
    have hb01 := kqt hJ.bel hb1
    obtain ⟨r0, r1, r2, r3, r4⟩ := hr_1.cells
    have fr := hr_1.free
    go_wp2
    obtain ⟨V, hV⟩ : ∃ V, V = ((((w1.setCell ⟨w.heap.size + 2, 0, none⟩ (.int .i64 48)).setCell ⟨w.heap.size + 2, 1, none⟩ (.int .i64 0)).setCell ⟨w.heap.size + 2, 2, none⟩ (.string ⟨#[]⟩)).setCell ⟨w.heap.size + 2, 3, none⟩ (.string ⟨#[]⟩)).setCell ⟨w.heap.size + 2, 4, none⟩ (.slice none 0 0) := ⟨_, rfl⟩
    rw [← hV]
    obtain ⟨hPV, hKV⟩ := hr_1.put (x := ⟨48, 0, ⟨#[]⟩, ⟨#[]⟩⟩) (u := .slice none 0 0) hV
    obtain ⟨t0, t1, t2, t3, t4⟩ := hPV.cells
    have hbV : Below w.heap.size w1 V := hKV.below (by have := hr_1.lt; omega) (fun a e => by omega)
    exact bodyPost_ret (v := .agg #[.int .i64 48, .int .i64 0, .string ⟨#[]⟩, .string ⟨#[]⟩, .slice none 0 0]) (by simp [results, Try.results18, go_sem, t0, t1, t2, t3, t4]) rfl ⟨⟨lfN 48, .nil, none, 0, rfl, rfl, lfwf 48, VK.nil _ _⟩, hb01.trans hbV⟩
end
end Go.Proofs.Ytjbjheeigdblkab
