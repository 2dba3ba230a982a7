/- The document's sets and two: by walks of their own texts (written by a script of our own). The document's in: by a walk of its own text (written by a script of our own). The document's one and two, of any values. The document's lazy, given what Worth does: by a walk of its own text (written by a script of our own). The document's lazy, given what Worth does: by a walk of its own text (written by a script of our own). The document's lazy, given what Worth does: by a walk of its own text (written by a script of our own). -/
import Derived.Test.YtnilaghbbhmkgaaGreatDoorG39
import Derived.Test.YtnilaghbbhmkgaaGreatDoorG32
import Derived.Test.YtnilaghbbhmkgaaGreatDoorG20
import Derived.Test.YtnilaghbbhmkgaaGreatDoorG27
import Derived.Deep.RegionHeld
namespace Go.Proofs.YtnilaghbbhmkgaaGreatDoor
open Go.RowKit
set_option linter.unusedVariables false
set_option maxRecDepth 100000

theorem nodes_arg {a v : List Nd} {n m c d : Nat} {q p : Option Addr} {w : World} (h : VArg w a n q c) (g : VArg w v m p d) : Calls Tryz.prog 68 #[.slice q n c, .slice p m d] w fun e w' => e = .returned (.int .i64 (lsC a v)) ∧ Below w.heap.size w w' := by
  obtain rfl : a.length = n := h.len
  obtain rfl : v.length = m := g.len
  refine (refNodes_any a v q p c d w h.nl g.nl (Nat.le_trans h.le h.cm) (Nat.le_trans g.le g.cm)).mono ?_
  rintro e w' ⟨rfl, k, rfl⟩
  exact ⟨rfl, ⟨rfl, rfl, rfl, Nat.le_refl _, fun _ _ => rfl⟩⟩
theorem within_arg {l : List (List Nd)} {a v : List Nd} {n m c d : Nat} {q p : Option Addr} {w : World} (hS : IsSet l) (hE : a = setN l) (h : VArg w a n q c) (g : VArg w v m p d) : Calls Tryz.prog 113 #[.slice q n c, .slice p m d] w fun e w' => e = .returned (.bool (inB l v)) ∧ Below w.heap.size w w' := by
  subst hE
  obtain rfl : (setN l).length = n := h.len
  obtain rfl : v.length = m := g.len
  exact within_any l v q p c d w h.nl h.le h.cm g.nl (Nat.le_trans g.le g.cm) hS
theorem chosen_arg {l k : List (List Nd)} {a v : List Nd} {n m c d : Nat} {q p : Option Addr} {w : World} (hS : IsSet l) (hE : a = setN l) (hS2 : IsSet k) (hE2 : v = setN k) (h : VArg w a n q c) (g : VArg w v m p d) : Calls Tryz.prog 114 #[.slice p m d, .slice q n c, .bool true] w fun e w' => (∃ q' c', e = .returned (.slice q' (k.filter fun x => inB l x).length c')) ∧ Below w.heap.size w w' := by
  subst hE hE2
  obtain rfl : (setN l).length = n := h.len
  obtain rfl : (setN k).length = m := g.len
  refine (chosen_any k l true p q d c w.heap.size w (Nat.le_refl _) (NT.old g.nl rfl) g.le g.cm h.nl h.le h.cm hS2 hS).mono ?_
  rintro e w' ⟨⟨x, rfl, ho⟩, hb⟩
  have e1 : (k.filter fun x => inB l x == true) = k.filter fun x => inB l x := by congr 1; funext x; cases inB l x <;> rfl
  rw [e1] at ho
  obtain ⟨q', c', rfl, _⟩ := ho.lists
  exact ⟨⟨q', c', rfl⟩, hb⟩
theorem gret_agg {R : Except Int (List Nd)} {e : Ending} {w : World} (h : GRet R e w) : ∃ u v, e = .returned (.agg #[u, v]) := by
  cases R with
  | ok a => obtain ⟨q, c, rfl, _⟩ := h; exact ⟨_, _, rfl⟩
  | error n => exact ⟨_, _, h⟩
theorem all_count (l k : List (List Nd)) : (((k.filter fun x => inB l x).length : Int) == (k.length : Int)) = allB l k := by
  rw [Bool.eq_iff_iff, beq_iff_eq, allB_iff]
  constructor
  · intro h
    have h1 : (k.filter fun x => inB l x).length = k.length := by omega
    have h2 := List.length_filter_eq_length_iff.1 h1
    exact fun x hx => (inB_iff _ _).1 (h2 x hx)
  · intro h
    have h1 : (k.filter fun x => inB l x).length = k.length := List.length_filter_eq_length_iff.2 (fun x hx => (inB_iff _ _).2 (h x hx))
    omega
theorem any_count (l k : List (List Nd)) : decide (0 < (k.filter fun x => inB l x).length) = anyB l k := by
  rw [Bool.eq_iff_iff, decide_eq_true_iff, anyB_iff]
  constructor
  · intro h
    have h1 : 0 < (k.filter fun x => inB l x).length := by omega
    obtain ⟨x, hx⟩ := List.exists_mem_of_length_pos h1
    obtain ⟨hx, h2⟩ := List.mem_filter.1 hx
    exact ⟨x, hx, (inB_iff _ _).1 h2⟩
  · rintro ⟨x, hx, h2⟩
    have h1 : x ∈ k.filter fun x => inB l x := List.mem_filter.2 ⟨hx, (inB_iff _ _).2 h2⟩
    have := List.length_pos_of_mem h1
    omega
section
variable {es : List En} (ps : Option Addr) (cs : Nat) (op : Int) (a v : List Nd) (n m : Nat) (q p : Option Addr) (c d : Nat) (w : World)
set_option maxHeartbeats 1000000 in
theorem ref_sets_bad1 (h : VArg w a n q c) (g : VArg w v m p d) (a5 : opV a ≠ 5) :
    Calls Tryz.prog 73 #[.int .i64 op, .agg #[.slice q n c, .int .i64 0], .agg #[.slice p m d, .int .i64 0]] w fun e w' => GRet (.error 2) e w' ∧ Below w.heap.size w w' := by
  obtain ⟨y, r, b, off, rfl, rfl, hbb0, _, _, _, _, _, hn1⟩ := h.head
  obtain ⟨z, t, b2, off2, rfl, rfl, hbb2, _, _, _, _, _, hn2⟩ := g.head
  have i0 : (0 : Int) < (n : Int) := by omega
  have i9 : (0 : Int) < (m : Int) := by omega
  obtain ⟨W, hW⟩ : ∃ W, W = ((w.alloc (.cells #[.slice (some ⟨b, off, none⟩) n c, .int .i64 0] 30)).alloc (.cells #[.slice (some ⟨b2, off2, none⟩) m d, .int .i64 0] 30)).alloc (.cells #[.slice none 0 0, .int .i64 0] 30) := ⟨_, rfl⟩
  have hb_0 : Below w.heap.size w W := by rw [hW]; exact (((Below.refl _ _).alloc (Nat.le_refl _) _).alloc (by simp) _).alloc (by simp; omega) _
  have hg_0 : GB W w.heap.size (some ⟨b, off, none⟩) n c := by rw [hW]; exact ((GB.new w _ _ _ rfl).up ((Below.refl _ _).alloc (Nat.le_refl _) _)).up ((Below.refl _ _).alloc (Nat.le_refl _) _)
  have hk_0 : GB W (w.heap.size + 1) (some ⟨b2, off2, none⟩) m d := by rw [hW]; exact (GB.new _ _ _ _ (by simp)).up ((Below.refl _ _).alloc (Nat.le_refl _) _)
  have hR_0 : GR W (w.heap.size + 1 + 1) := by rw [hW]; exact GR.new _ (by simp)
  have hv_0 := h.up hb_0
  have hu_0 := g.up hb_0
  have HIA := fun w1 h1 => refIs_any w1 (y :: r) n (some ⟨b, off, none⟩) c 5 h1
  rw [show (opV (y :: r) == 5) = false by simpa using a5] at HIA
  clear a5 h g
  go_enter Tryz.func73, Tryz.ntmps73
  obtain ⟨g0, g1⟩ := hg_0.cells
  obtain ⟨k0, k1⟩ := hk_0.cells
  obtain ⟨c0, c1, c2, c3⟩ := hv_0.cells
  obtain ⟨m0, m1, m2, m3⟩ := hu_0.cells
  obtain ⟨r0, r1, f0, f1⟩ := hR_0.cells
  go_wp2_with fail
  rw [← hW]
  refine (HIA _ hv_0).mono ?_
  rintro _ w1 ⟨rfl, hbb⟩
  clear g0 g1 k0 k1 c0 c1 c2 c3 m0 m1 m2 m3 r0 r1 f0 f1
  have hb_1 := qbt hb_0 hbb
  have hg_1 := hg_0.up hbb
  have hk_1 := hk_0.up hbb
  have hv_1 := hv_0.up hbb
  have hu_1 := hu_0.up hbb
  have hR_1 := hR_0.up hbb
  clear hbb hb_0 hg_0 hk_0 hv_0 hu_0 hR_0
  obtain ⟨g0, g1⟩ := hg_1.cells
  obtain ⟨k0, k1⟩ := hk_1.cells
  obtain ⟨c0, c1, c2, c3⟩ := hv_1.cells
  obtain ⟨m0, m1, m2, m3⟩ := hu_1.cells
  obtain ⟨r0, r1, f0, f1⟩ := hR_1.cells
  go_wp2_with fail
  refine (refBad_any _ 2).mono ?_
  rintro _ w2 ⟨rfl, hbb⟩
  clear g0 g1 k0 k1 c0 c1 c2 c3 m0 m1 m2 m3 r0 r1 f0 f1
  have hb_2 := qbt hb_1 hbb
  have hg_2 := hg_1.up hbb
  have hk_2 := hk_1.up hbb
  have hv_2 := hv_1.up hbb
  have hu_2 := hu_1.up hbb
  have hR_2 := hR_1.up hbb
  clear hbb hb_1 hg_1 hk_1 hv_1 hu_1 hR_1
  obtain ⟨g0, g1⟩ := hg_2.cells
  obtain ⟨k0, k1⟩ := hk_2.cells
  obtain ⟨c0, c1, c2, c3⟩ := hv_2.cells
  obtain ⟨m0, m1, m2, m3⟩ := hu_2.cells
  obtain ⟨r0, r1, f0, f1⟩ := hR_2.cells
  go_wp2
  exact bodyPost_ret (v := .agg #[.slice none 0 0, .int .i64 2]) (by simp [results, Tryz.results73, go_sem, (hR_2.told _ _).1, (hR_2.told _ _).2]) rfl (hR_2.ret (by omega) hb_2 (rfl))

set_option maxHeartbeats 1000000 in
theorem ref_sets_bad2 (h : VArg w a n q c) (g : VArg w v m p d) (a5 : opV a = 5) (v5 : opV v ≠ 5) (ho : op ≠ 25) :
    Calls Tryz.prog 73 #[.int .i64 op, .agg #[.slice q n c, .int .i64 0], .agg #[.slice p m d, .int .i64 0]] w fun e w' => GRet (.error 2) e w' ∧ Below w.heap.size w w' := by
  obtain ⟨y, r, b, off, rfl, rfl, hbb0, _, _, _, _, _, hn1⟩ := h.head
  obtain ⟨z, t, b2, off2, rfl, rfl, hbb2, _, _, _, _, _, hn2⟩ := g.head
  have i0 : (0 : Int) < (n : Int) := by omega
  have i9 : (0 : Int) < (m : Int) := by omega
  obtain ⟨W, hW⟩ : ∃ W, W = ((w.alloc (.cells #[.slice (some ⟨b, off, none⟩) n c, .int .i64 0] 30)).alloc (.cells #[.slice (some ⟨b2, off2, none⟩) m d, .int .i64 0] 30)).alloc (.cells #[.slice none 0 0, .int .i64 0] 30) := ⟨_, rfl⟩
  have hb_0 : Below w.heap.size w W := by rw [hW]; exact (((Below.refl _ _).alloc (Nat.le_refl _) _).alloc (by simp) _).alloc (by simp; omega) _
  have hg_0 : GB W w.heap.size (some ⟨b, off, none⟩) n c := by rw [hW]; exact ((GB.new w _ _ _ rfl).up ((Below.refl _ _).alloc (Nat.le_refl _) _)).up ((Below.refl _ _).alloc (Nat.le_refl _) _)
  have hk_0 : GB W (w.heap.size + 1) (some ⟨b2, off2, none⟩) m d := by rw [hW]; exact (GB.new _ _ _ _ (by simp)).up ((Below.refl _ _).alloc (Nat.le_refl _) _)
  have hR_0 : GR W (w.heap.size + 1 + 1) := by rw [hW]; exact GR.new _ (by simp)
  have hv_0 := h.up hb_0
  have hu_0 := g.up hb_0
  have HIA := fun w1 h1 => refIs_any w1 (y :: r) n (some ⟨b, off, none⟩) c 5 h1
  rw [show (opV (y :: r) == 5) = true by simpa using a5] at HIA
  have HIB := fun w1 h1 => refIs_any w1 (z :: t) m (some ⟨b2, off2, none⟩) d 5 h1
  rw [show (opV (z :: t) == 5) = false by simpa using v5] at HIB
  have e25 : (op != 25) = true := by simpa using ho
  clear a5 v5 h g ho
  go_enter Tryz.func73, Tryz.ntmps73
  obtain ⟨g0, g1⟩ := hg_0.cells
  obtain ⟨k0, k1⟩ := hk_0.cells
  obtain ⟨c0, c1, c2, c3⟩ := hv_0.cells
  obtain ⟨m0, m1, m2, m3⟩ := hu_0.cells
  obtain ⟨r0, r1, f0, f1⟩ := hR_0.cells
  go_wp2_with fail
  rw [← hW]
  refine (HIA _ hv_0).mono ?_
  rintro _ w1 ⟨rfl, hbb⟩
  clear g0 g1 k0 k1 c0 c1 c2 c3 m0 m1 m2 m3 r0 r1 f0 f1
  have hb_1 := qbt hb_0 hbb
  have hg_1 := hg_0.up hbb
  have hk_1 := hk_0.up hbb
  have hv_1 := hv_0.up hbb
  have hu_1 := hu_0.up hbb
  have hR_1 := hR_0.up hbb
  clear hbb hb_0 hg_0 hk_0 hv_0 hu_0 hR_0
  obtain ⟨g0, g1⟩ := hg_1.cells
  obtain ⟨k0, k1⟩ := hk_1.cells
  obtain ⟨c0, c1, c2, c3⟩ := hv_1.cells
  obtain ⟨m0, m1, m2, m3⟩ := hu_1.cells
  obtain ⟨r0, r1, f0, f1⟩ := hR_1.cells
  go_wp2_with fail
  refine (HIB _ hu_1).mono ?_
  rintro _ w2 ⟨rfl, hbb⟩
  clear g0 g1 k0 k1 c0 c1 c2 c3 m0 m1 m2 m3 r0 r1 f0 f1
  have hb_2 := qbt hb_1 hbb
  have hg_2 := hg_1.up hbb
  have hk_2 := hk_1.up hbb
  have hv_2 := hv_1.up hbb
  have hu_2 := hu_1.up hbb
  have hR_2 := hR_1.up hbb
  clear hbb hb_1 hg_1 hk_1 hv_1 hu_1 hR_1
  obtain ⟨g0, g1⟩ := hg_2.cells
  obtain ⟨k0, k1⟩ := hk_2.cells
  obtain ⟨c0, c1, c2, c3⟩ := hv_2.cells
  obtain ⟨m0, m1, m2, m3⟩ := hu_2.cells
  obtain ⟨r0, r1, f0, f1⟩ := hR_2.cells
  go_wp2_with fail
  refine (refBad_any _ 2).mono ?_
  rintro _ w3 ⟨rfl, hbb⟩
  clear g0 g1 k0 k1 c0 c1 c2 c3 m0 m1 m2 m3 r0 r1 f0 f1
  have hb_3 := qbt hb_2 hbb
  have hg_3 := hg_2.up hbb
  have hk_3 := hk_2.up hbb
  have hv_3 := hv_2.up hbb
  have hu_3 := hu_2.up hbb
  have hR_3 := hR_2.up hbb
  clear hbb hb_2 hg_2 hk_2 hv_2 hu_2 hR_2
  obtain ⟨g0, g1⟩ := hg_3.cells
  obtain ⟨k0, k1⟩ := hk_3.cells
  obtain ⟨c0, c1, c2, c3⟩ := hv_3.cells
  obtain ⟨m0, m1, m2, m3⟩ := hu_3.cells
  obtain ⟨r0, r1, f0, f1⟩ := hR_3.cells
  go_wp2
  exact bodyPost_ret (v := .agg #[.slice none 0 0, .int .i64 2]) (by simp [results, Tryz.results73, go_sem, (hR_3.told _ _).1, (hR_3.told _ _).2]) rfl (hR_3.ret (by omega) hb_3 (rfl))

set_option maxHeartbeats 1000000 in
theorem ref_sets_one (h : VArg w a n q c) (g : VArg w v m p d) (a5 : opV a = 5) :
    Calls Tryz.prog 73 #[.int .i64 25, .agg #[.slice q n c, .int .i64 0], .agg #[.slice p m d, .int .i64 0]] w fun e w' => GRet (.ok (tN (inB (setR a) v))) e w' ∧ Below w.heap.size w w' := by
  obtain ⟨y, r, b, off, rfl, rfl, hbb0, _, _, _, _, _, hn1⟩ := h.head
  obtain ⟨z, t, b2, off2, rfl, rfl, hbb2, _, _, _, _, _, hn2⟩ := g.head
  have i0 : (0 : Int) < (n : Int) := by omega
  have i9 : (0 : Int) < (m : Int) := by omega
  obtain ⟨W, hW⟩ : ∃ W, W = ((w.alloc (.cells #[.slice (some ⟨b, off, none⟩) n c, .int .i64 0] 30)).alloc (.cells #[.slice (some ⟨b2, off2, none⟩) m d, .int .i64 0] 30)).alloc (.cells #[.slice none 0 0, .int .i64 0] 30) := ⟨_, rfl⟩
  have hb_0 : Below w.heap.size w W := by rw [hW]; exact (((Below.refl _ _).alloc (Nat.le_refl _) _).alloc (by simp) _).alloc (by simp; omega) _
  have hg_0 : GB W w.heap.size (some ⟨b, off, none⟩) n c := by rw [hW]; exact ((GB.new w _ _ _ rfl).up ((Below.refl _ _).alloc (Nat.le_refl _) _)).up ((Below.refl _ _).alloc (Nat.le_refl _) _)
  have hk_0 : GB W (w.heap.size + 1) (some ⟨b2, off2, none⟩) m d := by rw [hW]; exact (GB.new _ _ _ _ (by simp)).up ((Below.refl _ _).alloc (Nat.le_refl _) _)
  have hR_0 : GR W (w.heap.size + 1 + 1) := by rw [hW]; exact GR.new _ (by simp)
  have hv_0 := h.up hb_0
  have hu_0 := g.up hb_0
  have HIA := fun w1 h1 => refIs_any w1 (y :: r) n (some ⟨b, off, none⟩) c 5 h1
  rw [show (opV (y :: r) == 5) = true by simpa using a5] at HIA
  obtain ⟨hS, hE⟩ := setR_spec h.is.val a5
  have HWI := fun w1 (h1 : VArg w1 (y :: r) n (some ⟨b, off, none⟩) c) (h2 : VArg w1 (z :: t) m (some ⟨b2, off2, none⟩) d) => within_arg hS hE h1 h2
  clear a5 h g hE hS
  generalize inB (setR (y :: r)) (z :: t) = BB at *
  go_enter Tryz.func73, Tryz.ntmps73
  obtain ⟨g0, g1⟩ := hg_0.cells
  obtain ⟨k0, k1⟩ := hk_0.cells
  obtain ⟨c0, c1, c2, c3⟩ := hv_0.cells
  obtain ⟨m0, m1, m2, m3⟩ := hu_0.cells
  obtain ⟨r0, r1, f0, f1⟩ := hR_0.cells
  go_wp2_with fail
  rw [← hW]
  refine (HIA _ hv_0).mono ?_
  rintro _ w1 ⟨rfl, hbb⟩
  clear g0 g1 k0 k1 c0 c1 c2 c3 m0 m1 m2 m3 r0 r1 f0 f1
  have hb_1 := qbt hb_0 hbb
  have hg_1 := hg_0.up hbb
  have hk_1 := hk_0.up hbb
  have hv_1 := hv_0.up hbb
  have hu_1 := hu_0.up hbb
  have hR_1 := hR_0.up hbb
  clear hbb hb_0 hg_0 hk_0 hv_0 hu_0 hR_0
  obtain ⟨g0, g1⟩ := hg_1.cells
  obtain ⟨k0, k1⟩ := hk_1.cells
  obtain ⟨c0, c1, c2, c3⟩ := hv_1.cells
  obtain ⟨m0, m1, m2, m3⟩ := hu_1.cells
  obtain ⟨r0, r1, f0, f1⟩ := hR_1.cells
  go_wp2_with fail
  refine (HWI _ hv_1 hu_1).mono ?_
  rintro _ w2 ⟨rfl, hbb⟩
  clear g0 g1 k0 k1 c0 c1 c2 c3 m0 m1 m2 m3 r0 r1 f0 f1
  have hb_2 := qbt hb_1 hbb
  have hg_2 := hg_1.up hbb
  have hk_2 := hk_1.up hbb
  have hv_2 := hv_1.up hbb
  have hu_2 := hu_1.up hbb
  have hR_2 := hR_1.up hbb
  clear hbb hb_1 hg_1 hk_1 hv_1 hu_1 hR_1
  obtain ⟨g0, g1⟩ := hg_2.cells
  obtain ⟨k0, k1⟩ := hk_2.cells
  obtain ⟨c0, c1, c2, c3⟩ := hv_2.cells
  obtain ⟨m0, m1, m2, m3⟩ := hu_2.cells
  obtain ⟨r0, r1, f0, f1⟩ := hR_2.cells
  go_wp2_with fail
  refine (refTruth_any _ _).mono ?_
  rintro _ w3 ⟨⟨q1, d1, rfl, hz⟩, hbb⟩
  clear g0 g1 k0 k1 c0 c1 c2 c3 m0 m1 m2 m3 r0 r1 f0 f1
  have hb_3 := qbt hb_2 hbb
  have hg_3 := hg_2.up hbb
  have hk_3 := hk_2.up hbb
  have hv_3 := hv_2.up hbb
  have hu_3 := hu_2.up hbb
  have hR_3 := hR_2.up hbb
  clear hbb hb_2 hg_2 hk_2 hv_2 hu_2 hR_2
  have hz_3 := hz
  clear hz
  obtain ⟨g0, g1⟩ := hg_3.cells
  obtain ⟨k0, k1⟩ := hk_3.cells
  obtain ⟨c0, c1, c2, c3⟩ := hv_3.cells
  obtain ⟨m0, m1, m2, m3⟩ := hu_3.cells
  obtain ⟨r0, r1, f0, f1⟩ := hR_3.cells
  go_wp2_with fail
  refine (refGood_any _ q1 1 d1).mono ?_
  rintro _ w4 ⟨rfl, hbb⟩
  clear g0 g1 k0 k1 c0 c1 c2 c3 m0 m1 m2 m3 r0 r1 f0 f1
  have hb_4 := qbt hb_3 hbb
  have hg_4 := hg_3.up hbb
  have hk_4 := hk_3.up hbb
  have hv_4 := hv_3.up hbb
  have hu_4 := hu_3.up hbb
  have hR_4 := hR_3.up hbb
  have hz_4 := hz_3.up hbb
  clear hbb hb_3 hg_3 hk_3 hv_3 hu_3 hR_3 hz_3
  obtain ⟨g0, g1⟩ := hg_4.cells
  obtain ⟨k0, k1⟩ := hk_4.cells
  obtain ⟨c0, c1, c2, c3⟩ := hv_4.cells
  obtain ⟨m0, m1, m2, m3⟩ := hu_4.cells
  obtain ⟨r0, r1, f0, f1⟩ := hR_4.cells
  go_wp2
  exact bodyPost_ret (v := .agg #[.slice q1 1 d1, .int .i64 0]) (by simp [results, Tryz.results73, go_sem, (hR_4.told _ _).1, (hR_4.told _ _).2]) rfl (hR_4.ret (by omega) hb_4 (⟨q1, d1, rfl, hz_4⟩))

set_option maxHeartbeats 1000000 in
theorem ref_sets_all (h : VArg w a n q c) (g : VArg w v m p d) (a5 : opV a = 5) (v5 : opV v = 5) :
    Calls Tryz.prog 73 #[.int .i64 26, .agg #[.slice q n c, .int .i64 0], .agg #[.slice p m d, .int .i64 0]] w fun e w' => GRet (.ok (tN (allB (setR a) (setR v)))) e w' ∧ Below w.heap.size w w' := by
  obtain ⟨y, r, b, off, rfl, rfl, hbb0, _, _, _, _, _, hn1⟩ := h.head
  obtain ⟨z, t, b2, off2, rfl, rfl, hbb2, _, _, _, _, _, hn2⟩ := g.head
  have i0 : (0 : Int) < (n : Int) := by omega
  have i9 : (0 : Int) < (m : Int) := by omega
  obtain ⟨W, hW⟩ : ∃ W, W = ((w.alloc (.cells #[.slice (some ⟨b, off, none⟩) n c, .int .i64 0] 30)).alloc (.cells #[.slice (some ⟨b2, off2, none⟩) m d, .int .i64 0] 30)).alloc (.cells #[.slice none 0 0, .int .i64 0] 30) := ⟨_, rfl⟩
  have hb_0 : Below w.heap.size w W := by rw [hW]; exact (((Below.refl _ _).alloc (Nat.le_refl _) _).alloc (by simp) _).alloc (by simp; omega) _
  have hg_0 : GB W w.heap.size (some ⟨b, off, none⟩) n c := by rw [hW]; exact ((GB.new w _ _ _ rfl).up ((Below.refl _ _).alloc (Nat.le_refl _) _)).up ((Below.refl _ _).alloc (Nat.le_refl _) _)
  have hk_0 : GB W (w.heap.size + 1) (some ⟨b2, off2, none⟩) m d := by rw [hW]; exact (GB.new _ _ _ _ (by simp)).up ((Below.refl _ _).alloc (Nat.le_refl _) _)
  have hR_0 : GR W (w.heap.size + 1 + 1) := by rw [hW]; exact GR.new _ (by simp)
  have hv_0 := h.up hb_0
  have hu_0 := g.up hb_0
  have HIA := fun w1 h1 => refIs_any w1 (y :: r) n (some ⟨b, off, none⟩) c 5 h1
  rw [show (opV (y :: r) == 5) = true by simpa using a5] at HIA
  have HIB := fun w1 h1 => refIs_any w1 (z :: t) m (some ⟨b2, off2, none⟩) d 5 h1
  rw [show (opV (z :: t) == 5) = true by simpa using v5] at HIB
  obtain ⟨hS, hE⟩ := setR_spec h.is.val a5
  obtain ⟨hS2, hE2⟩ := setR_spec g.is.val v5
  have HCH := fun w1 (h1 : VArg w1 (y :: r) n (some ⟨b, off, none⟩) c) (h2 : VArg w1 (z :: t) m (some ⟨b2, off2, none⟩) d) => chosen_arg hS hE hS2 hE2 h1 h2
  have hzn : z.n = ((setR (z :: t)).length : Int) := by have := congrArg nV hE2; exact this
  have HB : ((((setR (z :: t)).filter fun x => inB (setR (y :: r)) x).length : Int) == ((setR (z :: t)).length : Int)) = allB (setR (y :: r)) (setR (z :: t)) := all_count _ _
  rw [← HB]
  clear HB
  clear a5 v5 h g hE hS hE2 hS2
  generalize ((setR (z :: t)).filter fun x => inB (setR (y :: r)) x).length = K at *
  rw [← hzn]
  clear hzn
  go_enter Tryz.func73, Tryz.ntmps73
  obtain ⟨g0, g1⟩ := hg_0.cells
  obtain ⟨k0, k1⟩ := hk_0.cells
  obtain ⟨c0, c1, c2, c3⟩ := hv_0.cells
  obtain ⟨m0, m1, m2, m3⟩ := hu_0.cells
  obtain ⟨r0, r1, f0, f1⟩ := hR_0.cells
  go_wp2_with fail
  rw [← hW]
  refine (HIA _ hv_0).mono ?_
  rintro _ w1 ⟨rfl, hbb⟩
  clear g0 g1 k0 k1 c0 c1 c2 c3 m0 m1 m2 m3 r0 r1 f0 f1
  have hb_1 := qbt hb_0 hbb
  have hg_1 := hg_0.up hbb
  have hk_1 := hk_0.up hbb
  have hv_1 := hv_0.up hbb
  have hu_1 := hu_0.up hbb
  have hR_1 := hR_0.up hbb
  clear hbb hb_0 hg_0 hk_0 hv_0 hu_0 hR_0
  obtain ⟨g0, g1⟩ := hg_1.cells
  obtain ⟨k0, k1⟩ := hk_1.cells
  obtain ⟨c0, c1, c2, c3⟩ := hv_1.cells
  obtain ⟨m0, m1, m2, m3⟩ := hu_1.cells
  obtain ⟨r0, r1, f0, f1⟩ := hR_1.cells
  go_wp2_with fail
  refine (HIB _ hu_1).mono ?_
  rintro _ w2 ⟨rfl, hbb⟩
  clear g0 g1 k0 k1 c0 c1 c2 c3 m0 m1 m2 m3 r0 r1 f0 f1
  have hb_2 := qbt hb_1 hbb
  have hg_2 := hg_1.up hbb
  have hk_2 := hk_1.up hbb
  have hv_2 := hv_1.up hbb
  have hu_2 := hu_1.up hbb
  have hR_2 := hR_1.up hbb
  clear hbb hb_1 hg_1 hk_1 hv_1 hu_1 hR_1
  obtain ⟨g0, g1⟩ := hg_2.cells
  obtain ⟨k0, k1⟩ := hk_2.cells
  obtain ⟨c0, c1, c2, c3⟩ := hv_2.cells
  obtain ⟨m0, m1, m2, m3⟩ := hu_2.cells
  obtain ⟨r0, r1, f0, f1⟩ := hR_2.cells
  go_wp2_with fail
  refine (HCH _ hv_2 hu_2).mono ?_
  rintro _ w3 ⟨⟨qc, dc, rfl⟩, hbb⟩
  clear g0 g1 k0 k1 c0 c1 c2 c3 m0 m1 m2 m3 r0 r1 f0 f1
  have hb_3 := qbt hb_2 hbb
  have hg_3 := hg_2.up hbb
  have hk_3 := hk_2.up hbb
  have hv_3 := hv_2.up hbb
  have hu_3 := hu_2.up hbb
  have hR_3 := hR_2.up hbb
  clear hbb hb_2 hg_2 hk_2 hv_2 hu_2 hR_2
  obtain ⟨g0, g1⟩ := hg_3.cells
  obtain ⟨k0, k1⟩ := hk_3.cells
  obtain ⟨c0, c1, c2, c3⟩ := hv_3.cells
  obtain ⟨m0, m1, m2, m3⟩ := hu_3.cells
  obtain ⟨r0, r1, f0, f1⟩ := hR_3.cells
  go_wp2_with fail
  refine (refTruth_any _ _).mono ?_
  rintro _ w4 ⟨⟨q1, d1, rfl, hz⟩, hbb⟩
  clear g0 g1 k0 k1 c0 c1 c2 c3 m0 m1 m2 m3 r0 r1 f0 f1
  have hb_4 := qbt hb_3 hbb
  have hg_4 := hg_3.up hbb
  have hk_4 := hk_3.up hbb
  have hv_4 := hv_3.up hbb
  have hu_4 := hu_3.up hbb
  have hR_4 := hR_3.up hbb
  clear hbb hb_3 hg_3 hk_3 hv_3 hu_3 hR_3
  have hz_4 := hz
  clear hz
  obtain ⟨g0, g1⟩ := hg_4.cells
  obtain ⟨k0, k1⟩ := hk_4.cells
  obtain ⟨c0, c1, c2, c3⟩ := hv_4.cells
  obtain ⟨m0, m1, m2, m3⟩ := hu_4.cells
  obtain ⟨r0, r1, f0, f1⟩ := hR_4.cells
  go_wp2_with fail
  refine (refGood_any _ q1 1 d1).mono ?_
  rintro _ w5 ⟨rfl, hbb⟩
  clear g0 g1 k0 k1 c0 c1 c2 c3 m0 m1 m2 m3 r0 r1 f0 f1
  have hb_5 := qbt hb_4 hbb
  have hg_5 := hg_4.up hbb
  have hk_5 := hk_4.up hbb
  have hv_5 := hv_4.up hbb
  have hu_5 := hu_4.up hbb
  have hR_5 := hR_4.up hbb
  have hz_5 := hz_4.up hbb
  clear hbb hb_4 hg_4 hk_4 hv_4 hu_4 hR_4 hz_4
  obtain ⟨g0, g1⟩ := hg_5.cells
  obtain ⟨k0, k1⟩ := hk_5.cells
  obtain ⟨c0, c1, c2, c3⟩ := hv_5.cells
  obtain ⟨m0, m1, m2, m3⟩ := hu_5.cells
  obtain ⟨r0, r1, f0, f1⟩ := hR_5.cells
  go_wp2
  exact bodyPost_ret (v := .agg #[.slice q1 1 d1, .int .i64 0]) (by simp [results, Tryz.results73, go_sem, (hR_5.told _ _).1, (hR_5.told _ _).2]) rfl (hR_5.ret (by omega) hb_5 (⟨q1, d1, rfl, hz_5⟩))

set_option maxHeartbeats 1000000 in
theorem ref_sets_any (h : VArg w a n q c) (g : VArg w v m p d) (a5 : opV a = 5) (v5 : opV v = 5) :
    Calls Tryz.prog 73 #[.int .i64 27, .agg #[.slice q n c, .int .i64 0], .agg #[.slice p m d, .int .i64 0]] w fun e w' => GRet (.ok (tN (anyB (setR a) (setR v)))) e w' ∧ Below w.heap.size w w' := by
  obtain ⟨y, r, b, off, rfl, rfl, hbb0, _, _, _, _, _, hn1⟩ := h.head
  obtain ⟨z, t, b2, off2, rfl, rfl, hbb2, _, _, _, _, _, hn2⟩ := g.head
  have i0 : (0 : Int) < (n : Int) := by omega
  have i9 : (0 : Int) < (m : Int) := by omega
  obtain ⟨W, hW⟩ : ∃ W, W = ((w.alloc (.cells #[.slice (some ⟨b, off, none⟩) n c, .int .i64 0] 30)).alloc (.cells #[.slice (some ⟨b2, off2, none⟩) m d, .int .i64 0] 30)).alloc (.cells #[.slice none 0 0, .int .i64 0] 30) := ⟨_, rfl⟩
  have hb_0 : Below w.heap.size w W := by rw [hW]; exact (((Below.refl _ _).alloc (Nat.le_refl _) _).alloc (by simp) _).alloc (by simp; omega) _
  have hg_0 : GB W w.heap.size (some ⟨b, off, none⟩) n c := by rw [hW]; exact ((GB.new w _ _ _ rfl).up ((Below.refl _ _).alloc (Nat.le_refl _) _)).up ((Below.refl _ _).alloc (Nat.le_refl _) _)
  have hk_0 : GB W (w.heap.size + 1) (some ⟨b2, off2, none⟩) m d := by rw [hW]; exact (GB.new _ _ _ _ (by simp)).up ((Below.refl _ _).alloc (Nat.le_refl _) _)
  have hR_0 : GR W (w.heap.size + 1 + 1) := by rw [hW]; exact GR.new _ (by simp)
  have hv_0 := h.up hb_0
  have hu_0 := g.up hb_0
  have HIA := fun w1 h1 => refIs_any w1 (y :: r) n (some ⟨b, off, none⟩) c 5 h1
  rw [show (opV (y :: r) == 5) = true by simpa using a5] at HIA
  have HIB := fun w1 h1 => refIs_any w1 (z :: t) m (some ⟨b2, off2, none⟩) d 5 h1
  rw [show (opV (z :: t) == 5) = true by simpa using v5] at HIB
  obtain ⟨hS, hE⟩ := setR_spec h.is.val a5
  obtain ⟨hS2, hE2⟩ := setR_spec g.is.val v5
  have HCH := fun w1 (h1 : VArg w1 (y :: r) n (some ⟨b, off, none⟩) c) (h2 : VArg w1 (z :: t) m (some ⟨b2, off2, none⟩) d) => chosen_arg hS hE hS2 hE2 h1 h2
  have HB : decide (0 < ((setR (z :: t)).filter fun x => inB (setR (y :: r)) x).length) = anyB (setR (y :: r)) (setR (z :: t)) := any_count _ _
  rw [← HB]
  clear HB
  clear a5 v5 h g hE hS hE2 hS2
  generalize ((setR (z :: t)).filter fun x => inB (setR (y :: r)) x).length = K at *
  go_enter Tryz.func73, Tryz.ntmps73
  obtain ⟨g0, g1⟩ := hg_0.cells
  obtain ⟨k0, k1⟩ := hk_0.cells
  obtain ⟨c0, c1, c2, c3⟩ := hv_0.cells
  obtain ⟨m0, m1, m2, m3⟩ := hu_0.cells
  obtain ⟨r0, r1, f0, f1⟩ := hR_0.cells
  go_wp2_with fail
  rw [← hW]
  refine (HIA _ hv_0).mono ?_
  rintro _ w1 ⟨rfl, hbb⟩
  clear g0 g1 k0 k1 c0 c1 c2 c3 m0 m1 m2 m3 r0 r1 f0 f1
  have hb_1 := qbt hb_0 hbb
  have hg_1 := hg_0.up hbb
  have hk_1 := hk_0.up hbb
  have hv_1 := hv_0.up hbb
  have hu_1 := hu_0.up hbb
  have hR_1 := hR_0.up hbb
  clear hbb hb_0 hg_0 hk_0 hv_0 hu_0 hR_0
  obtain ⟨g0, g1⟩ := hg_1.cells
  obtain ⟨k0, k1⟩ := hk_1.cells
  obtain ⟨c0, c1, c2, c3⟩ := hv_1.cells
  obtain ⟨m0, m1, m2, m3⟩ := hu_1.cells
  obtain ⟨r0, r1, f0, f1⟩ := hR_1.cells
  go_wp2_with fail
  refine (HIB _ hu_1).mono ?_
  rintro _ w2 ⟨rfl, hbb⟩
  clear g0 g1 k0 k1 c0 c1 c2 c3 m0 m1 m2 m3 r0 r1 f0 f1
  have hb_2 := qbt hb_1 hbb
  have hg_2 := hg_1.up hbb
  have hk_2 := hk_1.up hbb
  have hv_2 := hv_1.up hbb
  have hu_2 := hu_1.up hbb
  have hR_2 := hR_1.up hbb
  clear hbb hb_1 hg_1 hk_1 hv_1 hu_1 hR_1
  obtain ⟨g0, g1⟩ := hg_2.cells
  obtain ⟨k0, k1⟩ := hk_2.cells
  obtain ⟨c0, c1, c2, c3⟩ := hv_2.cells
  obtain ⟨m0, m1, m2, m3⟩ := hu_2.cells
  obtain ⟨r0, r1, f0, f1⟩ := hR_2.cells
  go_wp2_with fail
  refine (HCH _ hv_2 hu_2).mono ?_
  rintro _ w3 ⟨⟨qc, dc, rfl⟩, hbb⟩
  clear g0 g1 k0 k1 c0 c1 c2 c3 m0 m1 m2 m3 r0 r1 f0 f1
  have hb_3 := qbt hb_2 hbb
  have hg_3 := hg_2.up hbb
  have hk_3 := hk_2.up hbb
  have hv_3 := hv_2.up hbb
  have hu_3 := hu_2.up hbb
  have hR_3 := hR_2.up hbb
  clear hbb hb_2 hg_2 hk_2 hv_2 hu_2 hR_2
  obtain ⟨g0, g1⟩ := hg_3.cells
  obtain ⟨k0, k1⟩ := hk_3.cells
  obtain ⟨c0, c1, c2, c3⟩ := hv_3.cells
  obtain ⟨m0, m1, m2, m3⟩ := hu_3.cells
  obtain ⟨r0, r1, f0, f1⟩ := hR_3.cells
  go_wp2_with fail
  refine (refTruth_any _ _).mono ?_
  rintro _ w4 ⟨⟨q1, d1, rfl, hz⟩, hbb⟩
  clear g0 g1 k0 k1 c0 c1 c2 c3 m0 m1 m2 m3 r0 r1 f0 f1
  have hb_4 := qbt hb_3 hbb
  have hg_4 := hg_3.up hbb
  have hk_4 := hk_3.up hbb
  have hv_4 := hv_3.up hbb
  have hu_4 := hu_3.up hbb
  have hR_4 := hR_3.up hbb
  clear hbb hb_3 hg_3 hk_3 hv_3 hu_3 hR_3
  have hz_4 := hz
  clear hz
  obtain ⟨g0, g1⟩ := hg_4.cells
  obtain ⟨k0, k1⟩ := hk_4.cells
  obtain ⟨c0, c1, c2, c3⟩ := hv_4.cells
  obtain ⟨m0, m1, m2, m3⟩ := hu_4.cells
  obtain ⟨r0, r1, f0, f1⟩ := hR_4.cells
  go_wp2_with fail
  refine (refGood_any _ q1 1 d1).mono ?_
  rintro _ w5 ⟨rfl, hbb⟩
  clear g0 g1 k0 k1 c0 c1 c2 c3 m0 m1 m2 m3 r0 r1 f0 f1
  have hb_5 := qbt hb_4 hbb
  have hg_5 := hg_4.up hbb
  have hk_5 := hk_4.up hbb
  have hv_5 := hv_4.up hbb
  have hu_5 := hu_4.up hbb
  have hR_5 := hR_4.up hbb
  have hz_5 := hz_4.up hbb
  clear hbb hb_4 hg_4 hk_4 hv_4 hu_4 hR_4 hz_4
  obtain ⟨g0, g1⟩ := hg_5.cells
  obtain ⟨k0, k1⟩ := hk_5.cells
  obtain ⟨c0, c1, c2, c3⟩ := hv_5.cells
  obtain ⟨m0, m1, m2, m3⟩ := hu_5.cells
  obtain ⟨r0, r1, f0, f1⟩ := hR_5.cells
  go_wp2
  exact bodyPost_ret (v := .agg #[.slice q1 1 d1, .int .i64 0]) (by simp [results, Tryz.results73, go_sem, (hR_5.told _ _).1, (hR_5.told _ _).2]) rfl (hR_5.ret (by omega) hb_5 (⟨q1, d1, rfl, hz_5⟩))

set_option maxHeartbeats 1000000 in
theorem ref_two_eq_yes (h : VArg w a n q c) (g : VArg w v m p d) (hl : EL w ps es) (heq : lsC a v = 0) :
    Calls Tryz.prog 46 #[.slice ps es.length cs, .int .i64 14, .agg #[.slice q n c, .int .i64 0], .agg #[.slice p m d, .int .i64 0]] w fun e w' => GRet (.ok (tN (decide (lsC a v = 0)))) e w' ∧ Below w.heap.size w w' := by
  obtain ⟨y, r, b, off, rfl, rfl, hbb0, _, _, _, _, _, hn1⟩ := h.head
  obtain ⟨z, t, b2, off2, rfl, rfl, hbb2, _, _, _, _, _, hn2⟩ := g.head
  have i0 : (0 : Int) < (n : Int) := by omega
  have i9 : (0 : Int) < (m : Int) := by omega
  obtain ⟨W, hW⟩ : ∃ W, W = ((w.alloc (.cells #[.slice (some ⟨b, off, none⟩) n c, .int .i64 0] 30)).alloc (.cells #[.slice (some ⟨b2, off2, none⟩) m d, .int .i64 0] 30)).alloc (.cells #[.slice none 0 0, .int .i64 0] 30) := ⟨_, rfl⟩
  have hb_0 : Below w.heap.size w W := by rw [hW]; exact (((Below.refl _ _).alloc (Nat.le_refl _) _).alloc (by simp) _).alloc (by simp; omega) _
  have hg_0 : GB W w.heap.size (some ⟨b, off, none⟩) n c := by rw [hW]; exact ((GB.new w _ _ _ rfl).up ((Below.refl _ _).alloc (Nat.le_refl _) _)).up ((Below.refl _ _).alloc (Nat.le_refl _) _)
  have hk_0 : GB W (w.heap.size + 1) (some ⟨b2, off2, none⟩) m d := by rw [hW]; exact (GB.new _ _ _ _ (by simp)).up ((Below.refl _ _).alloc (Nat.le_refl _) _)
  have hR_0 : GR W (w.heap.size + 1 + 1) := by rw [hW]; exact GR.new _ (by simp)
  have hv_0 := h.up hb_0
  have hu_0 := g.up hb_0
  have he_0 := hl.up hb_0
  have HND := fun w1 (h1 : VArg w1 (y :: r) n (some ⟨b, off, none⟩) c) (h2 : VArg w1 (z :: t) m (some ⟨b2, off2, none⟩) d) => nodes_arg h1 h2
  rw [heq] at HND
  rw [decide_eq_true heq]
  clear h g hl heq
  go_enter Tryz.func46, Tryz.ntmps46
  obtain ⟨g0, g1⟩ := hg_0.cells
  obtain ⟨k0, k1⟩ := hk_0.cells
  obtain ⟨c0, c1, c2, c3⟩ := hv_0.cells
  obtain ⟨m0, m1, m2, m3⟩ := hu_0.cells
  obtain ⟨r0, r1, f0, f1⟩ := hR_0.cells
  go_wp2_with fail
  rw [← hW]
  refine (HND _ hv_0 hu_0).mono ?_
  rintro _ w1 ⟨rfl, hbb⟩
  clear g0 g1 k0 k1 c0 c1 c2 c3 m0 m1 m2 m3 r0 r1 f0 f1
  have hb_1 := qbt hb_0 hbb
  have hg_1 := hg_0.up hbb
  have hk_1 := hk_0.up hbb
  have hv_1 := hv_0.up hbb
  have hu_1 := hu_0.up hbb
  have hR_1 := hR_0.up hbb
  have he_1 := he_0.up hbb
  clear hbb hb_0 hg_0 hk_0 hv_0 hu_0 hR_0 he_0
  obtain ⟨g0, g1⟩ := hg_1.cells
  obtain ⟨k0, k1⟩ := hk_1.cells
  obtain ⟨c0, c1, c2, c3⟩ := hv_1.cells
  obtain ⟨m0, m1, m2, m3⟩ := hu_1.cells
  obtain ⟨r0, r1, f0, f1⟩ := hR_1.cells
  go_wp2_with fail
  refine (refTruth_any _ _).mono ?_
  rintro _ w2 ⟨⟨q1, d1, rfl, hz⟩, hbb⟩
  clear g0 g1 k0 k1 c0 c1 c2 c3 m0 m1 m2 m3 r0 r1 f0 f1
  have hb_2 := qbt hb_1 hbb
  have hg_2 := hg_1.up hbb
  have hk_2 := hk_1.up hbb
  have hv_2 := hv_1.up hbb
  have hu_2 := hu_1.up hbb
  have hR_2 := hR_1.up hbb
  have he_2 := he_1.up hbb
  clear hbb hb_1 hg_1 hk_1 hv_1 hu_1 hR_1 he_1
  have hz_2 := hz
  clear hz
  obtain ⟨g0, g1⟩ := hg_2.cells
  obtain ⟨k0, k1⟩ := hk_2.cells
  obtain ⟨c0, c1, c2, c3⟩ := hv_2.cells
  obtain ⟨m0, m1, m2, m3⟩ := hu_2.cells
  obtain ⟨r0, r1, f0, f1⟩ := hR_2.cells
  go_wp2_with fail
  refine (refGood_any _ q1 1 d1).mono ?_
  rintro _ w3 ⟨rfl, hbb⟩
  clear g0 g1 k0 k1 c0 c1 c2 c3 m0 m1 m2 m3 r0 r1 f0 f1
  have hb_3 := qbt hb_2 hbb
  have hg_3 := hg_2.up hbb
  have hk_3 := hk_2.up hbb
  have hv_3 := hv_2.up hbb
  have hu_3 := hu_2.up hbb
  have hR_3 := hR_2.up hbb
  have he_3 := he_2.up hbb
  have hz_3 := hz_2.up hbb
  clear hbb hb_2 hg_2 hk_2 hv_2 hu_2 hR_2 he_2 hz_2
  obtain ⟨g0, g1⟩ := hg_3.cells
  obtain ⟨k0, k1⟩ := hk_3.cells
  obtain ⟨c0, c1, c2, c3⟩ := hv_3.cells
  obtain ⟨m0, m1, m2, m3⟩ := hu_3.cells
  obtain ⟨r0, r1, f0, f1⟩ := hR_3.cells
  go_wp2
  exact bodyPost_ret (v := .agg #[.slice q1 1 d1, .int .i64 0]) (by simp [results, Tryz.results46, go_sem, (hR_3.told _ _).1, (hR_3.told _ _).2]) rfl (hR_3.ret (by omega) hb_3 (⟨q1, d1, rfl, hz_3⟩))

set_option maxHeartbeats 1000000 in
theorem ref_two_eq_no (h : VArg w a n q c) (g : VArg w v m p d) (hl : EL w ps es) (heq : lsC a v ≠ 0) :
    Calls Tryz.prog 46 #[.slice ps es.length cs, .int .i64 14, .agg #[.slice q n c, .int .i64 0], .agg #[.slice p m d, .int .i64 0]] w fun e w' => GRet (.ok (tN (decide (lsC a v = 0)))) e w' ∧ Below w.heap.size w w' := by
  obtain ⟨y, r, b, off, rfl, rfl, hbb0, _, _, _, _, _, hn1⟩ := h.head
  obtain ⟨z, t, b2, off2, rfl, rfl, hbb2, _, _, _, _, _, hn2⟩ := g.head
  have i0 : (0 : Int) < (n : Int) := by omega
  have i9 : (0 : Int) < (m : Int) := by omega
  obtain ⟨W, hW⟩ : ∃ W, W = ((w.alloc (.cells #[.slice (some ⟨b, off, none⟩) n c, .int .i64 0] 30)).alloc (.cells #[.slice (some ⟨b2, off2, none⟩) m d, .int .i64 0] 30)).alloc (.cells #[.slice none 0 0, .int .i64 0] 30) := ⟨_, rfl⟩
  have hb_0 : Below w.heap.size w W := by rw [hW]; exact (((Below.refl _ _).alloc (Nat.le_refl _) _).alloc (by simp) _).alloc (by simp; omega) _
  have hg_0 : GB W w.heap.size (some ⟨b, off, none⟩) n c := by rw [hW]; exact ((GB.new w _ _ _ rfl).up ((Below.refl _ _).alloc (Nat.le_refl _) _)).up ((Below.refl _ _).alloc (Nat.le_refl _) _)
  have hk_0 : GB W (w.heap.size + 1) (some ⟨b2, off2, none⟩) m d := by rw [hW]; exact (GB.new _ _ _ _ (by simp)).up ((Below.refl _ _).alloc (Nat.le_refl _) _)
  have hR_0 : GR W (w.heap.size + 1 + 1) := by rw [hW]; exact GR.new _ (by simp)
  have hv_0 := h.up hb_0
  have hu_0 := g.up hb_0
  have he_0 := hl.up hb_0
  have HND := fun w1 (h1 : VArg w1 (y :: r) n (some ⟨b, off, none⟩) c) (h2 : VArg w1 (z :: t) m (some ⟨b2, off2, none⟩) d) => nodes_arg h1 h2
  rw [decide_eq_false heq]
  have e0 : (lsC (y :: r) (z :: t) == 0) = false := by simpa using heq
  generalize lsC (y :: r) (z :: t) = N at *
  clear h g hl heq
  go_enter Tryz.func46, Tryz.ntmps46
  obtain ⟨g0, g1⟩ := hg_0.cells
  obtain ⟨k0, k1⟩ := hk_0.cells
  obtain ⟨c0, c1, c2, c3⟩ := hv_0.cells
  obtain ⟨m0, m1, m2, m3⟩ := hu_0.cells
  obtain ⟨r0, r1, f0, f1⟩ := hR_0.cells
  go_wp2_with fail
  rw [← hW]
  refine (HND _ hv_0 hu_0).mono ?_
  rintro _ w1 ⟨rfl, hbb⟩
  clear g0 g1 k0 k1 c0 c1 c2 c3 m0 m1 m2 m3 r0 r1 f0 f1
  have hb_1 := qbt hb_0 hbb
  have hg_1 := hg_0.up hbb
  have hk_1 := hk_0.up hbb
  have hv_1 := hv_0.up hbb
  have hu_1 := hu_0.up hbb
  have hR_1 := hR_0.up hbb
  have he_1 := he_0.up hbb
  clear hbb hb_0 hg_0 hk_0 hv_0 hu_0 hR_0 he_0
  obtain ⟨g0, g1⟩ := hg_1.cells
  obtain ⟨k0, k1⟩ := hk_1.cells
  obtain ⟨c0, c1, c2, c3⟩ := hv_1.cells
  obtain ⟨m0, m1, m2, m3⟩ := hu_1.cells
  obtain ⟨r0, r1, f0, f1⟩ := hR_1.cells
  go_wp2_with fail
  refine (refTruth_any _ _).mono ?_
  rintro _ w2 ⟨⟨q1, d1, rfl, hz⟩, hbb⟩
  clear g0 g1 k0 k1 c0 c1 c2 c3 m0 m1 m2 m3 r0 r1 f0 f1
  have hb_2 := qbt hb_1 hbb
  have hg_2 := hg_1.up hbb
  have hk_2 := hk_1.up hbb
  have hv_2 := hv_1.up hbb
  have hu_2 := hu_1.up hbb
  have hR_2 := hR_1.up hbb
  have he_2 := he_1.up hbb
  clear hbb hb_1 hg_1 hk_1 hv_1 hu_1 hR_1 he_1
  have hz_2 := hz
  clear hz
  obtain ⟨g0, g1⟩ := hg_2.cells
  obtain ⟨k0, k1⟩ := hk_2.cells
  obtain ⟨c0, c1, c2, c3⟩ := hv_2.cells
  obtain ⟨m0, m1, m2, m3⟩ := hu_2.cells
  obtain ⟨r0, r1, f0, f1⟩ := hR_2.cells
  go_wp2_with fail
  refine (refGood_any _ q1 1 d1).mono ?_
  rintro _ w3 ⟨rfl, hbb⟩
  clear g0 g1 k0 k1 c0 c1 c2 c3 m0 m1 m2 m3 r0 r1 f0 f1
  have hb_3 := qbt hb_2 hbb
  have hg_3 := hg_2.up hbb
  have hk_3 := hk_2.up hbb
  have hv_3 := hv_2.up hbb
  have hu_3 := hu_2.up hbb
  have hR_3 := hR_2.up hbb
  have he_3 := he_2.up hbb
  have hz_3 := hz_2.up hbb
  clear hbb hb_2 hg_2 hk_2 hv_2 hu_2 hR_2 he_2 hz_2
  obtain ⟨g0, g1⟩ := hg_3.cells
  obtain ⟨k0, k1⟩ := hk_3.cells
  obtain ⟨c0, c1, c2, c3⟩ := hv_3.cells
  obtain ⟨m0, m1, m2, m3⟩ := hu_3.cells
  obtain ⟨r0, r1, f0, f1⟩ := hR_3.cells
  go_wp2
  exact bodyPost_ret (v := .agg #[.slice q1 1 d1, .int .i64 0]) (by simp [results, Tryz.results46, go_sem, (hR_3.told _ _).1, (hR_3.told _ _).2]) rfl (hR_3.ret (by omega) hb_3 (⟨q1, d1, rfl, hz_3⟩))

set_option maxHeartbeats 1000000 in
theorem ref_two_sets25 (h : VArg w a n q c) (g : VArg w v m p d) (hl : EL w ps es) (R : Except Int (List Nd)) (HS : ∀ w1, VArg w1 a n q c → VArg w1 v m p d → Calls Tryz.prog 73 #[.int .i64 25, .agg #[.slice q n c, .int .i64 0], .agg #[.slice p m d, .int .i64 0]] w1 fun e w' => GRet R e w' ∧ Below w1.heap.size w1 w') :
    Calls Tryz.prog 46 #[.slice ps es.length cs, .int .i64 25, .agg #[.slice q n c, .int .i64 0], .agg #[.slice p m d, .int .i64 0]] w fun e w' => GRet (R) e w' ∧ Below w.heap.size w w' := by
  obtain ⟨y, r, b, off, rfl, rfl, hbb0, _, _, _, _, _, hn1⟩ := h.head
  obtain ⟨z, t, b2, off2, rfl, rfl, hbb2, _, _, _, _, _, hn2⟩ := g.head
  have i0 : (0 : Int) < (n : Int) := by omega
  have i9 : (0 : Int) < (m : Int) := by omega
  obtain ⟨W, hW⟩ : ∃ W, W = ((w.alloc (.cells #[.slice (some ⟨b, off, none⟩) n c, .int .i64 0] 30)).alloc (.cells #[.slice (some ⟨b2, off2, none⟩) m d, .int .i64 0] 30)).alloc (.cells #[.slice none 0 0, .int .i64 0] 30) := ⟨_, rfl⟩
  have hb_0 : Below w.heap.size w W := by rw [hW]; exact (((Below.refl _ _).alloc (Nat.le_refl _) _).alloc (by simp) _).alloc (by simp; omega) _
  have hg_0 : GB W w.heap.size (some ⟨b, off, none⟩) n c := by rw [hW]; exact ((GB.new w _ _ _ rfl).up ((Below.refl _ _).alloc (Nat.le_refl _) _)).up ((Below.refl _ _).alloc (Nat.le_refl _) _)
  have hk_0 : GB W (w.heap.size + 1) (some ⟨b2, off2, none⟩) m d := by rw [hW]; exact (GB.new _ _ _ _ (by simp)).up ((Below.refl _ _).alloc (Nat.le_refl _) _)
  have hR_0 : GR W (w.heap.size + 1 + 1) := by rw [hW]; exact GR.new _ (by simp)
  have hv_0 := h.up hb_0
  have hu_0 := g.up hb_0
  have he_0 := hl.up hb_0
  clear hl
  go_enter Tryz.func46, Tryz.ntmps46
  obtain ⟨g0, g1⟩ := hg_0.cells
  obtain ⟨k0, k1⟩ := hk_0.cells
  obtain ⟨c0, c1, c2, c3⟩ := hv_0.cells
  obtain ⟨m0, m1, m2, m3⟩ := hu_0.cells
  obtain ⟨r0, r1, f0, f1⟩ := hR_0.cells
  go_wp2_with fail
  rw [← hW]
  refine (HS _ hv_0 hu_0).mono ?_
  rintro _ w1 ⟨hG, hbb⟩
  clear g0 g1 k0 k1 c0 c1 c2 c3 m0 m1 m2 m3 r0 r1 f0 f1
  have hb_1 := qbt hb_0 hbb
  have hg_1 := hg_0.up hbb
  have hk_1 := hk_0.up hbb
  have hv_1 := hv_0.up hbb
  have hu_1 := hu_0.up hbb
  have hR_1 := hR_0.up hbb
  clear hbb hb_0 hg_0 hk_0 hv_0 hu_0 hR_0
  cases R with
  | ok x =>
    obtain ⟨qz, cz, rfl, hz⟩ := hG
    obtain ⟨g0, g1⟩ := hg_1.cells
    obtain ⟨k0, k1⟩ := hk_1.cells
    obtain ⟨c0, c1, c2, c3⟩ := hv_1.cells
    obtain ⟨m0, m1, m2, m3⟩ := hu_1.cells
    obtain ⟨r0, r1, f0, f1⟩ := hR_1.cells
    go_wp2
    exact bodyPost_ret (v := .agg #[.slice qz x.length cz, .int .i64 0]) (by simp [results, Tryz.results46, go_sem, (hR_1.told _ _).1, (hR_1.told _ _).2]) rfl (hR_1.ret (by omega) hb_1 (⟨qz, cz, rfl, hz⟩))
  | error k =>
    have hG2 : _ = _ := hG
    subst hG2
    obtain ⟨g0, g1⟩ := hg_1.cells
    obtain ⟨k0, k1⟩ := hk_1.cells
    obtain ⟨c0, c1, c2, c3⟩ := hv_1.cells
    obtain ⟨m0, m1, m2, m3⟩ := hu_1.cells
    obtain ⟨r0, r1, f0, f1⟩ := hR_1.cells
    go_wp2
    exact bodyPost_ret (v := .agg #[.slice none 0 0, .int .i64 k]) (by simp [results, Tryz.results46, go_sem, (hR_1.told _ _).1, (hR_1.told _ _).2]) rfl (hR_1.ret (by omega) hb_1 (rfl))

set_option maxHeartbeats 1000000 in
theorem ref_two_sets26 (h : VArg w a n q c) (g : VArg w v m p d) (hl : EL w ps es) (R : Except Int (List Nd)) (HS : ∀ w1, VArg w1 a n q c → VArg w1 v m p d → Calls Tryz.prog 73 #[.int .i64 26, .agg #[.slice q n c, .int .i64 0], .agg #[.slice p m d, .int .i64 0]] w1 fun e w' => GRet R e w' ∧ Below w1.heap.size w1 w') :
    Calls Tryz.prog 46 #[.slice ps es.length cs, .int .i64 26, .agg #[.slice q n c, .int .i64 0], .agg #[.slice p m d, .int .i64 0]] w fun e w' => GRet (R) e w' ∧ Below w.heap.size w w' := by
  obtain ⟨y, r, b, off, rfl, rfl, hbb0, _, _, _, _, _, hn1⟩ := h.head
  obtain ⟨z, t, b2, off2, rfl, rfl, hbb2, _, _, _, _, _, hn2⟩ := g.head
  have i0 : (0 : Int) < (n : Int) := by omega
  have i9 : (0 : Int) < (m : Int) := by omega
  obtain ⟨W, hW⟩ : ∃ W, W = ((w.alloc (.cells #[.slice (some ⟨b, off, none⟩) n c, .int .i64 0] 30)).alloc (.cells #[.slice (some ⟨b2, off2, none⟩) m d, .int .i64 0] 30)).alloc (.cells #[.slice none 0 0, .int .i64 0] 30) := ⟨_, rfl⟩
  have hb_0 : Below w.heap.size w W := by rw [hW]; exact (((Below.refl _ _).alloc (Nat.le_refl _) _).alloc (by simp) _).alloc (by simp; omega) _
  have hg_0 : GB W w.heap.size (some ⟨b, off, none⟩) n c := by rw [hW]; exact ((GB.new w _ _ _ rfl).up ((Below.refl _ _).alloc (Nat.le_refl _) _)).up ((Below.refl _ _).alloc (Nat.le_refl _) _)
  have hk_0 : GB W (w.heap.size + 1) (some ⟨b2, off2, none⟩) m d := by rw [hW]; exact (GB.new _ _ _ _ (by simp)).up ((Below.refl _ _).alloc (Nat.le_refl _) _)
  have hR_0 : GR W (w.heap.size + 1 + 1) := by rw [hW]; exact GR.new _ (by simp)
  have hv_0 := h.up hb_0
  have hu_0 := g.up hb_0
  have he_0 := hl.up hb_0
  clear hl
  go_enter Tryz.func46, Tryz.ntmps46
  obtain ⟨g0, g1⟩ := hg_0.cells
  obtain ⟨k0, k1⟩ := hk_0.cells
  obtain ⟨c0, c1, c2, c3⟩ := hv_0.cells
  obtain ⟨m0, m1, m2, m3⟩ := hu_0.cells
  obtain ⟨r0, r1, f0, f1⟩ := hR_0.cells
  go_wp2_with fail
  rw [← hW]
  refine (HS _ hv_0 hu_0).mono ?_
  rintro _ w1 ⟨hG, hbb⟩
  clear g0 g1 k0 k1 c0 c1 c2 c3 m0 m1 m2 m3 r0 r1 f0 f1
  have hb_1 := qbt hb_0 hbb
  have hg_1 := hg_0.up hbb
  have hk_1 := hk_0.up hbb
  have hv_1 := hv_0.up hbb
  have hu_1 := hu_0.up hbb
  have hR_1 := hR_0.up hbb
  clear hbb hb_0 hg_0 hk_0 hv_0 hu_0 hR_0
  cases R with
  | ok x =>
    obtain ⟨qz, cz, rfl, hz⟩ := hG
    obtain ⟨g0, g1⟩ := hg_1.cells
    obtain ⟨k0, k1⟩ := hk_1.cells
    obtain ⟨c0, c1, c2, c3⟩ := hv_1.cells
    obtain ⟨m0, m1, m2, m3⟩ := hu_1.cells
    obtain ⟨r0, r1, f0, f1⟩ := hR_1.cells
    go_wp2
    exact bodyPost_ret (v := .agg #[.slice qz x.length cz, .int .i64 0]) (by simp [results, Tryz.results46, go_sem, (hR_1.told _ _).1, (hR_1.told _ _).2]) rfl (hR_1.ret (by omega) hb_1 (⟨qz, cz, rfl, hz⟩))
  | error k =>
    have hG2 : _ = _ := hG
    subst hG2
    obtain ⟨g0, g1⟩ := hg_1.cells
    obtain ⟨k0, k1⟩ := hk_1.cells
    obtain ⟨c0, c1, c2, c3⟩ := hv_1.cells
    obtain ⟨m0, m1, m2, m3⟩ := hu_1.cells
    obtain ⟨r0, r1, f0, f1⟩ := hR_1.cells
    go_wp2
    exact bodyPost_ret (v := .agg #[.slice none 0 0, .int .i64 k]) (by simp [results, Tryz.results46, go_sem, (hR_1.told _ _).1, (hR_1.told _ _).2]) rfl (hR_1.ret (by omega) hb_1 (rfl))

set_option maxHeartbeats 1000000 in
theorem ref_two_sets27 (h : VArg w a n q c) (g : VArg w v m p d) (hl : EL w ps es) (R : Except Int (List Nd)) (HS : ∀ w1, VArg w1 a n q c → VArg w1 v m p d → Calls Tryz.prog 73 #[.int .i64 27, .agg #[.slice q n c, .int .i64 0], .agg #[.slice p m d, .int .i64 0]] w1 fun e w' => GRet R e w' ∧ Below w1.heap.size w1 w') :
    Calls Tryz.prog 46 #[.slice ps es.length cs, .int .i64 27, .agg #[.slice q n c, .int .i64 0], .agg #[.slice p m d, .int .i64 0]] w fun e w' => GRet (R) e w' ∧ Below w.heap.size w w' := by
  obtain ⟨y, r, b, off, rfl, rfl, hbb0, _, _, _, _, _, hn1⟩ := h.head
  obtain ⟨z, t, b2, off2, rfl, rfl, hbb2, _, _, _, _, _, hn2⟩ := g.head
  have i0 : (0 : Int) < (n : Int) := by omega
  have i9 : (0 : Int) < (m : Int) := by omega
  obtain ⟨W, hW⟩ : ∃ W, W = ((w.alloc (.cells #[.slice (some ⟨b, off, none⟩) n c, .int .i64 0] 30)).alloc (.cells #[.slice (some ⟨b2, off2, none⟩) m d, .int .i64 0] 30)).alloc (.cells #[.slice none 0 0, .int .i64 0] 30) := ⟨_, rfl⟩
  have hb_0 : Below w.heap.size w W := by rw [hW]; exact (((Below.refl _ _).alloc (Nat.le_refl _) _).alloc (by simp) _).alloc (by simp; omega) _
  have hg_0 : GB W w.heap.size (some ⟨b, off, none⟩) n c := by rw [hW]; exact ((GB.new w _ _ _ rfl).up ((Below.refl _ _).alloc (Nat.le_refl _) _)).up ((Below.refl _ _).alloc (Nat.le_refl _) _)
  have hk_0 : GB W (w.heap.size + 1) (some ⟨b2, off2, none⟩) m d := by rw [hW]; exact (GB.new _ _ _ _ (by simp)).up ((Below.refl _ _).alloc (Nat.le_refl _) _)
  have hR_0 : GR W (w.heap.size + 1 + 1) := by rw [hW]; exact GR.new _ (by simp)
  have hv_0 := h.up hb_0
  have hu_0 := g.up hb_0
  have he_0 := hl.up hb_0
  clear hl
  go_enter Tryz.func46, Tryz.ntmps46
  obtain ⟨g0, g1⟩ := hg_0.cells
  obtain ⟨k0, k1⟩ := hk_0.cells
  obtain ⟨c0, c1, c2, c3⟩ := hv_0.cells
  obtain ⟨m0, m1, m2, m3⟩ := hu_0.cells
  obtain ⟨r0, r1, f0, f1⟩ := hR_0.cells
  go_wp2_with fail
  rw [← hW]
  refine (HS _ hv_0 hu_0).mono ?_
  rintro _ w1 ⟨hG, hbb⟩
  clear g0 g1 k0 k1 c0 c1 c2 c3 m0 m1 m2 m3 r0 r1 f0 f1
  have hb_1 := qbt hb_0 hbb
  have hg_1 := hg_0.up hbb
  have hk_1 := hk_0.up hbb
  have hv_1 := hv_0.up hbb
  have hu_1 := hu_0.up hbb
  have hR_1 := hR_0.up hbb
  clear hbb hb_0 hg_0 hk_0 hv_0 hu_0 hR_0
  cases R with
  | ok x =>
    obtain ⟨qz, cz, rfl, hz⟩ := hG
    obtain ⟨g0, g1⟩ := hg_1.cells
    obtain ⟨k0, k1⟩ := hk_1.cells
    obtain ⟨c0, c1, c2, c3⟩ := hv_1.cells
    obtain ⟨m0, m1, m2, m3⟩ := hu_1.cells
    obtain ⟨r0, r1, f0, f1⟩ := hR_1.cells
    go_wp2
    exact bodyPost_ret (v := .agg #[.slice qz x.length cz, .int .i64 0]) (by simp [results, Tryz.results46, go_sem, (hR_1.told _ _).1, (hR_1.told _ _).2]) rfl (hR_1.ret (by omega) hb_1 (⟨qz, cz, rfl, hz⟩))
  | error k =>
    have hG2 : _ = _ := hG
    subst hG2
    obtain ⟨g0, g1⟩ := hg_1.cells
    obtain ⟨k0, k1⟩ := hk_1.cells
    obtain ⟨c0, c1, c2, c3⟩ := hv_1.cells
    obtain ⟨m0, m1, m2, m3⟩ := hu_1.cells
    obtain ⟨r0, r1, f0, f1⟩ := hR_1.cells
    go_wp2
    exact bodyPost_ret (v := .agg #[.slice none 0 0, .int .i64 k]) (by simp [results, Tryz.results46, go_sem, (hR_1.told _ _).1, (hR_1.told _ _).2]) rfl (hR_1.ret (by omega) hb_1 (rfl))

set_option maxHeartbeats 1000000 in
theorem ref_two_in (h : VArg w a n q c) (g : VArg w v m p d) (hl : EL w ps es) (R : Except Int (List Nd)) (HS : ∀ w1, EL w1 ps es → VArg w1 a n q c → VArg w1 v m p d → Calls Tryz.prog 74 #[.slice ps es.length cs, .agg #[.slice q n c, .int .i64 0], .agg #[.slice p m d, .int .i64 0]] w1 fun e w' => GRet R e w' ∧ Below w1.heap.size w1 w') :
    Calls Tryz.prog 46 #[.slice ps es.length cs, .int .i64 20, .agg #[.slice q n c, .int .i64 0], .agg #[.slice p m d, .int .i64 0]] w fun e w' => GRet (R) e w' ∧ Below w.heap.size w w' := by
  obtain ⟨y, r, b, off, rfl, rfl, hbb0, _, _, _, _, _, hn1⟩ := h.head
  obtain ⟨z, t, b2, off2, rfl, rfl, hbb2, _, _, _, _, _, hn2⟩ := g.head
  have i0 : (0 : Int) < (n : Int) := by omega
  have i9 : (0 : Int) < (m : Int) := by omega
  obtain ⟨W, hW⟩ : ∃ W, W = ((w.alloc (.cells #[.slice (some ⟨b, off, none⟩) n c, .int .i64 0] 30)).alloc (.cells #[.slice (some ⟨b2, off2, none⟩) m d, .int .i64 0] 30)).alloc (.cells #[.slice none 0 0, .int .i64 0] 30) := ⟨_, rfl⟩
  have hb_0 : Below w.heap.size w W := by rw [hW]; exact (((Below.refl _ _).alloc (Nat.le_refl _) _).alloc (by simp) _).alloc (by simp; omega) _
  have hg_0 : GB W w.heap.size (some ⟨b, off, none⟩) n c := by rw [hW]; exact ((GB.new w _ _ _ rfl).up ((Below.refl _ _).alloc (Nat.le_refl _) _)).up ((Below.refl _ _).alloc (Nat.le_refl _) _)
  have hk_0 : GB W (w.heap.size + 1) (some ⟨b2, off2, none⟩) m d := by rw [hW]; exact (GB.new _ _ _ _ (by simp)).up ((Below.refl _ _).alloc (Nat.le_refl _) _)
  have hR_0 : GR W (w.heap.size + 1 + 1) := by rw [hW]; exact GR.new _ (by simp)
  have hv_0 := h.up hb_0
  have hu_0 := g.up hb_0
  have he_0 := hl.up hb_0
  go_enter Tryz.func46, Tryz.ntmps46
  obtain ⟨g0, g1⟩ := hg_0.cells
  obtain ⟨k0, k1⟩ := hk_0.cells
  obtain ⟨c0, c1, c2, c3⟩ := hv_0.cells
  obtain ⟨m0, m1, m2, m3⟩ := hu_0.cells
  obtain ⟨r0, r1, f0, f1⟩ := hR_0.cells
  go_wp2_with fail
  rw [← hW]
  refine (HS _ he_0 hv_0 hu_0).mono ?_
  rintro _ w1 ⟨hG, hbb⟩
  clear g0 g1 k0 k1 c0 c1 c2 c3 m0 m1 m2 m3 r0 r1 f0 f1
  have hb_1 := qbt hb_0 hbb
  have hg_1 := hg_0.up hbb
  have hk_1 := hk_0.up hbb
  have hv_1 := hv_0.up hbb
  have hu_1 := hu_0.up hbb
  have hR_1 := hR_0.up hbb
  have he_1 := he_0.up hbb
  clear hbb hb_0 hg_0 hk_0 hv_0 hu_0 hR_0 he_0
  cases R with
  | ok x =>
    obtain ⟨qz, cz, rfl, hz⟩ := hG
    obtain ⟨g0, g1⟩ := hg_1.cells
    obtain ⟨k0, k1⟩ := hk_1.cells
    obtain ⟨c0, c1, c2, c3⟩ := hv_1.cells
    obtain ⟨m0, m1, m2, m3⟩ := hu_1.cells
    obtain ⟨r0, r1, f0, f1⟩ := hR_1.cells
    go_wp2
    exact bodyPost_ret (v := .agg #[.slice qz x.length cz, .int .i64 0]) (by simp [results, Tryz.results46, go_sem, (hR_1.told _ _).1, (hR_1.told _ _).2]) rfl (hR_1.ret (by omega) hb_1 (⟨qz, cz, rfl, hz⟩))
  | error k =>
    have hG2 : _ = _ := hG
    subst hG2
    obtain ⟨g0, g1⟩ := hg_1.cells
    obtain ⟨k0, k1⟩ := hk_1.cells
    obtain ⟨c0, c1, c2, c3⟩ := hv_1.cells
    obtain ⟨m0, m1, m2, m3⟩ := hu_1.cells
    obtain ⟨r0, r1, f0, f1⟩ := hR_1.cells
    go_wp2
    exact bodyPost_ret (v := .agg #[.slice none 0 0, .int .i64 k]) (by simp [results, Tryz.results46, go_sem, (hR_1.told _ _).1, (hR_1.told _ _).2]) rfl (hR_1.ret (by omega) hb_1 (rfl))

set_option maxHeartbeats 1000000 in
theorem ref_two_bad1 (h : VArg w a n q c) (g : VArg w v m p d) (hl : EL w ps es) (ho : op = 15 ∨ op = 16 ∨ op = 17 ∨ op = 18 ∨ op = 19) (a2 : opV a ≠ 2) :
    Calls Tryz.prog 46 #[.slice ps es.length cs, .int .i64 op, .agg #[.slice q n c, .int .i64 0], .agg #[.slice p m d, .int .i64 0]] w fun e w' => GRet (.error 2) e w' ∧ Below w.heap.size w w' := by
  obtain ⟨y, r, b, off, rfl, rfl, hbb0, _, _, _, _, _, hn1⟩ := h.head
  obtain ⟨z, t, b2, off2, rfl, rfl, hbb2, _, _, _, _, _, hn2⟩ := g.head
  have i0 : (0 : Int) < (n : Int) := by omega
  have i9 : (0 : Int) < (m : Int) := by omega
  obtain ⟨W, hW⟩ : ∃ W, W = ((w.alloc (.cells #[.slice (some ⟨b, off, none⟩) n c, .int .i64 0] 30)).alloc (.cells #[.slice (some ⟨b2, off2, none⟩) m d, .int .i64 0] 30)).alloc (.cells #[.slice none 0 0, .int .i64 0] 30) := ⟨_, rfl⟩
  have hb_0 : Below w.heap.size w W := by rw [hW]; exact (((Below.refl _ _).alloc (Nat.le_refl _) _).alloc (by simp) _).alloc (by simp; omega) _
  have hg_0 : GB W w.heap.size (some ⟨b, off, none⟩) n c := by rw [hW]; exact ((GB.new w _ _ _ rfl).up ((Below.refl _ _).alloc (Nat.le_refl _) _)).up ((Below.refl _ _).alloc (Nat.le_refl _) _)
  have hk_0 : GB W (w.heap.size + 1) (some ⟨b2, off2, none⟩) m d := by rw [hW]; exact (GB.new _ _ _ _ (by simp)).up ((Below.refl _ _).alloc (Nat.le_refl _) _)
  have hR_0 : GR W (w.heap.size + 1 + 1) := by rw [hW]; exact GR.new _ (by simp)
  have hv_0 := h.up hb_0
  have hu_0 := g.up hb_0
  have he_0 := hl.up hb_0
  have HIA := fun w1 h1 => refIs_any w1 (y :: r) n (some ⟨b, off, none⟩) c 2 h1
  rw [show (opV (y :: r) == 2) = false by simpa using a2] at HIA
  have o14 : (op == 14) = false := by simp; omega
  have o25 : (op == 25) = false := by simp; omega
  have o26 : (op == 26) = false := by simp; omega
  have o27 : (op == 27) = false := by simp; omega
  have o20 : (op == 20) = false := by simp; omega
  clear a2 h g hl ho
  go_enter Tryz.func46, Tryz.ntmps46
  obtain ⟨g0, g1⟩ := hg_0.cells
  obtain ⟨k0, k1⟩ := hk_0.cells
  obtain ⟨c0, c1, c2, c3⟩ := hv_0.cells
  obtain ⟨m0, m1, m2, m3⟩ := hu_0.cells
  obtain ⟨r0, r1, f0, f1⟩ := hR_0.cells
  go_wp2_with fail
  rw [← hW]
  refine (HIA _ hv_0).mono ?_
  rintro _ w1 ⟨rfl, hbb⟩
  clear g0 g1 k0 k1 c0 c1 c2 c3 m0 m1 m2 m3 r0 r1 f0 f1
  have hb_1 := qbt hb_0 hbb
  have hg_1 := hg_0.up hbb
  have hk_1 := hk_0.up hbb
  have hv_1 := hv_0.up hbb
  have hu_1 := hu_0.up hbb
  have hR_1 := hR_0.up hbb
  have he_1 := he_0.up hbb
  clear hbb hb_0 hg_0 hk_0 hv_0 hu_0 hR_0 he_0
  obtain ⟨g0, g1⟩ := hg_1.cells
  obtain ⟨k0, k1⟩ := hk_1.cells
  obtain ⟨c0, c1, c2, c3⟩ := hv_1.cells
  obtain ⟨m0, m1, m2, m3⟩ := hu_1.cells
  obtain ⟨r0, r1, f0, f1⟩ := hR_1.cells
  go_wp2_with fail
  refine (refBad_any _ 2).mono ?_
  rintro _ w2 ⟨rfl, hbb⟩
  clear g0 g1 k0 k1 c0 c1 c2 c3 m0 m1 m2 m3 r0 r1 f0 f1
  have hb_2 := qbt hb_1 hbb
  have hg_2 := hg_1.up hbb
  have hk_2 := hk_1.up hbb
  have hv_2 := hv_1.up hbb
  have hu_2 := hu_1.up hbb
  have hR_2 := hR_1.up hbb
  have he_2 := he_1.up hbb
  clear hbb hb_1 hg_1 hk_1 hv_1 hu_1 hR_1 he_1
  obtain ⟨g0, g1⟩ := hg_2.cells
  obtain ⟨k0, k1⟩ := hk_2.cells
  obtain ⟨c0, c1, c2, c3⟩ := hv_2.cells
  obtain ⟨m0, m1, m2, m3⟩ := hu_2.cells
  obtain ⟨r0, r1, f0, f1⟩ := hR_2.cells
  go_wp2
  exact bodyPost_ret (v := .agg #[.slice none 0 0, .int .i64 2]) (by simp [results, Tryz.results46, go_sem, (hR_2.told _ _).1, (hR_2.told _ _).2]) rfl (hR_2.ret (by omega) hb_2 (rfl))

set_option maxHeartbeats 1000000 in
theorem ref_two_bad2 (h : VArg w a n q c) (g : VArg w v m p d) (hl : EL w ps es) (ho : op = 15 ∨ op = 16 ∨ op = 17 ∨ op = 18 ∨ op = 19) (a2 : opV a = 2) (v2 : opV v ≠ 2) :
    Calls Tryz.prog 46 #[.slice ps es.length cs, .int .i64 op, .agg #[.slice q n c, .int .i64 0], .agg #[.slice p m d, .int .i64 0]] w fun e w' => GRet (.error 2) e w' ∧ Below w.heap.size w w' := by
  obtain ⟨y, r, b, off, rfl, rfl, hbb0, _, _, _, _, _, hn1⟩ := h.head
  obtain ⟨z, t, b2, off2, rfl, rfl, hbb2, _, _, _, _, _, hn2⟩ := g.head
  have i0 : (0 : Int) < (n : Int) := by omega
  have i9 : (0 : Int) < (m : Int) := by omega
  obtain ⟨W, hW⟩ : ∃ W, W = ((w.alloc (.cells #[.slice (some ⟨b, off, none⟩) n c, .int .i64 0] 30)).alloc (.cells #[.slice (some ⟨b2, off2, none⟩) m d, .int .i64 0] 30)).alloc (.cells #[.slice none 0 0, .int .i64 0] 30) := ⟨_, rfl⟩
  have hb_0 : Below w.heap.size w W := by rw [hW]; exact (((Below.refl _ _).alloc (Nat.le_refl _) _).alloc (by simp) _).alloc (by simp; omega) _
  have hg_0 : GB W w.heap.size (some ⟨b, off, none⟩) n c := by rw [hW]; exact ((GB.new w _ _ _ rfl).up ((Below.refl _ _).alloc (Nat.le_refl _) _)).up ((Below.refl _ _).alloc (Nat.le_refl _) _)
  have hk_0 : GB W (w.heap.size + 1) (some ⟨b2, off2, none⟩) m d := by rw [hW]; exact (GB.new _ _ _ _ (by simp)).up ((Below.refl _ _).alloc (Nat.le_refl _) _)
  have hR_0 : GR W (w.heap.size + 1 + 1) := by rw [hW]; exact GR.new _ (by simp)
  have hv_0 := h.up hb_0
  have hu_0 := g.up hb_0
  have he_0 := hl.up hb_0
  have HIA := fun w1 h1 => refIs_any w1 (y :: r) n (some ⟨b, off, none⟩) c 2 h1
  rw [show (opV (y :: r) == 2) = true by simpa using a2] at HIA
  have HIB := fun w1 h1 => refIs_any w1 (z :: t) m (some ⟨b2, off2, none⟩) d 2 h1
  rw [show (opV (z :: t) == 2) = false by simpa using v2] at HIB
  have o14 : (op == 14) = false := by simp; omega
  have o25 : (op == 25) = false := by simp; omega
  have o26 : (op == 26) = false := by simp; omega
  have o27 : (op == 27) = false := by simp; omega
  have o20 : (op == 20) = false := by simp; omega
  clear a2 v2 h g hl ho
  go_enter Tryz.func46, Tryz.ntmps46
  obtain ⟨g0, g1⟩ := hg_0.cells
  obtain ⟨k0, k1⟩ := hk_0.cells
  obtain ⟨c0, c1, c2, c3⟩ := hv_0.cells
  obtain ⟨m0, m1, m2, m3⟩ := hu_0.cells
  obtain ⟨r0, r1, f0, f1⟩ := hR_0.cells
  go_wp2_with fail
  rw [← hW]
  refine (HIA _ hv_0).mono ?_
  rintro _ w1 ⟨rfl, hbb⟩
  clear g0 g1 k0 k1 c0 c1 c2 c3 m0 m1 m2 m3 r0 r1 f0 f1
  have hb_1 := qbt hb_0 hbb
  have hg_1 := hg_0.up hbb
  have hk_1 := hk_0.up hbb
  have hv_1 := hv_0.up hbb
  have hu_1 := hu_0.up hbb
  have hR_1 := hR_0.up hbb
  have he_1 := he_0.up hbb
  clear hbb hb_0 hg_0 hk_0 hv_0 hu_0 hR_0 he_0
  obtain ⟨g0, g1⟩ := hg_1.cells
  obtain ⟨k0, k1⟩ := hk_1.cells
  obtain ⟨c0, c1, c2, c3⟩ := hv_1.cells
  obtain ⟨m0, m1, m2, m3⟩ := hu_1.cells
  obtain ⟨r0, r1, f0, f1⟩ := hR_1.cells
  go_wp2_with fail
  refine (HIB _ hu_1).mono ?_
  rintro _ w2 ⟨rfl, hbb⟩
  clear g0 g1 k0 k1 c0 c1 c2 c3 m0 m1 m2 m3 r0 r1 f0 f1
  have hb_2 := qbt hb_1 hbb
  have hg_2 := hg_1.up hbb
  have hk_2 := hk_1.up hbb
  have hv_2 := hv_1.up hbb
  have hu_2 := hu_1.up hbb
  have hR_2 := hR_1.up hbb
  have he_2 := he_1.up hbb
  clear hbb hb_1 hg_1 hk_1 hv_1 hu_1 hR_1 he_1
  obtain ⟨g0, g1⟩ := hg_2.cells
  obtain ⟨k0, k1⟩ := hk_2.cells
  obtain ⟨c0, c1, c2, c3⟩ := hv_2.cells
  obtain ⟨m0, m1, m2, m3⟩ := hu_2.cells
  obtain ⟨r0, r1, f0, f1⟩ := hR_2.cells
  go_wp2_with fail
  refine (refBad_any _ 2).mono ?_
  rintro _ w3 ⟨rfl, hbb⟩
  clear g0 g1 k0 k1 c0 c1 c2 c3 m0 m1 m2 m3 r0 r1 f0 f1
  have hb_3 := qbt hb_2 hbb
  have hg_3 := hg_2.up hbb
  have hk_3 := hk_2.up hbb
  have hv_3 := hv_2.up hbb
  have hu_3 := hu_2.up hbb
  have hR_3 := hR_2.up hbb
  have he_3 := he_2.up hbb
  clear hbb hb_2 hg_2 hk_2 hv_2 hu_2 hR_2 he_2
  obtain ⟨g0, g1⟩ := hg_3.cells
  obtain ⟨k0, k1⟩ := hk_3.cells
  obtain ⟨c0, c1, c2, c3⟩ := hv_3.cells
  obtain ⟨m0, m1, m2, m3⟩ := hu_3.cells
  obtain ⟨r0, r1, f0, f1⟩ := hR_3.cells
  go_wp2
  exact bodyPost_ret (v := .agg #[.slice none 0 0, .int .i64 2]) (by simp [results, Tryz.results46, go_sem, (hR_3.told _ _).1, (hR_3.told _ _).2]) rfl (hR_3.ret (by omega) hb_3 (rfl))

set_option maxHeartbeats 1000000 in
theorem ref_two_lt (h : VArg w a n q c) (g : VArg w v m p d) (hl : EL w ps es) (a2 : opV a = 2) (v2 : opV v = 2) :
    Calls Tryz.prog 46 #[.slice ps es.length cs, .int .i64 15, .agg #[.slice q n c, .int .i64 0], .agg #[.slice p m d, .int .i64 0]] w fun e w' => GRet (.ok (tN (decide (nV a < nV v)))) e w' ∧ Below w.heap.size w w' := by
  obtain ⟨y, r, b, off, rfl, rfl, hbb0, _, _, _, _, _, hn1⟩ := h.head
  obtain ⟨z, t, b2, off2, rfl, rfl, hbb2, _, _, _, _, _, hn2⟩ := g.head
  have i0 : (0 : Int) < (n : Int) := by omega
  have i9 : (0 : Int) < (m : Int) := by omega
  obtain ⟨W, hW⟩ : ∃ W, W = ((w.alloc (.cells #[.slice (some ⟨b, off, none⟩) n c, .int .i64 0] 30)).alloc (.cells #[.slice (some ⟨b2, off2, none⟩) m d, .int .i64 0] 30)).alloc (.cells #[.slice none 0 0, .int .i64 0] 30) := ⟨_, rfl⟩
  have hb_0 : Below w.heap.size w W := by rw [hW]; exact (((Below.refl _ _).alloc (Nat.le_refl _) _).alloc (by simp) _).alloc (by simp; omega) _
  have hg_0 : GB W w.heap.size (some ⟨b, off, none⟩) n c := by rw [hW]; exact ((GB.new w _ _ _ rfl).up ((Below.refl _ _).alloc (Nat.le_refl _) _)).up ((Below.refl _ _).alloc (Nat.le_refl _) _)
  have hk_0 : GB W (w.heap.size + 1) (some ⟨b2, off2, none⟩) m d := by rw [hW]; exact (GB.new _ _ _ _ (by simp)).up ((Below.refl _ _).alloc (Nat.le_refl _) _)
  have hR_0 : GR W (w.heap.size + 1 + 1) := by rw [hW]; exact GR.new _ (by simp)
  have hv_0 := h.up hb_0
  have hu_0 := g.up hb_0
  have he_0 := hl.up hb_0
  have HIA := fun w1 h1 => refIs_any w1 (y :: r) n (some ⟨b, off, none⟩) c 2 h1
  rw [show (opV (y :: r) == 2) = true by simpa using a2] at HIA
  have HIB := fun w1 h1 => refIs_any w1 (z :: t) m (some ⟨b2, off2, none⟩) d 2 h1
  rw [show (opV (z :: t) == 2) = true by simpa using v2] at HIB
  have e1 : nV (y :: r) = y.n := rfl
  have e2 : nV (z :: t) = z.n := rfl
  rw [e1, e2]
  clear a2 v2 h g hl e1 e2
  go_enter Tryz.func46, Tryz.ntmps46
  obtain ⟨g0, g1⟩ := hg_0.cells
  obtain ⟨k0, k1⟩ := hk_0.cells
  obtain ⟨c0, c1, c2, c3⟩ := hv_0.cells
  obtain ⟨m0, m1, m2, m3⟩ := hu_0.cells
  obtain ⟨r0, r1, f0, f1⟩ := hR_0.cells
  go_wp2_with fail
  rw [← hW]
  refine (HIA _ hv_0).mono ?_
  rintro _ w1 ⟨rfl, hbb⟩
  clear g0 g1 k0 k1 c0 c1 c2 c3 m0 m1 m2 m3 r0 r1 f0 f1
  have hb_1 := qbt hb_0 hbb
  have hg_1 := hg_0.up hbb
  have hk_1 := hk_0.up hbb
  have hv_1 := hv_0.up hbb
  have hu_1 := hu_0.up hbb
  have hR_1 := hR_0.up hbb
  have he_1 := he_0.up hbb
  clear hbb hb_0 hg_0 hk_0 hv_0 hu_0 hR_0 he_0
  obtain ⟨g0, g1⟩ := hg_1.cells
  obtain ⟨k0, k1⟩ := hk_1.cells
  obtain ⟨c0, c1, c2, c3⟩ := hv_1.cells
  obtain ⟨m0, m1, m2, m3⟩ := hu_1.cells
  obtain ⟨r0, r1, f0, f1⟩ := hR_1.cells
  go_wp2_with fail
  refine (HIB _ hu_1).mono ?_
  rintro _ w2 ⟨rfl, hbb⟩
  clear g0 g1 k0 k1 c0 c1 c2 c3 m0 m1 m2 m3 r0 r1 f0 f1
  have hb_2 := qbt hb_1 hbb
  have hg_2 := hg_1.up hbb
  have hk_2 := hk_1.up hbb
  have hv_2 := hv_1.up hbb
  have hu_2 := hu_1.up hbb
  have hR_2 := hR_1.up hbb
  have he_2 := he_1.up hbb
  clear hbb hb_1 hg_1 hk_1 hv_1 hu_1 hR_1 he_1
  obtain ⟨g0, g1⟩ := hg_2.cells
  obtain ⟨k0, k1⟩ := hk_2.cells
  obtain ⟨c0, c1, c2, c3⟩ := hv_2.cells
  obtain ⟨m0, m1, m2, m3⟩ := hu_2.cells
  obtain ⟨r0, r1, f0, f1⟩ := hR_2.cells
  go_wp2_with fail
  refine (refTruth_any _ _).mono ?_
  rintro _ w3 ⟨⟨q1, d1, rfl, hz⟩, hbb⟩
  clear g0 g1 k0 k1 c0 c1 c2 c3 m0 m1 m2 m3 r0 r1 f0 f1
  have hb_3 := qbt hb_2 hbb
  have hg_3 := hg_2.up hbb
  have hk_3 := hk_2.up hbb
  have hv_3 := hv_2.up hbb
  have hu_3 := hu_2.up hbb
  have hR_3 := hR_2.up hbb
  have he_3 := he_2.up hbb
  clear hbb hb_2 hg_2 hk_2 hv_2 hu_2 hR_2 he_2
  have hz_3 := hz
  clear hz
  obtain ⟨g0, g1⟩ := hg_3.cells
  obtain ⟨k0, k1⟩ := hk_3.cells
  obtain ⟨c0, c1, c2, c3⟩ := hv_3.cells
  obtain ⟨m0, m1, m2, m3⟩ := hu_3.cells
  obtain ⟨r0, r1, f0, f1⟩ := hR_3.cells
  go_wp2_with fail
  refine (refGood_any _ q1 1 d1).mono ?_
  rintro _ w4 ⟨rfl, hbb⟩
  clear g0 g1 k0 k1 c0 c1 c2 c3 m0 m1 m2 m3 r0 r1 f0 f1
  have hb_4 := qbt hb_3 hbb
  have hg_4 := hg_3.up hbb
  have hk_4 := hk_3.up hbb
  have hv_4 := hv_3.up hbb
  have hu_4 := hu_3.up hbb
  have hR_4 := hR_3.up hbb
  have he_4 := he_3.up hbb
  have hz_4 := hz_3.up hbb
  clear hbb hb_3 hg_3 hk_3 hv_3 hu_3 hR_3 he_3 hz_3
  obtain ⟨g0, g1⟩ := hg_4.cells
  obtain ⟨k0, k1⟩ := hk_4.cells
  obtain ⟨c0, c1, c2, c3⟩ := hv_4.cells
  obtain ⟨m0, m1, m2, m3⟩ := hu_4.cells
  obtain ⟨r0, r1, f0, f1⟩ := hR_4.cells
  go_wp2
  exact bodyPost_ret (v := .agg #[.slice q1 1 d1, .int .i64 0]) (by simp [results, Tryz.results46, go_sem, (hR_4.told _ _).1, (hR_4.told _ _).2]) rfl (hR_4.ret (by omega) hb_4 (⟨q1, d1, rfl, hz_4⟩))

set_option maxHeartbeats 1000000 in
theorem ref_two_le (h : VArg w a n q c) (g : VArg w v m p d) (hl : EL w ps es) (a2 : opV a = 2) (v2 : opV v = 2) :
    Calls Tryz.prog 46 #[.slice ps es.length cs, .int .i64 16, .agg #[.slice q n c, .int .i64 0], .agg #[.slice p m d, .int .i64 0]] w fun e w' => GRet (.ok (tN (decide (nV a ≤ nV v)))) e w' ∧ Below w.heap.size w w' := by
  obtain ⟨y, r, b, off, rfl, rfl, hbb0, _, _, _, _, _, hn1⟩ := h.head
  obtain ⟨z, t, b2, off2, rfl, rfl, hbb2, _, _, _, _, _, hn2⟩ := g.head
  have i0 : (0 : Int) < (n : Int) := by omega
  have i9 : (0 : Int) < (m : Int) := by omega
  obtain ⟨W, hW⟩ : ∃ W, W = ((w.alloc (.cells #[.slice (some ⟨b, off, none⟩) n c, .int .i64 0] 30)).alloc (.cells #[.slice (some ⟨b2, off2, none⟩) m d, .int .i64 0] 30)).alloc (.cells #[.slice none 0 0, .int .i64 0] 30) := ⟨_, rfl⟩
  have hb_0 : Below w.heap.size w W := by rw [hW]; exact (((Below.refl _ _).alloc (Nat.le_refl _) _).alloc (by simp) _).alloc (by simp; omega) _
  have hg_0 : GB W w.heap.size (some ⟨b, off, none⟩) n c := by rw [hW]; exact ((GB.new w _ _ _ rfl).up ((Below.refl _ _).alloc (Nat.le_refl _) _)).up ((Below.refl _ _).alloc (Nat.le_refl _) _)
  have hk_0 : GB W (w.heap.size + 1) (some ⟨b2, off2, none⟩) m d := by rw [hW]; exact (GB.new _ _ _ _ (by simp)).up ((Below.refl _ _).alloc (Nat.le_refl _) _)
  have hR_0 : GR W (w.heap.size + 1 + 1) := by rw [hW]; exact GR.new _ (by simp)
  have hv_0 := h.up hb_0
  have hu_0 := g.up hb_0
  have he_0 := hl.up hb_0
  have HIA := fun w1 h1 => refIs_any w1 (y :: r) n (some ⟨b, off, none⟩) c 2 h1
  rw [show (opV (y :: r) == 2) = true by simpa using a2] at HIA
  have HIB := fun w1 h1 => refIs_any w1 (z :: t) m (some ⟨b2, off2, none⟩) d 2 h1
  rw [show (opV (z :: t) == 2) = true by simpa using v2] at HIB
  have e1 : nV (y :: r) = y.n := rfl
  have e2 : nV (z :: t) = z.n := rfl
  rw [e1, e2]
  clear a2 v2 h g hl e1 e2
  go_enter Tryz.func46, Tryz.ntmps46
  obtain ⟨g0, g1⟩ := hg_0.cells
  obtain ⟨k0, k1⟩ := hk_0.cells
  obtain ⟨c0, c1, c2, c3⟩ := hv_0.cells
  obtain ⟨m0, m1, m2, m3⟩ := hu_0.cells
  obtain ⟨r0, r1, f0, f1⟩ := hR_0.cells
  go_wp2_with fail
  rw [← hW]
  refine (HIA _ hv_0).mono ?_
  rintro _ w1 ⟨rfl, hbb⟩
  clear g0 g1 k0 k1 c0 c1 c2 c3 m0 m1 m2 m3 r0 r1 f0 f1
  have hb_1 := qbt hb_0 hbb
  have hg_1 := hg_0.up hbb
  have hk_1 := hk_0.up hbb
  have hv_1 := hv_0.up hbb
  have hu_1 := hu_0.up hbb
  have hR_1 := hR_0.up hbb
  have he_1 := he_0.up hbb
  clear hbb hb_0 hg_0 hk_0 hv_0 hu_0 hR_0 he_0
  obtain ⟨g0, g1⟩ := hg_1.cells
  obtain ⟨k0, k1⟩ := hk_1.cells
  obtain ⟨c0, c1, c2, c3⟩ := hv_1.cells
  obtain ⟨m0, m1, m2, m3⟩ := hu_1.cells
  obtain ⟨r0, r1, f0, f1⟩ := hR_1.cells
  go_wp2_with fail
  refine (HIB _ hu_1).mono ?_
  rintro _ w2 ⟨rfl, hbb⟩
  clear g0 g1 k0 k1 c0 c1 c2 c3 m0 m1 m2 m3 r0 r1 f0 f1
  have hb_2 := qbt hb_1 hbb
  have hg_2 := hg_1.up hbb
  have hk_2 := hk_1.up hbb
  have hv_2 := hv_1.up hbb
  have hu_2 := hu_1.up hbb
  have hR_2 := hR_1.up hbb
  have he_2 := he_1.up hbb
  clear hbb hb_1 hg_1 hk_1 hv_1 hu_1 hR_1 he_1
  obtain ⟨g0, g1⟩ := hg_2.cells
  obtain ⟨k0, k1⟩ := hk_2.cells
  obtain ⟨c0, c1, c2, c3⟩ := hv_2.cells
  obtain ⟨m0, m1, m2, m3⟩ := hu_2.cells
  obtain ⟨r0, r1, f0, f1⟩ := hR_2.cells
  go_wp2_with fail
  refine (refTruth_any _ _).mono ?_
  rintro _ w3 ⟨⟨q1, d1, rfl, hz⟩, hbb⟩
  clear g0 g1 k0 k1 c0 c1 c2 c3 m0 m1 m2 m3 r0 r1 f0 f1
  have hb_3 := qbt hb_2 hbb
  have hg_3 := hg_2.up hbb
  have hk_3 := hk_2.up hbb
  have hv_3 := hv_2.up hbb
  have hu_3 := hu_2.up hbb
  have hR_3 := hR_2.up hbb
  have he_3 := he_2.up hbb
  clear hbb hb_2 hg_2 hk_2 hv_2 hu_2 hR_2 he_2
  have hz_3 := hz
  clear hz
  obtain ⟨g0, g1⟩ := hg_3.cells
  obtain ⟨k0, k1⟩ := hk_3.cells
  obtain ⟨c0, c1, c2, c3⟩ := hv_3.cells
  obtain ⟨m0, m1, m2, m3⟩ := hu_3.cells
  obtain ⟨r0, r1, f0, f1⟩ := hR_3.cells
  go_wp2_with fail
  refine (refGood_any _ q1 1 d1).mono ?_
  rintro _ w4 ⟨rfl, hbb⟩
  clear g0 g1 k0 k1 c0 c1 c2 c3 m0 m1 m2 m3 r0 r1 f0 f1
  have hb_4 := qbt hb_3 hbb
  have hg_4 := hg_3.up hbb
  have hk_4 := hk_3.up hbb
  have hv_4 := hv_3.up hbb
  have hu_4 := hu_3.up hbb
  have hR_4 := hR_3.up hbb
  have he_4 := he_3.up hbb
  have hz_4 := hz_3.up hbb
  clear hbb hb_3 hg_3 hk_3 hv_3 hu_3 hR_3 he_3 hz_3
  obtain ⟨g0, g1⟩ := hg_4.cells
  obtain ⟨k0, k1⟩ := hk_4.cells
  obtain ⟨c0, c1, c2, c3⟩ := hv_4.cells
  obtain ⟨m0, m1, m2, m3⟩ := hu_4.cells
  obtain ⟨r0, r1, f0, f1⟩ := hR_4.cells
  go_wp2
  exact bodyPost_ret (v := .agg #[.slice q1 1 d1, .int .i64 0]) (by simp [results, Tryz.results46, go_sem, (hR_4.told _ _).1, (hR_4.told _ _).2]) rfl (hR_4.ret (by omega) hb_4 (⟨q1, d1, rfl, hz_4⟩))

set_option maxHeartbeats 1000000 in
theorem ref_two_num_ok (h : VArg w a n q c) (g : VArg w v m p d) (hl : EL w ps es) (ho : op = 17 ∨ op = 18 ∨ op = 19) (a2 : opV a = 2) (v2 : opV v = 2) (hf : nmf op (nV a) (nV v) = 0) :
    Calls Tryz.prog 46 #[.slice ps es.length cs, .int .i64 op, .agg #[.slice q n c, .int .i64 0], .agg #[.slice p m d, .int .i64 0]] w fun e w' => GRet (.ok (mN (nx op (nV a) (nV v)))) e w' ∧ Below w.heap.size w w' := by
  obtain ⟨y, r, b, off, rfl, rfl, hbb0, _, _, _, _, _, hn1⟩ := h.head
  obtain ⟨z, t, b2, off2, rfl, rfl, hbb2, _, _, _, _, _, hn2⟩ := g.head
  have i0 : (0 : Int) < (n : Int) := by omega
  have i9 : (0 : Int) < (m : Int) := by omega
  obtain ⟨W, hW⟩ : ∃ W, W = ((w.alloc (.cells #[.slice (some ⟨b, off, none⟩) n c, .int .i64 0] 30)).alloc (.cells #[.slice (some ⟨b2, off2, none⟩) m d, .int .i64 0] 30)).alloc (.cells #[.slice none 0 0, .int .i64 0] 30) := ⟨_, rfl⟩
  have hb_0 : Below w.heap.size w W := by rw [hW]; exact (((Below.refl _ _).alloc (Nat.le_refl _) _).alloc (by simp) _).alloc (by simp; omega) _
  have hg_0 : GB W w.heap.size (some ⟨b, off, none⟩) n c := by rw [hW]; exact ((GB.new w _ _ _ rfl).up ((Below.refl _ _).alloc (Nat.le_refl _) _)).up ((Below.refl _ _).alloc (Nat.le_refl _) _)
  have hk_0 : GB W (w.heap.size + 1) (some ⟨b2, off2, none⟩) m d := by rw [hW]; exact (GB.new _ _ _ _ (by simp)).up ((Below.refl _ _).alloc (Nat.le_refl _) _)
  have hR_0 : GR W (w.heap.size + 1 + 1) := by rw [hW]; exact GR.new _ (by simp)
  have hv_0 := h.up hb_0
  have hu_0 := g.up hb_0
  have he_0 := hl.up hb_0
  have HIA := fun w1 h1 => refIs_any w1 (y :: r) n (some ⟨b, off, none⟩) c 2 h1
  rw [show (opV (y :: r) == 2) = true by simpa using a2] at HIA
  have HIB := fun w1 h1 => refIs_any w1 (z :: t) m (some ⟨b2, off2, none⟩) d 2 h1
  rw [show (opV (z :: t) == 2) = true by simpa using v2] at HIB
  have HDN := fun w1 => quietB (done_any op (nV (y :: r)) (nV (z :: t)) w1 (h.is.fit a2) (g.is.fit v2))
  have e1 : nV (y :: r) = y.n := rfl
  have e2 : nV (z :: t) = z.n := rfl
  have ho5 : op = 15 ∨ op = 16 ∨ op = 17 ∨ op = 18 ∨ op = 19 := by omega
  have o15 : (op == 15) = false := by simp; omega
  have o16 : (op == 16) = false := by simp; omega
  have o14 : (op == 14) = false := by simp; omega
  have o25 : (op == 25) = false := by simp; omega
  have o26 : (op == 26) = false := by simp; omega
  have o27 : (op == 27) = false := by simp; omega
  have o20 : (op == 20) = false := by simp; omega
  have hnv : nval op (nV (y :: r)) (nV (z :: t)) = nx op (nV (y :: r)) (nV (z :: t)) := nv_ok hf
  have hfit : Fit (nx op (nV (y :: r)) (nV (z :: t))) := by rw [← hnv]; exact nv_fit _ _ _
  rw [hf, hnv] at HDN
  generalize nx op (nV (y :: r)) (nV (z :: t)) = N at *
  have hw : ∀ x ∈ mN N, x.wf := by intro x hx; simp only [mN, List.mem_singleton] at hx; subst hx; exact ⟨by unfold maxLen; show 0 ≤ _; decide, by unfold maxLen; show 0 ≤ _; decide, hfit.2⟩
  have HZ := fun w1 => NL.lit w1 (mN N) #[.int .i64 2, .int .i64 N, .string ⟨#[]⟩, .string ⟨#[]⟩] hw rfl (by simp [mN])
  have HIM : Hid (IsV (mN N)) := mN_is hfit
  rw [e1, e2] at HDN
  clear a2 v2 h g hl e1 e2 hf hnv hfit hw ho ho5
  go_enter Tryz.func46, Tryz.ntmps46
  obtain ⟨g0, g1⟩ := hg_0.cells
  obtain ⟨k0, k1⟩ := hk_0.cells
  obtain ⟨c0, c1, c2, c3⟩ := hv_0.cells
  obtain ⟨m0, m1, m2, m3⟩ := hu_0.cells
  obtain ⟨r0, r1, f0, f1⟩ := hR_0.cells
  go_wp2_with fail
  rw [← hW]
  refine (HIA _ hv_0).mono ?_
  rintro _ w1 ⟨rfl, hbb⟩
  clear g0 g1 k0 k1 c0 c1 c2 c3 m0 m1 m2 m3 r0 r1 f0 f1
  have hb_1 := qbt hb_0 hbb
  have hg_1 := hg_0.up hbb
  have hk_1 := hk_0.up hbb
  have hv_1 := hv_0.up hbb
  have hu_1 := hu_0.up hbb
  have hR_1 := hR_0.up hbb
  have he_1 := he_0.up hbb
  clear hbb hb_0 hg_0 hk_0 hv_0 hu_0 hR_0 he_0
  obtain ⟨g0, g1⟩ := hg_1.cells
  obtain ⟨k0, k1⟩ := hk_1.cells
  obtain ⟨c0, c1, c2, c3⟩ := hv_1.cells
  obtain ⟨m0, m1, m2, m3⟩ := hu_1.cells
  obtain ⟨r0, r1, f0, f1⟩ := hR_1.cells
  go_wp2_with fail
  refine (HIB _ hu_1).mono ?_
  rintro _ w2 ⟨rfl, hbb⟩
  clear g0 g1 k0 k1 c0 c1 c2 c3 m0 m1 m2 m3 r0 r1 f0 f1
  have hb_2 := qbt hb_1 hbb
  have hg_2 := hg_1.up hbb
  have hk_2 := hk_1.up hbb
  have hv_2 := hv_1.up hbb
  have hu_2 := hu_1.up hbb
  have hR_2 := hR_1.up hbb
  have he_2 := he_1.up hbb
  clear hbb hb_1 hg_1 hk_1 hv_1 hu_1 hR_1 he_1
  obtain ⟨g0, g1⟩ := hg_2.cells
  obtain ⟨k0, k1⟩ := hk_2.cells
  obtain ⟨c0, c1, c2, c3⟩ := hv_2.cells
  obtain ⟨m0, m1, m2, m3⟩ := hu_2.cells
  obtain ⟨r0, r1, f0, f1⟩ := hR_2.cells
  go_wp2_with fail
  refine (HDN _).mono ?_
  rintro _ w3 ⟨rfl, hbb⟩
  clear g0 g1 k0 k1 c0 c1 c2 c3 m0 m1 m2 m3 r0 r1 f0 f1
  have hb_3 := qbt hb_2 hbb
  have hg_3 := hg_2.up hbb
  have hk_3 := hk_2.up hbb
  have hv_3 := hv_2.up hbb
  have hu_3 := hu_2.up hbb
  have hR_3 := hR_2.up hbb
  have he_3 := he_2.up hbb
  clear hbb hb_2 hg_2 hk_2 hv_2 hu_2 hR_2 he_2
  obtain ⟨g0, g1⟩ := hg_3.cells
  obtain ⟨k0, k1⟩ := hk_3.cells
  obtain ⟨c0, c1, c2, c3⟩ := hv_3.cells
  obtain ⟨m0, m1, m2, m3⟩ := hu_3.cells
  obtain ⟨r0, r1, f0, f1⟩ := hR_3.cells
  go_wp2_with fail
  refine (refGood_any _ _ _ _).mono ?_
  rintro _ w4 ⟨rfl, hbb⟩
  clear g0 g1 k0 k1 c0 c1 c2 c3 m0 m1 m2 m3 r0 r1 f0 f1
  have hba : Below w3.heap.size w3 (w3.alloc (.cells #[.int .i64 2, .int .i64 (N), .string ⟨#[]⟩, .string ⟨#[]⟩] 41)) := (Below.refl _ _).alloc (Nat.le_refl _) _
  have hz_4 : VArg w4 (mN (N)) 1 (some ⟨w3.heap.size, 0, none⟩) 1 := (VArg.mk rfl (HZ w3) (Nat.le_refl _) (by unfold maxLen; decide) HIM.out : VArg _ (mN (N)) 1 _ 1).up hbb
  replace hbb := qbt hba hbb
  have hb_4 := qbt hb_3 hbb
  have hg_4 := hg_3.up hbb
  have hk_4 := hk_3.up hbb
  have hv_4 := hv_3.up hbb
  have hu_4 := hu_3.up hbb
  have hR_4 := hR_3.up hbb
  have he_4 := he_3.up hbb
  clear hbb hb_3 hg_3 hk_3 hv_3 hu_3 hR_3 he_3
  obtain ⟨g0, g1⟩ := hg_4.cells
  obtain ⟨k0, k1⟩ := hk_4.cells
  obtain ⟨c0, c1, c2, c3⟩ := hv_4.cells
  obtain ⟨m0, m1, m2, m3⟩ := hu_4.cells
  obtain ⟨r0, r1, f0, f1⟩ := hR_4.cells
  go_wp2
  exact bodyPost_ret (v := .agg #[.slice (some ⟨w3.heap.size, 0, none⟩) 1 1, .int .i64 0]) (by simp [results, Tryz.results46, go_sem, (hR_4.told _ _).1, (hR_4.told _ _).2]) rfl (hR_4.ret (by omega) hb_4 (⟨_, _, rfl, hz_4⟩))

set_option maxHeartbeats 1000000 in
theorem ref_two_num_bad (h : VArg w a n q c) (g : VArg w v m p d) (hl : EL w ps es) (ho : op = 17 ∨ op = 18 ∨ op = 19) (a2 : opV a = 2) (v2 : opV v = 2) (hf : nmf op (nV a) (nV v) ≠ 0) :
    Calls Tryz.prog 46 #[.slice ps es.length cs, .int .i64 op, .agg #[.slice q n c, .int .i64 0], .agg #[.slice p m d, .int .i64 0]] w fun e w' => GRet (.error (nmf op (nV a) (nV v))) e w' ∧ Below w.heap.size w w' := by
  obtain ⟨y, r, b, off, rfl, rfl, hbb0, _, _, _, _, _, hn1⟩ := h.head
  obtain ⟨z, t, b2, off2, rfl, rfl, hbb2, _, _, _, _, _, hn2⟩ := g.head
  have i0 : (0 : Int) < (n : Int) := by omega
  have i9 : (0 : Int) < (m : Int) := by omega
  obtain ⟨W, hW⟩ : ∃ W, W = ((w.alloc (.cells #[.slice (some ⟨b, off, none⟩) n c, .int .i64 0] 30)).alloc (.cells #[.slice (some ⟨b2, off2, none⟩) m d, .int .i64 0] 30)).alloc (.cells #[.slice none 0 0, .int .i64 0] 30) := ⟨_, rfl⟩
  have hb_0 : Below w.heap.size w W := by rw [hW]; exact (((Below.refl _ _).alloc (Nat.le_refl _) _).alloc (by simp) _).alloc (by simp; omega) _
  have hg_0 : GB W w.heap.size (some ⟨b, off, none⟩) n c := by rw [hW]; exact ((GB.new w _ _ _ rfl).up ((Below.refl _ _).alloc (Nat.le_refl _) _)).up ((Below.refl _ _).alloc (Nat.le_refl _) _)
  have hk_0 : GB W (w.heap.size + 1) (some ⟨b2, off2, none⟩) m d := by rw [hW]; exact (GB.new _ _ _ _ (by simp)).up ((Below.refl _ _).alloc (Nat.le_refl _) _)
  have hR_0 : GR W (w.heap.size + 1 + 1) := by rw [hW]; exact GR.new _ (by simp)
  have hv_0 := h.up hb_0
  have hu_0 := g.up hb_0
  have he_0 := hl.up hb_0
  have HIA := fun w1 h1 => refIs_any w1 (y :: r) n (some ⟨b, off, none⟩) c 2 h1
  rw [show (opV (y :: r) == 2) = true by simpa using a2] at HIA
  have HIB := fun w1 h1 => refIs_any w1 (z :: t) m (some ⟨b2, off2, none⟩) d 2 h1
  rw [show (opV (z :: t) == 2) = true by simpa using v2] at HIB
  have HDN := fun w1 => quietB (done_any op (nV (y :: r)) (nV (z :: t)) w1 (h.is.fit a2) (g.is.fit v2))
  have e1 : nV (y :: r) = y.n := rfl
  have e2 : nV (z :: t) = z.n := rfl
  have o15 : (op == 15) = false := by simp; omega
  have o16 : (op == 16) = false := by simp; omega
  have o14 : (op == 14) = false := by simp; omega
  have o25 : (op == 25) = false := by simp; omega
  have o26 : (op == 26) = false := by simp; omega
  have o27 : (op == 27) = false := by simp; omega
  have o20 : (op == 20) = false := by simp; omega
  have e0 : (nmf op (nV (y :: r)) (nV (z :: t)) != 0) = true := by simpa using hf
  rw [e1, e2] at HDN e0 ⊢
  generalize nmf op y.n z.n = N at *
  clear a2 v2 h g hl e1 e2 hf ho
  go_enter Tryz.func46, Tryz.ntmps46
  obtain ⟨g0, g1⟩ := hg_0.cells
  obtain ⟨k0, k1⟩ := hk_0.cells
  obtain ⟨c0, c1, c2, c3⟩ := hv_0.cells
  obtain ⟨m0, m1, m2, m3⟩ := hu_0.cells
  obtain ⟨r0, r1, f0, f1⟩ := hR_0.cells
  go_wp2_with fail
  rw [← hW]
  refine (HIA _ hv_0).mono ?_
  rintro _ w1 ⟨rfl, hbb⟩
  clear g0 g1 k0 k1 c0 c1 c2 c3 m0 m1 m2 m3 r0 r1 f0 f1
  have hb_1 := qbt hb_0 hbb
  have hg_1 := hg_0.up hbb
  have hk_1 := hk_0.up hbb
  have hv_1 := hv_0.up hbb
  have hu_1 := hu_0.up hbb
  have hR_1 := hR_0.up hbb
  have he_1 := he_0.up hbb
  clear hbb hb_0 hg_0 hk_0 hv_0 hu_0 hR_0 he_0
  obtain ⟨g0, g1⟩ := hg_1.cells
  obtain ⟨k0, k1⟩ := hk_1.cells
  obtain ⟨c0, c1, c2, c3⟩ := hv_1.cells
  obtain ⟨m0, m1, m2, m3⟩ := hu_1.cells
  obtain ⟨r0, r1, f0, f1⟩ := hR_1.cells
  go_wp2_with fail
  refine (HIB _ hu_1).mono ?_
  rintro _ w2 ⟨rfl, hbb⟩
  clear g0 g1 k0 k1 c0 c1 c2 c3 m0 m1 m2 m3 r0 r1 f0 f1
  have hb_2 := qbt hb_1 hbb
  have hg_2 := hg_1.up hbb
  have hk_2 := hk_1.up hbb
  have hv_2 := hv_1.up hbb
  have hu_2 := hu_1.up hbb
  have hR_2 := hR_1.up hbb
  have he_2 := he_1.up hbb
  clear hbb hb_1 hg_1 hk_1 hv_1 hu_1 hR_1 he_1
  obtain ⟨g0, g1⟩ := hg_2.cells
  obtain ⟨k0, k1⟩ := hk_2.cells
  obtain ⟨c0, c1, c2, c3⟩ := hv_2.cells
  obtain ⟨m0, m1, m2, m3⟩ := hu_2.cells
  obtain ⟨r0, r1, f0, f1⟩ := hR_2.cells
  go_wp2_with fail
  refine (HDN _).mono ?_
  rintro _ w3 ⟨rfl, hbb⟩
  clear g0 g1 k0 k1 c0 c1 c2 c3 m0 m1 m2 m3 r0 r1 f0 f1
  have hb_3 := qbt hb_2 hbb
  have hg_3 := hg_2.up hbb
  have hk_3 := hk_2.up hbb
  have hv_3 := hv_2.up hbb
  have hu_3 := hu_2.up hbb
  have hR_3 := hR_2.up hbb
  have he_3 := he_2.up hbb
  clear hbb hb_2 hg_2 hk_2 hv_2 hu_2 hR_2 he_2
  obtain ⟨g0, g1⟩ := hg_3.cells
  obtain ⟨k0, k1⟩ := hk_3.cells
  obtain ⟨c0, c1, c2, c3⟩ := hv_3.cells
  obtain ⟨m0, m1, m2, m3⟩ := hu_3.cells
  obtain ⟨r0, r1, f0, f1⟩ := hR_3.cells
  go_wp2_with fail
  refine (refBad_any _ N).mono ?_
  rintro _ w4 ⟨rfl, hbb⟩
  clear g0 g1 k0 k1 c0 c1 c2 c3 m0 m1 m2 m3 r0 r1 f0 f1
  have hb_4 := qbt hb_3 hbb
  have hg_4 := hg_3.up hbb
  have hk_4 := hk_3.up hbb
  have hv_4 := hv_3.up hbb
  have hu_4 := hu_3.up hbb
  have hR_4 := hR_3.up hbb
  have he_4 := he_3.up hbb
  clear hbb hb_3 hg_3 hk_3 hv_3 hu_3 hR_3 he_3
  obtain ⟨g0, g1⟩ := hg_4.cells
  obtain ⟨k0, k1⟩ := hk_4.cells
  obtain ⟨c0, c1, c2, c3⟩ := hv_4.cells
  obtain ⟨m0, m1, m2, m3⟩ := hu_4.cells
  obtain ⟨r0, r1, f0, f1⟩ := hR_4.cells
  go_wp2
  exact bodyPost_ret (v := .agg #[.slice none 0 0, .int .i64 N]) (by simp [results, Tryz.results46, go_sem, (hR_4.told _ _).1, (hR_4.told _ _).2]) rfl (hR_4.ret (by omega) hb_4 (rfl))
end
end Go.Proofs.YtnilaghbbhmkgaaGreatDoor
namespace Go.Proofs.YtnilaghbbhmkgaaGreatDoor
open Go.RowKit
set_option linter.unusedVariables false
set_option maxRecDepth 100000

/-- Those that stand on the right of In. -/
noncomputable def ltop (v : List Nd) : List (List Nd) := if opV v = 5 then setR v else [v]
theorem ltop_is {v : List Nd} (h : IsV v) : ∀ x ∈ ltop v, IsV x := by
  intro x hx
  unfold ltop at hx
  split at hx
  · rename_i h5
    obtain ⟨hS, hE⟩ := setR_spec h.val h5
    refine ⟨hS.vals x hx, fun y hy => h.num y ?_⟩
    rw [hE]
    exact List.mem_cons_of_mem _ (List.mem_flatten.2 ⟨x, hx, hy⟩)
  · simp only [List.mem_singleton] at hx; subst hx; exact h
theorem ltop_len {v : List Nd} (h : IsV v) : (ltop v).length ≤ 200 := by
  have h1 : ∀ x ∈ ltop v, x ≠ [] := fun x hx => (ltop_is h x hx).ne
  have h2 : (ltop v).length ≤ (ltop v).flatten.length := by
    revert h1
    generalize ltop v = l
    intro h1
    induction l with
    | nil => simp
    | cons x l ih =>
      have := ih (fun y hy => h1 y (List.mem_cons_of_mem _ hy))
      have := List.length_pos_iff.2 (h1 x List.mem_cons_self)
      rw [List.flatten_cons, List.length_append, List.length_cons]
      omega
  have h3 : (ltop v).flatten.length ≤ v.length := by
    unfold ltop
    split
    · rename_i h5
      obtain ⟨hS, hE⟩ := setR_spec h.val h5
      have := congrArg List.length hE
      have e : (setN (setR v)).length = (setR v).flatten.length + 1 := rfl
      omega
    · simp
  have := h.len
  omega
theorem uidsE_top (v : List Nd) : uidsE v = if (∀ x ∈ ltop v, opV x = 4) then some ((ltop v).map uidV) else none := by
  unfold uidsE ltop
  by_cases h5 : opV v = 5
  · rw [if_pos h5, if_pos h5]
  · rw [if_neg h5, if_neg h5]
    by_cases h4 : opV v = 4
    · rw [if_pos h4, if_pos (by simpa using h4)]; rfl
    · rw [if_neg h4, if_neg (by simpa using h4)]
open Classical in
theorem in_yes {es : List En} {a v : List Nd} (h : opV a = 4) : inE es a v = if (∀ x ∈ ltop v, opV x = 4) then .ok (tN (decide (∃ x ∈ ltop v, Inn es (uidV a) (uidV x)))) else .error 2 := by
  unfold inE
  rw [if_pos h, uidsE_top]
  by_cases h4 : ∀ x ∈ ltop v, opV x = 4
  · rw [if_pos h4, if_pos h4]
    simp only
    congr 2
    rw [decide_eq_decide]
    constructor
    · rintro ⟨t, ht, h⟩
      obtain ⟨x, hx, rfl⟩ := List.mem_map.1 ht
      exact ⟨x, hx, h.elim (fun e => .inl e.symm) .inr⟩
    · rintro ⟨x, hx, h⟩
      exact ⟨uidV x, List.mem_map.2 ⟨x, hx, rfl⟩, h.elim (fun e => .inl e.symm) .inr⟩
  · rw [if_neg h4, if_neg h4]
theorem in_no {es : List En} {a v : List Nd} (h : opV a ≠ 4) : inE es a v = .error 2 := by
  unfold inE
  rw [if_neg h]
/-- A uid in a block of its own. -/
structure UB2 (w : World) (B : Nat) (s t : ByteArray) : Prop where
  blk : w.heap[B]? = some (.cells #[.string s, .string t] 24 (0, 0))
theorem UB2.lt {w : World} {B : Nat} {s t : ByteArray} (h : UB2 w B s t) : B < w.heap.size := (Array.getElem?_eq_some_iff.1 h.blk).1
theorem UB2.up {w w' : World} {B : Nat} {s t : ByteArray} (h : UB2 w B s t) (hb : Below w.heap.size w w') : UB2 w' B s t := ⟨(hb.block B h.lt).trans h.blk⟩
theorem UB2.cells {w : World} {B : Nat} {s t : ByteArray} (h : UB2 w B s t) : w.cell? ⟨B, 0, none⟩ = some (.string s) ∧ w.cell? ⟨B, 1, none⟩ = some (.string t) := by
  have := h.blk
  simp [World.cell?, this]
theorem parts_arg {l : List (List Nd)} {v : List Nd} {m d : Nat} {p : Option Addr} {w : World} (hS : IsSet l) (hE : v = setN l) (g : VArg w v m p d) : Calls Tryz.prog 112 #[.slice p m d] w fun e w' => (∃ q1 c1 q2 c2, e = .returned (.tuple #[.slice q1 l.length c1, .slice q2 l.length c2]) ∧ LL w' q1 l) ∧ Below w.heap.size w w' := by
  subst hE
  obtain rfl : (setN l).length = m := g.len
  exact refParts_row l p d w g.nl g.le g.cm hS
theorem ll_one {w : World} {v : List Nd} {m d : Nat} {p : Option Addr} {T : TypeId} (g : VArg w v m p d) : LL (w.alloc (.cells #[.slice p m d] T)) (some ⟨w.heap.size, 0, none⟩) [v] := by
  obtain rfl : v.length = m := g.len
  refine .inr ⟨w.heap.size, 0, rfl, by simp, fun i x hx => ?_⟩
  match i, hx with
  | 0, hx =>
    simp at hx
    subst hx
    exact ⟨p, d, by simp, g.nl.up ((Below.refl _ _).alloc (Nat.le_refl _) _), g.le, g.cm⟩
section
open Classical
variable {es : List En} {q0 : Rq} (ps : Option Addr) (cs : Nat) (a v : List Nd) (n m : Nat) (q p : Option Addr) (c d : Nat) (w : World)
set_option maxHeartbeats 4000000 in
theorem in_set_no (h : VArg w a n q c) (g : VArg w v m p d) (hl : EL w ps es) (ho : EnvOk es q0) (v5 : opV v = 5) (a4 : opV a ≠ 4) :
    Calls Tryz.prog 74 #[.slice ps es.length cs, .agg #[.slice q n c, .int .i64 0], .agg #[.slice p m d, .int .i64 0]] w fun e w' => GRet (inE es a v) e w' ∧ Below w.heap.size w w' := by
  obtain ⟨y, r, b, off, rfl, rfl, hbb0, _, _, _, _, _, hn1⟩ := h.head
  obtain ⟨z, t, b2, off2, rfl, rfl, hbb2, _, _, _, _, _, hn2⟩ := g.head
  have i0 : (0 : Int) < (n : Int) := by omega
  have i9 : (0 : Int) < (m : Int) := by omega
  obtain ⟨W, hW⟩ : ∃ W, W = ((w.alloc (.cells #[.slice (some ⟨b, off, none⟩) n c, .int .i64 0] 30)).alloc (.cells #[.slice (some ⟨b2, off2, none⟩) m d, .int .i64 0] 30)).alloc (.cells #[.slice none 0 0, .int .i64 0] 30) := ⟨_, rfl⟩
  have hb_0 : Below w.heap.size w W := by rw [hW]; exact (((Below.refl _ _).alloc (Nat.le_refl _) _).alloc (by simp) _).alloc (by simp; omega) _
  have hg_0 : GB W w.heap.size (some ⟨b, off, none⟩) n c := by rw [hW]; exact ((GB.new w _ _ _ rfl).up ((Below.refl _ _).alloc (Nat.le_refl _) _)).up ((Below.refl _ _).alloc (Nat.le_refl _) _)
  have hk_0 : GB W (w.heap.size + 1) (some ⟨b2, off2, none⟩) m d := by rw [hW]; exact (GB.new _ _ _ _ (by simp)).up ((Below.refl _ _).alloc (Nat.le_refl _) _)
  have hR_0 : GR W (w.heap.size + 1 + 1) := by rw [hW]; exact GR.new _ (by simp)
  have hv_0 := h.up hb_0
  have hu_0 := g.up hb_0
  have he_0 := hl.up hb_0
  have HI5 := fun w1 h1 => refIs_any w1 (z :: t) m (some ⟨b2, off2, none⟩) d 5 h1
  rw [show (opV (z :: t) == 5) = true by simpa using v5] at HI5
  have HI4 := fun w1 h1 => refIs_any w1 (y :: r) n (some ⟨b, off, none⟩) c 4 h1
  rw [show (opV (y :: r) == 4) = false by simpa using a4] at HI4
  have hlt := ltop_is g.is
  have HLN : Hid ((ltop (z :: t)).length ≤ 200) := ltop_len g.is
  obtain ⟨hS, hE⟩ := setR_spec g.is.val v5
  have HPT := fun w1 (h2 : VArg w1 (z :: t) m (some ⟨b2, off2, none⟩) d) => parts_arg hS hE h2
  have HLT : Hid (ltop (z :: t) = setR (z :: t)) := if_pos v5
  have HIN : Hid (inE es (y :: r) (z :: t) = .error 2) := in_no a4
  obtain ⟨RR, hRR⟩ : ∃ R, inE es (y :: r) (z :: t) = R := ⟨_, rfl⟩
  rw [hRR]
  rw [hRR] at HIN
  clear hRR
  have hWs : W.heap.size = w.heap.size + 1 + 1 + 1 := by rw [hW]; simp
  have hzl := g.len
  clear h g hl v5 a4 hS hE
  go_enter Tryz.func74, Tryz.ntmps74
  obtain ⟨g0, g1⟩ := hg_0.cells
  obtain ⟨k0, k1⟩ := hk_0.cells
  obtain ⟨c0, c1, c2, c3⟩ := hv_0.cells
  obtain ⟨m0, m1, m2, m3⟩ := hu_0.cells
  obtain ⟨r0, r1, f0, f1⟩ := hR_0.cells
  go_wp2_with fail
  rw [← hW]
  clear hW g0 g1 k0 k1 c0 c1 c2 c3 m0 m1 m2 m3 r0 r1 f0 f1
  obtain ⟨w1, hw1⟩ : ∃ V, V = W.alloc (.cells #[.slice (some ⟨b2, off2, none⟩) m d] 25) := ⟨_, rfl⟩
  rw [← hw1]
  have hbb : Below W.heap.size W w1 := by rw [hw1]; exact (Below.refl _ _).alloc (Nat.le_refl _) _
  clear hw1 hWs
  have hb_1 := qbt hb_0 hbb
  have hg_1 := hg_0.up hbb
  have hk_1 := hk_0.up hbb
  have hv_1 := hv_0.up hbb
  have hu_1 := hu_0.up hbb
  have hR_1 := hR_0.up hbb
  have he_1 := he_0.up hbb
  clear hbb hb_0 hg_0 hk_0 hv_0 hu_0 hR_0 he_0
  refine (HI5 _ hu_1).mono ?_
  rintro _ w2 ⟨rfl, hbb⟩
  have hb_2 := qbt hb_1 hbb
  have hg_2 := hg_1.up hbb
  have hk_2 := hk_1.up hbb
  have hv_2 := hv_1.up hbb
  have hu_2 := hu_1.up hbb
  have hR_2 := hR_1.up hbb
  have he_2 := he_1.up hbb
  clear hbb hb_1 hg_1 hk_1 hv_1 hu_1 hR_1 he_1
  obtain ⟨g0, g1⟩ := hg_2.cells
  obtain ⟨k0, k1⟩ := hk_2.cells
  obtain ⟨c0, c1, c2, c3⟩ := hv_2.cells
  obtain ⟨m0, m1, m2, m3⟩ := hu_2.cells
  obtain ⟨r0, r1, f0, f1⟩ := hR_2.cells
  go_wp2_with fail
  refine (HPT _ hu_2).mono ?_
  rintro _ w3 ⟨⟨qt, ct, qn, cn, rfl, hlx⟩, hbb⟩
  clear g0 g1 k0 k1 c0 c1 c2 c3 m0 m1 m2 m3 r0 r1 f0 f1
  have hb_3 := qbt hb_2 hbb
  have hg_3 := hg_2.up hbb
  have hk_3 := hk_2.up hbb
  have hv_3 := hv_2.up hbb
  have hu_3 := hu_2.up hbb
  have hR_3 := hR_2.up hbb
  have he_3 := he_2.up hbb
  clear hbb hb_2 hg_2 hk_2 hv_2 hu_2 hR_2 he_2
  have hl_3 := hlx
  clear hlx
  rw [← HLT.out] at hl_3
  obtain ⟨g0, g1⟩ := hg_3.cells
  obtain ⟨k0, k1⟩ := hk_3.cells
  obtain ⟨c0, c1, c2, c3⟩ := hv_3.cells
  obtain ⟨m0, m1, m2, m3⟩ := hu_3.cells
  obtain ⟨r0, r1, f0, f1⟩ := hR_3.cells
  go_wp2_with fail
  refine (HI4 _ hv_3).mono ?_
  rintro _ w4 ⟨rfl, hbb⟩
  clear g0 g1 k0 k1 c0 c1 c2 c3 m0 m1 m2 m3 r0 r1 f0 f1
  have hb_4 := qbt hb_3 hbb
  have hg_4 := hg_3.up hbb
  have hk_4 := hk_3.up hbb
  have hv_4 := hv_3.up hbb
  have hu_4 := hu_3.up hbb
  have hR_4 := hR_3.up hbb
  have he_4 := he_3.up hbb
  have hl_4 := hl_3.up hbb
  clear hbb hb_3 hg_3 hk_3 hv_3 hu_3 hR_3 he_3 hl_3
  rw [← HLT.out]
  clear HLT
  generalize ltop (z :: t) = lt at *
  have HIV : Hid (∀ x ∈ lt, IsV x) := hlt
  clear hlt
  obtain ⟨g0, g1⟩ := hg_4.cells
  obtain ⟨k0, k1⟩ := hk_4.cells
  obtain ⟨c0, c1, c2, c3⟩ := hv_4.cells
  obtain ⟨m0, m1, m2, m3⟩ := hu_4.cells
  obtain ⟨r0, r1, f0, f1⟩ := hR_4.cells
  go_wp2_with fail
  go_loopw [8, 9] (fun ov i wr => ∃ (k : Nat) (o : Bool), k ≤ lt.length ∧ i = .int .i64 k ∧ ov = .bool o ∧ Hid (o = true ↔ (False ∧ ∀ x ∈ lt.take k, opV x = 4)) ∧ wr = w4) (fun _ i _ => lt.length - (intOf i).toNat)
  case atStart => exact ⟨0, false, Nat.zero_le _, rfl, rfl, by simp [Hid], rfl⟩
  case round =>
    obtain ⟨k, o, hk, rfl, rfl, HO, rfl⟩ := hrel
    have hln : lt.length ≤ 200 := HLN.out
    by_cases hkl : k < lt.length
    · have i1 : (k : Int) < (lt.length : Int) := by omega
      obtain ⟨bl, ol, qx, cx, rfl, hbl, x0, xnl, xle, xcm⟩ := hl_4.at hkl
      have hxv := HIV.out lt[k] (List.getElem_mem hkl)
      have HT : Hid (lt.take (k + 1) = lt.take k ++ [lt[k]]) := List.take_succ_eq_append_getElem hkl
      obtain ⟨xx, xr, bx, ox, ex, rfl, hbx, e0, _⟩ := (VArg.mk rfl xnl xle xcm hxv : VArg _ lt[k] lt[k].length _ _).head
      have i3 : (0 : Int) < (lt[k].length : Int) := by rw [ex]; simp
      have HX : Hid (opV lt[k] = xx.op) := by show _ = _; rw [ex]; rfl
      generalize lt[k] = x at *
      clear ex hxv xnl
      by_cases h4 : xx.op = 4
      · have e4 : (xx.op != 4) = false := by simpa using h4
        have HO2 : Hid (o = true ↔ (False ∧ ∀ y ∈ lt.take (k + 1), opV y = 4)) := by
          show _ ↔ _
          rw [HO.out, HT.out]
          constructor
          · rintro ⟨h1, h2⟩
            refine ⟨h1, fun y hy => ?_⟩
            rcases List.mem_append.1 hy with hy | hy
            · exact h2 y hy
            · simp only [List.mem_singleton] at hy; subst hy; rw [HX.out]; exact h4
          · exact fun ⟨h1, h2⟩ => ⟨h1, fun y hy => h2 y (List.mem_append_left _ hy)⟩
        clear h4 HO HX
        go_wp2
        go_roundw
        case rel => exact ⟨k + 1, o, by omega, by go_num, rfl, HO2, trivial⟩
        case measure => simp [intOf]; omega
      · have e4 : (xx.op != 4) = true := by simpa using h4
        have HO2 : Hid (false = true ↔ (False ∧ ∀ y ∈ lt.take (k + 1), opV y = 4)) := by
          show _ ↔ _
          rw [HT.out]
          refine ⟨(fun h => by cases h), fun ⟨_, h2⟩ => ?_⟩
          exact absurd (h2 x (List.mem_append_right _ (List.mem_singleton.2 rfl))) (by rw [HX.out]; exact h4)
        clear h4 HO HX
        go_wp2
        go_roundw
        case rel => exact ⟨k + 1, false, by omega, by go_num, rfl, HO2, trivial⟩
        case measure => simp [intOf]; omega
    · have i1 : ¬ (k : Int) < (lt.length : Int) := by omega
      have HOA : Hid (o = true ↔ (False ∧ ∀ x ∈ lt, opV x = 4)) := by have := HO.out; rw [List.take_of_length_le (by omega)] at this; exact this
      clear HO
      cases o with
      | false =>
        have HR : Hid (RR = .error 2) := by show _ = _; exact HIN.out
        clear HIN HOA
        obtain ⟨g0, g1⟩ := hg_4.cells
        obtain ⟨k0, k1⟩ := hk_4.cells
        obtain ⟨c0, c1, c2, c3⟩ := hv_4.cells
        obtain ⟨m0, m1, m2, m3⟩ := hu_4.cells
        obtain ⟨r0, r1, f0, f1⟩ := hR_4.cells
        go_wp2_with fail
        refine (refBad_any _ 2).mono ?_
        rintro _ w5 ⟨rfl, hbb⟩
        clear g0 g1 k0 k1 c0 c1 c2 c3 m0 m1 m2 m3 r0 r1 f0 f1
        have hb_5 := qbt hb_4 hbb
        have hg_5 := hg_4.up hbb
        have hk_5 := hk_4.up hbb
        have hv_5 := hv_4.up hbb
        have hu_5 := hu_4.up hbb
        have hR_5 := hR_4.up hbb
        have he_5 := he_4.up hbb
        have hl_5 := hl_4.up hbb
        clear hbb hb_4 hg_4 hk_4 hv_4 hu_4 hR_4 he_4 hl_4
        obtain ⟨g0, g1⟩ := hg_5.cells
        obtain ⟨k0, k1⟩ := hk_5.cells
        obtain ⟨c0, c1, c2, c3⟩ := hv_5.cells
        obtain ⟨m0, m1, m2, m3⟩ := hu_5.cells
        obtain ⟨r0, r1, f0, f1⟩ := hR_5.cells
        go_wp2
        exact bodyPost_ret (v := .agg #[.slice none 0 0, .int .i64 2]) (by simp [results, Tryz.results74, go_sem, (hR_5.told _ _).1, (hR_5.told _ _).2]) rfl (hR_5.ret (by omega) hb_5 (by rw [HR.out]; exact rfl))
      | true =>
        exact absurd (HOA.out.1 rfl).1 id

set_option maxHeartbeats 4000000 in
theorem in_set_yes (h : VArg w a n q c) (g : VArg w v m p d) (hl : EL w ps es) (ho : EnvOk es q0) (v5 : opV v = 5) (a4 : opV a = 4) :
    Calls Tryz.prog 74 #[.slice ps es.length cs, .agg #[.slice q n c, .int .i64 0], .agg #[.slice p m d, .int .i64 0]] w fun e w' => GRet (inE es a v) e w' ∧ Below w.heap.size w w' := by
  obtain ⟨y, r, b, off, rfl, rfl, hbb0, _, _, _, _, _, hn1⟩ := h.head
  obtain ⟨z, t, b2, off2, rfl, rfl, hbb2, _, _, _, _, _, hn2⟩ := g.head
  have i0 : (0 : Int) < (n : Int) := by omega
  have i9 : (0 : Int) < (m : Int) := by omega
  obtain ⟨W, hW⟩ : ∃ W, W = ((w.alloc (.cells #[.slice (some ⟨b, off, none⟩) n c, .int .i64 0] 30)).alloc (.cells #[.slice (some ⟨b2, off2, none⟩) m d, .int .i64 0] 30)).alloc (.cells #[.slice none 0 0, .int .i64 0] 30) := ⟨_, rfl⟩
  have hb_0 : Below w.heap.size w W := by rw [hW]; exact (((Below.refl _ _).alloc (Nat.le_refl _) _).alloc (by simp) _).alloc (by simp; omega) _
  have hg_0 : GB W w.heap.size (some ⟨b, off, none⟩) n c := by rw [hW]; exact ((GB.new w _ _ _ rfl).up ((Below.refl _ _).alloc (Nat.le_refl _) _)).up ((Below.refl _ _).alloc (Nat.le_refl _) _)
  have hk_0 : GB W (w.heap.size + 1) (some ⟨b2, off2, none⟩) m d := by rw [hW]; exact (GB.new _ _ _ _ (by simp)).up ((Below.refl _ _).alloc (Nat.le_refl _) _)
  have hR_0 : GR W (w.heap.size + 1 + 1) := by rw [hW]; exact GR.new _ (by simp)
  have hv_0 := h.up hb_0
  have hu_0 := g.up hb_0
  have he_0 := hl.up hb_0
  have HI5 := fun w1 h1 => refIs_any w1 (z :: t) m (some ⟨b2, off2, none⟩) d 5 h1
  rw [show (opV (z :: t) == 5) = true by simpa using v5] at HI5
  have HI4 := fun w1 h1 => refIs_any w1 (y :: r) n (some ⟨b, off, none⟩) c 4 h1
  rw [show (opV (y :: r) == 4) = true by simpa using a4] at HI4
  have hlt := ltop_is g.is
  have HLN : Hid ((ltop (z :: t)).length ≤ 200) := ltop_len g.is
  obtain ⟨hS, hE⟩ := setR_spec g.is.val v5
  have HPT := fun w1 (h2 : VArg w1 (z :: t) m (some ⟨b2, off2, none⟩) d) => parts_arg hS hE h2
  have HLT : Hid (ltop (z :: t) = setR (z :: t)) := if_pos v5
  have HIN : Hid (inE es (y :: r) (z :: t) = if (∀ x ∈ ltop (z :: t), opV x = 4) then .ok (tN (decide (∃ x ∈ ltop (z :: t), Inn es (uidV (y :: r)) (uidV x)))) else .error 2) := in_yes a4
  obtain ⟨RR, hRR⟩ : ∃ R, inE es (y :: r) (z :: t) = R := ⟨_, rfl⟩
  rw [hRR]
  rw [hRR] at HIN
  clear hRR
  have hWs : W.heap.size = w.heap.size + 1 + 1 + 1 := by rw [hW]; simp
  have hzl := g.len
  clear h g hl v5 a4 hS hE
  go_enter Tryz.func74, Tryz.ntmps74
  obtain ⟨g0, g1⟩ := hg_0.cells
  obtain ⟨k0, k1⟩ := hk_0.cells
  obtain ⟨c0, c1, c2, c3⟩ := hv_0.cells
  obtain ⟨m0, m1, m2, m3⟩ := hu_0.cells
  obtain ⟨r0, r1, f0, f1⟩ := hR_0.cells
  go_wp2_with fail
  rw [← hW]
  clear hW g0 g1 k0 k1 c0 c1 c2 c3 m0 m1 m2 m3 r0 r1 f0 f1
  obtain ⟨w1, hw1⟩ : ∃ V, V = W.alloc (.cells #[.slice (some ⟨b2, off2, none⟩) m d] 25) := ⟨_, rfl⟩
  rw [← hw1]
  have hbb : Below W.heap.size W w1 := by rw [hw1]; exact (Below.refl _ _).alloc (Nat.le_refl _) _
  clear hw1 hWs
  have hb_1 := qbt hb_0 hbb
  have hg_1 := hg_0.up hbb
  have hk_1 := hk_0.up hbb
  have hv_1 := hv_0.up hbb
  have hu_1 := hu_0.up hbb
  have hR_1 := hR_0.up hbb
  have he_1 := he_0.up hbb
  clear hbb hb_0 hg_0 hk_0 hv_0 hu_0 hR_0 he_0
  refine (HI5 _ hu_1).mono ?_
  rintro _ w2 ⟨rfl, hbb⟩
  have hb_2 := qbt hb_1 hbb
  have hg_2 := hg_1.up hbb
  have hk_2 := hk_1.up hbb
  have hv_2 := hv_1.up hbb
  have hu_2 := hu_1.up hbb
  have hR_2 := hR_1.up hbb
  have he_2 := he_1.up hbb
  clear hbb hb_1 hg_1 hk_1 hv_1 hu_1 hR_1 he_1
  obtain ⟨g0, g1⟩ := hg_2.cells
  obtain ⟨k0, k1⟩ := hk_2.cells
  obtain ⟨c0, c1, c2, c3⟩ := hv_2.cells
  obtain ⟨m0, m1, m2, m3⟩ := hu_2.cells
  obtain ⟨r0, r1, f0, f1⟩ := hR_2.cells
  go_wp2_with fail
  refine (HPT _ hu_2).mono ?_
  rintro _ w3 ⟨⟨qt, ct, qn, cn, rfl, hlx⟩, hbb⟩
  clear g0 g1 k0 k1 c0 c1 c2 c3 m0 m1 m2 m3 r0 r1 f0 f1
  have hb_3 := qbt hb_2 hbb
  have hg_3 := hg_2.up hbb
  have hk_3 := hk_2.up hbb
  have hv_3 := hv_2.up hbb
  have hu_3 := hu_2.up hbb
  have hR_3 := hR_2.up hbb
  have he_3 := he_2.up hbb
  clear hbb hb_2 hg_2 hk_2 hv_2 hu_2 hR_2 he_2
  have hl_3 := hlx
  clear hlx
  rw [← HLT.out] at hl_3
  obtain ⟨g0, g1⟩ := hg_3.cells
  obtain ⟨k0, k1⟩ := hk_3.cells
  obtain ⟨c0, c1, c2, c3⟩ := hv_3.cells
  obtain ⟨m0, m1, m2, m3⟩ := hu_3.cells
  obtain ⟨r0, r1, f0, f1⟩ := hR_3.cells
  go_wp2_with fail
  refine (HI4 _ hv_3).mono ?_
  rintro _ w4 ⟨rfl, hbb⟩
  clear g0 g1 k0 k1 c0 c1 c2 c3 m0 m1 m2 m3 r0 r1 f0 f1
  have hb_4 := qbt hb_3 hbb
  have hg_4 := hg_3.up hbb
  have hk_4 := hk_3.up hbb
  have hv_4 := hv_3.up hbb
  have hu_4 := hu_3.up hbb
  have hR_4 := hR_3.up hbb
  have he_4 := he_3.up hbb
  have hl_4 := hl_3.up hbb
  clear hbb hb_3 hg_3 hk_3 hv_3 hu_3 hR_3 he_3 hl_3
  rw [← HLT.out]
  clear HLT
  generalize ltop (z :: t) = lt at *
  have HIV : Hid (∀ x ∈ lt, IsV x) := hlt
  clear hlt
  obtain ⟨g0, g1⟩ := hg_4.cells
  obtain ⟨k0, k1⟩ := hk_4.cells
  obtain ⟨c0, c1, c2, c3⟩ := hv_4.cells
  obtain ⟨m0, m1, m2, m3⟩ := hu_4.cells
  obtain ⟨r0, r1, f0, f1⟩ := hR_4.cells
  go_wp2_with fail
  go_loopw [8, 9] (fun ov i wr => ∃ (k : Nat) (o : Bool), k ≤ lt.length ∧ i = .int .i64 k ∧ ov = .bool o ∧ Hid (o = true ↔ (True ∧ ∀ x ∈ lt.take k, opV x = 4)) ∧ wr = w4) (fun _ i _ => lt.length - (intOf i).toNat)
  case atStart => exact ⟨0, true, Nat.zero_le _, rfl, rfl, by simp [Hid], rfl⟩
  case round =>
    obtain ⟨k, o, hk, rfl, rfl, HO, rfl⟩ := hrel
    have hln : lt.length ≤ 200 := HLN.out
    by_cases hkl : k < lt.length
    · have i1 : (k : Int) < (lt.length : Int) := by omega
      obtain ⟨bl, ol, qx, cx, rfl, hbl, x0, xnl, xle, xcm⟩ := hl_4.at hkl
      have hxv := HIV.out lt[k] (List.getElem_mem hkl)
      have HT : Hid (lt.take (k + 1) = lt.take k ++ [lt[k]]) := List.take_succ_eq_append_getElem hkl
      obtain ⟨xx, xr, bx, ox, ex, rfl, hbx, e0, _⟩ := (VArg.mk rfl xnl xle xcm hxv : VArg _ lt[k] lt[k].length _ _).head
      have i3 : (0 : Int) < (lt[k].length : Int) := by rw [ex]; simp
      have HX : Hid (opV lt[k] = xx.op) := by show _ = _; rw [ex]; rfl
      generalize lt[k] = x at *
      clear ex hxv xnl
      by_cases h4 : xx.op = 4
      · have e4 : (xx.op != 4) = false := by simpa using h4
        have HO2 : Hid (o = true ↔ (True ∧ ∀ y ∈ lt.take (k + 1), opV y = 4)) := by
          show _ ↔ _
          rw [HO.out, HT.out]
          constructor
          · rintro ⟨h1, h2⟩
            refine ⟨h1, fun y hy => ?_⟩
            rcases List.mem_append.1 hy with hy | hy
            · exact h2 y hy
            · simp only [List.mem_singleton] at hy; subst hy; rw [HX.out]; exact h4
          · exact fun ⟨h1, h2⟩ => ⟨h1, fun y hy => h2 y (List.mem_append_left _ hy)⟩
        clear h4 HO HX
        go_wp2
        go_roundw
        case rel => exact ⟨k + 1, o, by omega, by go_num, rfl, HO2, trivial⟩
        case measure => simp [intOf]; omega
      · have e4 : (xx.op != 4) = true := by simpa using h4
        have HO2 : Hid (false = true ↔ (True ∧ ∀ y ∈ lt.take (k + 1), opV y = 4)) := by
          show _ ↔ _
          rw [HT.out]
          refine ⟨(fun h => by cases h), fun ⟨_, h2⟩ => ?_⟩
          exact absurd (h2 x (List.mem_append_right _ (List.mem_singleton.2 rfl))) (by rw [HX.out]; exact h4)
        clear h4 HO HX
        go_wp2
        go_roundw
        case rel => exact ⟨k + 1, false, by omega, by go_num, rfl, HO2, trivial⟩
        case measure => simp [intOf]; omega
    · have i1 : ¬ (k : Int) < (lt.length : Int) := by omega
      have HOA : Hid (o = true ↔ (True ∧ ∀ x ∈ lt, opV x = 4)) := by have := HO.out; rw [List.take_of_length_le (by omega)] at this; exact this
      clear HO
      cases o with
      | false =>
        have HR : Hid (RR = .error 2) := by show _ = _; rw [HIN.out, if_neg (fun h => absurd (HOA.out.2 ⟨trivial, h⟩) (by decide))]
        clear HIN HOA
        obtain ⟨g0, g1⟩ := hg_4.cells
        obtain ⟨k0, k1⟩ := hk_4.cells
        obtain ⟨c0, c1, c2, c3⟩ := hv_4.cells
        obtain ⟨m0, m1, m2, m3⟩ := hu_4.cells
        obtain ⟨r0, r1, f0, f1⟩ := hR_4.cells
        go_wp2_with fail
        refine (refBad_any _ 2).mono ?_
        rintro _ w5 ⟨rfl, hbb⟩
        clear g0 g1 k0 k1 c0 c1 c2 c3 m0 m1 m2 m3 r0 r1 f0 f1
        have hb_5 := qbt hb_4 hbb
        have hg_5 := hg_4.up hbb
        have hk_5 := hk_4.up hbb
        have hv_5 := hv_4.up hbb
        have hu_5 := hu_4.up hbb
        have hR_5 := hR_4.up hbb
        have he_5 := he_4.up hbb
        have hl_5 := hl_4.up hbb
        clear hbb hb_4 hg_4 hk_4 hv_4 hu_4 hR_4 he_4 hl_4
        obtain ⟨g0, g1⟩ := hg_5.cells
        obtain ⟨k0, k1⟩ := hk_5.cells
        obtain ⟨c0, c1, c2, c3⟩ := hv_5.cells
        obtain ⟨m0, m1, m2, m3⟩ := hu_5.cells
        obtain ⟨r0, r1, f0, f1⟩ := hR_5.cells
        go_wp2
        exact bodyPost_ret (v := .agg #[.slice none 0 0, .int .i64 2]) (by simp [results, Tryz.results74, go_sem, (hR_5.told _ _).1, (hR_5.told _ _).2]) rfl (hR_5.ret (by omega) hb_5 (by rw [HR.out]; exact rfl))
      | true =>
        have HR : Hid (RR = .ok (tN (decide (∃ x ∈ lt, Inn es ⟨y.s, y.t⟩ (uidV x))))) := by show _ = _; rw [HIN.out, if_pos (HOA.out.1 rfl).2]; rfl
        clear HIN HOA
        have HUO := fun w1 => refUidOf_any w1 y.op y.n y.s y.t
        have hfew := few_of (by have := (stf_zero ho.st).few; omega) (stf_list ho.st)
        obtain ⟨g0, g1⟩ := hg_4.cells
        obtain ⟨k0, k1⟩ := hk_4.cells
        obtain ⟨c0, c1, c2, c3⟩ := hv_4.cells
        obtain ⟨m0, m1, m2, m3⟩ := hu_4.cells
        obtain ⟨r0, r1, f0, f1⟩ := hR_4.cells
        go_wp2_with fail
        refine (HUO _).mono ?_
        rintro _ w5 ⟨rfl, hbb⟩
        clear g0 g1 k0 k1 c0 c1 c2 c3 m0 m1 m2 m3 r0 r1 f0 f1
        have hb_5 := qbt hb_4 hbb
        have hg_5 := hg_4.up hbb
        have hk_5 := hk_4.up hbb
        have hv_5 := hv_4.up hbb
        have hu_5 := hu_4.up hbb
        have hR_5 := hR_4.up hbb
        have he_5 := he_4.up hbb
        have hl_5 := hl_4.up hbb
        clear hbb hb_4 hg_4 hk_4 hv_4 hu_4 hR_4 he_4 hl_4
        obtain ⟨g0, g1⟩ := hg_5.cells
        obtain ⟨k0, k1⟩ := hk_5.cells
        obtain ⟨c0, c1, c2, c3⟩ := hv_5.cells
        obtain ⟨m0, m1, m2, m3⟩ := hu_5.cells
        obtain ⟨r0, r1, f0, f1⟩ := hR_5.cells
        go_wp2_with fail
        obtain ⟨w6, hw⟩ : ∃ V, V = w5.alloc (.cells #[.string y.s, .string y.t] 24) := ⟨_, rfl⟩
        rw [← hw]
        have hbb : Below w5.heap.size w5 w6 := by rw [hw]; exact (Below.refl _ _).alloc (Nat.le_refl _) _
        have hU_6 : UB2 w6 w5.heap.size y.s y.t := by rw [hw]; exact ⟨new_at rfl⟩
        have hb_6 := qbt hb_5 hbb
        have hR_6 := hR_5.up hbb
        have he_6 := he_5.up hbb
        have hl_6 := hl_5.up hbb
        clear hw hbb g0 g1 k0 k1 c0 c1 c2 c3 m0 m1 m2 m3 r0 r1 f0 f1 hb_5 hR_5 he_5 hl_5
        generalize hys : y.s = us at *
        generalize hyt : y.t = ut at *
        clear hys hyt
        go_loopw [11] (fun i wr => ∃ k : Nat, k ≤ lt.length ∧ i = .int .i64 k ∧ Hid (∀ x ∈ lt.take k, ¬ Inn es ⟨us, ut⟩ (uidV x)) ∧ Below w6.heap.size w6 wr) (fun i _ => lt.length - (intOf i).toNat)
        case atStart => exact ⟨0, Nat.zero_le _, rfl, by simp [Hid], Below.refl _ _⟩
        case round =>
          rename World => wr
          obtain ⟨k2, hk2, rfl, HA, hbr⟩ := hrel
          by_cases hkl : k2 < lt.length
          · have i5 : (k2 : Int) < (lt.length : Int) := by omega
            obtain ⟨bl, ol, qx, cx, rfl, hbl, x0, xnl, xle, xcm⟩ := (hl_6.up hbr).at hkl
            have hxv := HIV.out lt[k2] (List.getElem_mem hkl)
            have HT : Hid (lt.take (k2 + 1) = lt.take k2 ++ [lt[k2]]) := List.take_succ_eq_append_getElem hkl
            have HM : Hid (lt[k2] ∈ lt) := List.getElem_mem hkl
            obtain ⟨xx, xr, bx, ox, ex, rfl, hbx, e0, e1, e2, e3, xwf, _⟩ := (VArg.mk rfl xnl xle xcm hxv : VArg _ lt[k2] lt[k2].length _ _).head
            have i6 : (0 : Int) < (lt[k2].length : Int) := by rw [ex]; simp
            have HX : Hid (uidV lt[k2] = ⟨xx.s, xx.t⟩) := by show _ = _; rw [ex]; rfl
            generalize lt[k2] = x at *
            clear ex hxv xnl
            have hUr := hU_6.up hbr
            obtain ⟨u0, u1⟩ := hUr.cells
            obtain ⟨r0, r1, f0, f1⟩ := (hR_6.up hbr).cells
            have HUX := fun w1 => refUidOf_any w1 xx.op xx.n xx.s xx.t
            have HOV := fun w1 (h1 : EL w1 ps es) => overB_any es ps cs ⟨us, ut⟩ ⟨xx.s, xx.t⟩ w1 h1 hfew
            have HI : Hid (Inn es ⟨us, ut⟩ (uidV x) → RR = .ok (tN true)) := fun h => by rw [HR.out, decide_eq_true ⟨x, HM.out, h⟩]
            rw [HX.out] at HI
            have hnext : Hid (¬ Inn es ⟨us, ut⟩ ⟨xx.s, xx.t⟩ → ∀ y ∈ lt.take (k2 + 1), ¬ Inn es ⟨us, ut⟩ (uidV y)) := by
              intro h y hy
              rw [HT.out] at hy
              rcases List.mem_append.1 hy with hy | hy
              · exact HA.out y hy
              · simp only [List.mem_singleton] at hy; subst hy; rw [HX.out]; exact h
            obtain ⟨xo, xn, xs, xt⟩ := xx
            dsimp only at e0 e1 e2 e3 HUX HOV HI hnext
            clear HX HA HT xwf
            by_cases hs : us = xs
            · by_cases ht : ut = xt
              · subst hs ht
                go_wp2_with fail
                refine (HUX _).mono ?_
                rintro _ w9 ⟨rfl, hb9⟩
                obtain ⟨u0', u1'⟩ := (hUr.up hb9).cells
                have hlt9 : w5.heap.size < w9.heap.size := (hUr.up hb9).lt
                have hbV : Below w9.heap.size w9 (w9.alloc (.cells #[.string us, .string ut] 24)) := (Below.refl _ _).alloc (Nat.le_refl _) _
                go_wp2_with fail
                refine (refTruth_any _ true).mono ?_
                rintro _ wa ⟨⟨q1, d1, rfl, hz⟩, hba⟩
                go_wp2_with fail
                refine (refGood_any _ q1 1 d1).mono ?_
                rintro _ wb ⟨rfl, hbg⟩
                have hbz : Below wr.heap.size wr wb := qbt (qbt (qbt hb9 hbV) hba) hbg
                have hRz := (hR_6.up hbr).up hbz
                obtain ⟨r0', r1', f0', f1'⟩ := hRz.cells
                go_wp2
                exact bodyPost_ret (v := .agg #[.slice q1 1 d1, .int .i64 0]) (by simp [results, Tryz.results74, go_sem, (hRz.told _ _).1, (hRz.told _ _).2]) rfl (hRz.ret (by omega) (qbt (qbt hb_6 hbr) hbz) (by rw [HI.out (.inl rfl)]; exact ⟨q1, d1, rfl, hz.up hbg⟩))
              · subst hs
                have n1 := tl_ne ht
                have HNE : Hid ((⟨us, ut⟩ : Ui) ≠ ⟨us, xt⟩) := fun e => ht (by cases e; rfl)
                clear ht
                go_wp2_with fail
                refine (HUX _).mono ?_
                rintro _ w9 ⟨rfl, hb9⟩
                obtain ⟨u0', u1'⟩ := (hUr.up hb9).cells
                have hlt9 : w5.heap.size < w9.heap.size := (hUr.up hb9).lt
                have hbV : Below w9.heap.size w9 (w9.alloc (.cells #[.string us, .string xt] 24)) := (Below.refl _ _).alloc (Nat.le_refl _) _
                go_wp2_with fail
                refine (HOV _ (((he_6.up hbr).up hb9).up hbV)).mono ?_
                rintro _ w10 ⟨rfl, hb10⟩
                cases hB : abvB es ⟨us, ut⟩ ⟨us, xt⟩ with
                | true =>
                  have HB : Hid (Abv es ⟨us, ut⟩ ⟨us, xt⟩) := (abvB_iff _ _ _).1 hB
                  clear hB
                  go_wp2_with fail
                  refine (refTruth_any _ true).mono ?_
                  rintro _ wa ⟨⟨q1, d1, rfl, hz⟩, hba⟩
                  go_wp2_with fail
                  refine (refGood_any _ q1 1 d1).mono ?_
                  rintro _ wb ⟨rfl, hbg⟩
                  have hbz : Below wr.heap.size wr wb := qbt (qbt (qbt (qbt hb9 hbV) hb10) hba) hbg
                  have hRz := (hR_6.up hbr).up hbz
                  obtain ⟨r0', r1', f0', f1'⟩ := hRz.cells
                  go_wp2
                  exact bodyPost_ret (v := .agg #[.slice q1 1 d1, .int .i64 0]) (by simp [results, Tryz.results74, go_sem, (hRz.told _ _).1, (hRz.told _ _).2]) rfl (hRz.ret (by omega) (qbt (qbt hb_6 hbr) hbz) (by rw [HI.out (.inr HB.out)]; exact ⟨q1, d1, rfl, hz.up hbg⟩))
                | false =>
                  have HB : Hid (¬ Abv es ⟨us, ut⟩ ⟨us, xt⟩) := fun h => by rw [(abvB_iff _ _ _).2 h] at hB; cases hB
                  have HN : Hid (_) := hnext.out (fun h => h.elim (fun e => HNE.out e) HB.out)
                  clear hB HNE HI hnext
                  go_wp2_with fail
                  go_roundw
                  case rel => exact ⟨k2 + 1, by omega, by go_num, HN, qbt hbr (qbt (qbt hb9 hbV) hb10)⟩
                  case measure => simp [intOf]; omega
            · have n1 := tl_ne hs
              have HNE : Hid ((⟨us, ut⟩ : Ui) ≠ ⟨xs, xt⟩) := fun e => hs (by cases e; rfl)
              clear hs
              go_wp2_with fail
              refine (HUX _).mono ?_
              rintro _ w9 ⟨rfl, hb9⟩
              obtain ⟨u0', u1'⟩ := (hUr.up hb9).cells
              have hlt9 : w5.heap.size < w9.heap.size := (hUr.up hb9).lt
              have hbV : Below w9.heap.size w9 (w9.alloc (.cells #[.string xs, .string xt] 24)) := (Below.refl _ _).alloc (Nat.le_refl _) _
              go_wp2_with fail
              refine (HOV _ (((he_6.up hbr).up hb9).up hbV)).mono ?_
              rintro _ w10 ⟨rfl, hb10⟩
              cases hB : abvB es ⟨us, ut⟩ ⟨xs, xt⟩ with
              | true =>
                have HB : Hid (Abv es ⟨us, ut⟩ ⟨xs, xt⟩) := (abvB_iff _ _ _).1 hB
                clear hB
                go_wp2_with fail
                refine (refTruth_any _ true).mono ?_
                rintro _ wa ⟨⟨q1, d1, rfl, hz⟩, hba⟩
                go_wp2_with fail
                refine (refGood_any _ q1 1 d1).mono ?_
                rintro _ wb ⟨rfl, hbg⟩
                have hbz : Below wr.heap.size wr wb := qbt (qbt (qbt (qbt hb9 hbV) hb10) hba) hbg
                have hRz := (hR_6.up hbr).up hbz
                obtain ⟨r0', r1', f0', f1'⟩ := hRz.cells
                go_wp2
                exact bodyPost_ret (v := .agg #[.slice q1 1 d1, .int .i64 0]) (by simp [results, Tryz.results74, go_sem, (hRz.told _ _).1, (hRz.told _ _).2]) rfl (hRz.ret (by omega) (qbt (qbt hb_6 hbr) hbz) (by rw [HI.out (.inr HB.out)]; exact ⟨q1, d1, rfl, hz.up hbg⟩))
              | false =>
                have HB : Hid (¬ Abv es ⟨us, ut⟩ ⟨xs, xt⟩) := fun h => by rw [(abvB_iff _ _ _).2 h] at hB; cases hB
                have HN : Hid (_) := hnext.out (fun h => h.elim (fun e => HNE.out e) HB.out)
                clear hB HNE HI hnext
                go_wp2_with fail
                go_roundw
                case rel => exact ⟨k2 + 1, by omega, by go_num, HN, qbt hbr (qbt (qbt hb9 hbV) hb10)⟩
                case measure => simp [intOf]; omega
          · have i5 : ¬ (k2 : Int) < (lt.length : Int) := by omega
            have HRF : Hid (RR = .ok (tN false)) := by
              show _ = _
              have := HA.out
              rw [List.take_of_length_le (by omega)] at this
              rw [HR.out, decide_eq_false (fun ⟨x, hx, h⟩ => this x hx h)]
            clear HA HR
            obtain ⟨r0, r1, f0, f1⟩ := (hR_6.up hbr).cells
            go_wp2_with fail
            refine (refTruth_any _ false).mono ?_
            rintro _ wa ⟨⟨q1, d1, rfl, hz⟩, hba⟩
            go_wp2_with fail
            refine (refGood_any _ q1 1 d1).mono ?_
            rintro _ wb ⟨rfl, hbg⟩
            have hbz : Below wr.heap.size wr wb := qbt hba hbg
            have hRz := (hR_6.up hbr).up hbz
            obtain ⟨r0', r1', f0', f1'⟩ := hRz.cells
            go_wp2
            exact bodyPost_ret (v := .agg #[.slice q1 1 d1, .int .i64 0]) (by simp [results, Tryz.results74, go_sem, (hRz.told _ _).1, (hRz.told _ _).2]) rfl (hRz.ret (by omega) (qbt (qbt hb_6 hbr) hbz) (by rw [HRF.out]; exact ⟨q1, d1, rfl, hz.up hbg⟩))

set_option maxHeartbeats 4000000 in
theorem in_one_no (h : VArg w a n q c) (g : VArg w v m p d) (hl : EL w ps es) (ho : EnvOk es q0) (v5 : opV v ≠ 5) (a4 : opV a ≠ 4) :
    Calls Tryz.prog 74 #[.slice ps es.length cs, .agg #[.slice q n c, .int .i64 0], .agg #[.slice p m d, .int .i64 0]] w fun e w' => GRet (inE es a v) e w' ∧ Below w.heap.size w w' := by
  obtain ⟨y, r, b, off, rfl, rfl, hbb0, _, _, _, _, _, hn1⟩ := h.head
  obtain ⟨z, t, b2, off2, rfl, rfl, hbb2, _, _, _, _, _, hn2⟩ := g.head
  have i0 : (0 : Int) < (n : Int) := by omega
  have i9 : (0 : Int) < (m : Int) := by omega
  obtain ⟨W, hW⟩ : ∃ W, W = ((w.alloc (.cells #[.slice (some ⟨b, off, none⟩) n c, .int .i64 0] 30)).alloc (.cells #[.slice (some ⟨b2, off2, none⟩) m d, .int .i64 0] 30)).alloc (.cells #[.slice none 0 0, .int .i64 0] 30) := ⟨_, rfl⟩
  have hb_0 : Below w.heap.size w W := by rw [hW]; exact (((Below.refl _ _).alloc (Nat.le_refl _) _).alloc (by simp) _).alloc (by simp; omega) _
  have hg_0 : GB W w.heap.size (some ⟨b, off, none⟩) n c := by rw [hW]; exact ((GB.new w _ _ _ rfl).up ((Below.refl _ _).alloc (Nat.le_refl _) _)).up ((Below.refl _ _).alloc (Nat.le_refl _) _)
  have hk_0 : GB W (w.heap.size + 1) (some ⟨b2, off2, none⟩) m d := by rw [hW]; exact (GB.new _ _ _ _ (by simp)).up ((Below.refl _ _).alloc (Nat.le_refl _) _)
  have hR_0 : GR W (w.heap.size + 1 + 1) := by rw [hW]; exact GR.new _ (by simp)
  have hv_0 := h.up hb_0
  have hu_0 := g.up hb_0
  have he_0 := hl.up hb_0
  have HI5 := fun w1 h1 => refIs_any w1 (z :: t) m (some ⟨b2, off2, none⟩) d 5 h1
  rw [show (opV (z :: t) == 5) = false by simpa using v5] at HI5
  have HI4 := fun w1 h1 => refIs_any w1 (y :: r) n (some ⟨b, off, none⟩) c 4 h1
  rw [show (opV (y :: r) == 4) = false by simpa using a4] at HI4
  have hlt := ltop_is g.is
  have HLN : Hid ((ltop (z :: t)).length ≤ 200) := ltop_len g.is
  have HLT : Hid (ltop (z :: t) = [z :: t]) := if_neg v5
  have HIN : Hid (inE es (y :: r) (z :: t) = .error 2) := in_no a4
  obtain ⟨RR, hRR⟩ : ∃ R, inE es (y :: r) (z :: t) = R := ⟨_, rfl⟩
  rw [hRR]
  rw [hRR] at HIN
  clear hRR
  have hWs : W.heap.size = w.heap.size + 1 + 1 + 1 := by rw [hW]; simp
  have hzl := g.len
  clear h g hl v5 a4
  go_enter Tryz.func74, Tryz.ntmps74
  obtain ⟨g0, g1⟩ := hg_0.cells
  obtain ⟨k0, k1⟩ := hk_0.cells
  obtain ⟨c0, c1, c2, c3⟩ := hv_0.cells
  obtain ⟨m0, m1, m2, m3⟩ := hu_0.cells
  obtain ⟨r0, r1, f0, f1⟩ := hR_0.cells
  go_wp2_with fail
  rw [← hW]
  clear hW g0 g1 k0 k1 c0 c1 c2 c3 m0 m1 m2 m3 r0 r1 f0 f1
  obtain ⟨w1, hw1⟩ : ∃ V, V = W.alloc (.cells #[.slice (some ⟨b2, off2, none⟩) m d] 25) := ⟨_, rfl⟩
  rw [← hw1]
  have hbb : Below W.heap.size W w1 := by rw [hw1]; exact (Below.refl _ _).alloc (Nat.le_refl _) _
  have hl_1 : LL w1 (some ⟨w.heap.size + 1 + 1 + 1, 0, none⟩) [z :: t] := by rw [hw1, ← hWs]; exact ll_one hu_0
  clear hw1 hWs
  have hb_1 := qbt hb_0 hbb
  have hg_1 := hg_0.up hbb
  have hk_1 := hk_0.up hbb
  have hv_1 := hv_0.up hbb
  have hu_1 := hu_0.up hbb
  have hR_1 := hR_0.up hbb
  have he_1 := he_0.up hbb
  clear hbb hb_0 hg_0 hk_0 hv_0 hu_0 hR_0 he_0
  refine (HI5 _ hu_1).mono ?_
  rintro _ w2 ⟨rfl, hbb⟩
  have hb_2 := qbt hb_1 hbb
  have hg_2 := hg_1.up hbb
  have hk_2 := hk_1.up hbb
  have hv_2 := hv_1.up hbb
  have hu_2 := hu_1.up hbb
  have hR_2 := hR_1.up hbb
  have he_2 := he_1.up hbb
  have hl_2 := hl_1.up hbb
  clear hbb hb_1 hg_1 hk_1 hv_1 hu_1 hR_1 he_1 hl_1
  rw [← HLT.out] at hl_2
  obtain ⟨g0, g1⟩ := hg_2.cells
  obtain ⟨k0, k1⟩ := hk_2.cells
  obtain ⟨c0, c1, c2, c3⟩ := hv_2.cells
  obtain ⟨m0, m1, m2, m3⟩ := hu_2.cells
  obtain ⟨r0, r1, f0, f1⟩ := hR_2.cells
  go_wp2_with fail
  refine (HI4 _ hv_2).mono ?_
  rintro _ w3 ⟨rfl, hbb⟩
  clear g0 g1 k0 k1 c0 c1 c2 c3 m0 m1 m2 m3 r0 r1 f0 f1
  have hb_3 := qbt hb_2 hbb
  have hg_3 := hg_2.up hbb
  have hk_3 := hk_2.up hbb
  have hv_3 := hv_2.up hbb
  have hu_3 := hu_2.up hbb
  have hR_3 := hR_2.up hbb
  have he_3 := he_2.up hbb
  have hl_3 := hl_2.up hbb
  clear hbb hb_2 hg_2 hk_2 hv_2 hu_2 hR_2 he_2 hl_2
  have hTV : Value.slice (some ⟨w.heap.size + 1 + 1 + 1, 0, none⟩) 1 1 = .slice (some ⟨w.heap.size + 1 + 1 + 1, 0, none⟩) (ltop (z :: t)).length 1 := by rw [HLT.out]; rfl
  rw [hTV]
  clear hTV
  obtain ⟨qt, hqt⟩ : ∃ q : Option Addr, q = some ⟨w.heap.size + 1 + 1 + 1, 0, none⟩ := ⟨_, rfl⟩
  rw [← hqt] at hl_3 ⊢
  clear hqt
  clear HLT
  generalize ltop (z :: t) = lt at *
  have HIV : Hid (∀ x ∈ lt, IsV x) := hlt
  clear hlt
  obtain ⟨g0, g1⟩ := hg_3.cells
  obtain ⟨k0, k1⟩ := hk_3.cells
  obtain ⟨c0, c1, c2, c3⟩ := hv_3.cells
  obtain ⟨m0, m1, m2, m3⟩ := hu_3.cells
  obtain ⟨r0, r1, f0, f1⟩ := hR_3.cells
  go_wp2_with fail
  go_loopw [8, 9] (fun ov i wr => ∃ (k : Nat) (o : Bool), k ≤ lt.length ∧ i = .int .i64 k ∧ ov = .bool o ∧ Hid (o = true ↔ (False ∧ ∀ x ∈ lt.take k, opV x = 4)) ∧ wr = w3) (fun _ i _ => lt.length - (intOf i).toNat)
  case atStart => exact ⟨0, false, Nat.zero_le _, rfl, rfl, by simp [Hid], rfl⟩
  case round =>
    obtain ⟨k, o, hk, rfl, rfl, HO, rfl⟩ := hrel
    have hln : lt.length ≤ 200 := HLN.out
    by_cases hkl : k < lt.length
    · have i1 : (k : Int) < (lt.length : Int) := by omega
      obtain ⟨bl, ol, qx, cx, rfl, hbl, x0, xnl, xle, xcm⟩ := hl_3.at hkl
      have hxv := HIV.out lt[k] (List.getElem_mem hkl)
      have HT : Hid (lt.take (k + 1) = lt.take k ++ [lt[k]]) := List.take_succ_eq_append_getElem hkl
      obtain ⟨xx, xr, bx, ox, ex, rfl, hbx, e0, _⟩ := (VArg.mk rfl xnl xle xcm hxv : VArg _ lt[k] lt[k].length _ _).head
      have i3 : (0 : Int) < (lt[k].length : Int) := by rw [ex]; simp
      have HX : Hid (opV lt[k] = xx.op) := by show _ = _; rw [ex]; rfl
      generalize lt[k] = x at *
      clear ex hxv xnl
      by_cases h4 : xx.op = 4
      · have e4 : (xx.op != 4) = false := by simpa using h4
        have HO2 : Hid (o = true ↔ (False ∧ ∀ y ∈ lt.take (k + 1), opV y = 4)) := by
          show _ ↔ _
          rw [HO.out, HT.out]
          constructor
          · rintro ⟨h1, h2⟩
            refine ⟨h1, fun y hy => ?_⟩
            rcases List.mem_append.1 hy with hy | hy
            · exact h2 y hy
            · simp only [List.mem_singleton] at hy; subst hy; rw [HX.out]; exact h4
          · exact fun ⟨h1, h2⟩ => ⟨h1, fun y hy => h2 y (List.mem_append_left _ hy)⟩
        clear h4 HO HX
        go_wp2
        go_roundw
        case rel => exact ⟨k + 1, o, by omega, by go_num, rfl, HO2, trivial⟩
        case measure => simp [intOf]; omega
      · have e4 : (xx.op != 4) = true := by simpa using h4
        have HO2 : Hid (false = true ↔ (False ∧ ∀ y ∈ lt.take (k + 1), opV y = 4)) := by
          show _ ↔ _
          rw [HT.out]
          refine ⟨(fun h => by cases h), fun ⟨_, h2⟩ => ?_⟩
          exact absurd (h2 x (List.mem_append_right _ (List.mem_singleton.2 rfl))) (by rw [HX.out]; exact h4)
        clear h4 HO HX
        go_wp2
        go_roundw
        case rel => exact ⟨k + 1, false, by omega, by go_num, rfl, HO2, trivial⟩
        case measure => simp [intOf]; omega
    · have i1 : ¬ (k : Int) < (lt.length : Int) := by omega
      have HOA : Hid (o = true ↔ (False ∧ ∀ x ∈ lt, opV x = 4)) := by have := HO.out; rw [List.take_of_length_le (by omega)] at this; exact this
      clear HO
      cases o with
      | false =>
        have HR : Hid (RR = .error 2) := by show _ = _; exact HIN.out
        clear HIN HOA
        obtain ⟨g0, g1⟩ := hg_3.cells
        obtain ⟨k0, k1⟩ := hk_3.cells
        obtain ⟨c0, c1, c2, c3⟩ := hv_3.cells
        obtain ⟨m0, m1, m2, m3⟩ := hu_3.cells
        obtain ⟨r0, r1, f0, f1⟩ := hR_3.cells
        go_wp2_with fail
        refine (refBad_any _ 2).mono ?_
        rintro _ w4 ⟨rfl, hbb⟩
        clear g0 g1 k0 k1 c0 c1 c2 c3 m0 m1 m2 m3 r0 r1 f0 f1
        have hb_4 := qbt hb_3 hbb
        have hg_4 := hg_3.up hbb
        have hk_4 := hk_3.up hbb
        have hv_4 := hv_3.up hbb
        have hu_4 := hu_3.up hbb
        have hR_4 := hR_3.up hbb
        have he_4 := he_3.up hbb
        have hl_4 := hl_3.up hbb
        clear hbb hb_3 hg_3 hk_3 hv_3 hu_3 hR_3 he_3 hl_3
        obtain ⟨g0, g1⟩ := hg_4.cells
        obtain ⟨k0, k1⟩ := hk_4.cells
        obtain ⟨c0, c1, c2, c3⟩ := hv_4.cells
        obtain ⟨m0, m1, m2, m3⟩ := hu_4.cells
        obtain ⟨r0, r1, f0, f1⟩ := hR_4.cells
        go_wp2
        exact bodyPost_ret (v := .agg #[.slice none 0 0, .int .i64 2]) (by simp [results, Tryz.results74, go_sem, (hR_4.told _ _).1, (hR_4.told _ _).2]) rfl (hR_4.ret (by omega) hb_4 (by rw [HR.out]; exact rfl))
      | true =>
        exact absurd (HOA.out.1 rfl).1 id

set_option maxHeartbeats 4000000 in
theorem in_one_yes (h : VArg w a n q c) (g : VArg w v m p d) (hl : EL w ps es) (ho : EnvOk es q0) (v5 : opV v ≠ 5) (a4 : opV a = 4) :
    Calls Tryz.prog 74 #[.slice ps es.length cs, .agg #[.slice q n c, .int .i64 0], .agg #[.slice p m d, .int .i64 0]] w fun e w' => GRet (inE es a v) e w' ∧ Below w.heap.size w w' := by
  obtain ⟨y, r, b, off, rfl, rfl, hbb0, _, _, _, _, _, hn1⟩ := h.head
  obtain ⟨z, t, b2, off2, rfl, rfl, hbb2, _, _, _, _, _, hn2⟩ := g.head
  have i0 : (0 : Int) < (n : Int) := by omega
  have i9 : (0 : Int) < (m : Int) := by omega
  obtain ⟨W, hW⟩ : ∃ W, W = ((w.alloc (.cells #[.slice (some ⟨b, off, none⟩) n c, .int .i64 0] 30)).alloc (.cells #[.slice (some ⟨b2, off2, none⟩) m d, .int .i64 0] 30)).alloc (.cells #[.slice none 0 0, .int .i64 0] 30) := ⟨_, rfl⟩
  have hb_0 : Below w.heap.size w W := by rw [hW]; exact (((Below.refl _ _).alloc (Nat.le_refl _) _).alloc (by simp) _).alloc (by simp; omega) _
  have hg_0 : GB W w.heap.size (some ⟨b, off, none⟩) n c := by rw [hW]; exact ((GB.new w _ _ _ rfl).up ((Below.refl _ _).alloc (Nat.le_refl _) _)).up ((Below.refl _ _).alloc (Nat.le_refl _) _)
  have hk_0 : GB W (w.heap.size + 1) (some ⟨b2, off2, none⟩) m d := by rw [hW]; exact (GB.new _ _ _ _ (by simp)).up ((Below.refl _ _).alloc (Nat.le_refl _) _)
  have hR_0 : GR W (w.heap.size + 1 + 1) := by rw [hW]; exact GR.new _ (by simp)
  have hv_0 := h.up hb_0
  have hu_0 := g.up hb_0
  have he_0 := hl.up hb_0
  have HI5 := fun w1 h1 => refIs_any w1 (z :: t) m (some ⟨b2, off2, none⟩) d 5 h1
  rw [show (opV (z :: t) == 5) = false by simpa using v5] at HI5
  have HI4 := fun w1 h1 => refIs_any w1 (y :: r) n (some ⟨b, off, none⟩) c 4 h1
  rw [show (opV (y :: r) == 4) = true by simpa using a4] at HI4
  have hlt := ltop_is g.is
  have HLN : Hid ((ltop (z :: t)).length ≤ 200) := ltop_len g.is
  have HLT : Hid (ltop (z :: t) = [z :: t]) := if_neg v5
  have HIN : Hid (inE es (y :: r) (z :: t) = if (∀ x ∈ ltop (z :: t), opV x = 4) then .ok (tN (decide (∃ x ∈ ltop (z :: t), Inn es (uidV (y :: r)) (uidV x)))) else .error 2) := in_yes a4
  obtain ⟨RR, hRR⟩ : ∃ R, inE es (y :: r) (z :: t) = R := ⟨_, rfl⟩
  rw [hRR]
  rw [hRR] at HIN
  clear hRR
  have hWs : W.heap.size = w.heap.size + 1 + 1 + 1 := by rw [hW]; simp
  have hzl := g.len
  clear h g hl v5 a4
  go_enter Tryz.func74, Tryz.ntmps74
  obtain ⟨g0, g1⟩ := hg_0.cells
  obtain ⟨k0, k1⟩ := hk_0.cells
  obtain ⟨c0, c1, c2, c3⟩ := hv_0.cells
  obtain ⟨m0, m1, m2, m3⟩ := hu_0.cells
  obtain ⟨r0, r1, f0, f1⟩ := hR_0.cells
  go_wp2_with fail
  rw [← hW]
  clear hW g0 g1 k0 k1 c0 c1 c2 c3 m0 m1 m2 m3 r0 r1 f0 f1
  obtain ⟨w1, hw1⟩ : ∃ V, V = W.alloc (.cells #[.slice (some ⟨b2, off2, none⟩) m d] 25) := ⟨_, rfl⟩
  rw [← hw1]
  have hbb : Below W.heap.size W w1 := by rw [hw1]; exact (Below.refl _ _).alloc (Nat.le_refl _) _
  have hl_1 : LL w1 (some ⟨w.heap.size + 1 + 1 + 1, 0, none⟩) [z :: t] := by rw [hw1, ← hWs]; exact ll_one hu_0
  clear hw1 hWs
  have hb_1 := qbt hb_0 hbb
  have hg_1 := hg_0.up hbb
  have hk_1 := hk_0.up hbb
  have hv_1 := hv_0.up hbb
  have hu_1 := hu_0.up hbb
  have hR_1 := hR_0.up hbb
  have he_1 := he_0.up hbb
  clear hbb hb_0 hg_0 hk_0 hv_0 hu_0 hR_0 he_0
  refine (HI5 _ hu_1).mono ?_
  rintro _ w2 ⟨rfl, hbb⟩
  have hb_2 := qbt hb_1 hbb
  have hg_2 := hg_1.up hbb
  have hk_2 := hk_1.up hbb
  have hv_2 := hv_1.up hbb
  have hu_2 := hu_1.up hbb
  have hR_2 := hR_1.up hbb
  have he_2 := he_1.up hbb
  have hl_2 := hl_1.up hbb
  clear hbb hb_1 hg_1 hk_1 hv_1 hu_1 hR_1 he_1 hl_1
  rw [← HLT.out] at hl_2
  obtain ⟨g0, g1⟩ := hg_2.cells
  obtain ⟨k0, k1⟩ := hk_2.cells
  obtain ⟨c0, c1, c2, c3⟩ := hv_2.cells
  obtain ⟨m0, m1, m2, m3⟩ := hu_2.cells
  obtain ⟨r0, r1, f0, f1⟩ := hR_2.cells
  go_wp2_with fail
  refine (HI4 _ hv_2).mono ?_
  rintro _ w3 ⟨rfl, hbb⟩
  clear g0 g1 k0 k1 c0 c1 c2 c3 m0 m1 m2 m3 r0 r1 f0 f1
  have hb_3 := qbt hb_2 hbb
  have hg_3 := hg_2.up hbb
  have hk_3 := hk_2.up hbb
  have hv_3 := hv_2.up hbb
  have hu_3 := hu_2.up hbb
  have hR_3 := hR_2.up hbb
  have he_3 := he_2.up hbb
  have hl_3 := hl_2.up hbb
  clear hbb hb_2 hg_2 hk_2 hv_2 hu_2 hR_2 he_2 hl_2
  have hTV : Value.slice (some ⟨w.heap.size + 1 + 1 + 1, 0, none⟩) 1 1 = .slice (some ⟨w.heap.size + 1 + 1 + 1, 0, none⟩) (ltop (z :: t)).length 1 := by rw [HLT.out]; rfl
  rw [hTV]
  clear hTV
  obtain ⟨qt, hqt⟩ : ∃ q : Option Addr, q = some ⟨w.heap.size + 1 + 1 + 1, 0, none⟩ := ⟨_, rfl⟩
  rw [← hqt] at hl_3 ⊢
  clear hqt
  clear HLT
  generalize ltop (z :: t) = lt at *
  have HIV : Hid (∀ x ∈ lt, IsV x) := hlt
  clear hlt
  obtain ⟨g0, g1⟩ := hg_3.cells
  obtain ⟨k0, k1⟩ := hk_3.cells
  obtain ⟨c0, c1, c2, c3⟩ := hv_3.cells
  obtain ⟨m0, m1, m2, m3⟩ := hu_3.cells
  obtain ⟨r0, r1, f0, f1⟩ := hR_3.cells
  go_wp2_with fail
  go_loopw [8, 9] (fun ov i wr => ∃ (k : Nat) (o : Bool), k ≤ lt.length ∧ i = .int .i64 k ∧ ov = .bool o ∧ Hid (o = true ↔ (True ∧ ∀ x ∈ lt.take k, opV x = 4)) ∧ wr = w3) (fun _ i _ => lt.length - (intOf i).toNat)
  case atStart => exact ⟨0, true, Nat.zero_le _, rfl, rfl, by simp [Hid], rfl⟩
  case round =>
    obtain ⟨k, o, hk, rfl, rfl, HO, rfl⟩ := hrel
    have hln : lt.length ≤ 200 := HLN.out
    by_cases hkl : k < lt.length
    · have i1 : (k : Int) < (lt.length : Int) := by omega
      obtain ⟨bl, ol, qx, cx, rfl, hbl, x0, xnl, xle, xcm⟩ := hl_3.at hkl
      have hxv := HIV.out lt[k] (List.getElem_mem hkl)
      have HT : Hid (lt.take (k + 1) = lt.take k ++ [lt[k]]) := List.take_succ_eq_append_getElem hkl
      obtain ⟨xx, xr, bx, ox, ex, rfl, hbx, e0, _⟩ := (VArg.mk rfl xnl xle xcm hxv : VArg _ lt[k] lt[k].length _ _).head
      have i3 : (0 : Int) < (lt[k].length : Int) := by rw [ex]; simp
      have HX : Hid (opV lt[k] = xx.op) := by show _ = _; rw [ex]; rfl
      generalize lt[k] = x at *
      clear ex hxv xnl
      by_cases h4 : xx.op = 4
      · have e4 : (xx.op != 4) = false := by simpa using h4
        have HO2 : Hid (o = true ↔ (True ∧ ∀ y ∈ lt.take (k + 1), opV y = 4)) := by
          show _ ↔ _
          rw [HO.out, HT.out]
          constructor
          · rintro ⟨h1, h2⟩
            refine ⟨h1, fun y hy => ?_⟩
            rcases List.mem_append.1 hy with hy | hy
            · exact h2 y hy
            · simp only [List.mem_singleton] at hy; subst hy; rw [HX.out]; exact h4
          · exact fun ⟨h1, h2⟩ => ⟨h1, fun y hy => h2 y (List.mem_append_left _ hy)⟩
        clear h4 HO HX
        go_wp2
        go_roundw
        case rel => exact ⟨k + 1, o, by omega, by go_num, rfl, HO2, trivial⟩
        case measure => simp [intOf]; omega
      · have e4 : (xx.op != 4) = true := by simpa using h4
        have HO2 : Hid (false = true ↔ (True ∧ ∀ y ∈ lt.take (k + 1), opV y = 4)) := by
          show _ ↔ _
          rw [HT.out]
          refine ⟨(fun h => by cases h), fun ⟨_, h2⟩ => ?_⟩
          exact absurd (h2 x (List.mem_append_right _ (List.mem_singleton.2 rfl))) (by rw [HX.out]; exact h4)
        clear h4 HO HX
        go_wp2
        go_roundw
        case rel => exact ⟨k + 1, false, by omega, by go_num, rfl, HO2, trivial⟩
        case measure => simp [intOf]; omega
    · have i1 : ¬ (k : Int) < (lt.length : Int) := by omega
      have HOA : Hid (o = true ↔ (True ∧ ∀ x ∈ lt, opV x = 4)) := by have := HO.out; rw [List.take_of_length_le (by omega)] at this; exact this
      clear HO
      cases o with
      | false =>
        have HR : Hid (RR = .error 2) := by show _ = _; rw [HIN.out, if_neg (fun h => absurd (HOA.out.2 ⟨trivial, h⟩) (by decide))]
        clear HIN HOA
        obtain ⟨g0, g1⟩ := hg_3.cells
        obtain ⟨k0, k1⟩ := hk_3.cells
        obtain ⟨c0, c1, c2, c3⟩ := hv_3.cells
        obtain ⟨m0, m1, m2, m3⟩ := hu_3.cells
        obtain ⟨r0, r1, f0, f1⟩ := hR_3.cells
        go_wp2_with fail
        refine (refBad_any _ 2).mono ?_
        rintro _ w4 ⟨rfl, hbb⟩
        clear g0 g1 k0 k1 c0 c1 c2 c3 m0 m1 m2 m3 r0 r1 f0 f1
        have hb_4 := qbt hb_3 hbb
        have hg_4 := hg_3.up hbb
        have hk_4 := hk_3.up hbb
        have hv_4 := hv_3.up hbb
        have hu_4 := hu_3.up hbb
        have hR_4 := hR_3.up hbb
        have he_4 := he_3.up hbb
        have hl_4 := hl_3.up hbb
        clear hbb hb_3 hg_3 hk_3 hv_3 hu_3 hR_3 he_3 hl_3
        obtain ⟨g0, g1⟩ := hg_4.cells
        obtain ⟨k0, k1⟩ := hk_4.cells
        obtain ⟨c0, c1, c2, c3⟩ := hv_4.cells
        obtain ⟨m0, m1, m2, m3⟩ := hu_4.cells
        obtain ⟨r0, r1, f0, f1⟩ := hR_4.cells
        go_wp2
        exact bodyPost_ret (v := .agg #[.slice none 0 0, .int .i64 2]) (by simp [results, Tryz.results74, go_sem, (hR_4.told _ _).1, (hR_4.told _ _).2]) rfl (hR_4.ret (by omega) hb_4 (by rw [HR.out]; exact rfl))
      | true =>
        have HR : Hid (RR = .ok (tN (decide (∃ x ∈ lt, Inn es ⟨y.s, y.t⟩ (uidV x))))) := by show _ = _; rw [HIN.out, if_pos (HOA.out.1 rfl).2]; rfl
        clear HIN HOA
        have HUO := fun w1 => refUidOf_any w1 y.op y.n y.s y.t
        have hfew := few_of (by have := (stf_zero ho.st).few; omega) (stf_list ho.st)
        obtain ⟨g0, g1⟩ := hg_3.cells
        obtain ⟨k0, k1⟩ := hk_3.cells
        obtain ⟨c0, c1, c2, c3⟩ := hv_3.cells
        obtain ⟨m0, m1, m2, m3⟩ := hu_3.cells
        obtain ⟨r0, r1, f0, f1⟩ := hR_3.cells
        go_wp2_with fail
        refine (HUO _).mono ?_
        rintro _ w4 ⟨rfl, hbb⟩
        clear g0 g1 k0 k1 c0 c1 c2 c3 m0 m1 m2 m3 r0 r1 f0 f1
        have hb_4 := qbt hb_3 hbb
        have hg_4 := hg_3.up hbb
        have hk_4 := hk_3.up hbb
        have hv_4 := hv_3.up hbb
        have hu_4 := hu_3.up hbb
        have hR_4 := hR_3.up hbb
        have he_4 := he_3.up hbb
        have hl_4 := hl_3.up hbb
        clear hbb hb_3 hg_3 hk_3 hv_3 hu_3 hR_3 he_3 hl_3
        obtain ⟨g0, g1⟩ := hg_4.cells
        obtain ⟨k0, k1⟩ := hk_4.cells
        obtain ⟨c0, c1, c2, c3⟩ := hv_4.cells
        obtain ⟨m0, m1, m2, m3⟩ := hu_4.cells
        obtain ⟨r0, r1, f0, f1⟩ := hR_4.cells
        go_wp2_with fail
        obtain ⟨w5, hw⟩ : ∃ V, V = w4.alloc (.cells #[.string y.s, .string y.t] 24) := ⟨_, rfl⟩
        rw [← hw]
        have hbb : Below w4.heap.size w4 w5 := by rw [hw]; exact (Below.refl _ _).alloc (Nat.le_refl _) _
        have hU_5 : UB2 w5 w4.heap.size y.s y.t := by rw [hw]; exact ⟨new_at rfl⟩
        have hb_5 := qbt hb_4 hbb
        have hR_5 := hR_4.up hbb
        have he_5 := he_4.up hbb
        have hl_5 := hl_4.up hbb
        clear hw hbb g0 g1 k0 k1 c0 c1 c2 c3 m0 m1 m2 m3 r0 r1 f0 f1 hb_4 hR_4 he_4 hl_4
        generalize hys : y.s = us at *
        generalize hyt : y.t = ut at *
        clear hys hyt
        go_loopw [11] (fun i wr => ∃ k : Nat, k ≤ lt.length ∧ i = .int .i64 k ∧ Hid (∀ x ∈ lt.take k, ¬ Inn es ⟨us, ut⟩ (uidV x)) ∧ Below w5.heap.size w5 wr) (fun i _ => lt.length - (intOf i).toNat)
        case atStart => exact ⟨0, Nat.zero_le _, rfl, by simp [Hid], Below.refl _ _⟩
        case round =>
          rename World => wr
          obtain ⟨k2, hk2, rfl, HA, hbr⟩ := hrel
          by_cases hkl : k2 < lt.length
          · have i5 : (k2 : Int) < (lt.length : Int) := by omega
            obtain ⟨bl, ol, qx, cx, rfl, hbl, x0, xnl, xle, xcm⟩ := (hl_5.up hbr).at hkl
            have hxv := HIV.out lt[k2] (List.getElem_mem hkl)
            have HT : Hid (lt.take (k2 + 1) = lt.take k2 ++ [lt[k2]]) := List.take_succ_eq_append_getElem hkl
            have HM : Hid (lt[k2] ∈ lt) := List.getElem_mem hkl
            obtain ⟨xx, xr, bx, ox, ex, rfl, hbx, e0, e1, e2, e3, xwf, _⟩ := (VArg.mk rfl xnl xle xcm hxv : VArg _ lt[k2] lt[k2].length _ _).head
            have i6 : (0 : Int) < (lt[k2].length : Int) := by rw [ex]; simp
            have HX : Hid (uidV lt[k2] = ⟨xx.s, xx.t⟩) := by show _ = _; rw [ex]; rfl
            generalize lt[k2] = x at *
            clear ex hxv xnl
            have hUr := hU_5.up hbr
            obtain ⟨u0, u1⟩ := hUr.cells
            obtain ⟨r0, r1, f0, f1⟩ := (hR_5.up hbr).cells
            have HUX := fun w1 => refUidOf_any w1 xx.op xx.n xx.s xx.t
            have HOV := fun w1 (h1 : EL w1 ps es) => overB_any es ps cs ⟨us, ut⟩ ⟨xx.s, xx.t⟩ w1 h1 hfew
            have HI : Hid (Inn es ⟨us, ut⟩ (uidV x) → RR = .ok (tN true)) := fun h => by rw [HR.out, decide_eq_true ⟨x, HM.out, h⟩]
            rw [HX.out] at HI
            have hnext : Hid (¬ Inn es ⟨us, ut⟩ ⟨xx.s, xx.t⟩ → ∀ y ∈ lt.take (k2 + 1), ¬ Inn es ⟨us, ut⟩ (uidV y)) := by
              intro h y hy
              rw [HT.out] at hy
              rcases List.mem_append.1 hy with hy | hy
              · exact HA.out y hy
              · simp only [List.mem_singleton] at hy; subst hy; rw [HX.out]; exact h
            obtain ⟨xo, xn, xs, xt⟩ := xx
            dsimp only at e0 e1 e2 e3 HUX HOV HI hnext
            clear HX HA HT xwf
            by_cases hs : us = xs
            · by_cases ht : ut = xt
              · subst hs ht
                go_wp2_with fail
                refine (HUX _).mono ?_
                rintro _ w9 ⟨rfl, hb9⟩
                obtain ⟨u0', u1'⟩ := (hUr.up hb9).cells
                have hlt9 : w4.heap.size < w9.heap.size := (hUr.up hb9).lt
                have hbV : Below w9.heap.size w9 (w9.alloc (.cells #[.string us, .string ut] 24)) := (Below.refl _ _).alloc (Nat.le_refl _) _
                go_wp2_with fail
                refine (refTruth_any _ true).mono ?_
                rintro _ wa ⟨⟨q1, d1, rfl, hz⟩, hba⟩
                go_wp2_with fail
                refine (refGood_any _ q1 1 d1).mono ?_
                rintro _ wb ⟨rfl, hbg⟩
                have hbz : Below wr.heap.size wr wb := qbt (qbt (qbt hb9 hbV) hba) hbg
                have hRz := (hR_5.up hbr).up hbz
                obtain ⟨r0', r1', f0', f1'⟩ := hRz.cells
                go_wp2
                exact bodyPost_ret (v := .agg #[.slice q1 1 d1, .int .i64 0]) (by simp [results, Tryz.results74, go_sem, (hRz.told _ _).1, (hRz.told _ _).2]) rfl (hRz.ret (by omega) (qbt (qbt hb_5 hbr) hbz) (by rw [HI.out (.inl rfl)]; exact ⟨q1, d1, rfl, hz.up hbg⟩))
              · subst hs
                have n1 := tl_ne ht
                have HNE : Hid ((⟨us, ut⟩ : Ui) ≠ ⟨us, xt⟩) := fun e => ht (by cases e; rfl)
                clear ht
                go_wp2_with fail
                refine (HUX _).mono ?_
                rintro _ w9 ⟨rfl, hb9⟩
                obtain ⟨u0', u1'⟩ := (hUr.up hb9).cells
                have hlt9 : w4.heap.size < w9.heap.size := (hUr.up hb9).lt
                have hbV : Below w9.heap.size w9 (w9.alloc (.cells #[.string us, .string xt] 24)) := (Below.refl _ _).alloc (Nat.le_refl _) _
                go_wp2_with fail
                refine (HOV _ (((he_5.up hbr).up hb9).up hbV)).mono ?_
                rintro _ w10 ⟨rfl, hb10⟩
                cases hB : abvB es ⟨us, ut⟩ ⟨us, xt⟩ with
                | true =>
                  have HB : Hid (Abv es ⟨us, ut⟩ ⟨us, xt⟩) := (abvB_iff _ _ _).1 hB
                  clear hB
                  go_wp2_with fail
                  refine (refTruth_any _ true).mono ?_
                  rintro _ wa ⟨⟨q1, d1, rfl, hz⟩, hba⟩
                  go_wp2_with fail
                  refine (refGood_any _ q1 1 d1).mono ?_
                  rintro _ wb ⟨rfl, hbg⟩
                  have hbz : Below wr.heap.size wr wb := qbt (qbt (qbt (qbt hb9 hbV) hb10) hba) hbg
                  have hRz := (hR_5.up hbr).up hbz
                  obtain ⟨r0', r1', f0', f1'⟩ := hRz.cells
                  go_wp2
                  exact bodyPost_ret (v := .agg #[.slice q1 1 d1, .int .i64 0]) (by simp [results, Tryz.results74, go_sem, (hRz.told _ _).1, (hRz.told _ _).2]) rfl (hRz.ret (by omega) (qbt (qbt hb_5 hbr) hbz) (by rw [HI.out (.inr HB.out)]; exact ⟨q1, d1, rfl, hz.up hbg⟩))
                | false =>
                  have HB : Hid (¬ Abv es ⟨us, ut⟩ ⟨us, xt⟩) := fun h => by rw [(abvB_iff _ _ _).2 h] at hB; cases hB
                  have HN : Hid (_) := hnext.out (fun h => h.elim (fun e => HNE.out e) HB.out)
                  clear hB HNE HI hnext
                  go_wp2_with fail
                  go_roundw
                  case rel => exact ⟨k2 + 1, by omega, by go_num, HN, qbt hbr (qbt (qbt hb9 hbV) hb10)⟩
                  case measure => simp [intOf]; omega
            · have n1 := tl_ne hs
              have HNE : Hid ((⟨us, ut⟩ : Ui) ≠ ⟨xs, xt⟩) := fun e => hs (by cases e; rfl)
              clear hs
              go_wp2_with fail
              refine (HUX _).mono ?_
              rintro _ w9 ⟨rfl, hb9⟩
              obtain ⟨u0', u1'⟩ := (hUr.up hb9).cells
              have hlt9 : w4.heap.size < w9.heap.size := (hUr.up hb9).lt
              have hbV : Below w9.heap.size w9 (w9.alloc (.cells #[.string xs, .string xt] 24)) := (Below.refl _ _).alloc (Nat.le_refl _) _
              go_wp2_with fail
              refine (HOV _ (((he_5.up hbr).up hb9).up hbV)).mono ?_
              rintro _ w10 ⟨rfl, hb10⟩
              cases hB : abvB es ⟨us, ut⟩ ⟨xs, xt⟩ with
              | true =>
                have HB : Hid (Abv es ⟨us, ut⟩ ⟨xs, xt⟩) := (abvB_iff _ _ _).1 hB
                clear hB
                go_wp2_with fail
                refine (refTruth_any _ true).mono ?_
                rintro _ wa ⟨⟨q1, d1, rfl, hz⟩, hba⟩
                go_wp2_with fail
                refine (refGood_any _ q1 1 d1).mono ?_
                rintro _ wb ⟨rfl, hbg⟩
                have hbz : Below wr.heap.size wr wb := qbt (qbt (qbt (qbt hb9 hbV) hb10) hba) hbg
                have hRz := (hR_5.up hbr).up hbz
                obtain ⟨r0', r1', f0', f1'⟩ := hRz.cells
                go_wp2
                exact bodyPost_ret (v := .agg #[.slice q1 1 d1, .int .i64 0]) (by simp [results, Tryz.results74, go_sem, (hRz.told _ _).1, (hRz.told _ _).2]) rfl (hRz.ret (by omega) (qbt (qbt hb_5 hbr) hbz) (by rw [HI.out (.inr HB.out)]; exact ⟨q1, d1, rfl, hz.up hbg⟩))
              | false =>
                have HB : Hid (¬ Abv es ⟨us, ut⟩ ⟨xs, xt⟩) := fun h => by rw [(abvB_iff _ _ _).2 h] at hB; cases hB
                have HN : Hid (_) := hnext.out (fun h => h.elim (fun e => HNE.out e) HB.out)
                clear hB HNE HI hnext
                go_wp2_with fail
                go_roundw
                case rel => exact ⟨k2 + 1, by omega, by go_num, HN, qbt hbr (qbt (qbt hb9 hbV) hb10)⟩
                case measure => simp [intOf]; omega
          · have i5 : ¬ (k2 : Int) < (lt.length : Int) := by omega
            have HRF : Hid (RR = .ok (tN false)) := by
              show _ = _
              have := HA.out
              rw [List.take_of_length_le (by omega)] at this
              rw [HR.out, decide_eq_false (fun ⟨x, hx, h⟩ => this x hx h)]
            clear HA HR
            obtain ⟨r0, r1, f0, f1⟩ := (hR_5.up hbr).cells
            go_wp2_with fail
            refine (refTruth_any _ false).mono ?_
            rintro _ wa ⟨⟨q1, d1, rfl, hz⟩, hba⟩
            go_wp2_with fail
            refine (refGood_any _ q1 1 d1).mono ?_
            rintro _ wb ⟨rfl, hbg⟩
            have hbz : Below wr.heap.size wr wb := qbt hba hbg
            have hRz := (hR_5.up hbr).up hbz
            obtain ⟨r0', r1', f0', f1'⟩ := hRz.cells
            go_wp2
            exact bodyPost_ret (v := .agg #[.slice q1 1 d1, .int .i64 0]) (by simp [results, Tryz.results74, go_sem, (hRz.told _ _).1, (hRz.told _ _).2]) rfl (hRz.ret (by omega) (qbt (qbt hb_5 hbr) hbz) (by rw [HRF.out]; exact ⟨q1, d1, rfl, hz.up hbg⟩))
end
end Go.Proofs.YtnilaghbbhmkgaaGreatDoor
namespace Go.Proofs.YtnilaghbbhmkgaaGreatDoor
open Go.RowKit
set_option linter.unusedVariables false
set_option maxRecDepth 100000

section
variable {es : List En} {q0 : Rq} (ps : Option Addr) (cs : Nat) (w : World)
theorem refOne_any (ho : EnvOk es q0) (x : Nd) (hop : x.op = 9 ∨ x.op = 10 ∨ x.op = 21 ∨ x.op = 22 ∨ x.op = 23 ∨ x.op = 24) (hx : exOk x = true) (a : List Nd) (n : Nat) (q : Option Addr) (c : Nat) (h : VArg w a n q c) (hl : EL w ps es) :
    Calls Tryz.prog 45 #[.slice ps es.length cs, .agg #[.int .i64 x.op, .int .i64 x.n, .string x.s, .string x.t], .agg #[.slice q n c, .int .i64 0]] w fun e w' => GRet (oneE es x a) e w' ∧ Below w.heap.size w w' := by
  have hatt : ∀ r, attE es a = .ok r → opV r = 6 := fun r hr => (attE_is ho h.is hr).2
  obtain ⟨xo, xn, xs, xt⟩ := x
  dsimp only at hop ⊢
  rcases hop with rfl | rfl | rfl | rfl | rfl | rfl
  · by_cases h1 : opV a = 1
    · have e : oneE es ⟨9, xn, xs, xt⟩ a = .ok (tN (!(nV a == 1))) := if_pos h1
      rw [e]; exact ref1_not ps cs xn xs xt a n q c w h hl h1
    · have e : oneE es ⟨9, xn, xs, xt⟩ a = .error 2 := if_neg h1
      rw [e]; exact ref1_not_bad ps cs xn xs xt a n q c w h hl h1
  · by_cases h2 : opV a = 2
    · by_cases hf : Fit (-nV a)
      · have e : oneE es ⟨10, xn, xs, xt⟩ a = .ok (mN (-nV a)) := (if_pos h2).trans (if_pos hf)
        rw [e]; exact ref1_neg ps cs xn xs xt a n q c w h hl h2 hf
      · have e : oneE es ⟨10, xn, xs, xt⟩ a = .error 5 := (if_pos h2).trans (if_neg hf)
        rw [e]; exact ref1_neg_over ps cs xn xs xt a n q c w h hl h2 hf
    · have e : oneE es ⟨10, xn, xs, xt⟩ a = .error 2 := if_neg h2
      rw [e]; exact ref1_neg_bad ps cs xn xs xt a n q c w h hl h2
  · have e : oneE es ⟨21, xn, xs, xt⟩ a = hasE es a xs := rfl
    rw [e]
    unfold hasE
    by_cases h6 : opV a = 6
    · have hA : attE es a = .ok a := if_pos h6
      rw [hA]
      exact ref1_fld21_6 ps cs xn xs xt a n q c w h hl ho h6 a hA h6
    · by_cases h4 : opV a = 4
      · cases hA : attE es a with
        | ok r => exact ref1_fld21_4 ps cs xn xs xt a n q c w h hl ho h4 r hA (hatt r hA)
        | error k =>
          have hk : k = 8 := by
            unfold attE at hA
            rw [if_neg h6, if_pos h4] at hA
            split at hA
            · cases hA
            · injection hA with hA; exact hA.symm
          simp only
          rw [if_pos hk]
          exact ref1_lost21_4 ps cs xn xs xt a n q c w h hl ho h4 k hA
      · have hA : attE es a = .error 2 := by unfold attE; rw [if_neg h6, if_neg h4]
        rw [hA]
        simp only
        rw [if_neg (by decide)]
        exact ref1_rec_bad21 ps cs xn xs xt a n q c w h hl h6 h4
  · have e : oneE es ⟨22, xn, xs, xt⟩ a = getV es a xs := rfl
    rw [e]
    unfold getV
    by_cases h6 : opV a = 6
    · have hA : attE es a = .ok a := if_pos h6
      rw [hA]
      exact ref1_fld22_6 ps cs xn xs xt a n q c w h hl ho h6 a hA h6
    · by_cases h4 : opV a = 4
      · cases hA : attE es a with
        | ok r => exact ref1_fld22_4 ps cs xn xs xt a n q c w h hl ho h4 r hA (hatt r hA)
        | error k =>
          have hk : k = 8 := by
            unfold attE at hA
            rw [if_neg h6, if_pos h4] at hA
            split at hA
            · cases hA
            · injection hA with hA; exact hA.symm
          simp only
          have := ref1_lost22_4 ps cs xn xs xt a n q c w h hl ho h4 k hA
          rw [hk]
          exact this
      · have hA : attE es a = .error 2 := by unfold attE; rw [if_neg h6, if_neg h4]
        rw [hA]
        exact ref1_rec_bad22 ps cs xn xs xt a n q c w h hl h6 h4
  · have htx : textOk xs.data.toList = true := by
      unfold exOk at hx
      rw [if_neg (by show ¬ ((1 : Int) ≤ 23 ∧ (23 : Int) ≤ 7); decide), if_neg (by show ¬ ((1 : Int) < 0); decide)] at hx
      simp only [Bool.and_eq_true] at hx
      exact hx.2
    by_cases h3 : opV a = 3
    · have e : oneE es ⟨23, xn, xs, xt⟩ a = .ok (tN (pM (pcs xs.data.toList) (sV a).data.toList)) := if_pos h3
      rw [e]; exact ref1_like ps cs xn xs xt a n q c w h hl h3 htx
    · have e : oneE es ⟨23, xn, xs, xt⟩ a = .error 2 := if_neg h3
      rw [e]; exact ref1_like_bad ps cs xn xs xt a n q c w h hl h3
  · by_cases h4 : opV a = 4
    · have e : oneE es ⟨24, xn, xs, xt⟩ a = .ok (tN (decide (sV a = xs))) := if_pos h4
      rw [e]
      by_cases hs : sV a = xs
      · exact ref1_is_yes ps cs xn xs xt a n q c w h hl h4 hs
      · exact ref1_is_no ps cs xn xs xt a n q c w h hl h4 hs
    · have e : oneE es ⟨24, xn, xs, xt⟩ a = .error 2 := if_neg h4
      rw [e]; exact ref1_is_bad ps cs xn xs xt a n q c w h hl h4
theorem refTwo_any (ho : EnvOk es q0) (op : Int) (hop : op = 14 ∨ op = 15 ∨ op = 16 ∨ op = 17 ∨ op = 18 ∨ op = 19 ∨ op = 20 ∨ op = 25 ∨ op = 26 ∨ op = 27) (a v : List Nd) (n m : Nat) (q p : Option Addr) (c d : Nat) (h : VArg w a n q c) (g : VArg w v m p d) (hl : EL w ps es) :
    Calls Tryz.prog 46 #[.slice ps es.length cs, .int .i64 op, .agg #[.slice q n c, .int .i64 0], .agg #[.slice p m d, .int .i64 0]] w fun e w' => GRet (twoE es op a v) e w' ∧ Below w.heap.size w w' := by
  have num : ∀ o : Int, o = 17 ∨ o = 18 ∨ o = 19 → twoE es o a v = (if opV a = 2 ∧ opV v = 2 then (if nmf o (nV a) (nV v) = 0 then .ok (mN (nx o (nV a) (nV v))) else .error (nmf o (nV a) (nV v))) else .error 2) := by
    intro o h
    unfold twoE
    rw [if_neg (by omega), if_neg (by omega), if_neg (by omega), if_neg (by omega), if_neg (by omega), if_neg (by omega), if_neg (by omega)]
  have cmp : ∀ o : Int, o = 15 ∨ o = 16 ∨ o = 17 ∨ o = 18 ∨ o = 19 → ¬ (opV a = 2 ∧ opV v = 2) → Calls Tryz.prog 46 #[.slice ps es.length cs, .int .i64 o, .agg #[.slice q n c, .int .i64 0], .agg #[.slice p m d, .int .i64 0]] w fun e w' => GRet (.error 2) e w' ∧ Below w.heap.size w w' := by
    intro o h5 hx
    by_cases a2 : opV a = 2
    · exact ref_two_bad2 ps cs o a v n m q p c d w h g hl h5 a2 (fun v2 => hx ⟨a2, v2⟩)
    · exact ref_two_bad1 ps cs o a v n m q p c d w h g hl h5 a2
  have numc : ∀ o : Int, o = 17 ∨ o = 18 ∨ o = 19 → Calls Tryz.prog 46 #[.slice ps es.length cs, .int .i64 o, .agg #[.slice q n c, .int .i64 0], .agg #[.slice p m d, .int .i64 0]] w fun e w' => GRet (twoE es o a v) e w' ∧ Below w.heap.size w w' := by
    intro o h3
    rw [num o h3]
    by_cases hx : opV a = 2 ∧ opV v = 2
    · rw [if_pos hx]
      by_cases hf : nmf o (nV a) (nV v) = 0
      · rw [if_pos hf]; exact ref_two_num_ok ps cs o a v n m q p c d w h g hl h3 hx.1 hx.2 hf
      · rw [if_neg hf]; exact ref_two_num_bad ps cs o a v n m q p c d w h g hl h3 hx.1 hx.2 hf
    · rw [if_neg hx]; exact cmp o (by omega) hx
  rcases hop with rfl | rfl | rfl | rfl | rfl | rfl | rfl | rfl | rfl | rfl
  · have e : twoE es 14 a v = .ok (tN (decide (lsC a v = 0))) := rfl
    rw [e]
    by_cases hq : lsC a v = 0
    · exact ref_two_eq_yes ps cs a v n m q p c d w h g hl hq
    · exact ref_two_eq_no ps cs a v n m q p c d w h g hl hq
  · by_cases hx : opV a = 2 ∧ opV v = 2
    · have e : twoE es 15 a v = .ok (tN (decide (nV a < nV v))) := if_pos hx
      rw [e]; exact ref_two_lt ps cs a v n m q p c d w h g hl hx.1 hx.2
    · have e : twoE es 15 a v = .error 2 := if_neg hx
      rw [e]; exact cmp 15 (by omega) hx
  · by_cases hx : opV a = 2 ∧ opV v = 2
    · have e : twoE es 16 a v = .ok (tN (decide (nV a ≤ nV v))) := if_pos hx
      rw [e]; exact ref_two_le ps cs a v n m q p c d w h g hl hx.1 hx.2
    · have e : twoE es 16 a v = .error 2 := if_neg hx
      rw [e]; exact cmp 16 (by omega) hx
  · exact numc 17 (by omega)
  · exact numc 18 (by omega)
  · exact numc 19 (by omega)
  · have e : twoE es 20 a v = inE es a v := rfl
    rw [e]
    refine ref_two_in ps cs a v n m q p c d w h g hl _ (fun w1 hl1 h1 g1 => ?_)
    by_cases v5 : opV v = 5
    · by_cases a4 : opV a = 4
      · exact in_set_yes ps cs a v n m q p c d w1 h1 g1 hl1 ho v5 a4
      · exact in_set_no ps cs a v n m q p c d w1 h1 g1 hl1 ho v5 a4
    · by_cases a4 : opV a = 4
      · exact in_one_yes ps cs a v n m q p c d w1 h1 g1 hl1 ho v5 a4
      · exact in_one_no ps cs a v n m q p c d w1 h1 g1 hl1 ho v5 a4
  · refine ref_two_sets25 ps cs a v n m q p c d w h g hl _ (fun w1 h1 g1 => ?_)
    by_cases a5 : opV a = 5
    · have e : twoE es 25 a v = .ok (tN (inB (setR a) v)) := if_pos a5
      rw [e]; exact ref_sets_one a v n m q p c d w1 h1 g1 a5
    · have e : twoE es 25 a v = .error 2 := if_neg a5
      rw [e]; exact ref_sets_bad1 25 a v n m q p c d w1 h1 g1 a5
  · refine ref_two_sets26 ps cs a v n m q p c d w h g hl _ (fun w1 h1 g1 => ?_)
    by_cases hx : opV a = 5 ∧ opV v = 5
    · have e : twoE es 26 a v = .ok (tN (allB (setR a) (setR v))) := if_pos hx
      rw [e]; exact ref_sets_all a v n m q p c d w1 h1 g1 hx.1 hx.2
    · have e : twoE es 26 a v = .error 2 := if_neg hx
      rw [e]
      by_cases a5 : opV a = 5
      · exact ref_sets_bad2 26 a v n m q p c d w1 h1 g1 a5 (fun v5 => hx ⟨a5, v5⟩) (by decide)
      · exact ref_sets_bad1 26 a v n m q p c d w1 h1 g1 a5
  · refine ref_two_sets27 ps cs a v n m q p c d w h g hl _ (fun w1 h1 g1 => ?_)
    by_cases hx : opV a = 5 ∧ opV v = 5
    · have e : twoE es 27 a v = .ok (tN (anyB (setR a) (setR v))) := if_pos hx
      rw [e]; exact ref_sets_any a v n m q p c d w1 h1 g1 hx.1 hx.2
    · have e : twoE es 27 a v = .error 2 := if_neg hx
      rw [e]
      by_cases a5 : opV a = 5
      · exact ref_sets_bad2 27 a v n m q p c d w1 h1 g1 a5 (fun v5 => hx ⟨a5, v5⟩) (by decide)
      · exact ref_sets_bad1 27 a v n m q p c d w1 h1 g1 a5
end
end Go.Proofs.YtnilaghbbhmkgaaGreatDoor
namespace Go.Proofs.YtnilaghbbhmkgaaGreatDoor
open Go.RowKit
set_option linter.unusedVariables false
set_option maxRecDepth 100000

/-- What the document's Worth is handed. -/
structure WArg (es : List En) (ps : Option Addr) (q : Rq) (pq : Option Addr) (cq : Nat) (e : List Nd) (pe : Option Addr) (w : World) : Prop where
  el : EL w ps es
  rq : RqArg w q pq cq
  nl : NL w pe e
theorem WArg.up {es : List En} {ps : Option Addr} {q : Rq} {pq : Option Addr} {cq : Nat} {e : List Nd} {pe : Option Addr} {w w' : World} (h : WArg es ps q pq cq e pe w) (k : Below w.heap.size w w') : WArg es ps q pq cq e pe w' :=
  ⟨h.el.up k, ⟨h.rq.u0, h.rq.u1, h.rq.u2, h.rq.nl.up k, h.rq.le, h.rq.cm⟩, h.nl.up k⟩
/-- Three places in a row. -/
structure P3 (w : World) (bp op : Nat) (k0 k1 k2 : Int) : Prop where
  cells : w.cell? ⟨bp, op, none⟩ = some (.int .i64 k0) ∧ w.cell? ⟨bp, op + 1, none⟩ = some (.int .i64 k1) ∧ w.cell? ⟨bp, op + 2, none⟩ = some (.int .i64 k2)
  lt : bp < w.heap.size
theorem P3.bel {N : Nat} {w w' : World} {bp op : Nat} {k0 k1 k2 : Int} (h : P3 w bp op k0 k1 k2) (k : Below N w w') (hl : bp < N) : P3 w' bp op k0 k1 k2 :=
  ⟨⟨(k.cell (p := ⟨bp, op, none⟩) hl).trans h.cells.1, (k.cell (p := ⟨bp, op + 1, none⟩) hl).trans h.cells.2.1, (k.cell (p := ⟨bp, op + 2, none⟩) hl).trans h.cells.2.2⟩, Nat.lt_of_lt_of_le h.lt k.size⟩
theorem P3.up {w w' : World} {bp op : Nat} {k0 k1 k2 : Int} (h : P3 w bp op k0 k1 k2) (k : Below w.heap.size w w') : P3 w' bp op k0 k1 k2 := h.bel k h.lt
theorem QR.bel {N : Nat} {w w' : World} {B : Nat} {q : Rq} {pq : Option Addr} {cq : Nat} (h : QR w B q pq cq) (k : Below N w w') (hl : B < N) : QR w' B q pq cq := ⟨(k.block B hl).trans h.blk⟩
theorem GR.belk {N : Nat} {w w' : World} {B : Nat} (h : GR w B) (k : Below N w w') (hl : B < N) : GR w' B := ⟨(k.block B hl).trans h.blk⟩
theorem QP.cells {w : World} {B : Nat} {q : Rq} {pq : Option Addr} {cq : Nat} {bp op : Nat} {k0 k1 k2 : Int} (h : QR w B q pq cq) (k : P3 w bp op k0 k1 k2) :
    w.cell? ⟨B, 0, none⟩ = some (.string q.who.t) ∧ w.cell? ⟨B, 1, none⟩ = some (.string q.who.i) ∧ w.cell? ⟨B, 2, none⟩ = some (.string q.act.t) ∧ w.cell? ⟨B, 3, none⟩ = some (.string q.act.i) ∧ w.cell? ⟨B, 4, none⟩ = some (.string q.what.t) ∧ w.cell? ⟨B, 5, none⟩ = some (.string q.what.i) ∧ w.cell? ⟨B, 6, none⟩ = some (.slice pq q.cx.length cq) ∧ w.cell? ⟨bp, op, none⟩ = some (.int .i64 k0) ∧ w.cell? ⟨bp, op + 1, none⟩ = some (.int .i64 k1) ∧ w.cell? ⟨bp, op + 2, none⟩ = some (.int .i64 k2) := by
  obtain ⟨h0, h1, h2, h3, h4, h5, h6⟩ := h.cells
  exact ⟨h0, h1, h2, h3, h4, h5, h6, k.cells⟩
/-- Two cells of an answer. -/
structure G2 (w : World) (B : Nat) (u v : Value) : Prop where
  lt : B < w.heap.size
  cells : w.cell? ⟨B, 0, none⟩ = some u ∧ w.cell? ⟨B, 1, none⟩ = some v
theorem G2.bel {N : Nat} {w w' : World} {B : Nat} {u v : Value} (h : G2 w B u v) (k : Below N w w') (hl : B < N) : G2 w' B u v :=
  ⟨Nat.lt_of_lt_of_le h.lt k.size, (k.cell (p := ⟨B, 0, none⟩) hl).trans h.cells.1, (k.cell (p := ⟨B, 1, none⟩) hl).trans h.cells.2⟩
theorem G2.up {w w' : World} {B : Nat} {u v : Value} (h : G2 w B u v) (hb : Below w.heap.size w w') : G2 w' B u v := h.bel hb h.lt
/-- A Got told into a variable's block: the block was laid behind the call or ahead of it. -/
def Ended (w : World) (N : Nat) (u v : Value) (V : World) (B : Nat) : Prop :=
  (V = w.alloc (.cells #[u, v] 30) ∧ B = w.heap.size) ∨ (GR w N ∧ V = (w.setCell ⟨N, 0, none⟩ u).setCell ⟨N, 1, none⟩ v ∧ B = N)
section
variable {w V : World} {N B : Nat} {u v : Value} (h : Ended w N u v V B)
include h
theorem Ended.g2 : G2 V B u v := by
  rcases h with ⟨rfl, rfl⟩ | ⟨g, rfl, rfl⟩
  · have key : ∀ (X : World) n, X.heap[n]? = some (.cells #[u, v] 30 (0, 0)) → X.cell? ⟨n, 0, none⟩ = some u ∧ X.cell? ⟨n, 1, none⟩ = some v := by
      intro X n h
      simp [World.cell?, h]
    exact ⟨by simp, key _ _ (new_at rfl)⟩
  · exact ⟨by simpa using g.lt, g.told u v⟩
theorem Ended.below {w0 : World} (k : Below w0.heap.size w0 w) (hN : w0.heap.size ≤ N) : Below w0.heap.size w0 V := by
  rcases h with ⟨rfl, rfl⟩ | ⟨g, rfl, rfl⟩
  · exact qbt k ((Below.refl _ _).alloc (Nat.le_refl _) _)
  · exact k.trans (GR.bel hN u v)
theorem Ended.hQ {C : Nat} {q : Rq} {pq : Option Addr} {cq : Nat} (k : QR w C q pq cq) (hN : C < N) : QR V C q pq cq := by
  rcases h with ⟨rfl, rfl⟩ | ⟨g, rfl, rfl⟩
  · exact k.up ((Below.refl _ _).alloc (Nat.le_refl _) _)
  · exact k.bel (GR.bel (Nat.le_refl _) u v) hN
theorem Ended.hR {C : Nat} (k : GR w C) (hN : C < N) : GR V C := by
  rcases h with ⟨rfl, rfl⟩ | ⟨g, rfl, rfl⟩
  · exact k.up ((Below.refl _ _).alloc (Nat.le_refl _) _)
  · exact k.belk (GR.bel (Nat.le_refl _) u v) hN
theorem Ended.g2k {C : Nat} {u' v' : Value} (k : G2 w C u' v') (hN : C < N) : G2 V C u' v' := by
  rcases h with ⟨rfl, rfl⟩ | ⟨g, rfl, rfl⟩
  · exact k.up ((Below.refl _ _).alloc (Nat.le_refl _) _)
  · exact k.bel (GR.bel (Nat.le_refl _) u v) hN
theorem Ended.val {a : List Nd} {n : Nat} {q : Option Addr} {c : Nat} (k : VArg w a n q c) : VArg V a n q c := by
  rcases h with ⟨rfl, rfl⟩ | ⟨g, rfl, rfl⟩
  · exact k.up ((Below.refl _ _).alloc (Nat.le_refl _) _)
  · exact g.keep k u v
end
/-- A value told. -/
def HOk (x : Nd) (r : List Nd) (m : Nat) (en : Ending) (w : World) : Prop := ∃ b off c, en = .returned (.agg #[.slice (some ⟨b, off, none⟩) m c, .int .i64 0]) ∧ VArg w (x :: r) m (some ⟨b, off, none⟩) c
def tT : Nd := ⟨1, 1, ⟨#[]⟩, ⟨#[]⟩⟩
def tF : Nd := ⟨1, 0, ⟨#[]⟩, ⟨#[]⟩⟩
theorem cellsT {w : World} {m b off c : Nat} (h : VArg w (tT :: []) m (some ⟨b, off, none⟩) c) : w.cell? ⟨b, off, none⟩ = some (.int .i64 1) ∧ w.cell? ⟨b, off + 1, none⟩ = some (.int .i64 1) := ⟨h.cells.1, h.cells.2.1⟩
theorem cellsF {w : World} {m b off c : Nat} (h : VArg w (tF :: []) m (some ⟨b, off, none⟩) c) : w.cell? ⟨b, off, none⟩ = some (.int .i64 1) ∧ w.cell? ⟨b, off + 1, none⟩ = some (.int .i64 0) := ⟨h.cells.1, h.cells.2.1⟩
theorem GRet.shape {R : Except Int (List Nd)} {en : Ending} {w : World} (h : GRet R en w) : ∃ q n c k, en = .returned (.agg #[.slice q n c, .int .i64 k]) := by
  cases R with
  | error n => exact ⟨none, 0, 0, n, h⟩
  | ok a => obtain ⟨q, c, e, _⟩ := h; exact ⟨q, a.length, c, 0, e⟩
section
variable (es : List En) (ps : Option Addr) (cs : Nat) (q : Rq) (pq : Option Addr) (cq : Nat) (e : List Nd) (pe : Option Addr) (ce : Nat) (bp op lp cp : Nat) (k0 k1 k2 : Int) (w : World) (hE0 : WArg es ps q pq cq e pe w) (hP0 : P3 w bp op k0 k1 k2) (hlp : 3 ≤ lp) (x0 x1 : Nd) (r0 r1 : List Nd) (m0 m1 : Nat) (n0 n1 : Int) (R : Except Int (List Nd))
include hE0 hP0 hlp
set_option maxHeartbeats 4000000 in
theorem lz_err (o : Int) (hn : n0 ≠ 0) (HW0 : ∀ w1, WArg es ps q pq cq e pe w1 → Calls Tryz.prog 21 #[.slice ps es.length cs, reqV q pq cq, .slice pe e.length ce, .int .i64 k0] w1 fun en w' => en = .returned (.agg #[.slice none 0 0, .int .i64 n0]) ∧ Below w1.heap.size w1 w') :
    Calls Tryz.prog 41 #[.slice ps es.length cs, reqV q pq cq, .slice pe e.length ce, .int .i64 o, .slice (some ⟨bp, op, none⟩) lp cp] w fun en w' => GRet (.error n0) en w' ∧ Below w.heap.size w w' := by
  obtain ⟨W, hW⟩ : ∃ W, W = (w.alloc (.cells #[.string q.who.t, .string q.who.i, .string q.act.t, .string q.act.i, .string q.what.t, .string q.what.i, .slice pq q.cx.length cq] 27)).alloc (.cells #[.slice none 0 0, .int .i64 0] 30) := ⟨_, rfl⟩
  have hb_0 : Below w.heap.size w W := by rw [hW]; exact ((Below.refl _ _).alloc (Nat.le_refl _) _).alloc (by simp) _
  have hQ_0 : QR W w.heap.size q pq cq := by rw [hW]; exact (QR.new w q pq cq).up ((Below.refl _ _).alloc (Nat.le_refl _) _)
  have hR_0 : GR W (w.heap.size + 1) := by rw [hW]; exact GR.new _ (by simp)
  have hWs : W.heap.size = w.heap.size + 1 + 1 := by rw [hW]; simp
  have hE_0 := hE0.up hb_0
  have hP_0 := hP0.up hb_0
  have hPlt := hP0.lt
  have hQlt : w.heap.size + 1 < W.heap.size := by omega
  unfold reqV at HW0 ⊢
  have i7 : (0 : Int) < (lp : Int) := by omega
  have i8 : (1 : Int) < (lp : Int) := by omega
  have i9 : (2 : Int) < (lp : Int) := by omega
  go_enter Tryz.func41, Tryz.ntmps41
  obtain ⟨x0, x1, x2, x3, x4, x5, x6⟩ := hQ_0.cells
  obtain ⟨r0, r1, f0, f1⟩ := hR_0.cells
  obtain ⟨p0, p1, p2⟩ := hP_0.cells
  go_wp2_with fail
  rw [← hW]
  clear hW
  go_region_held (fun w' => w'.cell? ⟨w.heap.size, 0, none⟩ = some (.string q.who.t) ∧ w'.cell? ⟨w.heap.size, 1, none⟩ = some (.string q.who.i) ∧ w'.cell? ⟨w.heap.size, 2, none⟩ = some (.string q.act.t) ∧ w'.cell? ⟨w.heap.size, 3, none⟩ = some (.string q.act.i) ∧ w'.cell? ⟨w.heap.size, 4, none⟩ = some (.string q.what.t) ∧ w'.cell? ⟨w.heap.size, 5, none⟩ = some (.string q.what.i) ∧ w'.cell? ⟨w.heap.size, 6, none⟩ = some (.slice pq q.cx.length cq) ∧ w'.cell? ⟨bp, op, none⟩ = some (.int .i64 k0) ∧ w'.cell? ⟨bp, op + 1, none⟩ = some (.int .i64 k1) ∧ w'.cell? ⟨bp, op + 2, none⟩ = some (.int .i64 k2)) (first | exact QP.cells (QR.bel hQ_1 (GR.bel (Nat.le_refl (w.heap.size + 1 + 1)) _ _) (by have := hR_0.lt; have := hPlt; have := hb_0.size; omega)) (P3.bel hP_1 (GR.bel (Nat.le_refl (w.heap.size + 1 + 1)) _ _) (by have := hR_0.lt; have := hPlt; have := hb_0.size; omega)) | exact QP.cells (QR.bel hQ_1 ((Below.refl _ _).setCell (p := ⟨(w.heap.size + 1 + 1), 0, none⟩) (Nat.le_refl _) _) (by have := hR_0.lt; have := hPlt; have := hb_0.size; omega)) (P3.bel hP_1 ((Below.refl _ _).setCell (p := ⟨(w.heap.size + 1 + 1), 0, none⟩) (Nat.le_refl _) _) (by have := hR_0.lt; have := hPlt; have := hb_0.size; omega)) | exact QP.cells (QR.up hQ_1 (by repeat (first | exact Below.refl _ _ | apply zbA | apply zbD))) (P3.up hP_1 (by repeat (first | exact Below.refl _ _ | apply zbA | apply zbD))) | exact QP.cells (QR.up hQ_0 (by repeat (first | exact Below.refl _ _ | apply zbA | apply zbD))) (P3.up hP_0 (by repeat (first | exact Below.refl _ _ | apply zbA | apply zbD)))) (first
    | (go_at_call 21
       refine (HW0 _ (WArg.up hE_0 (by repeat (first | exact Below.refl _ _ | apply zbA | apply zbD)))).mono ?_
       rintro _ w1 ⟨rfl, hbb_1⟩
       have hbk_1 : Below W.heap.size W w1 := qbt (by repeat (first | exact Below.refl _ _ | apply zbA | apply zbD)) hbb_1
       have hb_1 := qbt hb_0 hbk_1
       have hQ_1 := hQ_0.up hbk_1
       have hR_1 := hR_0.up hbk_1
       have hE_1 := hE_0.up hbk_1
       have hP_1 := hP_0.up hbk_1
       first | (have hC0 : GR w1 ((w.heap.size + 1 + 1)) := GR.up (GR.up (GR.new W hWs.symm) (zbD (Below.refl _ _))) hbb_1; obtain ⟨cc0, cc1, cf0, cf1⟩ := hC0.cells) | skip))
  all_goals
    first
    | (obtain ⟨w2, hV⟩ : ∃ V, V = w1.alloc (.cells #[.slice none 0 0, .int .i64 n0] 30) := ⟨_, rfl⟩
       obtain ⟨Bgc, hBc⟩ : ∃ V, V = w1.heap.size := ⟨_, rfl⟩
       have hEd : Ended w1 (w.heap.size + 1 + 1) (.slice none 0 0) (.int .i64 n0) w2 Bgc := .inl ⟨hV, hBc⟩
       rw [← hV, ← hBc]
       clear hV hBc)
    | (obtain ⟨w2, hV⟩ : ∃ V, V = (w1.setCell ⟨(w.heap.size + 1 + 1), 0, none⟩ (.slice none 0 0)).setCell ⟨(w.heap.size + 1 + 1), 1, none⟩ (.int .i64 n0) := ⟨_, rfl⟩
       obtain ⟨Bgc, hBc⟩ : ∃ V, V = (w.heap.size + 1 + 1) := ⟨_, rfl⟩
       have hEd : Ended w1 (w.heap.size + 1 + 1) (.slice none 0 0) (.int .i64 n0) w2 Bgc := .inr ⟨hC0, hV, hBc⟩
       rw [← hV, ← hBc]
       clear hV hBc hC0 cc0 cc1 cf0 cf1)
    have hb_2 := hEd.below hb_1 (by have := hR_0.lt; have := hPlt; have := hb_0.size; omega)
    have gc_2 := hEd.g2
    have hQ_2 := hEd.hQ hQ_1 (by have := hR_0.lt; have := hPlt; have := hb_0.size; omega)
    have hR_2 := hEd.hR hR_1 (by have := hR_0.lt; have := hPlt; have := hb_0.size; omega)
    have hE_2 := hE0.up hb_2
    have hP_2 := hP0.up hb_2
    clear hEd
    obtain ⟨x0, x1, x2, x3, x4, x5, x6⟩ := hQ_2.cells
    obtain ⟨r0, r1, f0, f1⟩ := hR_2.cells
    obtain ⟨p0, p1, p2⟩ := hP_2.cells
    obtain ⟨gca, gcb⟩ := gc_2.cells
    go_wp2
    exact bodyPost_ret (v := .agg #[.slice none 0 0, .int .i64 n0]) (by simp [results, Tryz.results41, go_sem, (hR_2.told _ _).1, (hR_2.told _ _).2]) rfl (hR_2.ret (by omega) hb_2 (rfl))
set_option maxHeartbeats 4000000 in
theorem lz_bad (o : Int) (hx0 : x0.op ≠ 1) (HW0 : ∀ w1, WArg es ps q pq cq e pe w1 → Calls Tryz.prog 21 #[.slice ps es.length cs, reqV q pq cq, .slice pe e.length ce, .int .i64 k0] w1 fun en w' => HOk x0 r0 m0 en w' ∧ Below w1.heap.size w1 w') :
    Calls Tryz.prog 41 #[.slice ps es.length cs, reqV q pq cq, .slice pe e.length ce, .int .i64 o, .slice (some ⟨bp, op, none⟩) lp cp] w fun en w' => GRet (.error 2) en w' ∧ Below w.heap.size w w' := by
  have HI := fun w1 b off c (h1 : VArg w1 (x0 :: r0) m0 (some ⟨b, off, none⟩) c) => refIs_any w1 (x0 :: r0) m0 (some ⟨b, off, none⟩) c 1 h1
  rw [show (opV (x0 :: r0) == 1) = false by simpa [opV] using hx0] at HI
  obtain ⟨W, hW⟩ : ∃ W, W = (w.alloc (.cells #[.string q.who.t, .string q.who.i, .string q.act.t, .string q.act.i, .string q.what.t, .string q.what.i, .slice pq q.cx.length cq] 27)).alloc (.cells #[.slice none 0 0, .int .i64 0] 30) := ⟨_, rfl⟩
  have hb_0 : Below w.heap.size w W := by rw [hW]; exact ((Below.refl _ _).alloc (Nat.le_refl _) _).alloc (by simp) _
  have hQ_0 : QR W w.heap.size q pq cq := by rw [hW]; exact (QR.new w q pq cq).up ((Below.refl _ _).alloc (Nat.le_refl _) _)
  have hR_0 : GR W (w.heap.size + 1) := by rw [hW]; exact GR.new _ (by simp)
  have hWs : W.heap.size = w.heap.size + 1 + 1 := by rw [hW]; simp
  have hE_0 := hE0.up hb_0
  have hP_0 := hP0.up hb_0
  have hPlt := hP0.lt
  have hQlt : w.heap.size + 1 < W.heap.size := by omega
  unfold reqV at HW0 ⊢
  have i7 : (0 : Int) < (lp : Int) := by omega
  have i8 : (1 : Int) < (lp : Int) := by omega
  have i9 : (2 : Int) < (lp : Int) := by omega
  go_enter Tryz.func41, Tryz.ntmps41
  obtain ⟨x0, x1, x2, x3, x4, x5, x6⟩ := hQ_0.cells
  obtain ⟨r0, r1, f0, f1⟩ := hR_0.cells
  obtain ⟨p0, p1, p2⟩ := hP_0.cells
  go_wp2_with fail
  rw [← hW]
  clear hW
  go_region_held (fun w' => w'.cell? ⟨w.heap.size, 0, none⟩ = some (.string q.who.t) ∧ w'.cell? ⟨w.heap.size, 1, none⟩ = some (.string q.who.i) ∧ w'.cell? ⟨w.heap.size, 2, none⟩ = some (.string q.act.t) ∧ w'.cell? ⟨w.heap.size, 3, none⟩ = some (.string q.act.i) ∧ w'.cell? ⟨w.heap.size, 4, none⟩ = some (.string q.what.t) ∧ w'.cell? ⟨w.heap.size, 5, none⟩ = some (.string q.what.i) ∧ w'.cell? ⟨w.heap.size, 6, none⟩ = some (.slice pq q.cx.length cq) ∧ w'.cell? ⟨bp, op, none⟩ = some (.int .i64 k0) ∧ w'.cell? ⟨bp, op + 1, none⟩ = some (.int .i64 k1) ∧ w'.cell? ⟨bp, op + 2, none⟩ = some (.int .i64 k2)) (first | exact QP.cells (QR.bel hQ_1 (GR.bel (Nat.le_refl (w.heap.size + 1 + 1)) _ _) (by have := hR_0.lt; have := hPlt; have := hb_0.size; omega)) (P3.bel hP_1 (GR.bel (Nat.le_refl (w.heap.size + 1 + 1)) _ _) (by have := hR_0.lt; have := hPlt; have := hb_0.size; omega)) | exact QP.cells (QR.bel hQ_1 ((Below.refl _ _).setCell (p := ⟨(w.heap.size + 1 + 1), 0, none⟩) (Nat.le_refl _) _) (by have := hR_0.lt; have := hPlt; have := hb_0.size; omega)) (P3.bel hP_1 ((Below.refl _ _).setCell (p := ⟨(w.heap.size + 1 + 1), 0, none⟩) (Nat.le_refl _) _) (by have := hR_0.lt; have := hPlt; have := hb_0.size; omega)) | exact QP.cells (QR.up hQ_1 (by repeat (first | exact Below.refl _ _ | apply zbA | apply zbD))) (P3.up hP_1 (by repeat (first | exact Below.refl _ _ | apply zbA | apply zbD))) | exact QP.cells (QR.up hQ_0 (by repeat (first | exact Below.refl _ _ | apply zbA | apply zbD))) (P3.up hP_0 (by repeat (first | exact Below.refl _ _ | apply zbA | apply zbD)))) (first
    | (go_at_call 21
       refine (HW0 _ (WArg.up hE_0 (by repeat (first | exact Below.refl _ _ | apply zbA | apply zbD)))).mono ?_
       rintro _ w1 ⟨⟨bhv, ohv, chv, rfl, hv_1⟩, hbb_1⟩
       have hbk_1 : Below W.heap.size W w1 := qbt (by repeat (first | exact Below.refl _ _ | apply zbA | apply zbD)) hbb_1
       have hb_1 := qbt hb_0 hbk_1
       have hQ_1 := hQ_0.up hbk_1
       have hR_1 := hR_0.up hbk_1
       have hE_1 := hE_0.up hbk_1
       have hP_1 := hP_0.up hbk_1
       first | (have hC0 : GR w1 ((w.heap.size + 1 + 1)) := GR.up (GR.up (GR.new W hWs.symm) (zbD (Below.refl _ _))) hbb_1; obtain ⟨cc0, cc1, cf0, cf1⟩ := hC0.cells) | skip))
  all_goals
    first
    | (obtain ⟨w2, hV⟩ : ∃ V, V = w1.alloc (.cells #[.slice (some ⟨bhv, ohv, none⟩) m0 chv, .int .i64 0] 30) := ⟨_, rfl⟩
       obtain ⟨Bgc, hBc⟩ : ∃ V, V = w1.heap.size := ⟨_, rfl⟩
       have hEd : Ended w1 (w.heap.size + 1 + 1) (.slice (some ⟨bhv, ohv, none⟩) m0 chv) (.int .i64 0) w2 Bgc := .inl ⟨hV, hBc⟩
       rw [← hV, ← hBc]
       clear hV hBc)
    | (obtain ⟨w2, hV⟩ : ∃ V, V = (w1.setCell ⟨(w.heap.size + 1 + 1), 0, none⟩ (.slice (some ⟨bhv, ohv, none⟩) m0 chv)).setCell ⟨(w.heap.size + 1 + 1), 1, none⟩ (.int .i64 0) := ⟨_, rfl⟩
       obtain ⟨Bgc, hBc⟩ : ∃ V, V = (w.heap.size + 1 + 1) := ⟨_, rfl⟩
       have hEd : Ended w1 (w.heap.size + 1 + 1) (.slice (some ⟨bhv, ohv, none⟩) m0 chv) (.int .i64 0) w2 Bgc := .inr ⟨hC0, hV, hBc⟩
       rw [← hV, ← hBc]
       clear hV hBc hC0 cc0 cc1 cf0 cf1)
    have hb_2 := hEd.below hb_1 (by have := hR_0.lt; have := hPlt; have := hb_0.size; omega)
    have gc_2 := hEd.g2
    have hQ_2 := hEd.hQ hQ_1 (by have := hR_0.lt; have := hPlt; have := hb_0.size; omega)
    have hR_2 := hEd.hR hR_1 (by have := hR_0.lt; have := hPlt; have := hb_0.size; omega)
    have hE_2 := hE0.up hb_2
    have hP_2 := hP0.up hb_2
    have hv_2 := hEd.val hv_1
    clear hEd
    obtain ⟨x0, x1, x2, x3, x4, x5, x6⟩ := hQ_2.cells
    obtain ⟨r0, r1, f0, f1⟩ := hR_2.cells
    obtain ⟨p0, p1, p2⟩ := hP_2.cells
    obtain ⟨gca, gcb⟩ := gc_2.cells
    go_wp2_with fail
    refine (HI _ _ _ _ hv_2).mono ?_
    rintro _ w3 ⟨rfl, hbb⟩
    clear x0 x1 x2 x3 x4 x5 x6 r0 r1 f0 f1 p0 p1 p2 gca gcb
    have hb_3 := qbt hb_2 hbb
    have hQ_3 := hQ_2.up hbb
    have hR_3 := hR_2.up hbb
    have hE_3 := hE_2.up hbb
    have hP_3 := hP_2.up hbb
    have hv_3 := hv_2.up hbb
    have gc_3 := gc_2.up hbb
    clear hbb hb_2 hQ_2 hR_2 hE_2 hP_2 hv_2 gc_2
    obtain ⟨x0, x1, x2, x3, x4, x5, x6⟩ := hQ_3.cells
    obtain ⟨r0, r1, f0, f1⟩ := hR_3.cells
    obtain ⟨p0, p1, p2⟩ := hP_3.cells
    obtain ⟨gca, gcb⟩ := gc_3.cells
    go_wp2_with fail
    refine (refBad_any _ 2).mono ?_
    rintro _ w4 ⟨rfl, hbb⟩
    clear x0 x1 x2 x3 x4 x5 x6 r0 r1 f0 f1 p0 p1 p2 gca gcb
    have hb_4 := qbt hb_3 hbb
    have hQ_4 := hQ_3.up hbb
    have hR_4 := hR_3.up hbb
    have hE_4 := hE_3.up hbb
    have hP_4 := hP_3.up hbb
    have hv_4 := hv_3.up hbb
    have gc_4 := gc_3.up hbb
    clear hbb hb_3 hQ_3 hR_3 hE_3 hP_3 hv_3 gc_3
    obtain ⟨x0, x1, x2, x3, x4, x5, x6⟩ := hQ_4.cells
    obtain ⟨r0, r1, f0, f1⟩ := hR_4.cells
    obtain ⟨p0, p1, p2⟩ := hP_4.cells
    obtain ⟨gca, gcb⟩ := gc_4.cells
    go_wp2
    exact bodyPost_ret (v := .agg #[.slice none 0 0, .int .i64 2]) (by simp [results, Tryz.results41, go_sem, (hR_4.told _ _).1, (hR_4.told _ _).2]) rfl (hR_4.ret (by omega) hb_4 (rfl))
set_option maxHeartbeats 4000000 in
theorem lz_en_11 (HW0 : ∀ w1, WArg es ps q pq cq e pe w1 → Calls Tryz.prog 21 #[.slice ps es.length cs, reqV q pq cq, .slice pe e.length ce, .int .i64 k0] w1 fun en w' => HOk tF [] 1 en w' ∧ Below w1.heap.size w1 w') :
    Calls Tryz.prog 41 #[.slice ps es.length cs, reqV q pq cq, .slice pe e.length ce, .int .i64 11, .slice (some ⟨bp, op, none⟩) lp cp] w fun en w' => GRet (.ok [tF]) en w' ∧ Below w.heap.size w w' := by
  have HI := fun w1 b off c (h1 : VArg w1 (tF :: []) 1 (some ⟨b, off, none⟩) c) => refIs_any w1 (tF :: []) 1 (some ⟨b, off, none⟩) c 1 h1
  rw [show (opV (tF :: []) == 1) = true from rfl] at HI
  obtain ⟨W, hW⟩ : ∃ W, W = (w.alloc (.cells #[.string q.who.t, .string q.who.i, .string q.act.t, .string q.act.i, .string q.what.t, .string q.what.i, .slice pq q.cx.length cq] 27)).alloc (.cells #[.slice none 0 0, .int .i64 0] 30) := ⟨_, rfl⟩
  have hb_0 : Below w.heap.size w W := by rw [hW]; exact ((Below.refl _ _).alloc (Nat.le_refl _) _).alloc (by simp) _
  have hQ_0 : QR W w.heap.size q pq cq := by rw [hW]; exact (QR.new w q pq cq).up ((Below.refl _ _).alloc (Nat.le_refl _) _)
  have hR_0 : GR W (w.heap.size + 1) := by rw [hW]; exact GR.new _ (by simp)
  have hWs : W.heap.size = w.heap.size + 1 + 1 := by rw [hW]; simp
  have hE_0 := hE0.up hb_0
  have hP_0 := hP0.up hb_0
  have hPlt := hP0.lt
  have hQlt : w.heap.size + 1 < W.heap.size := by omega
  unfold reqV at HW0 ⊢
  have i7 : (0 : Int) < (lp : Int) := by omega
  have i8 : (1 : Int) < (lp : Int) := by omega
  have i9 : (2 : Int) < (lp : Int) := by omega
  go_enter Tryz.func41, Tryz.ntmps41
  obtain ⟨x0, x1, x2, x3, x4, x5, x6⟩ := hQ_0.cells
  obtain ⟨r0, r1, f0, f1⟩ := hR_0.cells
  obtain ⟨p0, p1, p2⟩ := hP_0.cells
  go_wp2_with fail
  rw [← hW]
  clear hW
  go_region_held (fun w' => w'.cell? ⟨w.heap.size, 0, none⟩ = some (.string q.who.t) ∧ w'.cell? ⟨w.heap.size, 1, none⟩ = some (.string q.who.i) ∧ w'.cell? ⟨w.heap.size, 2, none⟩ = some (.string q.act.t) ∧ w'.cell? ⟨w.heap.size, 3, none⟩ = some (.string q.act.i) ∧ w'.cell? ⟨w.heap.size, 4, none⟩ = some (.string q.what.t) ∧ w'.cell? ⟨w.heap.size, 5, none⟩ = some (.string q.what.i) ∧ w'.cell? ⟨w.heap.size, 6, none⟩ = some (.slice pq q.cx.length cq) ∧ w'.cell? ⟨bp, op, none⟩ = some (.int .i64 k0) ∧ w'.cell? ⟨bp, op + 1, none⟩ = some (.int .i64 k1) ∧ w'.cell? ⟨bp, op + 2, none⟩ = some (.int .i64 k2)) (first | exact QP.cells (QR.bel hQ_1 (GR.bel (Nat.le_refl (w.heap.size + 1 + 1)) _ _) (by have := hR_0.lt; have := hPlt; have := hb_0.size; omega)) (P3.bel hP_1 (GR.bel (Nat.le_refl (w.heap.size + 1 + 1)) _ _) (by have := hR_0.lt; have := hPlt; have := hb_0.size; omega)) | exact QP.cells (QR.bel hQ_1 ((Below.refl _ _).setCell (p := ⟨(w.heap.size + 1 + 1), 0, none⟩) (Nat.le_refl _) _) (by have := hR_0.lt; have := hPlt; have := hb_0.size; omega)) (P3.bel hP_1 ((Below.refl _ _).setCell (p := ⟨(w.heap.size + 1 + 1), 0, none⟩) (Nat.le_refl _) _) (by have := hR_0.lt; have := hPlt; have := hb_0.size; omega)) | exact QP.cells (QR.up hQ_1 (by repeat (first | exact Below.refl _ _ | apply zbA | apply zbD))) (P3.up hP_1 (by repeat (first | exact Below.refl _ _ | apply zbA | apply zbD))) | exact QP.cells (QR.up hQ_0 (by repeat (first | exact Below.refl _ _ | apply zbA | apply zbD))) (P3.up hP_0 (by repeat (first | exact Below.refl _ _ | apply zbA | apply zbD)))) (first
    | (go_at_call 21
       refine (HW0 _ (WArg.up hE_0 (by repeat (first | exact Below.refl _ _ | apply zbA | apply zbD)))).mono ?_
       rintro _ w1 ⟨⟨bhv, ohv, chv, rfl, hv_1⟩, hbb_1⟩
       have hbk_1 : Below W.heap.size W w1 := qbt (by repeat (first | exact Below.refl _ _ | apply zbA | apply zbD)) hbb_1
       have hb_1 := qbt hb_0 hbk_1
       have hQ_1 := hQ_0.up hbk_1
       have hR_1 := hR_0.up hbk_1
       have hE_1 := hE_0.up hbk_1
       have hP_1 := hP_0.up hbk_1
       first | (have hC0 : GR w1 ((w.heap.size + 1 + 1)) := GR.up (GR.up (GR.new W hWs.symm) (zbD (Below.refl _ _))) hbb_1; obtain ⟨cc0, cc1, cf0, cf1⟩ := hC0.cells) | skip))
  all_goals
    first
    | (obtain ⟨w2, hV⟩ : ∃ V, V = w1.alloc (.cells #[.slice (some ⟨bhv, ohv, none⟩) 1 chv, .int .i64 0] 30) := ⟨_, rfl⟩
       obtain ⟨Bgc, hBc⟩ : ∃ V, V = w1.heap.size := ⟨_, rfl⟩
       have hEd : Ended w1 (w.heap.size + 1 + 1) (.slice (some ⟨bhv, ohv, none⟩) 1 chv) (.int .i64 0) w2 Bgc := .inl ⟨hV, hBc⟩
       rw [← hV, ← hBc]
       clear hV hBc)
    | (obtain ⟨w2, hV⟩ : ∃ V, V = (w1.setCell ⟨(w.heap.size + 1 + 1), 0, none⟩ (.slice (some ⟨bhv, ohv, none⟩) 1 chv)).setCell ⟨(w.heap.size + 1 + 1), 1, none⟩ (.int .i64 0) := ⟨_, rfl⟩
       obtain ⟨Bgc, hBc⟩ : ∃ V, V = (w.heap.size + 1 + 1) := ⟨_, rfl⟩
       have hEd : Ended w1 (w.heap.size + 1 + 1) (.slice (some ⟨bhv, ohv, none⟩) 1 chv) (.int .i64 0) w2 Bgc := .inr ⟨hC0, hV, hBc⟩
       rw [← hV, ← hBc]
       clear hV hBc hC0 cc0 cc1 cf0 cf1)
    have hb_2 := hEd.below hb_1 (by have := hR_0.lt; have := hPlt; have := hb_0.size; omega)
    have gc_2 := hEd.g2
    have hQ_2 := hEd.hQ hQ_1 (by have := hR_0.lt; have := hPlt; have := hb_0.size; omega)
    have hR_2 := hEd.hR hR_1 (by have := hR_0.lt; have := hPlt; have := hb_0.size; omega)
    have hE_2 := hE0.up hb_2
    have hP_2 := hP0.up hb_2
    have hv_2 := hEd.val hv_1
    clear hEd
    obtain ⟨x0, x1, x2, x3, x4, x5, x6⟩ := hQ_2.cells
    obtain ⟨r0, r1, f0, f1⟩ := hR_2.cells
    obtain ⟨p0, p1, p2⟩ := hP_2.cells
    obtain ⟨gca, gcb⟩ := gc_2.cells
    obtain ⟨ca, cb⟩ := cellsF hv_2
    go_wp2_with fail
    refine (HI _ _ _ _ hv_2).mono ?_
    rintro _ w3 ⟨rfl, hbb⟩
    clear x0 x1 x2 x3 x4 x5 x6 r0 r1 f0 f1 p0 p1 p2 gca gcb
    have hb_3 := qbt hb_2 hbb
    have hQ_3 := hQ_2.up hbb
    have hR_3 := hR_2.up hbb
    have hE_3 := hE_2.up hbb
    have hP_3 := hP_2.up hbb
    have hv_3 := hv_2.up hbb
    have gc_3 := gc_2.up hbb
    clear hbb hb_2 hQ_2 hR_2 hE_2 hP_2 hv_2 gc_2
    obtain ⟨x0, x1, x2, x3, x4, x5, x6⟩ := hQ_3.cells
    obtain ⟨r0, r1, f0, f1⟩ := hR_3.cells
    obtain ⟨p0, p1, p2⟩ := hP_3.cells
    obtain ⟨gca, gcb⟩ := gc_3.cells
    obtain ⟨ca, cb⟩ := cellsF hv_3
    go_wp2
    exact bodyPost_ret (v := .agg #[.slice (some ⟨bhv, ohv, none⟩) 1 chv, .int .i64 0]) (by simp [results, Tryz.results41, go_sem, (hR_3.told _ _).1, (hR_3.told _ _).2]) rfl (hR_3.ret (by omega) hb_3 (⟨_, _, rfl, hv_3⟩))
set_option maxHeartbeats 4000000 in
theorem lz_en_12 (HW0 : ∀ w1, WArg es ps q pq cq e pe w1 → Calls Tryz.prog 21 #[.slice ps es.length cs, reqV q pq cq, .slice pe e.length ce, .int .i64 k0] w1 fun en w' => HOk tT [] 1 en w' ∧ Below w1.heap.size w1 w') :
    Calls Tryz.prog 41 #[.slice ps es.length cs, reqV q pq cq, .slice pe e.length ce, .int .i64 12, .slice (some ⟨bp, op, none⟩) lp cp] w fun en w' => GRet (.ok [tT]) en w' ∧ Below w.heap.size w w' := by
  have HI := fun w1 b off c (h1 : VArg w1 (tT :: []) 1 (some ⟨b, off, none⟩) c) => refIs_any w1 (tT :: []) 1 (some ⟨b, off, none⟩) c 1 h1
  rw [show (opV (tT :: []) == 1) = true from rfl] at HI
  obtain ⟨W, hW⟩ : ∃ W, W = (w.alloc (.cells #[.string q.who.t, .string q.who.i, .string q.act.t, .string q.act.i, .string q.what.t, .string q.what.i, .slice pq q.cx.length cq] 27)).alloc (.cells #[.slice none 0 0, .int .i64 0] 30) := ⟨_, rfl⟩
  have hb_0 : Below w.heap.size w W := by rw [hW]; exact ((Below.refl _ _).alloc (Nat.le_refl _) _).alloc (by simp) _
  have hQ_0 : QR W w.heap.size q pq cq := by rw [hW]; exact (QR.new w q pq cq).up ((Below.refl _ _).alloc (Nat.le_refl _) _)
  have hR_0 : GR W (w.heap.size + 1) := by rw [hW]; exact GR.new _ (by simp)
  have hWs : W.heap.size = w.heap.size + 1 + 1 := by rw [hW]; simp
  have hE_0 := hE0.up hb_0
  have hP_0 := hP0.up hb_0
  have hPlt := hP0.lt
  have hQlt : w.heap.size + 1 < W.heap.size := by omega
  unfold reqV at HW0 ⊢
  have i7 : (0 : Int) < (lp : Int) := by omega
  have i8 : (1 : Int) < (lp : Int) := by omega
  have i9 : (2 : Int) < (lp : Int) := by omega
  go_enter Tryz.func41, Tryz.ntmps41
  obtain ⟨x0, x1, x2, x3, x4, x5, x6⟩ := hQ_0.cells
  obtain ⟨r0, r1, f0, f1⟩ := hR_0.cells
  obtain ⟨p0, p1, p2⟩ := hP_0.cells
  go_wp2_with fail
  rw [← hW]
  clear hW
  go_region_held (fun w' => w'.cell? ⟨w.heap.size, 0, none⟩ = some (.string q.who.t) ∧ w'.cell? ⟨w.heap.size, 1, none⟩ = some (.string q.who.i) ∧ w'.cell? ⟨w.heap.size, 2, none⟩ = some (.string q.act.t) ∧ w'.cell? ⟨w.heap.size, 3, none⟩ = some (.string q.act.i) ∧ w'.cell? ⟨w.heap.size, 4, none⟩ = some (.string q.what.t) ∧ w'.cell? ⟨w.heap.size, 5, none⟩ = some (.string q.what.i) ∧ w'.cell? ⟨w.heap.size, 6, none⟩ = some (.slice pq q.cx.length cq) ∧ w'.cell? ⟨bp, op, none⟩ = some (.int .i64 k0) ∧ w'.cell? ⟨bp, op + 1, none⟩ = some (.int .i64 k1) ∧ w'.cell? ⟨bp, op + 2, none⟩ = some (.int .i64 k2)) (first | exact QP.cells (QR.bel hQ_1 (GR.bel (Nat.le_refl (w.heap.size + 1 + 1)) _ _) (by have := hR_0.lt; have := hPlt; have := hb_0.size; omega)) (P3.bel hP_1 (GR.bel (Nat.le_refl (w.heap.size + 1 + 1)) _ _) (by have := hR_0.lt; have := hPlt; have := hb_0.size; omega)) | exact QP.cells (QR.bel hQ_1 ((Below.refl _ _).setCell (p := ⟨(w.heap.size + 1 + 1), 0, none⟩) (Nat.le_refl _) _) (by have := hR_0.lt; have := hPlt; have := hb_0.size; omega)) (P3.bel hP_1 ((Below.refl _ _).setCell (p := ⟨(w.heap.size + 1 + 1), 0, none⟩) (Nat.le_refl _) _) (by have := hR_0.lt; have := hPlt; have := hb_0.size; omega)) | exact QP.cells (QR.up hQ_1 (by repeat (first | exact Below.refl _ _ | apply zbA | apply zbD))) (P3.up hP_1 (by repeat (first | exact Below.refl _ _ | apply zbA | apply zbD))) | exact QP.cells (QR.up hQ_0 (by repeat (first | exact Below.refl _ _ | apply zbA | apply zbD))) (P3.up hP_0 (by repeat (first | exact Below.refl _ _ | apply zbA | apply zbD)))) (first
    | (go_at_call 21
       refine (HW0 _ (WArg.up hE_0 (by repeat (first | exact Below.refl _ _ | apply zbA | apply zbD)))).mono ?_
       rintro _ w1 ⟨⟨bhv, ohv, chv, rfl, hv_1⟩, hbb_1⟩
       have hbk_1 : Below W.heap.size W w1 := qbt (by repeat (first | exact Below.refl _ _ | apply zbA | apply zbD)) hbb_1
       have hb_1 := qbt hb_0 hbk_1
       have hQ_1 := hQ_0.up hbk_1
       have hR_1 := hR_0.up hbk_1
       have hE_1 := hE_0.up hbk_1
       have hP_1 := hP_0.up hbk_1
       first | (have hC0 : GR w1 ((w.heap.size + 1 + 1)) := GR.up (GR.up (GR.new W hWs.symm) (zbD (Below.refl _ _))) hbb_1; obtain ⟨cc0, cc1, cf0, cf1⟩ := hC0.cells) | skip))
  all_goals
    first
    | (obtain ⟨w2, hV⟩ : ∃ V, V = w1.alloc (.cells #[.slice (some ⟨bhv, ohv, none⟩) 1 chv, .int .i64 0] 30) := ⟨_, rfl⟩
       obtain ⟨Bgc, hBc⟩ : ∃ V, V = w1.heap.size := ⟨_, rfl⟩
       have hEd : Ended w1 (w.heap.size + 1 + 1) (.slice (some ⟨bhv, ohv, none⟩) 1 chv) (.int .i64 0) w2 Bgc := .inl ⟨hV, hBc⟩
       rw [← hV, ← hBc]
       clear hV hBc)
    | (obtain ⟨w2, hV⟩ : ∃ V, V = (w1.setCell ⟨(w.heap.size + 1 + 1), 0, none⟩ (.slice (some ⟨bhv, ohv, none⟩) 1 chv)).setCell ⟨(w.heap.size + 1 + 1), 1, none⟩ (.int .i64 0) := ⟨_, rfl⟩
       obtain ⟨Bgc, hBc⟩ : ∃ V, V = (w.heap.size + 1 + 1) := ⟨_, rfl⟩
       have hEd : Ended w1 (w.heap.size + 1 + 1) (.slice (some ⟨bhv, ohv, none⟩) 1 chv) (.int .i64 0) w2 Bgc := .inr ⟨hC0, hV, hBc⟩
       rw [← hV, ← hBc]
       clear hV hBc hC0 cc0 cc1 cf0 cf1)
    have hb_2 := hEd.below hb_1 (by have := hR_0.lt; have := hPlt; have := hb_0.size; omega)
    have gc_2 := hEd.g2
    have hQ_2 := hEd.hQ hQ_1 (by have := hR_0.lt; have := hPlt; have := hb_0.size; omega)
    have hR_2 := hEd.hR hR_1 (by have := hR_0.lt; have := hPlt; have := hb_0.size; omega)
    have hE_2 := hE0.up hb_2
    have hP_2 := hP0.up hb_2
    have hv_2 := hEd.val hv_1
    clear hEd
    obtain ⟨x0, x1, x2, x3, x4, x5, x6⟩ := hQ_2.cells
    obtain ⟨r0, r1, f0, f1⟩ := hR_2.cells
    obtain ⟨p0, p1, p2⟩ := hP_2.cells
    obtain ⟨gca, gcb⟩ := gc_2.cells
    obtain ⟨ca, cb⟩ := cellsT hv_2
    go_wp2_with fail
    refine (HI _ _ _ _ hv_2).mono ?_
    rintro _ w3 ⟨rfl, hbb⟩
    clear x0 x1 x2 x3 x4 x5 x6 r0 r1 f0 f1 p0 p1 p2 gca gcb
    have hb_3 := qbt hb_2 hbb
    have hQ_3 := hQ_2.up hbb
    have hR_3 := hR_2.up hbb
    have hE_3 := hE_2.up hbb
    have hP_3 := hP_2.up hbb
    have hv_3 := hv_2.up hbb
    have gc_3 := gc_2.up hbb
    clear hbb hb_2 hQ_2 hR_2 hE_2 hP_2 hv_2 gc_2
    obtain ⟨x0, x1, x2, x3, x4, x5, x6⟩ := hQ_3.cells
    obtain ⟨r0, r1, f0, f1⟩ := hR_3.cells
    obtain ⟨p0, p1, p2⟩ := hP_3.cells
    obtain ⟨gca, gcb⟩ := gc_3.cells
    obtain ⟨ca, cb⟩ := cellsT hv_3
    go_wp2
    exact bodyPost_ret (v := .agg #[.slice (some ⟨bhv, ohv, none⟩) 1 chv, .int .i64 0]) (by simp [results, Tryz.results41, go_sem, (hR_3.told _ _).1, (hR_3.told _ _).2]) rfl (hR_3.ret (by omega) hb_3 (⟨_, _, rfl, hv_3⟩))
set_option maxHeartbeats 4000000 in
theorem lz_if_T (HW0 : ∀ w1, WArg es ps q pq cq e pe w1 → Calls Tryz.prog 21 #[.slice ps es.length cs, reqV q pq cq, .slice pe e.length ce, .int .i64 k0] w1 fun en w' => HOk tT [] 1 en w' ∧ Below w1.heap.size w1 w') (HW1 : ∀ w1, WArg es ps q pq cq e pe w1 → Calls Tryz.prog 21 #[.slice ps es.length cs, reqV q pq cq, .slice pe e.length ce, .int .i64 k1] w1 fun en w' => GRet R en w' ∧ Below w1.heap.size w1 w') :
    Calls Tryz.prog 41 #[.slice ps es.length cs, reqV q pq cq, .slice pe e.length ce, .int .i64 13, .slice (some ⟨bp, op, none⟩) lp cp] w fun en w' => GRet (R) en w' ∧ Below w.heap.size w w' := by
  have HI := fun w1 b off c (h1 : VArg w1 (tT :: []) 1 (some ⟨b, off, none⟩) c) => refIs_any w1 (tT :: []) 1 (some ⟨b, off, none⟩) c 1 h1
  rw [show (opV (tT :: []) == 1) = true from rfl] at HI
  obtain ⟨W, hW⟩ : ∃ W, W = (w.alloc (.cells #[.string q.who.t, .string q.who.i, .string q.act.t, .string q.act.i, .string q.what.t, .string q.what.i, .slice pq q.cx.length cq] 27)).alloc (.cells #[.slice none 0 0, .int .i64 0] 30) := ⟨_, rfl⟩
  have hb_0 : Below w.heap.size w W := by rw [hW]; exact ((Below.refl _ _).alloc (Nat.le_refl _) _).alloc (by simp) _
  have hQ_0 : QR W w.heap.size q pq cq := by rw [hW]; exact (QR.new w q pq cq).up ((Below.refl _ _).alloc (Nat.le_refl _) _)
  have hR_0 : GR W (w.heap.size + 1) := by rw [hW]; exact GR.new _ (by simp)
  have hWs : W.heap.size = w.heap.size + 1 + 1 := by rw [hW]; simp
  have hE_0 := hE0.up hb_0
  have hP_0 := hP0.up hb_0
  have hPlt := hP0.lt
  have hQlt : w.heap.size + 1 < W.heap.size := by omega
  unfold reqV at HW0 HW1 ⊢
  have i7 : (0 : Int) < (lp : Int) := by omega
  have i8 : (1 : Int) < (lp : Int) := by omega
  have i9 : (2 : Int) < (lp : Int) := by omega
  go_enter Tryz.func41, Tryz.ntmps41
  obtain ⟨x0, x1, x2, x3, x4, x5, x6⟩ := hQ_0.cells
  obtain ⟨r0, r1, f0, f1⟩ := hR_0.cells
  obtain ⟨p0, p1, p2⟩ := hP_0.cells
  go_wp2_with fail
  rw [← hW]
  clear hW
  go_region_held (fun w' => w'.cell? ⟨w.heap.size, 0, none⟩ = some (.string q.who.t) ∧ w'.cell? ⟨w.heap.size, 1, none⟩ = some (.string q.who.i) ∧ w'.cell? ⟨w.heap.size, 2, none⟩ = some (.string q.act.t) ∧ w'.cell? ⟨w.heap.size, 3, none⟩ = some (.string q.act.i) ∧ w'.cell? ⟨w.heap.size, 4, none⟩ = some (.string q.what.t) ∧ w'.cell? ⟨w.heap.size, 5, none⟩ = some (.string q.what.i) ∧ w'.cell? ⟨w.heap.size, 6, none⟩ = some (.slice pq q.cx.length cq) ∧ w'.cell? ⟨bp, op, none⟩ = some (.int .i64 k0) ∧ w'.cell? ⟨bp, op + 1, none⟩ = some (.int .i64 k1) ∧ w'.cell? ⟨bp, op + 2, none⟩ = some (.int .i64 k2)) (first | exact QP.cells (QR.bel hQ_1 (GR.bel (Nat.le_refl (w.heap.size + 1 + 1)) _ _) (by have := hR_0.lt; have := hPlt; have := hb_0.size; omega)) (P3.bel hP_1 (GR.bel (Nat.le_refl (w.heap.size + 1 + 1)) _ _) (by have := hR_0.lt; have := hPlt; have := hb_0.size; omega)) | exact QP.cells (QR.bel hQ_1 ((Below.refl _ _).setCell (p := ⟨(w.heap.size + 1 + 1), 0, none⟩) (Nat.le_refl _) _) (by have := hR_0.lt; have := hPlt; have := hb_0.size; omega)) (P3.bel hP_1 ((Below.refl _ _).setCell (p := ⟨(w.heap.size + 1 + 1), 0, none⟩) (Nat.le_refl _) _) (by have := hR_0.lt; have := hPlt; have := hb_0.size; omega)) | exact QP.cells (QR.up hQ_1 (by repeat (first | exact Below.refl _ _ | apply zbA | apply zbD))) (P3.up hP_1 (by repeat (first | exact Below.refl _ _ | apply zbA | apply zbD))) | exact QP.cells (QR.up hQ_0 (by repeat (first | exact Below.refl _ _ | apply zbA | apply zbD))) (P3.up hP_0 (by repeat (first | exact Below.refl _ _ | apply zbA | apply zbD)))) (first
    | (go_at_call 21
       refine (HW0 _ (WArg.up hE_0 (by repeat (first | exact Below.refl _ _ | apply zbA | apply zbD)))).mono ?_
       rintro _ w1 ⟨⟨bhv, ohv, chv, rfl, hv_1⟩, hbb_1⟩
       have hbk_1 : Below W.heap.size W w1 := qbt (by repeat (first | exact Below.refl _ _ | apply zbA | apply zbD)) hbb_1
       have hb_1 := qbt hb_0 hbk_1
       have hQ_1 := hQ_0.up hbk_1
       have hR_1 := hR_0.up hbk_1
       have hE_1 := hE_0.up hbk_1
       have hP_1 := hP_0.up hbk_1
       first | (have hC0 : GR w1 ((w.heap.size + 1 + 1)) := GR.up (GR.up (GR.new W hWs.symm) (zbD (Below.refl _ _))) hbb_1; obtain ⟨cc0, cc1, cf0, cf1⟩ := hC0.cells) | skip))
  all_goals
    first
    | (obtain ⟨w2, hV⟩ : ∃ V, V = w1.alloc (.cells #[.slice (some ⟨bhv, ohv, none⟩) 1 chv, .int .i64 0] 30) := ⟨_, rfl⟩
       obtain ⟨Bgc, hBc⟩ : ∃ V, V = w1.heap.size := ⟨_, rfl⟩
       have hEd : Ended w1 (w.heap.size + 1 + 1) (.slice (some ⟨bhv, ohv, none⟩) 1 chv) (.int .i64 0) w2 Bgc := .inl ⟨hV, hBc⟩
       rw [← hV, ← hBc]
       clear hV hBc)
    | (obtain ⟨w2, hV⟩ : ∃ V, V = (w1.setCell ⟨(w.heap.size + 1 + 1), 0, none⟩ (.slice (some ⟨bhv, ohv, none⟩) 1 chv)).setCell ⟨(w.heap.size + 1 + 1), 1, none⟩ (.int .i64 0) := ⟨_, rfl⟩
       obtain ⟨Bgc, hBc⟩ : ∃ V, V = (w.heap.size + 1 + 1) := ⟨_, rfl⟩
       have hEd : Ended w1 (w.heap.size + 1 + 1) (.slice (some ⟨bhv, ohv, none⟩) 1 chv) (.int .i64 0) w2 Bgc := .inr ⟨hC0, hV, hBc⟩
       rw [← hV, ← hBc]
       clear hV hBc hC0 cc0 cc1 cf0 cf1)
    have hb_2 := hEd.below hb_1 (by have := hR_0.lt; have := hPlt; have := hb_0.size; omega)
    have gc_2 := hEd.g2
    have hQ_2 := hEd.hQ hQ_1 (by have := hR_0.lt; have := hPlt; have := hb_0.size; omega)
    have hR_2 := hEd.hR hR_1 (by have := hR_0.lt; have := hPlt; have := hb_0.size; omega)
    have hE_2 := hE0.up hb_2
    have hP_2 := hP0.up hb_2
    have hv_2 := hEd.val hv_1
    clear hEd
    obtain ⟨x0, x1, x2, x3, x4, x5, x6⟩ := hQ_2.cells
    obtain ⟨r0, r1, f0, f1⟩ := hR_2.cells
    obtain ⟨p0, p1, p2⟩ := hP_2.cells
    obtain ⟨gca, gcb⟩ := gc_2.cells
    obtain ⟨ca, cb⟩ := cellsT hv_2
    go_wp2_with fail
    refine (HI _ _ _ _ hv_2).mono ?_
    rintro _ w3 ⟨rfl, hbb⟩
    clear x0 x1 x2 x3 x4 x5 x6 r0 r1 f0 f1 p0 p1 p2 gca gcb
    have hb_3 := qbt hb_2 hbb
    have hQ_3 := hQ_2.up hbb
    have hR_3 := hR_2.up hbb
    have hE_3 := hE_2.up hbb
    have hP_3 := hP_2.up hbb
    have hv_3 := hv_2.up hbb
    have gc_3 := gc_2.up hbb
    clear hbb hb_2 hQ_2 hR_2 hE_2 hP_2 hv_2 gc_2
    obtain ⟨x0, x1, x2, x3, x4, x5, x6⟩ := hQ_3.cells
    obtain ⟨r0, r1, f0, f1⟩ := hR_3.cells
    obtain ⟨p0, p1, p2⟩ := hP_3.cells
    obtain ⟨gca, gcb⟩ := gc_3.cells
    obtain ⟨ca, cb⟩ := cellsT hv_3
    go_wp2_with fail
    go_region_held (fun w' => w'.cell? ⟨w.heap.size, 0, none⟩ = some (.string q.who.t) ∧ w'.cell? ⟨w.heap.size, 1, none⟩ = some (.string q.who.i) ∧ w'.cell? ⟨w.heap.size, 2, none⟩ = some (.string q.act.t) ∧ w'.cell? ⟨w.heap.size, 3, none⟩ = some (.string q.act.i) ∧ w'.cell? ⟨w.heap.size, 4, none⟩ = some (.string q.what.t) ∧ w'.cell? ⟨w.heap.size, 5, none⟩ = some (.string q.what.i) ∧ w'.cell? ⟨w.heap.size, 6, none⟩ = some (.slice pq q.cx.length cq) ∧ w'.cell? ⟨bp, op, none⟩ = some (.int .i64 k0) ∧ w'.cell? ⟨bp, op + 1, none⟩ = some (.int .i64 k1) ∧ w'.cell? ⟨bp, op + 2, none⟩ = some (.int .i64 k2)) (first | exact QP.cells (QR.bel hQ_4 (GR.bel (Nat.le_refl (w.heap.size + 1)) _ _) (by have := hR_3.lt; have := hPlt; have := hb_3.size; omega)) (P3.bel hP_4 (GR.bel (Nat.le_refl (w.heap.size + 1)) _ _) (by have := hR_3.lt; have := hPlt; have := hb_3.size; omega)) | exact QP.cells (QR.bel hQ_4 ((Below.refl _ _).setCell (p := ⟨(w.heap.size + 1), 0, none⟩) (Nat.le_refl _) _) (by have := hR_3.lt; have := hPlt; have := hb_3.size; omega)) (P3.bel hP_4 ((Below.refl _ _).setCell (p := ⟨(w.heap.size + 1), 0, none⟩) (Nat.le_refl _) _) (by have := hR_3.lt; have := hPlt; have := hb_3.size; omega)) | exact QP.cells (QR.up hQ_4 (by repeat (first | exact Below.refl _ _ | apply zbA | apply zbD))) (P3.up hP_4 (by repeat (first | exact Below.refl _ _ | apply zbA | apply zbD))) | exact QP.cells (QR.up hQ_3 (by repeat (first | exact Below.refl _ _ | apply zbA | apply zbD))) (P3.up hP_3 (by repeat (first | exact Below.refl _ _ | apply zbA | apply zbD)))) (first
      | (go_at_call 21
         refine (HW1 _ (WArg.up hE_3 (by repeat (first | exact Below.refl _ _ | apply zbA | apply zbD)))).mono ?_
         rintro _ w4 ⟨hG, hbb_4⟩
         obtain ⟨gq, gn, gc, gk, rfl⟩ := hG.shape
         have hbk_4 : Below w3.heap.size w3 w4 := qbt (by repeat (first | exact Below.refl _ _ | apply zbA | apply zbD)) hbb_4
         have hb_4 := qbt hb_3 hbk_4
         have hQ_4 := hQ_3.up hbk_4
         have hR_4 := hR_3.up hbk_4
         have hE_4 := hE_3.up hbk_4
         have hP_4 := hP_3.up hbk_4
         have hv_4 := hv_3.up hbk_4
         have gc_4 := gc_3.up hbk_4
         obtain ⟨cc0, cc1, cf0, cf1⟩ := hR_4.cells))
    all_goals
      obtain ⟨x0, x1, x2, x3, x4, x5, x6⟩ := hQ_4.cells
      obtain ⟨r0, r1, f0, f1⟩ := hR_4.cells
      obtain ⟨p0, p1, p2⟩ := hP_4.cells
      obtain ⟨gca, gcb⟩ := gc_4.cells
      obtain ⟨ca, cb⟩ := cellsT hv_4
      go_wp2
      exact bodyPost_ret (v := .agg #[.slice gq gn gc, .int .i64 gk]) (by simp [results, Tryz.results41, go_sem, (hR_4.told _ _).1, (hR_4.told _ _).2]) rfl (hR_4.ret (by omega) hb_4 (hG))
set_option maxHeartbeats 4000000 in
theorem lz_if_F (HW0 : ∀ w1, WArg es ps q pq cq e pe w1 → Calls Tryz.prog 21 #[.slice ps es.length cs, reqV q pq cq, .slice pe e.length ce, .int .i64 k0] w1 fun en w' => HOk tF [] 1 en w' ∧ Below w1.heap.size w1 w') (HW2 : ∀ w1, WArg es ps q pq cq e pe w1 → Calls Tryz.prog 21 #[.slice ps es.length cs, reqV q pq cq, .slice pe e.length ce, .int .i64 k2] w1 fun en w' => GRet R en w' ∧ Below w1.heap.size w1 w') :
    Calls Tryz.prog 41 #[.slice ps es.length cs, reqV q pq cq, .slice pe e.length ce, .int .i64 13, .slice (some ⟨bp, op, none⟩) lp cp] w fun en w' => GRet (R) en w' ∧ Below w.heap.size w w' := by
  have HI := fun w1 b off c (h1 : VArg w1 (tF :: []) 1 (some ⟨b, off, none⟩) c) => refIs_any w1 (tF :: []) 1 (some ⟨b, off, none⟩) c 1 h1
  rw [show (opV (tF :: []) == 1) = true from rfl] at HI
  obtain ⟨W, hW⟩ : ∃ W, W = (w.alloc (.cells #[.string q.who.t, .string q.who.i, .string q.act.t, .string q.act.i, .string q.what.t, .string q.what.i, .slice pq q.cx.length cq] 27)).alloc (.cells #[.slice none 0 0, .int .i64 0] 30) := ⟨_, rfl⟩
  have hb_0 : Below w.heap.size w W := by rw [hW]; exact ((Below.refl _ _).alloc (Nat.le_refl _) _).alloc (by simp) _
  have hQ_0 : QR W w.heap.size q pq cq := by rw [hW]; exact (QR.new w q pq cq).up ((Below.refl _ _).alloc (Nat.le_refl _) _)
  have hR_0 : GR W (w.heap.size + 1) := by rw [hW]; exact GR.new _ (by simp)
  have hWs : W.heap.size = w.heap.size + 1 + 1 := by rw [hW]; simp
  have hE_0 := hE0.up hb_0
  have hP_0 := hP0.up hb_0
  have hPlt := hP0.lt
  have hQlt : w.heap.size + 1 < W.heap.size := by omega
  unfold reqV at HW0 HW2 ⊢
  have i7 : (0 : Int) < (lp : Int) := by omega
  have i8 : (1 : Int) < (lp : Int) := by omega
  have i9 : (2 : Int) < (lp : Int) := by omega
  go_enter Tryz.func41, Tryz.ntmps41
  obtain ⟨x0, x1, x2, x3, x4, x5, x6⟩ := hQ_0.cells
  obtain ⟨r0, r1, f0, f1⟩ := hR_0.cells
  obtain ⟨p0, p1, p2⟩ := hP_0.cells
  go_wp2_with fail
  rw [← hW]
  clear hW
  go_region_held (fun w' => w'.cell? ⟨w.heap.size, 0, none⟩ = some (.string q.who.t) ∧ w'.cell? ⟨w.heap.size, 1, none⟩ = some (.string q.who.i) ∧ w'.cell? ⟨w.heap.size, 2, none⟩ = some (.string q.act.t) ∧ w'.cell? ⟨w.heap.size, 3, none⟩ = some (.string q.act.i) ∧ w'.cell? ⟨w.heap.size, 4, none⟩ = some (.string q.what.t) ∧ w'.cell? ⟨w.heap.size, 5, none⟩ = some (.string q.what.i) ∧ w'.cell? ⟨w.heap.size, 6, none⟩ = some (.slice pq q.cx.length cq) ∧ w'.cell? ⟨bp, op, none⟩ = some (.int .i64 k0) ∧ w'.cell? ⟨bp, op + 1, none⟩ = some (.int .i64 k1) ∧ w'.cell? ⟨bp, op + 2, none⟩ = some (.int .i64 k2)) (first | exact QP.cells (QR.bel hQ_1 (GR.bel (Nat.le_refl (w.heap.size + 1 + 1)) _ _) (by have := hR_0.lt; have := hPlt; have := hb_0.size; omega)) (P3.bel hP_1 (GR.bel (Nat.le_refl (w.heap.size + 1 + 1)) _ _) (by have := hR_0.lt; have := hPlt; have := hb_0.size; omega)) | exact QP.cells (QR.bel hQ_1 ((Below.refl _ _).setCell (p := ⟨(w.heap.size + 1 + 1), 0, none⟩) (Nat.le_refl _) _) (by have := hR_0.lt; have := hPlt; have := hb_0.size; omega)) (P3.bel hP_1 ((Below.refl _ _).setCell (p := ⟨(w.heap.size + 1 + 1), 0, none⟩) (Nat.le_refl _) _) (by have := hR_0.lt; have := hPlt; have := hb_0.size; omega)) | exact QP.cells (QR.up hQ_1 (by repeat (first | exact Below.refl _ _ | apply zbA | apply zbD))) (P3.up hP_1 (by repeat (first | exact Below.refl _ _ | apply zbA | apply zbD))) | exact QP.cells (QR.up hQ_0 (by repeat (first | exact Below.refl _ _ | apply zbA | apply zbD))) (P3.up hP_0 (by repeat (first | exact Below.refl _ _ | apply zbA | apply zbD)))) (first
    | (go_at_call 21
       refine (HW0 _ (WArg.up hE_0 (by repeat (first | exact Below.refl _ _ | apply zbA | apply zbD)))).mono ?_
       rintro _ w1 ⟨⟨bhv, ohv, chv, rfl, hv_1⟩, hbb_1⟩
       have hbk_1 : Below W.heap.size W w1 := qbt (by repeat (first | exact Below.refl _ _ | apply zbA | apply zbD)) hbb_1
       have hb_1 := qbt hb_0 hbk_1
       have hQ_1 := hQ_0.up hbk_1
       have hR_1 := hR_0.up hbk_1
       have hE_1 := hE_0.up hbk_1
       have hP_1 := hP_0.up hbk_1
       first | (have hC0 : GR w1 ((w.heap.size + 1 + 1)) := GR.up (GR.up (GR.new W hWs.symm) (zbD (Below.refl _ _))) hbb_1; obtain ⟨cc0, cc1, cf0, cf1⟩ := hC0.cells) | skip))
  all_goals
    first
    | (obtain ⟨w2, hV⟩ : ∃ V, V = w1.alloc (.cells #[.slice (some ⟨bhv, ohv, none⟩) 1 chv, .int .i64 0] 30) := ⟨_, rfl⟩
       obtain ⟨Bgc, hBc⟩ : ∃ V, V = w1.heap.size := ⟨_, rfl⟩
       have hEd : Ended w1 (w.heap.size + 1 + 1) (.slice (some ⟨bhv, ohv, none⟩) 1 chv) (.int .i64 0) w2 Bgc := .inl ⟨hV, hBc⟩
       rw [← hV, ← hBc]
       clear hV hBc)
    | (obtain ⟨w2, hV⟩ : ∃ V, V = (w1.setCell ⟨(w.heap.size + 1 + 1), 0, none⟩ (.slice (some ⟨bhv, ohv, none⟩) 1 chv)).setCell ⟨(w.heap.size + 1 + 1), 1, none⟩ (.int .i64 0) := ⟨_, rfl⟩
       obtain ⟨Bgc, hBc⟩ : ∃ V, V = (w.heap.size + 1 + 1) := ⟨_, rfl⟩
       have hEd : Ended w1 (w.heap.size + 1 + 1) (.slice (some ⟨bhv, ohv, none⟩) 1 chv) (.int .i64 0) w2 Bgc := .inr ⟨hC0, hV, hBc⟩
       rw [← hV, ← hBc]
       clear hV hBc hC0 cc0 cc1 cf0 cf1)
    have hb_2 := hEd.below hb_1 (by have := hR_0.lt; have := hPlt; have := hb_0.size; omega)
    have gc_2 := hEd.g2
    have hQ_2 := hEd.hQ hQ_1 (by have := hR_0.lt; have := hPlt; have := hb_0.size; omega)
    have hR_2 := hEd.hR hR_1 (by have := hR_0.lt; have := hPlt; have := hb_0.size; omega)
    have hE_2 := hE0.up hb_2
    have hP_2 := hP0.up hb_2
    have hv_2 := hEd.val hv_1
    clear hEd
    obtain ⟨x0, x1, x2, x3, x4, x5, x6⟩ := hQ_2.cells
    obtain ⟨r0, r1, f0, f1⟩ := hR_2.cells
    obtain ⟨p0, p1, p2⟩ := hP_2.cells
    obtain ⟨gca, gcb⟩ := gc_2.cells
    obtain ⟨ca, cb⟩ := cellsF hv_2
    go_wp2_with fail
    refine (HI _ _ _ _ hv_2).mono ?_
    rintro _ w3 ⟨rfl, hbb⟩
    clear x0 x1 x2 x3 x4 x5 x6 r0 r1 f0 f1 p0 p1 p2 gca gcb
    have hb_3 := qbt hb_2 hbb
    have hQ_3 := hQ_2.up hbb
    have hR_3 := hR_2.up hbb
    have hE_3 := hE_2.up hbb
    have hP_3 := hP_2.up hbb
    have hv_3 := hv_2.up hbb
    have gc_3 := gc_2.up hbb
    clear hbb hb_2 hQ_2 hR_2 hE_2 hP_2 hv_2 gc_2
    obtain ⟨x0, x1, x2, x3, x4, x5, x6⟩ := hQ_3.cells
    obtain ⟨r0, r1, f0, f1⟩ := hR_3.cells
    obtain ⟨p0, p1, p2⟩ := hP_3.cells
    obtain ⟨gca, gcb⟩ := gc_3.cells
    obtain ⟨ca, cb⟩ := cellsF hv_3
    go_wp2_with fail
    go_region_held (fun w' => w'.cell? ⟨w.heap.size, 0, none⟩ = some (.string q.who.t) ∧ w'.cell? ⟨w.heap.size, 1, none⟩ = some (.string q.who.i) ∧ w'.cell? ⟨w.heap.size, 2, none⟩ = some (.string q.act.t) ∧ w'.cell? ⟨w.heap.size, 3, none⟩ = some (.string q.act.i) ∧ w'.cell? ⟨w.heap.size, 4, none⟩ = some (.string q.what.t) ∧ w'.cell? ⟨w.heap.size, 5, none⟩ = some (.string q.what.i) ∧ w'.cell? ⟨w.heap.size, 6, none⟩ = some (.slice pq q.cx.length cq) ∧ w'.cell? ⟨bp, op, none⟩ = some (.int .i64 k0) ∧ w'.cell? ⟨bp, op + 1, none⟩ = some (.int .i64 k1) ∧ w'.cell? ⟨bp, op + 2, none⟩ = some (.int .i64 k2)) (first | exact QP.cells (QR.bel hQ_4 (GR.bel (Nat.le_refl (w.heap.size + 1)) _ _) (by have := hR_3.lt; have := hPlt; have := hb_3.size; omega)) (P3.bel hP_4 (GR.bel (Nat.le_refl (w.heap.size + 1)) _ _) (by have := hR_3.lt; have := hPlt; have := hb_3.size; omega)) | exact QP.cells (QR.bel hQ_4 ((Below.refl _ _).setCell (p := ⟨(w.heap.size + 1), 0, none⟩) (Nat.le_refl _) _) (by have := hR_3.lt; have := hPlt; have := hb_3.size; omega)) (P3.bel hP_4 ((Below.refl _ _).setCell (p := ⟨(w.heap.size + 1), 0, none⟩) (Nat.le_refl _) _) (by have := hR_3.lt; have := hPlt; have := hb_3.size; omega)) | exact QP.cells (QR.up hQ_4 (by repeat (first | exact Below.refl _ _ | apply zbA | apply zbD))) (P3.up hP_4 (by repeat (first | exact Below.refl _ _ | apply zbA | apply zbD))) | exact QP.cells (QR.up hQ_3 (by repeat (first | exact Below.refl _ _ | apply zbA | apply zbD))) (P3.up hP_3 (by repeat (first | exact Below.refl _ _ | apply zbA | apply zbD)))) (first
      | (go_at_call 21
         refine (HW2 _ (WArg.up hE_3 (by repeat (first | exact Below.refl _ _ | apply zbA | apply zbD)))).mono ?_
         rintro _ w4 ⟨hG, hbb_4⟩
         obtain ⟨gq, gn, gc, gk, rfl⟩ := hG.shape
         have hbk_4 : Below w3.heap.size w3 w4 := qbt (by repeat (first | exact Below.refl _ _ | apply zbA | apply zbD)) hbb_4
         have hb_4 := qbt hb_3 hbk_4
         have hQ_4 := hQ_3.up hbk_4
         have hR_4 := hR_3.up hbk_4
         have hE_4 := hE_3.up hbk_4
         have hP_4 := hP_3.up hbk_4
         have hv_4 := hv_3.up hbk_4
         have gc_4 := gc_3.up hbk_4
         obtain ⟨cc0, cc1, cf0, cf1⟩ := hR_4.cells))
    all_goals
      obtain ⟨x0, x1, x2, x3, x4, x5, x6⟩ := hQ_4.cells
      obtain ⟨r0, r1, f0, f1⟩ := hR_4.cells
      obtain ⟨p0, p1, p2⟩ := hP_4.cells
      obtain ⟨gca, gcb⟩ := gc_4.cells
      obtain ⟨ca, cb⟩ := cellsF hv_4
      go_wp2
      exact bodyPost_ret (v := .agg #[.slice gq gn gc, .int .i64 gk]) (by simp [results, Tryz.results41, go_sem, (hR_4.told _ _).1, (hR_4.told _ _).2]) rfl (hR_4.ret (by omega) hb_4 (hG))
end
end Go.Proofs.YtnilaghbbhmkgaaGreatDoor
namespace Go.Proofs.YtnilaghbbhmkgaaGreatDoor
open Go.RowKit
set_option linter.unusedVariables false
set_option maxRecDepth 100000

section
variable (es : List En) (ps : Option Addr) (cs : Nat) (q : Rq) (pq : Option Addr) (cq : Nat) (e : List Nd) (pe : Option Addr) (ce : Nat) (bp op lp cp : Nat) (k0 k1 k2 : Int) (w : World) (hE0 : WArg es ps q pq cq e pe w) (hP0 : P3 w bp op k0 k1 k2) (hlp : 3 ≤ lp) (x0 x1 : Nd) (r0 r1 : List Nd) (m0 m1 : Nat) (n0 n1 : Int) (R : Except Int (List Nd))
include hE0 hP0 hlp
set_option maxHeartbeats 4000000 in
theorem lz_goE_11 (hn : n1 ≠ 0) (HW0 : ∀ w1, WArg es ps q pq cq e pe w1 → Calls Tryz.prog 21 #[.slice ps es.length cs, reqV q pq cq, .slice pe e.length ce, .int .i64 k0] w1 fun en w' => HOk tT [] 1 en w' ∧ Below w1.heap.size w1 w') (HW1 : ∀ w1, WArg es ps q pq cq e pe w1 → Calls Tryz.prog 21 #[.slice ps es.length cs, reqV q pq cq, .slice pe e.length ce, .int .i64 k1] w1 fun en w' => en = .returned (.agg #[.slice none 0 0, .int .i64 n1]) ∧ Below w1.heap.size w1 w') :
    Calls Tryz.prog 41 #[.slice ps es.length cs, reqV q pq cq, .slice pe e.length ce, .int .i64 11, .slice (some ⟨bp, op, none⟩) lp cp] w fun en w' => GRet (.error n1) en w' ∧ Below w.heap.size w w' := by
  have HI := fun w1 b off c (h1 : VArg w1 (tT :: []) 1 (some ⟨b, off, none⟩) c) => refIs_any w1 (tT :: []) 1 (some ⟨b, off, none⟩) c 1 h1
  rw [show (opV (tT :: []) == 1) = true from rfl] at HI
  obtain ⟨W, hW⟩ : ∃ W, W = (w.alloc (.cells #[.string q.who.t, .string q.who.i, .string q.act.t, .string q.act.i, .string q.what.t, .string q.what.i, .slice pq q.cx.length cq] 27)).alloc (.cells #[.slice none 0 0, .int .i64 0] 30) := ⟨_, rfl⟩
  have hb_0 : Below w.heap.size w W := by rw [hW]; exact ((Below.refl _ _).alloc (Nat.le_refl _) _).alloc (by simp) _
  have hQ_0 : QR W w.heap.size q pq cq := by rw [hW]; exact (QR.new w q pq cq).up ((Below.refl _ _).alloc (Nat.le_refl _) _)
  have hR_0 : GR W (w.heap.size + 1) := by rw [hW]; exact GR.new _ (by simp)
  have hWs : W.heap.size = w.heap.size + 1 + 1 := by rw [hW]; simp
  have hE_0 := hE0.up hb_0
  have hP_0 := hP0.up hb_0
  have hPlt := hP0.lt
  have hQlt : w.heap.size + 1 < W.heap.size := by omega
  unfold reqV at HW0 HW1 ⊢
  have i7 : (0 : Int) < (lp : Int) := by omega
  have i8 : (1 : Int) < (lp : Int) := by omega
  have i9 : (2 : Int) < (lp : Int) := by omega
  go_enter Tryz.func41, Tryz.ntmps41
  obtain ⟨x0, x1, x2, x3, x4, x5, x6⟩ := hQ_0.cells
  obtain ⟨r0, r1, f0, f1⟩ := hR_0.cells
  obtain ⟨p0, p1, p2⟩ := hP_0.cells
  go_wp2_with fail
  rw [← hW]
  clear hW
  go_region_held (fun w' => w'.cell? ⟨w.heap.size, 0, none⟩ = some (.string q.who.t) ∧ w'.cell? ⟨w.heap.size, 1, none⟩ = some (.string q.who.i) ∧ w'.cell? ⟨w.heap.size, 2, none⟩ = some (.string q.act.t) ∧ w'.cell? ⟨w.heap.size, 3, none⟩ = some (.string q.act.i) ∧ w'.cell? ⟨w.heap.size, 4, none⟩ = some (.string q.what.t) ∧ w'.cell? ⟨w.heap.size, 5, none⟩ = some (.string q.what.i) ∧ w'.cell? ⟨w.heap.size, 6, none⟩ = some (.slice pq q.cx.length cq) ∧ w'.cell? ⟨bp, op, none⟩ = some (.int .i64 k0) ∧ w'.cell? ⟨bp, op + 1, none⟩ = some (.int .i64 k1) ∧ w'.cell? ⟨bp, op + 2, none⟩ = some (.int .i64 k2)) (first | exact QP.cells (QR.bel hQ_1 (GR.bel (Nat.le_refl (w.heap.size + 1 + 1)) _ _) (by have := hR_0.lt; have := hPlt; have := hb_0.size; omega)) (P3.bel hP_1 (GR.bel (Nat.le_refl (w.heap.size + 1 + 1)) _ _) (by have := hR_0.lt; have := hPlt; have := hb_0.size; omega)) | exact QP.cells (QR.bel hQ_1 ((Below.refl _ _).setCell (p := ⟨(w.heap.size + 1 + 1), 0, none⟩) (Nat.le_refl _) _) (by have := hR_0.lt; have := hPlt; have := hb_0.size; omega)) (P3.bel hP_1 ((Below.refl _ _).setCell (p := ⟨(w.heap.size + 1 + 1), 0, none⟩) (Nat.le_refl _) _) (by have := hR_0.lt; have := hPlt; have := hb_0.size; omega)) | exact QP.cells (QR.up hQ_1 (by repeat (first | exact Below.refl _ _ | apply zbA | apply zbD))) (P3.up hP_1 (by repeat (first | exact Below.refl _ _ | apply zbA | apply zbD))) | exact QP.cells (QR.up hQ_0 (by repeat (first | exact Below.refl _ _ | apply zbA | apply zbD))) (P3.up hP_0 (by repeat (first | exact Below.refl _ _ | apply zbA | apply zbD)))) (first
    | (go_at_call 21
       refine (HW0 _ (WArg.up hE_0 (by repeat (first | exact Below.refl _ _ | apply zbA | apply zbD)))).mono ?_
       rintro _ w1 ⟨⟨bhv, ohv, chv, rfl, hv_1⟩, hbb_1⟩
       have hbk_1 : Below W.heap.size W w1 := qbt (by repeat (first | exact Below.refl _ _ | apply zbA | apply zbD)) hbb_1
       have hb_1 := qbt hb_0 hbk_1
       have hQ_1 := hQ_0.up hbk_1
       have hR_1 := hR_0.up hbk_1
       have hE_1 := hE_0.up hbk_1
       have hP_1 := hP_0.up hbk_1
       first | (have hC0 : GR w1 ((w.heap.size + 1 + 1)) := GR.up (GR.up (GR.new W hWs.symm) (zbD (Below.refl _ _))) hbb_1; obtain ⟨cc0, cc1, cf0, cf1⟩ := hC0.cells) | skip))
  all_goals
    first
    | (obtain ⟨w2, hV⟩ : ∃ V, V = w1.alloc (.cells #[.slice (some ⟨bhv, ohv, none⟩) 1 chv, .int .i64 0] 30) := ⟨_, rfl⟩
       obtain ⟨Bgc, hBc⟩ : ∃ V, V = w1.heap.size := ⟨_, rfl⟩
       have hEd : Ended w1 (w.heap.size + 1 + 1) (.slice (some ⟨bhv, ohv, none⟩) 1 chv) (.int .i64 0) w2 Bgc := .inl ⟨hV, hBc⟩
       rw [← hV, ← hBc]
       clear hV hBc)
    | (obtain ⟨w2, hV⟩ : ∃ V, V = (w1.setCell ⟨(w.heap.size + 1 + 1), 0, none⟩ (.slice (some ⟨bhv, ohv, none⟩) 1 chv)).setCell ⟨(w.heap.size + 1 + 1), 1, none⟩ (.int .i64 0) := ⟨_, rfl⟩
       obtain ⟨Bgc, hBc⟩ : ∃ V, V = (w.heap.size + 1 + 1) := ⟨_, rfl⟩
       have hEd : Ended w1 (w.heap.size + 1 + 1) (.slice (some ⟨bhv, ohv, none⟩) 1 chv) (.int .i64 0) w2 Bgc := .inr ⟨hC0, hV, hBc⟩
       rw [← hV, ← hBc]
       clear hV hBc hC0 cc0 cc1 cf0 cf1)
    have hb_2 := hEd.below hb_1 (by have := hR_0.lt; have := hPlt; have := hb_0.size; omega)
    have gc_2 := hEd.g2
    have hQ_2 := hEd.hQ hQ_1 (by have := hR_0.lt; have := hPlt; have := hb_0.size; omega)
    have hR_2 := hEd.hR hR_1 (by have := hR_0.lt; have := hPlt; have := hb_0.size; omega)
    have hE_2 := hE0.up hb_2
    have hP_2 := hP0.up hb_2
    have hv_2 := hEd.val hv_1
    clear hEd
    obtain ⟨x0, x1, x2, x3, x4, x5, x6⟩ := hQ_2.cells
    obtain ⟨r0, r1, f0, f1⟩ := hR_2.cells
    obtain ⟨p0, p1, p2⟩ := hP_2.cells
    obtain ⟨gca, gcb⟩ := gc_2.cells
    obtain ⟨ca, cb⟩ := cellsT hv_2
    go_wp2_with fail
    refine (HI _ _ _ _ hv_2).mono ?_
    rintro _ w3 ⟨rfl, hbb⟩
    clear x0 x1 x2 x3 x4 x5 x6 r0 r1 f0 f1 p0 p1 p2 gca gcb
    have hb_3 := qbt hb_2 hbb
    have hQ_3 := hQ_2.up hbb
    have hR_3 := hR_2.up hbb
    have hE_3 := hE_2.up hbb
    have hP_3 := hP_2.up hbb
    have hv_3 := hv_2.up hbb
    have gc_3 := gc_2.up hbb
    clear hbb hb_2 hQ_2 hR_2 hE_2 hP_2 hv_2 gc_2
    obtain ⟨x0, x1, x2, x3, x4, x5, x6⟩ := hQ_3.cells
    obtain ⟨r0, r1, f0, f1⟩ := hR_3.cells
    obtain ⟨p0, p1, p2⟩ := hP_3.cells
    obtain ⟨gca, gcb⟩ := gc_3.cells
    obtain ⟨ca, cb⟩ := cellsT hv_3
    go_wp2_with fail
    go_region_held (fun w' => w'.cell? ⟨w.heap.size, 0, none⟩ = some (.string q.who.t) ∧ w'.cell? ⟨w.heap.size, 1, none⟩ = some (.string q.who.i) ∧ w'.cell? ⟨w.heap.size, 2, none⟩ = some (.string q.act.t) ∧ w'.cell? ⟨w.heap.size, 3, none⟩ = some (.string q.act.i) ∧ w'.cell? ⟨w.heap.size, 4, none⟩ = some (.string q.what.t) ∧ w'.cell? ⟨w.heap.size, 5, none⟩ = some (.string q.what.i) ∧ w'.cell? ⟨w.heap.size, 6, none⟩ = some (.slice pq q.cx.length cq) ∧ w'.cell? ⟨bp, op, none⟩ = some (.int .i64 k0) ∧ w'.cell? ⟨bp, op + 1, none⟩ = some (.int .i64 k1) ∧ w'.cell? ⟨bp, op + 2, none⟩ = some (.int .i64 k2)) (first | exact QP.cells (QR.bel hQ_4 (GR.bel (Nat.le_refl w3.heap.size) _ _) (by have := hR_3.lt; have := hPlt; have := hb_3.size; omega)) (P3.bel hP_4 (GR.bel (Nat.le_refl w3.heap.size) _ _) (by have := hR_3.lt; have := hPlt; have := hb_3.size; omega)) | exact QP.cells (QR.bel hQ_4 ((Below.refl _ _).setCell (p := ⟨w3.heap.size, 0, none⟩) (Nat.le_refl _) _) (by have := hR_3.lt; have := hPlt; have := hb_3.size; omega)) (P3.bel hP_4 ((Below.refl _ _).setCell (p := ⟨w3.heap.size, 0, none⟩) (Nat.le_refl _) _) (by have := hR_3.lt; have := hPlt; have := hb_3.size; omega)) | exact QP.cells (QR.up hQ_4 (by repeat (first | exact Below.refl _ _ | apply zbA | apply zbD))) (P3.up hP_4 (by repeat (first | exact Below.refl _ _ | apply zbA | apply zbD))) | exact QP.cells (QR.up hQ_3 (by repeat (first | exact Below.refl _ _ | apply zbA | apply zbD))) (P3.up hP_3 (by repeat (first | exact Below.refl _ _ | apply zbA | apply zbD)))) (first
      | (go_at_call 21
         refine (HW1 _ (WArg.up hE_3 (by repeat (first | exact Below.refl _ _ | apply zbA | apply zbD)))).mono ?_
         rintro _ w4 ⟨rfl, hbb_4⟩
         have hbk_4 : Below w3.heap.size w3 w4 := qbt (by repeat (first | exact Below.refl _ _ | apply zbA | apply zbD)) hbb_4
         have hb_4 := qbt hb_3 hbk_4
         have hQ_4 := hQ_3.up hbk_4
         have hR_4 := hR_3.up hbk_4
         have hE_4 := hE_3.up hbk_4
         have hP_4 := hP_3.up hbk_4
         have hv_4 := hv_3.up hbk_4
         have gc_4 := gc_3.up hbk_4
         first | (have hC0 : GR w4 (w3.heap.size) := GR.up (GR.up (GR.new w3 rfl) (zbD (Below.refl _ _))) hbb_4; obtain ⟨cc0, cc1, cf0, cf1⟩ := hC0.cells) | skip))
    all_goals
      first
      | (obtain ⟨w5, hV⟩ : ∃ V, V = w4.alloc (.cells #[.slice none 0 0, .int .i64 n1] 30) := ⟨_, rfl⟩
         obtain ⟨Bgd, hBc⟩ : ∃ V, V = w4.heap.size := ⟨_, rfl⟩
         have hEd : Ended w4 w3.heap.size (.slice none 0 0) (.int .i64 n1) w5 Bgd := .inl ⟨hV, hBc⟩
         rw [← hV, ← hBc]
         clear hV hBc)
      | (obtain ⟨w5, hV⟩ : ∃ V, V = (w4.setCell ⟨w3.heap.size, 0, none⟩ (.slice none 0 0)).setCell ⟨w3.heap.size, 1, none⟩ (.int .i64 n1) := ⟨_, rfl⟩
         obtain ⟨Bgd, hBc⟩ : ∃ V, V = w3.heap.size := ⟨_, rfl⟩
         have hEd : Ended w4 w3.heap.size (.slice none 0 0) (.int .i64 n1) w5 Bgd := .inr ⟨hC0, hV, hBc⟩
         rw [← hV, ← hBc]
         clear hV hBc hC0 cc0 cc1 cf0 cf1)
      have hb_5 := hEd.below hb_4 (by have := hR_3.lt; have := hPlt; have := hb_3.size; have := gc_3.lt; omega)
      have gd_5 := hEd.g2
      have hQ_5 := hEd.hQ hQ_4 (by have := hR_3.lt; have := hPlt; have := hb_3.size; have := gc_3.lt; omega)
      have hR_5 := hEd.hR hR_4 (by have := hR_3.lt; have := hPlt; have := hb_3.size; have := gc_3.lt; omega)
      have hE_5 := hE0.up hb_5
      have hP_5 := hP0.up hb_5
      have hv_5 := hEd.val hv_4
      have gc_5 := hEd.g2k gc_4 (by have := hR_3.lt; have := hPlt; have := hb_3.size; have := gc_3.lt; omega)
      clear hEd
      obtain ⟨x0, x1, x2, x3, x4, x5, x6⟩ := hQ_5.cells
      obtain ⟨r0, r1, f0, f1⟩ := hR_5.cells
      obtain ⟨p0, p1, p2⟩ := hP_5.cells
      obtain ⟨gca, gcb⟩ := gc_5.cells
      obtain ⟨gda, gdb⟩ := gd_5.cells
      obtain ⟨ca, cb⟩ := cellsT hv_5
      go_wp2
      exact bodyPost_ret (v := .agg #[.slice none 0 0, .int .i64 n1]) (by simp [results, Tryz.results41, go_sem, (hR_5.told _ _).1, (hR_5.told _ _).2]) rfl (hR_5.ret (by omega) hb_5 (rfl))
set_option maxHeartbeats 4000000 in
theorem lz_goE_12 (hn : n1 ≠ 0) (HW0 : ∀ w1, WArg es ps q pq cq e pe w1 → Calls Tryz.prog 21 #[.slice ps es.length cs, reqV q pq cq, .slice pe e.length ce, .int .i64 k0] w1 fun en w' => HOk tF [] 1 en w' ∧ Below w1.heap.size w1 w') (HW1 : ∀ w1, WArg es ps q pq cq e pe w1 → Calls Tryz.prog 21 #[.slice ps es.length cs, reqV q pq cq, .slice pe e.length ce, .int .i64 k1] w1 fun en w' => en = .returned (.agg #[.slice none 0 0, .int .i64 n1]) ∧ Below w1.heap.size w1 w') :
    Calls Tryz.prog 41 #[.slice ps es.length cs, reqV q pq cq, .slice pe e.length ce, .int .i64 12, .slice (some ⟨bp, op, none⟩) lp cp] w fun en w' => GRet (.error n1) en w' ∧ Below w.heap.size w w' := by
  have HI := fun w1 b off c (h1 : VArg w1 (tF :: []) 1 (some ⟨b, off, none⟩) c) => refIs_any w1 (tF :: []) 1 (some ⟨b, off, none⟩) c 1 h1
  rw [show (opV (tF :: []) == 1) = true from rfl] at HI
  obtain ⟨W, hW⟩ : ∃ W, W = (w.alloc (.cells #[.string q.who.t, .string q.who.i, .string q.act.t, .string q.act.i, .string q.what.t, .string q.what.i, .slice pq q.cx.length cq] 27)).alloc (.cells #[.slice none 0 0, .int .i64 0] 30) := ⟨_, rfl⟩
  have hb_0 : Below w.heap.size w W := by rw [hW]; exact ((Below.refl _ _).alloc (Nat.le_refl _) _).alloc (by simp) _
  have hQ_0 : QR W w.heap.size q pq cq := by rw [hW]; exact (QR.new w q pq cq).up ((Below.refl _ _).alloc (Nat.le_refl _) _)
  have hR_0 : GR W (w.heap.size + 1) := by rw [hW]; exact GR.new _ (by simp)
  have hWs : W.heap.size = w.heap.size + 1 + 1 := by rw [hW]; simp
  have hE_0 := hE0.up hb_0
  have hP_0 := hP0.up hb_0
  have hPlt := hP0.lt
  have hQlt : w.heap.size + 1 < W.heap.size := by omega
  unfold reqV at HW0 HW1 ⊢
  have i7 : (0 : Int) < (lp : Int) := by omega
  have i8 : (1 : Int) < (lp : Int) := by omega
  have i9 : (2 : Int) < (lp : Int) := by omega
  go_enter Tryz.func41, Tryz.ntmps41
  obtain ⟨x0, x1, x2, x3, x4, x5, x6⟩ := hQ_0.cells
  obtain ⟨r0, r1, f0, f1⟩ := hR_0.cells
  obtain ⟨p0, p1, p2⟩ := hP_0.cells
  go_wp2_with fail
  rw [← hW]
  clear hW
  go_region_held (fun w' => w'.cell? ⟨w.heap.size, 0, none⟩ = some (.string q.who.t) ∧ w'.cell? ⟨w.heap.size, 1, none⟩ = some (.string q.who.i) ∧ w'.cell? ⟨w.heap.size, 2, none⟩ = some (.string q.act.t) ∧ w'.cell? ⟨w.heap.size, 3, none⟩ = some (.string q.act.i) ∧ w'.cell? ⟨w.heap.size, 4, none⟩ = some (.string q.what.t) ∧ w'.cell? ⟨w.heap.size, 5, none⟩ = some (.string q.what.i) ∧ w'.cell? ⟨w.heap.size, 6, none⟩ = some (.slice pq q.cx.length cq) ∧ w'.cell? ⟨bp, op, none⟩ = some (.int .i64 k0) ∧ w'.cell? ⟨bp, op + 1, none⟩ = some (.int .i64 k1) ∧ w'.cell? ⟨bp, op + 2, none⟩ = some (.int .i64 k2)) (first | exact QP.cells (QR.bel hQ_1 (GR.bel (Nat.le_refl (w.heap.size + 1 + 1)) _ _) (by have := hR_0.lt; have := hPlt; have := hb_0.size; omega)) (P3.bel hP_1 (GR.bel (Nat.le_refl (w.heap.size + 1 + 1)) _ _) (by have := hR_0.lt; have := hPlt; have := hb_0.size; omega)) | exact QP.cells (QR.bel hQ_1 ((Below.refl _ _).setCell (p := ⟨(w.heap.size + 1 + 1), 0, none⟩) (Nat.le_refl _) _) (by have := hR_0.lt; have := hPlt; have := hb_0.size; omega)) (P3.bel hP_1 ((Below.refl _ _).setCell (p := ⟨(w.heap.size + 1 + 1), 0, none⟩) (Nat.le_refl _) _) (by have := hR_0.lt; have := hPlt; have := hb_0.size; omega)) | exact QP.cells (QR.up hQ_1 (by repeat (first | exact Below.refl _ _ | apply zbA | apply zbD))) (P3.up hP_1 (by repeat (first | exact Below.refl _ _ | apply zbA | apply zbD))) | exact QP.cells (QR.up hQ_0 (by repeat (first | exact Below.refl _ _ | apply zbA | apply zbD))) (P3.up hP_0 (by repeat (first | exact Below.refl _ _ | apply zbA | apply zbD)))) (first
    | (go_at_call 21
       refine (HW0 _ (WArg.up hE_0 (by repeat (first | exact Below.refl _ _ | apply zbA | apply zbD)))).mono ?_
       rintro _ w1 ⟨⟨bhv, ohv, chv, rfl, hv_1⟩, hbb_1⟩
       have hbk_1 : Below W.heap.size W w1 := qbt (by repeat (first | exact Below.refl _ _ | apply zbA | apply zbD)) hbb_1
       have hb_1 := qbt hb_0 hbk_1
       have hQ_1 := hQ_0.up hbk_1
       have hR_1 := hR_0.up hbk_1
       have hE_1 := hE_0.up hbk_1
       have hP_1 := hP_0.up hbk_1
       first | (have hC0 : GR w1 ((w.heap.size + 1 + 1)) := GR.up (GR.up (GR.new W hWs.symm) (zbD (Below.refl _ _))) hbb_1; obtain ⟨cc0, cc1, cf0, cf1⟩ := hC0.cells) | skip))
  all_goals
    first
    | (obtain ⟨w2, hV⟩ : ∃ V, V = w1.alloc (.cells #[.slice (some ⟨bhv, ohv, none⟩) 1 chv, .int .i64 0] 30) := ⟨_, rfl⟩
       obtain ⟨Bgc, hBc⟩ : ∃ V, V = w1.heap.size := ⟨_, rfl⟩
       have hEd : Ended w1 (w.heap.size + 1 + 1) (.slice (some ⟨bhv, ohv, none⟩) 1 chv) (.int .i64 0) w2 Bgc := .inl ⟨hV, hBc⟩
       rw [← hV, ← hBc]
       clear hV hBc)
    | (obtain ⟨w2, hV⟩ : ∃ V, V = (w1.setCell ⟨(w.heap.size + 1 + 1), 0, none⟩ (.slice (some ⟨bhv, ohv, none⟩) 1 chv)).setCell ⟨(w.heap.size + 1 + 1), 1, none⟩ (.int .i64 0) := ⟨_, rfl⟩
       obtain ⟨Bgc, hBc⟩ : ∃ V, V = (w.heap.size + 1 + 1) := ⟨_, rfl⟩
       have hEd : Ended w1 (w.heap.size + 1 + 1) (.slice (some ⟨bhv, ohv, none⟩) 1 chv) (.int .i64 0) w2 Bgc := .inr ⟨hC0, hV, hBc⟩
       rw [← hV, ← hBc]
       clear hV hBc hC0 cc0 cc1 cf0 cf1)
    have hb_2 := hEd.below hb_1 (by have := hR_0.lt; have := hPlt; have := hb_0.size; omega)
    have gc_2 := hEd.g2
    have hQ_2 := hEd.hQ hQ_1 (by have := hR_0.lt; have := hPlt; have := hb_0.size; omega)
    have hR_2 := hEd.hR hR_1 (by have := hR_0.lt; have := hPlt; have := hb_0.size; omega)
    have hE_2 := hE0.up hb_2
    have hP_2 := hP0.up hb_2
    have hv_2 := hEd.val hv_1
    clear hEd
    obtain ⟨x0, x1, x2, x3, x4, x5, x6⟩ := hQ_2.cells
    obtain ⟨r0, r1, f0, f1⟩ := hR_2.cells
    obtain ⟨p0, p1, p2⟩ := hP_2.cells
    obtain ⟨gca, gcb⟩ := gc_2.cells
    obtain ⟨ca, cb⟩ := cellsF hv_2
    go_wp2_with fail
    refine (HI _ _ _ _ hv_2).mono ?_
    rintro _ w3 ⟨rfl, hbb⟩
    clear x0 x1 x2 x3 x4 x5 x6 r0 r1 f0 f1 p0 p1 p2 gca gcb
    have hb_3 := qbt hb_2 hbb
    have hQ_3 := hQ_2.up hbb
    have hR_3 := hR_2.up hbb
    have hE_3 := hE_2.up hbb
    have hP_3 := hP_2.up hbb
    have hv_3 := hv_2.up hbb
    have gc_3 := gc_2.up hbb
    clear hbb hb_2 hQ_2 hR_2 hE_2 hP_2 hv_2 gc_2
    obtain ⟨x0, x1, x2, x3, x4, x5, x6⟩ := hQ_3.cells
    obtain ⟨r0, r1, f0, f1⟩ := hR_3.cells
    obtain ⟨p0, p1, p2⟩ := hP_3.cells
    obtain ⟨gca, gcb⟩ := gc_3.cells
    obtain ⟨ca, cb⟩ := cellsF hv_3
    go_wp2_with fail
    go_region_held (fun w' => w'.cell? ⟨w.heap.size, 0, none⟩ = some (.string q.who.t) ∧ w'.cell? ⟨w.heap.size, 1, none⟩ = some (.string q.who.i) ∧ w'.cell? ⟨w.heap.size, 2, none⟩ = some (.string q.act.t) ∧ w'.cell? ⟨w.heap.size, 3, none⟩ = some (.string q.act.i) ∧ w'.cell? ⟨w.heap.size, 4, none⟩ = some (.string q.what.t) ∧ w'.cell? ⟨w.heap.size, 5, none⟩ = some (.string q.what.i) ∧ w'.cell? ⟨w.heap.size, 6, none⟩ = some (.slice pq q.cx.length cq) ∧ w'.cell? ⟨bp, op, none⟩ = some (.int .i64 k0) ∧ w'.cell? ⟨bp, op + 1, none⟩ = some (.int .i64 k1) ∧ w'.cell? ⟨bp, op + 2, none⟩ = some (.int .i64 k2)) (first | exact QP.cells (QR.bel hQ_4 (GR.bel (Nat.le_refl w3.heap.size) _ _) (by have := hR_3.lt; have := hPlt; have := hb_3.size; omega)) (P3.bel hP_4 (GR.bel (Nat.le_refl w3.heap.size) _ _) (by have := hR_3.lt; have := hPlt; have := hb_3.size; omega)) | exact QP.cells (QR.bel hQ_4 ((Below.refl _ _).setCell (p := ⟨w3.heap.size, 0, none⟩) (Nat.le_refl _) _) (by have := hR_3.lt; have := hPlt; have := hb_3.size; omega)) (P3.bel hP_4 ((Below.refl _ _).setCell (p := ⟨w3.heap.size, 0, none⟩) (Nat.le_refl _) _) (by have := hR_3.lt; have := hPlt; have := hb_3.size; omega)) | exact QP.cells (QR.up hQ_4 (by repeat (first | exact Below.refl _ _ | apply zbA | apply zbD))) (P3.up hP_4 (by repeat (first | exact Below.refl _ _ | apply zbA | apply zbD))) | exact QP.cells (QR.up hQ_3 (by repeat (first | exact Below.refl _ _ | apply zbA | apply zbD))) (P3.up hP_3 (by repeat (first | exact Below.refl _ _ | apply zbA | apply zbD)))) (first
      | (go_at_call 21
         refine (HW1 _ (WArg.up hE_3 (by repeat (first | exact Below.refl _ _ | apply zbA | apply zbD)))).mono ?_
         rintro _ w4 ⟨rfl, hbb_4⟩
         have hbk_4 : Below w3.heap.size w3 w4 := qbt (by repeat (first | exact Below.refl _ _ | apply zbA | apply zbD)) hbb_4
         have hb_4 := qbt hb_3 hbk_4
         have hQ_4 := hQ_3.up hbk_4
         have hR_4 := hR_3.up hbk_4
         have hE_4 := hE_3.up hbk_4
         have hP_4 := hP_3.up hbk_4
         have hv_4 := hv_3.up hbk_4
         have gc_4 := gc_3.up hbk_4
         first | (have hC0 : GR w4 (w3.heap.size) := GR.up (GR.up (GR.new w3 rfl) (zbD (Below.refl _ _))) hbb_4; obtain ⟨cc0, cc1, cf0, cf1⟩ := hC0.cells) | skip))
    all_goals
      first
      | (obtain ⟨w5, hV⟩ : ∃ V, V = w4.alloc (.cells #[.slice none 0 0, .int .i64 n1] 30) := ⟨_, rfl⟩
         obtain ⟨Bgd, hBc⟩ : ∃ V, V = w4.heap.size := ⟨_, rfl⟩
         have hEd : Ended w4 w3.heap.size (.slice none 0 0) (.int .i64 n1) w5 Bgd := .inl ⟨hV, hBc⟩
         rw [← hV, ← hBc]
         clear hV hBc)
      | (obtain ⟨w5, hV⟩ : ∃ V, V = (w4.setCell ⟨w3.heap.size, 0, none⟩ (.slice none 0 0)).setCell ⟨w3.heap.size, 1, none⟩ (.int .i64 n1) := ⟨_, rfl⟩
         obtain ⟨Bgd, hBc⟩ : ∃ V, V = w3.heap.size := ⟨_, rfl⟩
         have hEd : Ended w4 w3.heap.size (.slice none 0 0) (.int .i64 n1) w5 Bgd := .inr ⟨hC0, hV, hBc⟩
         rw [← hV, ← hBc]
         clear hV hBc hC0 cc0 cc1 cf0 cf1)
      have hb_5 := hEd.below hb_4 (by have := hR_3.lt; have := hPlt; have := hb_3.size; have := gc_3.lt; omega)
      have gd_5 := hEd.g2
      have hQ_5 := hEd.hQ hQ_4 (by have := hR_3.lt; have := hPlt; have := hb_3.size; have := gc_3.lt; omega)
      have hR_5 := hEd.hR hR_4 (by have := hR_3.lt; have := hPlt; have := hb_3.size; have := gc_3.lt; omega)
      have hE_5 := hE0.up hb_5
      have hP_5 := hP0.up hb_5
      have hv_5 := hEd.val hv_4
      have gc_5 := hEd.g2k gc_4 (by have := hR_3.lt; have := hPlt; have := hb_3.size; have := gc_3.lt; omega)
      clear hEd
      obtain ⟨x0, x1, x2, x3, x4, x5, x6⟩ := hQ_5.cells
      obtain ⟨r0, r1, f0, f1⟩ := hR_5.cells
      obtain ⟨p0, p1, p2⟩ := hP_5.cells
      obtain ⟨gca, gcb⟩ := gc_5.cells
      obtain ⟨gda, gdb⟩ := gd_5.cells
      obtain ⟨ca, cb⟩ := cellsF hv_5
      go_wp2
      exact bodyPost_ret (v := .agg #[.slice none 0 0, .int .i64 n1]) (by simp [results, Tryz.results41, go_sem, (hR_5.told _ _).1, (hR_5.told _ _).2]) rfl (hR_5.ret (by omega) hb_5 (rfl))
end
end Go.Proofs.YtnilaghbbhmkgaaGreatDoor
namespace Go.Proofs.YtnilaghbbhmkgaaGreatDoor
open Go.RowKit
set_option linter.unusedVariables false
set_option maxRecDepth 100000

section
variable (es : List En) (ps : Option Addr) (cs : Nat) (q : Rq) (pq : Option Addr) (cq : Nat) (e : List Nd) (pe : Option Addr) (ce : Nat) (bp op lp cp : Nat) (k0 k1 k2 : Int) (w : World) (hE0 : WArg es ps q pq cq e pe w) (hP0 : P3 w bp op k0 k1 k2) (hlp : 3 ≤ lp) (x0 x1 : Nd) (r0 r1 : List Nd) (m0 m1 : Nat) (n0 n1 : Int) (R : Except Int (List Nd))
include hE0 hP0 hlp
set_option maxHeartbeats 4000000 in
theorem lz_goB_11 (hx1 : x1.op ≠ 1) (HW0 : ∀ w1, WArg es ps q pq cq e pe w1 → Calls Tryz.prog 21 #[.slice ps es.length cs, reqV q pq cq, .slice pe e.length ce, .int .i64 k0] w1 fun en w' => HOk tT [] 1 en w' ∧ Below w1.heap.size w1 w') (HW1 : ∀ w1, WArg es ps q pq cq e pe w1 → Calls Tryz.prog 21 #[.slice ps es.length cs, reqV q pq cq, .slice pe e.length ce, .int .i64 k1] w1 fun en w' => HOk x1 r1 m1 en w' ∧ Below w1.heap.size w1 w') :
    Calls Tryz.prog 41 #[.slice ps es.length cs, reqV q pq cq, .slice pe e.length ce, .int .i64 11, .slice (some ⟨bp, op, none⟩) lp cp] w fun en w' => GRet (.error 2) en w' ∧ Below w.heap.size w w' := by
  have HI := fun w1 b off c (h1 : VArg w1 (tT :: []) 1 (some ⟨b, off, none⟩) c) => refIs_any w1 (tT :: []) 1 (some ⟨b, off, none⟩) c 1 h1
  rw [show (opV (tT :: []) == 1) = true from rfl] at HI
  have HI1 := fun w1 b off c (h1 : VArg w1 (x1 :: r1) m1 (some ⟨b, off, none⟩) c) => refIs_any w1 (x1 :: r1) m1 (some ⟨b, off, none⟩) c 1 h1
  rw [show (opV (x1 :: r1) == 1) = false by simpa [opV] using hx1] at HI1
  obtain ⟨W, hW⟩ : ∃ W, W = (w.alloc (.cells #[.string q.who.t, .string q.who.i, .string q.act.t, .string q.act.i, .string q.what.t, .string q.what.i, .slice pq q.cx.length cq] 27)).alloc (.cells #[.slice none 0 0, .int .i64 0] 30) := ⟨_, rfl⟩
  have hb_0 : Below w.heap.size w W := by rw [hW]; exact ((Below.refl _ _).alloc (Nat.le_refl _) _).alloc (by simp) _
  have hQ_0 : QR W w.heap.size q pq cq := by rw [hW]; exact (QR.new w q pq cq).up ((Below.refl _ _).alloc (Nat.le_refl _) _)
  have hR_0 : GR W (w.heap.size + 1) := by rw [hW]; exact GR.new _ (by simp)
  have hWs : W.heap.size = w.heap.size + 1 + 1 := by rw [hW]; simp
  have hE_0 := hE0.up hb_0
  have hP_0 := hP0.up hb_0
  have hPlt := hP0.lt
  have hQlt : w.heap.size + 1 < W.heap.size := by omega
  unfold reqV at HW0 HW1 ⊢
  have i7 : (0 : Int) < (lp : Int) := by omega
  have i8 : (1 : Int) < (lp : Int) := by omega
  have i9 : (2 : Int) < (lp : Int) := by omega
  go_enter Tryz.func41, Tryz.ntmps41
  obtain ⟨x0, x1, x2, x3, x4, x5, x6⟩ := hQ_0.cells
  obtain ⟨r0, r1, f0, f1⟩ := hR_0.cells
  obtain ⟨p0, p1, p2⟩ := hP_0.cells
  go_wp2_with fail
  rw [← hW]
  clear hW
  go_region_held (fun w' => w'.cell? ⟨w.heap.size, 0, none⟩ = some (.string q.who.t) ∧ w'.cell? ⟨w.heap.size, 1, none⟩ = some (.string q.who.i) ∧ w'.cell? ⟨w.heap.size, 2, none⟩ = some (.string q.act.t) ∧ w'.cell? ⟨w.heap.size, 3, none⟩ = some (.string q.act.i) ∧ w'.cell? ⟨w.heap.size, 4, none⟩ = some (.string q.what.t) ∧ w'.cell? ⟨w.heap.size, 5, none⟩ = some (.string q.what.i) ∧ w'.cell? ⟨w.heap.size, 6, none⟩ = some (.slice pq q.cx.length cq) ∧ w'.cell? ⟨bp, op, none⟩ = some (.int .i64 k0) ∧ w'.cell? ⟨bp, op + 1, none⟩ = some (.int .i64 k1) ∧ w'.cell? ⟨bp, op + 2, none⟩ = some (.int .i64 k2)) (first | exact QP.cells (QR.bel hQ_1 (GR.bel (Nat.le_refl (w.heap.size + 1 + 1)) _ _) (by have := hR_0.lt; have := hPlt; have := hb_0.size; omega)) (P3.bel hP_1 (GR.bel (Nat.le_refl (w.heap.size + 1 + 1)) _ _) (by have := hR_0.lt; have := hPlt; have := hb_0.size; omega)) | exact QP.cells (QR.bel hQ_1 ((Below.refl _ _).setCell (p := ⟨(w.heap.size + 1 + 1), 0, none⟩) (Nat.le_refl _) _) (by have := hR_0.lt; have := hPlt; have := hb_0.size; omega)) (P3.bel hP_1 ((Below.refl _ _).setCell (p := ⟨(w.heap.size + 1 + 1), 0, none⟩) (Nat.le_refl _) _) (by have := hR_0.lt; have := hPlt; have := hb_0.size; omega)) | exact QP.cells (QR.up hQ_1 (by repeat (first | exact Below.refl _ _ | apply zbA | apply zbD))) (P3.up hP_1 (by repeat (first | exact Below.refl _ _ | apply zbA | apply zbD))) | exact QP.cells (QR.up hQ_0 (by repeat (first | exact Below.refl _ _ | apply zbA | apply zbD))) (P3.up hP_0 (by repeat (first | exact Below.refl _ _ | apply zbA | apply zbD)))) (first
    | (go_at_call 21
       refine (HW0 _ (WArg.up hE_0 (by repeat (first | exact Below.refl _ _ | apply zbA | apply zbD)))).mono ?_
       rintro _ w1 ⟨⟨bhv, ohv, chv, rfl, hv_1⟩, hbb_1⟩
       have hbk_1 : Below W.heap.size W w1 := qbt (by repeat (first | exact Below.refl _ _ | apply zbA | apply zbD)) hbb_1
       have hb_1 := qbt hb_0 hbk_1
       have hQ_1 := hQ_0.up hbk_1
       have hR_1 := hR_0.up hbk_1
       have hE_1 := hE_0.up hbk_1
       have hP_1 := hP_0.up hbk_1
       first | (have hC0 : GR w1 ((w.heap.size + 1 + 1)) := GR.up (GR.up (GR.new W hWs.symm) (zbD (Below.refl _ _))) hbb_1; obtain ⟨cc0, cc1, cf0, cf1⟩ := hC0.cells) | skip))
  all_goals
    first
    | (obtain ⟨w2, hV⟩ : ∃ V, V = w1.alloc (.cells #[.slice (some ⟨bhv, ohv, none⟩) 1 chv, .int .i64 0] 30) := ⟨_, rfl⟩
       obtain ⟨Bgc, hBc⟩ : ∃ V, V = w1.heap.size := ⟨_, rfl⟩
       have hEd : Ended w1 (w.heap.size + 1 + 1) (.slice (some ⟨bhv, ohv, none⟩) 1 chv) (.int .i64 0) w2 Bgc := .inl ⟨hV, hBc⟩
       rw [← hV, ← hBc]
       clear hV hBc)
    | (obtain ⟨w2, hV⟩ : ∃ V, V = (w1.setCell ⟨(w.heap.size + 1 + 1), 0, none⟩ (.slice (some ⟨bhv, ohv, none⟩) 1 chv)).setCell ⟨(w.heap.size + 1 + 1), 1, none⟩ (.int .i64 0) := ⟨_, rfl⟩
       obtain ⟨Bgc, hBc⟩ : ∃ V, V = (w.heap.size + 1 + 1) := ⟨_, rfl⟩
       have hEd : Ended w1 (w.heap.size + 1 + 1) (.slice (some ⟨bhv, ohv, none⟩) 1 chv) (.int .i64 0) w2 Bgc := .inr ⟨hC0, hV, hBc⟩
       rw [← hV, ← hBc]
       clear hV hBc hC0 cc0 cc1 cf0 cf1)
    have hb_2 := hEd.below hb_1 (by have := hR_0.lt; have := hPlt; have := hb_0.size; omega)
    have gc_2 := hEd.g2
    have hQ_2 := hEd.hQ hQ_1 (by have := hR_0.lt; have := hPlt; have := hb_0.size; omega)
    have hR_2 := hEd.hR hR_1 (by have := hR_0.lt; have := hPlt; have := hb_0.size; omega)
    have hE_2 := hE0.up hb_2
    have hP_2 := hP0.up hb_2
    have hv_2 := hEd.val hv_1
    clear hEd
    obtain ⟨x0, x1, x2, x3, x4, x5, x6⟩ := hQ_2.cells
    obtain ⟨r0, r1, f0, f1⟩ := hR_2.cells
    obtain ⟨p0, p1, p2⟩ := hP_2.cells
    obtain ⟨gca, gcb⟩ := gc_2.cells
    obtain ⟨ca, cb⟩ := cellsT hv_2
    go_wp2_with fail
    refine (HI _ _ _ _ hv_2).mono ?_
    rintro _ w3 ⟨rfl, hbb⟩
    clear x0 x1 x2 x3 x4 x5 x6 r0 r1 f0 f1 p0 p1 p2 gca gcb
    have hb_3 := qbt hb_2 hbb
    have hQ_3 := hQ_2.up hbb
    have hR_3 := hR_2.up hbb
    have hE_3 := hE_2.up hbb
    have hP_3 := hP_2.up hbb
    have hv_3 := hv_2.up hbb
    have gc_3 := gc_2.up hbb
    clear hbb hb_2 hQ_2 hR_2 hE_2 hP_2 hv_2 gc_2
    obtain ⟨x0, x1, x2, x3, x4, x5, x6⟩ := hQ_3.cells
    obtain ⟨r0, r1, f0, f1⟩ := hR_3.cells
    obtain ⟨p0, p1, p2⟩ := hP_3.cells
    obtain ⟨gca, gcb⟩ := gc_3.cells
    obtain ⟨ca, cb⟩ := cellsT hv_3
    go_wp2_with fail
    go_region_held (fun w' => w'.cell? ⟨w.heap.size, 0, none⟩ = some (.string q.who.t) ∧ w'.cell? ⟨w.heap.size, 1, none⟩ = some (.string q.who.i) ∧ w'.cell? ⟨w.heap.size, 2, none⟩ = some (.string q.act.t) ∧ w'.cell? ⟨w.heap.size, 3, none⟩ = some (.string q.act.i) ∧ w'.cell? ⟨w.heap.size, 4, none⟩ = some (.string q.what.t) ∧ w'.cell? ⟨w.heap.size, 5, none⟩ = some (.string q.what.i) ∧ w'.cell? ⟨w.heap.size, 6, none⟩ = some (.slice pq q.cx.length cq) ∧ w'.cell? ⟨bp, op, none⟩ = some (.int .i64 k0) ∧ w'.cell? ⟨bp, op + 1, none⟩ = some (.int .i64 k1) ∧ w'.cell? ⟨bp, op + 2, none⟩ = some (.int .i64 k2)) (first | exact QP.cells (QR.bel hQ_4 (GR.bel (Nat.le_refl w3.heap.size) _ _) (by have := hR_3.lt; have := hPlt; have := hb_3.size; omega)) (P3.bel hP_4 (GR.bel (Nat.le_refl w3.heap.size) _ _) (by have := hR_3.lt; have := hPlt; have := hb_3.size; omega)) | exact QP.cells (QR.bel hQ_4 ((Below.refl _ _).setCell (p := ⟨w3.heap.size, 0, none⟩) (Nat.le_refl _) _) (by have := hR_3.lt; have := hPlt; have := hb_3.size; omega)) (P3.bel hP_4 ((Below.refl _ _).setCell (p := ⟨w3.heap.size, 0, none⟩) (Nat.le_refl _) _) (by have := hR_3.lt; have := hPlt; have := hb_3.size; omega)) | exact QP.cells (QR.up hQ_4 (by repeat (first | exact Below.refl _ _ | apply zbA | apply zbD))) (P3.up hP_4 (by repeat (first | exact Below.refl _ _ | apply zbA | apply zbD))) | exact QP.cells (QR.up hQ_3 (by repeat (first | exact Below.refl _ _ | apply zbA | apply zbD))) (P3.up hP_3 (by repeat (first | exact Below.refl _ _ | apply zbA | apply zbD)))) (first
      | (go_at_call 21
         refine (HW1 _ (WArg.up hE_3 (by repeat (first | exact Below.refl _ _ | apply zbA | apply zbD)))).mono ?_
         rintro _ w4 ⟨⟨bhvd, ohvd, chvd, rfl, hvd_4⟩, hbb_4⟩
         have hbk_4 : Below w3.heap.size w3 w4 := qbt (by repeat (first | exact Below.refl _ _ | apply zbA | apply zbD)) hbb_4
         have hb_4 := qbt hb_3 hbk_4
         have hQ_4 := hQ_3.up hbk_4
         have hR_4 := hR_3.up hbk_4
         have hE_4 := hE_3.up hbk_4
         have hP_4 := hP_3.up hbk_4
         have hv_4 := hv_3.up hbk_4
         have gc_4 := gc_3.up hbk_4
         first | (have hC0 : GR w4 (w3.heap.size) := GR.up (GR.up (GR.new w3 rfl) (zbD (Below.refl _ _))) hbb_4; obtain ⟨cc0, cc1, cf0, cf1⟩ := hC0.cells) | skip))
    all_goals
      first
      | (obtain ⟨w5, hV⟩ : ∃ V, V = w4.alloc (.cells #[.slice (some ⟨bhvd, ohvd, none⟩) m1 chvd, .int .i64 0] 30) := ⟨_, rfl⟩
         obtain ⟨Bgd, hBc⟩ : ∃ V, V = w4.heap.size := ⟨_, rfl⟩
         have hEd : Ended w4 w3.heap.size (.slice (some ⟨bhvd, ohvd, none⟩) m1 chvd) (.int .i64 0) w5 Bgd := .inl ⟨hV, hBc⟩
         rw [← hV, ← hBc]
         clear hV hBc)
      | (obtain ⟨w5, hV⟩ : ∃ V, V = (w4.setCell ⟨w3.heap.size, 0, none⟩ (.slice (some ⟨bhvd, ohvd, none⟩) m1 chvd)).setCell ⟨w3.heap.size, 1, none⟩ (.int .i64 0) := ⟨_, rfl⟩
         obtain ⟨Bgd, hBc⟩ : ∃ V, V = w3.heap.size := ⟨_, rfl⟩
         have hEd : Ended w4 w3.heap.size (.slice (some ⟨bhvd, ohvd, none⟩) m1 chvd) (.int .i64 0) w5 Bgd := .inr ⟨hC0, hV, hBc⟩
         rw [← hV, ← hBc]
         clear hV hBc hC0 cc0 cc1 cf0 cf1)
      have hb_5 := hEd.below hb_4 (by have := hR_3.lt; have := hPlt; have := hb_3.size; have := gc_3.lt; omega)
      have gd_5 := hEd.g2
      have hQ_5 := hEd.hQ hQ_4 (by have := hR_3.lt; have := hPlt; have := hb_3.size; have := gc_3.lt; omega)
      have hR_5 := hEd.hR hR_4 (by have := hR_3.lt; have := hPlt; have := hb_3.size; have := gc_3.lt; omega)
      have hE_5 := hE0.up hb_5
      have hP_5 := hP0.up hb_5
      have hv_5 := hEd.val hv_4
      have gc_5 := hEd.g2k gc_4 (by have := hR_3.lt; have := hPlt; have := hb_3.size; have := gc_3.lt; omega)
      have hvd_5 := hEd.val hvd_4
      clear hEd
      obtain ⟨x0, x1, x2, x3, x4, x5, x6⟩ := hQ_5.cells
      obtain ⟨r0, r1, f0, f1⟩ := hR_5.cells
      obtain ⟨p0, p1, p2⟩ := hP_5.cells
      obtain ⟨gca, gcb⟩ := gc_5.cells
      obtain ⟨gda, gdb⟩ := gd_5.cells
      obtain ⟨ca, cb⟩ := cellsT hv_5
      go_wp2_with fail
      refine (HI1 _ _ _ _ hvd_5).mono ?_
      rintro _ w6 ⟨rfl, hbb⟩
      clear x0 x1 x2 x3 x4 x5 x6 r0 r1 f0 f1 p0 p1 p2 gca gcb gda gdb
      have hb_6 := qbt hb_5 hbb
      have hQ_6 := hQ_5.up hbb
      have hR_6 := hR_5.up hbb
      have hE_6 := hE_5.up hbb
      have hP_6 := hP_5.up hbb
      have hv_6 := hv_5.up hbb
      have gc_6 := gc_5.up hbb
      have hvd_6 := hvd_5.up hbb
      have gd_6 := gd_5.up hbb
      clear hbb hb_5 hQ_5 hR_5 hE_5 hP_5 hv_5 gc_5 hvd_5 gd_5
      obtain ⟨x0, x1, x2, x3, x4, x5, x6⟩ := hQ_6.cells
      obtain ⟨r0, r1, f0, f1⟩ := hR_6.cells
      obtain ⟨p0, p1, p2⟩ := hP_6.cells
      obtain ⟨gca, gcb⟩ := gc_6.cells
      obtain ⟨gda, gdb⟩ := gd_6.cells
      obtain ⟨ca, cb⟩ := cellsT hv_6
      go_wp2_with fail
      refine (refBad_any _ 2).mono ?_
      rintro _ w7 ⟨rfl, hbb⟩
      clear x0 x1 x2 x3 x4 x5 x6 r0 r1 f0 f1 p0 p1 p2 gca gcb gda gdb
      have hb_7 := qbt hb_6 hbb
      have hQ_7 := hQ_6.up hbb
      have hR_7 := hR_6.up hbb
      have hE_7 := hE_6.up hbb
      have hP_7 := hP_6.up hbb
      have hv_7 := hv_6.up hbb
      have gc_7 := gc_6.up hbb
      have hvd_7 := hvd_6.up hbb
      have gd_7 := gd_6.up hbb
      clear hbb hb_6 hQ_6 hR_6 hE_6 hP_6 hv_6 gc_6 hvd_6 gd_6
      obtain ⟨x0, x1, x2, x3, x4, x5, x6⟩ := hQ_7.cells
      obtain ⟨r0, r1, f0, f1⟩ := hR_7.cells
      obtain ⟨p0, p1, p2⟩ := hP_7.cells
      obtain ⟨gca, gcb⟩ := gc_7.cells
      obtain ⟨gda, gdb⟩ := gd_7.cells
      obtain ⟨ca, cb⟩ := cellsT hv_7
      go_wp2
      exact bodyPost_ret (v := .agg #[.slice none 0 0, .int .i64 2]) (by simp [results, Tryz.results41, go_sem, (hR_7.told _ _).1, (hR_7.told _ _).2]) rfl (hR_7.ret (by omega) hb_7 (rfl))
set_option maxHeartbeats 4000000 in
theorem lz_goB_12 (hx1 : x1.op ≠ 1) (HW0 : ∀ w1, WArg es ps q pq cq e pe w1 → Calls Tryz.prog 21 #[.slice ps es.length cs, reqV q pq cq, .slice pe e.length ce, .int .i64 k0] w1 fun en w' => HOk tF [] 1 en w' ∧ Below w1.heap.size w1 w') (HW1 : ∀ w1, WArg es ps q pq cq e pe w1 → Calls Tryz.prog 21 #[.slice ps es.length cs, reqV q pq cq, .slice pe e.length ce, .int .i64 k1] w1 fun en w' => HOk x1 r1 m1 en w' ∧ Below w1.heap.size w1 w') :
    Calls Tryz.prog 41 #[.slice ps es.length cs, reqV q pq cq, .slice pe e.length ce, .int .i64 12, .slice (some ⟨bp, op, none⟩) lp cp] w fun en w' => GRet (.error 2) en w' ∧ Below w.heap.size w w' := by
  have HI := fun w1 b off c (h1 : VArg w1 (tF :: []) 1 (some ⟨b, off, none⟩) c) => refIs_any w1 (tF :: []) 1 (some ⟨b, off, none⟩) c 1 h1
  rw [show (opV (tF :: []) == 1) = true from rfl] at HI
  have HI1 := fun w1 b off c (h1 : VArg w1 (x1 :: r1) m1 (some ⟨b, off, none⟩) c) => refIs_any w1 (x1 :: r1) m1 (some ⟨b, off, none⟩) c 1 h1
  rw [show (opV (x1 :: r1) == 1) = false by simpa [opV] using hx1] at HI1
  obtain ⟨W, hW⟩ : ∃ W, W = (w.alloc (.cells #[.string q.who.t, .string q.who.i, .string q.act.t, .string q.act.i, .string q.what.t, .string q.what.i, .slice pq q.cx.length cq] 27)).alloc (.cells #[.slice none 0 0, .int .i64 0] 30) := ⟨_, rfl⟩
  have hb_0 : Below w.heap.size w W := by rw [hW]; exact ((Below.refl _ _).alloc (Nat.le_refl _) _).alloc (by simp) _
  have hQ_0 : QR W w.heap.size q pq cq := by rw [hW]; exact (QR.new w q pq cq).up ((Below.refl _ _).alloc (Nat.le_refl _) _)
  have hR_0 : GR W (w.heap.size + 1) := by rw [hW]; exact GR.new _ (by simp)
  have hWs : W.heap.size = w.heap.size + 1 + 1 := by rw [hW]; simp
  have hE_0 := hE0.up hb_0
  have hP_0 := hP0.up hb_0
  have hPlt := hP0.lt
  have hQlt : w.heap.size + 1 < W.heap.size := by omega
  unfold reqV at HW0 HW1 ⊢
  have i7 : (0 : Int) < (lp : Int) := by omega
  have i8 : (1 : Int) < (lp : Int) := by omega
  have i9 : (2 : Int) < (lp : Int) := by omega
  go_enter Tryz.func41, Tryz.ntmps41
  obtain ⟨x0, x1, x2, x3, x4, x5, x6⟩ := hQ_0.cells
  obtain ⟨r0, r1, f0, f1⟩ := hR_0.cells
  obtain ⟨p0, p1, p2⟩ := hP_0.cells
  go_wp2_with fail
  rw [← hW]
  clear hW
  go_region_held (fun w' => w'.cell? ⟨w.heap.size, 0, none⟩ = some (.string q.who.t) ∧ w'.cell? ⟨w.heap.size, 1, none⟩ = some (.string q.who.i) ∧ w'.cell? ⟨w.heap.size, 2, none⟩ = some (.string q.act.t) ∧ w'.cell? ⟨w.heap.size, 3, none⟩ = some (.string q.act.i) ∧ w'.cell? ⟨w.heap.size, 4, none⟩ = some (.string q.what.t) ∧ w'.cell? ⟨w.heap.size, 5, none⟩ = some (.string q.what.i) ∧ w'.cell? ⟨w.heap.size, 6, none⟩ = some (.slice pq q.cx.length cq) ∧ w'.cell? ⟨bp, op, none⟩ = some (.int .i64 k0) ∧ w'.cell? ⟨bp, op + 1, none⟩ = some (.int .i64 k1) ∧ w'.cell? ⟨bp, op + 2, none⟩ = some (.int .i64 k2)) (first | exact QP.cells (QR.bel hQ_1 (GR.bel (Nat.le_refl (w.heap.size + 1 + 1)) _ _) (by have := hR_0.lt; have := hPlt; have := hb_0.size; omega)) (P3.bel hP_1 (GR.bel (Nat.le_refl (w.heap.size + 1 + 1)) _ _) (by have := hR_0.lt; have := hPlt; have := hb_0.size; omega)) | exact QP.cells (QR.bel hQ_1 ((Below.refl _ _).setCell (p := ⟨(w.heap.size + 1 + 1), 0, none⟩) (Nat.le_refl _) _) (by have := hR_0.lt; have := hPlt; have := hb_0.size; omega)) (P3.bel hP_1 ((Below.refl _ _).setCell (p := ⟨(w.heap.size + 1 + 1), 0, none⟩) (Nat.le_refl _) _) (by have := hR_0.lt; have := hPlt; have := hb_0.size; omega)) | exact QP.cells (QR.up hQ_1 (by repeat (first | exact Below.refl _ _ | apply zbA | apply zbD))) (P3.up hP_1 (by repeat (first | exact Below.refl _ _ | apply zbA | apply zbD))) | exact QP.cells (QR.up hQ_0 (by repeat (first | exact Below.refl _ _ | apply zbA | apply zbD))) (P3.up hP_0 (by repeat (first | exact Below.refl _ _ | apply zbA | apply zbD)))) (first
    | (go_at_call 21
       refine (HW0 _ (WArg.up hE_0 (by repeat (first | exact Below.refl _ _ | apply zbA | apply zbD)))).mono ?_
       rintro _ w1 ⟨⟨bhv, ohv, chv, rfl, hv_1⟩, hbb_1⟩
       have hbk_1 : Below W.heap.size W w1 := qbt (by repeat (first | exact Below.refl _ _ | apply zbA | apply zbD)) hbb_1
       have hb_1 := qbt hb_0 hbk_1
       have hQ_1 := hQ_0.up hbk_1
       have hR_1 := hR_0.up hbk_1
       have hE_1 := hE_0.up hbk_1
       have hP_1 := hP_0.up hbk_1
       first | (have hC0 : GR w1 ((w.heap.size + 1 + 1)) := GR.up (GR.up (GR.new W hWs.symm) (zbD (Below.refl _ _))) hbb_1; obtain ⟨cc0, cc1, cf0, cf1⟩ := hC0.cells) | skip))
  all_goals
    first
    | (obtain ⟨w2, hV⟩ : ∃ V, V = w1.alloc (.cells #[.slice (some ⟨bhv, ohv, none⟩) 1 chv, .int .i64 0] 30) := ⟨_, rfl⟩
       obtain ⟨Bgc, hBc⟩ : ∃ V, V = w1.heap.size := ⟨_, rfl⟩
       have hEd : Ended w1 (w.heap.size + 1 + 1) (.slice (some ⟨bhv, ohv, none⟩) 1 chv) (.int .i64 0) w2 Bgc := .inl ⟨hV, hBc⟩
       rw [← hV, ← hBc]
       clear hV hBc)
    | (obtain ⟨w2, hV⟩ : ∃ V, V = (w1.setCell ⟨(w.heap.size + 1 + 1), 0, none⟩ (.slice (some ⟨bhv, ohv, none⟩) 1 chv)).setCell ⟨(w.heap.size + 1 + 1), 1, none⟩ (.int .i64 0) := ⟨_, rfl⟩
       obtain ⟨Bgc, hBc⟩ : ∃ V, V = (w.heap.size + 1 + 1) := ⟨_, rfl⟩
       have hEd : Ended w1 (w.heap.size + 1 + 1) (.slice (some ⟨bhv, ohv, none⟩) 1 chv) (.int .i64 0) w2 Bgc := .inr ⟨hC0, hV, hBc⟩
       rw [← hV, ← hBc]
       clear hV hBc hC0 cc0 cc1 cf0 cf1)
    have hb_2 := hEd.below hb_1 (by have := hR_0.lt; have := hPlt; have := hb_0.size; omega)
    have gc_2 := hEd.g2
    have hQ_2 := hEd.hQ hQ_1 (by have := hR_0.lt; have := hPlt; have := hb_0.size; omega)
    have hR_2 := hEd.hR hR_1 (by have := hR_0.lt; have := hPlt; have := hb_0.size; omega)
    have hE_2 := hE0.up hb_2
    have hP_2 := hP0.up hb_2
    have hv_2 := hEd.val hv_1
    clear hEd
    obtain ⟨x0, x1, x2, x3, x4, x5, x6⟩ := hQ_2.cells
    obtain ⟨r0, r1, f0, f1⟩ := hR_2.cells
    obtain ⟨p0, p1, p2⟩ := hP_2.cells
    obtain ⟨gca, gcb⟩ := gc_2.cells
    obtain ⟨ca, cb⟩ := cellsF hv_2
    go_wp2_with fail
    refine (HI _ _ _ _ hv_2).mono ?_
    rintro _ w3 ⟨rfl, hbb⟩
    clear x0 x1 x2 x3 x4 x5 x6 r0 r1 f0 f1 p0 p1 p2 gca gcb
    have hb_3 := qbt hb_2 hbb
    have hQ_3 := hQ_2.up hbb
    have hR_3 := hR_2.up hbb
    have hE_3 := hE_2.up hbb
    have hP_3 := hP_2.up hbb
    have hv_3 := hv_2.up hbb
    have gc_3 := gc_2.up hbb
    clear hbb hb_2 hQ_2 hR_2 hE_2 hP_2 hv_2 gc_2
    obtain ⟨x0, x1, x2, x3, x4, x5, x6⟩ := hQ_3.cells
    obtain ⟨r0, r1, f0, f1⟩ := hR_3.cells
    obtain ⟨p0, p1, p2⟩ := hP_3.cells
    obtain ⟨gca, gcb⟩ := gc_3.cells
    obtain ⟨ca, cb⟩ := cellsF hv_3
    go_wp2_with fail
    go_region_held (fun w' => w'.cell? ⟨w.heap.size, 0, none⟩ = some (.string q.who.t) ∧ w'.cell? ⟨w.heap.size, 1, none⟩ = some (.string q.who.i) ∧ w'.cell? ⟨w.heap.size, 2, none⟩ = some (.string q.act.t) ∧ w'.cell? ⟨w.heap.size, 3, none⟩ = some (.string q.act.i) ∧ w'.cell? ⟨w.heap.size, 4, none⟩ = some (.string q.what.t) ∧ w'.cell? ⟨w.heap.size, 5, none⟩ = some (.string q.what.i) ∧ w'.cell? ⟨w.heap.size, 6, none⟩ = some (.slice pq q.cx.length cq) ∧ w'.cell? ⟨bp, op, none⟩ = some (.int .i64 k0) ∧ w'.cell? ⟨bp, op + 1, none⟩ = some (.int .i64 k1) ∧ w'.cell? ⟨bp, op + 2, none⟩ = some (.int .i64 k2)) (first | exact QP.cells (QR.bel hQ_4 (GR.bel (Nat.le_refl w3.heap.size) _ _) (by have := hR_3.lt; have := hPlt; have := hb_3.size; omega)) (P3.bel hP_4 (GR.bel (Nat.le_refl w3.heap.size) _ _) (by have := hR_3.lt; have := hPlt; have := hb_3.size; omega)) | exact QP.cells (QR.bel hQ_4 ((Below.refl _ _).setCell (p := ⟨w3.heap.size, 0, none⟩) (Nat.le_refl _) _) (by have := hR_3.lt; have := hPlt; have := hb_3.size; omega)) (P3.bel hP_4 ((Below.refl _ _).setCell (p := ⟨w3.heap.size, 0, none⟩) (Nat.le_refl _) _) (by have := hR_3.lt; have := hPlt; have := hb_3.size; omega)) | exact QP.cells (QR.up hQ_4 (by repeat (first | exact Below.refl _ _ | apply zbA | apply zbD))) (P3.up hP_4 (by repeat (first | exact Below.refl _ _ | apply zbA | apply zbD))) | exact QP.cells (QR.up hQ_3 (by repeat (first | exact Below.refl _ _ | apply zbA | apply zbD))) (P3.up hP_3 (by repeat (first | exact Below.refl _ _ | apply zbA | apply zbD)))) (first
      | (go_at_call 21
         refine (HW1 _ (WArg.up hE_3 (by repeat (first | exact Below.refl _ _ | apply zbA | apply zbD)))).mono ?_
         rintro _ w4 ⟨⟨bhvd, ohvd, chvd, rfl, hvd_4⟩, hbb_4⟩
         have hbk_4 : Below w3.heap.size w3 w4 := qbt (by repeat (first | exact Below.refl _ _ | apply zbA | apply zbD)) hbb_4
         have hb_4 := qbt hb_3 hbk_4
         have hQ_4 := hQ_3.up hbk_4
         have hR_4 := hR_3.up hbk_4
         have hE_4 := hE_3.up hbk_4
         have hP_4 := hP_3.up hbk_4
         have hv_4 := hv_3.up hbk_4
         have gc_4 := gc_3.up hbk_4
         first | (have hC0 : GR w4 (w3.heap.size) := GR.up (GR.up (GR.new w3 rfl) (zbD (Below.refl _ _))) hbb_4; obtain ⟨cc0, cc1, cf0, cf1⟩ := hC0.cells) | skip))
    all_goals
      first
      | (obtain ⟨w5, hV⟩ : ∃ V, V = w4.alloc (.cells #[.slice (some ⟨bhvd, ohvd, none⟩) m1 chvd, .int .i64 0] 30) := ⟨_, rfl⟩
         obtain ⟨Bgd, hBc⟩ : ∃ V, V = w4.heap.size := ⟨_, rfl⟩
         have hEd : Ended w4 w3.heap.size (.slice (some ⟨bhvd, ohvd, none⟩) m1 chvd) (.int .i64 0) w5 Bgd := .inl ⟨hV, hBc⟩
         rw [← hV, ← hBc]
         clear hV hBc)
      | (obtain ⟨w5, hV⟩ : ∃ V, V = (w4.setCell ⟨w3.heap.size, 0, none⟩ (.slice (some ⟨bhvd, ohvd, none⟩) m1 chvd)).setCell ⟨w3.heap.size, 1, none⟩ (.int .i64 0) := ⟨_, rfl⟩
         obtain ⟨Bgd, hBc⟩ : ∃ V, V = w3.heap.size := ⟨_, rfl⟩
         have hEd : Ended w4 w3.heap.size (.slice (some ⟨bhvd, ohvd, none⟩) m1 chvd) (.int .i64 0) w5 Bgd := .inr ⟨hC0, hV, hBc⟩
         rw [← hV, ← hBc]
         clear hV hBc hC0 cc0 cc1 cf0 cf1)
      have hb_5 := hEd.below hb_4 (by have := hR_3.lt; have := hPlt; have := hb_3.size; have := gc_3.lt; omega)
      have gd_5 := hEd.g2
      have hQ_5 := hEd.hQ hQ_4 (by have := hR_3.lt; have := hPlt; have := hb_3.size; have := gc_3.lt; omega)
      have hR_5 := hEd.hR hR_4 (by have := hR_3.lt; have := hPlt; have := hb_3.size; have := gc_3.lt; omega)
      have hE_5 := hE0.up hb_5
      have hP_5 := hP0.up hb_5
      have hv_5 := hEd.val hv_4
      have gc_5 := hEd.g2k gc_4 (by have := hR_3.lt; have := hPlt; have := hb_3.size; have := gc_3.lt; omega)
      have hvd_5 := hEd.val hvd_4
      clear hEd
      obtain ⟨x0, x1, x2, x3, x4, x5, x6⟩ := hQ_5.cells
      obtain ⟨r0, r1, f0, f1⟩ := hR_5.cells
      obtain ⟨p0, p1, p2⟩ := hP_5.cells
      obtain ⟨gca, gcb⟩ := gc_5.cells
      obtain ⟨gda, gdb⟩ := gd_5.cells
      obtain ⟨ca, cb⟩ := cellsF hv_5
      go_wp2_with fail
      refine (HI1 _ _ _ _ hvd_5).mono ?_
      rintro _ w6 ⟨rfl, hbb⟩
      clear x0 x1 x2 x3 x4 x5 x6 r0 r1 f0 f1 p0 p1 p2 gca gcb gda gdb
      have hb_6 := qbt hb_5 hbb
      have hQ_6 := hQ_5.up hbb
      have hR_6 := hR_5.up hbb
      have hE_6 := hE_5.up hbb
      have hP_6 := hP_5.up hbb
      have hv_6 := hv_5.up hbb
      have gc_6 := gc_5.up hbb
      have hvd_6 := hvd_5.up hbb
      have gd_6 := gd_5.up hbb
      clear hbb hb_5 hQ_5 hR_5 hE_5 hP_5 hv_5 gc_5 hvd_5 gd_5
      obtain ⟨x0, x1, x2, x3, x4, x5, x6⟩ := hQ_6.cells
      obtain ⟨r0, r1, f0, f1⟩ := hR_6.cells
      obtain ⟨p0, p1, p2⟩ := hP_6.cells
      obtain ⟨gca, gcb⟩ := gc_6.cells
      obtain ⟨gda, gdb⟩ := gd_6.cells
      obtain ⟨ca, cb⟩ := cellsF hv_6
      go_wp2_with fail
      refine (refBad_any _ 2).mono ?_
      rintro _ w7 ⟨rfl, hbb⟩
      clear x0 x1 x2 x3 x4 x5 x6 r0 r1 f0 f1 p0 p1 p2 gca gcb gda gdb
      have hb_7 := qbt hb_6 hbb
      have hQ_7 := hQ_6.up hbb
      have hR_7 := hR_6.up hbb
      have hE_7 := hE_6.up hbb
      have hP_7 := hP_6.up hbb
      have hv_7 := hv_6.up hbb
      have gc_7 := gc_6.up hbb
      have hvd_7 := hvd_6.up hbb
      have gd_7 := gd_6.up hbb
      clear hbb hb_6 hQ_6 hR_6 hE_6 hP_6 hv_6 gc_6 hvd_6 gd_6
      obtain ⟨x0, x1, x2, x3, x4, x5, x6⟩ := hQ_7.cells
      obtain ⟨r0, r1, f0, f1⟩ := hR_7.cells
      obtain ⟨p0, p1, p2⟩ := hP_7.cells
      obtain ⟨gca, gcb⟩ := gc_7.cells
      obtain ⟨gda, gdb⟩ := gd_7.cells
      obtain ⟨ca, cb⟩ := cellsF hv_7
      go_wp2
      exact bodyPost_ret (v := .agg #[.slice none 0 0, .int .i64 2]) (by simp [results, Tryz.results41, go_sem, (hR_7.told _ _).1, (hR_7.told _ _).2]) rfl (hR_7.ret (by omega) hb_7 (rfl))
end
end Go.Proofs.YtnilaghbbhmkgaaGreatDoor
