/- Package kinds: missesNone, hasAll, hasFields, by walks of their own texts. -/
import Derived.Test.YtjbjheeigdblkabKiW
namespace Go.Proofs.Ytjbjheeigdblkab
open Go.RowKit
set_option linter.unusedVariables false
set_option maxRecDepth 100000

set_option maxHeartbeats 4000000 in
theorem missesNone_any (x y : Nd) (k l : Tp) (w : World) (v u : Value) (S : Nat → Prop) (hv : VK w k v S) (hu : VK w l u S) (hk1 : k.flat.length ≤ 1000) (hl1 : l.flat.length ≤ 1000) :
    Calls Try.prog 29 #[partV x v, partV y u] w fun e w' => e = .returned (.bool (noMiss l k)) ∧ Below w.heap.size w w' := by
  obtain ⟨q, c, rfl, hkc, hcm⟩ := hv.slice
  obtain ⟨q2, c2, rfl, hkc2, hcm2⟩ := hu.slice
  have HV : Hid (VK w k (.slice q k.len c) S) := hv
  have HU : Hid (VK w l (.slice q2 l.len c2) S) := hu
  have HK1 : Hid (l.flat.length ≤ 1000) := hl1
  have hkb : k.len ≤ 1000 := by have := tp_len_flat k; omega
  clear hv hu hk1 hl1
  obtain ⟨W, hW⟩ : ∃ W, W = (w.alloc (.cells #[.int .i64 x.op, .int .i64 x.n, .string x.s, .string x.t, .slice q k.len c] 37)).alloc (.cells #[.int .i64 y.op, .int .i64 y.n, .string y.s, .string y.t, .slice q2 l.len c2] 37) := ⟨_, rfl⟩
  have hb0 : Below w.heap.size w W := by rw [hW]; exact kqx
  have hp_0 : PBk W (w.heap.size + 1) y (.slice q2 l.len c2) := by rw [hW]; exact PBk.new _ y _ (by simp)
  unfold partV
  go_enter Try.func29, Try.ntmps29
  go_wp2
  rw [← hW]
  go_loopw [12] (fun i wr => ∃ (done todo : Tp), Hid (done.app todo = k) ∧ i = .int .i64 (done.len : Int) ∧ Hid (noMiss l k = noMiss l todo) ∧ PBk wr (w.heap.size + 1) y (.slice q2 l.len c2) ∧ Below w.heap.size w wr) (fun i _ => k.len - (intOf i).toNat)
  case atStart => exact ⟨.nil, k, rfl, rfl, rfl, hp_0, hb0⟩
  case round =>
    rename World => w3
    obtain ⟨done, todo, HD, rfl, HF, hp_3, hb3⟩ := hrel
    cases todo with
    | nil =>
      have hd : done = k := by have := HD.out; rw [tp_app_nil] at this; exact this
      subst hd
      have i1 : ¬ (done.len : Int) < (done.len : Int) := by omega
      go_wp2
      go_ret
      exact ⟨retb HF.out.symm, hb3⟩
    | cons f kf r =>
      have hv3 : VK w3 k (.slice q k.len c) S := HV.out.up hb3
      have hkl : k.len = done.len + (r.len + 1) := by rw [← HD.out, tp_app_len]; rfl
      have i1 : (done.len : Int) < (k.len : Int) := by omega
      rw [← HD.out] at hv3
      obtain ⟨g, cap, u, hu, hP, hyw, hvk, hSg⟩ := hv3.at
      rw [HD.out, ← hkl] at hu
      cases hu
      obtain ⟨qu, cu, rfl, _⟩ := hvk.slice
      obtain ⟨p0, p1, p2, p3, p4⟩ := hP.cells
      have HDn : Hid ((done.app (.cons f kf .nil)).app r = k) := by show _ = _; rw [tp_app_assoc, ← HD.out]; rfl
      have HKL : Hid (k.len = done.len + (r.len + 1)) := hkl
      obtain ⟨W4, hW4⟩ : ∃ W4, W4 = w3.alloc (.cells #[.int .i64 f.op, .int .i64 f.n, .string f.s, .string f.t, .slice qu kf.len cu] 37) := ⟨_, rfl⟩
      have hb4 : Below w3.heap.size w3 W4 := by rw [hW4]; exact kqx
      have hB4 : PBk W4 w3.heap.size f (.slice qu kf.len cu) := by rw [hW4]; exact PBk.new w3 f _ rfl
      have hp_4 := hp_3.up hb4
      have hC := field_any y l f.s W4 _ S ((HU.out.up hb3).up hb4) HK1.out
      unfold partV at hC
      obtain ⟨b0, b1, b2, b3, b4⟩ := hp_4.cells
      rw [hW4] at b0 b1 b2 b3 b4
      have HX : Hid (noMiss l k = ((decide (f.n ≠ 1) || (l.find f.s).isSome) && noMiss l r)) := by show _ = _; rw [HF.out]; rfl
      clear hv3 hP hkl hvk HF
      have HOwn : ∃ (on : Nd), Calls Try.prog 38 #[.agg #[.int .i64 y.op, .int .i64 y.n, .string y.s, .string y.t, .slice q2 l.len c2], .string f.s] W4 fun en w' => (∃ qo no co, en = .returned (.tuple #[.agg #[.int .i64 on.op, .int .i64 on.n, .string on.s, .string on.t, .slice qo no co], .bool (l.find f.s).isSome])) ∧ Below W4.heap.size W4 w' := by
        cases hf : l.find f.s with
        | none =>
          rw [hf] at hC
          exact ⟨zN, hC.mono (fun en w' h => ⟨⟨none, 0, 0, h.1⟩, h.2⟩)⟩
        | some p =>
          obtain ⟨o, ko⟩ := p
          rw [hf] at hC
          exact ⟨o, hC.mono (fun en w' h => by obtain ⟨⟨a, b, e, _⟩, h2⟩ := h; exact ⟨⟨a, _, b, e⟩, h2⟩)⟩
      obtain ⟨on, hC2⟩ := HOwn
      generalize (l.find f.s).isSome = G at *
      clear hC
      go_wp2_with fail
      rw [← hW4]
      refine hC2.mono ?_
      rintro _ w5 ⟨⟨qo, no, co, rfl⟩, hb5⟩
      obtain ⟨V6, hV6⟩ : ∃ V6, V6 = w5.alloc (.cells #[.int .i64 on.op, .int .i64 on.n, .string on.s, .string on.t, .slice qo no co] 37) := ⟨_, rfl⟩
      have hb6 : Below w3.heap.size w3 V6 := by rw [hV6]; exact kqA (kqt hb4 hb5)
      have hB6 : PBk V6 w3.heap.size f (.slice qu kf.len cu) := by rw [hV6]; exact (hB4.up hb5).up kqx
      obtain ⟨d0, d1, d2, d3, d4⟩ := hB6.cells
      rw [hV6] at d0 d1 d2 d3 d4
      have hb36 : Below w.heap.size w V6 := hb3.trans (hb6.mono hb3.size)
      clear b0 b1 b2 b3 b4 p0 p1 p2 p3 p4
      by_cases hn : f.n = 1
      · have e1 : (f.n == 1) = true := by rw [hn]; rfl
        cases G
        · have HF2 : Hid (noMiss l k = false) := by show _ = _; rw [HX.out]; simp [hn]
          clear HX hn
          go_wp2
          rw [← hV6]
          go_ret
          exact ⟨retb HF2.out.symm, hb36⟩
        · have HF2 : Hid (noMiss l k = noMiss l r) := by show _ = _; rw [HX.out]; simp
          clear HX hn
          go_wp2_with fail
          rw [← hV6]
          go_roundw
          case rel => exact ⟨done.app (.cons f kf .nil), r, HDn, by rw [tp_app_len]; simp only [Tp.len]; go_num, HF2, hp_3.up hb6, hb36⟩
          case measure => have := HKL.out; simp [intOf]; omega
      · have HF2 : Hid (noMiss l k = noMiss l r) := by show _ = _; rw [HX.out]; simp [hn]
        have e1 : (f.n == 1) = false := by simp [hn]
        clear HX hn
        go_wp2_with fail
        rw [← hV6]
        go_roundw
        case rel => exact ⟨done.app (.cons f kf .nil), r, HDn, by rw [tp_app_len]; simp only [Tp.len]; go_num, HF2, hp_3.up hb6, hb36⟩
        case measure => have := HKL.out; simp [intOf]; omega
/-- What has does. -/
def HasK (y : Nd) (l : Tp) : Prop := ∀ (x : Nd) (k : Tp) (w : World) (v u : Value) (S : Nat → Prop), VK w k v S → VK w l u S → TyC x k → okV none (.cons y l .nil) → k.flat.length ≤ 1000 → l.flat.length ≤ 1000 →
  Calls Try.prog 15 #[partV x v, partV y u] w fun e w' => e = .returned (.bool (hs false (.cons y l .nil) (.cons x k .nil))) ∧ Below w.heap.size w w'
theorem hs_split (y : Nd) (l r c : Tp) (hc : T1 c) : hs false (.cons y l r) c = (hs false (.cons y l .nil) c && hs false r c) := by
  obtain ⟨z, q, rfl, _⟩ := hc.of
  rw [hs_cons, hs_cons, show hs false .nil (.cons z q .nil) = true by rw [hs], Bool.and_true]
set_option maxHeartbeats 4000000 in
theorem hasAll_any (x : Nd) (k t : Tp) (ih : ∀ z kz, kz.flat.length < t.flat.length → HasK z kz) (w : World) (v u : Value) (S : Nat → Prop) (hv : VK w k v S) (hu : VK w t u S) (hx : TyC x k) (ht : okV none t) (hk1 : k.flat.length ≤ 1000) (hl1 : t.flat.length ≤ 1000) :
    Calls Try.prog 27 #[partV x v, u] w fun e w' => e = .returned (.bool (hs false t (.cons x k .nil))) ∧ Below w.heap.size w w' := by
  obtain ⟨q, c, rfl, hkc, hcm⟩ := hv.slice
  obtain ⟨q2, c2, rfl, hkc2, hcm2⟩ := hu.slice
  have HV : Hid (VK w k (.slice q k.len c) S) := hv
  have HU : Hid (VK w t (.slice q2 t.len c2) S) := hu
  have HK1 : Hid (k.flat.length ≤ 1000) := hk1
  have HL1 : Hid (t.flat.length ≤ 1000) := hl1
  have HIH : Hid (∀ z kz, kz.flat.length < t.flat.length → HasK z kz) := ih
  have HTx : Hid (TyC x k) := hx
  have HT0 : Hid (okV none t) := ht
  have hkb : t.len ≤ 1000 := by have := tp_len_flat t; omega
  clear hv hu hk1 hl1 ih hx ht
  obtain ⟨W, hW⟩ : ∃ W, W = w.alloc (.cells #[.int .i64 x.op, .int .i64 x.n, .string x.s, .string x.t, .slice q k.len c] 37) := ⟨_, rfl⟩
  have hb0 : Below w.heap.size w W := by rw [hW]; exact kqx
  have hp_0 : PBk W w.heap.size x (.slice q k.len c) := by rw [hW]; exact PBk.new _ x _ rfl
  unfold partV
  go_enter Try.func27, Try.ntmps27
  go_wp2
  rw [← hW]
  go_loopw [9] (fun i wr => ∃ (done todo : Tp), Hid (done.app todo = t) ∧ i = .int .i64 (done.len : Int) ∧ Hid (hs false t (.cons x k .nil) = hs false todo (.cons x k .nil)) ∧ Hid (okV none todo) ∧ PBk wr w.heap.size x (.slice q k.len c) ∧ Below w.heap.size w wr) (fun i _ => t.len - (intOf i).toNat)
  case atStart => exact ⟨.nil, t, rfl, rfl, rfl, HT0, hp_0, hb0⟩
  case round =>
    rename World => w3
    obtain ⟨done, todo, HD, rfl, HF, HT, hp_3, hb3⟩ := hrel
    cases todo with
    | nil =>
      have hd : done = t := by have := HD.out; rw [tp_app_nil] at this; exact this
      subst hd
      have i1 : ¬ (done.len : Int) < (done.len : Int) := by omega
      have HF2 : Hid (hs false done (.cons x k .nil) = true) := by show _ = _; rw [HF.out, hs]
      go_wp2
      go_ret
      exact ⟨retb HF2.out.symm, hb3⟩
    | cons y ky r =>
      have hu3 : VK w3 t (.slice q2 t.len c2) S := HU.out.up hb3
      have hkl : t.len = done.len + (r.len + 1) := by rw [← HD.out, tp_app_len]; rfl
      have hkf : t.flat.length = done.flat.length + (ky.flat.length + r.flat.length + 1) := by rw [← HD.out, tp_app_flat]; simp [Tp.flat] <;> omega
      have i1 : (done.len : Int) < (t.len : Int) := by omega
      rw [← HD.out] at hu3
      obtain ⟨g, cap, u, hu, hP, hyw, hvk, hSg⟩ := hu3.at
      rw [HD.out, ← hkl] at hu
      cases hu
      obtain ⟨qu, cu, rfl, _⟩ := hvk.slice
      obtain ⟨p0, p1, p2, p3, p4⟩ := hP.cells
      obtain ⟨hy1, hr1⟩ := okV.none_iff.1 HT.out
      have HDn : Hid ((done.app (.cons y ky .nil)).app r = t) := by show _ = _; rw [tp_app_assoc, ← HD.out]; rfl
      have HKL : Hid (t.len = done.len + (r.len + 1)) := hkl
      have HTr : Hid (okV none r) := hr1
      obtain ⟨W4, hW4⟩ : ∃ W4, W4 = w3.alloc (.cells #[.int .i64 y.op, .int .i64 y.n, .string y.s, .string y.t, .slice qu ky.len cu] 37) := ⟨_, rfl⟩
      have hb4 : Below w3.heap.size w3 W4 := by rw [hW4]; exact kqx
      have hB4 : PBk W4 w3.heap.size y (.slice qu ky.len cu) := by rw [hW4]; exact PBk.new w3 y _ rfl
      have hp_4 := hp_3.up hb4
      have hC := HIH.out y ky (by omega) x k W4 _ _ S ((HV.out.up hb3).up hb4) (hvk.up hb4) HTx.out (okV.none_iff.2 ⟨hy1, okV.nil⟩) HK1.out (by have := HL1.out; omega)
      unfold partV at hC
      obtain ⟨b0, b1, b2, b3, b4⟩ := hp_4.cells
      rw [hW4] at b0 b1 b2 b3 b4
      have HX : Hid (hs false t (.cons x k .nil) = (hs false (.cons y ky .nil) (.cons x k .nil) && hs false r (.cons x k .nil))) := by show _ = _; rw [HF.out]; exact hs_split _ _ _ _ (T1.iff.2 HTx.out)
      have hb34 := hb3.trans (hb4.mono hb3.size)
      clear hu3 hP hkl hvk HF hkf hy1 hr1
      cases hbb : hs false (.cons y ky .nil) (.cons x k .nil)
      · rw [hbb] at hC HX
        have HF2 : Hid (hs false t (.cons x k .nil) = false) := by show _ = _; rw [HX.out]; rfl
        clear HX hbb
        go_wp2_with fail
        rw [← hW4]
        refine hC.mono ?_
        rintro _ w5 ⟨rfl, hb5⟩
        go_wp2
        go_ret
        exact ⟨retb HF2.out.symm, hb34.trans (hb5.mono hb34.size)⟩
      · rw [hbb] at hC HX
        have HF2 : Hid (hs false t (.cons x k .nil) = hs false r (.cons x k .nil)) := by show _ = _; rw [HX.out]; rfl
        clear HX hbb
        go_wp2_with fail
        rw [← hW4]
        refine hC.mono ?_
        rintro _ w5 ⟨rfl, hb5⟩
        go_wp2_with fail
        go_roundw
        case rel => exact ⟨done.app (.cons y ky .nil), r, HDn, by rw [tp_app_len]; simp only [Tp.len]; go_num, HF2, HTr, hp_4.up hb5, hb34.trans (hb5.mono hb34.size)⟩
        case measure => have := HKL.out; simp [intOf]; omega
end Go.Proofs.Ytjbjheeigdblkab
