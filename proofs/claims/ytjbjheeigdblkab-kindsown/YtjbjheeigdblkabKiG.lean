/- Package kinds: hasFields, has, by walks of their own texts. -/
import Derived.Test.YtjbjheeigdblkabKiH
namespace Go.Proofs.Ytjbjheeigdblkab
open Go.RowKit
set_option linter.unusedVariables false
set_option maxRecDepth 100000

set_option maxHeartbeats 4000000 in
theorem hasFields_any (x y : Nd) (k t : Tp) (ih : ∀ z kz, kz.flat.length < t.flat.length → HasK z kz) (w : World) (v u : Value) (S : Nat → Prop) (hv : VK w k v S) (hu : VK w t u S) (hfk : Fl e0 k) (ht : okV (some e0) t) (hk1 : k.flat.length ≤ 1000) (hl1 : t.flat.length ≤ 1000) :
    Calls Try.prog 28 #[partV x v, partV y u] w fun e w' => e = .returned (.bool (hs true t k)) ∧ Below w.heap.size w w' := by
  obtain ⟨q, c, rfl, hkc, hcm⟩ := hv.slice
  obtain ⟨q2, c2, rfl, hkc2, hcm2⟩ := hu.slice
  have HV : Hid (VK w k (.slice q k.len c) S) := hv
  have HU : Hid (VK w t (.slice q2 t.len c2) S) := hu
  have HK1 : Hid (k.flat.length ≤ 1000) := hk1
  have HL1 : Hid (t.flat.length ≤ 1000) := hl1
  have HIH : Hid (∀ z kz, kz.flat.length < t.flat.length → HasK z kz) := ih
  have HFk : Hid (Fl e0 k) := hfk
  have HT0 : Hid (okV (some e0) t) := ht
  have hkb : t.len ≤ 1000 := by have := tp_len_flat t; omega
  clear hv hu hk1 hl1 ih hfk ht
  obtain ⟨W, hW⟩ : ∃ W, W = (w.alloc (.cells #[.int .i64 x.op, .int .i64 x.n, .string x.s, .string x.t, .slice q k.len c] 37)).alloc (.cells #[.int .i64 y.op, .int .i64 y.n, .string y.s, .string y.t, .slice q2 t.len c2] 37) := ⟨_, rfl⟩
  have hb0 : Below w.heap.size w W := by rw [hW]; exact kqx
  have hp_0 : PBk W w.heap.size x (.slice q k.len c) := by rw [hW]; exact (PBk.new w x _ rfl).up kqx
  unfold partV
  go_enter Try.func28, Try.ntmps28
  go_wp2
  rw [← hW]
  go_loopw [12] (fun i wr => ∃ (done todo : Tp) (m : ByteArray), Hid (done.app todo = t) ∧ i = .int .i64 (done.len : Int) ∧ Hid (hs true t k = hs true todo k) ∧ Hid (okV (some m) todo) ∧ PBk wr w.heap.size x (.slice q k.len c) ∧ Below w.heap.size w wr) (fun i _ => t.len - (intOf i).toNat)
  case atStart => exact ⟨.nil, t, e0, rfl, rfl, rfl, HT0, hp_0, hb0⟩
  case round =>
    rename World => w3
    obtain ⟨done, todo, m, HD, rfl, HF, HT, hp_3, hb3⟩ := hrel
    cases todo with
    | nil =>
      have hd : done = t := by have := HD.out; rw [tp_app_nil] at this; exact this
      subst hd
      have i1 : ¬ (done.len : Int) < (done.len : Int) := by omega
      have HF2 : Hid (hs true done k = true) := by show _ = _; rw [HF.out]; simp [hs]
      go_wp2
      go_ret
      exact ⟨retb HF2.out.symm, hb3⟩
    | cons f kf r =>
      have hv3 : VK w3 t (.slice q2 t.len c2) S := HU.out.up hb3
      have hkl : t.len = done.len + (r.len + 1) := by rw [← HD.out, tp_app_len]; rfl
      have hkf : t.flat.length = done.flat.length + (kf.flat.length + r.flat.length + 1) := by rw [← HD.out, tp_app_flat]; simp [Tp.flat] <;> omega
      have i1 : (done.len : Int) < (t.len : Int) := by omega
      rw [← HD.out] at hv3
      obtain ⟨g, cap, u, hu, hP, hyw, hvk, hSg⟩ := hv3.at
      rw [HD.out, ← hkl] at hu
      cases hu
      obtain ⟨-, ⟨hl1, hkz⟩, hFr⟩ := okV.some_iff.1 HT.out
      obtain ⟨z, kz, rfl⟩ := tp_len1 hl1
      clear hl1
      obtain ⟨gf, cf, uz, rfl, hPz, hzw, hvz⟩ := hvk.single
      obtain ⟨qz, cz, rfl, _⟩ := hvz.slice
      obtain ⟨p0, p1, p2, p3, p4⟩ := hP.cells
      have HDn : Hid ((done.app (.cons f (.cons z kz .nil) .nil)).app r = t) := by show _ = _; rw [tp_app_assoc, ← HD.out]; rfl
      have HKL : Hid (t.len = done.len + (r.len + 1)) := hkl
      obtain ⟨W4, hW4⟩ : ∃ W4, W4 = w3.alloc (.cells #[.int .i64 f.op, .int .i64 f.n, .string f.s, .string f.t, .slice (some ⟨gf, 0, none⟩) 1 cf] 37) := ⟨_, rfl⟩
      have hb4 : Below w3.heap.size w3 W4 := by rw [hW4]; exact kqx
      have hB4 : PBk W4 w3.heap.size f (.slice (some ⟨gf, 0, none⟩) 1 cf) := by rw [hW4]; exact PBk.new w3 f _ rfl
      have hp_4 := hp_3.up hb4
      have hC := field_any x k f.s W4 _ S ((HV.out.up hb3).up hb4) HK1.out
      unfold partV at hC
      obtain ⟨b0, b1, b2, b3, b4⟩ := hp_4.cells
      rw [hW4] at b0 b1 b2 b3 b4
      have HX : Hid (hs true t k = ((match k.find f.s with | some (_, kg) => hs false (.cons z kz .nil) kg | none => false) && hs true r k)) := by show _ = _; rw [HF.out]; exact hs_flds _ _ _ _
      have HVz : Hid (VK w3 kz (.slice qz kz.len cz) S) := hvz
      have HFr : Hid (okV (some f.s) r) := hFr
      have HKZ : Hid (okV none (.cons z kz .nil)) := hkz
      clear hv3 hP hkl hvk HF hvz hFr hkz
      cases hf : k.find f.s with
      | none =>
        rw [hf] at hC HX
        have HF2 : Hid (hs true t k = false) := by show _ = _; rw [HX.out]; rfl
        clear HX hf
        go_wp2_with fail
        rw [← hW4]
        refine hC.mono ?_
        rintro _ w5 ⟨rfl, hb5⟩
        obtain ⟨V6, hV6⟩ : ∃ V6, V6 = w5.alloc (.cells #[.int .i64 0, .int .i64 0, .string ⟨#[]⟩, .string ⟨#[]⟩, .slice none 0 0] 37) := ⟨_, rfl⟩
        have hb6 : Below w3.heap.size w3 V6 := by rw [hV6]; exact kqA (kqt hb4 hb5)
        have hb36 : Below w.heap.size w V6 := hb3.trans (hb6.mono hb3.size)
        go_wp2_with fail
        rw [← hV6]
        clear hV6
        refine wp_region_bel (by kernel_rfl) (by kernel_rfl) ?_
        repeat (go_big_quiet_step (fail))
        refine wpQuiet_nil ?_
        rintro _ ⟨q9, rfl⟩
        go_wp2
        go_ret
        exact ⟨retb HF2.out.symm, hb36.trans (q9.bel.mono hb36.size)⟩
      | some p =>
        obtain ⟨o, ko⟩ := p
        obtain ⟨-, -, -, -, hTo⟩ := HFk.out.find hf
        obtain ⟨z2, kz2, rfl, hTz2⟩ := hTo.of
        have hof := find_flat hf
        simp only [Tp.flat, List.append_nil, List.length_cons] at hof hkf
        rw [hf] at hC HX
        have HX2 : Hid (hs true t k = (hs false (.cons z kz .nil) (.cons z2 kz2 .nil) && hs true r k)) := HX
        have HBC := fun W (hW : Below w3.heap.size w3 W) u2 (h2 : VK W kz2 u2 S) => HIH.out z kz (by omega) z2 kz2 W u2 _ S h2 (HVz.out.up hW) hTz2 HKZ.out (by have := HK1.out; omega) (by have := HL1.out; omega)
        clear HX hf hTo hof hkf
        go_wp2_with fail
        rw [← hW4]
        refine hC.mono ?_
        rintro _ w5 ⟨⟨qo, co, rfl, how, hvo⟩, hb5⟩
        obtain ⟨go_, co2, uo, huo, hPo, hzo, hvz2⟩ := hvo.single
        cases huo
        obtain ⟨qz2, cz2, rfl, _⟩ := hvz2.slice
        obtain ⟨V6, hV6⟩ : ∃ V6, V6 = w5.alloc (.cells #[.int .i64 o.op, .int .i64 o.n, .string o.s, .string o.t, .slice (some ⟨go_, 0, none⟩) 1 co] 37) := ⟨_, rfl⟩
        have hb56 : Below w5.heap.size w5 V6 := by rw [hV6]; exact kqx
        have hb36 : Below w3.heap.size w3 V6 := kqt (kqt hb4 hb5) hb56
        have hB6 : PBk V6 w3.heap.size f (.slice (some ⟨gf, 0, none⟩) 1 cf) := (hB4.up hb5).up hb56
        have hO6 : PBk V6 w5.heap.size o (.slice (some ⟨go_, 0, none⟩) 1 co) := by rw [hV6]; exact PBk.new w5 o _ rfl
        have d4 := fun q : BW V6.heap.size V6 => (hB6.up q.bel).cells.2.2.2.2
        have o4 := fun q : BW V6.heap.size V6 => (hO6.up q.bel).cells.2.2.2.2
        have e0 := fun q : BW V6.heap.size V6 => ((hPz.up hb36).up q.bel).cells.1
        have e1 := fun q : BW V6.heap.size V6 => ((hPz.up hb36).up q.bel).cells.2.1
        have e2 := fun q : BW V6.heap.size V6 => ((hPz.up hb36).up q.bel).cells.2.2.1
        have e3 := fun q : BW V6.heap.size V6 => ((hPz.up hb36).up q.bel).cells.2.2.2.1
        have e4 := fun q : BW V6.heap.size V6 => ((hPz.up hb36).up q.bel).cells.2.2.2.2
        have f0 := fun q : BW V6.heap.size V6 => ((hPo.up hb56).up q.bel).cells.1
        have f1 := fun q : BW V6.heap.size V6 => ((hPo.up hb56).up q.bel).cells.2.1
        have f2 := fun q : BW V6.heap.size V6 => ((hPo.up hb56).up q.bel).cells.2.2.1
        have f3 := fun q : BW V6.heap.size V6 => ((hPo.up hb56).up q.bel).cells.2.2.2.1
        have f4 := fun q : BW V6.heap.size V6 => ((hPo.up hb56).up q.bel).cells.2.2.2.2
        have hC6 := fun q : BW V6.heap.size V6 => Calls.bel q (HBC q.at_ (kqt hb36 q.bel) _ ((hvz2.up hb56).up q.bel))
        dsimp only [Nat.zero_add, Nat.reduceAdd] at e0 e1 e2 e3 e4 f0 f1 f2 f3 f4
        unfold partV at hC6
        clear b0 b1 b2 b3 b4 p0 p1 p2 p3 p4 hC HBC
        have hbw6 : Below w.heap.size w V6 := hb3.trans (hb36.mono hb3.size)
        have hl1 : (Tp.cons z2 kz2 .nil).len = 1 := rfl
        cases hbb : hs false (.cons z kz .nil) (.cons z2 kz2 .nil)
        · rw [hbb] at hC6 HX2
          have HF2 : Hid (hs true t k = false) := by show _ = _; rw [HX2.out]; rfl
          clear HX2 hbb
          go_wp2_with fail
          rw [← hV6]
          clear hV6
          refine wp_region_bel (by kernel_rfl) (by kernel_rfl) ?_
          repeat (go_big_quiet_step (exact hC6 _))
          refine wpQuiet_nil ?_
          rintro _ ⟨q9, rfl⟩
          have hb7 := q9.bel
          go_wp2
          go_ret
          exact ⟨retb HF2.out.symm, hbw6.trans (hb7.mono hbw6.size)⟩
        · rw [hbb] at hC6 HX2
          have HF2 : Hid (hs true t k = hs true r k) := by show _ = _; rw [HX2.out]; rfl
          clear HX2 hbb
          go_wp2_with fail
          rw [← hV6]
          clear hV6
          refine wp_region_bel (by kernel_rfl) (by kernel_rfl) ?_
          repeat (go_big_quiet_step (exact hC6 _))
          refine wpQuiet_nil ?_
          rintro _ ⟨q9, rfl⟩
          have hb7 := q9.bel
          go_wp2_with fail
          go_roundw
          case rel => exact ⟨done.app (.cons f (.cons z kz .nil) .nil), r, f.s, HDn, by rw [tp_app_len]; simp only [Tp.len]; go_num, HF2, HFr, hp_3.up (kqt hb36 hb7), hbw6.trans (hb7.mono hbw6.size)⟩
          case measure => have := HKL.out; simp [intOf]; omega
section
variable (x y : Nd) (k l : Tp) (w : World) (v u : Value) (S : Nat → Prop) (hv : VK w k v S) (hu : VK w l u S)
include hv hu
set_option maxHeartbeats 4000000 in
theorem has_leaf (o : Int) (ho : o = 41 ∨ o = 42 ∨ o = 43 ∨ o = 48 ∨ o = 49) (hx : x = lfN o) :
    Calls Try.prog 15 #[partV x v, partV y u] w fun e w' => e = .returned (.bool (if o = 48 then true else if o = 41 then decide (y.op = 1) else if o = 42 then decide (y.op = 2) else if o = 43 then decide (y.op = 3) else false)) ∧ Below w.heap.size w w' := by
  obtain ⟨q, c, rfl, _⟩ := hv.slice
  obtain ⟨q2, c2, rfl, _⟩ := hu.slice
  clear hv hu
  have HL : Hid (∀ o1 o2, Below w.heap.size w ((w.alloc o1).alloc o2)) := fun o1 o2 => kqx
  subst hx
  obtain ⟨yo, yn, ys, yt⟩ := y
  unfold partV lfN e0
  dsimp only
  rcases ho with rfl | rfl | rfl | rfl | rfl
  · rw [if_neg (by decide), if_pos rfl]
    go_enter Try.func15, Try.ntmps15
    go_wp2
    go_ret
    exact ⟨retb (by rw [Bool.eq_iff_iff]; simp), HL.out _ _⟩
  · rw [if_neg (by decide), if_neg (by decide), if_pos rfl]
    go_enter Try.func15, Try.ntmps15
    go_wp2
    go_ret
    exact ⟨retb (by rw [Bool.eq_iff_iff]; simp), HL.out _ _⟩
  · rw [if_neg (by decide), if_neg (by decide), if_neg (by decide), if_pos rfl]
    go_enter Try.func15, Try.ntmps15
    go_wp2
    go_ret
    exact ⟨retb (by rw [Bool.eq_iff_iff]; simp), HL.out _ _⟩
  · rw [if_pos rfl]
    go_enter Try.func15, Try.ntmps15
    go_wp2
    go_ret
    exact ⟨rfl, HL.out _ _⟩
  · rw [if_neg (by decide), if_neg (by decide), if_neg (by decide), if_neg (by decide)]
    go_enter Try.func15, Try.ntmps15
    go_wp2
    go_ret
    exact ⟨rfl, HL.out _ _⟩
set_option maxHeartbeats 4000000 in
theorem has_ent (s : ByteArray) (hx : x = ⟨44, 0, s, e0⟩) :
    Calls Try.prog 15 #[partV x v, partV y u] w fun e w' => e = .returned (.bool (decide (y.op = 4 ∧ y.s = s))) ∧ Below w.heap.size w w' := by
  obtain ⟨q, c, rfl, _⟩ := hv.slice
  obtain ⟨q2, c2, rfl, _⟩ := hu.slice
  clear hv hu
  have HL : Hid (∀ o1 o2, Below w.heap.size w ((w.alloc o1).alloc o2)) := fun o1 o2 => kqx
  subst hx
  obtain ⟨yo, yn, ys, yt⟩ := y
  unfold partV e0
  dsimp only
  by_cases h : ys = s
  · subst h
    by_cases h4 : yo = 4
    · subst h4
      have HR : Hid (decide ((4 : Int) = 4 ∧ ys = ys) = true) := decide_eq_true ⟨rfl, rfl⟩
      rw [HR.out]
      go_enter Try.func15, Try.ntmps15
      go_wp2
      go_ret
      exact ⟨rfl, HL.out _ _⟩
    · have HR : Hid (decide (yo = 4 ∧ ys = ys) = false) := decide_eq_false (fun e => h4 e.1)
      rw [HR.out]
      have e1 : (yo == 4) = false := by rw [beq_eq_false_iff_ne]; omega
      clear h4
      go_enter Try.func15, Try.ntmps15
      go_wp2
      go_ret
      exact ⟨rfl, HL.out _ _⟩
  · have HR : Hid (decide (yo = 4 ∧ ys = s) = false) := decide_eq_false (fun e => h e.2)
    rw [HR.out]
    have h3 : (ys.toList == s.toList) = false := by rw [beq_eq_false_iff_ne]; exact fun e => h (bytes_inj (by simpa only [ByteArray.toList_eq] using e))
    clear h
    by_cases h4 : yo = 4
    · subst h4
      go_enter Try.func15, Try.ntmps15
      go_wp2
      go_ret
      exact ⟨rfl, HL.out _ _⟩
    · have e1 : (yo == 4) = false := by rw [beq_eq_false_iff_ne]; omega
      clear h4
      go_enter Try.func15, Try.ntmps15
      go_wp2
      go_ret
      exact ⟨rfl, HL.out _ _⟩
end
end Go.Proofs.Ytjbjheeigdblkab
