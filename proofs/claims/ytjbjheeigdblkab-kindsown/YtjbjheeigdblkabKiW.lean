/- Package kinds: below, fieldsBelow, by walks of their own texts. -/
import Derived.Test.YtjbjheeigdblkabKiV
namespace Go.Proofs.Ytjbjheeigdblkab
open Go.RowKit
set_option linter.unusedVariables false
set_option maxRecDepth 100000

/-- What below does. -/
def BelowK (x : Nd) (k : Tp) : Prop := ∀ (y : Nd) (l : Tp) (w : World) (v u : Value) (S : Nat → Prop), VK w k v S → VK w l u S → TyC x k → TyC y l → k.flat.length ≤ 1000 → l.flat.length ≤ 1000 →
  Calls Try.prog 17 #[partV x v, partV y u] w fun e w' => e = .returned (.bool (blw false (.cons x k .nil) (.cons y l .nil))) ∧ Below w.heap.size w w'
theorem find_flat {s : ByteArray} : ∀ {t : Tp} {f : Nd} {kf : Tp}, t.find s = some (f, kf) → kf.flat.length < t.flat.length := fun h => by
  have := find_sz h
  rw [tp_sz_flat, tp_sz_flat] at this
  exact this
set_option maxHeartbeats 4000000 in
theorem fieldsBelow_any (x y : Nd) (k l : Tp) (ih : ∀ z kz, kz.flat.length < k.flat.length → BelowK z kz) (w : World) (v u : Value) (S : Nat → Prop) (hv : VK w k v S) (hu : VK w l u S) (hfk : Fl e0 k) (hfl : Fl e0 l) (hk1 : k.flat.length ≤ 1000) (hl1 : l.flat.length ≤ 1000) :
    Calls Try.prog 30 #[partV x v, partV y u] w fun e w' => e = .returned (.bool (blw true k l)) ∧ Below w.heap.size w w' := by
  obtain ⟨q, c, rfl, hkc, hcm⟩ := hv.slice
  obtain ⟨q2, c2, rfl, hkc2, hcm2⟩ := hu.slice
  have HV : Hid (VK w k (.slice q k.len c) S) := hv
  have HU : Hid (VK w l (.slice q2 l.len c2) S) := hu
  have HK1 : Hid (k.flat.length ≤ 1000) := hk1
  have HL1 : Hid (l.flat.length ≤ 1000) := hl1
  have HIH : Hid (∀ z kz, kz.flat.length < k.flat.length → BelowK z kz) := ih
  have HFl : Hid (Fl e0 l) := hfl
  have hkb : k.len ≤ 1000 := by have := tp_len_flat k; omega
  have HFk : Hid (Fl e0 k) := hfk
  clear hv hu hk1 hl1 ih hfk hfl
  obtain ⟨W, hW⟩ : ∃ W, W = (w.alloc (.cells #[.int .i64 x.op, .int .i64 x.n, .string x.s, .string x.t, .slice q k.len c] 37)).alloc (.cells #[.int .i64 y.op, .int .i64 y.n, .string y.s, .string y.t, .slice q2 l.len c2] 37) := ⟨_, rfl⟩
  have hb0 : Below w.heap.size w W := by rw [hW]; exact kqx
  have hp_0 : PBk W (w.heap.size + 1) y (.slice q2 l.len c2) := by rw [hW]; exact PBk.new _ y _ (by simp)
  unfold partV
  go_enter Try.func30, Try.ntmps30
  go_wp2
  rw [← hW]
  go_loopw [12] (fun i wr => ∃ (done todo : Tp) (m : ByteArray), Hid (done.app todo = k) ∧ i = .int .i64 (done.len : Int) ∧ Hid (blw true k l = blw true todo l) ∧ Hid (Fl m todo) ∧ PBk wr (w.heap.size + 1) y (.slice q2 l.len c2) ∧ Below w.heap.size w wr) (fun i _ => k.len - (intOf i).toNat)
  case atStart => exact ⟨.nil, k, e0, rfl, rfl, rfl, HFk, hp_0, hb0⟩
  case round =>
    rename World => w3
    obtain ⟨done, todo, m, HD, rfl, HF, HT, hp_3, hb3⟩ := hrel
    cases todo with
    | nil =>
      have hd : done = k := by have := HD.out; rw [tp_app_nil] at this; exact this
      subst hd
      have i1 : ¬ (done.len : Int) < (done.len : Int) := by omega
      have HF2 : Hid (blw true done l = true) := by show _ = _; rw [HF.out]; simp [blw]
      go_wp2
      go_ret
      exact ⟨retb HF2.out.symm, hb3⟩
    | cons f kf r =>
      have hv3 : VK w3 k (.slice q k.len c) S := HV.out.up hb3
      have hkl : k.len = done.len + (r.len + 1) := by rw [← HD.out, tp_app_len]; rfl
      have hkf : k.flat.length = done.flat.length + (kf.flat.length + r.flat.length + 1) := by rw [← HD.out, tp_app_flat]; simp [Tp.flat] <;> omega
      have i1 : (done.len : Int) < (k.len : Int) := by omega
      rw [← HD.out] at hv3
      obtain ⟨g, cap, u, hu, hP, hyw, hvk, hSg⟩ := hv3.at
      rw [HD.out, ← hkl] at hu
      cases hu
      obtain ⟨-, hT1, hFr⟩ := Fl.cons_iff.1 HT.out
      obtain ⟨z, kz, rfl, hTz⟩ := hT1.of
      obtain ⟨gf, cf, uz, rfl, hPz, hzw, hvz⟩ := hvk.single
      obtain ⟨qz, cz, rfl, _⟩ := hvz.slice
      obtain ⟨p0, p1, p2, p3, p4⟩ := hP.cells
      have HDn : Hid ((done.app (.cons f (.cons z kz .nil) .nil)).app r = k) := by show _ = _; rw [tp_app_assoc, ← HD.out]; rfl
      have HKL : Hid (k.len = done.len + (r.len + 1)) := hkl
      obtain ⟨W4, hW4⟩ : ∃ W4, W4 = w3.alloc (.cells #[.int .i64 f.op, .int .i64 f.n, .string f.s, .string f.t, .slice (some ⟨gf, 0, none⟩) 1 cf] 37) := ⟨_, rfl⟩
      have hb4 : Below w3.heap.size w3 W4 := by rw [hW4]; exact kqx
      have hB4 : PBk W4 w3.heap.size f (.slice (some ⟨gf, 0, none⟩) 1 cf) := by rw [hW4]; exact PBk.new w3 f _ rfl
      have hp_4 := hp_3.up hb4
      have hC := field_any y l f.s W4 _ S ((HU.out.up hb3).up hb4) HL1.out
      unfold partV at hC
      obtain ⟨b0, b1, b2, b3, b4⟩ := hp_4.cells
      rw [hW4] at b0 b1 b2 b3 b4
      have HX : Hid (blw true k l = ((match l.find f.s with | some (_, kg) => blw false (.cons z kz .nil) kg | none => false) && blw true r l)) := by show _ = _; rw [HF.out]; exact blw_flds _ _ _ _
      have HVz : Hid (VK w3 kz (.slice qz kz.len cz) S) := hvz
      have HFr : Hid (Fl f.s r) := hFr
      clear hv3 hP hkl hvk HF hvz hFr hT1
      cases hf : l.find f.s with
      | none =>
        rw [hf] at hC HX
        have HF2 : Hid (blw true k l = false) := by show _ = _; rw [HX.out]; rfl
        clear HX hf
        go_wp2_with fail
        rw [← hW4]
        refine hC.mono ?_
        rintro _ w5 ⟨rfl, hb5⟩
        obtain ⟨V6, hV6⟩ : ∃ V6, V6 = w5.alloc (.cells #[.int .i64 0, .int .i64 0, .string ⟨#[]⟩, .string ⟨#[]⟩, .slice none 0 0] 37) := ⟨_, rfl⟩
        have hb6 : Below w3.heap.size w3 V6 := by rw [hV6]; exact kqA (kqt hb4 hb5)
        have hb36 : Below w.heap.size w V6 := hb3.trans (hb6.mono hb3.size)
        go_wp2_with fail
        rw [← hV6]
        clear hV6
        refine wp_region_bel (by kernel_rfl) (by kernel_rfl) ?_
        repeat (go_big_quiet_step (fail))
        refine wpQuiet_nil ?_
        rintro _ ⟨q9, rfl⟩
        go_wp2
        go_ret
        exact ⟨retb HF2.out.symm, hb36.trans (q9.bel.mono hb36.size)⟩
      | some p =>
        obtain ⟨o, ko⟩ := p
        obtain ⟨-, -, -, -, hTo⟩ := HFl.out.find hf
        obtain ⟨z2, kz2, rfl, hTz2⟩ := hTo.of
        have hof := find_flat hf
        simp only [Tp.flat, List.append_nil, List.length_cons] at hof hkf
        rw [hf] at hC HX
        have HX2 : Hid (blw true k l = (blw false (.cons z kz .nil) (.cons z2 kz2 .nil) && blw true r l)) := HX
        have HBC := fun W (hW : Below w3.heap.size w3 W) u2 (h2 : VK W kz2 u2 S) => HIH.out z kz (by omega) z2 kz2 W _ u2 S (HVz.out.up hW) h2 hTz hTz2 (by have := HK1.out; omega) (by have := HL1.out; omega)
        clear HX hf hTo hof hkf
        go_wp2_with fail
        rw [← hW4]
        refine hC.mono ?_
        rintro _ w5 ⟨⟨qo, co, rfl, how, hvo⟩, hb5⟩
        obtain ⟨go_, co2, uo, huo, hPo, hzo, hvz2⟩ := hvo.single
        cases huo
        obtain ⟨qz2, cz2, rfl, _⟩ := hvz2.slice
        obtain ⟨V6, hV6⟩ : ∃ V6, V6 = w5.alloc (.cells #[.int .i64 o.op, .int .i64 o.n, .string o.s, .string o.t, .slice (some ⟨go_, 0, none⟩) 1 co] 37) := ⟨_, rfl⟩
        have hb56 : Below w5.heap.size w5 V6 := by rw [hV6]; exact kqx
        have hb36 : Below w3.heap.size w3 V6 := kqt (kqt hb4 hb5) hb56
        have hB6 : PBk V6 w3.heap.size f (.slice (some ⟨gf, 0, none⟩) 1 cf) := (hB4.up hb5).up hb56
        have hO6 : PBk V6 w5.heap.size o (.slice (some ⟨go_, 0, none⟩) 1 co) := by rw [hV6]; exact PBk.new w5 o _ rfl
        have d4 := fun q : BW V6.heap.size V6 => (hB6.up q.bel).cells.2.2.2.2
        have o4 := fun q : BW V6.heap.size V6 => (hO6.up q.bel).cells.2.2.2.2
        have e0 := fun q : BW V6.heap.size V6 => ((hPz.up hb36).up q.bel).cells.1
        have e1 := fun q : BW V6.heap.size V6 => ((hPz.up hb36).up q.bel).cells.2.1
        have e2 := fun q : BW V6.heap.size V6 => ((hPz.up hb36).up q.bel).cells.2.2.1
        have e3 := fun q : BW V6.heap.size V6 => ((hPz.up hb36).up q.bel).cells.2.2.2.1
        have e4 := fun q : BW V6.heap.size V6 => ((hPz.up hb36).up q.bel).cells.2.2.2.2
        have f0 := fun q : BW V6.heap.size V6 => ((hPo.up hb56).up q.bel).cells.1
        have f1 := fun q : BW V6.heap.size V6 => ((hPo.up hb56).up q.bel).cells.2.1
        have f2 := fun q : BW V6.heap.size V6 => ((hPo.up hb56).up q.bel).cells.2.2.1
        have f3 := fun q : BW V6.heap.size V6 => ((hPo.up hb56).up q.bel).cells.2.2.2.1
        have f4 := fun q : BW V6.heap.size V6 => ((hPo.up hb56).up q.bel).cells.2.2.2.2
        have hC6 := fun q : BW V6.heap.size V6 => Calls.bel q (HBC q.at_ (kqt hb36 q.bel) _ ((hvz2.up hb56).up q.bel))
        dsimp only [Nat.zero_add, Nat.reduceAdd] at e0 e1 e2 e3 e4 f0 f1 f2 f3 f4
        unfold partV at hC6
        clear b0 b1 b2 b3 b4 p0 p1 p2 p3 p4 hC HBC
        have hbw6 : Below w.heap.size w V6 := hb3.trans (hb36.mono hb3.size)
        have hl1 : (Tp.cons z2 kz2 .nil).len = 1 := rfl
        cases hbb : blw false (.cons z kz .nil) (.cons z2 kz2 .nil)
        · rw [hbb] at hC6 HX2
          have HF2 : Hid (blw true k l = false) := by show _ = _; rw [HX2.out]; rfl
          clear HX2 hbb
          go_wp2_with fail
          rw [← hV6]
          clear hV6
          refine wp_region_bel (by kernel_rfl) (by kernel_rfl) ?_
          repeat (go_big_quiet_step (exact hC6 _))
          refine wpQuiet_nil ?_
          rintro _ ⟨q9, rfl⟩
          have hb7 := q9.bel
          go_wp2
          go_ret
          exact ⟨retb HF2.out.symm, hbw6.trans (hb7.mono hbw6.size)⟩
        · rw [hbb] at hC6 HX2
          have HF2 : Hid (blw true k l = blw true r l) := by show _ = _; rw [HX2.out]; rfl
          clear HX2 hbb
          go_wp2_with fail
          rw [← hV6]
          clear hV6
          refine wp_region_bel (by kernel_rfl) (by kernel_rfl) ?_
          repeat (go_big_quiet_step (exact hC6 _))
          refine wpQuiet_nil ?_
          rintro _ ⟨q9, rfl⟩
          have hb7 := q9.bel
          go_wp2_with fail
          go_roundw
          case rel => exact ⟨done.app (.cons f (.cons z kz .nil) .nil), r, f.s, HDn, by rw [tp_app_len]; simp only [Tp.len]; go_num, HF2, HFr, hp_3.up (kqt hb36 hb7), hbw6.trans (hb7.mono hbw6.size)⟩
          case measure => have := HKL.out; simp [intOf]; omega
end Go.Proofs.Ytjbjheeigdblkab
