/- Fields of a type have less nodes. (Parted out of KiW.) Package kinds: below, fieldsBelow, by walks of their own texts. Package kinds: below, by walks of its own text. Package kinds: readBoth, Check, Below, by walks of their own texts. The statements on kinds: arguments; Below of them. -/
import Derived.Test.YtckjndiepojgfaaDoorG12
import Derived.Test.YtckjndiepojgfaaDoorG3
import Derived.Test.YtckjndiepojgfaaDoorG10
import Derived.Test.YtckjndiepojgfaaDoorG13
import Derived.Test.YtckjndiepojgfaaDoorG4
namespace Go.Proofs.YtckjndiepojgfaaDoor
open Go.RowKit
set_option linter.unusedVariables false
set_option maxRecDepth 100000

theorem find_flat {s : ByteArray} : ∀ {t : Tp} {f : Nd} {kf : Tp}, t.find s = some (f, kf) → kf.flat.length < t.flat.length := fun h => by
  have := find_sz h
  rw [tp_sz_flat, tp_sz_flat] at this
  exact this
end Go.Proofs.YtckjndiepojgfaaDoor
namespace Go.Proofs.YtckjndiepojgfaaDoor
open Go.RowKit
set_option linter.unusedVariables false
set_option maxRecDepth 100000

/-- What below does. -/
def BelowK (x : Nd) (k : Tp) : Prop := ∀ (y : Nd) (l : Tp) (w : World) (v u : Value) (S : Nat → Prop), VK w k v S → VK w l u S → TyC x k → TyC y l → k.flat.length ≤ 1000 → l.flat.length ≤ 1000 →
  Calls Tryd.prog 16 #[partV x v, partV y u] w fun e w' => e = .returned (.bool (blw false (.cons x k .nil) (.cons y l .nil))) ∧ Below w.heap.size w w'
set_option maxHeartbeats 4000000 in
theorem fieldsBelow_any (x y : Nd) (k l : Tp) (ih : ∀ z kz, kz.flat.length < k.flat.length → BelowK z kz) (w : World) (v u : Value) (S : Nat → Prop) (hv : VK w k v S) (hu : VK w l u S) (hfk : Fl e0 k) (hfl : Fl e0 l) (hk1 : k.flat.length ≤ 1000) (hl1 : l.flat.length ≤ 1000) :
    Calls Tryd.prog 24 #[partV x v, partV y u] w fun e w' => e = .returned (.bool (blw true k l)) ∧ Below w.heap.size w w' := by
  obtain ⟨q, c, rfl, hkc, hcm⟩ := hv.slice
  obtain ⟨q2, c2, rfl, hkc2, hcm2⟩ := hu.slice
  have HV : Hid (VK w k (.slice q k.len c) S) := hv
  have HU : Hid (VK w l (.slice q2 l.len c2) S) := hu
  have HK1 : Hid (k.flat.length ≤ 1000) := hk1
  have HL1 : Hid (l.flat.length ≤ 1000) := hl1
  have HIH : Hid (∀ z kz, kz.flat.length < k.flat.length → BelowK z kz) := ih
  have HFl : Hid (Fl e0 l) := hfl
  have hkb : k.len ≤ 1000 := by have := tp_len_flat k; omega
  have HFk : Hid (Fl e0 k) := hfk
  clear hv hu hk1 hl1 ih hfk hfl
  obtain ⟨W, hW⟩ : ∃ W, W = (w.alloc (.cells #[.int .i64 x.op, .int .i64 x.n, .string x.s, .string x.t, .slice q k.len c] 43)).alloc (.cells #[.int .i64 y.op, .int .i64 y.n, .string y.s, .string y.t, .slice q2 l.len c2] 43) := ⟨_, rfl⟩
  have hb0 : Below w.heap.size w W := by rw [hW]; exact kqx
  have hp_0 : PBk W (w.heap.size + 1) y (.slice q2 l.len c2) := by rw [hW]; exact PBk.new _ y _ (by simp)
  unfold partV
  go_enter Tryd.func24, Tryd.ntmps24
  go_wp2
  rw [← hW]
  go_loopw [12] (fun i wr => ∃ (done todo : Tp) (m : ByteArray), Hid (done.app todo = k) ∧ i = .int .i64 (done.len : Int) ∧ Hid (blw true k l = blw true todo l) ∧ Hid (Fl m todo) ∧ PBk wr (w.heap.size + 1) y (.slice q2 l.len c2) ∧ Below w.heap.size w wr) (fun i _ => k.len - (intOf i).toNat)
  case atStart => exact ⟨.nil, k, e0, rfl, rfl, rfl, HFk, hp_0, hb0⟩
  case round =>
    rename World => w3
    obtain ⟨done, todo, m, HD, rfl, HF, HT, hp_3, hb3⟩ := hrel
    cases todo with
    | nil =>
      have hd : done = k := by have := HD.out; rw [tp_app_nil] at this; exact this
      subst hd
      have i1 : ¬ (done.len : Int) < (done.len : Int) := by omega
      have HF2 : Hid (blw true done l = true) := by show _ = _; rw [HF.out]; simp [blw]
      go_wp2
      go_ret
      exact ⟨retb HF2.out.symm, hb3⟩
    | cons f kf r =>
      have hv3 : VK w3 k (.slice q k.len c) S := HV.out.up hb3
      have hkl : k.len = done.len + (r.len + 1) := by rw [← HD.out, tp_app_len]; rfl
      have hkf : k.flat.length = done.flat.length + (kf.flat.length + r.flat.length + 1) := by rw [← HD.out, tp_app_flat]; simp [Tp.flat] <;> omega
      have i1 : (done.len : Int) < (k.len : Int) := by omega
      rw [← HD.out] at hv3
      obtain ⟨g, cap, u, hu, hP, hyw, hvk, hSg⟩ := hv3.at
      rw [HD.out, ← hkl] at hu
      cases hu
      obtain ⟨-, hT1, hFr⟩ := Fl.cons_iff.1 HT.out
      obtain ⟨z, kz, rfl, hTz⟩ := hT1.of
      obtain ⟨gf, cf, uz, rfl, hPz, hzw, hvz⟩ := hvk.single
      obtain ⟨qz, cz, rfl, _⟩ := hvz.slice
      obtain ⟨p0, p1, p2, p3, p4⟩ := hP.cells
      have HDn : Hid ((done.app (.cons f (.cons z kz .nil) .nil)).app r = k) := by show _ = _; rw [tp_app_assoc, ← HD.out]; rfl
      have HKL : Hid (k.len = done.len + (r.len + 1)) := hkl
      obtain ⟨W4, hW4⟩ : ∃ W4, W4 = w3.alloc (.cells #[.int .i64 f.op, .int .i64 f.n, .string f.s, .string f.t, .slice (some ⟨gf, 0, none⟩) 1 cf] 43) := ⟨_, rfl⟩
      have hb4 : Below w3.heap.size w3 W4 := by rw [hW4]; exact kqx
      have hB4 : PBk W4 w3.heap.size f (.slice (some ⟨gf, 0, none⟩) 1 cf) := by rw [hW4]; exact PBk.new w3 f _ rfl
      have hp_4 := hp_3.up hb4
      have hC := field_any y l f.s W4 _ S ((HU.out.up hb3).up hb4) HL1.out
      unfold partV at hC
      obtain ⟨b0, b1, b2, b3, b4⟩ := hp_4.cells
      rw [hW4] at b0 b1 b2 b3 b4
      have HX : Hid (blw true k l = ((match l.find f.s with | some (_, kg) => blw false (.cons z kz .nil) kg | none => false) && blw true r l)) := by show _ = _; rw [HF.out]; exact blw_flds _ _ _ _
      have HVz : Hid (VK w3 kz (.slice qz kz.len cz) S) := hvz
      have HFr : Hid (Fl f.s r) := hFr
      clear hv3 hP hkl hvk HF hvz hFr hT1
      cases hf : l.find f.s with
      | none =>
        rw [hf] at hC HX
        have HF2 : Hid (blw true k l = false) := by show _ = _; rw [HX.out]; rfl
        clear HX hf
        go_wp2_with fail
        rw [← hW4]
        refine hC.mono ?_
        rintro _ w5 ⟨rfl, hb5⟩
        obtain ⟨V6, hV6⟩ : ∃ V6, V6 = w5.alloc (.cells #[.int .i64 0, .int .i64 0, .string ⟨#[]⟩, .string ⟨#[]⟩, .slice none 0 0] 43) := ⟨_, rfl⟩
        have hb6 : Below w3.heap.size w3 V6 := by rw [hV6]; exact kqA (kqt hb4 hb5)
        have hb36 : Below w.heap.size w V6 := hb3.trans (hb6.mono hb3.size)
        go_wp2_with fail
        rw [← hV6]
        clear hV6
        refine wp_region_bel (by kernel_rfl) (by kernel_rfl) ?_
        repeat (go_big_quiet_step (fail))
        refine wpQuiet_nil ?_
        rintro _ ⟨q9, rfl⟩
        go_wp2
        go_ret
        exact ⟨retb HF2.out.symm, hb36.trans (q9.bel.mono hb36.size)⟩
      | some p =>
        obtain ⟨o, ko⟩ := p
        obtain ⟨-, -, -, -, hTo⟩ := HFl.out.find hf
        obtain ⟨z2, kz2, rfl, hTz2⟩ := hTo.of
        have hof := find_flat hf
        simp only [Tp.flat, List.append_nil, List.length_cons] at hof hkf
        rw [hf] at hC HX
        have HX2 : Hid (blw true k l = (blw false (.cons z kz .nil) (.cons z2 kz2 .nil) && blw true r l)) := HX
        have HBC := fun W (hW : Below w3.heap.size w3 W) u2 (h2 : VK W kz2 u2 S) => HIH.out z kz (by omega) z2 kz2 W _ u2 S (HVz.out.up hW) h2 hTz hTz2 (by have := HK1.out; omega) (by have := HL1.out; omega)
        clear HX hf hTo hof hkf
        go_wp2_with fail
        rw [← hW4]
        refine hC.mono ?_
        rintro _ w5 ⟨⟨qo, co, rfl, how, hvo⟩, hb5⟩
        obtain ⟨go_, co2, uo, huo, hPo, hzo, hvz2⟩ := hvo.single
        cases huo
        obtain ⟨qz2, cz2, rfl, _⟩ := hvz2.slice
        obtain ⟨V6, hV6⟩ : ∃ V6, V6 = w5.alloc (.cells #[.int .i64 o.op, .int .i64 o.n, .string o.s, .string o.t, .slice (some ⟨go_, 0, none⟩) 1 co] 43) := ⟨_, rfl⟩
        have hb56 : Below w5.heap.size w5 V6 := by rw [hV6]; exact kqx
        have hb36 : Below w3.heap.size w3 V6 := kqt (kqt hb4 hb5) hb56
        have hB6 : PBk V6 w3.heap.size f (.slice (some ⟨gf, 0, none⟩) 1 cf) := (hB4.up hb5).up hb56
        have hO6 : PBk V6 w5.heap.size o (.slice (some ⟨go_, 0, none⟩) 1 co) := by rw [hV6]; exact PBk.new w5 o _ rfl
        have d4 := fun q : BW V6.heap.size V6 => (hB6.up q.bel).cells.2.2.2.2
        have o4 := fun q : BW V6.heap.size V6 => (hO6.up q.bel).cells.2.2.2.2
        have e0 := fun q : BW V6.heap.size V6 => ((hPz.up hb36).up q.bel).cells.1
        have e1 := fun q : BW V6.heap.size V6 => ((hPz.up hb36).up q.bel).cells.2.1
        have e2 := fun q : BW V6.heap.size V6 => ((hPz.up hb36).up q.bel).cells.2.2.1
        have e3 := fun q : BW V6.heap.size V6 => ((hPz.up hb36).up q.bel).cells.2.2.2.1
        have e4 := fun q : BW V6.heap.size V6 => ((hPz.up hb36).up q.bel).cells.2.2.2.2
        have f0 := fun q : BW V6.heap.size V6 => ((hPo.up hb56).up q.bel).cells.1
        have f1 := fun q : BW V6.heap.size V6 => ((hPo.up hb56).up q.bel).cells.2.1
        have f2 := fun q : BW V6.heap.size V6 => ((hPo.up hb56).up q.bel).cells.2.2.1
        have f3 := fun q : BW V6.heap.size V6 => ((hPo.up hb56).up q.bel).cells.2.2.2.1
        have f4 := fun q : BW V6.heap.size V6 => ((hPo.up hb56).up q.bel).cells.2.2.2.2
        have hC6 := fun q : BW V6.heap.size V6 => Calls.bel q (HBC q.at_ (kqt hb36 q.bel) _ ((hvz2.up hb56).up q.bel))
        dsimp only [Nat.zero_add, Nat.reduceAdd] at e0 e1 e2 e3 e4 f0 f1 f2 f3 f4
        unfold partV at hC6
        clear b0 b1 b2 b3 b4 p0 p1 p2 p3 p4 hC HBC
        have hbw6 : Below w.heap.size w V6 := hb3.trans (hb36.mono hb3.size)
        have hl1 : (Tp.cons z2 kz2 .nil).len = 1 := rfl
        cases hbb : blw false (.cons z kz .nil) (.cons z2 kz2 .nil)
        · rw [hbb] at hC6 HX2
          have HF2 : Hid (blw true k l = false) := by show _ = _; rw [HX2.out]; rfl
          clear HX2 hbb
          go_wp2_with fail
          rw [← hV6]
          clear hV6
          refine wp_region_bel (by kernel_rfl) (by kernel_rfl) ?_
          repeat (go_big_quiet_step (exact hC6 _))
          refine wpQuiet_nil ?_
          rintro _ ⟨q9, rfl⟩
          have hb7 := q9.bel
          go_wp2
          go_ret
          exact ⟨retb HF2.out.symm, hbw6.trans (hb7.mono hbw6.size)⟩
        · rw [hbb] at hC6 HX2
          have HF2 : Hid (blw true k l = blw true r l) := by show _ = _; rw [HX2.out]; rfl
          clear HX2 hbb
          go_wp2_with fail
          rw [← hV6]
          clear hV6
          refine wp_region_bel (by kernel_rfl) (by kernel_rfl) ?_
          repeat (go_big_quiet_step (exact hC6 _))
          refine wpQuiet_nil ?_
          rintro _ ⟨q9, rfl⟩
          have hb7 := q9.bel
          go_wp2_with fail
          go_roundw
          case rel => exact ⟨done.app (.cons f (.cons z kz .nil) .nil), r, f.s, HDn, by rw [tp_app_len]; simp only [Tp.len]; go_num, HF2, HFr, hp_3.up (kqt hb36 hb7), hbw6.trans (hb7.mono hbw6.size)⟩
          case measure => have := HKL.out; simp [intOf]; omega
end Go.Proofs.YtckjndiepojgfaaDoor
namespace Go.Proofs.YtckjndiepojgfaaDoor
open Go.RowKit
set_option linter.unusedVariables false
set_option maxRecDepth 100000

section
variable (x y : Nd) (k l : Tp) (w : World) (v u : Value) (S : Nat → Prop) (hv : VK w k v S) (hu : VK w l u S)
include hv hu
set_option maxHeartbeats 4000000 in
theorem below_yes (h : x.op = 49 ∨ x.op ≠ 49 ∧ y.op = 48) :
    Calls Tryd.prog 16 #[partV x v, partV y u] w fun e w' => e = .returned (.bool true) ∧ Below w.heap.size w w' := by
  obtain ⟨q, c, rfl, _⟩ := hv.slice
  obtain ⟨q2, c2, rfl, _⟩ := hu.slice
  clear hv hu
  have HL : Hid (∀ o1 o2, Below w.heap.size w ((w.alloc o1).alloc o2)) := fun o1 o2 => kqx
  obtain ⟨xo, xn, xs, xt⟩ := x
  obtain ⟨yo, yn, ys, yt⟩ := y
  dsimp only at h
  unfold partV
  dsimp only
  rcases h with rfl | ⟨h1, rfl⟩
  · go_enter Tryd.func16, Tryd.ntmps16
    go_wp2
    go_ret
    exact ⟨rfl, HL.out _ _⟩
  · have e1 : (xo == 49) = false := by rw [beq_eq_false_iff_ne]; omega
    clear h1
    go_enter Tryd.func16, Tryd.ntmps16
    go_wp2
    go_ret
    exact ⟨rfl, HL.out _ _⟩
set_option maxHeartbeats 4000000 in
theorem below_diff (h1 : x.op ≠ 49) (h2 : y.op ≠ 48) (h3 : x.op ≠ y.op) :
    Calls Tryd.prog 16 #[partV x v, partV y u] w fun e w' => e = .returned (.bool false) ∧ Below w.heap.size w w' := by
  obtain ⟨q, c, rfl, _⟩ := hv.slice
  obtain ⟨q2, c2, rfl, _⟩ := hu.slice
  clear hv hu
  have HL : Hid (∀ o1 o2, Below w.heap.size w ((w.alloc o1).alloc o2)) := fun o1 o2 => kqx
  obtain ⟨xo, xn, xs, xt⟩ := x
  obtain ⟨yo, yn, ys, yt⟩ := y
  dsimp only at h1 h2 h3
  unfold partV
  dsimp only
  have e1 : (xo == 49) = false := by rw [beq_eq_false_iff_ne]; omega
  have e2 : (yo == 48) = false := by rw [beq_eq_false_iff_ne]; omega
  have e3 : (xo != yo) = true := by simp [h3]
  clear h1 h2 h3
  go_enter Tryd.func16, Tryd.ntmps16
  go_wp2
  go_ret
  exact ⟨rfl, HL.out _ _⟩
set_option maxHeartbeats 4000000 in
theorem below_leaf (o : Int) (ho : o = 41 ∨ o = 42 ∨ o = 43) (hx : x = lfN o) (hy : y = lfN o) :
    Calls Tryd.prog 16 #[partV x v, partV y u] w fun e w' => e = .returned (.bool true) ∧ Below w.heap.size w w' := by
  obtain ⟨q, c, rfl, _⟩ := hv.slice
  obtain ⟨q2, c2, rfl, _⟩ := hu.slice
  clear hv hu
  have HL : Hid (∀ o1 o2, Below w.heap.size w ((w.alloc o1).alloc o2)) := fun o1 o2 => kqx
  subst hx hy
  unfold partV lfN e0
  dsimp only
  rcases ho with rfl | rfl | rfl
  all_goals
    go_enter Tryd.func16, Tryd.ntmps16
    go_wp2
    go_ret
    exact ⟨rfl, HL.out _ _⟩
set_option maxHeartbeats 4000000 in
theorem below_ent (s t : ByteArray) (hx : x = ⟨44, 0, s, e0⟩) (hy : y = ⟨44, 0, t, e0⟩) :
    Calls Tryd.prog 16 #[partV x v, partV y u] w fun e w' => e = .returned (.bool (decide (s = t))) ∧ Below w.heap.size w w' := by
  obtain ⟨q, c, rfl, _⟩ := hv.slice
  obtain ⟨q2, c2, rfl, _⟩ := hu.slice
  clear hv hu
  have HL : Hid (∀ o1 o2, Below w.heap.size w ((w.alloc o1).alloc o2)) := fun o1 o2 => kqx
  subst hx hy
  unfold partV e0
  dsimp only
  by_cases h : s = t
  · subst h
    have HR : Hid (decide (s = s) = true) := decide_eq_true rfl
    rw [HR.out]
    go_enter Tryd.func16, Tryd.ntmps16
    go_wp2
    go_ret
    exact ⟨rfl, HL.out _ _⟩
  · have HR : Hid (decide (s = t) = false) := decide_eq_false h
    rw [HR.out]
    have h3 : ¬ s.toList = t.toList := fun e => h (bytes_inj (by simpa only [ByteArray.toList_eq] using e))
    clear h
    go_enter Tryd.func16, Tryd.ntmps16
    go_wp2
    go_ret
    exact ⟨rfl, HL.out _ _⟩
set_option maxHeartbeats 4000000 in
theorem below_set (ih : ∀ z kz, kz.flat.length < k.flat.length → BelowK z kz) (hx : x = lfN 45) (hy : y = lfN 45) (hk : T1 k) (hl : T1 l) (hk1 : k.flat.length ≤ 1000) (hl1 : l.flat.length ≤ 1000) :
    Calls Tryd.prog 16 #[partV x v, partV y u] w fun e w' => e = .returned (.bool (blw false k l)) ∧ Below w.heap.size w w' := by
  obtain ⟨z, kz, rfl, hz⟩ := hk.of
  obtain ⟨z2, kz2, rfl, hz2⟩ := hl.of
  obtain ⟨g, cap, uz, rfl, hP, hzw, hvz⟩ := hv.single
  obtain ⟨g2, cap2, uz2, rfl, hP2, hzw2, hvz2⟩ := hu.single
  obtain ⟨qz, cz, rfl, _⟩ := hvz.slice
  obtain ⟨qz2, cz2, rfl, _⟩ := hvz2.slice
  simp only [Tp.flat, List.append_nil, List.length_cons] at ih hk1 hl1
  subst hx hy
  obtain ⟨V6, hV6⟩ : ∃ V6, V6 = (w.alloc (.cells #[.int .i64 45, .int .i64 0, .string ⟨#[]⟩, .string ⟨#[]⟩, .slice (some ⟨g, 0, none⟩) 1 cap] 43)).alloc (.cells #[.int .i64 45, .int .i64 0, .string ⟨#[]⟩, .string ⟨#[]⟩, .slice (some ⟨g2, 0, none⟩) 1 cap2] 43) := ⟨_, rfl⟩
  have hb6 : Below w.heap.size w V6 := by rw [hV6]; exact kqx
  have hB6 : PBk V6 w.heap.size (lfN 45) (.slice (some ⟨g, 0, none⟩) 1 cap) := by rw [hV6]; exact (PBk.new w (lfN 45) _ rfl).up kqx
  have hO6 : PBk V6 (w.heap.size + 1) (lfN 45) (.slice (some ⟨g2, 0, none⟩) 1 cap2) := by rw [hV6]; exact PBk.new _ (lfN 45) _ (by simp)
  have hC6 := fun q : BW V6.heap.size V6 => Calls.bel q (ih z kz (by omega) z2 kz2 q.at_ _ _ S ((hvz.up hb6).up q.bel) ((hvz2.up hb6).up q.bel) hz hz2 (by omega) (by omega))
  have d4 := fun q : BW V6.heap.size V6 => (hB6.up q.bel).cells.2.2.2.2
  have o4 := fun q : BW V6.heap.size V6 => (hO6.up q.bel).cells.2.2.2.2
  have e0 := fun q : BW V6.heap.size V6 => ((hP.up hb6).up q.bel).cells.1
  have e1 := fun q : BW V6.heap.size V6 => ((hP.up hb6).up q.bel).cells.2.1
  have e2 := fun q : BW V6.heap.size V6 => ((hP.up hb6).up q.bel).cells.2.2.1
  have e3 := fun q : BW V6.heap.size V6 => ((hP.up hb6).up q.bel).cells.2.2.2.1
  have e4 := fun q : BW V6.heap.size V6 => ((hP.up hb6).up q.bel).cells.2.2.2.2
  have f0 := fun q : BW V6.heap.size V6 => ((hP2.up hb6).up q.bel).cells.1
  have f1 := fun q : BW V6.heap.size V6 => ((hP2.up hb6).up q.bel).cells.2.1
  have f2 := fun q : BW V6.heap.size V6 => ((hP2.up hb6).up q.bel).cells.2.2.1
  have f3 := fun q : BW V6.heap.size V6 => ((hP2.up hb6).up q.bel).cells.2.2.2.1
  have f4 := fun q : BW V6.heap.size V6 => ((hP2.up hb6).up q.bel).cells.2.2.2.2
  dsimp only [Nat.zero_add, Nat.reduceAdd] at e0 e1 e2 e3 e4 f0 f1 f2 f3 f4
  have HB6 : Hid (Below w.heap.size w V6) := hb6
  generalize blw false (.cons z kz .nil) (.cons z2 kz2 .nil) = R at *
  clear hv hu ih hk hl hk1 hl1 hz hz2 hP hP2 hvz hvz2 hB6 hO6 hb6
  unfold partV at *
  unfold lfN Go.Proofs.YtckjndiepojgfaaDoor.e0 at *
  dsimp only at *
  go_enter Tryd.func16, Tryd.ntmps16
  go_wp2_with fail
  rw [← hV6]
  clear hV6
  refine wp_region_bel (by kernel_rfl) (by kernel_rfl) ?_
  repeat (go_big_quiet_step (exact hC6 _))
  refine wpQuiet_nil ?_
  rintro _ ⟨q9, rfl⟩
  go_wp2
  go_ret
  exact ⟨rfl, HB6.out.trans (q9.bel.mono HB6.out.size)⟩
set_option maxHeartbeats 4000000 in
theorem below_rcd (ih : ∀ z kz, kz.flat.length < k.flat.length → BelowK z kz) (m n : Int) (hx : x = ⟨46, m, e0, e0⟩) (hy : y = ⟨46, n, e0, e0⟩) (hk : Fl e0 k) (hl : Fl e0 l) (hk1 : k.flat.length ≤ 1000) (hl1 : l.flat.length ≤ 1000) :
    Calls Tryd.prog 16 #[partV x v, partV y u] w fun e w' => e = .returned (.bool (blw true k l && musts k l)) ∧ Below w.heap.size w w' := by
  obtain ⟨q, c, rfl, _⟩ := hv.slice
  obtain ⟨q2, c2, rfl, _⟩ := hu.slice
  subst hx hy
  obtain ⟨V6, hV6⟩ : ∃ V6, V6 = (w.alloc (.cells #[.int .i64 46, .int .i64 m, .string ⟨#[]⟩, .string ⟨#[]⟩, .slice q k.len c] 43)).alloc (.cells #[.int .i64 46, .int .i64 n, .string ⟨#[]⟩, .string ⟨#[]⟩, .slice q2 l.len c2] 43) := ⟨_, rfl⟩
  have hb6 : Below w.heap.size w V6 := by rw [hV6]; exact kqx
  have hB6 : PBk V6 w.heap.size ⟨46, m, ⟨#[]⟩, ⟨#[]⟩⟩ (.slice q k.len c) := by rw [hV6]; exact (PBk.new w ⟨46, m, ⟨#[]⟩, ⟨#[]⟩⟩ _ rfl).up kqx
  have hO6 : PBk V6 (w.heap.size + 1) ⟨46, n, ⟨#[]⟩, ⟨#[]⟩⟩ (.slice q2 l.len c2) := by rw [hV6]; exact PBk.new _ ⟨46, n, ⟨#[]⟩, ⟨#[]⟩⟩ _ (by simp)
  have HF := fun w1 (h1 : Below V6.heap.size V6 w1) => fieldsBelow_any ⟨46, m, ⟨#[]⟩, ⟨#[]⟩⟩ ⟨46, n, ⟨#[]⟩, ⟨#[]⟩⟩ k l ih w1 _ _ S ((hv.up hb6).up h1) ((hu.up hb6).up h1) hk hl hk1 hl1
  have HM := fun w1 (h1 : Below V6.heap.size V6 w1) => mustAll_any ⟨46, m, ⟨#[]⟩, ⟨#[]⟩⟩ ⟨46, n, ⟨#[]⟩, ⟨#[]⟩⟩ k l w1 _ _ S ((hv.up hb6).up h1) ((hu.up hb6).up h1) hk1 hl1
  have HB6 : Hid (Below w.heap.size w V6) := hb6
  clear hv hu ih hk hl hk1 hl1 hb6
  generalize blw true k l = R1 at *
  generalize musts k l = R2 at *
  unfold partV at *
  unfold Go.Proofs.YtckjndiepojgfaaDoor.e0 at *
  dsimp only at *
  cases R1
  · go_enter Tryd.func16, Tryd.ntmps16
    go_wp2_with fail
    rw [← hV6]
    refine (HF V6 (Below.refl _ _)).mono ?_
    rintro _ w1 ⟨rfl, hb1⟩
    go_wp2
    go_ret
    exact ⟨rfl, HB6.out.trans (hb1.mono HB6.out.size)⟩
  · go_enter Tryd.func16, Tryd.ntmps16
    go_wp2_with fail
    rw [← hV6]
    refine (HF V6 (Below.refl _ _)).mono ?_
    rintro _ w1 ⟨rfl, hb1⟩
    obtain ⟨d0, d1, d2, d3, d4⟩ := (hB6.up hb1).cells
    obtain ⟨f0, f1, f2, f3, f4⟩ := (hO6.up hb1).cells
    go_wp2_with fail
    refine (HM w1 hb1).mono ?_
    rintro _ w2 ⟨rfl, hb2⟩
    go_wp2
    go_ret
    exact ⟨retb (by simp), HB6.out.trans ((kqt hb1 hb2).mono HB6.out.size)⟩
end
theorem belowK_any : ∀ (N : Nat) (x : Nd) (k : Tp), k.flat.length < N → BelowK x k
  | 0, x, k, h => by omega
  | N + 1, x, k, h => by
    have ih : ∀ z kz, kz.flat.length < k.flat.length → BelowK z kz := fun z kz hz => belowK_any N z kz (by omega)
    intro y l w v u S hv hu hx hy hk1 hl1
    rw [blw_cons]
    by_cases h1 : x.op = 49 ∨ y.op = 48
    · rw [if_pos h1]
      exact below_yes x y k l w v u S hv hu (by omega)
    rw [if_neg h1]
    by_cases h2 : x.op ≠ y.op
    · rw [if_pos h2]
      exact below_diff x y k l w v u S hv hu (by omega) (by omega) h2
    rw [if_neg h2]
    cases hx with
    | leaf o ho =>
      cases hy with
      | leaf o2 ho2 =>
        have e1 : (lfN o).op = o := rfl
        have e2 : (lfN o2).op = o2 := rfl
        have : o = o2 := by omega
        subst this
        rw [if_neg (by omega), if_neg (by omega), ndEq_iff.2 rfl]
        exact below_leaf _ _ _ _ w v u S hv hu o (by omega) rfl rfl
      | ent s h => have e1 : (lfN o).op = o := rfl; simp only [e1] at h2; omega
      | set k h => have e1 : (lfN o).op = o := rfl; have e2 : (lfN 45).op = 45 := rfl; omega
      | rcd k h => have e1 : (lfN o).op = o := rfl; simp only [e1] at h2; omega
    | ent s hs =>
      cases hy with
      | leaf o2 ho2 => have e2 : (lfN o2).op = o2 := rfl; simp only [e2] at h2; omega
      | ent t ht =>
        rw [if_neg (by simp), if_neg (by simp)]
        have := below_ent _ _ _ _ w v u S hv hu s t rfl rfl
        rw [show ndEq ⟨44, 0, s, e0⟩ ⟨44, 0, t, e0⟩ = decide (s = t) by simp [ndEq]]
        exact this
      | set k h => simp [lfN] at h2
      | rcd k h => simp at h2
    | set k hk =>
      cases hy with
      | leaf o2 ho2 => have e2 : (lfN o2).op = o2 := rfl; have e1 : (lfN 45).op = 45 := rfl; omega
      | ent t ht => simp [lfN] at h2
      | set l hl =>
        rw [if_pos (show (lfN 45).op = 45 from rfl)]
        exact below_set _ _ k l w v u S hv hu ih rfl rfl hk hl hk1 hl1
      | rcd k h => simp [lfN] at h2
    | rcd k hk =>
      cases hy with
      | leaf o2 ho2 => have e2 : (lfN o2).op = o2 := rfl; simp only [e2] at h2; omega
      | ent t ht => simp at h2
      | set l hl => simp [lfN] at h2
      | rcd l hl =>
        rw [if_neg (by simp), if_pos rfl]
        exact below_rcd _ _ k l w v u S hv hu ih _ _ rfl rfl hk hl hk1 hl1
theorem belowK (x : Nd) (k : Tp) : BelowK x k := belowK_any _ x k (Nat.lt_succ_self _)
end Go.Proofs.YtckjndiepojgfaaDoor
namespace Go.Proofs.YtckjndiepojgfaaDoor
open Go.RowKit
set_option linter.unusedVariables false
set_option maxRecDepth 100000

/-- A part is put into a block, beside another. -/
theorem PBk.puts {w : World} {A B : Nat} {x y z : Nd} {v u r : Value} (h : PBk w A y v) (k : PBk w B z r) (hne : A ≠ B) : ∃ V, V = (((((w.setCell ⟨A, 0, none⟩ (.int .i64 x.op)).setCell ⟨A, 1, none⟩ (.int .i64 x.n)).setCell ⟨A, 2, none⟩ (.string x.s)).setCell ⟨A, 3, none⟩ (.string x.t)).setCell ⟨A, 4, none⟩ u) ∧ PBk V A x u ∧ PBk V B z r ∧ Keep (fun a => a = A) w V := by
  obtain ⟨h1, h2⟩ := h.put (x := x) (u := u) rfl
  exact ⟨_, rfl, h1, k.keep h2 (fun e => hne e.symm), h2⟩
section
variable (a b : List Nd) (w : World) (p q : Option Addr) (c d : Nat) (ha : NL w p a) (hb : NL w q b) (hc : a.length ≤ c) (hcm : c ≤ maxLen) (hd : b.length ≤ d) (hdm : d ≤ maxLen)
include ha hb hc hcm hd hdm
omit hb hd hdm in
set_option maxHeartbeats 4000000 in
theorem readBoth_one (h : kfault a ≠ 0) :
    Calls Tryd.prog 15 #[.slice p a.length c, .slice q b.length d] w fun e w' => e = .returned (.tuple #[.agg #[.int .i64 0, .int .i64 0, .string ⟨#[]⟩, .string ⟨#[]⟩, .slice none 0 0], .agg #[.int .i64 0, .int .i64 0, .string ⟨#[]⟩, .string ⟨#[]⟩, .slice none 0 0], .iface 23 (.int .i64 (kfault a))]) ∧ Below w.heap.size w w' := by
  have hC := fun W (hW : Below w.heap.size w W) => read_err a W p c (ha.up hW) hc hcm h
  generalize kfault a = n at *
  clear ha
  obtain ⟨W, hW⟩ : ∃ W, W = (w.alloc (.cells #[.int .i64 0, .int .i64 0, .string ⟨#[]⟩, .string ⟨#[]⟩, .slice none 0 0] 43)).alloc (.cells #[.int .i64 0, .int .i64 0, .string ⟨#[]⟩, .string ⟨#[]⟩, .slice none 0 0] 43) := ⟨_, rfl⟩
  have hbW : Below w.heap.size w W := by rw [hW]; exact kqx
  have hA : PBk W w.heap.size zN (.slice none 0 0) := by rw [hW]; exact (PBk.new w zN _ rfl).up kqx
  have hB : PBk W (w.heap.size + 1) zN (.slice none 0 0) := by rw [hW]; exact PBk.new _ zN _ (by simp)
  go_enter Tryd.func15, Tryd.ntmps15
  go_wp2_with fail
  rw [← hW]
  refine (hC W hbW).mono ?_
  rintro _ w5 ⟨rfl, hb5⟩
  have hA5 := hA.up hb5
  have hB5 := hB.up hb5
  obtain ⟨r0, r1, r2, r3, r4⟩ := hA5.cells
  obtain ⟨s0, s1, s2, s3, s4⟩ := hB5.cells
  have fr := hA5.free
  have fs := hB5.free
  have hb05 := kqt hbW hb5
  clear hC hW hA hB
  go_wp2
  obtain ⟨V1, hV1, hA1, hB1, hK1⟩ := hA5.puts (x := zN) (u := .slice none 0 0) hB5 (by omega)
  obtain ⟨V2, hV2, hA2, hB2, hK2⟩ := hA1.puts (x := zN) (u := .slice none 0 0) hB1 (by omega)
  obtain ⟨V3, hV3, hB3, hA3, hK3⟩ := hB2.puts (x := zN) (u := .slice none 0 0) hA2 (by omega)
  unfold zN at hV1 hV2 hV3
  dsimp only at hV1 hV2 hV3
  rw [← hV1, ← hV2, ← hV3]
  obtain ⟨t0, t1, t2, t3, t4⟩ := hA3.cells
  obtain ⟨v0, v1, v2, v3, v4⟩ := hB3.cells
  unfold zN at t0 t1 t2 t3 v0 v1 v2 v3
  dsimp only at t0 t1 t2 t3 v0 v1 v2 v3
  have hbf : Below w.heap.size w V3 := ((hb05.trans (hK1.below (by have := hA5.lt; omega) (fun a e => by omega))).trans (hK2.below (by have := hA1.lt; omega) (fun a e => by omega))).trans (hK3.below (by have := hA2.lt; omega) (fun a e => by omega))
  exact bodyPost_ret (v := .tuple #[.agg #[.int .i64 0, .int .i64 0, .string ⟨#[]⟩, .string ⟨#[]⟩, .slice none 0 0], .agg #[.int .i64 0, .int .i64 0, .string ⟨#[]⟩, .string ⟨#[]⟩, .slice none 0 0], .iface 23 (.int .i64 n)]) (by simp [results, Tryd.results15, go_sem, t0, t1, t2, t3, t4, v0, v1, v2, v3, v4]) rfl ⟨rfl, hbf⟩
set_option maxHeartbeats 4000000 in
theorem readBoth_two (x : Nd) (k : Tp) (hla : a.length ≤ 200) (hk : KTy a x k) (h : kfault b ≠ 0) :
    Calls Tryd.prog 15 #[.slice p a.length c, .slice q b.length d] w fun e w' => e = .returned (.tuple #[.agg #[.int .i64 0, .int .i64 0, .string ⟨#[]⟩, .string ⟨#[]⟩, .slice none 0 0], .agg #[.int .i64 0, .int .i64 0, .string ⟨#[]⟩, .string ⟨#[]⟩, .slice none 0 0], .iface 23 (.int .i64 (kfault b))]) ∧ Below w.heap.size w w' := by
  have hC0 := fun W (hW : Below w.heap.size w W) => read_ok a W p c (ha.up hW) hc hcm hla x k hk
  have hC := fun W (hW : Below w.heap.size w W) => read_err b W q d (hb.up hW) hd hdm h
  generalize kfault b = n at *
  clear ha hb hk
  obtain ⟨W, hW⟩ : ∃ W, W = (w.alloc (.cells #[.int .i64 0, .int .i64 0, .string ⟨#[]⟩, .string ⟨#[]⟩, .slice none 0 0] 43)).alloc (.cells #[.int .i64 0, .int .i64 0, .string ⟨#[]⟩, .string ⟨#[]⟩, .slice none 0 0] 43) := ⟨_, rfl⟩
  have hbW : Below w.heap.size w W := by rw [hW]; exact kqx
  have hA : PBk W w.heap.size zN (.slice none 0 0) := by rw [hW]; exact (PBk.new w zN _ rfl).up kqx
  have hB : PBk W (w.heap.size + 1) zN (.slice none 0 0) := by rw [hW]; exact PBk.new _ zN _ (by simp)
  go_enter Tryd.func15, Tryd.ntmps15
  go_wp2_with fail
  rw [← hW]
  refine (hC0 W hbW).mono ?_
  rintro _ w5 ⟨⟨q5, c5, rfl, hxw, hu⟩, hb5⟩
  have hA5 := hA.up hb5
  have hB5 := hB.up hb5
  obtain ⟨r0, r1, r2, r3, r4⟩ := hA5.cells
  have fr := hA5.free
  have hb05 := kqt hbW hb5
  clear hC0 hW hA hB
  go_wp2_with fail
  obtain ⟨V1, hV1, hA1, hB1, hK1⟩ := hA5.puts (x := x) (u := .slice q5 k.len c5) hB5 (by omega)
  have hb1 : Below w.heap.size w V1 := hb05.trans (hK1.below (by have := hA5.lt; omega) (fun a e => by omega))
  rw [← hV1]
  refine (hC V1 hb1).mono ?_
  rintro _ w7 ⟨rfl, hb7⟩
  have hA7 := hA1.up hb7
  have hB7 := hB1.up hb7
  have hb07 := kqt hb1 hb7
  clear hC hV1 hu r0 r1 r2 r3 r4 fr
  obtain ⟨r0, r1, r2, r3, r4⟩ := hA7.cells
  obtain ⟨s0, s1, s2, s3, s4⟩ := hB7.cells
  have fr := hA7.free
  have fs := hB7.free
  go_wp2
  obtain ⟨V2, hV2, hB2, hA2, hK2⟩ := hB7.puts (x := zN) (u := .slice none 0 0) hA7 (by omega)
  obtain ⟨V3, hV3, hA3, hB3, hK3⟩ := hA2.puts (x := zN) (u := .slice none 0 0) hB2 (by omega)
  obtain ⟨V4, hV4, hB4, hA4, hK4⟩ := hB3.puts (x := zN) (u := .slice none 0 0) hA3 (by omega)
  unfold zN at hV2 hV3 hV4
  dsimp only at hV2 hV3 hV4
  rw [← hV2, ← hV3, ← hV4]
  obtain ⟨t0, t1, t2, t3, t4⟩ := hA4.cells
  obtain ⟨v0, v1, v2, v3, v4⟩ := hB4.cells
  unfold zN at t0 t1 t2 t3 v0 v1 v2 v3
  dsimp only at t0 t1 t2 t3 v0 v1 v2 v3
  have hbf : Below w.heap.size w V4 := ((hb07.trans (hK2.below (by have := hA7.lt; omega) (fun a e => by omega))).trans (hK3.below (by have := hA2.lt; omega) (fun a e => by omega))).trans (hK4.below (by have := hA3.lt; omega) (fun a e => by omega))
  exact bodyPost_ret (v := .tuple #[.agg #[.int .i64 0, .int .i64 0, .string ⟨#[]⟩, .string ⟨#[]⟩, .slice none 0 0], .agg #[.int .i64 0, .int .i64 0, .string ⟨#[]⟩, .string ⟨#[]⟩, .slice none 0 0], .iface 23 (.int .i64 n)]) (by simp [results, Tryd.results15, go_sem, t0, t1, t2, t3, t4, v0, v1, v2, v3, v4]) rfl ⟨rfl, hbf⟩
set_option maxHeartbeats 4000000 in
theorem readBoth_ok (x y : Nd) (k l : Tp) (hla : a.length ≤ 200) (hlb : b.length ≤ 200) (hk : KTy a x k) (hl : KTy b y l) :
    Calls Tryd.prog 15 #[.slice p a.length c, .slice q b.length d] w fun e w' => (∃ q1 c1 q2 c2, e = .returned (.tuple #[.agg #[.int .i64 x.op, .int .i64 x.n, .string x.s, .string x.t, .slice q1 k.len c1], .agg #[.int .i64 y.op, .int .i64 y.n, .string y.s, .string y.t, .slice q2 l.len c2], .nilIface]) ∧ x.wf ∧ y.wf ∧ VK w' k (.slice q1 k.len c1) (fun a => w.heap.size ≤ a) ∧ VK w' l (.slice q2 l.len c2) (fun a => w.heap.size ≤ a)) ∧ Below w.heap.size w w' := by
  have hC0 := fun W (hW : Below w.heap.size w W) => read_ok a W p c (ha.up hW) hc hcm hla x k hk
  have hC := fun W (hW : Below w.heap.size w W) => read_ok b W q d (hb.up hW) hd hdm hlb y l hl
  clear ha hb hk hl
  obtain ⟨W, hW⟩ : ∃ W, W = (w.alloc (.cells #[.int .i64 0, .int .i64 0, .string ⟨#[]⟩, .string ⟨#[]⟩, .slice none 0 0] 43)).alloc (.cells #[.int .i64 0, .int .i64 0, .string ⟨#[]⟩, .string ⟨#[]⟩, .slice none 0 0] 43) := ⟨_, rfl⟩
  have hbW : Below w.heap.size w W := by rw [hW]; exact kqx
  have hA : PBk W w.heap.size zN (.slice none 0 0) := by rw [hW]; exact (PBk.new w zN _ rfl).up kqx
  have hB : PBk W (w.heap.size + 1) zN (.slice none 0 0) := by rw [hW]; exact PBk.new _ zN _ (by simp)
  have hWs : W.heap.size = w.heap.size + 2 := by rw [hW]; simp
  go_enter Tryd.func15, Tryd.ntmps15
  go_wp2_with fail
  rw [← hW]
  refine (hC0 W hbW).mono ?_
  rintro _ w5 ⟨⟨q5, c5, rfl, hxw, hu⟩, hb5⟩
  have hA5 := hA.up hb5
  have hB5 := hB.up hb5
  obtain ⟨r0, r1, r2, r3, r4⟩ := hA5.cells
  have fr := hA5.free
  have hb05 := kqt hbW hb5
  clear hC0 hW hA hB
  go_wp2_with fail
  obtain ⟨V1, hV1, hA1, hB1, hK1⟩ := hA5.puts (x := x) (u := .slice q5 k.len c5) hB5 (by omega)
  have hb1 : Below w.heap.size w V1 := hb05.trans (hK1.below (by have := hA5.lt; omega) (fun a e => by omega))
  have hu1 : VK V1 k (.slice q5 k.len c5) (fun a => w.heap.size + 2 ≤ a) := (hu.agree (fun a h hl => hK1.block a hl (by omega))).sub (fun a h => by omega)
  rw [← hV1]
  refine (hC V1 hb1).mono ?_
  rintro _ w7 ⟨⟨q7, c7, rfl, hyw, hv7⟩, hb7⟩
  have hA7 := hA1.up hb7
  have hB7 := hB1.up hb7
  have hb07 := kqt hb1 hb7
  have hu7 := hu1.up hb7
  have hV1s : w.heap.size + 2 ≤ V1.heap.size := by have := hb5.size; have := hK1.size; omega
  have hv7' : VK w7 l (.slice q7 l.len c7) (fun a => w.heap.size + 2 ≤ a) := hv7.sub (fun a h => by omega)
  clear hC hV1 hu r0 r1 r2 r3 r4 fr hv7 hu1
  obtain ⟨r0, r1, r2, r3, r4⟩ := hA7.cells
  obtain ⟨s0, s1, s2, s3, s4⟩ := hB7.cells
  have fr := hA7.free
  have fs := hB7.free
  go_wp2
  obtain ⟨V2, hV2, hB2, hA2, hK2⟩ := hB7.puts (x := y) (u := .slice q7 l.len c7) hA7 (by omega)
  rw [← hV2]
  have hb2 : Below w.heap.size w V2 := hb07.trans (hK2.below (by have := hA7.lt; omega) (fun a e => by omega))
  have hu2 := hu7.agree (w' := V2) (fun a h hl => hK2.block a hl (by omega))
  have hv2 := hv7'.agree (w' := V2) (fun a h hl => hK2.block a hl (by omega))
  clear hV2 r0 r1 r2 r3 r4 s0 s1 s2 s3 s4 fr fs
  obtain ⟨r0, r1, r2, r3, r4⟩ := hA2.cells
  obtain ⟨s0, s1, s2, s3, s4⟩ := hB2.cells
  have fr := hA2.free
  have fs := hB2.free
  have r0' : V2.drew.cell? _ = _ := r0
  have r1' : V2.drew.cell? _ = _ := r1
  have r2' : V2.drew.cell? _ = _ := r2
  have r3' : V2.drew.cell? _ = _ := r3
  have r4' : V2.drew.cell? _ = _ := r4
  have s0' : V2.drew.cell? _ = _ := s0
  have s1' : V2.drew.cell? _ = _ := s1
  have s2' : V2.drew.cell? _ = _ := s2
  have s3' : V2.drew.cell? _ = _ := s3
  have s4' : V2.drew.cell? _ = _ := s4
  have fr' : ∀ j, V2.drew.frozen? ⟨w.heap.size, j, none⟩ = false := fr
  have fs' : ∀ j, V2.drew.frozen? ⟨w.heap.size + 1, j, none⟩ = false := fs
  go_region
  obtain ⟨V3, hV3, hA3, hB3, hK3⟩ := hA2.puts (x := x) (u := .slice q5 k.len c5) hB2 (by omega)
  obtain ⟨V4, hV4, hB4, hA4, hK4⟩ := hB3.puts (x := y) (u := .slice q7 l.len c7) hA3 (by omega)
  rw [← hV3, ← hV4]
  go_wp2
  have hb4 : Below w.heap.size w V4 := (hb2.trans (hK3.below (by have := hA2.lt; omega) (fun a e => by omega))).trans (hK4.below (by have := hA3.lt; omega) (fun a e => by omega))
  have hu4 := (hu2.agree (w' := V3) (fun a h hl => hK3.block a hl (by omega))).agree (w' := V4) (fun a h hl => hK4.block a hl (by omega))
  have hv4 := (hv2.agree (w' := V3) (fun a h hl => hK3.block a hl (by omega))).agree (w' := V4) (fun a h hl => hK4.block a hl (by omega))
  have hbd : Below V4.heap.size V4 V4.drew := kqx
  obtain ⟨t0, t1, t2, t3, t4⟩ := (hA4.up hbd).cells
  obtain ⟨v0, v1, v2, v3, v4⟩ := (hB4.up hbd).cells
  exact bodyPost_ret (v := .tuple #[.agg #[.int .i64 x.op, .int .i64 x.n, .string x.s, .string x.t, .slice q5 k.len c5], .agg #[.int .i64 y.op, .int .i64 y.n, .string y.s, .string y.t, .slice q7 l.len c7], .nilIface]) (by simp [results, Tryd.results15, go_sem, t0, t1, t2, t3, t4, v0, v1, v2, v3, v4]) rfl ⟨⟨_, _, _, _, rfl, hxw, hyw, (hu4.up hbd).sub (fun a h => by omega), (hv4.up hbd).sub (fun a h => by omega)⟩, kqt hb4 hbd⟩
end
/-- What Below tells. -/
noncomputable def bfault (a b : List Nd) : Int := if kfault a = 0 then kfault b else kfault a
section
variable (a b : List Nd) (w : World) (p q : Option Addr) (c d : Nat) (ha : NL w p a) (hb : NL w q b) (hc : a.length ≤ c) (hcm : c ≤ maxLen) (hd : b.length ≤ d) (hdm : d ≤ maxLen)
include ha hb hc hcm hd hdm
theorem readBoth_err (h : bfault a b ≠ 0) :
    Calls Tryd.prog 15 #[.slice p a.length c, .slice q b.length d] w fun e w' => e = .returned (.tuple #[.agg #[.int .i64 0, .int .i64 0, .string ⟨#[]⟩, .string ⟨#[]⟩, .slice none 0 0], .agg #[.int .i64 0, .int .i64 0, .string ⟨#[]⟩, .string ⟨#[]⟩, .slice none 0 0], .iface 23 (.int .i64 (bfault a b))]) ∧ Below w.heap.size w w' := by
  unfold bfault at *
  by_cases h1 : kfault a = 0
  · rw [if_pos h1] at h ⊢
    obtain ⟨h2, x, k, h3⟩ := kfault_zero h1
    exact readBoth_two a b w p q c d ha hb hc hcm hd hdm x k h2 h3 h
  · rw [if_neg h1]
    exact readBoth_one a b w p q c d ha hc hcm h1
/-- Below, where one is none. -/
theorem kbelow_err (h : bfault a b ≠ 0) :
    Calls Tryd.prog 6 #[.slice p a.length c, .slice q b.length d] w fun e w' => e = .returned (.tuple #[.bool false, .iface 23 (.int .i64 (bfault a b))]) ∧ Below w.heap.size w w' := by
  have hC := readBoth_err a b w p q c d ha hb hc hcm hd hdm h
  generalize bfault a b = n at *
  clear ha hb
  go_enter Tryd.func6, Tryd.ntmps6
  go_wp2_with fail
  refine hC.mono ?_
  rintro _ w1 ⟨rfl, hb1⟩
  go_wp2
  exact bodyPost_ret (v := .tuple #[.bool false, .iface 23 (.int .i64 n)]) (by simp [results, Tryd.results6, go_sem]) rfl ⟨rfl, kqA (kqA hb1)⟩
theorem kbelow_ok (x y : Nd) (k l : Tp) (hla : a.length ≤ 200) (hlb : b.length ≤ 200) (hk : KTy a x k) (hl : KTy b y l) :
    Calls Tryd.prog 6 #[.slice p a.length c, .slice q b.length d] w fun e w' => e = .returned (.tuple #[.bool (blw false (.cons x k .nil) (.cons y l .nil)), .nilIface]) ∧ Below w.heap.size w w' := by
  have hC := readBoth_ok a b w p q c d ha hb hc hcm hd hdm x y k l hla hlb hk hl
  have hkf : k.flat.length ≤ 1000 := by rw [hk.2] at hla; simp at hla; omega
  have hlf : l.flat.length ≤ 1000 := by rw [hl.2] at hlb; simp at hlb; omega
  have HB := fun W v u S h1 h2 => belowK x k y l W v u S h1 h2 (T1.iff.1 hk.1) (T1.iff.1 hl.1) hkf hlf
  generalize blw false (.cons x k .nil) (.cons y l .nil) = R at *
  clear ha hb hk hl hkf hlf
  unfold partV at HB
  go_enter Tryd.func6, Tryd.ntmps6
  go_wp2_with fail
  refine hC.mono ?_
  rintro _ w1 ⟨⟨q1, c1, q2, c2, rfl, hxw, hyw, hu, hv⟩, hb1⟩
  have hbk : ∀ o1 o2, Below w1.heap.size w1 ((w1.alloc o1).alloc o2) := fun o1 o2 => kqx
  have HC := fun o1 o2 => HB _ _ _ _ (hu.up (hbk o1 o2)) (hv.up (hbk o1 o2))
  clear hC HB hu hv
  go_wp2_with fail
  refine (HC _ _).mono ?_
  rintro _ w2 ⟨rfl, hb2⟩
  go_wp2
  exact bodyPost_ret (v := .tuple #[.bool R, .nilIface]) (by simp [results, Tryd.results6, go_sem]) rfl ⟨rfl, kqt hb1 (kqt (hbk _ _) hb2)⟩
end
end Go.Proofs.YtckjndiepojgfaaDoor
namespace Go.Proofs.YtckjndiepojgfaaDoor
open Go.RowKit
set_option linter.unusedVariables false
set_option maxRecDepth 100000

section
variable {a b : List Nd} {w : World} {p q : Option Addr} {c d : Nat} (ha : AK w a p c) (hb : AK w b q d)
include ha
include hb
theorem AK.below {x y : Nd} {k l : Tp} (hla : a.length ≤ 200) (hlb : b.length ≤ 200) (hk : KTy a x k) (hl : KTy b y l) : Calls Tryd.prog 6 #[.slice p a.length c, .slice q b.length d] w fun e w' => e = .returned (.tuple #[.bool (blw false (.cons x k .nil) (.cons y l .nil)), .nilIface]) ∧ Below w.heap.size w w' := kbelow_ok a b w p q c d ha.nl hb.nl ha.le ha.cm hb.le hb.cm x y k l hla hlb hk hl
theorem AK.below_err (h : bfault a b ≠ 0) : Calls Tryd.prog 6 #[.slice p a.length c, .slice q b.length d] w fun e w' => e = .returned (.tuple #[.bool false, .iface 23 (.int .i64 (bfault a b))]) ∧ Below w.heap.size w w' := kbelow_err a b w p q c d ha.nl hb.nl ha.le ha.cm hb.le hb.cm h
theorem AK.same : Calls Tryd.prog 10 #[.slice p a.length c, .slice q b.length d] w fun e w' => e = .returned (.bool (sameNd a b)) ∧ Below w.heap.size w w' := by
  refine (sameNodes_any a b p q c d w ha.nl hb.nl (Nat.le_trans ha.le ha.cm) (Nat.le_trans hb.le hb.cm)).mono ?_
  rintro _ _ ⟨rfl, n, rfl⟩
  exact ⟨rfl, ⟨rfl, rfl, rfl, Nat.le_refl _, fun _ _ => rfl⟩⟩
end
end Go.Proofs.YtckjndiepojgfaaDoor
