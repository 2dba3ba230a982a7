/- The document's BelowKind: by walks of its own text. The document's BelowKind, of two records, and whole: by walks of its own text. -/
import Derived.Test.YtckjndiepojgfaaDoorG13
import Derived.Deep.RegionHeld
namespace Go.Proofs.YtckjndiepojgfaaDoor
open Go.RowKit
set_option linter.unusedVariables false
set_option linter.unusedSimpArgs false
set_option maxRecDepth 100000

/-- What BelowKind tells of a type, whatever the other one is. -/
def BelRK (x : Nd) (k : Tp) : Prop := ∀ (y : Nd) (l : Tp) (w : World) (p : Option Addr) (c : Nat) (q : Option Addr) (d : Nat), AK0 w (x :: k.flat) p c → AK0 w (y :: l.flat) q d → T1 (.cons x k .nil) → T1 (.cons y l .nil) → k.flat.length ≤ 890 → l.flat.length ≤ 890 →
    Calls Tryd.prog 5 #[.slice p (k.flat.length + 1) c, .slice q (l.flat.length + 1) d] w fun e w' => e = .returned (.bool (blw false (.cons x k .nil) (.cons y l .nil))) ∧ Below w.heap.size w w'
def fldBl (l : Tp) (s : ByteArray) (v : Tp) : Bool := match l.find s with | some (_, kg) => blw false v kg | none => false
theorem blw_fldBl (f : Nd) (kf r l : Tp) : blw true (.cons f kf r) l = (fldBl l f.s kf && blw true r l) := by
  rw [blw_flds]
  unfold fldBl
  cases l.find f.s <;> rfl
theorem fldBl_none {k : Tp} {s : ByteArray} {v : Tp} (h : k.find s = none) : fldBl k s v = false := by unfold fldBl; rw [h]
theorem fldBl_some {k : Tp} {s : ByteArray} {v : Tp} {g : Nd} {kg : Tp} (h : k.find s = some (g, kg)) : fldBl k s v = blw false v kg := by unfold fldBl; rw [h]
def mstB (k : Tp) (f : Nd) : Bool := decide (f.n ≠ 1) || (match k.find f.s with | some (g, _) => decide (g.n = 1) | none => false)
theorem musts_mst (k : Tp) (f : Nd) (kf r : Tp) : musts k (.cons f kf r) = (mstB k f && musts k r) := by
  rw [musts]
  unfold mstB
  cases k.find f.s <;> rfl
theorem mst_free {k : Tp} {f : Nd} (h : f.n = 0) : mstB k f = true := by unfold mstB; rw [h]; rfl
theorem mst_none {k : Tp} {f : Nd} (h1 : f.n = 1) (h : k.find f.s = none) : mstB k f = false := by unfold mstB; rw [h, h1]; rfl
theorem mst_some {k : Tp} {f g : Nd} {kg : Tp} (h1 : f.n = 1) (h : k.find f.s = some (g, kg)) : mstB k f = decide (g.n = 1) := by unfold mstB; rw [h, h1]; rfl
theorem beq_neB {a b : ByteArray} (h : a ≠ b) : (a.toList == b.toList) = false := by
  rw [beq_eq_false_iff_ne]
  exact fun e => h (bytes_inj (by simpa only [ByteArray.toList_eq] using e))
section
variable (x : Nd) (k : Tp) (y : Nd) (l : Tp) (w : World) (p : Option Addr) (c : Nat) (q : Option Addr) (d : Nat) (ht : AK0 w (x :: k.flat) p c) (hv : AK0 w (y :: l.flat) q d)
include ht hv
set_option maxHeartbeats 1000000 in
theorem belR_yes (h : x.op = 49 ∨ (x.op ≠ 49 ∧ y.op = 48)) :
    Calls Tryd.prog 5 #[.slice p (k.flat.length + 1) c, .slice q (l.flat.length + 1) d] w fun e w' => e = .returned (.bool true) ∧ Below w.heap.size w w' := by
  obtain ⟨b, off, rfl, hbw, c0, c1, c2, c3, _⟩ := ht.nl.head
  obtain ⟨b', off', rfl, hbw', d0, d1, d2, d3, _⟩ := hv.nl.head
  have i1 : (0 : Int) < ((k.flat.length : Int) + 1) := by omega
  have i2 : (0 : Int) < ((l.flat.length : Int) + 1) := by omega
  clear ht hv
  obtain ⟨xo, xn, xs, xt⟩ := x
  obtain ⟨yo, yn, ys, yt⟩ := y
  dsimp only at h c0 c1 c2 c3 d0 d1 d2 d3
  rcases h with rfl | ⟨h1, rfl⟩
  · go_enter Tryd.func5, Tryd.ntmps5
    go_wp2
    go_ret
    exact ⟨rfl, Below.refl _ _⟩
  · have e1 : (xo == 49) = false := by rw [beq_eq_false_iff_ne]; exact h1
    clear h1
    go_enter Tryd.func5, Tryd.ntmps5
    go_wp2
    go_ret
    exact ⟨rfl, Below.refl _ _⟩
set_option maxHeartbeats 1000000 in
theorem belR_diff (h1 : x.op ≠ 49) (h2 : y.op ≠ 48) (h3 : x.op ≠ y.op) :
    Calls Tryd.prog 5 #[.slice p (k.flat.length + 1) c, .slice q (l.flat.length + 1) d] w fun e w' => e = .returned (.bool false) ∧ Below w.heap.size w w' := by
  obtain ⟨b, off, rfl, hbw, c0, c1, c2, c3, _⟩ := ht.nl.head
  obtain ⟨b', off', rfl, hbw', d0, d1, d2, d3, _⟩ := hv.nl.head
  have i1 : (0 : Int) < ((k.flat.length : Int) + 1) := by omega
  have i2 : (0 : Int) < ((l.flat.length : Int) + 1) := by omega
  clear ht hv
  obtain ⟨xo, xn, xs, xt⟩ := x
  obtain ⟨yo, yn, ys, yt⟩ := y
  dsimp only at h1 h2 h3 c0 c1 c2 c3 d0 d1 d2 d3
  have e1 : (xo == 49) = false := by rw [beq_eq_false_iff_ne]; exact h1
  have e2 : (yo == 48) = false := by rw [beq_eq_false_iff_ne]; exact h2
  have e3 : (xo != yo) = true := by simp [h3]
  clear h1 h2 h3
  go_enter Tryd.func5, Tryd.ntmps5
  go_wp2_with fail
  go_region
  go_wp2
  go_ret
  exact ⟨rfl, kqx⟩
set_option maxHeartbeats 1000000 in
theorem belR_same (o : Int) (ho : o = 41 ∨ o = 42 ∨ o = 43 ∨ o = 44 ∨ o = 48) (hx : x.op = o) (hy : y.op = o) (h48 : o ≠ 48) :
    Calls Tryd.prog 5 #[.slice p (k.flat.length + 1) c, .slice q (l.flat.length + 1) d] w fun e w' => e = .returned (.bool (decide (x.s = y.s))) ∧ Below w.heap.size w w' := by
  obtain ⟨b, off, rfl, hbw, c0, c1, c2, c3, _⟩ := ht.nl.head
  obtain ⟨b', off', rfl, hbw', d0, d1, d2, d3, _⟩ := hv.nl.head
  have i1 : (0 : Int) < ((k.flat.length : Int) + 1) := by omega
  have i2 : (0 : Int) < ((l.flat.length : Int) + 1) := by omega
  clear ht hv
  obtain ⟨xo, xn, xs, xt⟩ := x
  obtain ⟨yo, yn, ys, yt⟩ := y
  dsimp only at hx hy c0 c1 c2 c3 d0 d1 d2 d3 ⊢
  subst hx hy
  by_cases hs : xs = ys
  · rw [decide_eq_true hs]
    subst hs
    rcases ho with rfl | rfl | rfl | rfl | rfl
    all_goals first
      | exact absurd rfl h48
      | (clear h48
         go_enter Tryd.func5, Tryd.ntmps5
         go_wp2_with fail
         go_region
         go_wp2_with fail
         go_region
         go_wp2
         go_ret
         exact ⟨rfl, kqx⟩)
  · rw [decide_eq_false hs]
    have hne := beq_neB hs
    clear hs
    rcases ho with rfl | rfl | rfl | rfl | rfl
    all_goals first
      | exact absurd rfl h48
      | (clear h48
         go_enter Tryd.func5, Tryd.ntmps5
         go_wp2_with fail
         go_region
         go_wp2_with fail
         go_region
         go_wp2
         go_ret
         exact ⟨rfl, kqx⟩)
end
set_option maxHeartbeats 1000000 in
theorem belR_set (z : Nd) (kz : Tp) (z2 : Nd) (lz : Tp) (w : World) (p : Option Addr) (c : Nat) (q : Option Addr) (d : Nat) (ht : AK0 w (lfN 45 :: z :: kz.flat) p c) (hv : AK0 w (lfN 45 :: z2 :: lz.flat) q d) (hk : T1 (.cons z kz .nil)) (hl : T1 (.cons z2 lz .nil)) (h9 : kz.flat.length ≤ 890) (h8 : lz.flat.length ≤ 890) (ih : BelRK z kz) :
    Calls Tryd.prog 5 #[.slice p (kz.flat.length + 1 + 1) c, .slice q (lz.flat.length + 1 + 1) d] w fun e w' => e = .returned (.bool (blw false (.cons z kz .nil) (.cons z2 lz .nil))) ∧ Below w.heap.size w w' := by
  obtain ⟨b, off, rfl, hbw, c0, c1, c2, c3, _⟩ := ht.nl.head
  obtain ⟨b', off', rfl, hbw', d0, d1, d2, d3, _⟩ := hv.nl.head
  have HTK : Hid (AK0 w (z :: kz.flat) (some ⟨b, off + 4, none⟩) (c - 1)) := ⟨ht.nl.tail, by have := ht.le; simp at this ⊢; omega, by have := ht.cm; omega⟩
  have HVK : Hid (AK0 w (z2 :: lz.flat) (some ⟨b', off' + 4, none⟩) (d - 1)) := ⟨hv.nl.tail, by have := hv.le; simp at this ⊢; omega, by have := hv.cm; omega⟩
  have HC := fun W (hW : Below w.heap.size w W) => ih z2 lz W _ _ _ _ (HTK.out.up hW) (HVK.out.up hW) hk hl (by omega) (by omega)
  have i5 : ¬ c = 1 := by have := ht.le; simp at this; omega
  have i6 : ¬ d = 1 := by have := hv.le; simp at this; omega
  have hcl : kz.flat.length + 1 + 1 ≤ c := by have := ht.le; simpa using this
  have hdl : lz.flat.length + 1 + 1 ≤ d := by have := hv.le; simpa using this
  have hcm : c ≤ 9223372036854775807 := by have := ht.cm; unfold maxLen at this; exact this
  have hdm : d ≤ 9223372036854775807 := by have := hv.cm; unfold maxLen at this; exact this
  have i1 : (0 : Int) < ((kz.flat.length : Int) + 1 + 1) := by omega
  have i2 : (0 : Int) < ((lz.flat.length : Int) + 1 + 1) := by omega
  generalize blw false (.cons z kz .nil) (.cons z2 lz .nil) = r at *
  unfold lfN at c0 c1 c2 c3 d0 d1 d2 d3
  dsimp only at c0 c1 c2 c3 d0 d1 d2 d3
  clear ht hv
  go_enter Tryd.func5, Tryd.ntmps5
  go_wp2_with fail
  go_region
  have c0' := (show Below w.heap.size w w.drew from kqx).cell (p := ⟨b, off, none⟩) hbw |>.trans c0
  go_wp2_with fail
  go_region_held (fun w' => True) (trivial) (first
    | (go_at_call 5
       refine (HC _ kqx).mono ?_
       rintro _ w5 ⟨rfl, hb5'⟩
       have hb5 : Below w.heap.size w w5 := kqt kqx hb5'))
  all_goals
    go_wp2
    go_ret
    exact ⟨rfl, hb5⟩
end Go.Proofs.YtckjndiepojgfaaDoor
namespace Go.Proofs.YtckjndiepojgfaaDoor
open Go.RowKit
set_option linter.unusedVariables false
set_option linter.unusedSimpArgs false
set_option maxRecDepth 100000

set_option maxHeartbeats 4000000 in
theorem belR_rec (k l : Tp) (w : World) (p : Option Addr) (c : Nat) (q : Option Addr) (d : Nat) (ht : AK0 w (rcN k :: k.flat) p c) (hv : AK0 w (rcN l :: l.flat) q d) (hk : Fl e0 k) (hl : Fl e0 l) (h9 : k.flat.length ≤ 890) (h8 : l.flat.length ≤ 890) (ih : ∀ f kf, kf.flat.length < k.flat.length → BelRK f kf) :
    Calls Tryd.prog 5 #[.slice p (k.flat.length + 1) c, .slice q (l.flat.length + 1) d] w fun e w' => e = .returned (.bool (blw true k l && musts k l)) ∧ Below w.heap.size w w' := by
  obtain ⟨b, off, rfl, hbw, c0, c1, c2, c3, _⟩ := ht.nl.head
  obtain ⟨b', off', rfl, hbw', d0, d1, d2, d3, _⟩ := hv.nl.head
  have HTK : Hid (AK0 w (rcN k :: k.flat) (some ⟨b, off, none⟩) c) := ht
  have HVK : Hid (AK0 w (rcN l :: l.flat) (some ⟨b', off', none⟩) d) := hv
  have HFK : Hid (Fl e0 k) := hk
  have HFL : Hid (Fl e0 l) := hl
  have HF1 := fun W (hW : Below w.heap.size w W) => fieldsOf_any k hk (some ⟨b, off, none⟩) c W (ht.nl.up hW) (by have := ht.le; simpa using this) ht.cm (by omega)
  have HF2 := fun W (hW : Below w.heap.size w W) => fieldsOf_any l hl (some ⟨b', off', none⟩) d W (hv.nl.up hW) (by have := hv.le; simpa using this) hv.cm (by omega)
  have HK1 := fun W (hW : Below w.heap.size w W) (s : ByteArray) => fieldKind_any k hk s (some ⟨b, off, none⟩) c W (ht.nl.up hW) (by have := ht.le; simpa using this) ht.cm (by omega)
  have HK2 := fun W (hW : Below w.heap.size w W) (s : ByteArray) => fieldKind_any l hl s (some ⟨b', off', none⟩) d W (hv.nl.up hW) (by have := hv.le; simpa using this) hv.cm (by omega)
  have HL9 : Hid (k.flat.length ≤ 890 ∧ l.flat.length ≤ 890) := ⟨h9, h8⟩
  have i1 : (0 : Int) < ((k.flat.length : Int) + 1) := by omega
  have i2 : (0 : Int) < ((l.flat.length : Int) + 1) := by omega
  have hk9 : k.len ≤ 890 := Nat.le_trans (tp_len_flat k) h9
  have hl9 : l.len ≤ 890 := Nat.le_trans (tp_len_flat l) h8
  unfold rcN at c0 c1 c2 c3 d0 d1 d2 d3
  dsimp only at c0 c1 c2 c3 d0 d1 d2 d3
  clear ht hv hk hl h9 h8
  go_enter Tryd.func5, Tryd.ntmps5
  go_wp2_with fail
  go_region
  all_goals
    have c0' := ((show Below w.heap.size w w.drew from kqx).cell (p := ⟨b, off, none⟩) hbw).trans c0
    go_wp2_with fail
    refine (HF1 _ kqx).mono ?_
    rintro _ w1 ⟨⟨qf, cf, rfl, hIL⟩, hb1'⟩
    have hb1 : Below w.heap.size w w1 := kqt kqx hb1'
    have HQ : Hid (IL w1 qf (offs k 1)) := hIL
    clear hIL hb1' c0 c1 c2 c3 d0 d1 d2 d3 c0' HF1
    go_wp2_with fail
    go_loopw [6, 7] (fun iv _ wr => ∃ (a r : Tp) (i : Nat), Hid (k = a.app r) ∧ Hid (a.len = i) ∧ i ≤ k.len ∧ iv = .int .i64 i ∧ Hid (blw true a l = true) ∧ Below w1.heap.size w1 wr) (fun iv _ _ => k.len - (intOf iv).toNat)
    case atStart => exact ⟨.nil, k, 0, rfl, rfl, Nat.zero_le _, rfl, by show _ = _; rw [blw], Below.refl _ _⟩
    case round =>
      rename World => wr
      obtain ⟨a, r, i, HD, HI, hik, rfl, HF, hbr⟩ := hrel
      have hb0r := kqt hb1 hbr
      by_cases hlt : i < k.len
      · have i3 : (i : Int) < (k.len : Int) := by omega
        obtain ⟨f, kf, r2, hr⟩ := rest_cons HD.out (by rw [HI.out]; exact hlt)
        have hd := HD.out
        rw [hr] at hd
        have ho := offs_at hd 1
        rw [HI.out] at ho
        obtain ⟨bf, of_, rfl, hbf, x0⟩ := (HQ.out.up hbr).atK ho
        obtain ⟨i5, hbt, x2, x3⟩ := rec_field (HTK.out.up hb0r) hd
        obtain ⟨xa, ka, e1, hTa, hka9, hkal, HPA⟩ := rec_part HFK.out HTK.out HL9.out.1 hd
        subst e1
        have HX : Hid (blw true k l = (fldBl l f.s (.cons xa ka .nil) && blw true r2 l)) := by show _ = _; rw [hd, blw_app, HF.out, Bool.true_and, blw_fldBl]
        have HG : Hid (fldBl l f.s (.cons xa ka .nil) = true → blw true (a.app (.cons f (.cons xa ka .nil) .nil)) l = true) := fun h => by rw [blw_app, HF.out, blw_fldBl, h, show blw true .nil l = true by rw [blw]]; rfl
        have HD2 : Hid (k = (a.app (.cons f (.cons xa ka .nil) .nil)).app r2) := by show _ = _; rw [← step_app]; exact hd
        have HI2 : Hid ((a.app (.cons f (.cons xa ka .nil) .nil)).len = i + 1) := by show _ = _; rw [snoc_len, HI.out]
        have HBK := ih xa ka (by omega)
        obtain ⟨A, hA⟩ : ∃ A, A = 1 + a.flat.length := ⟨_, rfl⟩
        rw [← hA] at x0 x2 x3 i5 HPA
        have hA9 : A ≤ 1000 := by have := HL9.out; omega
        clear hr hd ho HD HF HI hA x2 hkal
        have HN := HK2 wr hb0r f.s
        go_wp2_with fail
        refine HN.mono ?_
        rintro _ w2 ⟨hfk, hb2⟩
        have hb02 := kqt hb0r hb2
        have y0 := (hb2.cell (p := ⟨bf, of_ + i, none⟩) hbf).trans x0
        clear x0 x3 HN
        rcases hfk with ⟨hno, rfl⟩ | ⟨a2, q2, g, kg, hd2, hyes, rfl⟩
        · have HR : Hid (blw true k l = false) := by show _ = _; rw [HX.out, fldBl_none hno]; rfl
          clear HX HG hno HPA HBK
          go_wp2
          go_ret
          exact ⟨by rw [HR.out]; rfl, hb02⟩
        · obtain ⟨xb, kb, e2, hTb, hkb9, _, HPB⟩ := rec_part HFL.out HVK.out HL9.out.2 hd2
          subst e2
          have hfl2 := field_len hd2
          have HX2 : Hid (blw true k l = (blw false (.cons xa ka .nil) (.cons xb kb .nil) && blw true r2 l)) := by show _ = _; rw [HX.out, fldBl_some hyes]
          have HG2 : Hid (blw false (.cons xa ka .nil) (.cons xb kb .nil) = true → blw true (a.app (.cons f (.cons xa ka .nil) .nil)) l = true) := fun h => HG.out (by rw [fldBl_some hyes]; exact h)
          have HB2 := fun W p' c' q' d' (h1 : AK0 W (xa :: ka.flat) p' c') (h2 : AK0 W (xb :: kb.flat) q' d') => HBK xb kb W p' c' q' d' h1 h2 hTa hTb hka9 hkb9
          obtain ⟨B, hB⟩ : ∃ B, B = 1 + a2.flat.length := ⟨_, rfl⟩
          rw [← hB] at HPB ⊢
          have hB9 : B ≤ 1000 := by have := HL9.out; omega
          have iB : ¬ (B : Int) < 0 := by omega
          have iB2 : (0 : Int) ≤ (B : Int) := by omega
          clear HX HG hyes hd2 hfl2 hB HBK hTa hTb
          generalize blw false (.cons xa ka .nil) (.cons xb kb .nil) = res at *
          cases res
          · have HR : Hid (blw true k l = false) := by show _ = _; rw [HX2.out]; rfl
            clear HX2 HG2
            go_wp2_with fail
            refine (HPA _ hb02).mono ?_
            rintro _ w3 ⟨⟨p3, c3', rfl, hk3, _⟩, hb3⟩
            go_wp2_with fail
            refine (HPB _ (kqt hb02 hb3)).mono ?_
            rintro _ w4 ⟨⟨p4, c4', rfl, hk4, _⟩, hb4⟩
            go_wp2_with fail
            refine (HB2 _ _ _ _ _ (hk3.up hb4) hk4).mono ?_
            rintro _ w5 ⟨rfl, hb5⟩
            go_wp2
            go_ret
            exact ⟨by rw [HR.out]; rfl, kqt hb02 (kqt hb3 (kqt hb4 hb5))⟩
          · have HG3 : Hid (blw true (a.app (.cons f (.cons xa ka .nil) .nil)) l = true) := HG2.out rfl
            clear HX2 HG2
            go_wp2_with fail
            refine (HPA _ hb02).mono ?_
            rintro _ w3 ⟨⟨p3, c3', rfl, hk3, _⟩, hb3⟩
            go_wp2_with fail
            refine (HPB _ (kqt hb02 hb3)).mono ?_
            rintro _ w4 ⟨⟨p4, c4', rfl, hk4, _⟩, hb4⟩
            go_wp2_with fail
            refine (HB2 _ _ _ _ _ (hk3.up hb4) hk4).mono ?_
            rintro _ w5 ⟨rfl, hb5⟩
            go_wp2
            go_roundw
            case rel => exact ⟨a.app (.cons f (.cons xa ka .nil) .nil), r2, i + 1, HD2, HI2, by omega, by go_num, HG3, kqt hbr (kqt hb2 (kqt hb3 (kqt hb4 hb5)))⟩
            case measure => simp [intOf]; omega
      · have i3 : ¬ (i : Int) < (k.len : Int) := by omega
        have hr := rest_nil HD.out (by rw [HI.out]; exact hlt)
        have HX : Hid (blw true k l = true) := by show _ = _; have := HD.out; rw [hr, tp_app_nil] at this; rw [this]; exact HF.out
        have HS := HF2 wr hb0r
        clear hr HD HF HI ih HK2 HF2
        go_wp2_with fail
        refine HS.mono ?_
        rintro _ w3 ⟨⟨qg, cg, rfl, hIL⟩, hb3'⟩
        have hb3 := kqt hb0r hb3'
        have HQ2 : Hid (IL w3 qg (offs l 1)) := hIL
        clear HS hIL hb3' HQ
        go_wp2_with fail
        go_loopw [8, 9] (fun iv _ w4 => ∃ (a r : Tp) (i : Nat), Hid (l = a.app r) ∧ Hid (a.len = i) ∧ i ≤ l.len ∧ iv = .int .i64 i ∧ Hid (musts k a = true) ∧ Below w3.heap.size w3 w4) (fun iv _ _ => l.len - (intOf iv).toNat)
        case atStart => exact ⟨.nil, l, 0, rfl, rfl, Nat.zero_le _, rfl, rfl, Below.refl _ _⟩
        case round =>
          rename World => w4
          obtain ⟨a, r, i, HD, HI, hik, rfl, HF, hb4⟩ := hrel
          have hb04 := kqt hb3 hb4
          by_cases hlt : i < l.len
          · have i4 : (i : Int) < (l.len : Int) := by omega
            obtain ⟨f, kf, r2, hr⟩ := rest_cons HD.out (by rw [HI.out]; exact hlt)
            have hd := HD.out
            rw [hr] at hd
            have ho := offs_at hd 1
            rw [HI.out] at ho
            obtain ⟨bf, of_, rfl, hbf, x0⟩ := (HQ2.out.up hb4).atK ho
            obtain ⟨i5, hbt, x2, x3⟩ := rec_field (HVK.out.up hb04) hd
            have hn01 := (Fl.mid (p := a) (f := f) (kf := kf) (r := r2) (by rw [← hd]; exact HFL.out)).2.1
            have HN01 : Hid (f.n = 0 ∨ f.n = 1) := hn01
            have HX2 : Hid (musts k l = (mstB k f && musts k r2)) := by show _ = _; rw [hd, musts_app, HF.out, Bool.true_and, musts_mst]
            have HG : Hid (mstB k f = true → musts k (a.app (.cons f kf .nil)) = true) := fun h => by rw [musts_app, HF.out, musts_mst, h]; rfl
            have HD2 : Hid (l = (a.app (.cons f kf .nil)).app r2) := by show _ = _; rw [← step_app]; exact hd
            have HI2 : Hid ((a.app (.cons f kf .nil)).len = i + 1) := by show _ = _; rw [snoc_len, HI.out]
            have hfl := field_len hd
            obtain ⟨A, hA⟩ : ∃ A, A = 1 + a.flat.length := ⟨_, rfl⟩
            rw [← hA] at x0 x2 x3 i5
            have hA9 : A ≤ 1000 := by have := HL9.out; omega
            have HC := HK1 w4 hb04 f.s
            clear hr hd ho HD HF HI hA hn01 hfl
            go_wp2_with fail
            refine HC.mono ?_
            rintro _ w5 ⟨hfk, hb5⟩
            have hb05 := kqt hb04 hb5
            have y0 := (hb5.cell (p := ⟨bf, of_ + i, none⟩) hbf).trans x0
            have y2 := (hb5.cell (p := ⟨b', off' + A * 4 + 1, none⟩) hbt).trans x2
            clear x0 x2 x3 HC
            rcases HN01.out with hn | hn
            · rw [hn] at y2
              have HG3 : Hid (musts k (a.app (.cons f kf .nil)) = true) := HG.out (mst_free hn)
              clear HX2 HG hn
              rcases hfk with ⟨hno, rfl⟩ | ⟨a2, q2, g, kg, hd2, hyes, rfl⟩
              · clear hno
                go_wp2_with fail
                go_roundw
                case rel => exact ⟨a.app (.cons f kf .nil), r2, i + 1, HD2, HI2, by omega, by go_num, HG3, kqt hb4 hb5⟩
                case measure => simp [intOf]; omega
              · clear hd2 hyes
                go_wp2_with fail
                go_roundw
                case rel => exact ⟨a.app (.cons f kf .nil), r2, i + 1, HD2, HI2, by omega, by go_num, HG3, kqt hb4 hb5⟩
                case measure => simp [intOf]; omega
            · rw [hn] at y2
              rcases hfk with ⟨hno, rfl⟩ | ⟨a2, q2, g, kg, hd2, hyes, rfl⟩
              · have HR : Hid (musts k l = false) := by show _ = _; rw [HX2.out, mst_none hn hno]; rfl
                clear HX2 HG hn hno
                go_wp2_with fail
                go_ret
                exact ⟨by rw [HR.out, Bool.and_false]; rfl, hb05⟩
              · obtain ⟨j5, hbj, z2, _⟩ := rec_field (HTK.out.up hb05) hd2
                have hg01 := (Fl.mid (p := a2) (f := g) (kf := kg) (r := q2) (by rw [← hd2]; exact HFK.out)).2.1
                have hm := mst_some hn hyes
                have hfl2 := field_len hd2
                obtain ⟨B, hB⟩ : ∃ B, B = 1 + a2.flat.length := ⟨_, rfl⟩
                rw [← hB] at z2 j5 ⊢
                have hB9 : B ≤ 1000 := by have := HL9.out; omega
                have iB : ¬ (B : Int) < 0 := by omega
                have iB2 : (0 : Int) ≤ (B : Int) := by omega
                clear hd2 hyes hB hn hfl2
                rcases hg01 with hg | hg
                · rw [hg] at z2
                  have HR : Hid (musts k l = false) := by show _ = _; rw [HX2.out, hm, hg]; rfl
                  clear HX2 HG hm hg
                  go_wp2_with fail
                  go_ret
                  exact ⟨by rw [HR.out, Bool.and_false]; rfl, hb05⟩
                · rw [hg] at z2
                  have HG3 : Hid (musts k (a.app (.cons f kf .nil)) = true) := HG.out (by rw [hm, hg]; rfl)
                  clear HX2 HG hm hg
                  go_wp2_with fail
                  go_roundw
                  case rel => exact ⟨a.app (.cons f kf .nil), r2, i + 1, HD2, HI2, by omega, by go_num, HG3, kqt hb4 hb5⟩
                  case measure => simp [intOf]; omega
          · have i4 : ¬ (i : Int) < (l.len : Int) := by omega
            have hr := rest_nil HD.out (by rw [HI.out]; exact hlt)
            have HR : Hid (musts k l = true) := by show _ = _; have := HD.out; rw [hr, tp_app_nil] at this; rw [this]; exact HF.out
            clear hr HD HF HI
            go_wp2
            go_ret
            exact ⟨by rw [HR.out, HX.out]; rfl, hb04⟩
/-- BelowKind of any two types. -/
theorem belRK_all : ∀ (n : Nat) (x : Nd) (k : Tp), k.flat.length < n → BelRK x k
  | 0, _, _, h => absurd h (by omega)
  | n + 1, x, k, h => by
    intro y l w p c q d ht hv hx hy h9 h8
    have ih : ∀ f kf, kf.flat.length < k.flat.length → BelRK f kf := fun f kf hf => belRK_all n f kf (by omega)
    have hTx := T1.iff.1 hx
    have hTy := T1.iff.1 hy
    rw [blw_cons]
    by_cases h1 : x.op = 49 ∨ y.op = 48
    · rw [if_pos h1]
      refine belR_yes x k y l w p c q d ht hv ?_
      by_cases e : x.op = 49
      · exact .inl e
      · exact .inr ⟨e, h1.resolve_left e⟩
    rw [if_neg h1]
    by_cases h2 : x.op = y.op
    · rw [if_neg (by simpa using h2)]
      cases hTx with
      | leaf o ho =>
        have hyn : l = .nil := hTy.nil (by rw [← h2]; simp [lfN]; omega) (by rw [← h2]; simp [lfN]; omega)
        have hye : y = lfN o := by
          cases hTy with
          | leaf o' ho' => simp [lfN] at h2; rw [h2]
          | ent s' hs' => simp [lfN] at h2; omega
          | set k' hk' => simp [lfN] at h2; omega
          | rcd k' hk' => simp [lfN] at h2; omega
        subst hye hyn
        rw [if_neg (by simp [lfN]; omega), if_neg (by simp [lfN]; omega)]
        have := belR_same (lfN o) .nil (lfN o) .nil w p c q d ht hv o (by simp [lfN] at h1; omega) rfl rfl (by simp [lfN] at h1; omega)
        have e1 : decide ((lfN o).s = (lfN o).s) = true := decide_eq_true rfl
        have e2 : ndEq (lfN o) (lfN o) = true := ndEq_iff.2 rfl
        rw [e1] at this
        rw [e2]
        exact this
      | ent s hs =>
        cases hTy with
        | leaf o' ho' => simp [lfN] at h2; omega
        | set k' hk' => simp [lfN] at h2
        | rcd k' hk' => simp at h2
        | ent s' hs' =>
          rw [if_neg (by simp), if_neg (by simp)]
          have := belR_same ⟨44, 0, s, e0⟩ .nil ⟨44, 0, s', e0⟩ .nil w p c q d ht hv 44 (by simp) rfl rfl (by simp)
          have e2 : ndEq ⟨44, 0, s, e0⟩ ⟨44, 0, s', e0⟩ = decide (s = s') := by
            rw [Bool.eq_iff_iff, ndEq_iff]
            simp
          rw [e2]
          exact this
      | set k hk =>
        cases hTy with
        | leaf o' ho' => simp [lfN] at h2; omega
        | ent s' hs' => simp [lfN] at h2
        | rcd k' hk' => simp [lfN] at h2
        | set l hl =>
          rw [if_pos (show (lfN 45).op = 45 from rfl)]
          obtain ⟨z, kz, rfl, _⟩ := hk.of
          obtain ⟨z2, lz, rfl, _⟩ := hl.of
          have hf : (Tp.cons z kz .nil).flat = z :: kz.flat := by simp [Tp.flat]
          have hf2 : (Tp.cons z2 lz .nil).flat = z2 :: lz.flat := by simp [Tp.flat]
          rw [hf] at ht
          rw [hf2] at hv
          rw [hf, List.length_cons] at h9 ih ⊢
          rw [hf2, List.length_cons] at h8 ⊢
          exact belR_set z kz z2 lz w p c q d ht hv hk hl (by omega) (by omega) (ih z kz (by omega))
      | rcd k hk =>
        cases hTy with
        | leaf o' ho' => simp [lfN] at h2; omega
        | ent s' hs' => simp at h2
        | set l hl => simp [lfN] at h2
        | rcd l hl =>
          rw [if_neg (by simp), if_pos (show (46 : Int) = 46 from rfl)]
          exact belR_rec k l w p c q d ht hv hk hl h9 h8 ih
    · rw [if_pos (by simpa using h2)]
      exact belR_diff x k y l w p c q d ht hv (fun e => h1 (.inl e)) (fun e => h1 (.inr e)) h2
end Go.Proofs.YtckjndiepojgfaaDoor
