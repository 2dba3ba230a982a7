/- The document's OwnKind: by walks of its own text. -/
import Derived.Test.YtckjndiepojgfaaGreatDoorG22
import Derived.Test.YtckjndiepojgfaaGreatDoorG19
import Derived.Test.YtckjndiepojgfaaGreatDoorG23
namespace Go.Proofs.YtckjndiepojgfaaGreatDoor
open Go.RowKit
set_option linter.unusedVariables false
set_option linter.unusedSimpArgs false
set_option maxRecDepth 100000

/-- What OwnKind tells. -/
def OwnRK (y : Nd) (l : Tp) : Prop := ∀ (w : World) (q : Option Addr) (d : Nat), AK0 w (y :: l.flat) q d → okV none (.cons y l .nil) → vfault (y :: l.flat) = 0 →
    Calls Tryz.prog 13 #[.slice q (l.flat.length + 1) d] w fun e w' => KRet w' (ow false (.cons y l .nil)).flat e ∧ Below w.heap.size w w'
/-- A new list of one node. -/
theorem one_newN {w W' : World} {B : Nat} (x : Nd) (hx : x.wf) (hB : B = w.heap.size) (hb : Below (w.alloc (.cells #[.int .i64 x.op, .int .i64 x.n, .string x.s, .string x.t] 55)).heap.size (w.alloc (.cells #[.int .i64 x.op, .int .i64 x.n, .string x.s, .string x.t] 55)) W') : KRet W' [x] (.returned (.slice (some ⟨B, 0, none⟩) 1 1)) := by
  have hk := (Blk.new w (B := B) #[.int .i64 x.op, .int .i64 x.n, .string x.s, .string x.t] 55 hB).up hb
  refine ⟨_, _, rfl, ⟨.inr ⟨B, 0, rfl, hk.lt, fun i z hz => ?_⟩, Nat.le_refl _, by unfold maxLen; omega⟩⟩
  cases i with
  | succ i => simp at hz
  | zero =>
    simp only [List.getElem?_cons_zero, Option.some.injEq] at hz
    subst hz
    exact ⟨hk.cell 0, hk.cell 1, hk.cell 2, hk.cell 3, hx⟩
theorem lf_wf (o : Int) (h : o ≤ 100) : (lfN o).wf := by
  simp [lfN, e0, Nd.wf, maxLen]
  exact Nat.zero_le _
theorem okF_left : ∀ {a b : Tp} {m : ByteArray}, okV (some m) (a.app b) → okV (some m) a
  | .nil, b, m, h => okV.nil
  | .cons y l r, b, m, h => by
    obtain ⟨h1, h2, h3⟩ := okV.some_iff.1 h
    exact okV.some_iff.2 ⟨h1, h2, okF_left h3⟩
section
variable (y : Nd) (l : Tp) (w : World) (q : Option Addr) (d : Nat) (hv : AK0 w (y :: l.flat) q d)
include hv
set_option maxHeartbeats 1000000 in
theorem ownR_leaf (o : Int) (ho : o = 1 ∨ o = 2 ∨ o = 3) (h : y.op = o) :
    Calls Tryz.prog 13 #[.slice q (l.flat.length + 1) d] w fun e w' => KRet w' [lfN (o + 40)] e ∧ Below w.heap.size w w' := by
  obtain ⟨b, off, hp, hbw, c0, c1, c2, c3, _⟩ := hv.nl.head
  have i1 : (0 : Int) < ((l.flat.length : Int) + 1) := by omega
  subst hp
  clear hv
  obtain ⟨yo, yn, ys, yt⟩ := y
  dsimp only at h c0 c1 c2 c3
  subst h
  rcases ho with rfl | rfl | rfl
  all_goals
    go_enter Tryz.func13, Tryz.ntmps13
    go_wp2
    go_ret
    exact ⟨one_newN (lfN _) (lf_wf _ (by omega)) (by simp) (Below.refl _ _), kqx⟩
set_option maxHeartbeats 1000000 in
theorem ownR_ent (h : y.op = 4) :
    Calls Tryz.prog 13 #[.slice q (l.flat.length + 1) d] w fun e w' => KRet w' [⟨44, 0, y.s, e0⟩] e ∧ Below w.heap.size w w' := by
  obtain ⟨b, off, hp, hbw, c0, c1, c2, c3, hyw⟩ := hv.nl.head
  have i1 : (0 : Int) < ((l.flat.length : Int) + 1) := by omega
  subst hp
  clear hv
  obtain ⟨yo, yn, ys, yt⟩ := y
  dsimp only at h c0 c1 c2 c3
  subst h
  have HW : Hid ((⟨44, 0, ys, e0⟩ : Nd).wf) := ⟨hyw.1, by show e0.size ≤ maxLen; unfold e0 maxLen; exact Nat.zero_le _, by show (0 : Int) ≤ _; omega⟩
  clear hyw
  go_enter Tryz.func13, Tryz.ntmps13
  go_wp2
  go_ret
  exact ⟨one_newN ⟨44, 0, ys, e0⟩ HW.out (by simp) (Below.refl _ _), kqx⟩
set_option maxHeartbeats 2000000 in
theorem ownR_set (ho : okV none (.cons y l .nil)) (hz : vfault (y :: l.flat) = 0) (h5 : y.op = 5) (ih : ∀ f lf, lf.flat.length < l.flat.length → OwnRK f lf) :
    Calls Tryz.prog 13 #[.slice q (l.flat.length + 1) d] w fun e w' => KRet w' (lfN 45 :: (jall (.cons (lfN 49) .nil .nil) (ow false l)).flat) e ∧ Below w.heap.size w w' := by
  obtain ⟨hsg, hcnt, hol, hh, hpv⟩ := set_parts hz ho h5
  have hl2 := (isVal_past hz).1
  obtain ⟨b', off', rfl, hbw', d0, d1, d2, d3, _⟩ := hv.nl.head
  have hlen : l.len ≤ 200 := by have := tp_len_flat l; simp at hl2; omega
  have HO : Hid (okV none l) := hol
  have HPV : Hid (∀ s ∈ rows l, vfault s = 0) := hpv
  have HH : Hid (∀ s ∈ rows l, ∃ z t, s = z :: t ∧ z.op ≠ 7) := hh
  have i2 : (0 : Int) < ((l.flat.length : Int) + 1) := by omega
  obtain ⟨V, hV⟩ : ∃ V, V = w.alloc (.cells #[.int .i64 y.op, .int .i64 y.n, .string y.s, .string y.t] 55) := ⟨_, rfl⟩
  have hbV : Below w.heap.size w V := by rw [hV]; exact kqx
  have hBV : Blk V w.heap.size #[.int .i64 y.op, .int .i64 y.n, .string y.s, .string y.t] 55 := by rw [hV]; exact Blk.new w _ _ rfl
  have HC := refParts_set y l.flat (rows l) hsg hh (by rw [rows_length]; exact hcnt) b' off' d V (hv.nl.up hbV) (Nat.lt_of_lt_of_le hbw' hbV.size) hl2 hv.le hv.cm h5
  have hl9 : l.flat.length ≤ 199 := by simp at hl2; omega
  rw [List.length_cons] at HC
  obtain ⟨yo, yn, ys, yt⟩ := y
  dsimp only at h5 d0 d1 d2 d3 hV hBV
  subst h5
  have f0 : V.cell? ⟨w.heap.size, 0, none⟩ = some (.int .i64 5) := hBV.cell 0
  rw [hV] at f0
  have HBV : Hid (Blk V w.heap.size #[.int .i64 5, .int .i64 yn, .string ys, .string yt] 55) := hBV
  clear hsg hcnt hol hh hpv hv hz ho hl2 hBV
  go_enter Tryz.func13, Tryz.ntmps13
  go_wp2_with fail
  rw [← hV]
  refine HC.mono ?_
  rintro _ w1 ⟨⟨q1, c1', q2, c2', rfl, hLL, hTL⟩, hb1⟩
  rw [rows_length]
  have f1 : w1.cell? ⟨w.heap.size, 0, none⟩ = some (.int .i64 5) := (HBV.out.up hb1).cell 0
  obtain ⟨V1, hV1⟩ : ∃ V1, V1 = w1.alloc (.cells #[.int .i64 49, .int .i64 0, .string ⟨#[]⟩, .string ⟨#[]⟩] 55) := ⟨_, rfl⟩
  have hb11 : Below w1.heap.size w1 V1 := by rw [hV1]; exact kqx
  have HL : Hid (LL V1 q1 ((rows l).map strip)) := hLL.up hb11
  have HA0 : Hid (AK0 V1 [lfN 49] (some ⟨w1.heap.size, 0, none⟩) 1) := by
    have h := (on_one w1 0 49 (by omega) (Nat.zero_le _)).slice (by simp)
    rw [← hV1] at h
    obtain ⟨g, cap, e, _, _, h3, h4, h5, _⟩ := h
    cases e
    exact ⟨h5, h3, h4⟩
  have hb0V := kqt hbV (kqt hb1 hb11)
  clear hLL hTL HC d0 d1 d2 d3 f0 hV
  go_wp2_with fail
  rw [← hV1]
  clear hV1 f1
  go_loopw [6, 7] (fun ov iv wr => ∃ (a r : Tp) (i : Nat) (xa : Nd) (ka : Tp) (qa : Option Addr) (ca : Nat), Hid (l = a.app r) ∧ Hid (a.len = i) ∧ i ≤ l.len ∧ iv = .int .i64 i ∧ ov = .slice qa (ka.flat.length + 1) ca ∧ Hid (jall (.cons (lfN 49) .nil .nil) (ow false a) = .cons xa ka .nil) ∧ Hid (AK0 wr (xa :: ka.flat) qa ca) ∧ Below V1.heap.size V1 wr) (fun _ iv _ => l.len - (intOf iv).toNat)
  case atStart => exact ⟨.nil, l, 0, lfN 49, .nil, some ⟨w1.heap.size, 0, none⟩, 1, rfl, rfl, Nat.zero_le _, rfl, rfl, by show _ = _; rw [show ow false .nil = .nil by rw [ow]]; rfl, HA0, Below.refl _ _⟩
  case round =>
    rename World => wr
    obtain ⟨a, r, i, xa, ka, qa, ca, HD, HI, hik, rfl, rfl, HJ, HA, hbr⟩ := hrel
    have hJT : T1 (.cons xa ka .nil) ∧ ka.flat.length ≤ 890 := by
      have hoa : okV none a := by have h := HO.out; rw [HD.out] at h; exact (okV_app.1 h).1
      have h1 := (ow_ok a).1 hoa
      have h2 := (jall_ok T1.none (ow false a) _ h1.1 T1.none).1
      have h3 := jall_flat (N := 0) (ow false a) _ h1.1 T1.none
      have h4 := (ow_flat a).1 hoa
      have h5 : a.flat.length ≤ l.flat.length := by rw [HD.out, tp_app_flat, List.length_append]; omega
      rw [HJ.out] at h2 h3
      refine ⟨h2, ?_⟩
      simp only [Tp.flat, List.length_cons, List.length_append, List.length_nil] at h3
      omega
    by_cases hlt : i < l.len
    · have i3 : (i : Int) < (l.len : Int) := by omega
      obtain ⟨f, lf, r2, hr⟩ := rest_cons HD.out (by rw [HI.out]; exact hlt)
      have hd := HD.out
      rw [hr] at hd
      have hm1 := (okV.mid (m := none) (p := a) (y := f) (ly := lf) (r := r2) (by rw [← hd]; exact HO.out)).1 rfl
      have hmem : (f :: lf.flat) ∈ rows l := List.mem_of_getElem? (rows_at hd)
      obtain ⟨_, _, e7, h7⟩ := HH.out _ hmem
      cases e7
      have hst : strip (f :: lf.flat) = f :: lf.flat := by rw [strip, if_neg h7]
      obtain ⟨b1, o1, p1, cc1, hq1, hb1', x0, hak⟩ := (HL.out.up hbr).part hd
      rw [hst] at x0 hak
      rw [HI.out, List.length_cons] at x0
      subst hq1
      have hlf := field_len hd
      have HK := ih f lf (by omega) wr _ _ hak hm1 (HPV.out _ hmem)
      have hTo := (own_ok hm1).1
      obtain ⟨xo, ko, hxo, _⟩ := hTo.of
      have hko : ko.flat.length ≤ 890 := by
        have h4 := (ow_flat (.cons f lf .nil)).1 hm1
        rw [hxo] at h4
        simp only [Tp.flat, List.length_cons, List.length_append, List.length_nil] at h4
        omega
      rw [hxo] at HK hTo
      obtain ⟨xn, kn, hxn, _⟩ := (hJT.1.jn hTo).of
      have HJn : Hid (jall (.cons (lfN 49) .nil .nil) (ow false (a.app (.cons f lf .nil))) = .cons xn kn .nil) := by show _ = _; rw [ow_app, jall_app, HJ.out, hxo, ← hxn]; rfl
      have HJC := fun W (hW : Below wr.heap.size wr W) qo co h2 => jnRK xa ka xo ko W qa ca qo co (HA.out.up hW) h2 hJT.1 hTo hJT.2 hko
      rw [hxn] at HJC
      have HD2 : Hid (l = (a.app (.cons f lf .nil)).app r2) := by show _ = _; rw [← step_app]; exact hd
      have HI2 : Hid ((a.app (.cons f lf .nil)).len = i + 1) := by show _ = _; rw [snoc_len, HI.out]
      rw [show (Tp.cons xo ko .nil).flat = xo :: ko.flat by simp [Tp.flat]] at HK
      rw [show (Tp.cons xn kn .nil).flat = xn :: kn.flat by simp [Tp.flat]] at HJC
      clear HD HI hr hd hm1 hmem hst hak hlf h7 HJ hxo hxn hTo hJT HA
      go_wp2_with fail
      refine HK.mono ?_
      rintro _ w5 ⟨⟨q5, c5, rfl, hk5⟩, hb5⟩
      have HC5 := HJC _ hb5 q5 c5 hk5
      clear HJC HK hk5
      rw [List.length_cons]
      go_wp2_with fail
      refine HC5.mono ?_
      rintro _ w6 ⟨⟨q6, c6, rfl, hk6, _⟩, hb6⟩
      have HK6 : Hid (AK0 w6 (xn :: kn.flat) q6 c6) := hk6
      clear hk6 HC5
      rw [List.length_cons]
      go_wp2_with fail
      go_roundw
      case rel => exact ⟨a.app (.cons f lf .nil), r2, i + 1, xn, kn, q6, c6, HD2, HI2, by omega, by go_num, rfl, HJn, HK6, kqt hbr (kqt hb5 hb6)⟩
      case measure => simp [intOf]; omega
    · have i3 : ¬ (i : Int) < (l.len : Int) := by omega
      have hr := rest_nil HD.out (by rw [HI.out]; exact hlt)
      have HR : Hid (jall (.cons (lfN 49) .nil .nil) (ow false l) = .cons xa ka .nil) := by show _ = _; have := HD.out; rw [hr, tp_app_nil] at this; rw [this]; exact HJ.out
      obtain ⟨ba, oa, hqa, hba, _⟩ := HA.out.nl.head
      subst hqa
      obtain ⟨V2, hV2⟩ : ∃ V2, V2 = wr.alloc (.cells #[.int .i64 45, .int .i64 0, .string ⟨#[]⟩, .string ⟨#[]⟩] 55) := ⟨_, rfl⟩
      have hb2 : Below wr.heap.size wr V2 := by rw [hV2]; exact kqx
      have HO2 : Hid (ON V2 w.heap.size (.slice (some ⟨wr.heap.size, 0, none⟩) 1 1) [lfN 45]) := by rw [hV2]; exact on_one wr _ 45 (by omega) (by have := (kqt hb0V hbr).size; omega)
      have HA2 : Hid (NL V2 (some ⟨ba, oa, none⟩) (xa :: ka.flat)) := HA.out.nl.up hb2
      have hbz := kqt hb0V (kqt hbr hb2)
      have hrs := (kqt hb0V hbr).size
      have hka := hJT.2
      clear hr HD HJ HI hJT HA
      go_wp2_with (first | (at_builtin; refine Hid.out ?_))
      show wpList _ _ _ _ _ _
      rw [← hV2]
      refine append_nodesG V2 rfl (.tmp 58) (.tmp 59) rfl w.heap.size (.slice (some ⟨wr.heap.size, 0, none⟩) 1 1) [lfN 45] rfl HO2.out (xa :: ka.flat) (ka.flat.length + 1) rfl ba oa ca HA2.out rfl (by simp; omega) hbz.size ?_
      intro v9 w9 hO9 hg9 ha9
      have hb9 : Below w.heap.size w w9 := hbz.trans (grown_belowG hg9 (fun a e => by simp only [Value.ownBlock, Option.some.injEq] at e; omega) hbz.size)
      obtain ⟨g9, cap9, hv9, _, _, h3, h4, h5, _⟩ := hO9.slice (by simp)
      subst hv9
      have HR9 : Hid (KRet w9 (lfN 45 :: (jall (.cons (lfN 49) .nil .nil) (ow false l)).flat) (.returned (.slice (some ⟨g9, 0, none⟩) ([lfN 45] ++ (xa :: ka.flat)).length cap9))) := by
        rw [HR.out, show (Tp.cons xa ka .nil).flat = xa :: ka.flat by simp [Tp.flat]]
        exact ⟨_, _, rfl, ⟨h5, h3, h4⟩⟩
      generalize ([lfN 45] ++ (xa :: ka.flat)).length = M at *
      clear hO9 h5 h3 h4
      go_wp2
      go_ret
      exact ⟨HR9.out, hb9⟩
set_option maxHeartbeats 2000000 in
theorem ownR_rec (ho : okV none (.cons y l .nil)) (hz : vfault (y :: l.flat) = 0) (h6 : y.op = 6) (ih : ∀ f lf, lf.flat.length < l.flat.length → OwnRK f lf) :
    Calls Tryz.prog 13 #[.slice q (l.flat.length + 1) d] w fun e w' => KRet w' (⟨46, (l.len : Int), e0, e0⟩ :: (ow true l).flat) e ∧ Below w.heap.size w w' := by
  obtain ⟨hsg, hcnt, hol, hh, hpv⟩ := rec_parts hz ho h6
  have hl2 := (isVal_past hz).1
  obtain ⟨b', off', rfl, hbw', d0, d1, d2, d3, _⟩ := hv.nl.head
  have hlen : l.len ≤ 200 := by have := tp_len_flat l; simp at hl2; omega
  have HO : Hid (okV (some e0) l) := hol
  have HPV : Hid (∀ s ∈ rows l, vfault (strip s) = 0) := hpv
  have i2 : (0 : Int) < ((l.flat.length : Int) + 1) := by omega
  obtain ⟨V, hV⟩ : ∃ V, V = w.alloc (.cells #[.int .i64 y.op, .int .i64 y.n, .string y.s, .string y.t] 55) := ⟨_, rfl⟩
  have hbV : Below w.heap.size w V := by rw [hV]; exact kqx
  have hBV : Blk V w.heap.size #[.int .i64 y.op, .int .i64 y.n, .string y.s, .string y.t] 55 := by rw [hV]; exact Blk.new w _ _ rfl
  have HC := refParts_rec y l.flat (rows l) hsg hh (by rw [rows_length]; exact hcnt) b' off' d V (hv.nl.up hbV) (Nat.lt_of_lt_of_le hbw' hbV.size) hl2 hv.le hv.cm h6
  have hl9 : l.flat.length ≤ 199 := by simp at hl2; omega
  have HWF : Hid (∀ x ∈ l.flat, x.wf) := fun x hx => hv.nl.wfs x (by simp [hx])
  rw [List.length_cons] at HC
  obtain ⟨yo, yn, ys, yt⟩ := y
  dsimp only at h6 d0 d1 d2 d3 hV hBV
  subst h6
  have HBV : Hid (Blk V w.heap.size #[.int .i64 6, .int .i64 yn, .string ys, .string yt] 55) := hBV
  clear hsg hcnt hol hh hpv hv hz ho hl2 hBV
  go_enter Tryz.func13, Tryz.ntmps13
  go_wp2_with fail
  rw [← hV]
  refine HC.mono ?_
  rintro _ w1 ⟨⟨q1, c1', q2, c2', rfl, hLL, hTL⟩, hb1⟩
  rw [rows_length]
  have f1 : w1.cell? ⟨w.heap.size, 0, none⟩ = some (.int .i64 6) := (HBV.out.up hb1).cell 0
  obtain ⟨V1, hV1⟩ : ∃ V1, V1 = w1.alloc (.cells #[.int .i64 46, .int .i64 (l.len : Int), .string ⟨#[]⟩, .string ⟨#[]⟩] 55) := ⟨_, rfl⟩
  have hb11 : Below w1.heap.size w1 V1 := by rw [hV1]; exact kqx
  have HL : Hid (LL w1 q1 ((rows l).map strip)) := hLL
  have HT : Hid (TL w1 q2 ((rows l).map nameOf)) := hTL
  have hb0V := kqt hbV hb1
  have hO0 : ON V1 w1.heap.size (.slice (some ⟨w1.heap.size, 0, none⟩) 1 1) [⟨46, (l.len : Int), e0, e0⟩] := by
    refine ⟨⟨by simp [ncells], .inr ⟨w1.heap.size, 1, _, rfl, Nat.le_refl _, by rw [hV1]; exact (MapKept.heap_alloc w1 _).1, Nat.le_refl _, by unfold maxLen; omega, rfl, by simp [ncells, e0]⟩⟩, fun x hx => ?_⟩
    rw [List.mem_singleton.1 hx]
    exact ⟨by show e0.size ≤ maxLen; unfold e0 maxLen; exact Nat.zero_le _, by show e0.size ≤ maxLen; unfold e0 maxLen; exact Nat.zero_le _, by show (l.len : Int) ≤ _; omega⟩
  clear hLL hTL HC d0 d1 d2 d3 hV
  go_wp2_with fail
  rw [← hV1]
  clear hV1 f1
  go_loopw [8, 9] (fun ov iv wr => ∃ (a r : Tp) (i : Nat), Hid (l = a.app r) ∧ Hid (a.len = i) ∧ i ≤ l.len ∧ iv = .int .i64 i ∧ ON wr w1.heap.size ov (⟨46, (l.len : Int), e0, e0⟩ :: (ow true a).flat) ∧ Below w1.heap.size w1 wr) (fun _ iv _ => l.len - (intOf iv).toNat)
  case atStart => exact ⟨.nil, l, 0, rfl, rfl, Nat.zero_le _, rfl, by rw [show ow true .nil = .nil by rw [ow]]; exact hO0, hb11⟩
  case round =>
    rename World => wr
    obtain ⟨a, r, i, HD, HI, hik, rfl, hO, hbr⟩ := hrel
    have hoaF : (ow true a).flat.length ≤ 398 := by
      have h5 : a.flat.length ≤ l.flat.length := by rw [HD.out, tp_app_flat, List.length_append]; omega
      have h6 : ∃ m, okV (some m) a := by
        have h := HO.out
        rw [HD.out] at h
        exact ⟨e0, okF_left h⟩
      obtain ⟨m, h6⟩ := h6
      have h4 := (ow_flat a).2 m h6
      omega
    by_cases hlt : i < l.len
    · have i3 : (i : Int) < (l.len : Int) := by omega
      obtain ⟨f, lf, r2, hr⟩ := rest_cons HD.out (by rw [HI.out]; exact hlt)
      have hd := HD.out
      rw [hr] at hd
      obtain ⟨hl1, hkz, h7⟩ := (okV.mid (m := some e0) (p := a) (y := f) (ly := lf) (r := r2) (by rw [← hd]; exact HO.out)).2 _ rfl
      obtain ⟨z, kz, rfl⟩ := tp_len1 hl1
      have hmem : (f :: (Tp.cons z kz .nil).flat) ∈ rows l := List.mem_of_getElem? (rows_at hd)
      have hst : strip (f :: (Tp.cons z kz .nil).flat) = z :: kz.flat := by rw [strip, if_pos h7]; simp [Tp.flat]
      have HPT : Hid (∀ W, Below w1.heap.size w1 W → ∃ b1 o1 p1 cc1, q1 = some ⟨b1, o1, none⟩ ∧ W.cell? ⟨b1, o1 + i, none⟩ = some (.slice p1 (kz.flat.length + 1) cc1) ∧ AK0 W (z :: kz.flat) p1 cc1) := by
        intro W hW
        obtain ⟨b1, o1, p1, cc1, hq1, hb1', x0, hak⟩ := (HL.out.up hW).part hd
        rw [hst] at x0 hak
        rw [HI.out, List.length_cons] at x0
        exact ⟨b1, o1, p1, cc1, hq1, x0, hak⟩
      obtain ⟨b2, o2, hq2, hb2', x1⟩ := (HT.out.up hbr).part hd h7
      rw [HI.out] at x1
      subst hq2
      have hfs : f.s.size ≤ maxLen := by
        refine (HWF.out f ?_).1
        rw [hd, tp_app_flat]
        simp [Tp.flat]
      have hvz := HPV.out _ hmem
      rw [hst] at hvz
      have hlf := field_len hd
      simp only [Tp.flat, List.append_nil, List.length_cons] at hlf
      obtain ⟨xo, ko, hxo, _⟩ := (own_ok hkz).1.of
      have hko : ko.flat.length ≤ 890 := by
        have h4 := (ow_flat (.cons z kz .nil)).1 hkz
        rw [hxo] at h4
        simp only [Tp.flat, List.length_cons, List.length_append, List.length_nil] at h4
        omega
      have HK := fun W p1 cc1 (hA : AK0 W (z :: kz.flat) p1 cc1) => ih z kz (by omega) W p1 cc1 hA hkz hvz
      rw [hxo, show (Tp.cons xo ko .nil).flat = xo :: ko.flat by simp [Tp.flat]] at HK
      have HE : Hid ((⟨46, (l.len : Int), e0, e0⟩ : Nd) :: (ow true (a.app (.cons f (.cons z kz .nil) .nil))).flat = ((⟨46, (l.len : Int), e0, e0⟩ :: (ow true a).flat) ++ [fdN f.s 1]) ++ (xo :: ko.flat)) := by
        show _ = _
        rw [owF_app, ow_flds, hxo, tp_app_flat]
        simp [Tp.flat, ow]
      have HD2 : Hid (l = (a.app (.cons f (.cons z kz .nil) .nil)).app r2) := by show _ = _; rw [← step_app]; exact hd
      have HI2 : Hid ((a.app (.cons f (.cons z kz .nil) .nil)).len = i + 1) := by show _ = _; rw [snoc_len, HI.out]
      obtain ⟨V2, hV2⟩ : ∃ V2, V2 = wr.alloc (.cells #[.int .i64 47, .int .i64 1, .string f.s, .string ⟨#[]⟩] 55) := ⟨_, rfl⟩
      have hb2 : Below wr.heap.size wr V2 := by rw [hV2]; exact kqx
      have HN2 : Hid (NL V2 (some ⟨wr.heap.size, 0, none⟩) [fdN f.s 1]) := by rw [hV2]; exact NL.oneK wr _ (fdN f.s 1) ⟨hfs, by show e0.size ≤ maxLen; unfold e0 maxLen; exact Nat.zero_le _, by show (1 : Int) ≤ _; omega⟩ rfl
      have hO2 := hO.below hb2
      have hbr2 := hbr.trans (hb2.mono hbr.size)
      obtain ⟨g, cap, hgv, hg1, _⟩ := hO2.slice (by simp)
      subst hgv
      have HO2 : Hid (ON V2 w1.heap.size (.slice (some ⟨g, 0, none⟩) ((ow true a).flat.length + 1) cap) (⟨46, (l.len : Int), e0, e0⟩ :: (ow true a).flat)) := hO2
      clear HD HI hr hd hmem hst hkz hvz hxo hO hO2 hfs h7 hl1 hlf
      simp only [List.length_cons]
      generalize f.s = fs at *
      go_wp2_with (first | (at_builtin; rw [← hV2]; refine Hid.out ?_))
      show wpList _ _ _ _ _ _
      refine append_nodesG V2 rfl (.tmp 71) (.tmp 77) rfl w1.heap.size (.slice (some ⟨g, 0, none⟩) ((ow true a).flat.length + 1) cap) (⟨46, (l.len : Int), e0, e0⟩ :: (ow true a).flat) rfl HO2.out [fdN fs 1] 1 rfl wr.heap.size 0 1 HN2.out rfl (by simp; omega) hbr2.size ?_
      intro v5 w5 hO5 hg5 ha5
      have hb5 : Below w1.heap.size w1 w5 := hbr2.trans (grown_belowG hg5 (fun a e => by simp only [Value.ownBlock, Option.some.injEq] at e; omega) hbr2.size)
      obtain ⟨g5, cap5, hgv5, hg51, _⟩ := hO5.slice (by simp)
      subst hgv5
      rw [show (((⟨46, (l.len : Int), e0, e0⟩ : Nd) :: (ow true a).flat) ++ [fdN fs 1]).length = (ow true a).flat.length + 1 + 1 by simp] at hO5 ⊢
      obtain ⟨b1, o1, p1, cc1, hq1, x0, hak⟩ := HPT.out w5 hb5
      subst hq1
      have HC5 := HK w5 p1 cc1 hak
      have HO5 : Hid (ON w5 w1.heap.size (.slice (some ⟨g5, 0, none⟩) ((ow true a).flat.length + 1 + 1) cap5) ((⟨46, (l.len : Int), e0, e0⟩ :: (ow true a).flat) ++ [fdN fs 1])) := hO5
      clear hO5 hak HK HPT hV2 x1
      go_wp2_with fail
      refine HC5.mono ?_
      rintro _ w6 ⟨⟨q6, c6, rfl, hk6⟩, hb6⟩
      have hb06 := hb5.trans (hb6.mono hb5.size)
      obtain ⟨b6, o6, hq6, _⟩ := hk6.nl.head
      subst hq6
      have HO6 := HO5.out.below hb6
      have HK6 : Hid (NL w6 (some ⟨b6, o6, none⟩) (xo :: ko.flat)) := hk6.nl
      clear hk6 HC5 x0
      rw [List.length_cons]
      go_wp2_with (first | (at_builtin; refine Hid.out ?_))
      show wpList _ _ _ _ _ _
      refine append_nodesG w6 rfl (.tmp 79) (.tmp 84) rfl w1.heap.size (.slice (some ⟨g5, 0, none⟩) ((ow true a).flat.length + 1 + 1) cap5) ((⟨46, (l.len : Int), e0, e0⟩ :: (ow true a).flat) ++ [fdN fs 1]) rfl HO6 (xo :: ko.flat) (ko.flat.length + 1) rfl b6 o6 c6 HK6.out rfl (by simp; omega) hb06.size ?_
      intro v7 w7 hO7 hg7 ha7
      rw [← HE.out] at hO7
      have hb7 : Below w1.heap.size w1 w7 := hb06.trans (grown_belowG hg7 (fun a e => by simp only [Value.ownBlock, Option.some.injEq] at e; omega) hb06.size)
      obtain ⟨q7, n7, c7, hgv7⟩ : ∃ q n c, v7 = .slice q n c := by obtain ⟨g, cap, e, _⟩ := hO7.slice (by simp); exact ⟨_, _, _, e⟩
      subst hgv7
      have HO7 : Hid (ON w7 w1.heap.size (.slice q7 n7 c7) (⟨46, (l.len : Int), e0, e0⟩ :: (ow true (a.app (.cons f (.cons z kz .nil) .nil))).flat)) := hO7
      clear HO6 hO7
      go_wp2_with fail
      go_roundw
      case rel => exact ⟨_, r2, i + 1, HD2, HI2, by omega, by go_num, HO7.out, hb7⟩
      case measure => simp [intOf]; omega
    · have i3 : ¬ (i : Int) < (l.len : Int) := by omega
      have hr := rest_nil HD.out (by rw [HI.out]; exact hlt)
      have hla : a = l := by have := HD.out; rw [hr, tp_app_nil] at this; exact this.symm
      obtain ⟨g, cap, hgv, hg1, hg2, h3, h4, h5, _⟩ := hO.slice (by simp)
      subst hgv
      rw [hla] at h3 h5 ⊢
      have HR : Hid (KRet wr (⟨46, (l.len : Int), e0, e0⟩ :: (ow true l).flat) (.returned (.slice (some ⟨g, 0, none⟩) ((⟨46, (l.len : Int), e0, e0⟩ : Nd) :: (ow true l).flat).length cap))) := ⟨_, _, rfl, ⟨h5, h3, h4⟩⟩
      generalize ((⟨46, (l.len : Int), e0, e0⟩ : Nd) :: (ow true l).flat).length = M at *
      have hbz := hb0V.trans (hbr.mono hb0V.size)
      clear hr HD HI hO h5 h3 h4 hla
      go_wp2
      go_ret
      exact ⟨HR.out, hbz⟩
end
theorem ownRK_any : ∀ (N : Nat) (y : Nd) (l : Tp), l.flat.length < N → OwnRK y l
  | 0, y, l, h => by omega
  | N + 1, y, l, h => by
    have ih : ∀ f lf, lf.flat.length < l.flat.length → OwnRK f lf := fun f lf hf => ownRK_any N f lf (by omega)
    intro w q d hv ho hz
    obtain ⟨⟨h7, hnd, hway⟩, _⟩ := okV.none_iff.1 ho
    rw [ow_cons, show ow false .nil = .nil by rw [ow]]
    rcases hway with ⟨h5, _, hk⟩ | ⟨h6, _, hk⟩ | ⟨h5, h6, rfl⟩
    · rw [if_neg (by omega), if_neg (by omega), if_neg (by omega), if_neg (by omega), if_pos h5]
      simp only [Tp.flat, List.append_nil]
      exact ownR_set y l w q d hv ho hz h5 ih
    · rw [if_neg (by omega), if_neg (by omega), if_neg (by omega), if_neg (by omega), if_neg (by omega), owT_len]
      simp only [Tp.flat, List.append_nil]
      exact ownR_rec y l w q d hv ho hz h6 ih
    · have ho : y.op = 1 ∨ y.op = 2 ∨ y.op = 3 ∨ y.op = 4 := by
        unfold ndOk at hnd
        repeat' split at hnd
        all_goals first | omega | cases hnd
      rcases ho with e | e | e | e
      · rw [if_pos e]; exact ownR_leaf y _ w q d hv 1 (by omega) e
      · rw [if_neg (by omega), if_pos e]; exact ownR_leaf y _ w q d hv 2 (by omega) e
      · rw [if_neg (by omega), if_neg (by omega), if_pos e]; exact ownR_leaf y _ w q d hv 3 (by omega) e
      · rw [if_neg (by omega), if_neg (by omega), if_neg (by omega), if_pos e]; exact ownR_ent y _ w q d hv e
theorem ownRK (y : Nd) (l : Tp) : OwnRK y l := ownRK_any _ y l (Nat.lt_succ_self _)
end Go.Proofs.YtckjndiepojgfaaGreatDoor
