/- The document's HasKind, where no part is asked: by walks of its own text. The document's Field, and HasKind of a set: by walks of their own texts. The document's HasKind, of a record, and whole: by walks of its own text. -/
import Derived.Test.YtckjndiepojgfaaGreatDoorG17
import Derived.Test.YtckjndiepojgfaaGreatDoorG12
import Derived.Deep.RegionHeld
import Derived.Test.YtckjndiepojgfaaGreatDoorG18
namespace Go.Proofs.YtckjndiepojgfaaGreatDoor
open Go.RowKit
set_option linter.unusedVariables false
set_option linter.unusedSimpArgs false
set_option maxRecDepth 100000

/-- What HasKind tells of a value, whatever the type is. -/
def HasRK (y : Nd) (l : Tp) : Prop := ∀ (x : Nd) (k : Tp) (w : World) (p : Option Addr) (c : Nat) (q : Option Addr) (d : Nat), AK0 w (x :: k.flat) p c → AK0 w (y :: l.flat) q d → T1 (.cons x k .nil) → okV none (.cons y l .nil) → vfault (y :: l.flat) = 0 → k.flat.length ≤ 890 →
    Calls Tryz.prog 11 #[.slice p (k.flat.length + 1) c, .slice q (l.flat.length + 1) d] w fun e w' => e = .returned (.bool (hs false (.cons y l .nil) (.cons x k .nil))) ∧ Below w.heap.size w w'
theorem hs_leaf {y x : Nd} {l k : Tp} : hs false (.cons y l .nil) (.cons x k .nil) = if x.op = 48 then true else if x.op = 41 then decide (y.op = 1) else if x.op = 42 then decide (y.op = 2) else if x.op = 43 then decide (y.op = 3) else if x.op = 44 then decide (y.op = 4 ∧ y.s = x.s)
      else if x.op = 45 then decide (y.op = 5) && hs false l k else if x.op = 46 then decide (y.op = 6) && hs true l k && noMiss l k else false := by
  rw [hs_cons, show hs false .nil (.cons x k .nil) = true by rw [hs], Bool.and_true]
section
variable (y : Nd) (l : Tp) (x : Nd) (k : Tp) (w : World) (p : Option Addr) (c : Nat) (q : Option Addr) (d : Nat) (ht : AK0 w (x :: k.flat) p c) (hv : AK0 w (y :: l.flat) q d)
include ht hv
set_option maxHeartbeats 1000000 in
theorem hasR_false (h : x.op = 49 ∨ (x.op = 45 ∧ y.op ≠ 5) ∨ (x.op = 46 ∧ y.op ≠ 6)) :
    Calls Tryz.prog 11 #[.slice p (k.flat.length + 1) c, .slice q (l.flat.length + 1) d] w fun e w' => e = .returned (.bool false) ∧ Below w.heap.size w w' := by
  obtain ⟨b, off, rfl, hbw, c0, c1, c2, c3, _⟩ := ht.nl.head
  obtain ⟨b', off', rfl, hbw', d0, d1, d2, d3, _⟩ := hv.nl.head
  have i1 : (0 : Int) < ((k.flat.length : Int) + 1) := by omega
  have i2 : (0 : Int) < ((l.flat.length : Int) + 1) := by omega
  clear ht hv
  obtain ⟨xo, xn, xs, xt⟩ := x
  obtain ⟨yo, yn, ys, yt⟩ := y
  dsimp only at h c0 c1 c2 c3 d0 d1 d2 d3
  rcases h with rfl | ⟨rfl, h⟩ | ⟨rfl, h⟩
  · go_enter Tryz.func11, Tryz.ntmps11
    go_wp2
    go_ret
    exact ⟨rfl, Below.refl _ _⟩
  · have e1 : (yo == 5) = false := by rw [beq_eq_false_iff_ne]; exact h
    clear h
    go_enter Tryz.func11, Tryz.ntmps11
    go_wp2
    go_ret
    exact ⟨rfl, Below.refl _ _⟩
  · have e1 : (yo != 6) = true := by simp [h]
    clear h
    go_enter Tryz.func11, Tryz.ntmps11
    go_wp2
    go_ret
    exact ⟨rfl, Below.refl _ _⟩
omit hv in
set_option maxHeartbeats 1000000 in
theorem hasR_any48 (h : x.op = 48) :
    Calls Tryz.prog 11 #[.slice p (k.flat.length + 1) c, .slice q (l.flat.length + 1) d] w fun e w' => e = .returned (.bool true) ∧ Below w.heap.size w w' := by
  obtain ⟨b, off, rfl, hbw, c0, c1, c2, c3, _⟩ := ht.nl.head
  have i1 : (0 : Int) < ((k.flat.length : Int) + 1) := by omega
  clear ht
  obtain ⟨xo, xn, xs, xt⟩ := x
  dsimp only at h c0 c1 c2 c3
  subst h
  go_enter Tryz.func11, Tryz.ntmps11
  go_wp2
  go_ret
  exact ⟨rfl, Below.refl _ _⟩
set_option maxHeartbeats 1000000 in
theorem hasR_leaf (o : Int) (ho : o = 41 ∨ o = 42 ∨ o = 43) (h : x.op = o) :
    Calls Tryz.prog 11 #[.slice p (k.flat.length + 1) c, .slice q (l.flat.length + 1) d] w fun e w' => e = .returned (.bool (decide (y.op = o - 40))) ∧ Below w.heap.size w w' := by
  obtain ⟨b, off, rfl, hbw, c0, c1, c2, c3, _⟩ := ht.nl.head
  obtain ⟨b', off', rfl, hbw', d0, d1, d2, d3, _⟩ := hv.nl.head
  have i1 : (0 : Int) < ((k.flat.length : Int) + 1) := by omega
  have i2 : (0 : Int) < ((l.flat.length : Int) + 1) := by omega
  clear ht hv
  obtain ⟨xo, xn, xs, xt⟩ := x
  obtain ⟨yo, yn, ys, yt⟩ := y
  dsimp only at h c0 c1 c2 c3 d0 d1 d2 d3 ⊢
  subst h
  have HR : Hid (∀ o : Int, (yo == o) = decide (yo = o)) := fun o => by rw [Bool.eq_iff_iff]; simp
  rcases ho with rfl | rfl | rfl
  · go_enter Tryz.func11, Tryz.ntmps11
    go_wp2
    go_ret
    refine ⟨?_, Below.refl _ _⟩
    simp [HR.out]
  · go_enter Tryz.func11, Tryz.ntmps11
    go_wp2
    go_ret
    refine ⟨?_, Below.refl _ _⟩
    simp [HR.out]
  · go_enter Tryz.func11, Tryz.ntmps11
    go_wp2
    go_ret
    refine ⟨?_, Below.refl _ _⟩
    simp [HR.out]
set_option maxHeartbeats 1000000 in
theorem hasR_ent (h : x.op = 44) :
    Calls Tryz.prog 11 #[.slice p (k.flat.length + 1) c, .slice q (l.flat.length + 1) d] w fun e w' => e = .returned (.bool (decide (y.op = 4 ∧ y.s = x.s))) ∧ Below w.heap.size w w' := by
  obtain ⟨b, off, rfl, hbw, c0, c1, c2, c3, _⟩ := ht.nl.head
  obtain ⟨b', off', rfl, hbw', d0, d1, d2, d3, _⟩ := hv.nl.head
  have i1 : (0 : Int) < ((k.flat.length : Int) + 1) := by omega
  have i2 : (0 : Int) < ((l.flat.length : Int) + 1) := by omega
  clear ht hv
  obtain ⟨xo, xn, xs, xt⟩ := x
  obtain ⟨yo, yn, ys, yt⟩ := y
  dsimp only at h c0 c1 c2 c3 d0 d1 d2 d3 ⊢
  subst h
  by_cases h4 : yo = 4
  · by_cases hs : ys = xs
    · have HR : Hid (decide (yo = 4 ∧ ys = xs) = true) := decide_eq_true ⟨h4, hs⟩
      rw [HR.out]
      subst h4 hs
      clear HR
      go_enter Tryz.func11, Tryz.ntmps11
      go_wp2_with fail
      go_region_held (fun w' => w'.cell? ⟨b', off', none⟩ = some (.int .i64 4) ∧ w'.cell? ⟨b', off' + 2, none⟩ = some (.string ys) ∧ w'.cell? ⟨b, off + 2, none⟩ = some (.string ys)) (exact ⟨d0, d2, c2⟩) (fail)
      go_wp2
      go_ret
      exact ⟨rfl, kqx⟩
    · have HR : Hid (decide (yo = 4 ∧ ys = xs) = false) := decide_eq_false (fun e => hs e.2)
      rw [HR.out]
      have hne : (ys.toList == xs.toList) = false := by
        rw [beq_eq_false_iff_ne]
        exact fun e => hs (bytes_inj (by simpa only [ByteArray.toList_eq] using e))
      subst h4
      clear HR hs
      go_enter Tryz.func11, Tryz.ntmps11
      go_wp2_with fail
      go_region_held (fun w' => w'.cell? ⟨b', off', none⟩ = some (.int .i64 4) ∧ w'.cell? ⟨b', off' + 2, none⟩ = some (.string ys) ∧ w'.cell? ⟨b, off + 2, none⟩ = some (.string xs)) (exact ⟨d0, d2, c2⟩) (fail)
      go_wp2
      go_ret
      exact ⟨rfl, kqx⟩
  · have HR : Hid (decide (yo = 4 ∧ ys = xs) = false) := decide_eq_false (fun e => h4 e.1)
    rw [HR.out]
    have e4 : (yo == 4) = false := by rw [beq_eq_false_iff_ne]; exact h4
    clear HR h4
    go_enter Tryz.func11, Tryz.ntmps11
    go_wp2_with fail
    go_region
    go_wp2
    go_ret
    exact ⟨rfl, kqx⟩
end
end Go.Proofs.YtckjndiepojgfaaGreatDoor
namespace Go.Proofs.YtckjndiepojgfaaGreatDoor
open Go.RowKit
set_option linter.unusedVariables false
set_option linter.unusedSimpArgs false
set_option maxRecDepth 100000

/-- A part of a row in memory. -/
theorem LL.part {w : World} {q1 : Option Addr} {l : Tp} (h : LL w q1 ((rows l).map strip)) {d r : Tp} {f : Nd} {lf : Tp} (e : l = d.app (.cons f lf r)) : ∃ b off pi ci, q1 = some ⟨b, off, none⟩ ∧ b < w.heap.size ∧ w.cell? ⟨b, off + d.len, none⟩ = some (.slice pi (strip (f :: lf.flat)).length ci) ∧ AK0 w (strip (f :: lf.flat)) pi ci := by
  have hat : ((rows l).map strip)[d.len]? = some (strip (f :: lf.flat)) := by rw [List.getElem?_map, rows_at e]; rfl
  rcases h with h | ⟨b, off, h1, h2, h3⟩
  · rw [h] at hat; simp at hat
  · obtain ⟨q, c, h4, h5, h6, h7⟩ := h3 _ _ hat
    exact ⟨b, off, q, c, h1, h2, h4, h5, h6, h7⟩
theorem TL.part {w : World} {q2 : Option Addr} {l : Tp} (h : TL w q2 ((rows l).map nameOf)) {d r : Tp} {f : Nd} {lf : Tp} (e : l = d.app (.cons f lf r)) (h7 : f.op = 7) : ∃ b off, q2 = some ⟨b, off, none⟩ ∧ b < w.heap.size ∧ w.cell? ⟨b, off + d.len, none⟩ = some (.string f.s) := by
  have hat : ((rows l).map nameOf)[d.len]? = some f.s := by rw [List.getElem?_map, rows_at e]; simp [nameOf, h7]
  rcases h with h | ⟨b, off, h1, h2, h3⟩
  · rw [h] at hat; simp at hat
  · exact ⟨b, off, h1, h2, h3 _ _ hat⟩
/-- What Field tells. -/
def FdRetR (b : Bool) (e : Ending) : Prop := ∃ q n c, e = .returned (.tuple #[.slice q n c, .bool b])
set_option maxHeartbeats 1000000 in
theorem refFieldK_any (y : Nd) (l : Tp) (s : ByteArray) (q : Option Addr) (d : Nat) (w : World) (hv : AK0 w (y :: l.flat) q d) (ho : okV none (.cons y l .nil)) (hz : vfault (y :: l.flat) = 0) (h6 : y.op = 6) :
    Calls Tryz.prog 30 #[.slice q (l.flat.length + 1) d, .string s] w fun e w' => FdRetR (l.find s).isSome e ∧ Below w.heap.size w w' := by
  obtain ⟨hsg, hcnt, hol, hh, hpv⟩ := rec_parts hz ho h6
  have hl2 := (isVal_past hz).1
  obtain ⟨b, off, rfl, hbw, _⟩ := hv.nl.head
  have HC := refParts_rec y l.flat (rows l) hsg hh (by rw [rows_length]; exact hcnt) b off d w hv.nl hbw hl2 hv.le hv.cm h6
  have hlen : l.len ≤ 200 := by have := tp_len_flat l; simp at hl2; omega
  have HO : Hid (okV (some e0) l) := hol
  rw [List.length_cons] at HC
  clear hsg hcnt hol hh hpv hv hz ho hl2 h6
  go_enter Tryz.func30, Tryz.ntmps30
  go_wp2_with fail
  refine HC.mono ?_
  rintro _ w1 ⟨⟨q1, c1, q2, c2, rfl, hLL, hTL⟩, hb1⟩
  rw [rows_length]
  have HL : Hid (LL w1 q1 ((rows l).map strip)) := hLL
  have HT : Hid (TL w1 q2 ((rows l).map nameOf)) := hTL
  clear hLL hTL HC
  go_wp2_with fail
  go_loop [8] (fun iv => ∃ (a r : Tp) (i : Nat), Hid (l = a.app r) ∧ Hid (a.len = i) ∧ i ≤ l.len ∧ iv = .int .i64 i ∧ Hid (a.find s = none)) (fun iv => l.len - (intOf iv).toNat)
  case atStart => exact ⟨.nil, l, 0, rfl, rfl, Nat.zero_le _, rfl, rfl⟩
  case round =>
    obtain ⟨a, r, i, HD, HI, hik, rfl, HF⟩ := hrel
    by_cases hlt : i < l.len
    · have i1 : (i : Int) < (l.len : Int) := by omega
      obtain ⟨f, lf, r2, hr⟩ := rest_cons HD.out (by rw [HI.out]; exact hlt)
      have hd := HD.out
      rw [hr] at hd
      obtain ⟨_, hm⟩ := okV.mid (m := some e0) (p := a) (y := f) (ly := lf) (r := r2) (by rw [← hd]; exact HO.out)
      obtain ⟨_, _, h7⟩ := hm _ rfl
      obtain ⟨b1, o1, p1, c1', hq1, hb1', x0, _⟩ := HL.out.part hd
      obtain ⟨b2, o2, hq2, hb2', x1⟩ := HT.out.part hd h7
      subst hq1 hq2
      rw [HI.out] at x0 x1
      generalize (strip (f :: lf.flat)).length = m at *
      by_cases hs : f.s = s
      · have HR : Hid ((l.find s).isSome = true) := by show _ = _; rw [hd, find_appK HF.out, Tp.find, if_pos hs]; rfl
        subst hs
        clear HF HD HI hr hd hm
        go_wp2
        go_ret2
        exact ⟨by rw [HR.out]; exact ⟨_, _, _, rfl⟩, hb1⟩
      · have hne : (f.s.toList == s.toList) = false := by
          rw [beq_eq_false_iff_ne]
          exact fun e => hs (bytes_inj (by simpa only [ByteArray.toList_eq] using e))
        have HF2 : Hid ((a.app (.cons f lf .nil)).find s = none) := find_snoc HF.out hs
        have HD2 : Hid (l = (a.app (.cons f lf .nil)).app r2) := by show _ = _; rw [← step_app]; exact hd
        have HI2 : Hid ((a.app (.cons f lf .nil)).len = i + 1) := by show _ = _; rw [snoc_len, HI.out]
        clear HF HD HI hr hd hm hs
        go_wp2
        go_round
        case rel => exact ⟨a.app (.cons f lf .nil), r2, i + 1, HD2, HI2, by omega, by go_num, HF2⟩
        case measure => simp [intOf]; omega
    · have i1 : ¬ (i : Int) < (l.len : Int) := by omega
      have hr := rest_nil HD.out (by rw [HI.out]; exact hlt)
      have HR : Hid ((l.find s).isSome = false) := by show _ = _; have := HD.out; rw [hr, tp_app_nil] at this; rw [this, HF.out]; rfl
      clear hr HD HF HI
      go_wp2
      go_ret2
      exact ⟨by rw [HR.out]; exact ⟨_, _, _, rfl⟩, hb1⟩
set_option maxHeartbeats 2000000 in
theorem hasR_set (y : Nd) (l : Tp) (z : Nd) (kz : Tp) (w : World) (p : Option Addr) (c : Nat) (q : Option Addr) (d : Nat) (ht : AK0 w (lfN 45 :: z :: kz.flat) p c) (hv : AK0 w (y :: l.flat) q d) (hk : T1 (.cons z kz .nil)) (ho : okV none (.cons y l .nil)) (hz : vfault (y :: l.flat) = 0) (h5 : y.op = 5) (hl9 : kz.flat.length ≤ 890)
    (ih : ∀ f lf, lf.flat.length < l.flat.length → HasRK f lf) :
    Calls Tryz.prog 11 #[.slice p (kz.flat.length + 1 + 1) c, .slice q (l.flat.length + 1) d] w fun e w' => e = .returned (.bool (hs false l (.cons z kz .nil))) ∧ Below w.heap.size w w' := by
  obtain ⟨hsg, hcnt, hol, hh, hpv⟩ := set_parts hz ho h5
  have hl2 := (isVal_past hz).1
  obtain ⟨b, off, rfl, hbw, c0, c1, c2, c3, _⟩ := ht.nl.head
  obtain ⟨b', off', rfl, hbw', d0, d1, d2, d3, _⟩ := hv.nl.head
  have HC := refParts_set y l.flat (rows l) hsg hh (by rw [rows_length]; exact hcnt) b' off' d w hv.nl hbw' hl2 hv.le hv.cm h5
  have hlen : l.len ≤ 200 := by have := tp_len_flat l; simp at hl2; omega
  have HO : Hid (okV none l) := hol
  have HPV : Hid (∀ s ∈ rows l, vfault s = 0) := hpv
  have HTK : Hid (AK0 w (z :: kz.flat) (some ⟨b, off + 4, none⟩) (c - 1)) := ⟨ht.nl.tail, by have := ht.le; simp at this ⊢; omega, by have := ht.cm; omega⟩
  have hc2 : 2 ≤ c := by have := ht.le; simp at this; omega
  have i5 : ¬ c = 1 := by omega
  have hcl : kz.flat.length + 1 + 1 ≤ c := by have := ht.le; simpa using this
  have hcm : c ≤ 9223372036854775807 := by have := ht.cm; unfold maxLen at this; exact this
  have HH : Hid (∀ s ∈ rows l, ∃ z t, s = z :: t ∧ z.op ≠ 7) := hh
  rw [List.length_cons] at HC
  have i1 : (0 : Int) < ((kz.flat.length : Int) + 1 + 1) := by omega
  have i2 : (0 : Int) < ((l.flat.length : Int) + 1) := by omega
  obtain ⟨yo, yn, ys, yt⟩ := y
  dsimp only at h5 d0 d1 d2 d3
  subst h5
  unfold lfN at c0 c1 c2 c3
  dsimp only at c0 c1 c2 c3
  clear hsg hcnt hol hh hpv hv hz ho hl2 ht
  go_enter Tryz.func11, Tryz.ntmps11
  go_wp2_with fail
  refine HC.mono ?_
  rintro _ w1 ⟨⟨q1, c1', q2, c2', rfl, hLL, hTL⟩, hb1⟩
  rw [rows_length]
  have HL : Hid (LL w1 q1 ((rows l).map strip)) := hLL
  clear hLL hTL HC c0 c1 c2 c3 d0 d1 d2 d3
  go_wp2_with fail
  go_loopw [8] (fun iv wr => ∃ (a r : Tp) (i : Nat), Hid (l = a.app r) ∧ Hid (a.len = i) ∧ i ≤ l.len ∧ iv = .int .i64 i ∧ Hid (hs false a (.cons z kz .nil) = true) ∧ Below w1.heap.size w1 wr) (fun iv _ => l.len - (intOf iv).toNat)
  case atStart => exact ⟨.nil, l, 0, rfl, rfl, Nat.zero_le _, rfl, by show _ = _; rw [hs], Below.refl _ _⟩
  case round =>
    rename World => wr
    obtain ⟨a, r, i, HD, HI, hik, rfl, HF, hbr⟩ := hrel
    by_cases hlt : i < l.len
    · have i3 : (i : Int) < (l.len : Int) := by omega
      obtain ⟨f, lf, r2, hr⟩ := rest_cons HD.out (by rw [HI.out]; exact hlt)
      have hd := HD.out
      rw [hr] at hd
      have hm1 := (okV.mid (m := none) (p := a) (y := f) (ly := lf) (r := r2) (by rw [← hd]; exact HO.out)).1 rfl
      have hmem : (f :: lf.flat) ∈ rows l := List.mem_of_getElem? (rows_at hd)
      obtain ⟨_, _, e7, h7⟩ := HH.out _ hmem
      cases e7
      have hst : strip (f :: lf.flat) = f :: lf.flat := by rw [strip, if_neg h7]
      obtain ⟨b1, o1, p1, cc1, hq1, hb1', x0, hak⟩ := (HL.out.up hbr).part hd
      rw [hst] at x0 hak
      rw [HI.out, List.length_cons] at x0
      subst hq1
      have hlf := field_len hd
      have HK := fun W (hW : Below wr.heap.size wr W) => ih f lf (by omega) z kz W _ _ _ _ ((HTK.out.up hb1).up (kqt hbr hW)) (hak.up hW) hk hm1 (HPV.out _ hmem) (by omega)
      have HX : Hid (hs false l (.cons z kz .nil) = (hs false (.cons f lf .nil) (.cons z kz .nil) && hs false r2 (.cons z kz .nil))) := by
        show _ = _
        rw [hd, hsV_app, HF.out, Bool.true_and, hs_one]
      have HF2 : Hid (hs false (.cons f lf .nil) (.cons z kz .nil) = true → hs false (a.app (.cons f lf .nil)) (.cons z kz .nil) = true) := fun h => by rw [hsV_app, HF.out, h]; rfl
      have HD2 : Hid (l = (a.app (.cons f lf .nil)).app r2) := by show _ = _; rw [← step_app]; exact hd
      have HI2 : Hid ((a.app (.cons f lf .nil)).len = i + 1) := by show _ = _; rw [snoc_len, HI.out]
      clear HF HD HI hr hd hm1 hmem hst hak hlf h7
      generalize hs false (.cons f lf .nil) (.cons z kz .nil) = res at *
      generalize lf.flat.length = m at *
      have HX0 : Hid (wr.cell? ⟨b1, o1 + i, none⟩ = some (.slice p1 (m + 1) cc1)) := x0
      cases res
      · have HR : Hid (hs false l (.cons z kz .nil) = false) := by show _ = _; rw [HX.out]; rfl
        clear HF2 HX
        go_wp2_with fail
        go_region_held (fun w' => w'.cell? ⟨b1, o1 + i, none⟩ = some (.slice p1 (m + 1) cc1)) (first | exact x0 | exact ((hb5.cell (p := ⟨b1, o1 + i, none⟩) hb1').trans HX0.out)) (first
          | (go_at_call 11
             refine (HK _ kqx).mono ?_
             rintro _ w5 ⟨rfl, hb5'⟩
             have hb5 : Below wr.heap.size wr w5 := kqt kqx hb5'))
        go_wp2
        go_ret
        exact ⟨by rw [HR.out]; rfl, kqt hb1 (kqt hbr hb5)⟩
      · have HF3 : Hid (hs false (a.app (.cons f lf .nil)) (.cons z kz .nil) = true) := HF2.out rfl
        clear HF2 HX
        go_wp2_with fail
        go_region_held (fun w' => w'.cell? ⟨b1, o1 + i, none⟩ = some (.slice p1 (m + 1) cc1)) (first | exact x0 | exact ((hb5.cell (p := ⟨b1, o1 + i, none⟩) hb1').trans HX0.out)) (first
          | (go_at_call 11
             refine (HK _ kqx).mono ?_
             rintro _ w5 ⟨rfl, hb5'⟩
             have hb5 : Below wr.heap.size wr w5 := kqt kqx hb5'))
        go_wp2
        go_roundw
        case rel => exact ⟨a.app (.cons f lf .nil), r2, i + 1, HD2, HI2, by omega, by go_num, HF3, kqt hbr hb5⟩
        case measure => simp [intOf]; omega
    · have i3 : ¬ (i : Int) < (l.len : Int) := by omega
      have hr := rest_nil HD.out (by rw [HI.out]; exact hlt)
      have HR : Hid (hs false l (.cons z kz .nil) = true) := by show _ = _; have := HD.out; rw [hr, tp_app_nil] at this; rw [this]; exact HF.out
      clear hr HD HF HI
      go_wp2
      go_ret
      exact ⟨by rw [HR.out]; rfl, kqt hb1 hbr⟩
end Go.Proofs.YtckjndiepojgfaaGreatDoor
namespace Go.Proofs.YtckjndiepojgfaaGreatDoor
open Go.RowKit
set_option linter.unusedVariables false
set_option linter.unusedSimpArgs false
set_option maxRecDepth 100000

theorem strip_fieldK {f : Nd} {L : List Nd} (h : f.op = 7) : strip (f :: L) = L := by rw [strip, if_pos h]
/-- Has a field's value the type that its name has? -/
def fldH (k : Tp) (s : ByteArray) (v : Tp) : Bool := match k.find s with | some (_, kg) => hs false v kg | none => false
theorem hs_fldH (f : Nd) (lf r m : Tp) : hs true (.cons f lf r) m = (fldH m f.s lf && hs true r m) := by
  rw [hs_flds]
  unfold fldH
  cases m.find f.s <;> rfl
theorem fldH_none {k : Tp} {s : ByteArray} {v : Tp} (h : k.find s = none) : fldH k s v = false := by unfold fldH; rw [h]
theorem fldH_some {k : Tp} {s : ByteArray} {v : Tp} {g : Nd} {kg : Tp} (h : k.find s = some (g, kg)) : fldH k s v = hs false v kg := by unfold fldH; rw [h]
set_option maxHeartbeats 4000000 in
theorem hasR_rec (y : Nd) (l : Tp) (k : Tp) (w : World) (p : Option Addr) (c : Nat) (q : Option Addr) (d : Nat) (ht : AK0 w (rcN k :: k.flat) p c) (hv : AK0 w (y :: l.flat) q d) (hk : Fl e0 k) (ho : okV none (.cons y l .nil)) (hz : vfault (y :: l.flat) = 0) (h6 : y.op = 6) (hl9 : k.flat.length ≤ 890)
    (ih : ∀ f lf, lf.flat.length < l.flat.length → HasRK f lf) :
    Calls Tryz.prog 11 #[.slice p (k.flat.length + 1) c, .slice q (l.flat.length + 1) d] w fun e w' => e = .returned (.bool (hs true l k && noMiss l k)) ∧ Below w.heap.size w w' := by
  obtain ⟨hsg, hcnt, hol, hh, hpv⟩ := rec_parts hz ho h6
  have hl2 := (isVal_past hz).1
  obtain ⟨b, off, rfl, hbw, c0, c1, c2, c3, _⟩ := ht.nl.head
  obtain ⟨b', off', rfl, hbw', d0, d1, d2, d3, _⟩ := hv.nl.head
  have HC := refParts_rec y l.flat (rows l) hsg hh (by rw [rows_length]; exact hcnt) b' off' d w hv.nl hbw' hl2 hv.le hv.cm h6
  have hlen : l.len ≤ 200 := by have := tp_len_flat l; simp at hl2; omega
  have HO : Hid (okV (some e0) l) := hol
  have HPV : Hid (∀ s ∈ rows l, vfault (strip s) = 0) := hpv
  have HTK : Hid (AK0 w (rcN k :: k.flat) (some ⟨b, off, none⟩) c) := ht
  have HFK : Hid (Fl e0 k) := hk
  have HFN := fun W (hW : Below w.heap.size w W) (s : ByteArray) => fieldKind_any k hk s (some ⟨b, off, none⟩) c W (HTK.out.nl.up hW) (by have := HTK.out.le; simpa using this) HTK.out.cm (by omega)
  have HFS := fun W (hW : Below w.heap.size w W) => fieldsOf_any k hk (some ⟨b, off, none⟩) c W (HTK.out.nl.up hW) (by have := HTK.out.le; simpa using this) HTK.out.cm (by omega)
  have HFD := fun W (hW : Below w.heap.size w W) (s : ByteArray) => refFieldK_any y l s (some ⟨b', off', none⟩) d W (hv.up hW) ho hz h6
  have HPK : Hid (∀ (d0 q0 : Tp) (f0 : Nd) (kf0 : Tp), k = d0.app (.cons f0 kf0 q0) → ∃ x' k', kf0 = .cons x' k' .nil ∧ ∀ W, Below w.heap.size w W → Calls Tryz.prog 28 #[.slice (some ⟨b, off, none⟩) (k.flat.length + 1) c, .int .i64 ((1 + d0.flat.length : Nat) : Int)] W fun e w' => KRet w' (x' :: k'.flat) e ∧ Below W.heap.size W w') := fun d0 q0 f0 kf0 he => by
    obtain ⟨_, _, _, hkf⟩ := Fl.mid (p := d0) (f := f0) (kf := kf0) (r := q0) (by rw [← he]; exact hk)
    obtain ⟨x', k', e1, hE⟩ := field_end (x := rcN k) he hkf
    have hfl := field_len he
    exact ⟨x', k', e1, fun W hW => partKind_any (rcN k :: k.flat) (1 + d0.flat.length) x' k' _ hE (some ⟨b, off, none⟩) c W (HTK.out.nl.up hW) HTK.out.le HTK.out.cm (by simp; omega) (by omega)⟩
  rw [List.length_cons] at HC
  have i1 : (0 : Int) < ((k.flat.length : Int) + 1) := by omega
  have i2 : (0 : Int) < ((l.flat.length : Int) + 1) := by omega
  have HL9 : Hid (k.flat.length ≤ 890) := hl9
  obtain ⟨yo, yn, ys, yt⟩ := y
  dsimp only at h6 d0 d1 d2 d3
  subst h6
  unfold rcN at c0 c1 c2 c3
  dsimp only at c0 c1 c2 c3
  clear hsg hcnt hol hh hpv hv hz ho hl2 ht hk
  go_enter Tryz.func11, Tryz.ntmps11
  go_wp2_with fail
  refine HC.mono ?_
  rintro _ w1 ⟨⟨q1, c1', q2, c2', rfl, hLL, hTL⟩, hb1⟩
  rw [rows_length]
  have HL : Hid (LL w1 q1 ((rows l).map strip)) := hLL
  have HT : Hid (TL w1 q2 ((rows l).map nameOf)) := hTL
  clear hLL hTL HC c0 c1 c2 c3 d0 d1 d2 d3
  go_wp2_with fail
  go_loopw [11, 12] (fun iv av wr => ∃ (a r : Tp) (i : Nat), Hid (l = a.app r) ∧ Hid (a.len = i) ∧ i ≤ l.len ∧ iv = .int .i64 i ∧ Hid (hs true a k = true) ∧ Below w1.heap.size w1 wr) (fun iv _ _ => l.len - (intOf iv).toNat)
  case atStart => exact ⟨.nil, l, 0, rfl, rfl, Nat.zero_le _, rfl, by show _ = _; rw [hs], Below.refl _ _⟩
  case round =>
    rename World => wr
    obtain ⟨a, r, i, HD, HI, hik, rfl, HF, hbr⟩ := hrel
    have hb0r := kqt hb1 hbr
    by_cases hlt : i < l.len
    · have i3 : (i : Int) < (l.len : Int) := by omega
      obtain ⟨f, lf, r2, hr⟩ := rest_cons HD.out (by rw [HI.out]; exact hlt)
      have hd := HD.out
      rw [hr] at hd
      obtain ⟨hlf1, holf, h7⟩ := (okV.mid (m := some e0) (p := a) (y := f) (ly := lf) (r := r2) (by rw [← hd]; exact HO.out)).2 _ rfl
      have hmem : (f :: lf.flat) ∈ rows l := List.mem_of_getElem? (rows_at hd)
      have hvp := HPV.out _ hmem
      rw [strip_fieldK h7] at hvp
      obtain ⟨b1, o1, p1, cc1, hq1, hb1', x0, hak⟩ := (HL.out.up hbr).part hd
      obtain ⟨b2, o2, hq2, hb2', x1⟩ := (HT.out.up hbr).part hd h7
      rw [strip_fieldK h7] at x0 hak
      rw [HI.out] at x0 x1
      subst hq1 hq2
      obtain ⟨g, lg, rfl⟩ := tp_len1 hlf1
      have hff : (Tp.cons g lg .nil).flat = g :: lg.flat := by simp [Tp.flat]
      rw [hff] at x0 hak hvp
      rw [List.length_cons] at x0
      have hlf := field_len hd
      rw [hff, List.length_cons] at hlf
      have HX : Hid (hs true l k = (fldH k f.s (.cons g lg .nil) && hs true r2 k)) := by
        show _ = _
        rw [hd, hsF_app, HF.out, Bool.true_and, hs_fldH]
      have HF2 : Hid (fldH k f.s (.cons g lg .nil) = true → hs true (a.app (.cons f (.cons g lg .nil) .nil)) k = true) := fun h => by rw [hsF_app, HF.out, hs_fldH, h, show hs true .nil k = true by rw [hs]]; rfl
      have HD2 : Hid (l = (a.app (.cons f (.cons g lg .nil) .nil)).app r2) := by show _ = _; rw [← step_app]; exact hd
      have HI2 : Hid ((a.app (.cons f (.cons g lg .nil) .nil)).len = i + 1) := by show _ = _; rw [snoc_len, HI.out]
      have HKK := fun (x' : Nd) (k' : Tp) (hx : T1 (.cons x' k' .nil)) W (p' : Option Addr) (c' : Nat) (hW : Below wr.heap.size wr W) (h : AK0 W (x' :: k'.flat) p' c') (h9 : k'.flat.length ≤ 890) => ih g lg (by omega) x' k' W p' c' _ _ h (hak.up hW) hx holf hvp h9
      have HAK : Hid (AK0 wr (g :: lg.flat) p1 cc1) := hak
      clear HF HD HI hr hd hmem hlf h7 hvp hff hak holf hlf1
      have HN := HFN wr hb0r f.s
      go_wp2_with fail
      refine HN.mono ?_
      rintro _ w2 ⟨hfk, hb2⟩
      have y0 := (hb2.cell (p := ⟨b1, o1 + i, none⟩) hb1').trans x0
      have hb02 := kqt hb0r hb2
      rcases hfk with ⟨hno, rfl⟩ | ⟨d0, q0, f0, kf0, hk0, hyes, rfl⟩
      · have HR : Hid (hs true l k = false) := by show _ = _; rw [HX.out, fldH_none hno]; rfl
        clear HX HF2 hno HKK x0 x1
        go_wp2_with fail
        go_region
        go_wp2
        go_ret
        exact ⟨by rw [HR.out]; rfl, kqt hb02 kqx⟩
      · obtain ⟨x', k', e1, HP⟩ := HPK.out d0 q0 f0 kf0 hk0
        subst e1
        have hkf := (Fl.mid (p := d0) (f := f0) (kf := .cons x' k' .nil) (r := q0) (by rw [← hk0]; exact HFK.out)).2.2.2
        have hfl := field_len hk0
        have HK2 := fun W p' c' hW h => HKK x' k' hkf W p' c' hW h (by have := HL9.out; simp [Tp.flat] at hfl; omega)
        have HX2 : Hid (hs true l k = (hs false (.cons g lg .nil) (.cons x' k' .nil) && hs true r2 k)) := by show _ = _; rw [HX.out, fldH_some hyes]
        have HF3 : Hid (hs false (.cons g lg .nil) (.cons x' k' .nil) = true → hs true (a.app (.cons f (.cons g lg .nil) .nil)) k = true) := fun h => HF2.out (by rw [fldH_some hyes]; exact h)
        have hA9 : 1 + d0.flat.length ≤ 1000 := by have := HL9.out; omega
        clear HX HF2 hyes HKK hk0 hfl hkf x0 x1
        obtain ⟨A, hA⟩ : ∃ A, A = 1 + d0.flat.length := ⟨_, rfl⟩
        rw [← hA] at HP hA9 ⊢
        clear hA
        have iA : ¬ ((A : Int) < 0) := by omega
        have iA2 : decide ((A : Int) < 0) = false := decide_eq_false iA
        have HY0 : Hid (w2.cell? ⟨b1, o1 + i, none⟩ = some (.slice p1 (lg.flat.length + 1) cc1)) := y0
        have hbb1 : b1 < w2.heap.size := Nat.lt_of_lt_of_le hb1' hb2.size
        generalize hs false (.cons g lg .nil) (.cons x' k' .nil) = res at *
        cases res
        · have HR : Hid (hs true l k = false) := by show _ = _; rw [HX2.out]; rfl
          clear HF3 HX2
          go_wp2_with fail
          go_region_held (fun w' => w'.cell? ⟨b1, o1 + i, none⟩ = some (.slice p1 (lg.flat.length + 1) cc1)) (first | exact y0 | exact ((hb5.cell (p := ⟨b1, o1 + i, none⟩) hbb1).trans HY0.out) | exact ((hb6.cell (p := ⟨b1, o1 + i, none⟩) hbb1).trans HY0.out)) (first
            | (go_at_call 28
               refine (HP _ (kqt hb02 kqx)).mono ?_
               rintro _ w5 ⟨⟨p5, c5, rfl, hk5⟩, hb5'⟩
               have hb5 : Below w2.heap.size w2 w5 := kqt kqx hb5')
            | (go_at_call 11
               refine (HK2 _ _ _ (kqt hb2 hb5) hk5).mono ?_
               rintro _ w6 ⟨rfl, hb6'⟩
               have hb6 : Below w2.heap.size w2 w6 := kqt hb5 hb6'))
          go_wp2
          go_ret
          exact ⟨by rw [HR.out]; rfl, kqt hb02 hb6⟩
        · have HF4 : Hid (hs true (a.app (.cons f (.cons g lg .nil) .nil)) k = true) := HF3.out rfl
          clear HF3 HX2
          go_wp2_with fail
          go_region_held (fun w' => w'.cell? ⟨b1, o1 + i, none⟩ = some (.slice p1 (lg.flat.length + 1) cc1)) (first | exact y0 | exact ((hb5.cell (p := ⟨b1, o1 + i, none⟩) hbb1).trans HY0.out) | exact ((hb6.cell (p := ⟨b1, o1 + i, none⟩) hbb1).trans HY0.out)) (first
            | (go_at_call 28
               refine (HP _ (kqt hb02 kqx)).mono ?_
               rintro _ w5 ⟨⟨p5, c5, rfl, hk5⟩, hb5'⟩
               have hb5 : Below w2.heap.size w2 w5 := kqt kqx hb5')
            | (go_at_call 11
               refine (HK2 _ _ _ (kqt hb2 hb5) hk5).mono ?_
               rintro _ w6 ⟨rfl, hb6'⟩
               have hb6 : Below w2.heap.size w2 w6 := kqt hb5 hb6'))
          go_wp2
          go_roundw
          case rel => exact ⟨a.app (.cons f (.cons g lg .nil) .nil), r2, i + 1, HD2, HI2, by omega, by go_num, HF4, kqt hbr (kqt hb2 hb6)⟩
          case measure => simp [intOf]; omega
    · have i3 : ¬ (i : Int) < (l.len : Int) := by omega
      have hr := rest_nil HD.out (by rw [HI.out]; exact hlt)
      have HX : Hid (hs true l k = true) := by show _ = _; have := HD.out; rw [hr, tp_app_nil] at this; rw [this]; exact HF.out
      have HS := HFS wr hb0r
      have hk9 : k.len ≤ 890 := Nat.le_trans (tp_len_flat k) HL9.out
      clear hr HD HF HI HFN HPK HL HT ih
      go_wp2_with fail
      refine HS.mono ?_
      rintro _ w3 ⟨⟨qf, cf, rfl, hIL⟩, hb3'⟩
      have hb3 := kqt hb0r hb3'
      have HQ : Hid (IL w3 qf (offs k 1)) := hIL
      clear HS hIL hb3' HFS
      go_wp2_with fail
      go_loopw [14, 15, 16] (fun iv _ _ wr => ∃ (a r : Tp) (i : Nat), Hid (k = a.app r) ∧ Hid (a.len = i) ∧ i ≤ k.len ∧ iv = .int .i64 i ∧ Hid (noMiss l a = true) ∧ Below w3.heap.size w3 wr) (fun iv _ _ _ => k.len - (intOf iv).toNat)
      case atStart => exact ⟨.nil, k, 0, rfl, rfl, Nat.zero_le _, rfl, rfl, Below.refl _ _⟩
      case round =>
        rename World => w4
        obtain ⟨a, r, i, HD, HI, hik, rfl, HF, hb4⟩ := hrel
        have hb04 := kqt hb3 hb4
        by_cases hlt : i < k.len
        · have i4 : (i : Int) < (k.len : Int) := by omega
          obtain ⟨f, kf, r2, hr⟩ := rest_cons HD.out (by rw [HI.out]; exact hlt)
          have hd := HD.out
          rw [hr] at hd
          have ho := offs_at hd 1
          rw [HI.out] at ho
          obtain ⟨bf, of_, rfl, hbf, x0⟩ := (HQ.out.up hb4).atK ho
          have hat : 1 + a.flat.length < (rcN k :: k.flat).length := by have := field_len hd; simp; omega
          have hta : (rcN k :: k.flat)[1 + a.flat.length] = f := by
            have h1 := drop_field (x := rcN k) hd
            rw [List.drop_eq_getElem_cons hat] at h1
            exact (List.cons.inj h1).1
          obtain ⟨bt, ot, hpt, hbt, y1, x2, x3, y3⟩ := (HTK.out.nl.up hb04).at hat
          rw [hta] at x2 x3
          cases hpt
          have hn01 := (Fl.mid (p := a) (f := f) (kf := kf) (r := r2) (by rw [← hd]; exact HFK.out)).2.1
          have i5 : ((1 + a.flat.length : Nat) : Int) < ((k.flat.length : Int) + 1) := by have := field_len hd; omega
          have HX2 : Hid (noMiss l k = ((decide (f.n ≠ 1) || (l.find f.s).isSome) && noMiss l r2)) := by show _ = _; rw [hd, noMiss_app, HF.out, Bool.true_and, noMiss]
          have HF2 : Hid ((decide (f.n ≠ 1) || (l.find f.s).isSome) = true → noMiss l (a.app (.cons f kf .nil)) = true) := fun h => by rw [noMiss_app, HF.out, noMiss, h]; rfl
          have HD2 : Hid (k = (a.app (.cons f kf .nil)).app r2) := by show _ = _; rw [← step_app]; exact hd
          have HI2 : Hid ((a.app (.cons f kf .nil)).len = i + 1) := by show _ = _; rw [snoc_len, HI.out]
          have HC := HFD w4 hb04 f.s
          obtain ⟨A, hA⟩ : ∃ A, A = 1 + a.flat.length := ⟨_, rfl⟩
          rw [← hA] at x0 x2 x3 i5
          clear y1 y3 hta hat ho hr hd HD HF HI hA
          generalize (l.find f.s).isSome = hf at *
          have HN01 : Hid (f.n = 0 ∨ f.n = 1) := hn01
          clear hn01
          go_wp2_with fail
          refine HC.mono ?_
          rintro _ w5 ⟨⟨qd, nd, cd, rfl⟩, hb5⟩
          have z0 := (hb5.cell (p := ⟨bf, of_ + i, none⟩) hbf).trans x0
          have z2 := (hb5.cell (p := ⟨b, off + A * 4 + 1, none⟩) hbt).trans x2
          clear x0 x2 x3 HC
          rcases HN01.out with hn | hn
          · have HF3 : Hid (noMiss l (a.app (.cons f kf .nil)) = true) := HF2.out (by rw [hn]; rfl)
            rw [hn] at z2
            clear HF2 HX2 hn
            go_wp2_with fail
            go_roundw
            case rel => exact ⟨a.app (.cons f kf .nil), r2, i + 1, HD2, HI2, by omega, by go_num, HF3, kqt hb4 hb5⟩
            case measure => simp [intOf]; omega
          · rw [hn] at z2
            cases hf
            · have HR : Hid (noMiss l k = false) := by show _ = _; rw [HX2.out, hn]; rfl
              clear HF2 HX2 hn
              go_wp2_with fail
              go_ret
              exact ⟨by rw [HR.out, Bool.and_false]; rfl, kqt hb04 hb5⟩
            · have HF3 : Hid (noMiss l (a.app (.cons f kf .nil)) = true) := HF2.out (by rw [hn]; rfl)
              clear HF2 HX2 hn
              go_wp2_with fail
              go_roundw
              case rel => exact ⟨a.app (.cons f kf .nil), r2, i + 1, HD2, HI2, by omega, by go_num, HF3, kqt hb4 hb5⟩
              case measure => simp [intOf]; omega
        · have i4 : ¬ (i : Int) < (k.len : Int) := by omega
          have hr := rest_nil HD.out (by rw [HI.out]; exact hlt)
          have HR : Hid (noMiss l k = true) := by show _ = _; have := HD.out; rw [hr, tp_app_nil] at this; rw [this]; exact HF.out
          clear hr HD HF HI
          go_wp2
          go_ret
          exact ⟨by rw [HR.out, HX.out]; rfl, hb04⟩
/-- HasKind of any value and any type. -/
theorem hasK_all : ∀ (n : Nat) (y : Nd) (l : Tp), l.flat.length < n → HasRK y l
  | 0, _, _, h => absurd h (by omega)
  | n + 1, y, l, h => by
    intro x k w p c q d ht hv hT ho hz hl9
    have ih : ∀ f lf, lf.flat.length < l.flat.length → HasRK f lf := fun f lf hf => hasK_all n f lf (by omega)
    rw [hs_leaf]
    have hTy := T1.iff.1 hT
    cases hTy with
    | leaf o ho' =>
      rcases ho' with rfl | rfl | rfl | rfl | rfl
      · exact hasR_leaf y l _ .nil w p c q d ht hv 41 (by simp) rfl
      · exact hasR_leaf y l _ .nil w p c q d ht hv 42 (by simp) rfl
      · exact hasR_leaf y l _ .nil w p c q d ht hv 43 (by simp) rfl
      · exact hasR_any48 l _ .nil w p c q d ht rfl
      · exact hasR_false y l _ .nil w p c q d ht hv (.inl rfl)
    | ent s hs' => exact hasR_ent y l _ .nil w p c q d ht hv rfl
    | set k hk =>
      by_cases h5 : y.op = 5
      · obtain ⟨z, kz, rfl, hz'⟩ := hk.of
        have hf : (Tp.cons z kz .nil).flat = z :: kz.flat := by simp [Tp.flat]
        rw [hf] at ht
        rw [hf, List.length_cons] at hl9 ⊢
        have := hasR_set y l z kz w p c q d ht hv hk ho hz h5 (by omega) ih
        simpa [lfN, h5] using this
      · have := hasR_false y l _ k w p c q d ht hv (.inr (.inl ⟨rfl, h5⟩))
        simpa [lfN, h5] using this
    | rcd k hk =>
      by_cases h6 : y.op = 6
      · have := hasR_rec y l k w p c q d ht hv hk ho hz h6 (by omega) ih
        simpa [h6] using this
      · have := hasR_false y l _ k w p c q d ht hv (.inr (.inr ⟨rfl, h6⟩))
        simpa [h6] using this
end Go.Proofs.YtckjndiepojgfaaGreatDoor
