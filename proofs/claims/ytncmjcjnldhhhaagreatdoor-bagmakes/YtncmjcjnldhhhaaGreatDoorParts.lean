/- Package val's Parts and Get: what they return, by walks of their own texts. -/
import Derived.Test.YtncmjcjnldhhhaaGreatDoorItems
import Derived.Test.YtncmjcjnldhhhaaGreatDoorShape
import Derived.Test.YtncmjcjnldhhhaaGreatDoorCheck
namespace Go.Proofs.YtncmjcjnldhhhaaGreatDoor
open Go.RowKit
set_option linter.unusedVariables false

theorem parts_bad (v : List Nd) (p : Option Addr) (c : Nat) (w : World) (hv : NL w p v) (hc : v.length ≤ c) (hcm : c ≤ maxLen) (h : vfault v ≠ 0) :
    Calls Tryz.prog 46 #[.slice p v.length c] w fun e w' => e = .returned (.tuple #[.slice none 0 0, eV (vfault v)]) ∧ Below w.heap.size w w' := by
  have H1 := vcheck_any v p c w hv hc hcm
  rw [eV_not h] at H1 ⊢
  go_enter Tryz.func46, Tryz.ntmps46
  go_wp2_with fail
  refine H1.mono ?_
  rintro e w1 ⟨rfl, hb1⟩
  go_wp2
  go_ret2
  exact ⟨rfl, hb1⟩

theorem parts_type (x : Nd) (r : List Nd) (b off c : Nat) (w : World) (hv : NL w (some ⟨b, off, none⟩) (x :: r)) (hc : (x :: r).length ≤ c) (hcm : c ≤ maxLen) (h : vfault (x :: r) = 0) (h5 : x.op ≠ 5) (h6 : x.op ≠ 6) :
    Calls Tryz.prog 46 #[.slice (some ⟨b, off, none⟩) (x :: r).length c] w fun e w' => e = .returned (.tuple #[.slice none 0 0, eV 2]) ∧ Below w.heap.size w w' := by
  have H1 := vcheck_any (x :: r) _ c w hv hc hcm
  rw [eV_nil h] at H1
  obtain ⟨b', o', hpe, hbw, x0, _⟩ := hv.head
  obtain ⟨rfl, rfl⟩ : b = b' ∧ off = o' := by simpa using hpe
  have e5 : (x.op != 5) = true := by simpa using h5
  have e6 : (x.op != 6) = true := by simpa using h6
  unfold maxLen at hcm
  have i0 : (0 : Int) < ((x :: r).length : Int) := by simp
  clear h hpe
  simp only [List.length_cons] at *
  go_enter Tryz.func46, Tryz.ntmps46
  go_wp2_with fail
  refine H1.mono ?_
  rintro e w1 ⟨rfl, hb1⟩
  have z0 := (hb1.cell (p := ⟨b, off, none⟩) hbw).trans x0
  clear x0
  go_wp2
  go_ret2
  exact ⟨rfl, hb1⟩

theorem strip_len (s : List Nd) : (strip s).length ≤ s.length := by
  cases s with
  | nil => simp [strip]
  | cons x s => show (if x.op = 7 then s else x :: s).length ≤ _; split <;> simp

theorem OL.none0 {w : World} {base : Nat} {q : Option Addr} {n c : Nat} {vs : List (List Nd)} (h : OL w base (.slice q n c) vs) : q = none → c = 0 := by
  obtain ⟨xs, hr, _⟩ := h
  rcases hr.2 with ⟨e, _⟩ | ⟨g, cap, cur, e, _⟩
  · cases e; intro _; rfl
  · cases e; intro h; cases h

set_option maxRecDepth 100000 in
set_option maxHeartbeats 2000000 in
theorem parts_full (f : Nat) (x : Nd) (r : List Nd) (ss : List (List Nd)) (hss : Segs f r ss) (b off c : Nat) (w : World) (hv : NL w (some ⟨b, off, none⟩) (x :: r)) (hc : (x :: r).length ≤ c) (hcm : c ≤ maxLen) (h : vfault (x :: r) = 0) (h56 : x.op = 5 ∨ x.op = 6) :
    Calls Tryz.prog 46 #[.slice (some ⟨b, off, none⟩) (x :: r).length c] w fun e w' => (∃ q c', e = .returned (.tuple #[.slice q ss.length c', .nilIface]) ∧ LL w' q (ss.map strip) ∧ ss.length ≤ c' ∧ c' ≤ maxLen ∧ (q = none → c' = 0)) ∧ Below w.heap.size w w' := by
  have H1 := vcheck_any (x :: r) _ c w hv hc hcm
  rw [eV_nil h] at H1
  obtain ⟨hl200, _⟩ := isVal_past h
  obtain ⟨b', o', hpe, hbw, x0, _⟩ := hv.head
  obtain ⟨rfl, rfl⟩ : b = b' ∧ off = o' := by simpa using hpe
  have hsl := hss.length
  have hne := hss.ne
  have hsh := hss.short
  have hit := fun w' (hb : Below w.heap.size w w') => items_fn f x r ss hss b off c w' (hv.up hb) (Nat.lt_of_lt_of_le hbw hb.size) hl200 hc hcm
  have HM : Hid (c ≤ maxLen) := hcm
  unfold maxLen at hcm
  have i0 : (0 : Int) < ((x :: r).length : Int) := by simp
  have HNE : Hid (∀ s ∈ ss, s ≠ []) := hne
  have HSH : Hid (∀ s ∈ ss, s.length ≤ r.length) := hsh
  clear h hpe hss hne hsh
  simp only [List.length_cons] at *
  have htest : (x.op != 5) = false ∨ ((x.op != 5) = true ∧ (x.op != 6) = false) := by
    rcases h56 with e | e <;> simp [e]
  clear h56
  go_enter Tryz.func46, Tryz.ntmps46
  go_wp2_with fail
  refine H1.mono ?_
  rintro e w1 ⟨rfl, hb1⟩
  have z0 := (hb1.cell (p := ⟨b, off, none⟩) hbw).trans x0
  have hit1 := hit w1 hb1
  clear x0 hit H1
  rcases htest with e5 | ⟨e5, e6⟩
  all_goals
    go_wp2_with fail
    refine hit1.mono ?_
    rintro e w2 ⟨⟨lv, rfl, hol⟩, hb2'⟩
    have hb2 := hb1.trans (hb2'.mono hb1.size)
    obtain ⟨lq, lc, rfl, hll, hlc, hlm⟩ := hol.lists
    clear hit1 hol hb2'
    go_wp2
    go_loopw [5, 29] (fun pv i wr => ∃ (k : Nat), k ≤ ss.length ∧ i = .int .i64 k ∧ OL wr w2.heap.size pv ((ss.take k).map strip) ∧ Below w2.heap.size w2 wr) (fun _ i _ => ss.length - (intOf i).toNat)
    case atStart => exact ⟨0, Nat.zero_le _, rfl, OL.nil _ _, Below.refl _ _⟩
    case round =>
      obtain ⟨k, hk, rfl, hol, hbr⟩ := hrel
      by_cases hlt : k < ss.length
      · obtain ⟨gb, go, q, c', rfl, hgb, hcell, hnl, h1, h2⟩ := (hll.up hbr).at hlt
        have hmem : ss[k] ∈ ss := List.getElem_mem _
        have hsn := HNE.out _ hmem
        have hss2 := HSH.out _ hmem
        have i1 : (k : Int) < (ss.length : Int) := by omega
        have HT : Hid ((ss.take (k + 1)).map strip = (ss.take k).map strip ++ [strip ss[k]]) := by
          show _ = _
          rw [List.take_succ_eq_append_getElem hlt, List.map_append]; rfl
        generalize ss[k] = s at *
        cases s with
        | nil => exact absurd rfl hsn
        | cons y t =>
          obtain ⟨yb, yo, rfl, hyb, y0, y1, y2, y3, yw⟩ := hnl.head
          have j0 : (0 : Int) < (t.length : Int) + 1 := by omega
          have j1 : (1 : Int) ≤ (t.length : Int) + 1 := by omega
          clear hmem hsn
          have h2' : c' ≤ 9223372036854775807 := h2
          simp only [List.length_cons] at *
          have hol2 := hol
          have HO : Hid (OL wr w2.heap.size u5 ((ss.take k).map strip)) := hol2
          clear hol hol2
          have hdl : ((ss.take k).map strip).length ≤ 200 := by simp; omega
          cases e7 : (y.op == 7)
          · have hclone := cloneNodes_fn (y :: t) yb yo c' wr hnl (by simp; omega)
            simp only [List.length_cons] at hclone
            rw [show strip (y :: t) = y :: t by unfold strip; simp only []; rw [if_neg (by simpa using e7)]] at HT
            go_wp2_with fail
            refine hclone.mono ?_
            rintro e w3 ⟨⟨q3, c3, rfl, hnt, hl3, hm3⟩, hb3⟩
            have hb4 := hbr.trans (hb3.mono hbr.size)
            have hol3 := HO.out.below hb3 hbr.size
            clear hclone HO
            go_wp2_with (at_builtin; refine append_list w3 rfl (.tmp 40) (.tmp 43) rfl w2.heap.size u5 ((ss.take k).map strip) rfl hol3 (y :: t) q3 c3 hnt.any hl3 hm3 rfl (by omega) hb4.size ?_; intro v' w4 hol4 hk4)
            go_roundw
            case rel => exact ⟨k + 1, by omega, by go_num, by rw [HT.out]; exact hol4, hb4.trans hk4.bel⟩
            case measure => simp [intOf]; omega
          · obtain ⟨pr, hpr, hnr⟩ : ∃ pr, (if c' = 1 then some (⟨yb, yo, none⟩ : Addr) else some ⟨yb, yo + 4, none⟩) = some ⟨yb, pr, none⟩ ∧ NL wr (some ⟨yb, pr, none⟩) t := by
              by_cases h : c' = 1
              · exact ⟨yo, if_pos h, .inl (List.eq_nil_of_length_eq_zero (by omega))⟩
              · exact ⟨yo + 4, if_neg h, hnl.tail⟩
            have hclone := cloneNodes_fn t yb pr (c' - 1) wr hnr (by omega)
            rw [show strip (y :: t) = t by unfold strip; simp only []; rw [if_pos (by simpa using e7)]] at HT
            go_wp2_with fail
            refine hclone.mono ?_
            rintro e w3 ⟨⟨q3, c3, rfl, hnt, hl3, hm3⟩, hb3⟩
            have hb4 := hbr.trans (hb3.mono hbr.size)
            have hol3 := HO.out.below hb3 hbr.size
            clear hclone HO
            go_wp2_with (at_builtin; refine append_list w3 rfl (.tmp 40) (.tmp 43) rfl w2.heap.size u5 ((ss.take k).map strip) rfl hol3 t q3 c3 hnt.any hl3 hm3 rfl (by omega) hb4.size ?_; intro v' w4 hol4 hk4)
            go_roundw
            case rel => exact ⟨k + 1, by omega, by go_num, by rw [HT.out]; exact hol4, hb4.trans hk4.bel⟩
            case measure => simp [intOf]; omega
      · have HE : Hid ((ss.take k).map strip = ss.map strip) := by show _ = _; rw [List.take_of_length_le (by omega)]
        have i1 : ¬ (k : Int) < (ss.length : Int) := by omega
        obtain ⟨pq, pc, rfl, hpl, hpc, hpm⟩ := hol.lists
        have hpn := hol.none0
        rw [HE.out] at hpl hpc ⊢
        go_wp2
        go_ret2
        exact ⟨⟨pq, pc, by simp, hpl, by simpa using hpc, hpm, hpn⟩, hb2.trans (hbr.mono hb2.size)⟩
theorem parts_ok (f : Nat) (x : Nd) (r : List Nd) (ss : List (List Nd)) (hss : Segs f r ss) (b off c : Nat) (w : World) (hv : NL w (some ⟨b, off, none⟩) (x :: r)) (hc : (x :: r).length ≤ c) (hcm : c ≤ maxLen) (h : vfault (x :: r) = 0) (h56 : x.op = 5 ∨ x.op = 6) :
    Calls Tryz.prog 46 #[.slice (some ⟨b, off, none⟩) (x :: r).length c] w fun e w' => (∃ q c', e = .returned (.tuple #[.slice q ss.length c', .nilIface]) ∧ LL w' q (ss.map strip) ∧ ss.length ≤ c' ∧ c' ≤ maxLen) ∧ Below w.heap.size w w' :=
  (parts_full f x r ss hss b off c w hv hc hcm h h56).mono fun e w' ⟨⟨q, c', h1, h2, h3, h4, _⟩, h5⟩ => ⟨⟨q, c', h1, h2, h3, h4⟩, h5⟩
end Go.Proofs.YtncmjcjnldhhhaaGreatDoor
