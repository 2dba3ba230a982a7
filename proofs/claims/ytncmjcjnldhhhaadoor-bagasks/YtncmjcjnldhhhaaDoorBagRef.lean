/- The document's SetFault, Within and Chosen: what they return. -/
import Derived.Test.YtncmjcjnldhhhaaDoorBagL
import Derived.Test.YtncmjcjnldhhhaaDoorRefPartsB
import Derived.Test.YtncmjcjnldhhhaaDoorFaults
import Derived.Test.YtncmjcjnldhhhaaDoorValRefA
namespace Go.Proofs.YtncmjcjnldhhhaaDoor
open Go.RowKit
set_option linter.unusedVariables false

theorem refParts_row (l : List (List Nd)) (p : Option Addr) (c : Nat) (w : World) (hs : NL w p (setN l)) (hc : (setN l).length ≤ c) (hcm : c ≤ maxLen) (h : IsSet l) :
    Calls Tryd.prog 22 #[.slice p (setN l).length c] w fun e w' => (∃ q1 c1 q2 c2, e = .returned (.tuple #[.slice q1 l.length c1, .slice q2 l.length c2]) ∧ LL w' q1 l) ∧ Below w.heap.size w w' := by
  obtain ⟨b, o, rfl, hbw, _⟩ := (show NL w p (⟨5, l.length, ⟨#[]⟩, ⟨#[]⟩⟩ :: l.flatten) from hs).head
  have hh : ∀ s ∈ l, ∃ y t, s = y :: t ∧ y.op ≠ 7 := fun s hm => by
    obtain ⟨y, t, e, _, h7, _⟩ := value_head (h.vals s hm)
    exact ⟨y, t, e, h7⟩
  have := refParts_set ⟨5, l.length, ⟨#[]⟩, ⟨#[]⟩⟩ l.flatten l (values_segs _ l h.vals (fun v hm => by have := mem_flat hm; show v.length + 1 ≤ l.flatten.length + 1; omega)) hh rfl b o c w hs hbw h.short hc hcm rfl
  refine this.mono fun e w' ⟨⟨q1, c1, q2, c2, h1, h2, _⟩, h4⟩ => ⟨⟨q1, c1, q2, c2, h1, ?_⟩, h4⟩
  rw [values_strip h.vals] at h2
  exact h2

theorem refParts_rowB (l : List (List Nd)) (p : Option Addr) (c B : Nat) (w : World) (hB : B ≤ w.heap.size) (hs : NT w B p (setN l)) (hc : (setN l).length ≤ c) (hcm : c ≤ maxLen) (h : IsSet l) :
    Calls Tryd.prog 22 #[.slice p (setN l).length c] w fun e w' => PartsRetB w' w.heap.size B l e ∧ Below w.heap.size w w' := by
  obtain ⟨b, o, rfl, hbw, _⟩ := (show NL w p (⟨5, l.length, ⟨#[]⟩, ⟨#[]⟩⟩ :: l.flatten) from hs.1).head
  have hh : ∀ s ∈ l, ∃ y t, s = y :: t ∧ y.op ≠ 7 := fun s hm => by
    obtain ⟨y, t, e, _, h7, _⟩ := value_head (h.vals s hm)
    exact ⟨y, t, e, h7⟩
  have := refParts_setB ⟨5, l.length, ⟨#[]⟩, ⟨#[]⟩⟩ l.flatten l (values_segs _ l h.vals (fun v hm => by have := mem_flat hm; show v.length + 1 ≤ l.flatten.length + 1; omega)) hh rfl b o c B w hB hs hs.1 hbw h.short hc hcm rfl
  rw [values_strip h.vals] at this
  exact this

theorem pair_lists {w : World} {a b : List Nd} {p q : Option Addr} {c d : Nat} (ha : NL w p a) (hb : NL w q b) (la : a.length ≤ c) (lb : b.length ≤ d) (mc : c ≤ maxLen) (md : d ≤ maxLen) :
    LL (w.alloc (.cells #[.slice p a.length c, .slice q b.length d] 22)) (some ⟨w.heap.size, 0, none⟩) [a, b] := by
  have hb' : Below w.heap.size w (w.alloc (.cells #[.slice p a.length c, .slice q b.length d] 22)) := (Below.refl _ _).alloc (Nat.le_refl _) _
  refine .inr ⟨w.heap.size, 0, rfl, by simp, fun i v hi => ?_⟩
  match i, hi with
  | 0, hi => simp at hi; subst hi; exact ⟨p, c, by simp [go_sem], ha.up hb', la, mc⟩
  | 1, hi => simp at hi; subst hi; exact ⟨q, d, by simp [go_sem], hb.up hb', lb, md⟩
  | i + 2, hi => simp at hi
theorem ffault_two (s t : List Nd) : ffault [s, t] = if vfault s = 0 then vfault t else vfault s := by
  unfold ffault
  by_cases h : vfault s = 0
  · rw [if_pos h, if_pos h]
    unfold ffault
    by_cases k : vfault t = 0
    · rw [if_pos k]; unfold ffault; rw [k]
    · rw [if_neg k]
  · rw [if_neg h, if_neg h]

theorem within_any (l : List (List Nd)) (v : List Nd) (p q : Option Addr) (c d : Nat) (w : World) (hs : NL w p (setN l)) (hc : (setN l).length ≤ c) (hcm : c ≤ maxLen) (hv : NL w q v) (hd : v.length ≤ maxLen) (h : IsSet l) :
    Calls Tryd.prog 8 #[.slice p (setN l).length c, .slice q v.length d] w fun e w' => e = .returned (.bool (inB l v)) ∧ Below w.heap.size w w' := by
  have H1 := refParts_row l p c w hs hc hcm h
  have L1 := h.len
  clear hs h
  go_enter Tryd.func8, Tryd.ntmps8
  go_wp2_with fail
  refine H1.mono ?_
  rintro e w1 ⟨⟨q1, c1, q2, c2, rfl, k1⟩, hb1⟩
  have hv1 := hv.up hb1
  have HB1 : Hid (Below w.heap.size w w1) := hb1
  clear H1 hv hb1
  go_wp2
  go_loopw [7] (fun i wr => ∃ k : Nat, k ≤ l.length ∧ i = .int .i64 k ∧ Hid (inB (l.take k) v = false) ∧ Below w1.heap.size w1 wr) (fun i _ => l.length - (intOf i).toNat)
  case atStart => exact ⟨0, Nat.zero_le _, rfl, rfl, Below.refl _ _⟩
  case round =>
    obtain ⟨k, hk, rfl, HA, hb⟩ := hrel
    by_cases hlt : k < l.length
    · have i1 : (k : Int) < (l.length : Int) := by omega
      obtain ⟨b, off, q', c', rfl, hbw, hcell, hnl, h1, h2⟩ := (k1.up hb).at hlt
      have HN : Hid (inB (l.take (k + 1)) v = (inB (l.take k) v || decide (lsC l[k] v = 0))) := by
        show _ = _
        unfold inB
        rw [List.take_succ_eq_append_getElem hlt, List.any_append]; simp
      have HH : Hid (lsC l[k] v = 0 → inB l v = true) := fun e => by
        rw [inB_iff, ← (lsC_is.zero _ _).1 e]; exact List.getElem_mem _
      generalize l[k] = a at *
      have H2 := refNodes_any a v q' q c' d wr hnl (hv1.up hb) (Nat.le_trans h1 h2) hd
      by_cases hz : lsC a v = 0
      · rw [hz] at H2
        have HA2 : Hid (inB l v = true) := HH.out hz
        clear HN HH HA
        go_wp2_with fail
        refine H2.mono ?_
        rintro e w2 ⟨rfl, n2, rfl⟩
        go_wp2
        go_ret
        exact ⟨by rw [HA2.out]; rfl, HB1.out.trans ((Below.mono ⟨hb.os, hb.tape, hb.output, hb.size, hb.block⟩ HB1.out.size : Below w.heap.size w1 (wr.drewN n2)))⟩
      · have HA2 : Hid (inB (l.take (k + 1)) v = false) := by show _ = _; rw [HN.out, HA.out, decide_eq_false hz]; rfl
        have hz' : (lsC a v == 0) = false := by simpa using hz
        clear HN HH HA
        generalize lsC a v = z at *
        go_wp2_with fail
        refine H2.mono ?_
        rintro e w2 ⟨rfl, n2, rfl⟩
        go_wp2
        go_roundw
        case rel => exact ⟨k + 1, by omega, by go_num, HA2, ⟨hb.os, hb.tape, hb.output, hb.size, hb.block⟩⟩
        case measure => simp [intOf]; omega
    · have i1 : ¬ (k : Int) < (l.length : Int) := by omega
      have HA2 : Hid (inB l v = false) := by
        have := HA.out
        rw [List.take_of_length_le (by omega)] at this
        exact this
      go_wp2
      go_ret
      exact ⟨by rw [HA2.out]; rfl, HB1.out.trans (hb.mono HB1.out.size)⟩

/-- What Chosen hands back: the lists, and where they lie. -/
def ChosenRet (w : World) (base B : Nat) (l : List (List Nd)) (e : Ending) : Prop := ∃ v, e = .returned v ∧ OLB w base B v l

set_option maxHeartbeats 1000000 in
theorem chosen_any (l m : List (List Nd)) (has : Bool) (p q : Option Addr) (c d B : Nat) (w : World) (hB : B ≤ w.heap.size) (hs : NT w B p (setN l)) (hc : (setN l).length ≤ c) (hcm : c ≤ maxLen) (ht : NL w q (setN m)) (hd : (setN m).length ≤ d) (hdm : d ≤ maxLen) (hl : IsSet l) (hm : IsSet m) :
    Calls Tryd.prog 11 #[.slice p (setN l).length c, .slice q (setN m).length d, .bool has] w fun e w' => ChosenRet w' w.heap.size B (l.filter fun v => inB m v == has) e ∧ Below w.heap.size w w' := by
  have H1 := refParts_rowB l p c B w hB hs hc hcm hl
  have L1 := hl.len
  have HW := fun v q' d' w' (h1 : Below w.heap.size w w') (h2 : NL w' q' v) (h3 : v.length ≤ maxLen) => within_any m v q q' d d' w' (ht.up h1) hd hdm h2 h3 hm
  clear hs hl ht hm
  go_enter Tryd.func11, Tryd.ntmps11
  go_wp2_with fail
  refine H1.mono ?_
  rintro e w1 ⟨⟨q1, c1, q2, c2, rfl, k1⟩, hb1⟩
  have HB1 : Hid (Below w.heap.size w w1) := hb1
  have hB1 : B ≤ w1.heap.size := Nat.le_trans hB hb1.size
  have HWW : Hid (∀ v q' d' w', Below w.heap.size w w' → NL w' q' v → v.length ≤ maxLen → Calls Tryd.prog 8 #[.slice q (setN m).length d, .slice q' v.length d'] w' fun e w'' => e = .returned (.bool (inB m v)) ∧ Below w'.heap.size w' w'') := HW
  have K1 : Hid (OLB w1 w.heap.size B (.slice q1 l.length c1) l) := k1
  clear H1 hb1 HW k1
  generalize (setN m).length = mn at *
  go_wp2
  go_loopw [7, 10] (fun ov i wr => ∃ k : Nat, k ≤ l.length ∧ i = .int .i64 k ∧ OLB wr w1.heap.size B ov ((l.take k).filter fun v => inB m v == has) ∧ Below w1.heap.size w1 wr) (fun _ i _ => l.length - (intOf i).toNat)
  case atStart => exact ⟨0, Nat.zero_le _, rfl, OLB.nil _ _ _, Below.refl _ _⟩
  case round =>
    obtain ⟨k, hk, rfl, hol, hb⟩ := hrel
    by_cases hlt : k < l.length
    · have i1 : (k : Int) < (l.length : Int) := by omega
      obtain ⟨b, q', c', hp0, hbw, hcell0, hnt0, h1, h2⟩ := K1.out.at hlt
      have HF : Hid ((l.take (k + 1)).filter (fun v => inB m v == has) = (l.take k).filter (fun v => inB m v == has) ++ (if inB m l[k] == has then [l[k]] else [])) := by
        show _ = _
        rw [List.take_succ_eq_append_getElem hlt, List.filter_append]
        congr 1
        cases e : (inB m l[k] == has) <;> simp [e]
      have hfl : ((l.take k).filter fun v => inB m v == has).length ≤ 4294967296 := Nat.le_trans (List.length_filter_le _ _) (by simp; omega)
      have hcell := (hb.cell (p := ⟨b, k, none⟩) hbw).trans hcell0
      have H2 := HWW.out l[k] q' c' wr (HB1.out.trans (hb.mono HB1.out.size)) (hnt0.1.up hb) (Nat.le_trans h1 h2)
      have HNT : Hid (NT w1 B q' l[k]) := hnt0
      generalize l[k] = v at *
      subst hp0
      have HO : Hid (OLB wr w1.heap.size B u7 ((l.take k).filter fun v => inB m v == has)) := hol
      have HB : Hid (Below w1.heap.size w1 wr) := hb
      have hbw' : b < wr.heap.size := Nat.lt_of_lt_of_le hbw hb.size
      clear hol hcell0 hnt0 hb
      generalize (l.take k).filter (fun v => inB m v == has) = acc at *
      by_cases ha : inB m v = has
      · have HF2 : Hid ((l.take (k + 1)).filter (fun v => inB m v == has) = acc ++ [v]) := by show _ = _; rw [HF.out, ha]; simp
        clear HF
        rw [ha] at H2
        go_wp2_with fail
        refine H2.mono ?_
        rintro e w2 ⟨rfl, hb2'⟩
        have hb2 := HB.out.trans (hb2'.mono HB.out.size)
        have hcell2 := (hb2'.cell (p := ⟨b, k, none⟩) hbw').trans hcell
        cases has
        all_goals
          go_wp2_with (at_builtin; refine append_listB w2 rfl (.tmp 30) (.tmp 35) rfl w1.heap.size B hB1 u7 acc rfl (HO.out.below hb2' hB1 HB.out.size) v v.length rfl q' c' (HNT.out.kept (e := 172) ((Kept.of_below hb2 (Nat.le_refl _)).mono hB1) (by decide)) h1 h2 rfl (by omega) hb2.size ?_; intro v' w3 hol3 hk3)
          go_roundw
          case rel => exact ⟨k + 1, by omega, by go_num, by rw [HF2.out]; exact hol3, hb2.trans hk3.bel⟩
          case measure => simp [intOf]; omega
      · have HF2 : Hid ((l.take (k + 1)).filter (fun v => inB m v == has) = acc) := by
          show _ = _
          rw [HF.out, if_neg (by simpa using ha)]; simp
        clear HF
        have ha2 : inB m v = !has := by cases e : inB m v <;> cases e2 : has <;> simp_all
        rw [ha2] at H2
        go_wp2_with fail
        refine H2.mono ?_
        rintro e w2 ⟨rfl, hb2'⟩
        have hb2 := HB.out.trans (hb2'.mono HB.out.size)
        cases has
        all_goals
          go_wp2
          go_roundw
          case rel => exact ⟨k + 1, by omega, by go_num, by rw [HF2.out]; exact HO.out.below hb2' hB1 HB.out.size, hb2⟩
          case measure => simp [intOf]; omega
    · have i1 : ¬ (k : Int) < (l.length : Int) := by omega
      have HE : Hid ((l.take k).filter (fun v => inB m v == has) = l.filter fun v => inB m v == has) := by show _ = _; rw [List.take_of_length_le (by omega)]
      rw [HE.out] at hol
      have hol2 := hol.lower HB1.out.size
      go_wp2
      go_ret
      exact ⟨⟨_, rfl, hol2⟩, HB1.out.trans (hb.mono HB1.out.size)⟩

theorem setFault_any (s t : List Nd) (p q : Option Addr) (c d : Nat) (w : World) (hs : NL w p s) (hc : s.length ≤ c) (hcm : c ≤ maxLen) (ht : NL w q t) (hd : t.length ≤ d) (hdm : d ≤ maxLen) :
    Calls Tryd.prog 10 #[.slice p s.length c, .slice q t.length d] w fun e w' => e = .returned (.int .i64 (sfault s t)) ∧ Below w.heap.size w w' := by
  have hup : Below w.heap.size w (w.alloc (.cells #[.slice p s.length c, .slice q t.length d] 22)) := (Below.refl _ _).alloc (Nat.le_refl _) _
  have H1 := faults_any [s, t] (some ⟨w.heap.size, 0, none⟩) 2 _ (pair_lists hs ht hc hd hcm hdm) (by simp [maxLen])
  rw [ffault_two] at H1
  rw [show [s, t].length = 2 from rfl] at H1
  by_cases h1 : vfault s = 0
  · rw [if_pos h1] at H1
    by_cases h2 : vfault t = 0
    · rw [h2] at H1
      obtain ⟨x, r, rfl, _⟩ := value_head h1
      obtain ⟨y, r', rfl, _⟩ := value_head h2
      obtain ⟨b, o, rfl, hbw, x0, _⟩ := hs.head
      obtain ⟨b', o', rfl, hbw', y0, _⟩ := ht.head
      have i0 : (0 : Int) < ((x :: r).length : Int) := by simp
      have i1 : (0 : Int) < ((y :: r').length : Int) := by simp
      have hz : sfault (x :: r) (y :: r') = if x.op = 5 ∧ y.op = 5 then 0 else 2 := by
        unfold sfault; rw [if_pos h1, if_pos h2]; simp [isSetV]
      rw [hz]
      clear hz h1 h2 hs ht
      unfold maxLen at hcm hdm
      simp only [List.length_cons] at *
      by_cases hx : x.op = 5
      · have ex : (x.op != 5) = false := by simp [hx]
        by_cases hy : y.op = 5
        · have ey : (y.op != 5) = false := by simp [hy]
          rw [if_pos ⟨hx, hy⟩]
          go_enter Tryd.func10, Tryd.ntmps10
          go_wp2_with fail
          refine H1.mono ?_
          rintro e w1 ⟨rfl, hb1⟩
          have hb2 := hup.trans (hb1.mono hup.size)
          have x1 := (hb2.cell (p := ⟨b, o, none⟩) hbw).trans x0
          have y1 := (hb2.cell (p := ⟨b', o', none⟩) hbw').trans y0
          go_wp2
          go_ret
          exact ⟨rfl, hb2⟩
        · have ey : (y.op != 5) = true := by simp [hy]
          rw [if_neg (fun h => hy h.2)]
          go_enter Tryd.func10, Tryd.ntmps10
          go_wp2_with fail
          refine H1.mono ?_
          rintro e w1 ⟨rfl, hb1⟩
          have hb2 := hup.trans (hb1.mono hup.size)
          have x1 := (hb2.cell (p := ⟨b, o, none⟩) hbw).trans x0
          have y1 := (hb2.cell (p := ⟨b', o', none⟩) hbw').trans y0
          go_wp2
          go_ret
          exact ⟨rfl, hb2⟩
      · have ex : (x.op != 5) = true := by simp [hx]
        rw [if_neg (fun h => hx h.1)]
        go_enter Tryd.func10, Tryd.ntmps10
        go_wp2_with fail
        refine H1.mono ?_
        rintro e w1 ⟨rfl, hb1⟩
        have hb2 := hup.trans (hb1.mono hup.size)
        have x1 := (hb2.cell (p := ⟨b, o, none⟩) hbw).trans x0
        have y1 := (hb2.cell (p := ⟨b', o', none⟩) hbw').trans y0
        go_wp2
        go_ret
        exact ⟨rfl, hb2⟩
    · have hz : sfault s t = vfault t := by unfold sfault; rw [if_pos h1, if_neg h2]
      rw [hz]
      have e0 : (vfault t == 0) = false := by simpa using h2
      clear hz h1 h2
      generalize vfault t = z at *
      go_enter Tryd.func10, Tryd.ntmps10
      go_wp2_with fail
      refine H1.mono ?_
      rintro e w1 ⟨rfl, hb1⟩
      go_wp2
      go_ret
      exact ⟨rfl, hup.trans (hb1.mono hup.size)⟩
  · have hz : sfault s t = vfault s := by unfold sfault; rw [if_neg h1]
    rw [if_neg h1] at H1
    rw [hz]
    have e0 : (vfault s == 0) = false := by simpa using h1
    clear hz h1
    generalize vfault s = z at *
    go_enter Tryd.func10, Tryd.ntmps10
    go_wp2_with fail
    refine H1.mono ?_
    rintro e w1 ⟨rfl, hb1⟩
    go_wp2
    go_ret
    exact ⟨rfl, hup.trans (hb1.mono hup.size)⟩
end Go.Proofs.YtncmjcjnldhhhaaDoor
