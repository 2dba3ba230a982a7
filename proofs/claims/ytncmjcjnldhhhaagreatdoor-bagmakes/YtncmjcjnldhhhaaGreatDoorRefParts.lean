/- The document's Parts, and package wicketgatesame's Lists: what they return, by walks of their own texts. -/
import Derived.Test.YtncmjcjnldhhhaaGreatDoorItems
import Derived.Test.YtncmjcjnldhhhaaGreatDoorShape
import Derived.Test.YtncmjcjnldhhhaaGreatDoorValFault
import Derived.Test.YtncmjcjnldhhhaaGreatDoorSame
import Derived.Test.YtncmjcjnldhhhaaGreatDoorTexts
namespace Go.Proofs.YtncmjcjnldhhhaaGreatDoor
open Go.RowKit
set_option linter.unusedVariables false

theorem append_listN (w : World) {ops : Array Oper} {rest : List Oper} {o : Oper} {a : Act} {Q : Exit → Act → World → Prop} (hgd : o.guard = none) (s x : Operand)
    (ho : o.op = .call { callee := .builtin .append, args := #[s, x], argTypes := #[26, 26] })
    (base : Nat) (v : Value) (vs : List (List Nd)) (hs : a.eval s = v) (hown : OL w base v vs) (L : List Nd) (n : Nat) (hn : L.length = n) (q : Option Addr) (c : Nat) (hN : NT w base q L) (hlc : n ≤ c) (hcm : c ≤ maxLen)
    (hx : a.eval x = .slice (some ⟨w.heap.size, 0, none⟩) 1 1) (hlen : vs.length + 1 ≤ 1099511627776) (hbase : base ≤ w.heap.size)
    (h : ∀ v' w', OL w' base v' (vs ++ [L]) → Kept base 22 w w' → wpList Tryz.prog ops Q rest (a.put o.dst v') w') : wpList Tryz.prog ops Q (o :: rest) a (w.alloc (.cells #[.slice q n c] 22)) := by
  subst hn
  exact append_list w hgd s x ho base v vs hs hown L q c hN hlc hcm hx hlen hbase h

/-- What Parts hands back: the parts, and their names. -/
def PartsRet (w : World) (ss : List (List Nd)) (e : Ending) : Prop := ∃ q1 c1 q2 c2, e = .returned (.tuple #[.slice q1 ss.length c1, .slice q2 ss.length c2]) ∧ LL w q1 (ss.map strip) ∧ TL w q2 (ss.map nameOf)

theorem Segs.drop_eq {v : List Nd} {at_ : Nat} {a r : List Nd} (h : v.drop at_ = a ++ r) : v.drop (at_ + a.length) = r ∧ (v.drop at_).take a.length = a := by
  refine ⟨?_, by rw [h, List.take_left]⟩
  rw [← List.drop_drop, h, List.drop_left]

theorem Rising.heads {l : ByteArray} {ss : List (List Nd)} (h : Rising l ss) : ∀ s ∈ ss, ∃ y t, s = y :: t ∧ y.op = 7 := by
  induction h with
  | nil => simp
  | cons h7 hl hs ih =>
    intro s hs'
    rcases List.mem_cons.1 hs' with rfl | hs'
    · exact ⟨_, _, rfl, h7⟩
    · exact ih s hs'

set_option maxRecDepth 100000 in
set_option maxHeartbeats 600000 in
theorem refParts_set (x : Nd) (r : List Nd) (ss : List (List Nd)) (hss : Segs (x :: r).length r ss) (hh : ∀ s ∈ ss, ∃ y t, s = y :: t ∧ y.op ≠ 7) (hcnt : (ss.length : Int) = x.n) (b off c : Nat) (w : World) (hv : NL w (some ⟨b, off, none⟩) (x :: r)) (hbw : b < w.heap.size) (hl : (x :: r).length ≤ 200) (hc : (x :: r).length ≤ c) (hcm : c ≤ maxLen) (hop : x.op = 5) :
    Calls Tryz.prog 6 #[.slice (some ⟨b, off, none⟩) (x :: r).length c] w fun e w' => PartsRet w' ss e ∧ Below w.heap.size w w' := by
  have HM : Hid (c ≤ maxLen) := hcm
  unfold maxLen at hcm
  have hsl := hss.length
  obtain ⟨b', o', hpe, _, x0, x1, _, _, xw⟩ := hv.head
  obtain ⟨rfl, rfl⟩ : b = b' ∧ off = o' := by simpa using hpe
  have HSS : Hid (Segs (x :: r).length r ss) := hss
  have HH : Hid (∀ s ∈ ss, ∃ y t, s = y :: t ∧ y.op ≠ 7) := hh
  generalize hV : x :: r = v at *
  have hvl : v.length = r.length + 1 := by rw [← hV]; rfl
  have HVL : Hid (v.length = r.length + 1) := hvl
  have hd1 : v.drop 1 = r := by rw [← hV]; rfl
  have HD1 : Hid (_ = _) := hd1
  have eop : (x.op == 6) = false := by simp [hop]
  have i0 : (0 : Int) < (v.length : Int) := by omega
  have hsl2 : ss.length + 1 ≤ v.length := by omega
  clear hss hh hpe hop hV hd1 hvl
  go_enter Tryz.func6, Tryz.ntmps6
  go_wp2
  go_loopw [4, 5, 6, 7, 8] (fun ov nv sa i sn wr => ∃ (k at_ : Nat) (done ss' : List (List Nd)), i = .int .i64 k ∧ sa = .int .i64 at_ ∧ OL wr w.heap.size ov (done.map strip) ∧ OT wr w.heap.size nv (done.map nameOf) ∧ done.length = k ∧ Hid (Segs v.length (v.drop at_) ss') ∧ Hid (done ++ ss' = ss) ∧ at_ ≤ v.length ∧ 1 ≤ at_ ∧ Below w.heap.size w wr) (fun _ _ _ i _ _ => ss.length - (intOf i).toNat)
  case atStart => exact ⟨0, 1, [], ss, rfl, rfl, OL.nil _ _, Row1.nil _ _ _, rfl, by rw [HD1.out]; exact HSS, rfl, by omega, Nat.le_refl _, Below.refl _ _⟩
  case round =>
    obtain ⟨k, at_, done, ss', rfl, rfl, hol, hot, hdl, HSg, HD, hat, hat1, hb⟩ := hrel
    have z0 := (hb.cell (p := ⟨b, off, none⟩) hbw).trans x0
    have z1 := (hb.cell (p := ⟨b, off + 1, none⟩) hbw).trans x1
    have hlen := congrArg List.length HD.out
    rw [List.length_append] at hlen
    have hvr := hv.up hb
    generalize hu : v.drop at_ = u at *
    cases hsg : HSg.out with
    | nil =>
      have HE : Hid (done = ss) := by have := HD.out; show _ = _; simpa using this
      simp at hlen
      have i1 : ¬ (k : Int) < x.n := by omega
      clear hsg
      obtain ⟨q1, c1, rfl, hll, _⟩ := hol.lists
      obtain ⟨q2, c2, rfl, htl, _⟩ := hot.texts
      rw [HE.out] at hll htl ⊢
      simp only [List.length_map]
      go_wp2
      go_ret2
      exact ⟨⟨q1, c1, q2, c2, rfl, hll, htl⟩, hb⟩
    | @cons a r' ss2 h hs =>
      obtain ⟨y, t, rfl, hy⟩ := HH.out a (by rw [← HD.out]; simp)
      simp at hlen
      have hul : (v.drop at_).length = v.length - at_ := by simp
      rw [hu] at hul
      simp at hul
      have i1 : (k : Int) < x.n := by omega
      have hda := Segs.drop_eq hu
      simp only [List.length_cons] at hda
      have HS2 : Hid (Segs v.length r' ss2) := hs
      have halt : at_ < v.length := by omega
      have HY : Hid (y.op ≠ 7) := hy
      have hpv : pastV v.length ((y :: t) ++ r') = some r' := by
        have := h
        simp only [List.cons_append, itemP, if_neg hy] at this
        exact this
      have hendc := fun w' (hb' : Below w.heap.size w w') => valueEnd_any (v.length + 1) v b off c at_ false w' (by omega) (by omega) (hv.up hb') (Nat.lt_of_lt_of_le hbw hb'.size) hc HM.out
      rw [pastF_value, hu, pastV_fuel (v.length + 1) v.length ((y :: t) ++ r') (by simp; omega) (by simp; omega), hpv] at hendc
      have hen : endI v.length (some r') = ((at_ + 1 + t.length : Nat) : Int) := by unfold endI; simp only []; omega
      rw [hen] at hendc
      have j1 : (at_ : Int) ≤ ((at_ + 1 + t.length : Nat) : Int) := by omega
      have j2 : ((at_ + 1 + t.length : Nat) : Int) ≤ (c : Int) := by omega
      have hst : strip (y :: t) = y :: t := by show (if y.op = 7 then t else y :: t) = _; rw [if_neg hy]
      have hnm : nameOf (y :: t) = ⟨#[]⟩ := by show (if y.op = 7 then y.s else _) = _; rw [if_neg hy]
      have j4 : ¬ c = at_ := by omega
      have hT : NL w (some ⟨b, off + at_ * 4, none⟩) (y :: t) := by
        have := hv.from at_ (y :: t).length
        rw [hu, List.take_left] at this
        exact this
      generalize hen2 : at_ + 1 + t.length = en at *
      have HEN : Hid (_ = _) := hen2
      clear hsg h hs hpv hu hen hy hen2
      go_wp2_with fail
      refine (hendc _ hb).mono ?_
      rintro e w1 ⟨rfl, hb1⟩
      have hb2 := hb.trans (hb1.mono hb.size)
      have hol1 := hol.below hb1 hb.size
      have hot1 : OT w1 w.heap.size u5 (done.map nameOf) := Row1.kept (e := 172) hot (Kept.of_below hb1 hb.size) (by decide)
      have hNT : NT w1 w.heap.size (some ⟨b, off + at_ * 4, none⟩) (y :: t) := ⟨hT.up hb2, .inr ⟨b, _, rfl, .inl hbw⟩⟩
      have hLn : (y :: t).length = (en - at_) := by have := HEN.out; first | (simp; omega) | omega
      have hdm : (done.map strip).length ≤ 200 := by simp; omega
      have hdm2 : (done.map nameOf).length ≤ 200 := by simp; omega
      clear hendc hol hot z0 z1
      have HOL : Hid (OL w1 w.heap.size u4 (done.map strip)) := hol1
      have HOT : Hid (OT w1 w.heap.size u5 (done.map nameOf)) := hot1
      clear hol1 hot1
      go_wp2_with (first
        | (at_builtin; refine append_listN w1 rfl (.tmp 33) (.tmp 38) rfl w.heap.size u4 (done.map strip) rfl HOL.out (y :: t) (en - at_) hLn (some ⟨b, off + at_ * 4, none⟩) (c - at_) hNT (by omega) (by unfold maxLen; omega) rfl (by omega) hb2.size ?_; intro v1 w2 hol2 hk2; have hot2 : OT w2 w.heap.size u5 (done.map nameOf) := Row1.kept HOT.out hk2 (by decide); have hb3 := hb2.trans hk2.bel; have HO2 : Hid (OL w2 w.heap.size v1 (done.map strip ++ [(y :: t)])) := hol2; clear hol2)
        | (at_builtin; refine append_text w2 rfl (.tmp 40) (.tmp 42) rfl w.heap.size u5 (done.map nameOf) rfl hot2 ⟨#[]⟩ rfl (by omega) hb3.size ?_; intro v2 w3 hot3 hk3))
      have hol3 := HO2.out.kept hk3 (by decide) (by decide)
      go_roundw
      case rel => exact ⟨k + 1, en, done ++ [y :: t], ss2, by go_num, rfl, by rw [List.map_append, List.map_cons, hst]; exact hol3, by rw [List.map_append, List.map_cons, hnm]; exact hot3, by simp [hdl], by rw [← HEN.out, show at_ + 1 + t.length = at_ + (t.length + 1) by omega, hda.1]; exact HS2, by show _ = _; rw [← HD.out]; simp, by have := HEN.out; omega, by have := HEN.out; omega, hb3.trans hk3.bel⟩
      case measure => simp [intOf]; omega

set_option maxRecDepth 100000 in
set_option maxHeartbeats 600000 in
theorem refParts_rec (x : Nd) (r : List Nd) (ss : List (List Nd)) (hss : Segs (x :: r).length r ss) (hh : ∀ s ∈ ss, ∃ y t, s = y :: t ∧ y.op = 7) (hcnt : (ss.length : Int) = x.n) (b off c : Nat) (w : World) (hv : NL w (some ⟨b, off, none⟩) (x :: r)) (hbw : b < w.heap.size) (hl : (x :: r).length ≤ 200) (hc : (x :: r).length ≤ c) (hcm : c ≤ maxLen) (hop : x.op = 6) :
    Calls Tryz.prog 6 #[.slice (some ⟨b, off, none⟩) (x :: r).length c] w fun e w' => PartsRet w' ss e ∧ Below w.heap.size w w' := by
  have HM : Hid (c ≤ maxLen) := hcm
  unfold maxLen at hcm
  have hsl := hss.length
  obtain ⟨b', o', hpe, _, x0, x1, _, _, xw⟩ := hv.head
  obtain ⟨rfl, rfl⟩ : b = b' ∧ off = o' := by simpa using hpe
  have HSS : Hid (Segs (x :: r).length r ss) := hss
  have HH : Hid (∀ s ∈ ss, ∃ y t, s = y :: t ∧ y.op = 7) := hh
  generalize hV : x :: r = v at *
  have hvl : v.length = r.length + 1 := by rw [← hV]; rfl
  have HVL : Hid (v.length = r.length + 1) := hvl
  have hd1 : v.drop 1 = r := by rw [← hV]; rfl
  have HD1 : Hid (_ = _) := hd1
  have eop : (x.op == 6) = true := by simp [hop]
  have i0 : (0 : Int) < (v.length : Int) := by omega
  have hsl2 : ss.length + 1 ≤ v.length := by omega
  clear hss hh hpe hop hV hd1 hvl
  go_enter Tryz.func6, Tryz.ntmps6
  go_wp2
  go_loopw [4, 5, 6, 7, 8] (fun ov nv sa i sn wr => ∃ (k at_ : Nat) (done ss' : List (List Nd)), i = .int .i64 k ∧ sa = .int .i64 at_ ∧ OL wr w.heap.size ov (done.map strip) ∧ OT wr w.heap.size nv (done.map nameOf) ∧ done.length = k ∧ Hid (Segs v.length (v.drop at_) ss') ∧ Hid (done ++ ss' = ss) ∧ at_ ≤ v.length ∧ 1 ≤ at_ ∧ Below w.heap.size w wr) (fun _ _ _ i _ _ => ss.length - (intOf i).toNat)
  case atStart => exact ⟨0, 1, [], ss, rfl, rfl, OL.nil _ _, Row1.nil _ _ _, rfl, by rw [HD1.out]; exact HSS, rfl, by omega, Nat.le_refl _, Below.refl _ _⟩
  case round =>
    obtain ⟨k, at_, done, ss', rfl, rfl, hol, hot, hdl, HSg, HD, hat, hat1, hb⟩ := hrel
    have z0 := (hb.cell (p := ⟨b, off, none⟩) hbw).trans x0
    have z1 := (hb.cell (p := ⟨b, off + 1, none⟩) hbw).trans x1
    have hlen := congrArg List.length HD.out
    rw [List.length_append] at hlen
    have hvr := hv.up hb
    generalize hu : v.drop at_ = u at *
    cases hsg : HSg.out with
    | nil =>
      have HE : Hid (done = ss) := by have := HD.out; show _ = _; simpa using this
      simp at hlen
      have i1 : ¬ (k : Int) < x.n := by omega
      clear hsg
      obtain ⟨q1, c1, rfl, hll, _⟩ := hol.lists
      obtain ⟨q2, c2, rfl, htl, _⟩ := hot.texts
      rw [HE.out] at hll htl ⊢
      simp only [List.length_map]
      go_wp2
      go_ret2
      exact ⟨⟨q1, c1, q2, c2, rfl, hll, htl⟩, hb⟩
    | @cons a r' ss2 h hs =>
      obtain ⟨y, t, rfl, hy⟩ := HH.out a (by rw [← HD.out]; simp)
      simp at hlen
      have hul : (v.drop at_).length = v.length - at_ := by simp
      rw [hu] at hul
      simp at hul
      have i1 : (k : Int) < x.n := by omega
      have hda := Segs.drop_eq hu
      simp only [List.length_cons] at hda
      have HS2 : Hid (Segs v.length r' ss2) := hs
      have halt : at_ < v.length := by omega
      have HY : Hid (y.op = 7) := hy
      have hcons : v.drop (at_ + 1) = t ++ r' := by
        rw [← List.drop_drop, hu]; rfl
      have hpv : pastV v.length (t ++ r') = some r' := by
        have := h
        simp only [List.cons_append, itemP, if_pos hy] at this
        exact this
      obtain ⟨b', o', hpe, _, _, _, y2, _, yw⟩ := hvr.at halt
      obtain ⟨rfl, rfl⟩ : b = b' ∧ off = o' := by simpa using hpe
      have hye : v[at_] = y := by
        have := congrArg (fun l => l[0]?) hu
        simp at this
        rw [List.getElem?_eq_getElem halt] at this
        exact Option.some.inj this
      rw [hye] at y2
      have hendc := fun w' (hb' : Below w.heap.size w w') => valueEnd_any (v.length + 1) v b off c (at_ + 1) false w' (by omega) (by omega) (hv.up hb') (Nat.lt_of_lt_of_le hbw hb'.size) hc HM.out
      rw [pastF_value, hcons, pastV_fuel (v.length + 1) v.length (t ++ r') (by simp; omega) (by simp; omega), hpv] at hendc
      have hen : endI v.length (some r') = ((at_ + 1 + t.length : Nat) : Int) := by unfold endI; simp only []; omega
      rw [hen, show ((at_ + 1 : Nat) : Int) = (at_ : Int) + 1 by omega] at hendc
      have j1 : (at_ : Int) + 1 ≤ ((at_ + 1 + t.length : Nat) : Int) := by omega
      have j2 : ((at_ + 1 + t.length : Nat) : Int) ≤ (c : Int) := by omega
      have j3 : (at_ : Int) < (v.length : Int) := by omega
      have hst : strip (y :: t) = t := by show (if y.op = 7 then t else y :: t) = t; rw [if_pos hy]
      have hnm : nameOf (y :: t) = y.s := by show (if y.op = 7 then y.s else _) = y.s; rw [if_pos hy]
      have hne : 0 < t.length := by
        have := (pastV_shorter hpv).1
        simp at this; omega
      have j4 : ¬ c = at_ + 1 := by omega
      have hT : NL w (some ⟨b, off + (at_ + 1) * 4, none⟩) t := by
        have := hv.from (at_ + 1) t.length
        rw [hcons, List.take_left] at this
        exact this
      generalize hen2 : at_ + 1 + t.length = en at *
      have HEN : Hid (_ = _) := hen2
      clear hsg h hs hpv hcons hye hu hen hy hen2 hpe
      go_wp2_with fail
      refine (hendc _ hb).mono ?_
      rintro e w1 ⟨rfl, hb1⟩
      have hb2 := hb.trans (hb1.mono hb.size)
      have hol1 := hol.below hb1 hb.size
      have hot1 : OT w1 w.heap.size u5 (done.map nameOf) := Row1.kept (e := 172) hot (Kept.of_below hb1 hb.size) (by decide)
      have hNT : NT w1 w.heap.size (some ⟨b, off + (at_ + 1) * 4, none⟩) t := ⟨hT.up hb2, .inr ⟨b, _, rfl, .inl hbw⟩⟩
      have hLn : t.length = (en - (at_ + 1)) := by have := HEN.out; first | (simp; omega) | omega
      have hdm : (done.map strip).length ≤ 200 := by simp; omega
      have hdm2 : (done.map nameOf).length ≤ 200 := by simp; omega
      clear hendc hol hot z0 z1
      have HOL : Hid (OL w1 w.heap.size u4 (done.map strip)) := hol1
      have HOT : Hid (OT w1 w.heap.size u5 (done.map nameOf)) := hot1
      clear hol1 hot1
      go_wp2_with (first
        | (at_builtin; refine append_listN w1 rfl (.tmp 33) (.tmp 38) rfl w.heap.size u4 (done.map strip) rfl HOL.out t (en - (at_ + 1)) hLn (some ⟨b, off + (at_ + 1) * 4, none⟩) (c - (at_ + 1)) hNT (by omega) (by unfold maxLen; omega) rfl (by omega) hb2.size ?_; intro v1 w2 hol2 hk2; have hot2 : OT w2 w.heap.size u5 (done.map nameOf) := Row1.kept HOT.out hk2 (by decide); have hb3 := hb2.trans hk2.bel; have HO2 : Hid (OL w2 w.heap.size v1 (done.map strip ++ [t])) := hol2; clear hol2)
        | (at_builtin; refine append_text w2 rfl (.tmp 40) (.tmp 42) rfl w.heap.size u5 (done.map nameOf) rfl hot2 y.s rfl (by omega) hb3.size ?_; intro v2 w3 hot3 hk3))
      have hol3 := HO2.out.kept hk3 (by decide) (by decide)
      go_roundw
      case rel => exact ⟨k + 1, en, done ++ [y :: t], ss2, by go_num, rfl, by rw [List.map_append, List.map_cons, hst]; exact hol3, by rw [List.map_append, List.map_cons, hnm]; exact hot3, by simp [hdl], by rw [← HEN.out, show at_ + 1 + t.length = at_ + (t.length + 1) by omega, hda.1]; exact HS2, by show _ = _; rw [← HD.out]; simp, by have := HEN.out; omega, by have := HEN.out; omega, hb3.trans hk3.bel⟩
      case measure => simp [intOf]; omega
end Go.Proofs.YtncmjcjnldhhhaaGreatDoor
