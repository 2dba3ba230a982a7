/- ValSame: the walk of the statement's own function. -/
import Derived.Test.YthmfgnofhbmogaaSetOf
import Derived.Test.YthmfgnofhbmogaaSetV
import Derived.Test.YthmfgnofhbmogaaParts
import Derived.Test.YthmfgnofhbmogaaIntsArg
import Derived.Test.YthmfgnofhbmogaaVorderWalk
namespace Go.Proofs.Ythmfgnofhbmogaa
open Go.RowKit
set_option linter.unusedVariables false

theorem below_dn (w : World) (n : Nat) : Below w.heap.size w (w.drewN n) := ⟨rfl, rfl, rfl, Nat.le_refl _, fun _ _ => rfl⟩

theorem sameNodes_drawn (a b : List Nd) (p q : Option Addr) (c1 c2 : Nat) (w : World) (ha : NL w p a) (hb : NL w q b) (la : a.length ≤ maxLen) (lb : b.length ≤ maxLen) (n : Nat) :
    Calls Try.prog 7 #[.slice p a.length c1, .slice q b.length c2] (w.drewN n) fun e w' => e = .returned (.bool (sameNd a b)) ∧ ∃ m, w' = w.drewN m :=
  (sameNodes_any a b p q c1 c2 (w.drewN n) (ha.up (below_dn w n)) (hb.up (below_dn w n)) la lb).mono fun e w' ⟨h1, m, h2⟩ => ⟨h1, n + m, by rw [h2, World.drewN_drewN]⟩

def five : List Nd := [⟨2, 5, ⟨#[]⟩, ⟨#[]⟩⟩]
theorem five_ok : vfault five = 0 := by decide
theorem five_set : setL [five, five] = [five] := by simp [setL, ins, lsC_self]

theorem setL_same {a b : List (List Nd)} (h : ∀ x, x ∈ a ↔ x ∈ b) : setL a = setL b :=
  setL_is (strict_setL a) (fun x => (mem_setL a x).trans (h x))
theorem setL_twice (a : List (List Nd)) : setL (setL a) = setL a := setL_same (fun x => mem_setL a x)

/-- SetOf where all are values, and the set has room. -/
theorem setOf_fits (vs : List (List Nd)) (S : List Nd) (hS : setN (setL vs) = S) (p : Option Addr) (c : Nat) (w : World) (hv : LL w p vs) (hl : vs.length ≤ 4294967296) (hval : ∀ v ∈ vs, vfault v = 0) (hfit : S.length ≤ 200) :
    Calls Try.prog 8 #[.slice p vs.length c] w fun e w' => (∃ q c', e = .returned (.tuple #[.slice q S.length c', .nilIface]) ∧ NL w' q S ∧ S.length ≤ c' ∧ c' ≤ maxLen) ∧ Below w.heap.size w w' := by
  subst hS
  have hne : ∀ v ∈ vs, v ≠ [] := fun v hm => by
    obtain ⟨x, r, e, _⟩ := value_head (hval v hm)
    rw [e]; simp
  have hsh : ∀ v ∈ vs, v.length ≤ 200 := fun v hm => (isVal_past (hval v hm)).1
  have H := setOf_ok vs p c w hv hl ((ffault_zero vs).2 hval) hne hsh
  simp only [SetRetV, if_pos hfit] at H
  exact H

theorem flat_ge : ∀ (l : List (List Nd)), (∀ v ∈ l, v ≠ []) → l.length ≤ l.flatten.length
  | [], _ => by simp
  | a :: l, h => by
    have h1 := flat_ge l (fun v hv => h v (by simp [hv]))
    have h2 : 0 < a.length := by have := h a (by simp); cases a with | nil => exact absurd rfl this | cons x a => simp
    simp only [List.length_cons, List.flatten_cons, List.length_append]
    omega

theorem LL.pair {w : World} {a b : List Nd} {p q : Option Addr} (ha : NL w p a) (hb : NL w q b) (la : a.length ≤ maxLen) (lb : b.length ≤ maxLen) :
    LL (w.alloc (.cells #[.slice p a.length a.length, .slice q b.length b.length] 22)) (some ⟨w.heap.size, 0, none⟩) [a, b] := by
  have hb' : Below w.heap.size w (w.alloc (.cells #[.slice p a.length a.length, .slice q b.length b.length] 22)) := (Below.refl _ _).alloc (Nat.le_refl _) _
  refine .inr ⟨w.heap.size, 0, rfl, by simp, fun i v hi => ?_⟩
  match i, hi with
  | 0, hi => simp at hi; subst hi; exact ⟨p, a.length, by simp [go_sem], ha.up hb', Nat.le_refl _, la⟩
  | 1, hi => simp at hi; subst hi; exact ⟨q, b.length, by simp [go_sem], hb.up hb', Nat.le_refl _, lb⟩
  | i + 2, hi => simp at hi

set_option maxRecDepth 100000 in
set_option maxHeartbeats 1000000 in
theorem vsame_walk (vs : List (List Nd)) (order : List Int) (p q : Option Addr) (c d : Nat) (w : World) (hv : LL w p vs) (ho : IL w q order) (hl : vs.length ≤ 1048576) (hol : order.length ≤ 1048576) :
    Calls Try.prog 4 #[.slice p vs.length c, .slice q order.length d] w fun e w' => e = .returned (.bool true) ∧ Below w.heap.size w w' := by
  go_enter Try.func4, Try.ntmps4
  go_wp2_with fail
  refine (num1_any 5 (by decide) _).mono ?_
  rintro e w1 ⟨⟨p5, rfl, h5⟩, k1⟩
  go_wp2_with fail
  refine (num1_any 5 (by decide) _).mono ?_
  rintro e w2 ⟨⟨p6, rfl, h6⟩, k2'⟩
  have k2 := below2 k1 k2'
  have HF := setOf_fits [five, five] (setN [five]) (by rw [five_set]) (some ⟨w2.heap.size, 0, none⟩) 2 _ (LL.pair (a := five) (b := five) (h5.up k2') h6 (by decide) (by decide)) (by decide) (by intro v hv; simp at hv; subst hv; exact five_ok) (by decide)
  go_wp2_with fail
  refine HF.mono ?_
  rintro e w3 ⟨⟨qf, cf, rfl, hf, _, _⟩, k3'⟩
  have hf' : NL w3 qf (⟨5, 1, ⟨#[]⟩, ⟨#[]⟩⟩ :: five) := hf
  obtain ⟨fb, fo, rfl, hfb, f0, f1, f2, f3, _⟩ := hf'.head
  have k2a := k2.alloc k2.size (.cells #[Value.slice p5 five.length five.length, Value.slice p6 five.length five.length] 22)
  have k3 := k2a.trans (k3'.mono k2a.size)
  rw [show (setN [five]).length = 2 from rfl]
  clear HF hf hf' k2a k3' k2 k2' k1 h5 h6
  simp only at f0 f1 f2 f3
  by_cases h : ffault vs = 0
  · by_cases hfit : (setN (setL vs)).length ≤ 200
    · have hval := (ffault_zero vs).1 h
      have H1 := setOf_fits vs _ rfl p c w3 (hv.up k3) (by omega) hval hfit
      have HLE : Hid (∀ x, x ∈ setL vs ↔ x ∈ vs) := mem_setL vs
      have HST : Hid (Strict (setL vs)) := strict_setL vs
      generalize setL vs = l at *
      go_wp2_with fail
      refine H1.mono ?_
      rintro e w4 ⟨⟨qs, cs, rfl, hs, hsc, hsm⟩, k4'⟩
      have k4 := below2 k3 k4'
      clear H1 k4' k3
      have hv4 := hv.up k4
      have ho4 := ho.up k4
      clear hv ho h f0 f1 f2 f3 hfb
      have HVAL : Hid (∀ v ∈ vs, vfault v = 0) := hval
      have HV : Hid (LL w4 p vs) := hv4
      have HS : Hid (NL w4 qs (setN l)) := hs
      clear hval hs
      go_wp2
      go_loopw [9, 10] (fun ov i wr => ∃ (k : Nat) (acc : List (List Nd)), k ≤ order.length ∧ i = .int .i64 k ∧ OL wr w4.heap.size ov acc ∧ Hid (∀ x ∈ acc, x ∈ vs) ∧ acc.length ≤ k ∧ Below w4.heap.size w4 wr) (fun _ i _ => order.length - (intOf i).toNat)
      case atStart => exact ⟨0, [], Nat.zero_le _, rfl, OL.nil _ _, (fun x hx => absurd hx (by simp) : ∀ x ∈ ([] : List (List Nd)), x ∈ vs), Nat.zero_le _, Below.refl _ _⟩
      case round =>
        obtain ⟨k, acc, hk, rfl, holr, HA, hal, hbr⟩ := hrel
        by_cases hlt : k < order.length
        · have i1 : (k : Int) < (order.length : Int) := by omega
          obtain ⟨ob, oo, rfl, hob, oc, on1, on2⟩ := (ho4.up hbr).at hlt
          generalize order[k] = n at *
          by_cases hn0 : 0 ≤ n
          · obtain ⟨m, rfl⟩ := Int.eq_ofNat_of_zero_le hn0
            by_cases hn1 : m < vs.length
            · have i2 : (m : Int) < (vs.length : Int) := by omega
              obtain ⟨vb, vo, q', c', hp, hvb, vc, hnl, h1, h2⟩ := HV.out.at hn1
              have hmem : vs[m] ∈ vs := List.getElem_mem _
              generalize vs[m] = L at *
              subst hp
              have hNT : NT wr w4.heap.size q' L := (NT.old hnl rfl).kept (e := 105) (Kept.of_below hbr (Nat.le_refl _)) (by decide)
              have vc' := (hbr.cell (p := ⟨vb, vo + m, none⟩) hvb).trans vc
              have HO : Hid (OL wr w4.heap.size u9 acc) := holr
              have HBR : Hid (Below w4.heap.size w4 wr) := hbr
              have HNT : Hid (NT wr w4.heap.size q' L) := hNT
              clear vc hnl holr hbr hNT
              go_wp2_with (at_builtin; refine append_list wr rfl (.tmp 72) (.tmp 80) rfl w4.heap.size u9 acc rfl HO.out L q' c' HNT.out h1 h2 rfl (by omega) HBR.out.size ?_; intro v' w5 hol5 hk5)
              go_roundw
              case rel => exact ⟨k + 1, acc ++ [L], by omega, by go_num, hol5, fun x hx => (List.mem_append.1 hx).elim (HA.out x) (fun hx => by simp at hx; subst hx; exact hmem), by simp; omega, HBR.out.trans hk5.bel⟩
              case measure => simp [intOf]; omega
            · have i2 : ¬ (m : Int) < (vs.length : Int) := by omega
              go_wp2
              go_roundw
              case rel => exact ⟨k + 1, acc, by omega, by go_num, holr, HA, by omega, hbr⟩
              case measure => simp [intOf]; omega
          · go_wp2
            go_roundw
            case rel => exact ⟨k + 1, acc, by omega, by go_num, holr, HA, by omega, hbr⟩
            case measure => simp [intOf]; omega
        · have i1 : ¬ (k : Int) < (order.length : Int) := by omega
          clear ho4 hlt
          go_wp2
          go_loopw [9, 11] (fun ov i wr2 => ∃ (m : Nat) (acc2 : List (List Nd)), m ≤ vs.length ∧ i = .int .i64 ((m : Int) - 1) ∧ OL wr2 w4.heap.size ov acc2 ∧ Hid (∀ x ∈ acc2, x ∈ vs) ∧ Hid (∀ (j : Nat) (hj : j < vs.length), m ≤ j → vs[j] ∈ acc2) ∧ acc2.length + m ≤ order.length + vs.length ∧ Below w4.heap.size w4 wr2) (fun _ i _ => (intOf i + 1).toNat)
          case atStart => exact ⟨vs.length, acc, Nat.le_refl _, by go_num, holr, HA, (fun j hj hm => absurd hm (by omega) : ∀ (j : Nat) (hj : j < vs.length), vs.length ≤ j → vs[j] ∈ acc), by omega, hbr⟩
          case round =>
            obtain ⟨m, acc2, hm, rfl, hol2, HA2, HC, hal2, hbr2⟩ := hrel
            rcases m with _ | m
            · have HM : Hid (∀ x, x ∈ acc2 ↔ x ∈ vs) := fun x => ⟨HA2.out x, fun hx => by
                obtain ⟨j, hj, rfl⟩ := List.mem_iff_getElem.1 hx
                exact HC.out j hj (Nat.zero_le _)⟩
              have hset : setL acc2 = l := (setL_is HST.out (fun x => (HLE.out x).trans (HM.out x).symm)).symm
              have hlv : ∀ v ∈ l, vfault v = 0 := fun v hm => HVAL.out v ((HLE.out v).1 hm)
              have hsv : vfault (setN l) = 0 := setN_value HST.out hlv hfit
              have hset2 : setL l = l := (setL_is HST.out (fun x => Iff.rfl)).symm
              obtain ⟨oq, oc, rfl, hll, hoc, hom⟩ := hol2.lists
              have H2 := setOf_fits acc2 (setN l) (by rw [hset]) oq oc wr hll (by omega) (fun v hm => HVAL.out v (HA2.out v hm)) hfit
              obtain ⟨sb, so, rfl, hsb, _⟩ := (show NL w4 qs (⟨5, l.length, ⟨#[]⟩, ⟨#[]⟩⟩ :: l.flatten) from HS.out).head
              have hSm : (setN l).length ≤ maxLen := Nat.le_trans hsc hsm
              have hS1 : sameNd (setN l) (setN l) = true := (sameNd_iff _ _).2 rfl
              have hfl : l.length ≤ 200 := by
                have h1 := flat_ge l (fun v hm => by obtain ⟨x, r, e, _⟩ := value_head (hlv v hm); rw [e]; simp)
                have h2 : (setN l).length = l.flatten.length + 1 := rfl
                omega
              have HN : ∀ q1 c1 w', NL w' q1 (setN l) → NL w' (some ⟨sb, so, none⟩) (setN l) → _ := fun q1 c1 w' h1 h2 => sameNodes_any (setN l) (setN l) q1 (some ⟨sb, so, none⟩) c1 cs w' h1 h2 hSm hSm
              rw [hS1] at HN
              have HP : ∀ w', Below w4.heap.size w4 w' → Calls Try.prog 9 #[.slice (some ⟨sb, so, none⟩) (setN l).length cs] w' fun e w'' => (∃ q c', e = .returned (.tuple #[.slice q l.length c', .nilIface]) ∧ LL w'' q l ∧ l.length ≤ c' ∧ c' ≤ maxLen) ∧ Below w'.heap.size w' w'' := fun w' hb' => by
                have := parts_ok (setN l).length ⟨5, l.length, ⟨#[]⟩, ⟨#[]⟩⟩ l.flatten l (values_segs _ l hlv (fun v hm => by have := mem_flat hm; show v.length + 1 ≤ l.flatten.length + 1; omega)) sb so cs w' (HS.out.up hb') hsc hsm hsv (.inl rfl)
                rw [values_strip hlv] at this
                exact this
              have HK : ∀ w', Below w4.heap.size w4 w' → _ := fun w' hb' => vcheck_any (setN l) (some ⟨sb, so, none⟩) cs w' (HS.out.up hb') hsc hsm
              rw [eV_nil hsv] at HK
              have HU := fun q c w' (h : LL w' q l) => setOf_fits l (setN l) (by rw [hset2]) q c w' h (by omega) hlv hfit
              clear hol2 hll hset hset2 hsv HC HA2 holr HA hm hal2 hoc hom hal
              have HL : Hid (∀ v ∈ l, vfault v = 0) := hlv
              clear hlv
              generalize hSL : setN l = S at *
              generalize S.length = sn at *
              go_wp2_with fail
              refine H2.mono ?_
              rintro e w5 ⟨⟨qt, ct, rfl, ht, _, _⟩, k5'⟩
              have k5 := hbr2.trans (k5'.mono hbr2.size)
              go_wp2_with fail
              refine (HN qt ct w5 ht (HS.out.up k5)).mono ?_
              rintro e w6 ⟨rfl, n6, rfl⟩
              have k6 : Below w4.heap.size w4 (w5.drewN n6) := ⟨k5.os, k5.tape, k5.output, k5.size, k5.block⟩
              clear ht k5' hbr2
              go_wp2_with fail
              refine (HP _ k6).mono ?_
              rintro e w7 ⟨⟨qp, cp, rfl, hpl, hpc, hpm⟩, k7'⟩
              have k7 := k6.trans (k7'.mono k6.size)
              clear k7' k6 HP
              go_wp2_with fail
              refine (HU qp cp _ hpl).mono ?_
              rintro e w8 ⟨⟨qu, cu, rfl, hu, _, _⟩, k8'⟩
              have k8 := k7.trans (k8'.mono k7.size)
              have hpl8 := hpl.up k8'
              clear k8' k7 HU hpl
              go_wp2_with fail
              refine (HN qu cu _ hu (HS.out.up k8)).mono ?_
              rintro e w9 ⟨rfl, n9, rfl⟩
              have k9' : Below w8.heap.size w8 (w8.drewN n9) := ⟨rfl, rfl, rfl, Nat.le_refl _, fun _ _ => rfl⟩
              have k9 : Below w4.heap.size w4 (w8.drewN n9) := ⟨k8.os, k8.tape, k8.output, k8.size, k8.block⟩
              have hpl9 := hpl8.up k9'
              clear hu k9' k8 HN hpl8
              go_wp2_with fail
              refine (HK _ k9).mono ?_
              rintro e w10 ⟨rfl, k10'⟩
              have k10 := k9.trans (k10'.mono k9.size)
              have hplA := hpl9.up k10'
              have hvA := HV.out.up k10
              clear k10' k9 hpl9 HK HV HS hv4 H2
              go_wp2
              go_loopw [20] (fun i wr => ∃ m : Nat, m ≤ vs.length ∧ i = .int .i64 m ∧ Below w10.heap.size w10 wr) (fun i _ => vs.length - (intOf i).toNat)
              case atStart => exact ⟨0, Nat.zero_le _, rfl, Below.refl _ _⟩
              case round =>
                obtain ⟨m, hm, rfl, hbr⟩ := hrel
                by_cases hlt : m < vs.length
                · have i3 : (m : Int) < (vs.length : Int) := by omega
                  obtain ⟨vb, vo, q', c', hp, hvb, vc, hnl, h1, h2⟩ := (hvA.up hbr).at hlt
                  have hmem : vs[m] ∈ vs := List.getElem_mem _
                  generalize vs[m] = L at *
                  subst hp
                  go_wp2
                  go_loopw [21, 22] (fun is j wr2 => ∃ (t : Nat) (b : Bool), t ≤ l.length ∧ is = .bool b ∧ j = .int .i64 t ∧ Hid (b = true ↔ L ∈ l.take t) ∧ Below wr.heap.size wr wr2) (fun _ j _ => l.length - (intOf j).toNat)
                  case atStart => exact ⟨0, false, Nat.zero_le _, rfl, rfl, by simp [Hid], Below.refl _ _⟩
                  case round =>
                    obtain ⟨t, b, ht, rfl, rfl, HB, hbr3⟩ := hrel
                    by_cases hlt3 : t < l.length
                    · have i4 : (t : Int) < (l.length : Int) := by omega
                      have hb4 := hbr.trans (hbr3.mono hbr.size)
                      obtain ⟨pb, po, q4, c4, hp4, hpb, pc, hpn, h3, h4⟩ := (hplA.up hb4).at hlt3
                      have vc' := (hbr3.cell (p := ⟨vb, vo + m, none⟩) hvb).trans vc
                      have HT : Hid (L ∈ l.take (t + 1) ↔ L ∈ l.take t ∨ L = l[t]) := by
                        show _ ↔ _
                        rw [List.take_succ_eq_append_getElem hlt3, List.mem_append, List.mem_singleton]
                      generalize l[t] = M at *
                      subst hp4
                      have hN := fun n => sameNodes_drawn M L q4 q' c4 c' wr hpn (hnl.up hbr3) (Nat.le_trans h3 h4) (Nat.le_trans h1 h2) n
                      by_cases hML : M = L
                      · subst hML
                        simp only [(sameNd_iff M M).2 rfl] at hN
                        have HB2 : Hid (M ∈ l.take (t + 1)) := HT.out.2 (.inr rfl)
                        go_wp2_with fail
                        go_quiet (exact hN _)
                        have hb5 : Below _ _ (wr.drewN nq) := ⟨hbr3.os, hbr3.tape, hbr3.output, hbr3.size, hbr3.block⟩
                        go_wp2
                        go_roundw
                        case rel => exact ⟨t + 1, true, by omega, rfl, by go_num, (⟨fun _ => HB2.out, fun _ => rfl⟩ : true = true ↔ M ∈ l.take (t + 1)), hb5⟩
                        case measure => simp [intOf]; omega
                      · simp only [sameNd_no hML] at hN
                        have HB2 : Hid (b = true ↔ L ∈ l.take (t + 1)) := by
                          show _ ↔ _
                          rw [HT.out, HB.out]
                          exact ⟨.inl, fun h => h.elim id (fun e => absurd e.symm hML)⟩
                        go_wp2_with fail
                        go_quiet (exact hN _)
                        have hb5 : Below _ _ (wr.drewN nq) := ⟨hbr3.os, hbr3.tape, hbr3.output, hbr3.size, hbr3.block⟩
                        go_wp2
                        go_roundw
                        case rel => exact ⟨t + 1, b, by omega, rfl, by go_num, HB2, hb5⟩
                        case measure => simp [intOf]; omega
                    · have i4 : ¬ (t : Int) < (l.length : Int) := by omega
                      obtain rfl : b = true := by
                        rw [HB.out, List.take_of_length_le (by omega)]
                        exact (HLE.out L).2 hmem
                      go_wp2
                      go_roundw
                      case rel => exact ⟨m + 1, by omega, by go_num, hbr.trans (hbr3.mono hbr.size)⟩
                      case measure => simp [intOf]; omega
                · have i3 : ¬ (m : Int) < (vs.length : Int) := by omega
                  go_wp2
                  go_ret
                  exact ⟨rfl, k4.trans ((k10.trans (hbr.mono k10.size)).mono k4.size)⟩
            · have hn1 : m < vs.length := by omega
              have i2 : (m : Int) < (vs.length : Int) := by omega
              obtain ⟨vb, vo, q', c', hp, hvb, vc, hnl, h1, h2⟩ := HV.out.at hn1
              have hmem : vs[m] ∈ vs := List.getElem_mem _
              have HC2 : Hid (∀ (j : Nat) (hj : j < vs.length), m ≤ j → vs[j] ∈ acc2 ++ [vs[m]]) := fun j hj hmj => by
                by_cases e : j = m
                · subst e; simp
                · exact List.mem_append_left _ (HC.out j hj (by omega))
              generalize vs[m] = L at *
              subst hp
              have hNT : NT wr w4.heap.size q' L := (NT.old hnl rfl).kept (e := 105) (Kept.of_below hbr2 (Nat.le_refl _)) (by decide)
              have vc' := (hbr2.cell (p := ⟨vb, vo + m, none⟩) hvb).trans vc
              have HO : Hid (OL wr w4.heap.size u9 acc2) := hol2
              have HBR : Hid (Below w4.heap.size w4 wr) := hbr2
              have HNT : Hid (NT wr w4.heap.size q' L) := hNT
              clear vc hnl hol2 hbr2 hNT HC
              rw [show (((m + 1 : Nat) : Int) - 1) = (m : Int) by omega]
              go_wp2_with (at_builtin; refine append_list wr rfl (.tmp 89) (.tmp 94) rfl w4.heap.size u9 acc2 rfl HO.out L q' c' HNT.out h1 h2 rfl (by omega) HBR.out.size ?_; intro v' w5 hol5 hk5)
              go_roundw
              case rel => exact ⟨m, acc2 ++ [L], by omega, by go_num, hol5, (fun x hx => (List.mem_append.1 hx).elim (HA2.out x) (fun hx => by simp at hx; subst hx; exact hmem) : ∀ x ∈ acc2 ++ [L], x ∈ vs), HC2, by simp; omega, HBR.out.trans hk5.bel⟩
              case measure => simp [intOf]
    · have hval := (ffault_zero vs).1 h
      have hne : ∀ v ∈ vs, v ≠ [] := fun v hm => by
        obtain ⟨x, r, e, _⟩ := value_head (hval v hm)
        rw [e]; simp
      have hsh : ∀ v ∈ vs, v.length ≤ 200 := fun v hm => (isVal_past (hval v hm)).1
      have H1 := setOf_ok vs p c w3 (hv.up k3) (by omega) h hne hsh
      simp only [SetRetV, if_neg hfit] at H1
      rw [eV_not (by decide : (4 : Int) ≠ 0)] at H1
      clear hne hsh hval hfit h
      go_wp2_with fail
      refine H1.mono ?_
      rintro e w4 ⟨rfl, k4'⟩
      have k4 := below2 k3 k4'
      go_wp2
      go_ret
      exact ⟨rfl, k4⟩
  · have H1 := setOf_bad vs p c w3 (hv.up k3) (by unfold maxLen; omega) h
    rw [eV_not h] at H1
    go_wp2_with fail
    refine H1.mono ?_
    rintro e w4 ⟨rfl, k4'⟩
    have k4 := below2 k3 k4'
    go_wp2
    go_ret
    exact ⟨rfl, k4⟩
end Go.Proofs.Ythmfgnofhbmogaa
