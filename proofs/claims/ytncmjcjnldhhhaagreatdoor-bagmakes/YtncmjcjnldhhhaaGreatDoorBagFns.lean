/- Package bag's questions: closures that answer of every list of nodes; slices.IndexFunc, ContainsFunc with any of them; the parts of which one holds. -/
import Derived.Test.YtncmjcjnldhhhaaGreatDoorBagL
import Derived.Test.YtncmjcjnldhhhaaGreatDoorSetFns
import Derived.Test.YtncmjcjnldhhhaaGreatDoorOwnL
import Derived.Test.YtncmjcjnldhhhaaGreatDoorCheck
import Derived.Shelf.Abstract
namespace Go.Proofs.YtncmjcjnldhhhaaGreatDoor
open Go.RowKit
set_option linter.unusedVariables false

/-- A function value that answers p of every list of nodes, in w and in whatever keeps what lies in w. -/
def Asks (w : World) (fv : Value) (p : List Nd → Bool) : Prop :=
  ∃ g lb, fv = .func (.func g) #[] lb ∧ (∀ args w, (callFunc g args).run Tryz.prog w = .ok (.enter g args) w) ∧
    ∀ (W : World) (q : Option Addr) (v : List Nd) (c : Nat), Below w.heap.size w W → NL W q v → v.length ≤ c → c ≤ maxLen →
      Calls Tryz.prog g (#[.slice q v.length c] ++ lb) W fun e w' => e = .returned (.bool (p v)) ∧ Below W.heap.size W w'
theorem Asks.later {w W : World} {fv : Value} {p : List Nd → Bool} (h : Asks w fv p) (hb : Below w.heap.size w W) : Asks W fv p := by
  obtain ⟨g, lb, h1, h2, h3⟩ := h
  exact ⟨g, lb, h1, h2, fun W' q v c hb' => h3 W' q v c (hb.trans (hb'.mono hb.size))⟩

theorem any_next {vs : List (List Nd)} {k : Nat} (h : k < vs.length) (p : List Nd → Bool) : (vs.take (k + 1)).any p = ((vs.take k).any p || p vs[k]) := by
  rw [List.take_succ_eq_append_getElem h, List.any_append]; simp
theorem any_hit {vs : List (List Nd)} {k : Nat} (h : k < vs.length) {p : List Nd → Bool} (hp : p vs[k] = true) : vs.any p = true :=
  List.any_eq_true.2 ⟨_, List.getElem_mem h, hp⟩

theorem indexFunc_any (vs : List (List Nd)) (p : Option Addr) (c : Nat) (fv : Value) (ask : List Nd → Bool) (w : World) (hv : LL w p vs) (hl : vs.length ≤ maxLen) (hf : Asks w fv ask) :
    Calls Tryz.prog 56 #[.slice p vs.length c, fv] w fun e w' => (∃ n : Int, e = .returned (.int .i64 n) ∧ decide (0 ≤ n) = vs.any ask) ∧ Below w.heap.size w w' := by
  unfold maxLen at hl
  obtain ⟨g, lb, rfl, eg, hp⟩ := hf
  have HP : Hid (∀ (W : World) (q : Option Addr) (v : List Nd) (c : Nat), Below w.heap.size w W → NL W q v → v.length ≤ c → c ≤ maxLen → Calls Tryz.prog g (#[.slice q v.length c] ++ lb) W fun e w' => e = .returned (.bool (ask v)) ∧ Below W.heap.size W w') := hp
  clear hp
  go_enter Tryz.func56, Tryz.ntmps56
  go_wp2
  go_loopw [8] (fun i wr => ∃ k : Nat, k ≤ vs.length ∧ i = .int .i64 k ∧ Hid ((vs.take k).any ask = false) ∧ Below w.heap.size w wr) (fun i _ => vs.length - (intOf i).toNat)
  case atStart => exact ⟨0, Nat.zero_le _, rfl, by simp [Hid], Below.refl _ _⟩
  case round =>
    obtain ⟨k, hk, rfl, HA, hb⟩ := hrel
    by_cases hlt : k < vs.length
    · have i1 : (k : Int) < (vs.length : Int) := by omega
      obtain ⟨b, off, q, c', rfl, hbw, hcell, hnl, h1, h2⟩ := (hv.up hb).at hlt
      have HN : Hid (_ = _) := any_next hlt ask
      have HH : Hid (_ → _) := any_hit hlt (p := ask)
      have H1 := HP.out wr q _ c' hb hnl h1 h2
      generalize vs[k] = v at *
      cases ha : ask v
      · rw [ha] at H1
        have HA2 : Hid ((vs.take (k + 1)).any ask = false) := by show _ = _; rw [HN.out, HA.out, ha]; rfl
        clear HN HH HA
        go_wp2_with (go_at_fn g; refine H1.mono ?_; rintro e w1 ⟨rfl, hb1⟩)
        go_roundw
        case rel => exact ⟨k + 1, by omega, by go_num, HA2, hb.trans (hb1.mono hb.size)⟩
        case measure => simp [intOf]; omega
      · rw [ha] at H1
        have HA2 : Hid (vs.any ask = true) := HH.out ha
        clear HN HH HA
        go_wp2_with (go_at_fn g; refine H1.mono ?_; rintro e w1 ⟨rfl, hb1⟩)
        go_ret
        exact ⟨⟨_, rfl, by rw [HA2.out]; simp⟩, hb.trans (hb1.mono hb.size)⟩
    · have i1 : ¬ (k : Int) < (vs.length : Int) := by omega
      have HA2 : Hid (vs.any ask = false) := by
        have := HA.out
        rw [List.take_of_length_le (by omega)] at this
        exact this
      go_wp2
      go_ret
      exact ⟨⟨_, rfl, by rw [HA2.out]; decide⟩, hb⟩

theorem containsFunc_any (vs : List (List Nd)) (p : Option Addr) (c : Nat) (fv : Value) (ask : List Nd → Bool) (w : World) (hv : LL w p vs) (hl : vs.length ≤ maxLen) (hf : Asks w fv ask) :
    Calls Tryz.prog 40 #[.slice p vs.length c, fv] w fun e w' => e = .returned (.bool (vs.any ask)) ∧ Below w.heap.size w w' := by
  have H1 := indexFunc_any vs p c fv ask w hv hl hf
  clear hf hv
  go_enter Tryz.func40, Tryz.ntmps40
  go_wp2_with fail
  refine H1.mono ?_
  rintro e w1 ⟨⟨n, rfl, hn⟩, hb⟩
  go_wp2
  go_ret
  exact ⟨by rw [← hn]; rfl, hb⟩

/-- The question whether a list is this one. -/
theorem inner_asks (B : Nat) (q : Option Addr) (v : List Nd) (c : Nat) (w : World) (hB : B < w.heap.size) (hc : w.cell? ⟨B, 0, none⟩ = some (.slice q v.length c)) (hv : NL w q v) (hl : v.length ≤ maxLen) :
    Asks w (.func (.func 41) #[] #[.pointer (some ⟨B, 0, none⟩)]) (fun a => decide (lsC a v = 0)) := by
  refine ⟨_, _, rfl, enters_of Tryz.func41 (by kernel_rfl) rfl, fun W p a c1 hb ha h1 h2 => ?_⟩
  have H1 := equalNodes_any a v p q c1 c W ha (hv.up hb) (Nat.le_trans h1 h2) hl
  have hc' := (hb.cell (p := ⟨B, 0, none⟩) hB).trans hc
  go_enter Tryz.func41, Tryz.ntmps41
  go_wp2_with fail
  refine H1.mono ?_
  rintro e w1 ⟨rfl, n, rfl⟩
  go_wp2
  go_ret
  exact ⟨rfl, ⟨rfl, rfl, rfl, Nat.le_refl _, fun _ _ => rfl⟩⟩

/-- The question whether a list is one of these. -/
theorem had_asks (B : Nat) (p : Option Addr) (vs : List (List Nd)) (c : Nat) (w : World) (hB : B < w.heap.size) (hc : w.cell? ⟨B, 0, none⟩ = some (.slice p vs.length c)) (hv : LL w p vs) (hl : vs.length ≤ maxLen) :
    Asks w (.func (.func 39) #[] #[.pointer (some ⟨B, 0, none⟩)]) (inB vs) := by
  refine ⟨_, _, rfl, enters_of Tryz.func39 (by kernel_rfl) rfl, fun W q v c1 hb hn h1 h2 => ?_⟩
  have hc' := (hb.cell (p := ⟨B, 0, none⟩) hB).trans hc
  have hB' : B < W.heap.size := Nat.lt_of_lt_of_le hB hb.size
  have hup : Below W.heap.size W (W.alloc (.cells #[.slice q v.length c1] 22)) := (Below.refl _ _).alloc (Nat.le_refl _) _
  have hc2 := (hup.cell (p := ⟨B, 0, none⟩) hB').trans hc'
  have H1 := containsFunc_any vs p c _ _ (W.alloc (.cells #[.slice q v.length c1] 22)) ((hv.up hb).up hup) hl
    (inner_asks W.heap.size q v c1 (W.alloc (.cells #[.slice q v.length c1] 22)) (by simp) (by simp) (hn.up hup) (Nat.le_trans h1 h2))
  clear hc hv hn
  go_enter Tryz.func39, Tryz.ntmps39
  go_wp2_with fail
  refine H1.mono ?_
  rintro e w1 ⟨rfl, hb1⟩
  go_wp2
  go_ret
  exact ⟨rfl, hup.trans (hb1.mono hup.size)⟩

theorem hadBy_any (p : Option Addr) (vs : List (List Nd)) (c : Nat) (w : World) (hv : LL w p vs) (hl : vs.length ≤ maxLen) :
    Calls Tryz.prog 22 #[.slice p vs.length c] w fun e w' => (∃ fv, e = .returned fv ∧ Asks w' fv (inB vs)) ∧ Below w.heap.size w w' := by
  have hup : Below w.heap.size w (w.alloc (.cells #[.slice p vs.length c] 26)) := (Below.refl _ _).alloc (Nat.le_refl _) _
  have HA := had_asks w.heap.size p vs c (w.alloc (.cells #[.slice p vs.length c] 26)) (by simp) (by simp) (hv.up hup) hl
  have hmf : ∀ (fn : Fn) (first cap : Array Value) (w : World), (Instr.makeFunc fn first cap).run Tryz.prog w = .ok (.func fn first cap) w := fun _ _ _ _ => rfl
  go_enter Tryz.func22, Tryz.ntmps22
  go_wp2
  go_ret
  exact ⟨⟨_, rfl, HA⟩, hup⟩

theorem not_asks (B : Nat) (fv : Value) (ask : List Nd → Bool) (w : World) (hB : B < w.heap.size) (hc : w.cell? ⟨B, 0, none⟩ = some fv) (hf : Asks w fv ask) :
    Asks w (.func (.func 42) #[] #[.pointer (some ⟨B, 0, none⟩)]) (fun v => !ask v) := by
  obtain ⟨g, lb, rfl, eg, hp⟩ := hf
  refine ⟨_, _, rfl, enters_of Tryz.func42 (by kernel_rfl) rfl, fun W q v c1 hb hn h1 h2 => ?_⟩
  have hc' := (hb.cell (p := ⟨B, 0, none⟩) hB).trans hc
  have H1 := hp W q v c1 hb hn h1 h2
  clear hp hc
  go_enter Tryz.func42, Tryz.ntmps42
  go_wp2_with (go_at_fn g; refine H1.mono ?_; rintro e w1 ⟨rfl, hb1⟩)
  go_ret
  exact ⟨rfl, hb1⟩

theorem not_any (fv : Value) (ask : List Nd → Bool) (w : World) (hf : Asks w fv ask) :
    Calls Tryz.prog 23 #[fv] w fun e w' => (∃ fv', e = .returned fv' ∧ Asks w' fv' (fun v => !ask v)) ∧ Below w.heap.size w w' := by
  obtain ⟨g, lb, hfv, _⟩ := id hf
  have hup : Below w.heap.size w (w.alloc (.cells #[fv] 50)) := (Below.refl _ _).alloc (Nat.le_refl _) _
  have HA := not_asks w.heap.size fv ask (w.alloc (.cells #[fv] 50)) (by simp) (by simp) (hf.later hup)
  subst hfv
  have hmf : ∀ (fn : Fn) (first cap : Array Value) (w : World), (Instr.makeFunc fn first cap).run Tryz.prog w = .ok (.func fn first cap) w := fun _ _ _ _ => rfl
  go_enter Tryz.func23, Tryz.ntmps23
  go_wp2
  go_ret
  exact ⟨⟨_, rfl, HA⟩, hup⟩

theorem filter_next {vs : List (List Nd)} {k : Nat} (h : k < vs.length) (p : List Nd → Bool) : (vs.take (k + 1)).filter p = (vs.take k).filter p ++ (if p vs[k] then [vs[k]] else []) := by
  rw [List.take_succ_eq_append_getElem h, List.filter_append]
  congr 1
  cases e : p vs[k] <;> simp [e]

set_option maxHeartbeats 1000000 in
theorem those_any (vs : List (List Nd)) (p : Option Addr) (c : Nat) (fv : Value) (ask : List Nd → Bool) (w : World) (hv : LL w p vs) (hl : vs.length ≤ 4294967296) (hf : Asks w fv ask) :
    Calls Tryz.prog 21 #[.slice p vs.length c, fv] w fun e w' => (∃ q c', e = .returned (.slice q (vs.filter ask).length c') ∧ LL w' q (vs.filter ask) ∧ (vs.filter ask).length ≤ c' ∧ c' ≤ maxLen) ∧ Below w.heap.size w w' := by
  obtain ⟨g, lb, rfl, eg, hp⟩ := hf
  have HP : Hid (∀ (W : World) (q : Option Addr) (v : List Nd) (c : Nat), Below w.heap.size w W → NL W q v → v.length ≤ c → c ≤ maxLen → Calls Tryz.prog g (#[.slice q v.length c] ++ lb) W fun e w' => e = .returned (.bool (ask v)) ∧ Below W.heap.size W w') := hp
  have HV : Hid (LL w p vs) := hv
  clear hp hv
  go_enter Tryz.func21, Tryz.ntmps21
  go_wp2
  go_loopw [5, 10] (fun ov i wr => ∃ (k : Nat), k ≤ vs.length ∧ i = .int .i64 k ∧ OL wr w.heap.size ov ((vs.take k).filter ask) ∧ Below w.heap.size w wr) (fun _ i _ => vs.length - (intOf i).toNat)
  case atStart => exact ⟨0, Nat.zero_le _, rfl, OL.nil _ _, Below.refl _ _⟩
  case round =>
    obtain ⟨k, hk, rfl, hol, hb⟩ := hrel
    by_cases hlt : k < vs.length
    · have i1 : (k : Int) < (vs.length : Int) := by omega
      obtain ⟨b, off, q, c', hp0, hbw, hcell0, hnl0, h1, h2⟩ := HV.out.at hlt
      have HF : Hid (_ = _) := filter_next hlt ask
      have hfl : ((vs.take k).filter ask).length ≤ 4294967296 := Nat.le_trans (List.length_filter_le _ _) (by simp; omega)
      generalize vs[k] = v at *
      subst hp0
      have hcell := (hb.cell (p := ⟨b, off + k, none⟩) hbw).trans hcell0
      have H1 := HP.out wr q v c' hb (hnl0.up hb) h1 h2
      have HNT : Hid (NT w w.heap.size q v) := NT.old hnl0 rfl
      have HO : Hid (OL wr w.heap.size u5 ((vs.take k).filter ask)) := hol
      have HB : Hid (Below w.heap.size w wr) := hb
      clear hol hcell0 hnl0 hb
      cases ha : ask v
      · rw [ha] at H1
        have HF2 : Hid ((vs.take (k + 1)).filter ask = (vs.take k).filter ask) := by show _ = _; rw [HF.out, ha]; simp
        clear HF
        go_wp2_with (go_at_fn g; refine H1.mono ?_; rintro e w1 ⟨rfl, hb1⟩)
        go_roundw
        case rel => exact ⟨k + 1, by omega, by go_num, by rw [HF2.out]; exact HO.out.below hb1 HB.out.size, HB.out.trans (hb1.mono HB.out.size)⟩
        case measure => simp [intOf]; omega
      · rw [ha] at H1
        have HF2 : Hid ((vs.take (k + 1)).filter ask = (vs.take k).filter ask ++ [v]) := by show _ = _; rw [HF.out, ha]; simp
        clear HF
        go_wp2_with (first | (go_at_fn g; refine H1.mono ?_; rintro e w1 ⟨rfl, hb1⟩) | (at_builtin; have hb2 := HB.out.trans (hb1.mono HB.out.size); refine append_list w1 rfl (.tmp 17) (.tmp 19) rfl w.heap.size u5 ((vs.take k).filter ask) rfl (HO.out.below hb1 HB.out.size) v q c' (HNT.out.kept (e := 172) (Kept.of_below hb2 (Nat.le_refl _)) (by decide)) h1 h2 rfl (by omega) hb2.size ?_; intro v' w2 hol2 hk2))
        go_roundw
        case rel => exact ⟨k + 1, by omega, by go_num, by rw [HF2.out]; exact hol2, (HB.out.trans (hb1.mono HB.out.size)).trans hk2.bel⟩
        case measure => simp [intOf]; omega
    · have i1 : ¬ (k : Int) < (vs.length : Int) := by omega
      have HE : Hid ((vs.take k).filter ask = vs.filter ask) := by show _ = _; rw [List.take_of_length_le (by omega)]
      obtain ⟨pq, pc, rfl, hpl, hpc, hpm⟩ := hol.lists
      rw [HE.out] at hpl hpc ⊢
      go_wp2
      go_ret
      exact ⟨⟨pq, pc, rfl, hpl, hpc, hpm⟩, hb⟩
end Go.Proofs.YtncmjcjnldhhhaaGreatDoor
