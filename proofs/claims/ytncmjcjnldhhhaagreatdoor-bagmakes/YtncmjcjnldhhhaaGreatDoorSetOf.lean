/- Package val's SetOf: what it returns, by a walk of its own text. -/
import Derived.Test.YtncmjcjnldhhhaaGreatDoorSetRows
import Derived.Test.YtncmjcjnldhhhaaGreatDoorSetN
import Derived.Test.YtncmjcjnldhhhaaGreatDoorCheck
namespace Go.Proofs.YtncmjcjnldhhhaaGreatDoor
open Go.RowKit Go.Sort Go.Shelf
set_option linter.unusedVariables false

theorem setOf_bad (vs : List (List Nd)) (p : Option Addr) (c : Nat) (w : World) (hv : LL w p vs) (hl : vs.length ≤ maxLen) (h : ffault vs ≠ 0) :
    Calls Tryz.prog 18 #[.slice p vs.length c] w fun e w' => e = .returned (.tuple #[.slice none 0 0, eV (ffault vs)]) ∧ Below w.heap.size w w' := by
  unfold maxLen at hl
  have HZ : Hid (ffault vs ≠ 0) := h
  clear h
  go_enter Tryz.func18, Tryz.ntmps18
  go_wp2
  go_loopw [13] (fun i wr => ∃ k : Nat, k ≤ vs.length ∧ i = .int .i64 k ∧ Hid (ffault (vs.drop k) = ffault vs) ∧ Below w.heap.size w wr) (fun i _ => vs.length - (intOf i).toNat)
  case atStart => exact ⟨0, Nat.zero_le _, rfl, rfl, Below.refl _ _⟩
  case round =>
    obtain ⟨k, hk, rfl, HD, hb⟩ := hrel
    by_cases hlt : k < vs.length
    · have i1 : (k : Int) < (vs.length : Int) := by omega
      obtain ⟨b, off, q, c', rfl, hbw, hcell, hnl, h1, h2⟩ := (hv.up hb).at hlt
      have HS : Hid (_ = _) := ffault_step vs k hlt
      generalize vs[k] = v at *
      have H1 := vcheck_any v q c' _ hnl h1 h2
      by_cases hz : vfault v = 0
      · rw [eV_nil hz] at H1
        have HS2 : Hid (ffault (vs.drop (k + 1)) = ffault vs) := by show _ = _; rw [← HD.out, HS.out, if_pos hz]
        clear HD HS
        go_wp2_with fail
        refine H1.mono ?_
        rintro e w1 ⟨rfl, hb1⟩
        have hb2 := hb.trans (hb1.mono hb.size)
        clear H1
        go_wp2
        go_roundw
        case rel => exact ⟨k + 1, by omega, by go_num, HS2, hb2⟩
        case measure => simp [intOf]; omega
      · have HS2 : Hid (vfault v = ffault vs) := by show _ = _; rw [← HD.out, HS.out, if_neg hz]
        rw [eV_not hz] at H1
        have HE : Hid (eV (vfault v) = .iface 23 (.int .i64 (vfault v))) := eV_not hz
        generalize vfault v = z at *
        clear HD HS hz
        go_wp2_with fail
        refine H1.mono ?_
        rintro e w1 ⟨rfl, hb1⟩
        have hb2 := hb.trans (hb1.mono hb.size)
        clear H1
        go_wp2
        go_ret2
        exact ⟨by rw [← HS2.out, HE.out]; rfl, hb2⟩
    · exfalso
      have := HD.out
      rw [List.drop_of_length_le (by omega)] at this
      exact HZ.out this.symm

theorem RL.up {w w' : World} {g : Nat} {l : List (List Nd)} (h : RL w g l) (hg : g < w.heap.size) (k : Below w.heap.size w w') : RL w' g l := fun i L hL => by
  obtain ⟨q, c, h1, h2, h3⟩ := h i L hL
  exact ⟨q, c, (k.cell (p := ⟨g, i, none⟩) hg).trans h1, h2.up k, h3⟩

/-- What SetOf hands back where all are values. -/
def SetRetV (w : World) (vs : List (List Nd)) (e : Ending) : Prop :=
  if (setN (setL vs)).length ≤ 200 then ∃ q c, e = .returned (.tuple #[.slice q (setN (setL vs)).length c, .nilIface]) ∧ NL w q (setN (setL vs)) ∧ (setN (setL vs)).length ≤ c ∧ c ≤ maxLen
  else e = .returned (.tuple #[.slice none 0 0, eV 4])

/-- The set while it is made: the head, and the first k of the parts. -/
def setK (l : List (List Nd)) (k : Nat) : List Nd := ⟨5, l.length, ⟨#[]⟩, ⟨#[]⟩⟩ :: (l.take k).flatten
theorem setK_all (l : List (List Nd)) : setK l l.length = setN l := by unfold setK setN; rw [List.take_length]
theorem setK_next {l : List (List Nd)} {k : Nat} (h : k < l.length) : setK l (k + 1) = setK l k ++ l[k] := by
  unfold setK
  rw [List.take_succ_eq_append_getElem h, List.flatten_append]
  simp
theorem flat_short : ∀ (l : List (List Nd)), (∀ v ∈ l, v.length ≤ 200) → l.flatten.length ≤ 200 * l.length
  | [], _ => by simp
  | v :: l, h => by
    have h1 := flat_short l (fun x hx => h x (by simp [hx]))
    have h2 := h v (by simp)
    simp only [List.flatten_cons, List.length_append, List.length_cons]
    omega

set_option maxRecDepth 100000 in
set_option maxHeartbeats 1500000 in
theorem setOf_ok (vs : List (List Nd)) (p : Option Addr) (c : Nat) (w : World) (hv : LL w p vs) (hl : vs.length ≤ 4294967296) (h : ffault vs = 0) (hne : ∀ v ∈ vs, v ≠ []) (hshort : ∀ v ∈ vs, v.length ≤ 200) :
    Calls Tryz.prog 18 #[.slice p vs.length c] w fun e w' => SetRetV w' vs e ∧ Below w.heap.size w w' := by
  have HZ : Hid (ffault vs = 0) := h
  have HSH : Hid (∀ v ∈ vs, v.length ≤ 200) := hshort
  have HNE : Hid (∀ v ∈ vs, v ≠ []) := hne
  clear h hshort hne
  go_enter Tryz.func18, Tryz.ntmps18
  go_wp2
  go_loopw [13] (fun i wr => ∃ k : Nat, k ≤ vs.length ∧ i = .int .i64 k ∧ Below w.heap.size w wr) (fun i _ => vs.length - (intOf i).toNat)
  case atStart => exact ⟨0, Nat.zero_le _, rfl, Below.refl _ _⟩
  case round =>
    obtain ⟨k, hk, rfl, hb⟩ := hrel
    by_cases hlt : k < vs.length
    · have i1 : (k : Int) < (vs.length : Int) := by omega
      obtain ⟨b, off, q, c', rfl, hbw, hcell, hnl, h1, h2⟩ := (hv.up hb).at hlt
      have hz : vfault vs[k] = 0 := (ffault_zero vs).1 HZ.out _ (List.getElem_mem _)
      generalize vs[k] = v at *
      have H1 := vcheck_any v q c' _ hnl h1 h2
      rw [eV_nil hz] at H1
      go_wp2_with fail
      refine H1.mono ?_
      rintro e w1 ⟨rfl, hb1⟩
      have hb2 := hb.trans (hb1.mono hb.size)
      clear H1 hz
      go_wp2
      go_roundw
      case rel => exact ⟨k + 1, by omega, by go_num, hb2⟩
      case measure => simp [intOf]; omega
    · obtain rfl : k = vs.length := by omega
      have i1 : ¬ (vs.length : Int) < (vs.length : Int) := by omega
      have HC := clone_row vs p c wr (hv.up hb) (by omega)
      go_wp2_with fail
      refine HC.mono ?_
      rintro e w1 ⟨⟨v, rfl, hrow⟩, hb1'⟩
      have hb1 := hb.trans (hb1'.mono hb.size)
      clear HC hb1'
      rcases hrow with ⟨rfl, rfl⟩ | ⟨g, cap, rfl, hg, hrow⟩
      · go_wp2_with fail
        refine (sort_none 0 w1).mono ?_
        rintro e w2 ⟨rfl, rfl⟩
        go_wp2_with fail
        refine (compact_none 0 w2).mono ?_
        rintro e w3 ⟨rfl, rfl⟩
        have hstart : ON (w3.alloc (.cells #[.int .i64 5, .int .i64 0, .string ⟨#[]⟩, .string ⟨#[]⟩] 41)) w3.heap.size (.slice (some ⟨w3.heap.size, 0, none⟩) 1 1) (setN []) :=
          ⟨⟨rfl, .inr ⟨w3.heap.size, 1, _, rfl, Nat.le_refl _, heap_alloc_new w3 _, Nat.le_refl _, by unfold maxLen; omega, rfl, rfl⟩⟩, fun x hx => by simp [setN] at hx; subst hx; exact ⟨Nat.zero_le _, Nat.zero_le _, by decide⟩⟩
        obtain ⟨g2, cap2, e2, _, _, hgc2, hgm2, hgn2, _⟩ := hstart.slice (by simp [setN])
        cases e2
        have hbz : Below w.heap.size w (w3.alloc (.cells #[.int .i64 5, .int .i64 0, .string ⟨#[]⟩, .string ⟨#[]⟩] 41)) := hb1.alloc hb1.size _
        have hF := fun W => fit_ok (setN []) (some ⟨w3.heap.size, 0, none⟩) 1 W (by simp [setN])
        have HR : Hid (SetRetV (w3.alloc (.cells #[.int .i64 5, .int .i64 0, .string ⟨#[]⟩, .string ⟨#[]⟩] 41)) [] (.returned (.tuple #[.slice (some ⟨w3.heap.size, 0, none⟩) 1 1, .nilIface]))) := by
          show SetRetV _ _ _
          unfold SetRetV
          rw [if_pos (by simp [setN, setL])]
          exact ⟨_, 1, rfl, hgn2, Nat.le_refl _, hgm2⟩
        have HBZ : Hid _ := hbz
        clear hstart hgn2 hbz
        go_wp2
        generalize w3.alloc (.cells #[.int .i64 5, .int .i64 0, .string ⟨#[]⟩, .string ⟨#[]⟩] 41) = w4 at *
        go_loopw [8, 35] (fun sv i wr => sv = .slice (some ⟨w3.heap.size, 0, none⟩) 1 1 ∧ i = .int .i64 0 ∧ wr = w4) (fun _ _ _ => 0)
        case atStart => exact ⟨rfl, rfl, rfl⟩
        case round =>
          obtain ⟨rfl, rfl, rfl⟩ := hrel
          go_wp2_with fail
          refine (hF _).mono ?_
          rintro e w5 ⟨rfl, rfl⟩
          go_wp2
          go_ret2
          exact ⟨HR.out, HBZ.out⟩
      · go_wp2_with fail
        refine (sort_row g cap w1 vs hrow (by omega)).mono ?_
        rintro e w2 ⟨rfl, ⟨zs, hrow2, hzl, hzm, hzw⟩, hb2'⟩
        have hb2 := hb1.trans (hb2'.mono (Nat.le_trans hb.size hg))
        have HC := compact_row g cap w2 zs vs hrow2 (by omega) hzw hzm
        rw [hzl] at HC
        clear hb2' hrow hrow2 hzw
        go_wp2_with fail
        refine HC.mono ?_
        rintro e w3 ⟨rfl, hrl, hg3, hsl, hb3'⟩
        have hb3 := hb2.trans (hb3'.mono (Nat.le_trans hb.size hg))
        clear HC hb3'
        have HRL : Hid (RL w3 g (setL vs)) := hrl
        have HSL : Hid (∀ v ∈ setL vs, v.length ≤ 200) := fun v hm => HSH.out v ((mem_setL vs v).1 hm)
        generalize hle : setL vs = l at *
        have HLE : Hid (setL vs = l) := hle
        clear hrl hle
        have hstart : ON (w3.alloc (.cells #[.int .i64 5, .int .i64 l.length, .string ⟨#[]⟩, .string ⟨#[]⟩] 41)) w3.heap.size (.slice (some ⟨w3.heap.size, 0, none⟩) 1 1) (setK l 0) :=
          ⟨⟨rfl, .inr ⟨w3.heap.size, 1, _, rfl, Nat.le_refl _, heap_alloc_new w3 _, Nat.le_refl _, by unfold maxLen; omega, rfl, rfl⟩⟩, fun x hx => by simp [setK] at hx; subst hx; exact ⟨Nat.zero_le _, Nat.zero_le _, by simp only; omega⟩⟩
        have HST : Hid _ := hstart
        clear hstart hzm hzl
        go_wp2
        go_loopw [8, 35] (fun sv i wr => ∃ k : Nat, k ≤ l.length ∧ i = .int .i64 k ∧ ON wr w3.heap.size sv (setK l k) ∧ Below w3.heap.size w3 wr) (fun _ i _ => l.length - (intOf i).toNat)
        case atStart => exact ⟨0, Nat.zero_le _, rfl, HST.out, (Below.refl _ _).alloc (Nat.le_refl _) _⟩
        case round =>
          obtain ⟨k, hk, rfl, hon, hbr⟩ := hrel
          have hfl : (setK l k).length ≤ 200 * l.length + 1 := by
            have := flat_short (l.take k) (fun v hv => HSL.out v (List.mem_of_mem_take hv))
            have h2 : (l.take k).length ≤ l.length := by simp; omega
            have h3 : (setK l k).length = (l.take k).flatten.length + 1 := rfl
            omega
          by_cases hlt : k < l.length
          · have i2 : (k : Int) < (l.length : Int) := by omega
            obtain ⟨q, c', hcell, hnl, _⟩ := (HRL.out.up hg3 hbr) k l[k] (List.getElem?_eq_getElem hlt)
            have hmem : l[k] ∈ l := List.getElem_mem _
            have h200 := HSL.out _ hmem
            have hne := HNE.out l[k] ((mem_setL vs _).1 (by rw [HLE.out]; exact hmem))
            have HT : Hid (setK l (k + 1) = setK l k ++ l[k]) := setK_next hlt
            generalize l[k] = part at *
            obtain ⟨y, t, rfl⟩ := List.exists_cons_of_ne_nil hne
            obtain ⟨pb, po, rfl, hpb, _⟩ := hnl.head
            have HON : Hid (ON wr w3.heap.size u8 (setK l k)) := hon
            have HNL : Hid (NL wr (some ⟨pb, po, none⟩) (y :: t)) := hnl
            have HBR : Hid (Below w3.heap.size w3 wr) := hbr
            obtain ⟨i0, hi, hz0, hz1, hz2⟩ := info_parts Tryz.infoNode
            clear hnl hmem hne hon hbr
            generalize setK l k = S at *
            go_wp2_with (at_builtin; refine wpList_append_own _ rfl (.tmp 39) (.tmp 40) 22 rfl w3.heap.size 41 i0 _ 4 48 Tryz.underlying22 hi hz0 hz1 hz2 rfl (by decide) u8 S.length (ncells S) rfl HON.out.1 ⟨pb, po, none⟩ (y :: t).length c' (ncells (y :: t)) rfl ?qc1 ?qc2 ?qc3 ?qc4 ?qc5 ?qc6 ?_)
            case qc1 => exact ncells_length (y :: t)
            case qc2 =>
              intro j u hu
              have hadd : (⟨pb, po, none⟩ : Addr).add j = ⟨pb, po + j, none⟩ := by unfold Addr.add; split <;> simp_all
              rw [hadd]; exact HNL.out.cells j u hu
            case qc3 => exact ncells_one _
            case qc4 => unfold maxLen; omega
            case qc5 => omega
            case qc6 => exact HBR.out.size
            intro v' w' h1 h2 h3
            have hown := HON.out.1
            have hb4 : Below w3.heap.size w3 w' := HBR.out.grown h2 HBR.out.size (fun k hk => by
              rcases hown.2 with ⟨e, _⟩ | ⟨g', _, _, e, hb', _⟩
              · rw [e] at hk; simp [Value.ownBlock] at hk
              · rw [e] at hk; simp [Value.ownBlock] at hk; omega)
            have hon2 : ON w' w3.heap.size v' (setK l (k + 1)) := by
              rw [HT.out]
              refine ⟨?_, fun x hx => ?_⟩
              · rw [ncells_append, List.length_append]
                exact h1
              · rcases List.mem_append.1 hx with hx | hx
                · exact HON.out.2 x hx
                · exact HNL.out.wfs x hx
            clear h1 h2 h3 hown hi hz0 hz1 hz2
            have HO2 : Hid (ON w' w3.heap.size v' (setK l (k + 1))) := hon2
            clear hon2
            go_wp2
            go_roundw
            case rel => exact ⟨k + 1, by omega, by go_num, HO2.out, hb4⟩
            case measure => simp [intOf]; omega
          · obtain rfl : k = l.length := by omega
            have i2 : ¬ (l.length : Int) < (l.length : Int) := by omega
            rw [setK_all] at hon hfl
            obtain ⟨g2, cap2, rfl, hg2, hgw2, hgc2, hgm2, hgn2, _⟩ := hon.slice (by simp [setN])
            have hbz : Below w.heap.size w wr := hb3.trans (hbr.mono hb3.size)
            clear hon
            by_cases hfit : (setN l).length ≤ 200
            · have hF := fit_ok (setN l) (some ⟨g2, 0, none⟩) cap2 wr hfit
              have HR : Hid (SetRetV wr vs (.returned (.tuple #[.slice (some ⟨g2, 0, none⟩) (setN l).length cap2, .nilIface]))) := by
                show SetRetV _ _ _
                unfold SetRetV
                rw [HLE.out, if_pos hfit]
                exact ⟨_, _, rfl, hgn2, hgc2, hgm2⟩
              generalize (setN l).length = len at *
              go_wp2_with fail
              refine hF.mono ?_
              rintro e w5 ⟨rfl, rfl⟩
              go_wp2
              go_ret2
              exact ⟨HR.out, hbz⟩
            · have hF := fit_full (setN l) (some ⟨g2, 0, none⟩) cap2 wr (by omega)
              have HR : Hid (SetRetV wr vs (.returned (.tuple #[.slice none 0 0, eV 4]))) := by
                show SetRetV _ _ _
                unfold SetRetV
                rw [HLE.out, if_neg hfit]
              generalize (setN l).length = len at *
              go_wp2_with fail
              refine hF.mono ?_
              rintro e w5 ⟨rfl, rfl⟩
              go_wp2
              go_ret2
              exact ⟨HR.out, hbz⟩
end Go.Proofs.YtncmjcjnldhhhaaGreatDoor
