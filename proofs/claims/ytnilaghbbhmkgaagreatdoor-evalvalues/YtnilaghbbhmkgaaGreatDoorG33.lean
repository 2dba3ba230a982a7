/- The document's SetOf: what it returns, by a walk of its own text. The document's RecOf: what it returns, by a walk of its own text. -/
import Derived.Test.YtnilaghbbhmkgaaGreatDoorG26
import Derived.Test.YtnilaghbbhmkgaaGreatDoorG20
import Derived.Test.YtnilaghbbhmkgaaGreatDoorG2
import Derived.Test.YtnilaghbbhmkgaaGreatDoorG19
namespace Go.Proofs.YtnilaghbbhmkgaaGreatDoor
open Go.RowKit
set_option linter.unusedVariables false

theorem pick_snoc (last v : List Nd) : ∀ (l : List (List Nd)) (nx : List Nd), pick last (l ++ [v]) nx = if above last v && lessO v (pick last l nx) then v else pick last l nx
  | [], nx => rfl
  | u :: l, nx => by
    show pick last (l ++ [v]) _ = _
    rw [pick_snoc last v l]
    rfl

theorem Picked.full {vs done : List (List Nd)} {last : List Nd} (h : Picked vs done last) : (setN done).length ≤ (setN (setL vs)).length := by
  have := flat_le (Strict.sub h.strict (strict_setL vs) (fun x hx => (mem_setL vs x).2 (h.sub x hx)))
  show done.flatten.length + 1 ≤ (setL vs).flatten.length + 1
  omega

theorem refSet_bad (vs : List (List Nd)) (p : Option Addr) (c : Nat) (w : World) (hv : LL w p vs) (hl : vs.length ≤ maxLen) (h : ffault vs ≠ 0) :
    Calls Tryz.prog 43 #[.slice p vs.length c] w fun e w' => e = .returned (.tuple #[.slice none 0 0, .int .i64 (ffault vs)]) ∧ Below w.heap.size w w' := by
  have h0 : (ffault vs != 0) = true := by simpa using h
  have hF := faults_any vs p c w hv hl
  generalize ffault vs = z at *
  go_enter Tryz.func43, Tryz.ntmps43
  go_wp2_with fail
  refine hF.mono ?_
  rintro e w1 ⟨rfl, hb⟩
  go_wp2
  go_ret2
  exact ⟨rfl, hb⟩

/-- What SetOf hands back where all are values. -/
def SetRet (w : World) (vs : List (List Nd)) (e : Ending) : Prop :=
  if (setN (setL vs)).length ≤ 200 then ∃ q c, e = .returned (.tuple #[.slice q (setN (setL vs)).length c, .int .i64 0]) ∧ NL w q (setN (setL vs))
  else e = .returned (.tuple #[.slice none 0 0, .int .i64 4])

/-- .. and where the set lies: in a block of nodes. -/
def SetRetT (w : World) (vs : List (List Nd)) (e : Ending) : Prop :=
  if (setN (setL vs)).length ≤ 200 then ∃ q c, e = .returned (.tuple #[.slice q (setN (setL vs)).length c, .int .i64 0]) ∧ NT w 0 q (setN (setL vs)) ∧ (setN (setL vs)).length ≤ c ∧ c ≤ maxLen
  else e = .returned (.tuple #[.slice none 0 0, .int .i64 4])

set_option maxRecDepth 100000 in
set_option maxHeartbeats 1500000 in
theorem refSet_full (vs : List (List Nd)) (p : Option Addr) (c : Nat) (w : World) (hv : LL w p vs) (hl : vs.length ≤ 1099511627776) (h : ffault vs = 0) (hne : ∀ v ∈ vs, v ≠ []) (hshort : ∀ v ∈ vs, v.length ≤ 200) :
    Calls Tryz.prog 43 #[.slice p vs.length c] w fun e w' => SetRetT w' vs e ∧ Below w.heap.size w w' := by
  have hF := faults_any vs p c w hv (by unfold maxLen; omega)
  rw [h] at hF
  have HNE : Hid (∀ v ∈ vs, v ≠ []) := hne
  have HSH : Hid (∀ v ∈ vs, v.length ≤ 200) := hshort
  clear h hne hshort
  go_enter Tryz.func43, Tryz.ntmps43
  go_wp2_with fail
  refine hF.mono ?_
  rintro e w1 ⟨rfl, hb1⟩
  clear hF
  have hll := hv.up hb1
  have hstart : ON (w1.alloc (.cells #[.int .i64 5, .int .i64 0, .string ⟨#[]⟩, .string ⟨#[]⟩] 41)) w1.heap.size (.slice (some ⟨w1.heap.size, 0, none⟩) 1 1) (setN []) :=
    ⟨⟨rfl, .inr ⟨w1.heap.size, 1, _, rfl, Nat.le_refl _, heap_alloc_new w1 _, Nat.le_refl _, by unfold maxLen; omega, rfl, rfl⟩⟩, fun x hx => by simp [setN] at hx; subst hx; exact ⟨Nat.zero_le _, Nat.zero_le _, by decide⟩⟩
  have HST : Hid _ := hstart
  clear hstart
  go_wp2
  go_loopw [5, 6] (fun ov lv wr => ∃ (done : List (List Nd)) (last : List Nd) (q : Option Addr) (cq : Nat), ON wr w1.heap.size ov (setN done) ∧ lv = .slice q last.length cq ∧ Hid (NL w1 q last) ∧ Hid (Picked vs done last) ∧ (setN done).length ≤ 200 ∧ last.length ≤ 200 ∧ Below w1.heap.size w1 wr) (fun ov _ _ => 201 - lenV ov)
  case atStart => exact ⟨[], [], none, 0, HST.out, rfl, .inl rfl, Picked.start vs, by simp [setN], by simp, (Below.refl _ _).alloc (Nat.le_refl _) _⟩
  case round =>
    obtain ⟨done, last, q, cq, hon, rfl, HQ, HPK, hs200, hl200, hbr⟩ := hrel
    have HON : Hid (ON wr w1.heap.size u5 (setN done)) := hon
    clear hon
    go_wp2
    generalize hwo : wr = wo at *
    clear hwo
    go_loopw [7, 8] (fun nv i wq => ∃ (k n : Nat) (qn : Option Addr) (cn : Nat), k ≤ vs.length ∧ i = .int .i64 k ∧ nv = .slice qn (pick last (vs.take k) []).length cn ∧ Hid (NL w1 qn (pick last (vs.take k) [])) ∧ (pick last (vs.take k) []).length ≤ 200 ∧ wq = wo.drewN n) (fun _ i _ => vs.length - (intOf i).toNat)
    case atStart => exact ⟨0, 0, none, 0, Nat.zero_le _, rfl, rfl, .inl rfl, by simp [pick], rfl⟩
    case round =>
      obtain ⟨k, n, qn, cn, hk, rfl, rfl, HP, hp200, hwr⟩ := hrel
      have hbq : Below w1.heap.size w1 wr := by rw [hwr]; exact below_nn hbr n
      have HWQ : Hid (_ = _) := hwr
      clear hwr
      by_cases hlt : k < vs.length
      · have i1 : (k : Int) < (vs.length : Int) := by omega
        obtain ⟨b, off, qv, cv, rfl, hbv, hcell, hnl, hv1, hv2⟩ := (hll.up hbq).at hlt
        have hnv1 : NL w1 qv vs[k] := by
          obtain ⟨b', off', qv', cv', e1, _, hc', hn', _⟩ := hll.at hlt
          cases e1
          have := hbq.cell (p := ⟨b, off + k, none⟩) (by assumption)
          rw [hcell, hc'] at this
          simp at this
          rw [this.1]; exact hn'
        have hmem : vs[k] ∈ vs := List.getElem_mem _
        have hvs := HSH.out _ hmem
        have HSN : Hid (pick last (vs.take (k + 1)) [] = if above last vs[k] && lessO vs[k] (pick last (vs.take k) []) then vs[k] else pick last (vs.take k) []) := by
          show _ = _
          rw [List.take_succ_eq_append_getElem hlt, pick_snoc]
        have HNV : Hid (NL w1 qv vs[k]) := hnv1
        generalize vs[k] = v at *
        generalize pick last (vs.take k) [] = P at *
        have N1 := fun W (hW : Below w1.heap.size w1 W) => refNodes_any v last qv q cv cq W (HNV.out.up hW) (HQ.out.up hW) (by unfold maxLen; omega) (by unfold maxLen; omega)
        have N2 := fun W (hW : Below w1.heap.size w1 W) => refNodes_any v P qv qn cv cn W (HNV.out.up hW) (HP.out.up hW) (by unfold maxLen; omega) (by unfold maxLen; omega)
        have HAB : Hid (above last v = (last.isEmpty || decide (0 < lsC v last))) := rfl
        have HLE : Hid (lessO v P = (P.isEmpty || decide (lsC v P < 0))) := rfl
        generalize lsC v last = z1 at *
        generalize lsC v P = z2 at *
        clear hmem hnv1
        cases le : ((last.length : Int) == 0)
        · have hle : last.isEmpty = false := by simpa using le
          cases hz1 : decide (0 < z1)
          · have HT : Hid (pick last (vs.take (k + 1)) [] = P) := by show _ = _; rw [HSN.out, HAB.out, hle, hz1]; rfl
            go_wp2_with fail
            refine (N1 _ hbq).mono ?_
            rintro e w4 ⟨rfl, m4, rfl⟩
            go_wp2
            go_roundw
            case rel => exact ⟨k + 1, _, qn, cn, by omega, by go_num, by rw [HT.out], by rw [HT.out]; exact HP, by rw [HT.out]; exact hp200, by rw [HWQ.out] <;> first | rfl | (simp only [World.drewN_drewN]; rfl)⟩
            case measure => simp [intOf]; omega
          · have hab : above last v = true := by rw [HAB.out, hle, hz1]; rfl
            go_wp2_with fail
            refine (N1 _ hbq).mono ?_
            rintro e w4 ⟨rfl, m4, rfl⟩
            have hbq4 := below_nn hbq m4
            cases pe : ((P.length : Int) == 0)
            · have hpe : P.isEmpty = false := by simpa using pe
              cases hz : decide (z2 < 0)
              · have HT : Hid (pick last (vs.take (k + 1)) [] = P) := by show _ = _; rw [HSN.out, hab, HLE.out, hpe, hz]; rfl
                go_wp2_with fail
                refine (N2 _ hbq4).mono ?_
                rintro e w5 ⟨rfl, m5, rfl⟩
                go_wp2
                go_roundw
                case rel => exact ⟨k + 1, _, qn, cn, by omega, by go_num, by rw [HT.out], by rw [HT.out]; exact HP, by rw [HT.out]; exact hp200, by rw [HWQ.out] <;> first | rfl | (simp only [World.drewN_drewN]; rfl)⟩
                case measure => simp [intOf]; omega
              · have HT : Hid (pick last (vs.take (k + 1)) [] = v) := by show _ = _; rw [HSN.out, hab, HLE.out, hpe, hz]; rfl
                go_wp2_with fail
                refine (N2 _ hbq4).mono ?_
                rintro e w5 ⟨rfl, m5, rfl⟩
                go_wp2
                go_roundw
                case rel => exact ⟨k + 1, _, qv, cv, by omega, by go_num, by rw [HT.out], by rw [HT.out]; exact HNV, by rw [HT.out]; exact hvs, by rw [HWQ.out] <;> first | rfl | (simp only [World.drewN_drewN]; rfl)⟩
                case measure => simp [intOf]; omega
            · have hpe : P.isEmpty = true := by simpa using pe
              have HT : Hid (pick last (vs.take (k + 1)) [] = v) := by show _ = _; rw [HSN.out, hab, HLE.out, hpe]; rfl
              go_wp2
              go_roundw
              case rel => exact ⟨k + 1, _, qv, cv, by omega, by go_num, by rw [HT.out], by rw [HT.out]; exact HNV, by rw [HT.out]; exact hvs, by rw [HWQ.out] <;> first | rfl | (simp only [World.drewN_drewN]; rfl)⟩
              case measure => simp [intOf]; omega
        · have hle : last.isEmpty = true := by simpa using le
          have hab : above last v = true := by rw [HAB.out, hle]; rfl
          cases pe : ((P.length : Int) == 0)
          · have hpe : P.isEmpty = false := by simpa using pe
            cases hz : decide (z2 < 0)
            · have HT : Hid (pick last (vs.take (k + 1)) [] = P) := by show _ = _; rw [HSN.out, hab, HLE.out, hpe, hz]; rfl
              go_wp2_with fail
              refine (N2 _ hbq).mono ?_
              rintro e w5 ⟨rfl, m5, rfl⟩
              go_wp2
              go_roundw
              case rel => exact ⟨k + 1, _, qn, cn, by omega, by go_num, by rw [HT.out], by rw [HT.out]; exact HP, by rw [HT.out]; exact hp200, by rw [HWQ.out] <;> first | rfl | (simp only [World.drewN_drewN]; rfl)⟩
              case measure => simp [intOf]; omega
            · have HT : Hid (pick last (vs.take (k + 1)) [] = v) := by show _ = _; rw [HSN.out, hab, HLE.out, hpe, hz]; rfl
              go_wp2_with fail
              refine (N2 _ hbq).mono ?_
              rintro e w5 ⟨rfl, m5, rfl⟩
              go_wp2
              go_roundw
              case rel => exact ⟨k + 1, _, qv, cv, by omega, by go_num, by rw [HT.out], by rw [HT.out]; exact HNV, by rw [HT.out]; exact hvs, by rw [HWQ.out] <;> first | rfl | (simp only [World.drewN_drewN]; rfl)⟩
              case measure => simp [intOf]; omega
          · have hpe : P.isEmpty = true := by simpa using pe
            have HT : Hid (pick last (vs.take (k + 1)) [] = v) := by show _ = _; rw [HSN.out, hab, HLE.out, hpe]; rfl
            go_wp2
            go_roundw
            case rel => exact ⟨k + 1, _, qv, cv, by omega, by go_num, by rw [HT.out], by rw [HT.out]; exact HNV, by rw [HT.out]; exact hvs, by rw [HWQ.out] <;> first | rfl | (simp only [World.drewN_drewN]; rfl)⟩
            case measure => simp [intOf]; omega
      · obtain rfl : k = vs.length := by omega
        have i1 : ¬ (vs.length : Int) < (vs.length : Int) := by omega
        have hon : ON wr w1.heap.size u5 (setN done) := by rw [HWQ.out]; exact HON.out
        rw [List.take_length] at HP hp200 ⊢
        obtain ⟨g, cap, rfl, hg, hgw, hgc, hgm, hgn, hgf⟩ := hon.slice (by simp [setN])
        have HN2 : Hid (pick last vs [] = [] → done = setL vs) := HPK.out.done HNE.out
        have HN3 : Hid (pick last vs [] ≠ [] → Picked vs (done ++ [pick last vs []]) (pick last vs [])) := HPK.out.next HNE.out
        generalize pick last vs [] = P at *
        have HO : Hid (ON wr w1.heap.size (.slice (some ⟨g, 0, none⟩) (setN done).length cap) (setN done)) := hon
        clear hon HON
        cases P with
        | nil =>
          have HE := HN2.out rfl
          have HEE : Hid (done = setL vs) := HE
          clear HE
          go_wp2
          go_ret2
          refine ⟨?_, hb1.trans (hbq.mono hb1.size)⟩
          have hh := HEE.out
          subst hh
          unfold SetRetT
          rw [if_pos hs200]
          have hty : Typed wr g 41 := by
            rcases HO.out.1.2 with ⟨e0, _⟩ | ⟨g', cap', cur, e0, _, hgg, _⟩
            · cases e0
            · cases e0; exact ⟨cur, _, hgg⟩
          exact ⟨_, cap, rfl, ⟨hgn, .inr ⟨g, 0, rfl, .inr hty⟩⟩, hgc, hgm⟩
        | cons y t =>
          have HPN := HN3.out (by simp)
          have HPK2 : Hid (Picked vs (done ++ [y :: t]) (y :: t)) := HPN
          clear HPN
          obtain ⟨pb, po, rfl, hpb, _⟩ := HP.out.head
          have j0 : ((t.length : Int) + 1 == 0) = false := by simp; omega
          obtain ⟨gb, go', hge, _, g0, g1, g2, g3, _⟩ : ∃ gb go', (some (⟨g, 0, none⟩ : Addr)) = some ⟨gb, go', none⟩ ∧ True ∧ wr.cell? ⟨gb, go', none⟩ = some (.int .i64 5) ∧ wr.cell? ⟨gb, go' + 1, none⟩ = some (.int .i64 done.length) ∧ wr.cell? ⟨gb, go' + 2, none⟩ = some (.string ⟨#[]⟩) ∧ wr.cell? ⟨gb, go' + 3, none⟩ = some (.string ⟨#[]⟩) ∧ True := by
            obtain ⟨gb, go', e1, _, e3, e4, e5, e6, _⟩ := NL.head (x := ⟨5, done.length, ⟨#[]⟩, ⟨#[]⟩⟩) (r := done.flatten) hgn
            exact ⟨gb, go', e1, trivial, e3, e4, e5, e6, trivial⟩
          cases hge
          simp only [Nat.zero_add] at g1 g2 g3
          have f1 := hgf 1
          have hs' : done.flatten.length + 1 ≤ 200 := hs200
          have hdl : done.length ≤ 200 := by
            have hh : ∀ (l : List (List Nd)), (∀ x ∈ l, x ≠ []) → l.length ≤ l.flatten.length := by
              intro l
              induction l with
              | nil => simp
              | cons a l ih =>
                intro h
                have h1 := ih (fun x hx => h x (by simp [hx]))
                have h2 := List.length_pos_iff.2 (h a (by simp))
                simp only [List.flatten_cons, List.length_append, List.length_cons]; omega
            have := hh done (fun x hx => HNE.out x (HPK.out.sub x hx))
            omega
          obtain ⟨F, hF⟩ : ∃ F, F = done.flatten := ⟨_, rfl⟩
          have hsd : setN done = (⟨5, done.length, ⟨#[]⟩, ⟨#[]⟩⟩ : Nd) :: F := by rw [hF]; rfl
          have hsn : setN (done ++ [y :: t]) = (⟨5, (done.length : Int) + 1, ⟨#[]⟩, ⟨#[]⟩⟩ :: F) ++ (y :: t) := by rw [hF]; exact setN_snoc done (y :: t)
          have HSN2 : Hid (_ = _) := hsn
          have HC := ON.count (k := (done.length : Int) + 1) (L := F) (by omega) (by
            rw [show (done.length : Int) + 1 - 1 = (done.length : Int) by omega]
            have := HO.out
            rw [hsd] at this
            exact this)
          rw [← hF] at hs'
          have HCC : Hid (ON (wr.setCell ⟨g, 1, none⟩ (.int .i64 ((done.length : Int) + 1))) w1.heap.size (.slice (some ⟨g, 0, none⟩) (F.length + 1) cap) (⟨5, (done.length : Int) + 1, ⟨#[]⟩, ⟨#[]⟩⟩ :: F)) := HC
          have hb3 : Below w1.heap.size w1 (wr.setCell ⟨g, 1, none⟩ (.int .i64 ((done.length : Int) + 1))) := hbq.setCell hg _
          have HNC : Hid (NL (wr.setCell ⟨g, 1, none⟩ (.int .i64 ((done.length : Int) + 1))) (some ⟨pb, po, none⟩) (y :: t)) := HP.out.up hb3
          obtain ⟨i0, hi, hz0, hz1, hz2⟩ := info_parts Tryz.infoNode
          have HWF : Hid (∀ x ∈ (y :: t), x.wf) := HP.out.wfs
          have hsl : (setN done).length = F.length + 1 := by rw [hsd]; rfl
          have HSL : Hid (_ = _) := hsl
          rw [hsl]
          clear HC HO HN2 HN3 hgn hgf hsd hsn hF hsl
          simp only [List.length_cons] at *
          have j1 : (0 : Int) < (F.length : Int) + 1 := by omega
          go_wp2_with (at_builtin; refine wpList_append_own _ rfl (.tmp 63) (.tmp 64) 25 rfl w1.heap.size 41 i0 _ 4 48 Tryz.underlying25 hi hz0 hz1 hz2 rfl (by decide) (.slice (some ⟨g, 0, none⟩) (F.length + 1) cap) (F.length + 1) (ncells (⟨5, (done.length : Int) + 1, ⟨#[]⟩, ⟨#[]⟩⟩ :: F)) rfl HCC.out.1 ⟨pb, po, none⟩ (t.length + 1) cn (ncells (y :: t)) rfl ?qc1 ?qc2 ?qc3 ?qc4 ?qc5 ?qc6 ?_)
          case qc1 => exact ncells_length (y :: t)
          case qc2 =>
            intro j u hu
            have hadd : (⟨pb, po, none⟩ : Addr).add j = ⟨pb, po + j, none⟩ := by unfold Addr.add; split <;> simp_all
            have hh := (HP.out.up hbq).cells j u hu
            first | exact hh | (rw [hadd]; exact HNC.out.cells j u hu)
          case qc3 => exact ncells_one _
          case qc4 => unfold maxLen; omega
          case qc5 => omega
          case qc6 => first | exact hbq.size | exact hb3.size
          intro v' w' h1 h2 h3
          have hb4 : Below w1.heap.size w1 w' := hb3.grown h2 (by first | exact hb3.size) (fun k hk => by simp [Value.ownBlock] at hk; omega)
          have hon2 : ON w' w1.heap.size v' (setN (done ++ [y :: t])) := by
            rw [HSN2.out]
            refine ⟨?_, fun x hx => ?_⟩
            · rw [ncells_append, List.length_append]
              exact h1
            · rcases List.mem_append.1 hx with hx | hx
              · exact HCC.out.2 x hx
              · exact HWF.out x hx
          have HON2 : Hid (ON w' w1.heap.size v' (setN (done ++ [y :: t]))) := hon2
          obtain ⟨g2, cap2, rfl, hg2, _, hgc2, hgm2, hgn2, _⟩ := hon2.slice (by simp [setN])
          have hl2 : (setN (done ++ [y :: t])).length = F.length + 1 + (t.length + 1) := by rw [HSN2.out]; simp; omega
          clear h1 h2 h3 hi hz0 hz1 hz2 hon2
          rw [hl2]
          by_cases hfull : 200 < F.length + 1 + (t.length + 1)
          · have hf2 : (200 : Int) < (F.length : Int) + 1 + ((t.length : Int) + 1) := by omega
            go_wp2
            go_ret2
            refine ⟨?_, hb1.trans (hb4.mono hb1.size)⟩
            have := HPK2.out.full
            unfold SetRetT
            rw [if_neg (by omega)]
            rfl
          · have hf2 : ¬ (200 : Int) < (F.length : Int) + 1 + ((t.length : Int) + 1) := by omega
            go_wp2
            go_roundw
            case rel => exact ⟨done ++ [y :: t], y :: t, some ⟨pb, po, none⟩, cn, by rw [← hl2]; exact HON2.out, rfl, HP, HPK2, by omega, by simp; omega, hb4⟩
            case measure =>
              have h5 := HSL.out
              have h6 := hl2
              simp [lenV]; omega

theorem refSet_ok (vs : List (List Nd)) (p : Option Addr) (c : Nat) (w : World) (hv : LL w p vs) (hl : vs.length ≤ 1099511627776) (h : ffault vs = 0) (hne : ∀ v ∈ vs, v ≠ []) (hshort : ∀ v ∈ vs, v.length ≤ 200) :
    Calls Tryz.prog 43 #[.slice p vs.length c] w fun e w' => SetRet w' vs e ∧ Below w.heap.size w w' := by
  refine (refSet_full vs p c w hv hl h hne hshort).mono fun e w' ⟨h1, h2⟩ => ⟨?_, h2⟩
  unfold SetRetT at h1
  unfold SetRet
  split at h1
  · rename_i hf
    rw [if_pos hf]
    obtain ⟨q, c', e1, e2, _⟩ := h1
    exact ⟨q, c', e1, e2.1⟩
  · rename_i hf
    rw [if_neg hf]
    exact h1
end Go.Proofs.YtnilaghbbhmkgaaGreatDoor
namespace Go.Proofs.YtnilaghbbhmkgaaGreatDoor
open Go.RowKit
set_option linter.unusedVariables false

theorem refRec_len (n m : Nat) (p q : Option Addr) (c d : Nat) (w : World) (hl : n ≠ m) (h1 : n ≤ maxLen) (h2 : m ≤ maxLen) :
    Calls Tryz.prog 44 #[.slice p n c, .slice q m d] w fun e w' => e = .returned (.tuple #[.slice none 0 0, .int .i64 1]) ∧ w' = w := by
  unfold maxLen at h1 h2
  have i0 : ((n : Int) != (m : Int)) = true := by simp; omega
  go_enter Tryz.func44, Tryz.ntmps44
  go_wp2
  go_ret2
  exact ⟨rfl, rfl⟩

theorem rfault_at' {names : List ByteArray} {vs : List (List Nd)} (hl : names.length = vs.length) (k : Nat) (hk : k < names.length) :
    rfault (names.take k) ((names.zip vs).drop k) = if nfault names[k].data.toList ≠ 0 then nfault names[k].data.toList else if seenB (names.take k) names[k] then 6 else if vfault (vs[k]'(by omega)) ≠ 0 then vfault (vs[k]'(by omega)) else rfault (names.take (k + 1)) ((names.zip vs).drop (k + 1)) := by
  have hz : k < (names.zip vs).length := by simp; omega
  rw [List.drop_eq_getElem_cons hz, List.take_succ_eq_append_getElem hk]
  simp only [rfault, List.getElem_zip]

theorem seen_at {names : List ByteArray} {k t : Nat} {s : ByteArray} (hk : k ≤ names.length) (ht : t < k) (e : names[t]'(by omega) = s) : seenB (names.take k) s = true := by
  rw [seenB_iff, ← e]
  exact List.mem_take_iff_getElem.2 ⟨t, by omega, rfl⟩
theorem unseen_at {names : List ByteArray} {k : Nat} {s : ByteArray} (h : ∀ (t : Nat) (ht : t < names.length), t < k → names[t] ≠ s) : seenB (names.take k) s = false := by
  cases e : seenB (names.take k) s
  · rfl
  · obtain ⟨t, ht, e2⟩ := List.mem_take_iff_getElem.1 ((seenB_iff _ _).1 e)
    exact absurd e2 (h t (by omega) (by omega))

theorem isVal_past' {v : List Nd} (h : vfault v = 0) : v.length ≤ 200 := (isVal_past h).1

set_option maxRecDepth 100000 in
set_option maxHeartbeats 1000000 in
theorem refRec_bad (names : List ByteArray) (vs : List (List Nd)) (p q : Option Addr) (c d : Nat) (w : World) (hn : TL w p names) (hv : LL w q vs) (hl : names.length = vs.length) (hsz : ∀ t ∈ names, t.size ≤ maxLen) (hle : names.length ≤ 4294967296) (h : rfault [] (names.zip vs) ≠ 0) :
    Calls Tryz.prog 44 #[.slice p names.length c, .slice q vs.length d] w fun e w' => e = .returned (.tuple #[.slice none 0 0, .int .i64 (rfault [] (names.zip vs))]) ∧ Below w.heap.size w w' := by
  have i0 : ((names.length : Int) != (vs.length : Int)) = false := by simp [hl]
  have HL : Hid (names.length = vs.length) := hl
  have HSZ : Hid (∀ t ∈ names, t.size ≤ maxLen) := hsz
  have HZ : Hid (rfault (names.take 0) ((names.zip vs).drop 0) = rfault [] (names.zip vs)) := rfl
  have HNZ : Hid (rfault [] (names.zip vs) ≠ 0) := h
  generalize rfault [] (names.zip vs) = Z at *
  clear h hsz hl
  go_enter Tryz.func44, Tryz.ntmps44
  go_wp2
  go_loopw [6, 7] (fun sz i wr => ∃ k n : Nat, k ≤ names.length ∧ n ≤ 401 ∧ sz = .int .i64 n ∧ i = .int .i64 k ∧ Hid (rfault (names.take k) ((names.zip vs).drop k) = Z) ∧ Below w.heap.size w wr) (fun _ i _ => names.length - (intOf i).toNat)
  case atStart => exact ⟨0, 1, Nat.zero_le _, by omega, rfl, rfl, HZ, Below.refl _ _⟩
  case round =>
    obtain ⟨k, n, hk, hn4, rfl, rfl, HR, hb⟩ := hrel
    by_cases hlt : k < names.length
    · have i1 : (k : Int) < (names.length : Int) := by omega
      have hlt2 : k < vs.length := by rw [← HL.out]; exact hlt
      have i2 : (k : Int) < (vs.length : Int) := by omega
      obtain ⟨nb, no, rfl, hnb, nc⟩ := (hn.up hb).at hlt
      obtain ⟨vb, vo, q', c', rfl, hvb, vc, hnl, h1, h2⟩ := (hv.up hb).at hlt2
      have hs : names[k].size ≤ maxLen := HSZ.out _ (List.getElem_mem _)
      have HRA : Hid (_ = Z) := (rfault_at' HL.out k hlt).symm.trans HR.out
      have C1 := nameFault_any names[k] wr hs
      have C2 := fun w' (hb' : Below wr.heap.size wr w') => valueFault_any vs[k] q' c' w' (hnl.up hb') h1 h2
      clear HR
      generalize names[k] = s at *
      generalize vs[k] = v at *
      have hvw := hnl
      clear hnl
      by_cases hn0 : nfault s.data.toList = 0
      · rw [hn0] at C1
        have HRB : Hid ((if seenB (names.take k) s then 6 else if vfault v ≠ 0 then vfault v else rfault (names.take (k + 1)) ((names.zip vs).drop (k + 1))) = Z) := by
          have := HRA.out
          rw [if_neg (by rw [hn0]; simp)] at this
          exact this
        clear hn0 HRA
        go_wp2_with fail
        refine C1.mono ?_
        rintro e w1 ⟨rfl, rfl⟩
        clear C1
        go_wp2
        go_loopw [9] (fun j wr2 => ∃ t : Nat, t ≤ k ∧ j = .int .i64 t ∧ Hid (∀ (t' : Nat) (ht : t' < names.length), t' < t → names[t'] ≠ s) ∧ ∃ m, wr2 = w1.drewN m) (fun j _ => k - (intOf j).toNat)
        case atStart => exact ⟨0, Nat.zero_le _, rfl, (fun t' _ h => absurd h (by omega) : ∀ (t' : Nat) (ht : t' < names.length), t' < 0 → names[t'] ≠ s), 0, rfl⟩
        case round =>
          obtain ⟨t, ht, rfl, HA, m, rfl⟩ := hrel
          by_cases htk : t < k
          · have i3 : (t : Int) < (k : Int) := by omega
            have htn : t < names.length := by omega
            have i4 : (t : Int) < (names.length : Int) := by omega
            obtain ⟨nb', no', e1, hnb', tc⟩ := (hn.up hb).at htn
            obtain ⟨rfl, rfl⟩ : nb = nb' ∧ no = no' := by simpa using e1
            by_cases e : names[t] = s
            · have HS6 : Hid (6 = Z) := by
                have := HRB.out
                rw [if_pos (seen_at hk htk e)] at this
                exact this
              rw [e] at tc
              have hbm : Below w.heap.size w (w1.drewN m) := ⟨hb.os, hb.tape, hb.output, hb.size, hb.block⟩
              clear HRB HA e e1
              go_wp2
              go_quiet (fail)
              go_wp2
              go_ret2
              exact ⟨by rw [← HS6.out]; rfl, ⟨hb.os, hb.tape, hb.output, hb.size, hb.block⟩⟩
            · have HA2 : Hid (∀ (t' : Nat) (ht : t' < names.length), t' < t + 1 → names[t'] ≠ s) := fun t' h1' h2' => by
                by_cases e2 : t' = t
                · subst e2; exact e
                · exact HA.out t' h1' (by omega)
              generalize names[t] = u at *
              have hne : (u.toList == s.toList) = false := by
                rw [beq_eq_false_iff_ne]
                exact fun h => e (bytes_inj (by simpa only [ByteArray.toList_eq] using h))
              clear HA e e1
              go_wp2
              go_quiet (fail)
              go_wp2
              go_roundw
              case rel => exact ⟨t + 1, by omega, by go_num, HA2, _, by first | rfl | (rw [World.drewN_drewN])⟩
              case measure => simp [intOf]; omega
          · have i3 : ¬ (t : Int) < (k : Int) := by omega
            obtain rfl : t = k := by omega
            have HRC : Hid ((if vfault v ≠ 0 then vfault v else rfault (names.take (t + 1)) ((names.zip vs).drop (t + 1))) = Z) := by
              have := HRB.out
              rw [unseen_at HA.out] at this
              exact this
            have hbm : Below w1.heap.size w1 (w1.drewN m) := ⟨rfl, rfl, rfl, Nat.le_refl _, fun _ _ => rfl⟩
            have C3 := C2 _ hbm
            have hb1 := hb.trans (hbm.mono hb.size)
            clear HA HRB C2
            by_cases hv0 : vfault v = 0
            · rw [hv0] at C3
              have HR2 : Hid (rfault (names.take (t + 1)) ((names.zip vs).drop (t + 1)) = Z) := by
                have := HRC.out
                rw [if_neg (by rw [hv0]; simp)] at this
                exact this
              have hvl := (isVal_past' hv0)
              clear HRC hv0
              by_cases hn2 : n ≤ 200
              · have i5 : (n : Int) ≤ 200 := by omega
                go_wp2_with fail
                refine C3.mono ?_
                rintro e w2 ⟨rfl, hb2'⟩
                have hb2 := hb1.trans (hb2'.mono hb1.size)
                have vc2 := (hb2'.cell (p := ⟨vb, vo + t, none⟩) hvb).trans vc
                go_wp2
                go_roundw
                case rel => exact ⟨t + 1, n + (1 + v.length), by omega, by omega, by go_num, by go_num, HR2, hb2⟩
                case measure => simp [intOf]; omega
              · have i5 : ¬ (n : Int) ≤ 200 := by omega
                go_wp2_with fail
                refine C3.mono ?_
                rintro e w2 ⟨rfl, hb2'⟩
                have hb2 := hb1.trans (hb2'.mono hb1.size)
                go_wp2
                go_roundw
                case rel => exact ⟨t + 1, n, by omega, by omega, rfl, by go_num, HR2, hb2⟩
                case measure => simp [intOf]; omega
            · have HE : Hid (vfault v = Z) := by
                have := HRC.out
                rw [if_pos hv0] at this
                exact this
              have hz : (vfault v != 0) = true := by simpa using hv0
              generalize vfault v = z at *
              clear HRC hv0
              go_wp2_with fail
              refine C3.mono ?_
              rintro e w2 ⟨rfl, hb2'⟩
              have hb2 := hb1.trans (hb2'.mono hb1.size)
              go_wp2
              go_ret2
              exact ⟨by rw [← HE.out]; rfl, hb2⟩
      · have HE : Hid (nfault s.data.toList = Z) := by
          have := HRA.out
          rw [if_pos hn0] at this
          exact this
        have hz : (nfault s.data.toList != 0) = true := by simpa using hn0
        clear HRA hn0
        generalize nfault s.data.toList = z at *
        go_wp2_with fail
        refine C1.mono ?_
        rintro e w1 ⟨rfl, rfl⟩
        go_wp2
        go_ret2
        exact ⟨by rw [← HE.out]; rfl, hb⟩
    · exfalso
      have := HR.out
      rw [List.drop_of_length_le (by simp; omega)] at this
      exact HNZ.out this.symm

/-- What the document's RecOf hands back where nothing is wrong with a name or a value. -/
def RecRet (w : World) (ps : List Fd) (e : Ending) : Prop :=
  if (recN (recS ps)).length ≤ 200 then ∃ q c, e = .returned (.tuple #[.slice q (recN (recS ps)).length c, .int .i64 0]) ∧ NL w q (recN (recS ps))
  else e = .returned (.tuple #[.slice none 0 0, .int .i64 4])

/-- .. and how much room it has. -/
def RecRetT (w : World) (ps : List Fd) (e : Ending) : Prop :=
  if (recN (recS ps)).length ≤ 200 then ∃ q c, e = .returned (.tuple #[.slice q (recN (recS ps)).length c, .int .i64 0]) ∧ NL w q (recN (recS ps)) ∧ (recN (recS ps)).length ≤ c ∧ c ≤ maxLen
  else e = .returned (.tuple #[.slice none 0 0, .int .i64 4])

theorem textC_drawn (a b : ByteArray) (w : World) (ha : a.size ≤ maxLen) (hb : b.size ≤ maxLen) (n : Nat) :
    Calls Tryz.prog 57 #[.string a, .string b] (w.drewN n) fun e w' => e = .returned (.int .i64 (cmpB a b)) ∧ ∃ m, w' = w.drewN m :=
  (textC_any a b (w.drewN n) ha hb).mono fun e w' ⟨h1, m, h2⟩ => ⟨h1, n + m, by rw [h2, World.drewN_drewN]⟩

set_option maxRecDepth 100000 in
set_option maxHeartbeats 1000000 in
theorem refRec_full (names : List ByteArray) (vs : List (List Nd)) (p q : Option Addr) (c d : Nat) (w : World) (hn : TL w p names) (hv : LL w q vs) (hl : names.length = vs.length) (hsz : ∀ t ∈ names, t.size ≤ maxLen) (hle : names.length ≤ 4294967296) (h : rfault [] (names.zip vs) = 0) :
    Calls Tryz.prog 44 #[.slice p names.length c, .slice q vs.length d] w fun e w' => RecRetT w' (names.zip vs) e ∧ Below w.heap.size w w' := by
  obtain ⟨hok, _, hnd⟩ := (rfault_zero [] _).1 h
  have hf : (names.zip vs).map Prod.fst = names := List.map_fst_zip (by omega)
  rw [hf] at hnd
  have i0 : ((names.length : Int) != (vs.length : Int)) = false := by simp [hl]
  have HL : Hid (names.length = vs.length) := hl
  have HSZ : Hid (∀ t ∈ names, t.size ≤ maxLen) := hsz
  have HZ : Hid (rfault (names.take 0) ((names.zip vs).drop 0) = 0) := h
  have HOK : Hid (∀ p ∈ names.zip vs, nfault p.1.data.toList = 0 ∧ vfault p.2 = 0) := hok
  have HND : Hid names.Nodup := hnd
  clear h hsz hl hok hnd hf
  go_enter Tryz.func44, Tryz.ntmps44
  go_wp2
  go_loopw [6, 7] (fun sz i wr => ∃ k n : Nat, k ≤ names.length ∧ n ≤ 401 ∧ Hid (n = cnt ((names.zip vs).take k) 1) ∧ sz = .int .i64 n ∧ i = .int .i64 k ∧ Hid (rfault (names.take k) ((names.zip vs).drop k) = 0) ∧ Below w.heap.size w wr) (fun _ i _ => names.length - (intOf i).toNat)
  case atStart => exact ⟨0, 1, Nat.zero_le _, by omega, rfl, rfl, rfl, HZ, Below.refl _ _⟩
  case round =>
    obtain ⟨k, n, hk, hn4, HC, rfl, rfl, HR, hb⟩ := hrel
    by_cases hlt : k < names.length
    · have i1 : (k : Int) < (names.length : Int) := by omega
      have hlt2 : k < vs.length := by rw [← HL.out]; exact hlt
      have i2 : (k : Int) < (vs.length : Int) := by omega
      obtain ⟨nb, no, rfl, hnb, nc⟩ := (hn.up hb).at hlt
      obtain ⟨vb, vo, q', c', rfl, hvb, vc, hnl, h1, h2⟩ := (hv.up hb).at hlt2
      have hs : names[k].size ≤ maxLen := HSZ.out _ (List.getElem_mem _)
      have hr := (rfault_at' HL.out k hlt).symm.trans HR.out
      have hn0 : nfault names[k].data.toList = 0 := by
        by_cases e : nfault names[k].data.toList = 0
        · exact e
        · rw [if_pos e] at hr; exact hr
      rw [if_neg (by rw [hn0]; simp)] at hr
      have hsn : seenB (names.take k) names[k] = false := by
        cases e : seenB (names.take k) names[k]
        · rfl
        · rw [e] at hr; simp at hr
      rw [if_neg (by rw [hsn]; simp)] at hr
      have hv0 : vfault vs[k] = 0 := by
        by_cases e : vfault vs[k] = 0
        · exact e
        · rw [if_pos e] at hr; exact hr
      rw [if_neg (by rw [hv0]; simp)] at hr
      have HR2 : Hid (rfault (names.take (k + 1)) ((names.zip vs).drop (k + 1)) = 0) := hr
      have C1 := nameFault_any names[k] wr hs
      have C2 := fun w' (hb' : Below wr.heap.size wr w') => valueFault_any vs[k] q' c' w' (hnl.up hb') h1 h2
      have HCN : Hid (cnt ((names.zip vs).take (k + 1)) 1 = if n ≤ 200 then n + (1 + vs[k].length) else n) := by
        show _ = _
        have hz : k < (names.zip vs).length := by simp; omega
        rw [List.take_succ_eq_append_getElem hz, cnt_append, ← HC.out, List.getElem_zip]
        rfl
      rw [hn0] at C1
      rw [hv0] at C2
      have hvl := isVal_past' hv0
      clear HR HC hr hn0 hv0 hnl
      generalize names[k] = s at *
      generalize vs[k] = v at *
      go_wp2_with fail
      refine C1.mono ?_
      rintro e w1 ⟨rfl, rfl⟩
      clear C1
      go_wp2
      go_loopw [9] (fun j wr2 => ∃ t : Nat, t ≤ k ∧ j = .int .i64 t ∧ ∃ m, wr2 = w1.drewN m) (fun j _ => k - (intOf j).toNat)
      case atStart => exact ⟨0, Nat.zero_le _, rfl, 0, rfl⟩
      case round =>
        obtain ⟨t, ht, rfl, m, rfl⟩ := hrel
        by_cases htk : t < k
        · have i3 : (t : Int) < (k : Int) := by omega
          have htn : t < names.length := by omega
          have i4 : (t : Int) < (names.length : Int) := by omega
          obtain ⟨nb', no', e1, hnb', tc⟩ := (hn.up hb).at htn
          obtain ⟨rfl, rfl⟩ : nb = nb' ∧ no = no' := by simpa using e1
          have e : names[t] ≠ s := fun e => by rw [seen_at hk htk e] at hsn; cases hsn
          generalize names[t] = u at *
          have hne : (u.toList == s.toList) = false := by
            rw [beq_eq_false_iff_ne]
            exact fun h => e (bytes_inj (by simpa only [ByteArray.toList_eq] using h))
          clear e e1
          go_wp2
          go_quiet (fail)
          go_wp2
          go_roundw
          case rel => exact ⟨t + 1, by omega, by go_num, _, by first | rfl | (rw [World.drewN_drewN])⟩
          case measure => simp [intOf]; omega
        · have i3 : ¬ (t : Int) < (k : Int) := by omega
          obtain rfl : t = k := by omega
          have hbm : Below w1.heap.size w1 (w1.drewN m) := ⟨rfl, rfl, rfl, Nat.le_refl _, fun _ _ => rfl⟩
          have C3 := C2 _ hbm
          have hb1 := hb.trans (hbm.mono hb.size)
          clear C2
          by_cases hn2 : n ≤ 200
          · have i5 : (n : Int) ≤ 200 := by omega
            have HC2 : Hid (n + (1 + v.length) = cnt ((names.zip vs).take (t + 1)) 1) := by show _ = _; rw [HCN.out, if_pos hn2]
            go_wp2_with fail
            refine C3.mono ?_
            rintro e w2 ⟨rfl, hb2'⟩
            have hb2 := hb1.trans (hb2'.mono hb1.size)
            have vc2 := (hb2'.cell (p := ⟨vb, vo + t, none⟩) hvb).trans vc
            go_wp2
            go_roundw
            case rel => exact ⟨t + 1, n + (1 + v.length), by omega, by omega, HC2, by go_num, by go_num, HR2, hb2⟩
            case measure => simp [intOf]; omega
          · have i5 : ¬ (n : Int) ≤ 200 := by omega
            have HC2 : Hid (n = cnt ((names.zip vs).take (t + 1)) 1) := by show _ = _; rw [HCN.out, if_neg hn2]
            go_wp2_with fail
            refine C3.mono ?_
            rintro e w2 ⟨rfl, hb2'⟩
            have hb2 := hb1.trans (hb2'.mono hb1.size)
            go_wp2
            go_roundw
            case rel => exact ⟨t + 1, n, by omega, by omega, HC2, rfl, by go_num, HR2, hb2⟩
            case measure => simp [intOf]; omega
    · have i1 : ¬ (k : Int) < (names.length : Int) := by omega
      have hzl : (names.zip vs).length = names.length := by simp [HL.out]
      have hcn : n = cnt (names.zip vs) 1 := by
        have := HC.out
        rw [List.take_of_length_le (by rw [hzl]; omega)] at this
        exact this
      have hrl : (recN (recS (names.zip vs))).length = 1 + fsize (names.zip vs) := by rw [recN_length, fsize_perm (perm_recS _)]; omega
      have hle2 := (cnt_le (names.zip vs) 1).1
      rw [← hcn, ← hrl] at hle2
      by_cases hfit : n ≤ 200
      · have i5 : ¬ (200 : Int) < (n : Int) := by omega
        have hfit2 := hle2.1 hfit
        have hSl : (recS (names.zip vs)).length = names.length := by rw [(perm_recS _).length_eq, hzl]
        have hst : ON (wr.alloc (.cells #[.int .i64 6, .int .i64 names.length, .string ⟨#[]⟩, .string ⟨#[]⟩] 41)) wr.heap.size (.slice (some ⟨wr.heap.size, 0, none⟩) 1 1) (recK (recS (names.zip vs)) 0) :=
          ⟨⟨rfl, .inr ⟨wr.heap.size, 1, _, rfl, Nat.le_refl _, heap_alloc_new wr _, Nat.le_refl _, by unfold maxLen; omega, rfl, by simp [recK, ncells, hSl]⟩⟩, fun x hx => by simp [recK] at hx; subst hx; exact ⟨Nat.zero_le _, Nat.zero_le _, by simp only; omega⟩⟩
        have hbA : Below w.heap.size w (wr.alloc (.cells #[.int .i64 6, .int .i64 names.length, .string ⟨#[]⟩, .string ⟨#[]⟩] 41)) := hb.alloc hb.size _
        have hBA : wr.heap.size ≤ (wr.alloc (.cells #[.int .i64 6, .int .i64 names.length, .string ⟨#[]⟩, .string ⟨#[]⟩] 41)).heap.size := by simp
        have hwB : w.heap.size ≤ wr.heap.size := hb.size
        have HMEM : Hid (∀ (r : Nat) (hr : r < (recS (names.zip vs)).length), ∃ i, ∃ (h1 : i < names.length) (h2 : i < vs.length), names[i] = (recS (names.zip vs))[r].1 ∧ vs[i] = (recS (names.zip vs))[r].2 ∧ vfault vs[i] = 0) := fun r hr => by
          have hm : (recS (names.zip vs))[r] ∈ names.zip vs := (perm_recS _).mem_iff.1 (List.getElem_mem _)
          obtain ⟨i, hi, e⟩ := List.mem_iff_getElem.1 hm
          have hv0 := (HOK.out _ hm).2
          rw [hzl] at hi
          rw [List.getElem_zip] at e
          exact ⟨i, hi, by rw [← HL.out]; exact hi, by rw [← e], by rw [← e], by rw [← e] at hv0; exact hv0⟩
        have HRK : Hid (∀ (t r : Nat) (ht : t < names.length) (hr : r < (recS (names.zip vs)).length), ahd names names[t] = r ↔ names[t] = (recS (names.zip vs))[r].1) := fun t r ht hr => rank_iff HL.out HND.out ht hr
        have HINJ : Hid (∀ (i j : Nat) (hi : i < names.length) (hj : j < names.length), names[i] = names[j] → i = j) := fun i j hi hj e => (List.getElem_inj HND.out).1 e
        have HRET : Hid (∀ w' q c, NL w' q (recN (recS (names.zip vs))) → (recN (recS (names.zip vs))).length ≤ c → c ≤ maxLen → RecRetT w' (names.zip vs) (.returned (.tuple #[.slice q (recN (recS (names.zip vs))).length c, .int .i64 0]))) := fun w' q c hq hq1 hq2 => by
          unfold RecRetT
          rw [if_pos hfit2]
          exact ⟨q, c, rfl, hq, hq1, hq2⟩
        have HST : Hid (ON (wr.alloc (.cells #[.int .i64 6, .int .i64 names.length, .string ⟨#[]⟩, .string ⟨#[]⟩] 41)) wr.heap.size (.slice (some ⟨wr.heap.size, 0, none⟩) 1 1) (recK (recS (names.zip vs)) 0)) := hst
        have HKL : Hid (∀ r, (recK (recS (names.zip vs)) r).length ≤ 200) := fun r => by
          have h1 : (recK (recS (names.zip vs)) r).length = fsize ((recS (names.zip vs)).take r) + 1 := by unfold recK; rw [List.length_cons, fsize_flat]
          have h2 := fsize_append ((recS (names.zip vs)).take r) ((recS (names.zip vs)).drop r)
          rw [List.take_append_drop] at h2
          have h3 := hfit2
          rw [recN_length] at h3
          omega
        clear hle2 hrl hcn HC HR hst hb HOK HND hzl i0
        generalize recS (names.zip vs) = S at *
        go_wp2
        obtain ⟨B, hB⟩ : ∃ B, B = wr.heap.size := ⟨_, rfl⟩
        rw [← hB] at hBA hwB HST ⊢
        clear hB
        generalize wr.alloc (.cells #[.int .i64 6, .int .i64 names.length, .string ⟨#[]⟩, .string ⟨#[]⟩] 41) = wA at *
        go_loopw [10, 11] (fun ov rk w2 => ∃ r : Nat, r ≤ names.length ∧ rk = .int .i64 r ∧ Hid (ON w2 B ov (recK S r)) ∧ B ≤ w2.heap.size ∧ Below w.heap.size w w2) (fun _ rk _ => names.length - (intOf rk).toNat)
        case atStart => exact ⟨0, Nat.zero_le _, rfl, HST, hBA, hbA⟩
        case round =>
          obtain ⟨r, hr, rfl, HO, hBr, hbr⟩ := hrel
          by_cases hlt : r < names.length
          · have j1 : (r : Int) < (names.length : Int) := by omega
            have hrS : r < S.length := by omega
            obtain ⟨ir, hir, hir2, en, ev, hv0⟩ := HMEM.out r hrS
            have HRR := fun t ht => HRK.out t r ht hrS
            have HNX : Hid (recK S (r + 1) = (recK S r ++ [⟨7, 0, S[r].1, ⟨#[]⟩⟩]) ++ S[r].2) := recK_next hrS
            rw [← en, ← ev] at HNX
            rw [← en] at HRR
            have HIR : Hid (∀ t (ht : t < names.length), ahd names names[t] = r → t = ir) := fun t ht h => HINJ.out t ir ht hir ((HRR t ht).1 h)
            have HIR2 : Hid (ahd names names[ir] = r) := (HRR ir hir).2 rfl
            clear HRR en ev
            go_wp2
            go_loopw [10, 12] (fun ov i w3 => ∃ t : Nat, t ≤ names.length ∧ i = .int .i64 t ∧ Hid (ON w3 B ov (if t ≤ ir then recK S r else recK S (r + 1))) ∧ B ≤ w3.heap.size ∧ Below w.heap.size w w3) (fun _ i _ => names.length - (intOf i).toNat)
            case atStart => exact ⟨0, Nat.zero_le _, rfl, (by rw [if_pos (Nat.zero_le _)]; exact HO.out : ON wr B _ (if 0 ≤ ir then recK S r else recK S (r + 1))), hBr, hbr⟩
            case round =>
              obtain ⟨t, ht, rfl, HO2, hBt, hbt⟩ := hrel
              by_cases hltt : t < names.length
              · have j2 : (t : Int) < (names.length : Int) := by omega
                have hs : names[t].size ≤ maxLen := HSZ.out _ (List.getElem_mem _)
                obtain ⟨nb, no, rfl, hnb, nc⟩ := hn.at hltt
                go_wp2
                go_loopw [13, 14] (fun a j w4 => ∃ x : Nat, x ≤ names.length ∧ j = .int .i64 x ∧ a = .int .i64 (ahd (names.take x) names[t] : Nat) ∧ Below wr.heap.size wr w4) (fun _ j _ => names.length - (intOf j).toNat)
                case atStart => exact ⟨0, Nat.zero_le _, rfl, rfl, Below.refl _ _⟩
                case round =>
                  obtain ⟨x, hx, rfl, rfl, hbx⟩ := hrel
                  have hbw := hbt.trans (hbx.mono hbt.size)
                  by_cases hltx : x < names.length
                  · have j3 : (x : Int) < (names.length : Int) := by omega
                    obtain ⟨nb', no', e1, hnb', xc⟩ := hn.at hltx
                    obtain ⟨rfl, rfl⟩ : nb = nb' ∧ no = no' := by simpa using e1
                    have hu : names[x].size ≤ maxLen := HSZ.out _ (List.getElem_mem _)
                    have HT := fun m => textC_drawn names[x] names[t] wr hu hs m
                    have xc' := (hbw.cell (p := ⟨nb, no + x, none⟩) hnb).trans xc
                    have nc' := (hbw.cell (p := ⟨nb, no + t, none⟩) hnb).trans nc
                    have hal : ahd (names.take x) names[t] ≤ names.length := Nat.le_trans (ahd_le _ _) (by rw [List.length_take]; exact Nat.min_le_right _ _)
                    have HA : Hid (ahd (names.take (x + 1)) names[t] = if cmpB names[x] names[t] < 0 then ahd (names.take x) names[t] + 1 else ahd (names.take x) names[t]) := by
                      show _ = _
                      rw [← ahd_snoc, List.take_succ_eq_append_getElem hltx]
                    have hbz : ∀ m, Below wr.heap.size wr (wr.drewN m) := fun m => ⟨rfl, rfl, rfl, Nat.le_refl _, fun _ _ => rfl⟩
                    have HBZ : Hid (∀ m, Below wr.heap.size wr (wr.drewN m)) := hbz
                    clear xc e1 hbz HIR HIR2
                    by_cases hc : cmpB names[x] names[t] < 0
                    · have HA2 : Hid (ahd (names.take (x + 1)) names[t] = ahd (names.take x) names[t] + 1) := by show _ = _; rw [HA.out, if_pos hc]
                      clear HA
                      generalize names[t] = s at *
                      generalize names[x] = u at *
                      generalize ahd (names.take x) s = A at *
                      generalize cmpB u s = z at *
                      go_wp2
                      go_quiet (exact HT _)
                      go_wp2
                      go_roundw
                      case rel => exact ⟨x + 1, by omega, by go_num, by rw [HA2.out]; go_num, hbx.trans ((HBZ.out _).mono hbx.size)⟩
                      case measure => simp [intOf]; omega
                    · have HA2 : Hid (ahd (names.take (x + 1)) names[t] = ahd (names.take x) names[t]) := by show _ = _; rw [HA.out, if_neg hc]
                      clear HA
                      generalize names[t] = s at *
                      generalize names[x] = u at *
                      generalize ahd (names.take x) s = A at *
                      generalize cmpB u s = z at *
                      go_wp2
                      go_quiet (exact HT _)
                      go_wp2
                      go_roundw
                      case rel => exact ⟨x + 1, by omega, by go_num, by rw [HA2.out], hbx.trans ((HBZ.out _).mono hbx.size)⟩
                      case measure => simp [intOf]; omega
                  · have j3 : ¬ (x : Int) < (names.length : Int) := by omega
                    obtain rfl : x = names.length := by omega
                    rw [List.take_length]
                    have hal : ahd names names[t] ≤ names.length := ahd_le _ _
                    by_cases he : ahd names names[t] = r
                    · obtain rfl : t = ir := HIR.out t hltt he
                      rw [he]
                      have nc' := (hbw.cell (p := ⟨nb, no + t, none⟩) hnb).trans nc
                      obtain ⟨vb, vo, q', c', rfl, hvb, vc, hnl, h1, h2⟩ := hv.at hir2
                      have j4 : (t : Int) < (vs.length : Int) := by omega
                      have HO3 : Hid (ON wr B u10 (recK S r)) := by
                        have := HO2.out
                        rw [if_pos (Nat.le_refl _)] at this
                        exact this.below hbx
                      have hkl := HKL.out r
                      have HXT : Hid (ON wr B u10 (recK S r)) := HO3
                      clear HIR HIR2 HO2 he HO3
                      generalize names[t] = s at *
                      generalize vs[t] = v at *
                      obtain ⟨y, tl, rfl⟩ : ∃ y t, v = y :: t := by obtain ⟨y, t, e, _⟩ := value_head hv0; exact ⟨y, t, e⟩
                      have hvl : tl.length ≤ 199 := by have := (isVal_past hv0).1; simp only [List.length_cons] at this; omega
                      obtain ⟨pb, po, rfl, hpb, _⟩ := hnl.head
                      have HNL : Hid (NL w (some ⟨pb, po, none⟩) (y :: tl)) := hnl
                      have hba : Below wr.heap.size wr (wr.alloc (.cells #[.int .i64 7, .int .i64 0, .string s, .string ⟨#[]⟩] 41)) := (Below.refl _ _).alloc (Nat.le_refl _) _
                      have HN1 : Hid (NL (wr.alloc (.cells #[.int .i64 7, .int .i64 0, .string s, .string ⟨#[]⟩] 41)) (some ⟨wr.heap.size, 0, none⟩) [⟨7, 0, s, ⟨#[]⟩⟩]) := NL.one wr s hs
                      have hBw : B ≤ wr.heap.size := Nat.le_trans hBt hbx.size
                      have hBa : B ≤ (wr.alloc (.cells #[.int .i64 7, .int .i64 0, .string s, .string ⟨#[]⟩] 41)).heap.size := Nat.le_trans hBw hba.size
                      have hbwa := hbw.trans (hba.mono hbw.size)
                      clear hnl hv0
                      generalize recK S r = RK at *
                      go_wp2_with (first
                        | (at_builtin; refine append_nodes _ rfl (.tmp 105) (.tmp 111) rfl B u10 RK rfl (HXT.out.below hba) [⟨7, 0, s, ⟨#[]⟩⟩] 1 rfl wr.heap.size 0 1 HN1.out rfl (by simp only [List.length_cons, List.length_nil]; omega) hBa ?_; intro v5 w5 hon5 hk5; have hb5 := hbwa.trans (hk5.bel.mono hwB); have vc5 := (hb5.cell (p := ⟨vb, vo + t, none⟩) hvb).trans vc; have HO5 : Hid (ON w5 B v5 (RK ++ [⟨7, 0, s, ⟨#[]⟩⟩])) := hon5; have hB5 := Nat.le_trans hBa hk5.bel.size; clear hon5)
                        | (at_builtin; refine append_nodes w5 rfl (.tmp 113) (.tmp 117) rfl B v5 (RK ++ [⟨7, 0, s, ⟨#[]⟩⟩]) rfl HO5.out (y :: tl) _ rfl pb po c' (HNL.out.up hb5) rfl (by simp only [List.length_append, List.length_cons, List.length_nil]; omega) hB5 ?_; intro v6 w6 hon6 hk6; have HO6 : Hid (ON w6 B v6 (RK ++ [⟨7, 0, s, ⟨#[]⟩⟩] ++ (y :: tl))) := hon6; clear hon6))
                      go_roundw
                      case rel => exact ⟨t + 1, by omega, by go_num, (by show ON _ _ _ _; rw [if_neg (by omega), HNX.out]; exact HO6.out), Nat.le_trans hB5 hk6.bel.size, hb5.trans (hk6.bel.mono hwB)⟩
                      case measure => simp [intOf]; omega
                    · have hti : t ≠ ir := fun e => by subst e; exact he HIR2.out
                      have HO3 : Hid (ON wr B u10 (if t + 1 ≤ ir then recK S r else recK S (r + 1))) := by
                        have := HO2.out
                        by_cases h5 : t ≤ ir
                        · rw [if_pos h5] at this
                          show ON _ _ _ _
                          rw [if_pos (by omega)]
                          exact this.below hbx
                        · rw [if_neg h5] at this
                          show ON _ _ _ _
                          rw [if_neg (by omega)]
                          exact this.below hbx
                      have hne : ((ahd names names[t] : Int) == (r : Int)) = false := by simp; omega
                      generalize ahd names names[t] = A at *
                      clear HO2 HIR HIR2
                      go_wp2
                      go_roundw
                      case rel => exact ⟨t + 1, by omega, by go_num, HO3, Nat.le_trans hBt hbx.size, hbw⟩
                      case measure => simp [intOf]; omega
              · have j2 : ¬ (t : Int) < (names.length : Int) := by omega
                have HO3 : Hid (ON wr B u10 (recK S (r + 1))) := by
                  have := HO2.out
                  rw [if_neg (by omega)] at this
                  exact this
                clear HO2 HIR HIR2
                go_wp2
                go_roundw
                case rel => exact ⟨r + 1, by omega, by go_num, HO3, hBt, hbt⟩
                case measure => simp [intOf]; omega
          · have j1 : ¬ (r : Int) < (names.length : Int) := by omega
            obtain rfl : r = S.length := by omega
            rw [recK_all] at HO
            obtain ⟨g2, cap2, rfl, hg2, hgw2, hgc2, hgm2, hgn2, _⟩ := HO.out.slice (by simp [recN])
            have HRT : Hid _ := HRET.out wr (some ⟨g2, 0, none⟩) cap2 hgn2 hgc2 hgm2
            go_wp2
            go_ret2
            exact ⟨HRT.out, hbr⟩
      · have i5 : (200 : Int) < (n : Int) := by omega
        have HRET : Hid (∀ w', RecRetT w' (names.zip vs) (.returned (.tuple #[.slice none 0 0, .int .i64 4]))) := fun w' => by
          unfold RecRetT
          rw [if_neg (fun hh => hfit (hle2.2 hh))]
        clear hle2 hrl hcn HC HR
        go_wp2
        go_ret2
        exact ⟨HRET.out _, hb⟩
theorem refRec_ok (names : List ByteArray) (vs : List (List Nd)) (p q : Option Addr) (c d : Nat) (w : World) (hn : TL w p names) (hv : LL w q vs) (hl : names.length = vs.length) (hsz : ∀ t ∈ names, t.size ≤ maxLen) (hle : names.length ≤ 4294967296) (h : rfault [] (names.zip vs) = 0) :
    Calls Tryz.prog 44 #[.slice p names.length c, .slice q vs.length d] w fun e w' => RecRet w' (names.zip vs) e ∧ Below w.heap.size w w' := by
  refine (refRec_full names vs p q c d w hn hv hl hsz hle h).mono fun e w' ⟨h1, h2⟩ => ⟨?_, h2⟩
  unfold RecRetT at h1
  unfold RecRet
  split at h1
  · rename_i hf
    rw [if_pos hf]
    obtain ⟨q, c', e1, e2, _⟩ := h1
    exact ⟨q, c', e1, e2⟩
  · rename_i hf
    rw [if_neg hf]
    exact h1
end Go.Proofs.YtnilaghbbhmkgaaGreatDoor
