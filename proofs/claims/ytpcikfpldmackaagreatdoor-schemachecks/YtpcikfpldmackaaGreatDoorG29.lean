/- The document's SchemaFault; HasKind as a schema asks it: by walks of their own texts. The document's AskFits, where an act is found (1): by a walk of its own text (written by gen_scx.py). The document's AskFits, where an act is found (2): by a walk of its own text (written by gen_scx.py). The document's AskFits, where an act is found (3): by a walk of its own text (written by gen_scx.py). The document's AskFits, where an act is found (4): by a walk of its own text (written by gen_scx.py). The document's AskFits: by a walk of its own text (written by gen_scx.py). -/
import Derived.Test.YtpcikfpldmackaaGreatDoorG28
import Derived.Test.YtpcikfpldmackaaGreatDoorG26
import Derived.Test.YtpcikfpldmackaaGreatDoorG24
import Derived.Deep.RegionHeld
namespace Go.Proofs.YtpcikfpldmackaaGreatDoor
open Go.RowKit
set_option linter.unusedVariables false
set_option linter.unusedSimpArgs false
set_option maxRecDepth 100000

theorem rcf_kind {t : List Nd} (h : rcf t = 0) : kfault t = 0 := by unfold rcf at h; rw [orE_zero] at h; exact h.1
theorem ksf_kinds : ∀ {ks : List Kd} {seen : List ByteArray}, ksf seen ks = 0 → ∀ k ∈ ks, kfault k.ty = 0
  | [], seen, _, k, hk => by cases hk
  | x :: r, seen, h, k, hk => by
    rw [ksf, orE_zero] at h
    rcases List.mem_cons.1 hk with rfl | hk
    · have := h.1
      unfold kdf at this
      rw [orE_zero, orE_zero, orE_zero, orE_zero] at this
      exact rcf_kind this.2.2.2.2
    · exact ksf_kinds h.2 k hk
theorem asf_acts : ∀ {al : List Ac} {seen : List ByteArray}, asf seen al = 0 → ∀ a ∈ al, kfault a.cx = 0
  | [], seen, _, k, hk => by cases hk
  | x :: r, seen, h, k, hk => by
    rw [asf, orE_zero] at h
    rcases List.mem_cons.1 hk with rfl | hk
    · have := h.1
      unfold acf at this
      rw [orE_zero, orE_zero, orE_zero, orE_zero, orE_zero] at this
      exact rcf_kind this.2.2.2.2.2
    · exact asf_acts h.2 k hk
theorem scf_kinds {s : Sc} (h : scf s = 0) : (∀ k ∈ s.ks, kfault k.ty = 0) ∧ ∀ a ∈ s.acs, kfault a.cx = 0 := by
  unfold scf at h
  rw [orE_zero, orE_zero] at h
  exact ⟨ksf_kinds h.2.1, asf_acts h.2.2⟩
theorem af_val {l : List Nd} (h : afault l = 0) : vfault l = 0 := by
  unfold afault at h
  split at h
  · assumption
  · exact h
theorem stf_vals {es : List En} (h : stf es = 0) : ∀ e ∈ es, vfault e.nd = 0 := by
  intro e he
  have h16 : ¬ 16 < es.length := by have := (stf_zero h).few; omega
  have hl : lfault [] es = 0 := by
    unfold stf at h
    rw [if_neg h16] at h
    by_cases h2 : lfault [] es = 0
    · exact h2
    · rw [if_neg h2] at h; exact h
  obtain ⟨_, _, h3⟩ := (lfault_zero _ _ hl).1 e he
  unfold efault at h3
  split at h3
  · exact af_val h3
  · rename_i h4; exact absurd h3 h4
theorem askf_val {q : Rq} (h : askf q = 0) : vfault q.cx = 0 := by
  unfold askf at h
  repeat' split at h
  · exact af_val h
  all_goals (rename_i h4; exact absurd h h4)
theorem wtf_of {t v : List Nd} (h1 : kfault t = 0) (h2 : vfault v = 0) : wtf t v = if hasB t v then 0 else 2 := by
  unfold wtf hfault
  rw [if_pos h1, h2]
  rfl
/-- HasKind, as a schema asks it. -/
theorem hasKindB_any (t v : List Nd) (p q : Option Addr) (c d : Nat) (w : World) (ht : AK w t p c) (hv : AK w v q d) (h1 : kfault t = 0) (h2 : vfault v = 0) :
    Calls Tryz.prog 9 #[.slice p t.length c, .slice q v.length d] w fun e w' => e = .returned (.bool (hasB t v)) ∧ Below w.heap.size w w' := by
  obtain ⟨l1, x, k, hk⟩ := kfault_zero h1
  obtain ⟨l2, y, l, hl⟩ := vty_of h2
  rw [hasB_of hk hl]
  obtain ⟨hk1, rfl⟩ := hk
  obtain ⟨hl1, rfl⟩ := hl
  exact hasK_all _ y l (Nat.lt_succ_self _) x k w p c q d ⟨ht.nl, ht.le, ht.cm⟩ ⟨hv.nl, hv.le, hv.cm⟩ hk1 hl1 h2 (by simp at l1; omega)
theorem ksf_stepR {ks : List Kd} {k : Nat} (h : k < ks.length) : ksf ((ks.take k).map (·.nm)) (ks.drop k) = orE (kdf ((ks.take k).map (·.nm)) ks[k]) (ksf ((ks.take (k + 1)).map (·.nm)) (ks.drop (k + 1))) := by
  rw [List.take_succ_eq_append_getElem h, List.map_append]
  rw [List.drop_eq_getElem_cons h]
  rfl
theorem asf_stepR {al : List Ac} {k : Nat} (h : k < al.length) : asf ((al.take k).map (·.id)) (al.drop k) = orE (acf ((al.take k).map (·.id)) al[k]) (asf ((al.take (k + 1)).map (·.id)) (al.drop (k + 1))) := by
  rw [List.take_succ_eq_append_getElem h, List.map_append]
  rw [List.drop_eq_getElem_cons h]
  rfl
theorem scf_waysR (s : Sc) : ((8 < s.ks.length ∨ 8 < s.acs.length) ∧ scf s = 4) ∨ (s.ks.length ≤ 8 ∧ s.acs.length ≤ 8 ∧ scf s = orE (ksf [] s.ks) (asf [] s.acs)) := by
  unfold scf
  by_cases h : 8 < s.ks.length ∨ 8 < s.acs.length
  · exact .inl ⟨h, by rw [decide_eq_true h]; rfl⟩
  · exact .inr ⟨by omega, by omega, by rw [decide_eq_false h]; rfl⟩
set_option maxHeartbeats 4000000 in
/-- SchemaFault. -/
theorem schemaFault_any (s : Sc) (pk pa : Option Addr) (ck ca : Nat) (w : World) (h : SA w s pk ck pa ca) :
    Calls Tryz.prog 15 #[scV s pk ck pa ca] w fun e w' => e = .returned (.int .i64 (scf s)) ∧ Below w.heap.size w w' := by
  obtain ⟨V, hV⟩ : ∃ V, V = w.alloc (.cells #[.slice pk s.ks.length ck, .slice pa s.acs.length ca] 38) := ⟨_, rfl⟩
  have hbV : Below w.heap.size w V := by rw [hV]; exact kqx
  have HB0 : Hid (Blk V w.heap.size #[.slice pk s.ks.length ck, .slice pa s.acs.length ca] 38) := by rw [hV]; exact Blk.new w _ _ rfl
  have HSA : Hid (SA V s pk ck pa ca) := h.up hbV
  have v0 : V.cell? ⟨w.heap.size, 0, none⟩ = some (.slice pk s.ks.length ck) := HB0.out.cell 0
  have v1 : V.cell? ⟨w.heap.size, 1, none⟩ = some (.slice pa s.acs.length ca) := HB0.out.cell 1
  unfold scV
  clear h
  rcases scf_waysR s with ⟨h8, e⟩ | ⟨hk, ha, e⟩
  · have HE : Hid (scf s = 4) := e
    clear e
    by_cases h6 : 8 < s.ks.length
    · have j1 : (8 : Int) < (s.ks.length : Int) := by omega
      clear h8 h6
      go_enter Tryz.func15, Tryz.ntmps15
      go_wp2
      go_ret
      exact ⟨by rw [HE.out]; rfl, kqx⟩
    · have j1 : ¬ (8 : Int) < (s.ks.length : Int) := by omega
      have j2 : (8 : Int) < (s.acs.length : Int) := by omega
      clear h8 h6
      go_enter Tryz.func15, Tryz.ntmps15
      go_wp2
      go_ret
      exact ⟨by rw [HE.out]; rfl, kqx⟩
  · have HE : Hid (scf s = orE (ksf [] s.ks) (asf [] s.acs)) := e
    have j1 : ¬ (8 : Int) < (s.ks.length : Int) := by omega
    have j2 : ¬ (8 : Int) < (s.acs.length : Int) := by omega
    have HH8 : Hid (s.ks.length ≤ 8 ∧ s.acs.length ≤ 8) := ⟨hk, ha⟩
    clear e
    go_enter Tryz.func15, Tryz.ntmps15
    go_wp2_with fail
    rw [← hV]
    clear hV v0 v1
    go_loopw [3, 4] (fun iv _ wr => ∃ i : Nat, i ≤ s.ks.length ∧ iv = .int .i64 i ∧ Hid (ksf [] s.ks = ksf ((s.ks.take i).map (·.nm)) (s.ks.drop i)) ∧ Below V.heap.size V wr) (fun iv _ _ => s.ks.length - (intOf iv).toNat)
    case atStart => exact ⟨0, Nat.zero_le _, rfl, by simp [Hid], Below.refl _ _⟩
    case round =>
      rename World => wr
      obtain ⟨i, hi, rfl, HR, hbr⟩ := hrel
      have y0 : wr.cell? ⟨w.heap.size, 0, none⟩ = some (.slice pk s.ks.length ck) := (HB0.out.up hbr).cell 0
      have y1 : wr.cell? ⟨w.heap.size, 1, none⟩ = some (.slice pa s.acs.length ca) := (HB0.out.up hbr).cell 1
      by_cases hlt : i < s.ks.length
      · have i1 : (i : Int) < (s.ks.length : Int) := by omega
        have HC := kdFault_any s pk pa ck ca i hlt wr (HSA.out.up hbr) HH8.out.1
        unfold scV at HC
        have HS : Hid (ksf [] s.ks = orE (kdf ((s.ks.take i).map (·.nm)) s.ks[i]) (ksf ((s.ks.take (i + 1)).map (·.nm)) (s.ks.drop (i + 1)))) := by show _ = _; rw [HR.out]; exact ksf_stepR hlt
        generalize kdf ((s.ks.take i).map (·.nm)) s.ks[i] = n at *
        clear HR
        by_cases h0 : n = 0
        · subst h0
          have HR2 : Hid (ksf [] s.ks = ksf ((s.ks.take (i + 1)).map (·.nm)) (s.ks.drop (i + 1))) := by show _ = _; rw [HS.out]; exact orE_r rfl
          clear HS
          go_wp2_with fail
          refine HC.mono ?_
          rintro _ w2 ⟨rfl, hb2⟩
          go_wp2
          go_roundw
          case rel => exact ⟨i + 1, by omega, by go_num, HR2, kqt hbr hb2⟩
          case measure => simp [intOf]; omega
        · have HR2 : Hid (scf s = n) := by show _ = _; rw [HE.out, HS.out, orE_l h0, orE_l h0]
          have e3 : (n != 0) = true := by simp [h0]
          clear HS h0
          go_wp2_with fail
          refine HC.mono ?_
          rintro _ w2 ⟨rfl, hb2⟩
          go_wp2
          go_ret
          exact ⟨by rw [HR2.out]; rfl, kqt hbV (kqt hbr hb2)⟩
      · have i1 : ¬ (i : Int) < (s.ks.length : Int) := by omega
        have HE2 : Hid (scf s = asf [] s.acs) := by
          show _ = _
          have := HR.out
          rw [List.drop_of_length_le (by omega)] at this
          rw [HE.out, this]
          exact orE_r rfl
        clear HR HE
        go_wp2_with fail
        go_loopw [5, 6] (fun iv _ w3 => ∃ i : Nat, i ≤ s.acs.length ∧ iv = .int .i64 i ∧ Hid (asf [] s.acs = asf ((s.acs.take i).map (·.id)) (s.acs.drop i)) ∧ Below wr.heap.size wr w3) (fun iv _ _ => s.acs.length - (intOf iv).toNat)
        case atStart => exact ⟨0, Nat.zero_le _, rfl, by simp [Hid], Below.refl _ _⟩
        case round =>
          rename World => w3
          obtain ⟨j, hj, rfl, HR, hb3'⟩ := hrel
          have hb3 := kqt hbr hb3'
          have z0 : w3.cell? ⟨w.heap.size, 0, none⟩ = some (.slice pk s.ks.length ck) := (HB0.out.up hb3).cell 0
          have z1 : w3.cell? ⟨w.heap.size, 1, none⟩ = some (.slice pa s.acs.length ca) := (HB0.out.up hb3).cell 1
          by_cases hlt2 : j < s.acs.length
          · have i2 : (j : Int) < (s.acs.length : Int) := by omega
            have HC := acFault_any s pk pa ck ca j hlt2 w3 (HSA.out.up hb3) HH8.out.2
            unfold scV at HC
            have HS : Hid (asf [] s.acs = orE (acf ((s.acs.take j).map (·.id)) s.acs[j]) (asf ((s.acs.take (j + 1)).map (·.id)) (s.acs.drop (j + 1)))) := by show _ = _; rw [HR.out]; exact asf_stepR hlt2
            generalize acf ((s.acs.take j).map (·.id)) s.acs[j] = n at *
            clear HR
            by_cases h0 : n = 0
            · subst h0
              have HR2 : Hid (asf [] s.acs = asf ((s.acs.take (j + 1)).map (·.id)) (s.acs.drop (j + 1))) := by show _ = _; rw [HS.out]; exact orE_r rfl
              clear HS
              go_wp2_with fail
              refine HC.mono ?_
              rintro _ w4 ⟨rfl, hb4⟩
              go_wp2
              go_roundw
              case rel => exact ⟨j + 1, by omega, by go_num, HR2, kqt hb3' hb4⟩
              case measure => simp [intOf]; omega
            · have HR2 : Hid (scf s = n) := by show _ = _; rw [HE2.out, HS.out, orE_l h0]
              have e3 : (n != 0) = true := by simp [h0]
              clear HS h0
              go_wp2_with fail
              refine HC.mono ?_
              rintro _ w4 ⟨rfl, hb4⟩
              go_wp2
              go_ret
              exact ⟨by rw [HR2.out]; rfl, kqt hbV (kqt hb3 hb4)⟩
          · have i2 : ¬ (j : Int) < (s.acs.length : Int) := by omega
            have HR2 : Hid (scf s = 0) := by show _ = _; rw [HE2.out, HR.out, List.drop_of_length_le (by omega)]; rfl
            clear HR HE2
            go_wp2
            go_ret
            exact ⟨by rw [HR2.out]; rfl, kqt hbV hb3⟩
end Go.Proofs.YtpcikfpldmackaaGreatDoor
namespace Go.Proofs.YtpcikfpldmackaaGreatDoor
open Go.RowKit
set_option linter.unusedVariables false
set_option linter.unusedSimpArgs false
set_option maxRecDepth 100000

set_option maxHeartbeats 30000000 in
theorem askFits_c1 (s : Sc) (q : Rq) (pk pa pq : Option Addr) (ck ca cq : Nat) (w : World) (h : SA w s pk ck pa ca) (hq : RqArg w q pq cq) (h0 : scf s = 0) (h1 : askf q = 0) (ac : Ac) (hac : aoi s.acs q.act.i = some ac) (ht : q.act.t = actT) (e1 : hasT q.who.t ac.who = false) :
    Calls Tryz.prog 19 #[scV s pk ck pa ca, reqV q pq cq] w fun e w' => e = .returned (.int .i64 2) ∧ Below w.heap.size w w' := by
  obtain ⟨V, hV⟩ : ∃ V, V = (w.alloc (.cells #[.slice pk s.ks.length ck, .slice pa s.acs.length ca] 38)).alloc (.cells #[.string q.who.t, .string q.who.i, .string q.act.t, .string q.act.i, .string q.what.t, .string q.what.i, .slice pq q.cx.length cq] 43) := ⟨_, rfl⟩
  have hbV : Below w.heap.size w V := by rw [hV]; exact kqx
  have HB0 : Hid (Blk V w.heap.size #[.slice pk s.ks.length ck, .slice pa s.acs.length ca] 38) := by rw [hV]; exact (Blk.new w _ _ rfl).up kqx
  have HB1 : Hid (Blk V (w.heap.size + 1) #[.string q.who.t, .string q.who.i, .string q.act.t, .string q.act.i, .string q.what.t, .string q.what.i, .slice pq q.cx.length cq] 43) := by rw [hV]; refine Blk.new _ _ _ ?_; simp
  have HSA : Hid (SA V s pk ck pa ca) := h.up hbV
  have HRQ : Hid (∀ W, Below V.heap.size V W → RqArg W q pq cq) := fun W hW => ⟨hq.u0, hq.u1, hq.u2, hq.nl.up (kqt hbV hW), hq.le, hq.cm⟩
  have HC := schemaFault_any s pk pa ck ca V HSA.out
  have HQ := fun W (hW : Below V.heap.size V W) => askFaultP_any q pq cq W (HRQ.out W hW)
  have HA := fun W (hW : Below V.heap.size V W) => actOfR_any s pk pa ck ca q.act.i W (HSA.out.up hW)
  unfold scV at *
  unfold reqV at *
  clear h hq
  rw [h0] at HC
  rw [h1] at HQ
  have HK0 : Hid (∀ a ∈ s.acs, kfault a.cx = 0) := (scf_kinds h0).2
  have HVQ : Hid (vfault q.cx = 0) := askf_val h1
  have HAC0 : Hid (aoi s.acs q.act.i = some ac) := hac
  have HTT : Hid (q.act.t = actT) := ht
  clear h0 h1 hac ht
  go_enter Tryz.func19, Tryz.ntmps19
  go_wp2_with fail
  rw [← hV]
  clear hV
  refine HC.mono ?_
  rintro _ w1 ⟨rfl, hb1⟩
  have w1r0 : w1.cell? ⟨w.heap.size, 0, none⟩ = some (.slice pk s.ks.length ck) := (HB0.out.up hb1).cell 0
  have w1r1 : w1.cell? ⟨w.heap.size, 1, none⟩ = some (.slice pa s.acs.length ca) := (HB0.out.up hb1).cell 1
  have w1q0 : w1.cell? ⟨w.heap.size + 1, 0, none⟩ = some (.string q.who.t) := (HB1.out.up hb1).cell 0
  have w1q1 : w1.cell? ⟨w.heap.size + 1, 1, none⟩ = some (.string q.who.i) := (HB1.out.up hb1).cell 1
  have w1q2 : w1.cell? ⟨w.heap.size + 1, 2, none⟩ = some (.string q.act.t) := (HB1.out.up hb1).cell 2
  have w1q3 : w1.cell? ⟨w.heap.size + 1, 3, none⟩ = some (.string q.act.i) := (HB1.out.up hb1).cell 3
  have w1q4 : w1.cell? ⟨w.heap.size + 1, 4, none⟩ = some (.string q.what.t) := (HB1.out.up hb1).cell 4
  have w1q5 : w1.cell? ⟨w.heap.size + 1, 5, none⟩ = some (.string q.what.i) := (HB1.out.up hb1).cell 5
  have w1q6 : w1.cell? ⟨w.heap.size + 1, 6, none⟩ = some (.slice pq q.cx.length cq) := (HB1.out.up hb1).cell 6
  go_wp2_with fail
  refine (HQ _ hb1).mono ?_
  rintro _ w2 ⟨rfl, hb2'⟩
  have hb2 := kqt hb1 hb2'
  clear w1r0 w1r1 w1q0 w1q1 w1q2 w1q3 w1q4 w1q5 w1q6
  have w2r0 : w2.cell? ⟨w.heap.size, 0, none⟩ = some (.slice pk s.ks.length ck) := (HB0.out.up hb2).cell 0
  have w2r1 : w2.cell? ⟨w.heap.size, 1, none⟩ = some (.slice pa s.acs.length ca) := (HB0.out.up hb2).cell 1
  have w2q0 : w2.cell? ⟨w.heap.size + 1, 0, none⟩ = some (.string q.who.t) := (HB1.out.up hb2).cell 0
  have w2q1 : w2.cell? ⟨w.heap.size + 1, 1, none⟩ = some (.string q.who.i) := (HB1.out.up hb2).cell 1
  have w2q2 : w2.cell? ⟨w.heap.size + 1, 2, none⟩ = some (.string q.act.t) := (HB1.out.up hb2).cell 2
  have w2q3 : w2.cell? ⟨w.heap.size + 1, 3, none⟩ = some (.string q.act.i) := (HB1.out.up hb2).cell 3
  have w2q4 : w2.cell? ⟨w.heap.size + 1, 4, none⟩ = some (.string q.what.t) := (HB1.out.up hb2).cell 4
  have w2q5 : w2.cell? ⟨w.heap.size + 1, 5, none⟩ = some (.string q.what.i) := (HB1.out.up hb2).cell 5
  have w2q6 : w2.cell? ⟨w.heap.size + 1, 6, none⟩ = some (.slice pq q.cx.length cq) := (HB1.out.up hb2).cell 6
  go_wp2_with fail
  refine (HA _ hb2).mono ?_
  rintro _ w3 ⟨⟨n, rfl, hix⟩, hb3'⟩
  have hb3 := kqt hb2 hb3'
  clear w2r0 w2r1 w2q0 w2q1 w2q2 w2q3 w2q4 w2q5 w2q6
  clear hb1 hb2 hb2' hb3' HC HQ HA
  have x2 : w3.cell? ⟨w.heap.size + 1, 2, none⟩ = some (.string q.act.t) := (HB1.out.up hb3).cell 2
  rcases hix with ⟨hno, rfl⟩ | ⟨j, hj, hyes, rfl⟩
  · rw [HAC0.out] at hno; cases hno
  have j2 : ¬ (j : Int) < 0 := by omega
  have j3 : (0 : Int) ≤ (j : Int) := by omega
  have j1 : (j : Int) < (s.acs.length : Int) := by omega
  obtain ⟨ba, oa, p1, d1, p2, d2, pt, ct, hpa, hba, hav, g0, g1, g2, g3⟩ := HSA.out.asl.at hj
  have HKT : Hid (kfault s.acs[j].cx = 0) := HK0.out _ (List.getElem_mem _)
  have hac : s.acs[j]'hj = ac := by have := HAC0.out; rw [hyes] at this; exact Option.some.inj this
  rw [hac] at hav g1 g2 g3 HKT
  have HAV : Hid (AcV V ac p1 d1 p2 d2 pt ct) := hav
  have HSS : Hid (∀ w', Below V.heap.size V w' → w'.cell? ⟨w.heap.size, 1, none⟩ = some (.slice pa s.acs.length ca) ∧ w'.cell? ⟨w.heap.size + 1, 0, none⟩ = some (.string q.who.t) ∧ w'.cell? ⟨w.heap.size + 1, 4, none⟩ = some (.string q.what.t) ∧ w'.cell? ⟨w.heap.size + 1, 6, none⟩ = some (.slice pq q.cx.length cq) ∧ w'.cell? ⟨ba, oa + j * 4 + 1, none⟩ = some (.slice p1 ac.who.length d1) ∧ w'.cell? ⟨ba, oa + j * 4 + 2, none⟩ = some (.slice p2 ac.what.length d2) ∧ w'.cell? ⟨ba, oa + j * 4 + 3, none⟩ = some (.slice pt ac.cx.length ct)) := fun w' hb => ⟨(HB0.out.up hb).cell 1, (HB1.out.up hb).cell 0, (HB1.out.up hb).cell 4, (HB1.out.up hb).cell 6, (hb.cell (p := ⟨ba, oa + j * 4 + 1, none⟩) hba).trans g1, (hb.cell (p := ⟨ba, oa + j * 4 + 2, none⟩) hba).trans g2, (hb.cell (p := ⟨ba, oa + j * 4 + 3, none⟩) hba).trans g3⟩
  subst hpa
  have HWH := fun W (hW : Below V.heap.size V W) => amongR_any q.who.t ac.who p1 d1 W (HAV.out.us.up hW)
  have HWT := fun W (hW : Below V.heap.size V W) => amongR_any q.what.t ac.what p2 d2 W (HAV.out.vs.up hW)
  have HHK := fun W (hW : Below V.heap.size V W) => hasKindB_any ac.cx q.cx pt pq ct cq W (HAV.out.ty.up hW) ⟨(HRQ.out W hW).nl, (HRQ.out W hW).le, (HRQ.out W hW).cm⟩ HKT.out HVQ.out
  rw [HTT.out] at x2
  unfold actT at x2
  clear hac hyes hav g0 g1 g2 g3 hj
  rw [e1] at HWH
  clear e1 HWT HHK
  go_wp2_with fail
  obtain ⟨D, hD⟩ : ∃ D, D = w3.drew := ⟨_, rfl⟩
  have hbD : Below V.heap.size V D := by rw [hD]; exact kqt hb3 kqx
  refine wp_region_held_drew (S := fun w' => w'.cell? ⟨w.heap.size, 1, none⟩ = some (.slice (some ⟨ba, oa, none⟩) s.acs.length ca) ∧ w'.cell? ⟨w.heap.size + 1, 0, none⟩ = some (.string q.who.t) ∧ w'.cell? ⟨w.heap.size + 1, 4, none⟩ = some (.string q.what.t) ∧ w'.cell? ⟨w.heap.size + 1, 6, none⟩ = some (.slice pq q.cx.length cq) ∧ w'.cell? ⟨ba, oa + j * 4 + 1, none⟩ = some (.slice p1 ac.who.length d1) ∧ w'.cell? ⟨ba, oa + j * 4 + 2, none⟩ = some (.slice p2 ac.what.length d2) ∧ w'.cell? ⟨ba, oa + j * 4 + 3, none⟩ = some (.slice pt ac.cx.length ct)) (by kernel_rfl) (by rw [← hD]; exact HSS.out _ hbD) (fun hHeld => ?_)
  rw [← hD] at hHeld ⊢
  clear hD
  refine wpAnyH_take (i := 0) (v := ?_) rfl (by kernel_rfl) (by kernel_rfl) (by kernel_rfl) (fun _ _ _ h => h) (Or.inl ⟨by kernel_rfl, ?_⟩) (by assumption) ?_
  rotate_left
  · intro w hSw
    go_simp
    all_goals with_reducible rfl
  try simp only [Act.put, List.getElem_toArray, List.getElem_cons_succ, List.getElem_cons_zero, List.setIfInBounds_toArray, List.set_cons_zero, List.set_cons_succ]
  refine wpAnyH_take (i := 1) (v := ?_) rfl (by kernel_rfl) (by kernel_rfl) (by kernel_rfl) (fun _ _ _ h => h) (Or.inl ⟨by kernel_rfl, ?_⟩) (by assumption) ?_
  rotate_left
  · intro w hSw
    go_simp
    all_goals with_reducible rfl
  try simp only [Act.put, List.getElem_toArray, List.getElem_cons_succ, List.getElem_cons_zero, List.setIfInBounds_toArray, List.set_cons_zero, List.set_cons_succ]
  refine wpAnyH_take (i := 2) (v := ?_) rfl (by kernel_rfl) (by kernel_rfl) (by kernel_rfl) (fun _ _ _ h => h) (Or.inl ⟨by kernel_rfl, ?_⟩) (by assumption) ?_
  rotate_left
  · intro w hSw
    go_simp
    all_goals with_reducible rfl
  try simp only [Act.put, List.getElem_toArray, List.getElem_cons_succ, List.getElem_cons_zero, List.setIfInBounds_toArray, List.set_cons_zero, List.set_cons_succ]
  refine wpAnyH_take (i := 3) (v := ?_) rfl (by kernel_rfl) (by kernel_rfl) (by kernel_rfl) (fun _ _ _ h => h) (Or.inl ⟨by kernel_rfl, ?_⟩) (by assumption) ?_
  rotate_left
  · intro w hSw
    go_simp
    all_goals with_reducible rfl
  try simp only [Act.put, List.getElem_toArray, List.getElem_cons_succ, List.getElem_cons_zero, List.setIfInBounds_toArray, List.set_cons_zero, List.set_cons_succ]
  refine wpAnyH_take (i := 4) (v := ?_) rfl (by kernel_rfl) (by kernel_rfl) (by kernel_rfl) (fun _ _ _ h => h) (Or.inl ⟨by kernel_rfl, ?_⟩) (by assumption) ?_
  rotate_left
  · intro w hSw
    go_simp
    all_goals with_reducible rfl
  try simp only [Act.put, List.getElem_toArray, List.getElem_cons_succ, List.getElem_cons_zero, List.setIfInBounds_toArray, List.set_cons_zero, List.set_cons_succ]
  refine wpAnyH_take (i := 5) (v := ?_) rfl (by kernel_rfl) (by kernel_rfl) (by kernel_rfl) (fun _ _ _ h => h) (Or.inl ⟨by kernel_rfl, ?_⟩) (by assumption) ?_
  rotate_left
  · intro w hSw
    go_simp
    all_goals with_reducible rfl
  try simp only [Act.put, List.getElem_toArray, List.getElem_cons_succ, List.getElem_cons_zero, List.setIfInBounds_toArray, List.set_cons_zero, List.set_cons_succ]
  refine wpAnyH_take (i := 6) (v := ?_) rfl (by kernel_rfl) (by kernel_rfl) (by kernel_rfl) (fun _ _ _ h => h) (Or.inl ⟨by kernel_rfl, ?_⟩) (by assumption) ?_
  rotate_left
  · intro w hSw
    go_simp
    all_goals with_reducible rfl
  try simp only [Act.put, List.getElem_toArray, List.getElem_cons_succ, List.getElem_cons_zero, List.setIfInBounds_toArray, List.set_cons_zero, List.set_cons_succ]
  refine wpAnyH_take (i := 7) (v := ?_) rfl (by kernel_rfl) (by kernel_rfl) (by kernel_rfl) (fun _ _ _ h => h) (Or.inl ⟨by kernel_rfl, ?_⟩) (by assumption) ?_
  rotate_left
  · intro w hSw
    go_simp
    all_goals with_reducible rfl
  try simp only [Act.put, List.getElem_toArray, List.getElem_cons_succ, List.getElem_cons_zero, List.setIfInBounds_toArray, List.set_cons_zero, List.set_cons_succ]
  refine wpAnyH_take (i := 8) (v := ?_) rfl (by kernel_rfl) (by kernel_rfl) (by kernel_rfl) (fun _ _ _ h => h) (Or.inl ⟨by kernel_rfl, ?_⟩) (by assumption) ?_
  rotate_left
  · intro w hSw
    go_simp
    all_goals with_reducible rfl
  try simp only [Act.put, List.getElem_toArray, List.getElem_cons_succ, List.getElem_cons_zero, List.setIfInBounds_toArray, List.set_cons_zero, List.set_cons_succ]
  refine wpAnyH_ready (rs := [9]) (by kernel_rfl) (by simp) ?_
  refine AllReadyH.cons rfl (fun K hK => ?_) AllReadyH.nil
  go_simp
  go_wp2_with fail
  refine (HWH _ hbD).mono ?_
  rintro _ _ ⟨rfl, rfl⟩
  refine hK.out _ _ (HSS.out _ hbD) (fun hHeld => ?_)
  clear hK K
  try simp only [Act.put, List.getElem_toArray, List.getElem_cons_succ, List.getElem_cons_zero, List.setIfInBounds_toArray, List.set_cons_zero, List.set_cons_succ]
  refine wpAnyH_take (i := 10) (v := ?_) rfl (by kernel_rfl) (by kernel_rfl) (by kernel_rfl) (fun _ _ _ h => h) (Or.inl ⟨by kernel_rfl, ?_⟩) (by assumption) ?_
  rotate_left
  · intro w hSw
    go_simp
    all_goals with_reducible rfl
  try simp only [Act.put, List.getElem_toArray, List.getElem_cons_succ, List.getElem_cons_zero, List.setIfInBounds_toArray, List.set_cons_zero, List.set_cons_succ]
  refine wpAnyH_take (i := 11) (v := ?_) rfl (by kernel_rfl) (by kernel_rfl) (by kernel_rfl) (fun _ _ _ h => h) (Or.inl ⟨by kernel_rfl, ?_⟩) (by assumption) ?_
  rotate_left
  · intro w hSw
    go_simp
    all_goals with_reducible rfl
  try simp only [Act.put, List.getElem_toArray, List.getElem_cons_succ, List.getElem_cons_zero, List.setIfInBounds_toArray, List.set_cons_zero, List.set_cons_succ]
  refine wpAnyH_take (i := 12) (v := undef) rfl (by kernel_rfl) (by kernel_rfl) (by kernel_rfl) (fun _ _ _ h => h) (Or.inr ⟨by kernel_rfl, rfl⟩) (by assumption) ?_
  try simp only [Act.put, List.getElem_toArray, List.getElem_cons_succ, List.getElem_cons_zero, List.setIfInBounds_toArray, List.set_cons_zero, List.set_cons_succ]
  refine wpAnyH_take (i := 13) (v := undef) rfl (by kernel_rfl) (by kernel_rfl) (by kernel_rfl) (fun _ _ _ h => h) (Or.inr ⟨by kernel_rfl, rfl⟩) (by assumption) ?_
  try simp only [Act.put, List.getElem_toArray, List.getElem_cons_succ, List.getElem_cons_zero, List.setIfInBounds_toArray, List.set_cons_zero, List.set_cons_succ]
  refine wpAnyH_take (i := 14) (v := undef) rfl (by kernel_rfl) (by kernel_rfl) (by kernel_rfl) (fun _ _ _ h => h) (Or.inr ⟨by kernel_rfl, rfl⟩) (by assumption) ?_
  try simp only [Act.put, List.getElem_toArray, List.getElem_cons_succ, List.getElem_cons_zero, List.setIfInBounds_toArray, List.set_cons_zero, List.set_cons_succ]
  refine wpAnyH_take (i := 15) (v := undef) rfl (by kernel_rfl) (by kernel_rfl) (by kernel_rfl) (fun _ _ _ h => h) (Or.inr ⟨by kernel_rfl, rfl⟩) (by assumption) ?_
  try simp only [Act.put, List.getElem_toArray, List.getElem_cons_succ, List.getElem_cons_zero, List.setIfInBounds_toArray, List.set_cons_zero, List.set_cons_succ]
  refine wpAnyH_take (i := 16) (v := undef) rfl (by kernel_rfl) (by kernel_rfl) (by kernel_rfl) (fun _ _ _ h => h) (Or.inr ⟨by kernel_rfl, rfl⟩) (by assumption) ?_
  try simp only [Act.put, List.getElem_toArray, List.getElem_cons_succ, List.getElem_cons_zero, List.setIfInBounds_toArray, List.set_cons_zero, List.set_cons_succ]
  refine wpAnyH_take (i := 17) (v := undef) rfl (by kernel_rfl) (by kernel_rfl) (by kernel_rfl) (fun _ _ _ h => h) (Or.inr ⟨by kernel_rfl, rfl⟩) (by assumption) ?_
  try simp only [Act.put, List.getElem_toArray, List.getElem_cons_succ, List.getElem_cons_zero, List.setIfInBounds_toArray, List.set_cons_zero, List.set_cons_succ]
  refine wpAnyH_take (i := 18) (v := undef) rfl (by kernel_rfl) (by kernel_rfl) (by kernel_rfl) (fun _ _ _ h => h) (Or.inr ⟨by kernel_rfl, rfl⟩) (by assumption) ?_
  try simp only [Act.put, List.getElem_toArray, List.getElem_cons_succ, List.getElem_cons_zero, List.setIfInBounds_toArray, List.set_cons_zero, List.set_cons_succ]
  refine wpAnyH_take (i := 19) (v := undef) rfl (by kernel_rfl) (by kernel_rfl) (by kernel_rfl) (fun _ _ _ h => h) (Or.inr ⟨by kernel_rfl, rfl⟩) (by assumption) ?_
  try simp only [Act.put, List.getElem_toArray, List.getElem_cons_succ, List.getElem_cons_zero, List.setIfInBounds_toArray, List.set_cons_zero, List.set_cons_succ]
  refine wpAnyH_take (i := 20) (v := undef) rfl (by kernel_rfl) (by kernel_rfl) (by kernel_rfl) (fun _ _ _ h => h) (Or.inr ⟨by kernel_rfl, rfl⟩) (by assumption) ?_
  try simp only [Act.put, List.getElem_toArray, List.getElem_cons_succ, List.getElem_cons_zero, List.setIfInBounds_toArray, List.set_cons_zero, List.set_cons_succ]
  refine wpAnyH_take (i := 21) (v := undef) rfl (by kernel_rfl) (by kernel_rfl) (by kernel_rfl) (fun _ _ _ h => h) (Or.inr ⟨by kernel_rfl, rfl⟩) (by assumption) ?_
  try simp only [Act.put, List.getElem_toArray, List.getElem_cons_succ, List.getElem_cons_zero, List.setIfInBounds_toArray, List.set_cons_zero, List.set_cons_succ]
  refine wpAnyH_take (i := 22) (v := undef) rfl (by kernel_rfl) (by kernel_rfl) (by kernel_rfl) (fun _ _ _ h => h) (Or.inr ⟨by kernel_rfl, rfl⟩) (by assumption) ?_
  try simp only [Act.put, List.getElem_toArray, List.getElem_cons_succ, List.getElem_cons_zero, List.setIfInBounds_toArray, List.set_cons_zero, List.set_cons_succ]
  refine wpAnyH_take (i := 23) (v := ?_) rfl (by kernel_rfl) (by kernel_rfl) (by kernel_rfl) (fun _ _ _ h => h) (Or.inl ⟨by kernel_rfl, ?_⟩) (by assumption) ?_
  rotate_left
  · intro w hSw
    go_simp
    all_goals with_reducible rfl
  try simp only [Act.put, List.getElem_toArray, List.getElem_cons_succ, List.getElem_cons_zero, List.setIfInBounds_toArray, List.set_cons_zero, List.set_cons_succ]
  refine wpAnyH_take (i := 24) (v := ?_) rfl (by kernel_rfl) (by kernel_rfl) (by kernel_rfl) (fun _ _ _ h => h) (Or.inl ⟨by kernel_rfl, ?_⟩) (by assumption) ?_
  rotate_left
  · intro w hSw
    go_simp
    all_goals with_reducible rfl
  try simp only [Act.put, List.getElem_toArray, List.getElem_cons_succ, List.getElem_cons_zero, List.setIfInBounds_toArray, List.set_cons_zero, List.set_cons_succ]
  refine wpAnyH_take (i := 25) (v := undef) rfl (by kernel_rfl) (by kernel_rfl) (by kernel_rfl) (fun _ _ _ h => h) (Or.inr ⟨by kernel_rfl, rfl⟩) (by assumption) ?_
  try simp only [Act.put, List.getElem_toArray, List.getElem_cons_succ, List.getElem_cons_zero, List.setIfInBounds_toArray, List.set_cons_zero, List.set_cons_succ]
  refine wpAnyH_take (i := 26) (v := undef) rfl (by kernel_rfl) (by kernel_rfl) (by kernel_rfl) (fun _ _ _ h => h) (Or.inr ⟨by kernel_rfl, rfl⟩) (by assumption) ?_
  try simp only [Act.put, List.getElem_toArray, List.getElem_cons_succ, List.getElem_cons_zero, List.setIfInBounds_toArray, List.set_cons_zero, List.set_cons_succ]
  refine wpAnyH_take (i := 27) (v := undef) rfl (by kernel_rfl) (by kernel_rfl) (by kernel_rfl) (fun _ _ _ h => h) (Or.inr ⟨by kernel_rfl, rfl⟩) (by assumption) ?_
  try simp only [Act.put, List.getElem_toArray, List.getElem_cons_succ, List.getElem_cons_zero, List.setIfInBounds_toArray, List.set_cons_zero, List.set_cons_succ]
  refine wpAnyH_take (i := 28) (v := undef) rfl (by kernel_rfl) (by kernel_rfl) (by kernel_rfl) (fun _ _ _ h => h) (Or.inr ⟨by kernel_rfl, rfl⟩) (by assumption) ?_
  try simp only [Act.put, List.getElem_toArray, List.getElem_cons_succ, List.getElem_cons_zero, List.setIfInBounds_toArray, List.set_cons_zero, List.set_cons_succ]
  refine wpAnyH_take (i := 29) (v := undef) rfl (by kernel_rfl) (by kernel_rfl) (by kernel_rfl) (fun _ _ _ h => h) (Or.inr ⟨by kernel_rfl, rfl⟩) (by assumption) ?_
  try simp only [Act.put, List.getElem_toArray, List.getElem_cons_succ, List.getElem_cons_zero, List.setIfInBounds_toArray, List.set_cons_zero, List.set_cons_succ]
  refine wpAnyH_take (i := 30) (v := undef) rfl (by kernel_rfl) (by kernel_rfl) (by kernel_rfl) (fun _ _ _ h => h) (Or.inr ⟨by kernel_rfl, rfl⟩) (by assumption) ?_
  try simp only [Act.put, List.getElem_toArray, List.getElem_cons_succ, List.getElem_cons_zero, List.setIfInBounds_toArray, List.set_cons_zero, List.set_cons_succ]
  refine wpAnyH_take (i := 31) (v := undef) rfl (by kernel_rfl) (by kernel_rfl) (by kernel_rfl) (fun _ _ _ h => h) (Or.inr ⟨by kernel_rfl, rfl⟩) (by assumption) ?_
  try simp only [Act.put, List.getElem_toArray, List.getElem_cons_succ, List.getElem_cons_zero, List.setIfInBounds_toArray, List.set_cons_zero, List.set_cons_succ]
  refine wpAnyH_take (i := 32) (v := undef) rfl (by kernel_rfl) (by kernel_rfl) (by kernel_rfl) (fun _ _ _ h => h) (Or.inr ⟨by kernel_rfl, rfl⟩) (by assumption) ?_
  try simp only [Act.put, List.getElem_toArray, List.getElem_cons_succ, List.getElem_cons_zero, List.setIfInBounds_toArray, List.set_cons_zero, List.set_cons_succ]
  refine wpAnyH_take (i := 33) (v := undef) rfl (by kernel_rfl) (by kernel_rfl) (by kernel_rfl) (fun _ _ _ h => h) (Or.inr ⟨by kernel_rfl, rfl⟩) (by assumption) ?_
  try simp only [Act.put, List.getElem_toArray, List.getElem_cons_succ, List.getElem_cons_zero, List.setIfInBounds_toArray, List.set_cons_zero, List.set_cons_succ]
  refine wpAnyH_take (i := 34) (v := undef) rfl (by kernel_rfl) (by kernel_rfl) (by kernel_rfl) (fun _ _ _ h => h) (Or.inr ⟨by kernel_rfl, rfl⟩) (by assumption) ?_
  try simp only [Act.put, List.getElem_toArray, List.getElem_cons_succ, List.getElem_cons_zero, List.setIfInBounds_toArray, List.set_cons_zero, List.set_cons_succ]
  refine wpAnyH_take (i := 35) (v := ?_) rfl (by kernel_rfl) (by kernel_rfl) (by kernel_rfl) (fun _ _ _ h => h) (Or.inl ⟨by kernel_rfl, ?_⟩) (by assumption) ?_
  rotate_left
  · intro w hSw
    go_simp
    all_goals with_reducible rfl
  try simp only [Act.put, List.getElem_toArray, List.getElem_cons_succ, List.getElem_cons_zero, List.setIfInBounds_toArray, List.set_cons_zero, List.set_cons_succ]
  refine wpAnyH_done (by kernel_rfl) ?_ _
  clear hHeld
  go_wp2
  go_ret
  exact ⟨rfl, kqt hbV hbD⟩
end Go.Proofs.YtpcikfpldmackaaGreatDoor
namespace Go.Proofs.YtpcikfpldmackaaGreatDoor
open Go.RowKit
set_option linter.unusedVariables false
set_option linter.unusedSimpArgs false
set_option maxRecDepth 100000

set_option maxHeartbeats 30000000 in
theorem askFits_c2 (s : Sc) (q : Rq) (pk pa pq : Option Addr) (ck ca cq : Nat) (w : World) (h : SA w s pk ck pa ca) (hq : RqArg w q pq cq) (h0 : scf s = 0) (h1 : askf q = 0) (ac : Ac) (hac : aoi s.acs q.act.i = some ac) (ht : q.act.t = actT) (e1 : hasT q.who.t ac.who = true) (e2 : hasT q.what.t ac.what = false) :
    Calls Tryz.prog 19 #[scV s pk ck pa ca, reqV q pq cq] w fun e w' => e = .returned (.int .i64 2) ∧ Below w.heap.size w w' := by
  obtain ⟨V, hV⟩ : ∃ V, V = (w.alloc (.cells #[.slice pk s.ks.length ck, .slice pa s.acs.length ca] 38)).alloc (.cells #[.string q.who.t, .string q.who.i, .string q.act.t, .string q.act.i, .string q.what.t, .string q.what.i, .slice pq q.cx.length cq] 43) := ⟨_, rfl⟩
  have hbV : Below w.heap.size w V := by rw [hV]; exact kqx
  have HB0 : Hid (Blk V w.heap.size #[.slice pk s.ks.length ck, .slice pa s.acs.length ca] 38) := by rw [hV]; exact (Blk.new w _ _ rfl).up kqx
  have HB1 : Hid (Blk V (w.heap.size + 1) #[.string q.who.t, .string q.who.i, .string q.act.t, .string q.act.i, .string q.what.t, .string q.what.i, .slice pq q.cx.length cq] 43) := by rw [hV]; refine Blk.new _ _ _ ?_; simp
  have HSA : Hid (SA V s pk ck pa ca) := h.up hbV
  have HRQ : Hid (∀ W, Below V.heap.size V W → RqArg W q pq cq) := fun W hW => ⟨hq.u0, hq.u1, hq.u2, hq.nl.up (kqt hbV hW), hq.le, hq.cm⟩
  have HC := schemaFault_any s pk pa ck ca V HSA.out
  have HQ := fun W (hW : Below V.heap.size V W) => askFaultP_any q pq cq W (HRQ.out W hW)
  have HA := fun W (hW : Below V.heap.size V W) => actOfR_any s pk pa ck ca q.act.i W (HSA.out.up hW)
  unfold scV at *
  unfold reqV at *
  clear h hq
  rw [h0] at HC
  rw [h1] at HQ
  have HK0 : Hid (∀ a ∈ s.acs, kfault a.cx = 0) := (scf_kinds h0).2
  have HVQ : Hid (vfault q.cx = 0) := askf_val h1
  have HAC0 : Hid (aoi s.acs q.act.i = some ac) := hac
  have HTT : Hid (q.act.t = actT) := ht
  clear h0 h1 hac ht
  go_enter Tryz.func19, Tryz.ntmps19
  go_wp2_with fail
  rw [← hV]
  clear hV
  refine HC.mono ?_
  rintro _ w1 ⟨rfl, hb1⟩
  have w1r0 : w1.cell? ⟨w.heap.size, 0, none⟩ = some (.slice pk s.ks.length ck) := (HB0.out.up hb1).cell 0
  have w1r1 : w1.cell? ⟨w.heap.size, 1, none⟩ = some (.slice pa s.acs.length ca) := (HB0.out.up hb1).cell 1
  have w1q0 : w1.cell? ⟨w.heap.size + 1, 0, none⟩ = some (.string q.who.t) := (HB1.out.up hb1).cell 0
  have w1q1 : w1.cell? ⟨w.heap.size + 1, 1, none⟩ = some (.string q.who.i) := (HB1.out.up hb1).cell 1
  have w1q2 : w1.cell? ⟨w.heap.size + 1, 2, none⟩ = some (.string q.act.t) := (HB1.out.up hb1).cell 2
  have w1q3 : w1.cell? ⟨w.heap.size + 1, 3, none⟩ = some (.string q.act.i) := (HB1.out.up hb1).cell 3
  have w1q4 : w1.cell? ⟨w.heap.size + 1, 4, none⟩ = some (.string q.what.t) := (HB1.out.up hb1).cell 4
  have w1q5 : w1.cell? ⟨w.heap.size + 1, 5, none⟩ = some (.string q.what.i) := (HB1.out.up hb1).cell 5
  have w1q6 : w1.cell? ⟨w.heap.size + 1, 6, none⟩ = some (.slice pq q.cx.length cq) := (HB1.out.up hb1).cell 6
  go_wp2_with fail
  refine (HQ _ hb1).mono ?_
  rintro _ w2 ⟨rfl, hb2'⟩
  have hb2 := kqt hb1 hb2'
  clear w1r0 w1r1 w1q0 w1q1 w1q2 w1q3 w1q4 w1q5 w1q6
  have w2r0 : w2.cell? ⟨w.heap.size, 0, none⟩ = some (.slice pk s.ks.length ck) := (HB0.out.up hb2).cell 0
  have w2r1 : w2.cell? ⟨w.heap.size, 1, none⟩ = some (.slice pa s.acs.length ca) := (HB0.out.up hb2).cell 1
  have w2q0 : w2.cell? ⟨w.heap.size + 1, 0, none⟩ = some (.string q.who.t) := (HB1.out.up hb2).cell 0
  have w2q1 : w2.cell? ⟨w.heap.size + 1, 1, none⟩ = some (.string q.who.i) := (HB1.out.up hb2).cell 1
  have w2q2 : w2.cell? ⟨w.heap.size + 1, 2, none⟩ = some (.string q.act.t) := (HB1.out.up hb2).cell 2
  have w2q3 : w2.cell? ⟨w.heap.size + 1, 3, none⟩ = some (.string q.act.i) := (HB1.out.up hb2).cell 3
  have w2q4 : w2.cell? ⟨w.heap.size + 1, 4, none⟩ = some (.string q.what.t) := (HB1.out.up hb2).cell 4
  have w2q5 : w2.cell? ⟨w.heap.size + 1, 5, none⟩ = some (.string q.what.i) := (HB1.out.up hb2).cell 5
  have w2q6 : w2.cell? ⟨w.heap.size + 1, 6, none⟩ = some (.slice pq q.cx.length cq) := (HB1.out.up hb2).cell 6
  go_wp2_with fail
  refine (HA _ hb2).mono ?_
  rintro _ w3 ⟨⟨n, rfl, hix⟩, hb3'⟩
  have hb3 := kqt hb2 hb3'
  clear w2r0 w2r1 w2q0 w2q1 w2q2 w2q3 w2q4 w2q5 w2q6
  clear hb1 hb2 hb2' hb3' HC HQ HA
  have x2 : w3.cell? ⟨w.heap.size + 1, 2, none⟩ = some (.string q.act.t) := (HB1.out.up hb3).cell 2
  rcases hix with ⟨hno, rfl⟩ | ⟨j, hj, hyes, rfl⟩
  · rw [HAC0.out] at hno; cases hno
  have j2 : ¬ (j : Int) < 0 := by omega
  have j3 : (0 : Int) ≤ (j : Int) := by omega
  have j1 : (j : Int) < (s.acs.length : Int) := by omega
  obtain ⟨ba, oa, p1, d1, p2, d2, pt, ct, hpa, hba, hav, g0, g1, g2, g3⟩ := HSA.out.asl.at hj
  have HKT : Hid (kfault s.acs[j].cx = 0) := HK0.out _ (List.getElem_mem _)
  have hac : s.acs[j]'hj = ac := by have := HAC0.out; rw [hyes] at this; exact Option.some.inj this
  rw [hac] at hav g1 g2 g3 HKT
  have HAV : Hid (AcV V ac p1 d1 p2 d2 pt ct) := hav
  have HSS : Hid (∀ w', Below V.heap.size V w' → w'.cell? ⟨w.heap.size, 1, none⟩ = some (.slice pa s.acs.length ca) ∧ w'.cell? ⟨w.heap.size + 1, 0, none⟩ = some (.string q.who.t) ∧ w'.cell? ⟨w.heap.size + 1, 4, none⟩ = some (.string q.what.t) ∧ w'.cell? ⟨w.heap.size + 1, 6, none⟩ = some (.slice pq q.cx.length cq) ∧ w'.cell? ⟨ba, oa + j * 4 + 1, none⟩ = some (.slice p1 ac.who.length d1) ∧ w'.cell? ⟨ba, oa + j * 4 + 2, none⟩ = some (.slice p2 ac.what.length d2) ∧ w'.cell? ⟨ba, oa + j * 4 + 3, none⟩ = some (.slice pt ac.cx.length ct)) := fun w' hb => ⟨(HB0.out.up hb).cell 1, (HB1.out.up hb).cell 0, (HB1.out.up hb).cell 4, (HB1.out.up hb).cell 6, (hb.cell (p := ⟨ba, oa + j * 4 + 1, none⟩) hba).trans g1, (hb.cell (p := ⟨ba, oa + j * 4 + 2, none⟩) hba).trans g2, (hb.cell (p := ⟨ba, oa + j * 4 + 3, none⟩) hba).trans g3⟩
  subst hpa
  have HWH := fun W (hW : Below V.heap.size V W) => amongR_any q.who.t ac.who p1 d1 W (HAV.out.us.up hW)
  have HWT := fun W (hW : Below V.heap.size V W) => amongR_any q.what.t ac.what p2 d2 W (HAV.out.vs.up hW)
  have HHK := fun W (hW : Below V.heap.size V W) => hasKindB_any ac.cx q.cx pt pq ct cq W (HAV.out.ty.up hW) ⟨(HRQ.out W hW).nl, (HRQ.out W hW).le, (HRQ.out W hW).cm⟩ HKT.out HVQ.out
  rw [HTT.out] at x2
  unfold actT at x2
  clear hac hyes hav g0 g1 g2 g3 hj
  rw [e1] at HWH
  rw [e2] at HWT
  clear e1 e2 HHK
  go_wp2_with fail
  obtain ⟨D, hD⟩ : ∃ D, D = w3.drew := ⟨_, rfl⟩
  have hbD : Below V.heap.size V D := by rw [hD]; exact kqt hb3 kqx
  refine wp_region_held_drew (S := fun w' => w'.cell? ⟨w.heap.size, 1, none⟩ = some (.slice (some ⟨ba, oa, none⟩) s.acs.length ca) ∧ w'.cell? ⟨w.heap.size + 1, 0, none⟩ = some (.string q.who.t) ∧ w'.cell? ⟨w.heap.size + 1, 4, none⟩ = some (.string q.what.t) ∧ w'.cell? ⟨w.heap.size + 1, 6, none⟩ = some (.slice pq q.cx.length cq) ∧ w'.cell? ⟨ba, oa + j * 4 + 1, none⟩ = some (.slice p1 ac.who.length d1) ∧ w'.cell? ⟨ba, oa + j * 4 + 2, none⟩ = some (.slice p2 ac.what.length d2) ∧ w'.cell? ⟨ba, oa + j * 4 + 3, none⟩ = some (.slice pt ac.cx.length ct)) (by kernel_rfl) (by rw [← hD]; exact HSS.out _ hbD) (fun hHeld => ?_)
  rw [← hD] at hHeld ⊢
  clear hD
  refine wpAnyH_take (i := 0) (v := ?_) rfl (by kernel_rfl) (by kernel_rfl) (by kernel_rfl) (fun _ _ _ h => h) (Or.inl ⟨by kernel_rfl, ?_⟩) (by assumption) ?_
  rotate_left
  · intro w hSw
    go_simp
    all_goals with_reducible rfl
  try simp only [Act.put, List.getElem_toArray, List.getElem_cons_succ, List.getElem_cons_zero, List.setIfInBounds_toArray, List.set_cons_zero, List.set_cons_succ]
  refine wpAnyH_take (i := 1) (v := ?_) rfl (by kernel_rfl) (by kernel_rfl) (by kernel_rfl) (fun _ _ _ h => h) (Or.inl ⟨by kernel_rfl, ?_⟩) (by assumption) ?_
  rotate_left
  · intro w hSw
    go_simp
    all_goals with_reducible rfl
  try simp only [Act.put, List.getElem_toArray, List.getElem_cons_succ, List.getElem_cons_zero, List.setIfInBounds_toArray, List.set_cons_zero, List.set_cons_succ]
  refine wpAnyH_take (i := 2) (v := ?_) rfl (by kernel_rfl) (by kernel_rfl) (by kernel_rfl) (fun _ _ _ h => h) (Or.inl ⟨by kernel_rfl, ?_⟩) (by assumption) ?_
  rotate_left
  · intro w hSw
    go_simp
    all_goals with_reducible rfl
  try simp only [Act.put, List.getElem_toArray, List.getElem_cons_succ, List.getElem_cons_zero, List.setIfInBounds_toArray, List.set_cons_zero, List.set_cons_succ]
  refine wpAnyH_take (i := 3) (v := ?_) rfl (by kernel_rfl) (by kernel_rfl) (by kernel_rfl) (fun _ _ _ h => h) (Or.inl ⟨by kernel_rfl, ?_⟩) (by assumption) ?_
  rotate_left
  · intro w hSw
    go_simp
    all_goals with_reducible rfl
  try simp only [Act.put, List.getElem_toArray, List.getElem_cons_succ, List.getElem_cons_zero, List.setIfInBounds_toArray, List.set_cons_zero, List.set_cons_succ]
  refine wpAnyH_take (i := 4) (v := ?_) rfl (by kernel_rfl) (by kernel_rfl) (by kernel_rfl) (fun _ _ _ h => h) (Or.inl ⟨by kernel_rfl, ?_⟩) (by assumption) ?_
  rotate_left
  · intro w hSw
    go_simp
    all_goals with_reducible rfl
  try simp only [Act.put, List.getElem_toArray, List.getElem_cons_succ, List.getElem_cons_zero, List.setIfInBounds_toArray, List.set_cons_zero, List.set_cons_succ]
  refine wpAnyH_take (i := 5) (v := ?_) rfl (by kernel_rfl) (by kernel_rfl) (by kernel_rfl) (fun _ _ _ h => h) (Or.inl ⟨by kernel_rfl, ?_⟩) (by assumption) ?_
  rotate_left
  · intro w hSw
    go_simp
    all_goals with_reducible rfl
  try simp only [Act.put, List.getElem_toArray, List.getElem_cons_succ, List.getElem_cons_zero, List.setIfInBounds_toArray, List.set_cons_zero, List.set_cons_succ]
  refine wpAnyH_take (i := 6) (v := ?_) rfl (by kernel_rfl) (by kernel_rfl) (by kernel_rfl) (fun _ _ _ h => h) (Or.inl ⟨by kernel_rfl, ?_⟩) (by assumption) ?_
  rotate_left
  · intro w hSw
    go_simp
    all_goals with_reducible rfl
  try simp only [Act.put, List.getElem_toArray, List.getElem_cons_succ, List.getElem_cons_zero, List.setIfInBounds_toArray, List.set_cons_zero, List.set_cons_succ]
  refine wpAnyH_take (i := 7) (v := ?_) rfl (by kernel_rfl) (by kernel_rfl) (by kernel_rfl) (fun _ _ _ h => h) (Or.inl ⟨by kernel_rfl, ?_⟩) (by assumption) ?_
  rotate_left
  · intro w hSw
    go_simp
    all_goals with_reducible rfl
  try simp only [Act.put, List.getElem_toArray, List.getElem_cons_succ, List.getElem_cons_zero, List.setIfInBounds_toArray, List.set_cons_zero, List.set_cons_succ]
  refine wpAnyH_take (i := 8) (v := ?_) rfl (by kernel_rfl) (by kernel_rfl) (by kernel_rfl) (fun _ _ _ h => h) (Or.inl ⟨by kernel_rfl, ?_⟩) (by assumption) ?_
  rotate_left
  · intro w hSw
    go_simp
    all_goals with_reducible rfl
  try simp only [Act.put, List.getElem_toArray, List.getElem_cons_succ, List.getElem_cons_zero, List.setIfInBounds_toArray, List.set_cons_zero, List.set_cons_succ]
  refine wpAnyH_ready (rs := [9]) (by kernel_rfl) (by simp) ?_
  refine AllReadyH.cons rfl (fun K hK => ?_) AllReadyH.nil
  go_simp
  go_wp2_with fail
  refine (HWH _ hbD).mono ?_
  rintro _ _ ⟨rfl, rfl⟩
  refine hK.out _ _ (HSS.out _ hbD) (fun hHeld => ?_)
  clear hK K
  try simp only [Act.put, List.getElem_toArray, List.getElem_cons_succ, List.getElem_cons_zero, List.setIfInBounds_toArray, List.set_cons_zero, List.set_cons_succ]
  refine wpAnyH_take (i := 10) (v := ?_) rfl (by kernel_rfl) (by kernel_rfl) (by kernel_rfl) (fun _ _ _ h => h) (Or.inl ⟨by kernel_rfl, ?_⟩) (by assumption) ?_
  rotate_left
  · intro w hSw
    go_simp
    all_goals with_reducible rfl
  try simp only [Act.put, List.getElem_toArray, List.getElem_cons_succ, List.getElem_cons_zero, List.setIfInBounds_toArray, List.set_cons_zero, List.set_cons_succ]
  refine wpAnyH_take (i := 11) (v := ?_) rfl (by kernel_rfl) (by kernel_rfl) (by kernel_rfl) (fun _ _ _ h => h) (Or.inl ⟨by kernel_rfl, ?_⟩) (by assumption) ?_
  rotate_left
  · intro w hSw
    go_simp
    all_goals with_reducible rfl
  try simp only [Act.put, List.getElem_toArray, List.getElem_cons_succ, List.getElem_cons_zero, List.setIfInBounds_toArray, List.set_cons_zero, List.set_cons_succ]
  refine wpAnyH_take (i := 12) (v := ?_) rfl (by kernel_rfl) (by kernel_rfl) (by kernel_rfl) (fun _ _ _ h => h) (Or.inl ⟨by kernel_rfl, ?_⟩) (by assumption) ?_
  rotate_left
  · intro w hSw
    go_simp
    all_goals with_reducible rfl
  try simp only [Act.put, List.getElem_toArray, List.getElem_cons_succ, List.getElem_cons_zero, List.setIfInBounds_toArray, List.set_cons_zero, List.set_cons_succ]
  refine wpAnyH_take (i := 13) (v := ?_) rfl (by kernel_rfl) (by kernel_rfl) (by kernel_rfl) (fun _ _ _ h => h) (Or.inl ⟨by kernel_rfl, ?_⟩) (by assumption) ?_
  rotate_left
  · intro w hSw
    go_simp
    all_goals with_reducible rfl
  try simp only [Act.put, List.getElem_toArray, List.getElem_cons_succ, List.getElem_cons_zero, List.setIfInBounds_toArray, List.set_cons_zero, List.set_cons_succ]
  refine wpAnyH_take (i := 14) (v := ?_) rfl (by kernel_rfl) (by kernel_rfl) (by kernel_rfl) (fun _ _ _ h => h) (Or.inl ⟨by kernel_rfl, ?_⟩) (by assumption) ?_
  rotate_left
  · intro w hSw
    go_simp
    all_goals with_reducible rfl
  try simp only [Act.put, List.getElem_toArray, List.getElem_cons_succ, List.getElem_cons_zero, List.setIfInBounds_toArray, List.set_cons_zero, List.set_cons_succ]
  refine wpAnyH_take (i := 15) (v := ?_) rfl (by kernel_rfl) (by kernel_rfl) (by kernel_rfl) (fun _ _ _ h => h) (Or.inl ⟨by kernel_rfl, ?_⟩) (by assumption) ?_
  rotate_left
  · intro w hSw
    go_simp
    all_goals with_reducible rfl
  try simp only [Act.put, List.getElem_toArray, List.getElem_cons_succ, List.getElem_cons_zero, List.setIfInBounds_toArray, List.set_cons_zero, List.set_cons_succ]
  refine wpAnyH_take (i := 16) (v := ?_) rfl (by kernel_rfl) (by kernel_rfl) (by kernel_rfl) (fun _ _ _ h => h) (Or.inl ⟨by kernel_rfl, ?_⟩) (by assumption) ?_
  rotate_left
  · intro w hSw
    go_simp
    all_goals with_reducible rfl
  try simp only [Act.put, List.getElem_toArray, List.getElem_cons_succ, List.getElem_cons_zero, List.setIfInBounds_toArray, List.set_cons_zero, List.set_cons_succ]
  refine wpAnyH_take (i := 17) (v := ?_) rfl (by kernel_rfl) (by kernel_rfl) (by kernel_rfl) (fun _ _ _ h => h) (Or.inl ⟨by kernel_rfl, ?_⟩) (by assumption) ?_
  rotate_left
  · intro w hSw
    go_simp
    all_goals with_reducible rfl
  try simp only [Act.put, List.getElem_toArray, List.getElem_cons_succ, List.getElem_cons_zero, List.setIfInBounds_toArray, List.set_cons_zero, List.set_cons_succ]
  refine wpAnyH_take (i := 18) (v := ?_) rfl (by kernel_rfl) (by kernel_rfl) (by kernel_rfl) (fun _ _ _ h => h) (Or.inl ⟨by kernel_rfl, ?_⟩) (by assumption) ?_
  rotate_left
  · intro w hSw
    go_simp
    all_goals with_reducible rfl
  try simp only [Act.put, List.getElem_toArray, List.getElem_cons_succ, List.getElem_cons_zero, List.setIfInBounds_toArray, List.set_cons_zero, List.set_cons_succ]
  refine wpAnyH_take (i := 19) (v := ?_) rfl (by kernel_rfl) (by kernel_rfl) (by kernel_rfl) (fun _ _ _ h => h) (Or.inl ⟨by kernel_rfl, ?_⟩) (by assumption) ?_
  rotate_left
  · intro w hSw
    go_simp
    all_goals with_reducible rfl
  try simp only [Act.put, List.getElem_toArray, List.getElem_cons_succ, List.getElem_cons_zero, List.setIfInBounds_toArray, List.set_cons_zero, List.set_cons_succ]
  refine wpAnyH_take (i := 20) (v := ?_) rfl (by kernel_rfl) (by kernel_rfl) (by kernel_rfl) (fun _ _ _ h => h) (Or.inl ⟨by kernel_rfl, ?_⟩) (by assumption) ?_
  rotate_left
  · intro w hSw
    go_simp
    all_goals with_reducible rfl
  try simp only [Act.put, List.getElem_toArray, List.getElem_cons_succ, List.getElem_cons_zero, List.setIfInBounds_toArray, List.set_cons_zero, List.set_cons_succ]
  refine wpAnyH_ready (rs := [21]) (by kernel_rfl) (by simp) ?_
  refine AllReadyH.cons rfl (fun K hK => ?_) AllReadyH.nil
  go_simp
  go_wp2_with fail
  refine (HWT _ hbD).mono ?_
  rintro _ _ ⟨rfl, rfl⟩
  refine hK.out _ _ (HSS.out _ hbD) (fun hHeld => ?_)
  clear hK K
  try simp only [Act.put, List.getElem_toArray, List.getElem_cons_succ, List.getElem_cons_zero, List.setIfInBounds_toArray, List.set_cons_zero, List.set_cons_succ]
  refine wpAnyH_take (i := 22) (v := ?_) rfl (by kernel_rfl) (by kernel_rfl) (by kernel_rfl) (fun _ _ _ h => h) (Or.inl ⟨by kernel_rfl, ?_⟩) (by assumption) ?_
  rotate_left
  · intro w hSw
    go_simp
    all_goals with_reducible rfl
  try simp only [Act.put, List.getElem_toArray, List.getElem_cons_succ, List.getElem_cons_zero, List.setIfInBounds_toArray, List.set_cons_zero, List.set_cons_succ]
  refine wpAnyH_take (i := 23) (v := ?_) rfl (by kernel_rfl) (by kernel_rfl) (by kernel_rfl) (fun _ _ _ h => h) (Or.inl ⟨by kernel_rfl, ?_⟩) (by assumption) ?_
  rotate_left
  · intro w hSw
    go_simp
    all_goals with_reducible rfl
  try simp only [Act.put, List.getElem_toArray, List.getElem_cons_succ, List.getElem_cons_zero, List.setIfInBounds_toArray, List.set_cons_zero, List.set_cons_succ]
  refine wpAnyH_take (i := 24) (v := ?_) rfl (by kernel_rfl) (by kernel_rfl) (by kernel_rfl) (fun _ _ _ h => h) (Or.inl ⟨by kernel_rfl, ?_⟩) (by assumption) ?_
  rotate_left
  · intro w hSw
    go_simp
    all_goals with_reducible rfl
  try simp only [Act.put, List.getElem_toArray, List.getElem_cons_succ, List.getElem_cons_zero, List.setIfInBounds_toArray, List.set_cons_zero, List.set_cons_succ]
  refine wpAnyH_take (i := 25) (v := undef) rfl (by kernel_rfl) (by kernel_rfl) (by kernel_rfl) (fun _ _ _ h => h) (Or.inr ⟨by kernel_rfl, rfl⟩) (by assumption) ?_
  try simp only [Act.put, List.getElem_toArray, List.getElem_cons_succ, List.getElem_cons_zero, List.setIfInBounds_toArray, List.set_cons_zero, List.set_cons_succ]
  refine wpAnyH_take (i := 26) (v := undef) rfl (by kernel_rfl) (by kernel_rfl) (by kernel_rfl) (fun _ _ _ h => h) (Or.inr ⟨by kernel_rfl, rfl⟩) (by assumption) ?_
  try simp only [Act.put, List.getElem_toArray, List.getElem_cons_succ, List.getElem_cons_zero, List.setIfInBounds_toArray, List.set_cons_zero, List.set_cons_succ]
  refine wpAnyH_take (i := 27) (v := undef) rfl (by kernel_rfl) (by kernel_rfl) (by kernel_rfl) (fun _ _ _ h => h) (Or.inr ⟨by kernel_rfl, rfl⟩) (by assumption) ?_
  try simp only [Act.put, List.getElem_toArray, List.getElem_cons_succ, List.getElem_cons_zero, List.setIfInBounds_toArray, List.set_cons_zero, List.set_cons_succ]
  refine wpAnyH_take (i := 28) (v := undef) rfl (by kernel_rfl) (by kernel_rfl) (by kernel_rfl) (fun _ _ _ h => h) (Or.inr ⟨by kernel_rfl, rfl⟩) (by assumption) ?_
  try simp only [Act.put, List.getElem_toArray, List.getElem_cons_succ, List.getElem_cons_zero, List.setIfInBounds_toArray, List.set_cons_zero, List.set_cons_succ]
  refine wpAnyH_take (i := 29) (v := undef) rfl (by kernel_rfl) (by kernel_rfl) (by kernel_rfl) (fun _ _ _ h => h) (Or.inr ⟨by kernel_rfl, rfl⟩) (by assumption) ?_
  try simp only [Act.put, List.getElem_toArray, List.getElem_cons_succ, List.getElem_cons_zero, List.setIfInBounds_toArray, List.set_cons_zero, List.set_cons_succ]
  refine wpAnyH_take (i := 30) (v := undef) rfl (by kernel_rfl) (by kernel_rfl) (by kernel_rfl) (fun _ _ _ h => h) (Or.inr ⟨by kernel_rfl, rfl⟩) (by assumption) ?_
  try simp only [Act.put, List.getElem_toArray, List.getElem_cons_succ, List.getElem_cons_zero, List.setIfInBounds_toArray, List.set_cons_zero, List.set_cons_succ]
  refine wpAnyH_take (i := 31) (v := undef) rfl (by kernel_rfl) (by kernel_rfl) (by kernel_rfl) (fun _ _ _ h => h) (Or.inr ⟨by kernel_rfl, rfl⟩) (by assumption) ?_
  try simp only [Act.put, List.getElem_toArray, List.getElem_cons_succ, List.getElem_cons_zero, List.setIfInBounds_toArray, List.set_cons_zero, List.set_cons_succ]
  refine wpAnyH_take (i := 32) (v := undef) rfl (by kernel_rfl) (by kernel_rfl) (by kernel_rfl) (fun _ _ _ h => h) (Or.inr ⟨by kernel_rfl, rfl⟩) (by assumption) ?_
  try simp only [Act.put, List.getElem_toArray, List.getElem_cons_succ, List.getElem_cons_zero, List.setIfInBounds_toArray, List.set_cons_zero, List.set_cons_succ]
  refine wpAnyH_take (i := 33) (v := undef) rfl (by kernel_rfl) (by kernel_rfl) (by kernel_rfl) (fun _ _ _ h => h) (Or.inr ⟨by kernel_rfl, rfl⟩) (by assumption) ?_
  try simp only [Act.put, List.getElem_toArray, List.getElem_cons_succ, List.getElem_cons_zero, List.setIfInBounds_toArray, List.set_cons_zero, List.set_cons_succ]
  refine wpAnyH_take (i := 34) (v := undef) rfl (by kernel_rfl) (by kernel_rfl) (by kernel_rfl) (fun _ _ _ h => h) (Or.inr ⟨by kernel_rfl, rfl⟩) (by assumption) ?_
  try simp only [Act.put, List.getElem_toArray, List.getElem_cons_succ, List.getElem_cons_zero, List.setIfInBounds_toArray, List.set_cons_zero, List.set_cons_succ]
  refine wpAnyH_take (i := 35) (v := ?_) rfl (by kernel_rfl) (by kernel_rfl) (by kernel_rfl) (fun _ _ _ h => h) (Or.inl ⟨by kernel_rfl, ?_⟩) (by assumption) ?_
  rotate_left
  · intro w hSw
    go_simp
    all_goals with_reducible rfl
  try simp only [Act.put, List.getElem_toArray, List.getElem_cons_succ, List.getElem_cons_zero, List.setIfInBounds_toArray, List.set_cons_zero, List.set_cons_succ]
  refine wpAnyH_done (by kernel_rfl) ?_ _
  clear hHeld
  go_wp2
  go_ret
  exact ⟨rfl, kqt hbV hbD⟩
end Go.Proofs.YtpcikfpldmackaaGreatDoor
namespace Go.Proofs.YtpcikfpldmackaaGreatDoor
open Go.RowKit
set_option linter.unusedVariables false
set_option linter.unusedSimpArgs false
set_option maxRecDepth 100000

set_option maxHeartbeats 30000000 in
theorem askFits_c3 (s : Sc) (q : Rq) (pk pa pq : Option Addr) (ck ca cq : Nat) (w : World) (h : SA w s pk ck pa ca) (hq : RqArg w q pq cq) (h0 : scf s = 0) (h1 : askf q = 0) (ac : Ac) (hac : aoi s.acs q.act.i = some ac) (ht : q.act.t = actT) (e1 : hasT q.who.t ac.who = true) (e2 : hasT q.what.t ac.what = true) (e3 : hasB ac.cx q.cx = false) :
    Calls Tryz.prog 19 #[scV s pk ck pa ca, reqV q pq cq] w fun e w' => e = .returned (.int .i64 2) ∧ Below w.heap.size w w' := by
  obtain ⟨V, hV⟩ : ∃ V, V = (w.alloc (.cells #[.slice pk s.ks.length ck, .slice pa s.acs.length ca] 38)).alloc (.cells #[.string q.who.t, .string q.who.i, .string q.act.t, .string q.act.i, .string q.what.t, .string q.what.i, .slice pq q.cx.length cq] 43) := ⟨_, rfl⟩
  have hbV : Below w.heap.size w V := by rw [hV]; exact kqx
  have HB0 : Hid (Blk V w.heap.size #[.slice pk s.ks.length ck, .slice pa s.acs.length ca] 38) := by rw [hV]; exact (Blk.new w _ _ rfl).up kqx
  have HB1 : Hid (Blk V (w.heap.size + 1) #[.string q.who.t, .string q.who.i, .string q.act.t, .string q.act.i, .string q.what.t, .string q.what.i, .slice pq q.cx.length cq] 43) := by rw [hV]; refine Blk.new _ _ _ ?_; simp
  have HSA : Hid (SA V s pk ck pa ca) := h.up hbV
  have HRQ : Hid (∀ W, Below V.heap.size V W → RqArg W q pq cq) := fun W hW => ⟨hq.u0, hq.u1, hq.u2, hq.nl.up (kqt hbV hW), hq.le, hq.cm⟩
  have HC := schemaFault_any s pk pa ck ca V HSA.out
  have HQ := fun W (hW : Below V.heap.size V W) => askFaultP_any q pq cq W (HRQ.out W hW)
  have HA := fun W (hW : Below V.heap.size V W) => actOfR_any s pk pa ck ca q.act.i W (HSA.out.up hW)
  unfold scV at *
  unfold reqV at *
  clear h hq
  rw [h0] at HC
  rw [h1] at HQ
  have HK0 : Hid (∀ a ∈ s.acs, kfault a.cx = 0) := (scf_kinds h0).2
  have HVQ : Hid (vfault q.cx = 0) := askf_val h1
  have HAC0 : Hid (aoi s.acs q.act.i = some ac) := hac
  have HTT : Hid (q.act.t = actT) := ht
  clear h0 h1 hac ht
  go_enter Tryz.func19, Tryz.ntmps19
  go_wp2_with fail
  rw [← hV]
  clear hV
  refine HC.mono ?_
  rintro _ w1 ⟨rfl, hb1⟩
  have w1r0 : w1.cell? ⟨w.heap.size, 0, none⟩ = some (.slice pk s.ks.length ck) := (HB0.out.up hb1).cell 0
  have w1r1 : w1.cell? ⟨w.heap.size, 1, none⟩ = some (.slice pa s.acs.length ca) := (HB0.out.up hb1).cell 1
  have w1q0 : w1.cell? ⟨w.heap.size + 1, 0, none⟩ = some (.string q.who.t) := (HB1.out.up hb1).cell 0
  have w1q1 : w1.cell? ⟨w.heap.size + 1, 1, none⟩ = some (.string q.who.i) := (HB1.out.up hb1).cell 1
  have w1q2 : w1.cell? ⟨w.heap.size + 1, 2, none⟩ = some (.string q.act.t) := (HB1.out.up hb1).cell 2
  have w1q3 : w1.cell? ⟨w.heap.size + 1, 3, none⟩ = some (.string q.act.i) := (HB1.out.up hb1).cell 3
  have w1q4 : w1.cell? ⟨w.heap.size + 1, 4, none⟩ = some (.string q.what.t) := (HB1.out.up hb1).cell 4
  have w1q5 : w1.cell? ⟨w.heap.size + 1, 5, none⟩ = some (.string q.what.i) := (HB1.out.up hb1).cell 5
  have w1q6 : w1.cell? ⟨w.heap.size + 1, 6, none⟩ = some (.slice pq q.cx.length cq) := (HB1.out.up hb1).cell 6
  go_wp2_with fail
  refine (HQ _ hb1).mono ?_
  rintro _ w2 ⟨rfl, hb2'⟩
  have hb2 := kqt hb1 hb2'
  clear w1r0 w1r1 w1q0 w1q1 w1q2 w1q3 w1q4 w1q5 w1q6
  have w2r0 : w2.cell? ⟨w.heap.size, 0, none⟩ = some (.slice pk s.ks.length ck) := (HB0.out.up hb2).cell 0
  have w2r1 : w2.cell? ⟨w.heap.size, 1, none⟩ = some (.slice pa s.acs.length ca) := (HB0.out.up hb2).cell 1
  have w2q0 : w2.cell? ⟨w.heap.size + 1, 0, none⟩ = some (.string q.who.t) := (HB1.out.up hb2).cell 0
  have w2q1 : w2.cell? ⟨w.heap.size + 1, 1, none⟩ = some (.string q.who.i) := (HB1.out.up hb2).cell 1
  have w2q2 : w2.cell? ⟨w.heap.size + 1, 2, none⟩ = some (.string q.act.t) := (HB1.out.up hb2).cell 2
  have w2q3 : w2.cell? ⟨w.heap.size + 1, 3, none⟩ = some (.string q.act.i) := (HB1.out.up hb2).cell 3
  have w2q4 : w2.cell? ⟨w.heap.size + 1, 4, none⟩ = some (.string q.what.t) := (HB1.out.up hb2).cell 4
  have w2q5 : w2.cell? ⟨w.heap.size + 1, 5, none⟩ = some (.string q.what.i) := (HB1.out.up hb2).cell 5
  have w2q6 : w2.cell? ⟨w.heap.size + 1, 6, none⟩ = some (.slice pq q.cx.length cq) := (HB1.out.up hb2).cell 6
  go_wp2_with fail
  refine (HA _ hb2).mono ?_
  rintro _ w3 ⟨⟨n, rfl, hix⟩, hb3'⟩
  have hb3 := kqt hb2 hb3'
  clear w2r0 w2r1 w2q0 w2q1 w2q2 w2q3 w2q4 w2q5 w2q6
  clear hb1 hb2 hb2' hb3' HC HQ HA
  have x2 : w3.cell? ⟨w.heap.size + 1, 2, none⟩ = some (.string q.act.t) := (HB1.out.up hb3).cell 2
  rcases hix with ⟨hno, rfl⟩ | ⟨j, hj, hyes, rfl⟩
  · rw [HAC0.out] at hno; cases hno
  have j2 : ¬ (j : Int) < 0 := by omega
  have j3 : (0 : Int) ≤ (j : Int) := by omega
  have j1 : (j : Int) < (s.acs.length : Int) := by omega
  obtain ⟨ba, oa, p1, d1, p2, d2, pt, ct, hpa, hba, hav, g0, g1, g2, g3⟩ := HSA.out.asl.at hj
  have HKT : Hid (kfault s.acs[j].cx = 0) := HK0.out _ (List.getElem_mem _)
  have hac : s.acs[j]'hj = ac := by have := HAC0.out; rw [hyes] at this; exact Option.some.inj this
  rw [hac] at hav g1 g2 g3 HKT
  have HAV : Hid (AcV V ac p1 d1 p2 d2 pt ct) := hav
  have HSS : Hid (∀ w', Below V.heap.size V w' → w'.cell? ⟨w.heap.size, 1, none⟩ = some (.slice pa s.acs.length ca) ∧ w'.cell? ⟨w.heap.size + 1, 0, none⟩ = some (.string q.who.t) ∧ w'.cell? ⟨w.heap.size + 1, 4, none⟩ = some (.string q.what.t) ∧ w'.cell? ⟨w.heap.size + 1, 6, none⟩ = some (.slice pq q.cx.length cq) ∧ w'.cell? ⟨ba, oa + j * 4 + 1, none⟩ = some (.slice p1 ac.who.length d1) ∧ w'.cell? ⟨ba, oa + j * 4 + 2, none⟩ = some (.slice p2 ac.what.length d2) ∧ w'.cell? ⟨ba, oa + j * 4 + 3, none⟩ = some (.slice pt ac.cx.length ct)) := fun w' hb => ⟨(HB0.out.up hb).cell 1, (HB1.out.up hb).cell 0, (HB1.out.up hb).cell 4, (HB1.out.up hb).cell 6, (hb.cell (p := ⟨ba, oa + j * 4 + 1, none⟩) hba).trans g1, (hb.cell (p := ⟨ba, oa + j * 4 + 2, none⟩) hba).trans g2, (hb.cell (p := ⟨ba, oa + j * 4 + 3, none⟩) hba).trans g3⟩
  subst hpa
  have HWH := fun W (hW : Below V.heap.size V W) => amongR_any q.who.t ac.who p1 d1 W (HAV.out.us.up hW)
  have HWT := fun W (hW : Below V.heap.size V W) => amongR_any q.what.t ac.what p2 d2 W (HAV.out.vs.up hW)
  have HHK := fun W (hW : Below V.heap.size V W) => hasKindB_any ac.cx q.cx pt pq ct cq W (HAV.out.ty.up hW) ⟨(HRQ.out W hW).nl, (HRQ.out W hW).le, (HRQ.out W hW).cm⟩ HKT.out HVQ.out
  rw [HTT.out] at x2
  unfold actT at x2
  clear hac hyes hav g0 g1 g2 g3 hj
  rw [e1] at HWH
  rw [e2] at HWT
  rw [e3] at HHK
  clear e1 e2 e3
  go_wp2_with fail
  obtain ⟨D, hD⟩ : ∃ D, D = w3.drew := ⟨_, rfl⟩
  have hbD : Below V.heap.size V D := by rw [hD]; exact kqt hb3 kqx
  refine wp_region_held_drew (S := fun w' => w'.cell? ⟨w.heap.size, 1, none⟩ = some (.slice (some ⟨ba, oa, none⟩) s.acs.length ca) ∧ w'.cell? ⟨w.heap.size + 1, 0, none⟩ = some (.string q.who.t) ∧ w'.cell? ⟨w.heap.size + 1, 4, none⟩ = some (.string q.what.t) ∧ w'.cell? ⟨w.heap.size + 1, 6, none⟩ = some (.slice pq q.cx.length cq) ∧ w'.cell? ⟨ba, oa + j * 4 + 1, none⟩ = some (.slice p1 ac.who.length d1) ∧ w'.cell? ⟨ba, oa + j * 4 + 2, none⟩ = some (.slice p2 ac.what.length d2) ∧ w'.cell? ⟨ba, oa + j * 4 + 3, none⟩ = some (.slice pt ac.cx.length ct)) (by kernel_rfl) (by rw [← hD]; exact HSS.out _ hbD) (fun hHeld => ?_)
  rw [← hD] at hHeld ⊢
  clear hD
  refine wpAnyH_take (i := 0) (v := ?_) rfl (by kernel_rfl) (by kernel_rfl) (by kernel_rfl) (fun _ _ _ h => h) (Or.inl ⟨by kernel_rfl, ?_⟩) (by assumption) ?_
  rotate_left
  · intro w hSw
    go_simp
    all_goals with_reducible rfl
  try simp only [Act.put, List.getElem_toArray, List.getElem_cons_succ, List.getElem_cons_zero, List.setIfInBounds_toArray, List.set_cons_zero, List.set_cons_succ]
  refine wpAnyH_take (i := 1) (v := ?_) rfl (by kernel_rfl) (by kernel_rfl) (by kernel_rfl) (fun _ _ _ h => h) (Or.inl ⟨by kernel_rfl, ?_⟩) (by assumption) ?_
  rotate_left
  · intro w hSw
    go_simp
    all_goals with_reducible rfl
  try simp only [Act.put, List.getElem_toArray, List.getElem_cons_succ, List.getElem_cons_zero, List.setIfInBounds_toArray, List.set_cons_zero, List.set_cons_succ]
  refine wpAnyH_take (i := 2) (v := ?_) rfl (by kernel_rfl) (by kernel_rfl) (by kernel_rfl) (fun _ _ _ h => h) (Or.inl ⟨by kernel_rfl, ?_⟩) (by assumption) ?_
  rotate_left
  · intro w hSw
    go_simp
    all_goals with_reducible rfl
  try simp only [Act.put, List.getElem_toArray, List.getElem_cons_succ, List.getElem_cons_zero, List.setIfInBounds_toArray, List.set_cons_zero, List.set_cons_succ]
  refine wpAnyH_take (i := 3) (v := ?_) rfl (by kernel_rfl) (by kernel_rfl) (by kernel_rfl) (fun _ _ _ h => h) (Or.inl ⟨by kernel_rfl, ?_⟩) (by assumption) ?_
  rotate_left
  · intro w hSw
    go_simp
    all_goals with_reducible rfl
  try simp only [Act.put, List.getElem_toArray, List.getElem_cons_succ, List.getElem_cons_zero, List.setIfInBounds_toArray, List.set_cons_zero, List.set_cons_succ]
  refine wpAnyH_take (i := 4) (v := ?_) rfl (by kernel_rfl) (by kernel_rfl) (by kernel_rfl) (fun _ _ _ h => h) (Or.inl ⟨by kernel_rfl, ?_⟩) (by assumption) ?_
  rotate_left
  · intro w hSw
    go_simp
    all_goals with_reducible rfl
  try simp only [Act.put, List.getElem_toArray, List.getElem_cons_succ, List.getElem_cons_zero, List.setIfInBounds_toArray, List.set_cons_zero, List.set_cons_succ]
  refine wpAnyH_take (i := 5) (v := ?_) rfl (by kernel_rfl) (by kernel_rfl) (by kernel_rfl) (fun _ _ _ h => h) (Or.inl ⟨by kernel_rfl, ?_⟩) (by assumption) ?_
  rotate_left
  · intro w hSw
    go_simp
    all_goals with_reducible rfl
  try simp only [Act.put, List.getElem_toArray, List.getElem_cons_succ, List.getElem_cons_zero, List.setIfInBounds_toArray, List.set_cons_zero, List.set_cons_succ]
  refine wpAnyH_take (i := 6) (v := ?_) rfl (by kernel_rfl) (by kernel_rfl) (by kernel_rfl) (fun _ _ _ h => h) (Or.inl ⟨by kernel_rfl, ?_⟩) (by assumption) ?_
  rotate_left
  · intro w hSw
    go_simp
    all_goals with_reducible rfl
  try simp only [Act.put, List.getElem_toArray, List.getElem_cons_succ, List.getElem_cons_zero, List.setIfInBounds_toArray, List.set_cons_zero, List.set_cons_succ]
  refine wpAnyH_take (i := 7) (v := ?_) rfl (by kernel_rfl) (by kernel_rfl) (by kernel_rfl) (fun _ _ _ h => h) (Or.inl ⟨by kernel_rfl, ?_⟩) (by assumption) ?_
  rotate_left
  · intro w hSw
    go_simp
    all_goals with_reducible rfl
  try simp only [Act.put, List.getElem_toArray, List.getElem_cons_succ, List.getElem_cons_zero, List.setIfInBounds_toArray, List.set_cons_zero, List.set_cons_succ]
  refine wpAnyH_take (i := 8) (v := ?_) rfl (by kernel_rfl) (by kernel_rfl) (by kernel_rfl) (fun _ _ _ h => h) (Or.inl ⟨by kernel_rfl, ?_⟩) (by assumption) ?_
  rotate_left
  · intro w hSw
    go_simp
    all_goals with_reducible rfl
  try simp only [Act.put, List.getElem_toArray, List.getElem_cons_succ, List.getElem_cons_zero, List.setIfInBounds_toArray, List.set_cons_zero, List.set_cons_succ]
  refine wpAnyH_ready (rs := [9]) (by kernel_rfl) (by simp) ?_
  refine AllReadyH.cons rfl (fun K hK => ?_) AllReadyH.nil
  go_simp
  go_wp2_with fail
  refine (HWH _ hbD).mono ?_
  rintro _ _ ⟨rfl, rfl⟩
  refine hK.out _ _ (HSS.out _ hbD) (fun hHeld => ?_)
  clear hK K
  try simp only [Act.put, List.getElem_toArray, List.getElem_cons_succ, List.getElem_cons_zero, List.setIfInBounds_toArray, List.set_cons_zero, List.set_cons_succ]
  refine wpAnyH_take (i := 10) (v := ?_) rfl (by kernel_rfl) (by kernel_rfl) (by kernel_rfl) (fun _ _ _ h => h) (Or.inl ⟨by kernel_rfl, ?_⟩) (by assumption) ?_
  rotate_left
  · intro w hSw
    go_simp
    all_goals with_reducible rfl
  try simp only [Act.put, List.getElem_toArray, List.getElem_cons_succ, List.getElem_cons_zero, List.setIfInBounds_toArray, List.set_cons_zero, List.set_cons_succ]
  refine wpAnyH_take (i := 11) (v := ?_) rfl (by kernel_rfl) (by kernel_rfl) (by kernel_rfl) (fun _ _ _ h => h) (Or.inl ⟨by kernel_rfl, ?_⟩) (by assumption) ?_
  rotate_left
  · intro w hSw
    go_simp
    all_goals with_reducible rfl
  try simp only [Act.put, List.getElem_toArray, List.getElem_cons_succ, List.getElem_cons_zero, List.setIfInBounds_toArray, List.set_cons_zero, List.set_cons_succ]
  refine wpAnyH_take (i := 12) (v := ?_) rfl (by kernel_rfl) (by kernel_rfl) (by kernel_rfl) (fun _ _ _ h => h) (Or.inl ⟨by kernel_rfl, ?_⟩) (by assumption) ?_
  rotate_left
  · intro w hSw
    go_simp
    all_goals with_reducible rfl
  try simp only [Act.put, List.getElem_toArray, List.getElem_cons_succ, List.getElem_cons_zero, List.setIfInBounds_toArray, List.set_cons_zero, List.set_cons_succ]
  refine wpAnyH_take (i := 13) (v := ?_) rfl (by kernel_rfl) (by kernel_rfl) (by kernel_rfl) (fun _ _ _ h => h) (Or.inl ⟨by kernel_rfl, ?_⟩) (by assumption) ?_
  rotate_left
  · intro w hSw
    go_simp
    all_goals with_reducible rfl
  try simp only [Act.put, List.getElem_toArray, List.getElem_cons_succ, List.getElem_cons_zero, List.setIfInBounds_toArray, List.set_cons_zero, List.set_cons_succ]
  refine wpAnyH_take (i := 14) (v := ?_) rfl (by kernel_rfl) (by kernel_rfl) (by kernel_rfl) (fun _ _ _ h => h) (Or.inl ⟨by kernel_rfl, ?_⟩) (by assumption) ?_
  rotate_left
  · intro w hSw
    go_simp
    all_goals with_reducible rfl
  try simp only [Act.put, List.getElem_toArray, List.getElem_cons_succ, List.getElem_cons_zero, List.setIfInBounds_toArray, List.set_cons_zero, List.set_cons_succ]
  refine wpAnyH_take (i := 15) (v := ?_) rfl (by kernel_rfl) (by kernel_rfl) (by kernel_rfl) (fun _ _ _ h => h) (Or.inl ⟨by kernel_rfl, ?_⟩) (by assumption) ?_
  rotate_left
  · intro w hSw
    go_simp
    all_goals with_reducible rfl
  try simp only [Act.put, List.getElem_toArray, List.getElem_cons_succ, List.getElem_cons_zero, List.setIfInBounds_toArray, List.set_cons_zero, List.set_cons_succ]
  refine wpAnyH_take (i := 16) (v := ?_) rfl (by kernel_rfl) (by kernel_rfl) (by kernel_rfl) (fun _ _ _ h => h) (Or.inl ⟨by kernel_rfl, ?_⟩) (by assumption) ?_
  rotate_left
  · intro w hSw
    go_simp
    all_goals with_reducible rfl
  try simp only [Act.put, List.getElem_toArray, List.getElem_cons_succ, List.getElem_cons_zero, List.setIfInBounds_toArray, List.set_cons_zero, List.set_cons_succ]
  refine wpAnyH_take (i := 17) (v := ?_) rfl (by kernel_rfl) (by kernel_rfl) (by kernel_rfl) (fun _ _ _ h => h) (Or.inl ⟨by kernel_rfl, ?_⟩) (by assumption) ?_
  rotate_left
  · intro w hSw
    go_simp
    all_goals with_reducible rfl
  try simp only [Act.put, List.getElem_toArray, List.getElem_cons_succ, List.getElem_cons_zero, List.setIfInBounds_toArray, List.set_cons_zero, List.set_cons_succ]
  refine wpAnyH_take (i := 18) (v := ?_) rfl (by kernel_rfl) (by kernel_rfl) (by kernel_rfl) (fun _ _ _ h => h) (Or.inl ⟨by kernel_rfl, ?_⟩) (by assumption) ?_
  rotate_left
  · intro w hSw
    go_simp
    all_goals with_reducible rfl
  try simp only [Act.put, List.getElem_toArray, List.getElem_cons_succ, List.getElem_cons_zero, List.setIfInBounds_toArray, List.set_cons_zero, List.set_cons_succ]
  refine wpAnyH_take (i := 19) (v := ?_) rfl (by kernel_rfl) (by kernel_rfl) (by kernel_rfl) (fun _ _ _ h => h) (Or.inl ⟨by kernel_rfl, ?_⟩) (by assumption) ?_
  rotate_left
  · intro w hSw
    go_simp
    all_goals with_reducible rfl
  try simp only [Act.put, List.getElem_toArray, List.getElem_cons_succ, List.getElem_cons_zero, List.setIfInBounds_toArray, List.set_cons_zero, List.set_cons_succ]
  refine wpAnyH_take (i := 20) (v := ?_) rfl (by kernel_rfl) (by kernel_rfl) (by kernel_rfl) (fun _ _ _ h => h) (Or.inl ⟨by kernel_rfl, ?_⟩) (by assumption) ?_
  rotate_left
  · intro w hSw
    go_simp
    all_goals with_reducible rfl
  try simp only [Act.put, List.getElem_toArray, List.getElem_cons_succ, List.getElem_cons_zero, List.setIfInBounds_toArray, List.set_cons_zero, List.set_cons_succ]
  refine wpAnyH_ready (rs := [21]) (by kernel_rfl) (by simp) ?_
  refine AllReadyH.cons rfl (fun K hK => ?_) AllReadyH.nil
  go_simp
  go_wp2_with fail
  refine (HWT _ hbD).mono ?_
  rintro _ _ ⟨rfl, rfl⟩
  refine hK.out _ _ (HSS.out _ hbD) (fun hHeld => ?_)
  clear hK K
  try simp only [Act.put, List.getElem_toArray, List.getElem_cons_succ, List.getElem_cons_zero, List.setIfInBounds_toArray, List.set_cons_zero, List.set_cons_succ]
  refine wpAnyH_take (i := 22) (v := ?_) rfl (by kernel_rfl) (by kernel_rfl) (by kernel_rfl) (fun _ _ _ h => h) (Or.inl ⟨by kernel_rfl, ?_⟩) (by assumption) ?_
  rotate_left
  · intro w hSw
    go_simp
    all_goals with_reducible rfl
  try simp only [Act.put, List.getElem_toArray, List.getElem_cons_succ, List.getElem_cons_zero, List.setIfInBounds_toArray, List.set_cons_zero, List.set_cons_succ]
  refine wpAnyH_take (i := 23) (v := ?_) rfl (by kernel_rfl) (by kernel_rfl) (by kernel_rfl) (fun _ _ _ h => h) (Or.inl ⟨by kernel_rfl, ?_⟩) (by assumption) ?_
  rotate_left
  · intro w hSw
    go_simp
    all_goals with_reducible rfl
  try simp only [Act.put, List.getElem_toArray, List.getElem_cons_succ, List.getElem_cons_zero, List.setIfInBounds_toArray, List.set_cons_zero, List.set_cons_succ]
  refine wpAnyH_take (i := 24) (v := ?_) rfl (by kernel_rfl) (by kernel_rfl) (by kernel_rfl) (fun _ _ _ h => h) (Or.inl ⟨by kernel_rfl, ?_⟩) (by assumption) ?_
  rotate_left
  · intro w hSw
    go_simp
    all_goals with_reducible rfl
  try simp only [Act.put, List.getElem_toArray, List.getElem_cons_succ, List.getElem_cons_zero, List.setIfInBounds_toArray, List.set_cons_zero, List.set_cons_succ]
  refine wpAnyH_take (i := 25) (v := ?_) rfl (by kernel_rfl) (by kernel_rfl) (by kernel_rfl) (fun _ _ _ h => h) (Or.inl ⟨by kernel_rfl, ?_⟩) (by assumption) ?_
  rotate_left
  · intro w hSw
    go_simp
    all_goals with_reducible rfl
  try simp only [Act.put, List.getElem_toArray, List.getElem_cons_succ, List.getElem_cons_zero, List.setIfInBounds_toArray, List.set_cons_zero, List.set_cons_succ]
  refine wpAnyH_take (i := 26) (v := ?_) rfl (by kernel_rfl) (by kernel_rfl) (by kernel_rfl) (fun _ _ _ h => h) (Or.inl ⟨by kernel_rfl, ?_⟩) (by assumption) ?_
  rotate_left
  · intro w hSw
    go_simp
    all_goals with_reducible rfl
  try simp only [Act.put, List.getElem_toArray, List.getElem_cons_succ, List.getElem_cons_zero, List.setIfInBounds_toArray, List.set_cons_zero, List.set_cons_succ]
  refine wpAnyH_take (i := 27) (v := ?_) rfl (by kernel_rfl) (by kernel_rfl) (by kernel_rfl) (fun _ _ _ h => h) (Or.inl ⟨by kernel_rfl, ?_⟩) (by assumption) ?_
  rotate_left
  · intro w hSw
    go_simp
    all_goals with_reducible rfl
  try simp only [Act.put, List.getElem_toArray, List.getElem_cons_succ, List.getElem_cons_zero, List.setIfInBounds_toArray, List.set_cons_zero, List.set_cons_succ]
  refine wpAnyH_take (i := 28) (v := ?_) rfl (by kernel_rfl) (by kernel_rfl) (by kernel_rfl) (fun _ _ _ h => h) (Or.inl ⟨by kernel_rfl, ?_⟩) (by assumption) ?_
  rotate_left
  · intro w hSw
    go_simp
    all_goals with_reducible rfl
  try simp only [Act.put, List.getElem_toArray, List.getElem_cons_succ, List.getElem_cons_zero, List.setIfInBounds_toArray, List.set_cons_zero, List.set_cons_succ]
  refine wpAnyH_take (i := 29) (v := ?_) rfl (by kernel_rfl) (by kernel_rfl) (by kernel_rfl) (fun _ _ _ h => h) (Or.inl ⟨by kernel_rfl, ?_⟩) (by assumption) ?_
  rotate_left
  · intro w hSw
    go_simp
    all_goals with_reducible rfl
  try simp only [Act.put, List.getElem_toArray, List.getElem_cons_succ, List.getElem_cons_zero, List.setIfInBounds_toArray, List.set_cons_zero, List.set_cons_succ]
  refine wpAnyH_take (i := 30) (v := ?_) rfl (by kernel_rfl) (by kernel_rfl) (by kernel_rfl) (fun _ _ _ h => h) (Or.inl ⟨by kernel_rfl, ?_⟩) (by assumption) ?_
  rotate_left
  · intro w hSw
    go_simp
    all_goals with_reducible rfl
  try simp only [Act.put, List.getElem_toArray, List.getElem_cons_succ, List.getElem_cons_zero, List.setIfInBounds_toArray, List.set_cons_zero, List.set_cons_succ]
  refine wpAnyH_take (i := 31) (v := ?_) rfl (by kernel_rfl) (by kernel_rfl) (by kernel_rfl) (fun _ _ _ h => h) (Or.inl ⟨by kernel_rfl, ?_⟩) (by assumption) ?_
  rotate_left
  · intro w hSw
    go_simp
    all_goals with_reducible rfl
  try simp only [Act.put, List.getElem_toArray, List.getElem_cons_succ, List.getElem_cons_zero, List.setIfInBounds_toArray, List.set_cons_zero, List.set_cons_succ]
  refine wpAnyH_take (i := 32) (v := ?_) rfl (by kernel_rfl) (by kernel_rfl) (by kernel_rfl) (fun _ _ _ h => h) (Or.inl ⟨by kernel_rfl, ?_⟩) (by assumption) ?_
  rotate_left
  · intro w hSw
    go_simp
    all_goals with_reducible rfl
  try simp only [Act.put, List.getElem_toArray, List.getElem_cons_succ, List.getElem_cons_zero, List.setIfInBounds_toArray, List.set_cons_zero, List.set_cons_succ]
  refine wpAnyH_ready (rs := [33]) (by kernel_rfl) (by simp) ?_
  refine AllReadyH.cons rfl (fun K hK => ?_) AllReadyH.nil
  go_simp
  go_wp2_with fail
  refine (HHK _ hbD).mono ?_
  rintro _ w5 ⟨rfl, hb5'⟩
  have hb5 : Below V.heap.size V w5 := kqt hbD hb5'
  refine hK.out _ _ (HSS.out _ hb5) (fun hHeld => ?_)
  clear hK K
  try simp only [Act.put, List.getElem_toArray, List.getElem_cons_succ, List.getElem_cons_zero, List.setIfInBounds_toArray, List.set_cons_zero, List.set_cons_succ]
  refine wpAnyH_take (i := 34) (v := ?_) rfl (by kernel_rfl) (by kernel_rfl) (by kernel_rfl) (fun _ _ _ h => h) (Or.inl ⟨by kernel_rfl, ?_⟩) (by assumption) ?_
  rotate_left
  · intro w hSw
    go_simp
    all_goals with_reducible rfl
  try simp only [Act.put, List.getElem_toArray, List.getElem_cons_succ, List.getElem_cons_zero, List.setIfInBounds_toArray, List.set_cons_zero, List.set_cons_succ]
  refine wpAnyH_take (i := 35) (v := ?_) rfl (by kernel_rfl) (by kernel_rfl) (by kernel_rfl) (fun _ _ _ h => h) (Or.inl ⟨by kernel_rfl, ?_⟩) (by assumption) ?_
  rotate_left
  · intro w hSw
    go_simp
    all_goals with_reducible rfl
  try simp only [Act.put, List.getElem_toArray, List.getElem_cons_succ, List.getElem_cons_zero, List.setIfInBounds_toArray, List.set_cons_zero, List.set_cons_succ]
  refine wpAnyH_done (by kernel_rfl) ?_ _
  clear hHeld
  go_wp2
  go_ret
  exact ⟨rfl, kqt hbV hb5⟩
end Go.Proofs.YtpcikfpldmackaaGreatDoor
namespace Go.Proofs.YtpcikfpldmackaaGreatDoor
open Go.RowKit
set_option linter.unusedVariables false
set_option linter.unusedSimpArgs false
set_option maxRecDepth 100000

set_option maxHeartbeats 30000000 in
theorem askFits_c4 (s : Sc) (q : Rq) (pk pa pq : Option Addr) (ck ca cq : Nat) (w : World) (h : SA w s pk ck pa ca) (hq : RqArg w q pq cq) (h0 : scf s = 0) (h1 : askf q = 0) (ac : Ac) (hac : aoi s.acs q.act.i = some ac) (ht : q.act.t = actT) (e1 : hasT q.who.t ac.who = true) (e2 : hasT q.what.t ac.what = true) (e3 : hasB ac.cx q.cx = true) :
    Calls Tryz.prog 19 #[scV s pk ck pa ca, reqV q pq cq] w fun e w' => e = .returned (.int .i64 0) ∧ Below w.heap.size w w' := by
  obtain ⟨V, hV⟩ : ∃ V, V = (w.alloc (.cells #[.slice pk s.ks.length ck, .slice pa s.acs.length ca] 38)).alloc (.cells #[.string q.who.t, .string q.who.i, .string q.act.t, .string q.act.i, .string q.what.t, .string q.what.i, .slice pq q.cx.length cq] 43) := ⟨_, rfl⟩
  have hbV : Below w.heap.size w V := by rw [hV]; exact kqx
  have HB0 : Hid (Blk V w.heap.size #[.slice pk s.ks.length ck, .slice pa s.acs.length ca] 38) := by rw [hV]; exact (Blk.new w _ _ rfl).up kqx
  have HB1 : Hid (Blk V (w.heap.size + 1) #[.string q.who.t, .string q.who.i, .string q.act.t, .string q.act.i, .string q.what.t, .string q.what.i, .slice pq q.cx.length cq] 43) := by rw [hV]; refine Blk.new _ _ _ ?_; simp
  have HSA : Hid (SA V s pk ck pa ca) := h.up hbV
  have HRQ : Hid (∀ W, Below V.heap.size V W → RqArg W q pq cq) := fun W hW => ⟨hq.u0, hq.u1, hq.u2, hq.nl.up (kqt hbV hW), hq.le, hq.cm⟩
  have HC := schemaFault_any s pk pa ck ca V HSA.out
  have HQ := fun W (hW : Below V.heap.size V W) => askFaultP_any q pq cq W (HRQ.out W hW)
  have HA := fun W (hW : Below V.heap.size V W) => actOfR_any s pk pa ck ca q.act.i W (HSA.out.up hW)
  unfold scV at *
  unfold reqV at *
  clear h hq
  rw [h0] at HC
  rw [h1] at HQ
  have HK0 : Hid (∀ a ∈ s.acs, kfault a.cx = 0) := (scf_kinds h0).2
  have HVQ : Hid (vfault q.cx = 0) := askf_val h1
  have HAC0 : Hid (aoi s.acs q.act.i = some ac) := hac
  have HTT : Hid (q.act.t = actT) := ht
  clear h0 h1 hac ht
  go_enter Tryz.func19, Tryz.ntmps19
  go_wp2_with fail
  rw [← hV]
  clear hV
  refine HC.mono ?_
  rintro _ w1 ⟨rfl, hb1⟩
  have w1r0 : w1.cell? ⟨w.heap.size, 0, none⟩ = some (.slice pk s.ks.length ck) := (HB0.out.up hb1).cell 0
  have w1r1 : w1.cell? ⟨w.heap.size, 1, none⟩ = some (.slice pa s.acs.length ca) := (HB0.out.up hb1).cell 1
  have w1q0 : w1.cell? ⟨w.heap.size + 1, 0, none⟩ = some (.string q.who.t) := (HB1.out.up hb1).cell 0
  have w1q1 : w1.cell? ⟨w.heap.size + 1, 1, none⟩ = some (.string q.who.i) := (HB1.out.up hb1).cell 1
  have w1q2 : w1.cell? ⟨w.heap.size + 1, 2, none⟩ = some (.string q.act.t) := (HB1.out.up hb1).cell 2
  have w1q3 : w1.cell? ⟨w.heap.size + 1, 3, none⟩ = some (.string q.act.i) := (HB1.out.up hb1).cell 3
  have w1q4 : w1.cell? ⟨w.heap.size + 1, 4, none⟩ = some (.string q.what.t) := (HB1.out.up hb1).cell 4
  have w1q5 : w1.cell? ⟨w.heap.size + 1, 5, none⟩ = some (.string q.what.i) := (HB1.out.up hb1).cell 5
  have w1q6 : w1.cell? ⟨w.heap.size + 1, 6, none⟩ = some (.slice pq q.cx.length cq) := (HB1.out.up hb1).cell 6
  go_wp2_with fail
  refine (HQ _ hb1).mono ?_
  rintro _ w2 ⟨rfl, hb2'⟩
  have hb2 := kqt hb1 hb2'
  clear w1r0 w1r1 w1q0 w1q1 w1q2 w1q3 w1q4 w1q5 w1q6
  have w2r0 : w2.cell? ⟨w.heap.size, 0, none⟩ = some (.slice pk s.ks.length ck) := (HB0.out.up hb2).cell 0
  have w2r1 : w2.cell? ⟨w.heap.size, 1, none⟩ = some (.slice pa s.acs.length ca) := (HB0.out.up hb2).cell 1
  have w2q0 : w2.cell? ⟨w.heap.size + 1, 0, none⟩ = some (.string q.who.t) := (HB1.out.up hb2).cell 0
  have w2q1 : w2.cell? ⟨w.heap.size + 1, 1, none⟩ = some (.string q.who.i) := (HB1.out.up hb2).cell 1
  have w2q2 : w2.cell? ⟨w.heap.size + 1, 2, none⟩ = some (.string q.act.t) := (HB1.out.up hb2).cell 2
  have w2q3 : w2.cell? ⟨w.heap.size + 1, 3, none⟩ = some (.string q.act.i) := (HB1.out.up hb2).cell 3
  have w2q4 : w2.cell? ⟨w.heap.size + 1, 4, none⟩ = some (.string q.what.t) := (HB1.out.up hb2).cell 4
  have w2q5 : w2.cell? ⟨w.heap.size + 1, 5, none⟩ = some (.string q.what.i) := (HB1.out.up hb2).cell 5
  have w2q6 : w2.cell? ⟨w.heap.size + 1, 6, none⟩ = some (.slice pq q.cx.length cq) := (HB1.out.up hb2).cell 6
  go_wp2_with fail
  refine (HA _ hb2).mono ?_
  rintro _ w3 ⟨⟨n, rfl, hix⟩, hb3'⟩
  have hb3 := kqt hb2 hb3'
  clear w2r0 w2r1 w2q0 w2q1 w2q2 w2q3 w2q4 w2q5 w2q6
  clear hb1 hb2 hb2' hb3' HC HQ HA
  have x2 : w3.cell? ⟨w.heap.size + 1, 2, none⟩ = some (.string q.act.t) := (HB1.out.up hb3).cell 2
  rcases hix with ⟨hno, rfl⟩ | ⟨j, hj, hyes, rfl⟩
  · rw [HAC0.out] at hno; cases hno
  have j2 : ¬ (j : Int) < 0 := by omega
  have j3 : (0 : Int) ≤ (j : Int) := by omega
  have j1 : (j : Int) < (s.acs.length : Int) := by omega
  obtain ⟨ba, oa, p1, d1, p2, d2, pt, ct, hpa, hba, hav, g0, g1, g2, g3⟩ := HSA.out.asl.at hj
  have HKT : Hid (kfault s.acs[j].cx = 0) := HK0.out _ (List.getElem_mem _)
  have hac : s.acs[j]'hj = ac := by have := HAC0.out; rw [hyes] at this; exact Option.some.inj this
  rw [hac] at hav g1 g2 g3 HKT
  have HAV : Hid (AcV V ac p1 d1 p2 d2 pt ct) := hav
  have HSS : Hid (∀ w', Below V.heap.size V w' → w'.cell? ⟨w.heap.size, 1, none⟩ = some (.slice pa s.acs.length ca) ∧ w'.cell? ⟨w.heap.size + 1, 0, none⟩ = some (.string q.who.t) ∧ w'.cell? ⟨w.heap.size + 1, 4, none⟩ = some (.string q.what.t) ∧ w'.cell? ⟨w.heap.size + 1, 6, none⟩ = some (.slice pq q.cx.length cq) ∧ w'.cell? ⟨ba, oa + j * 4 + 1, none⟩ = some (.slice p1 ac.who.length d1) ∧ w'.cell? ⟨ba, oa + j * 4 + 2, none⟩ = some (.slice p2 ac.what.length d2) ∧ w'.cell? ⟨ba, oa + j * 4 + 3, none⟩ = some (.slice pt ac.cx.length ct)) := fun w' hb => ⟨(HB0.out.up hb).cell 1, (HB1.out.up hb).cell 0, (HB1.out.up hb).cell 4, (HB1.out.up hb).cell 6, (hb.cell (p := ⟨ba, oa + j * 4 + 1, none⟩) hba).trans g1, (hb.cell (p := ⟨ba, oa + j * 4 + 2, none⟩) hba).trans g2, (hb.cell (p := ⟨ba, oa + j * 4 + 3, none⟩) hba).trans g3⟩
  subst hpa
  have HWH := fun W (hW : Below V.heap.size V W) => amongR_any q.who.t ac.who p1 d1 W (HAV.out.us.up hW)
  have HWT := fun W (hW : Below V.heap.size V W) => amongR_any q.what.t ac.what p2 d2 W (HAV.out.vs.up hW)
  have HHK := fun W (hW : Below V.heap.size V W) => hasKindB_any ac.cx q.cx pt pq ct cq W (HAV.out.ty.up hW) ⟨(HRQ.out W hW).nl, (HRQ.out W hW).le, (HRQ.out W hW).cm⟩ HKT.out HVQ.out
  rw [HTT.out] at x2
  unfold actT at x2
  clear hac hyes hav g0 g1 g2 g3 hj
  rw [e1] at HWH
  rw [e2] at HWT
  rw [e3] at HHK
  clear e1 e2 e3
  go_wp2_with fail
  obtain ⟨D, hD⟩ : ∃ D, D = w3.drew := ⟨_, rfl⟩
  have hbD : Below V.heap.size V D := by rw [hD]; exact kqt hb3 kqx
  refine wp_region_held_drew (S := fun w' => w'.cell? ⟨w.heap.size, 1, none⟩ = some (.slice (some ⟨ba, oa, none⟩) s.acs.length ca) ∧ w'.cell? ⟨w.heap.size + 1, 0, none⟩ = some (.string q.who.t) ∧ w'.cell? ⟨w.heap.size + 1, 4, none⟩ = some (.string q.what.t) ∧ w'.cell? ⟨w.heap.size + 1, 6, none⟩ = some (.slice pq q.cx.length cq) ∧ w'.cell? ⟨ba, oa + j * 4 + 1, none⟩ = some (.slice p1 ac.who.length d1) ∧ w'.cell? ⟨ba, oa + j * 4 + 2, none⟩ = some (.slice p2 ac.what.length d2) ∧ w'.cell? ⟨ba, oa + j * 4 + 3, none⟩ = some (.slice pt ac.cx.length ct)) (by kernel_rfl) (by rw [← hD]; exact HSS.out _ hbD) (fun hHeld => ?_)
  rw [← hD] at hHeld ⊢
  clear hD
  refine wpAnyH_take (i := 0) (v := ?_) rfl (by kernel_rfl) (by kernel_rfl) (by kernel_rfl) (fun _ _ _ h => h) (Or.inl ⟨by kernel_rfl, ?_⟩) (by assumption) ?_
  rotate_left
  · intro w hSw
    go_simp
    all_goals with_reducible rfl
  try simp only [Act.put, List.getElem_toArray, List.getElem_cons_succ, List.getElem_cons_zero, List.setIfInBounds_toArray, List.set_cons_zero, List.set_cons_succ]
  refine wpAnyH_take (i := 1) (v := ?_) rfl (by kernel_rfl) (by kernel_rfl) (by kernel_rfl) (fun _ _ _ h => h) (Or.inl ⟨by kernel_rfl, ?_⟩) (by assumption) ?_
  rotate_left
  · intro w hSw
    go_simp
    all_goals with_reducible rfl
  try simp only [Act.put, List.getElem_toArray, List.getElem_cons_succ, List.getElem_cons_zero, List.setIfInBounds_toArray, List.set_cons_zero, List.set_cons_succ]
  refine wpAnyH_take (i := 2) (v := ?_) rfl (by kernel_rfl) (by kernel_rfl) (by kernel_rfl) (fun _ _ _ h => h) (Or.inl ⟨by kernel_rfl, ?_⟩) (by assumption) ?_
  rotate_left
  · intro w hSw
    go_simp
    all_goals with_reducible rfl
  try simp only [Act.put, List.getElem_toArray, List.getElem_cons_succ, List.getElem_cons_zero, List.setIfInBounds_toArray, List.set_cons_zero, List.set_cons_succ]
  refine wpAnyH_take (i := 3) (v := ?_) rfl (by kernel_rfl) (by kernel_rfl) (by kernel_rfl) (fun _ _ _ h => h) (Or.inl ⟨by kernel_rfl, ?_⟩) (by assumption) ?_
  rotate_left
  · intro w hSw
    go_simp
    all_goals with_reducible rfl
  try simp only [Act.put, List.getElem_toArray, List.getElem_cons_succ, List.getElem_cons_zero, List.setIfInBounds_toArray, List.set_cons_zero, List.set_cons_succ]
  refine wpAnyH_take (i := 4) (v := ?_) rfl (by kernel_rfl) (by kernel_rfl) (by kernel_rfl) (fun _ _ _ h => h) (Or.inl ⟨by kernel_rfl, ?_⟩) (by assumption) ?_
  rotate_left
  · intro w hSw
    go_simp
    all_goals with_reducible rfl
  try simp only [Act.put, List.getElem_toArray, List.getElem_cons_succ, List.getElem_cons_zero, List.setIfInBounds_toArray, List.set_cons_zero, List.set_cons_succ]
  refine wpAnyH_take (i := 5) (v := ?_) rfl (by kernel_rfl) (by kernel_rfl) (by kernel_rfl) (fun _ _ _ h => h) (Or.inl ⟨by kernel_rfl, ?_⟩) (by assumption) ?_
  rotate_left
  · intro w hSw
    go_simp
    all_goals with_reducible rfl
  try simp only [Act.put, List.getElem_toArray, List.getElem_cons_succ, List.getElem_cons_zero, List.setIfInBounds_toArray, List.set_cons_zero, List.set_cons_succ]
  refine wpAnyH_take (i := 6) (v := ?_) rfl (by kernel_rfl) (by kernel_rfl) (by kernel_rfl) (fun _ _ _ h => h) (Or.inl ⟨by kernel_rfl, ?_⟩) (by assumption) ?_
  rotate_left
  · intro w hSw
    go_simp
    all_goals with_reducible rfl
  try simp only [Act.put, List.getElem_toArray, List.getElem_cons_succ, List.getElem_cons_zero, List.setIfInBounds_toArray, List.set_cons_zero, List.set_cons_succ]
  refine wpAnyH_take (i := 7) (v := ?_) rfl (by kernel_rfl) (by kernel_rfl) (by kernel_rfl) (fun _ _ _ h => h) (Or.inl ⟨by kernel_rfl, ?_⟩) (by assumption) ?_
  rotate_left
  · intro w hSw
    go_simp
    all_goals with_reducible rfl
  try simp only [Act.put, List.getElem_toArray, List.getElem_cons_succ, List.getElem_cons_zero, List.setIfInBounds_toArray, List.set_cons_zero, List.set_cons_succ]
  refine wpAnyH_take (i := 8) (v := ?_) rfl (by kernel_rfl) (by kernel_rfl) (by kernel_rfl) (fun _ _ _ h => h) (Or.inl ⟨by kernel_rfl, ?_⟩) (by assumption) ?_
  rotate_left
  · intro w hSw
    go_simp
    all_goals with_reducible rfl
  try simp only [Act.put, List.getElem_toArray, List.getElem_cons_succ, List.getElem_cons_zero, List.setIfInBounds_toArray, List.set_cons_zero, List.set_cons_succ]
  refine wpAnyH_ready (rs := [9]) (by kernel_rfl) (by simp) ?_
  refine AllReadyH.cons rfl (fun K hK => ?_) AllReadyH.nil
  go_simp
  go_wp2_with fail
  refine (HWH _ hbD).mono ?_
  rintro _ _ ⟨rfl, rfl⟩
  refine hK.out _ _ (HSS.out _ hbD) (fun hHeld => ?_)
  clear hK K
  try simp only [Act.put, List.getElem_toArray, List.getElem_cons_succ, List.getElem_cons_zero, List.setIfInBounds_toArray, List.set_cons_zero, List.set_cons_succ]
  refine wpAnyH_take (i := 10) (v := ?_) rfl (by kernel_rfl) (by kernel_rfl) (by kernel_rfl) (fun _ _ _ h => h) (Or.inl ⟨by kernel_rfl, ?_⟩) (by assumption) ?_
  rotate_left
  · intro w hSw
    go_simp
    all_goals with_reducible rfl
  try simp only [Act.put, List.getElem_toArray, List.getElem_cons_succ, List.getElem_cons_zero, List.setIfInBounds_toArray, List.set_cons_zero, List.set_cons_succ]
  refine wpAnyH_take (i := 11) (v := ?_) rfl (by kernel_rfl) (by kernel_rfl) (by kernel_rfl) (fun _ _ _ h => h) (Or.inl ⟨by kernel_rfl, ?_⟩) (by assumption) ?_
  rotate_left
  · intro w hSw
    go_simp
    all_goals with_reducible rfl
  try simp only [Act.put, List.getElem_toArray, List.getElem_cons_succ, List.getElem_cons_zero, List.setIfInBounds_toArray, List.set_cons_zero, List.set_cons_succ]
  refine wpAnyH_take (i := 12) (v := ?_) rfl (by kernel_rfl) (by kernel_rfl) (by kernel_rfl) (fun _ _ _ h => h) (Or.inl ⟨by kernel_rfl, ?_⟩) (by assumption) ?_
  rotate_left
  · intro w hSw
    go_simp
    all_goals with_reducible rfl
  try simp only [Act.put, List.getElem_toArray, List.getElem_cons_succ, List.getElem_cons_zero, List.setIfInBounds_toArray, List.set_cons_zero, List.set_cons_succ]
  refine wpAnyH_take (i := 13) (v := ?_) rfl (by kernel_rfl) (by kernel_rfl) (by kernel_rfl) (fun _ _ _ h => h) (Or.inl ⟨by kernel_rfl, ?_⟩) (by assumption) ?_
  rotate_left
  · intro w hSw
    go_simp
    all_goals with_reducible rfl
  try simp only [Act.put, List.getElem_toArray, List.getElem_cons_succ, List.getElem_cons_zero, List.setIfInBounds_toArray, List.set_cons_zero, List.set_cons_succ]
  refine wpAnyH_take (i := 14) (v := ?_) rfl (by kernel_rfl) (by kernel_rfl) (by kernel_rfl) (fun _ _ _ h => h) (Or.inl ⟨by kernel_rfl, ?_⟩) (by assumption) ?_
  rotate_left
  · intro w hSw
    go_simp
    all_goals with_reducible rfl
  try simp only [Act.put, List.getElem_toArray, List.getElem_cons_succ, List.getElem_cons_zero, List.setIfInBounds_toArray, List.set_cons_zero, List.set_cons_succ]
  refine wpAnyH_take (i := 15) (v := ?_) rfl (by kernel_rfl) (by kernel_rfl) (by kernel_rfl) (fun _ _ _ h => h) (Or.inl ⟨by kernel_rfl, ?_⟩) (by assumption) ?_
  rotate_left
  · intro w hSw
    go_simp
    all_goals with_reducible rfl
  try simp only [Act.put, List.getElem_toArray, List.getElem_cons_succ, List.getElem_cons_zero, List.setIfInBounds_toArray, List.set_cons_zero, List.set_cons_succ]
  refine wpAnyH_take (i := 16) (v := ?_) rfl (by kernel_rfl) (by kernel_rfl) (by kernel_rfl) (fun _ _ _ h => h) (Or.inl ⟨by kernel_rfl, ?_⟩) (by assumption) ?_
  rotate_left
  · intro w hSw
    go_simp
    all_goals with_reducible rfl
  try simp only [Act.put, List.getElem_toArray, List.getElem_cons_succ, List.getElem_cons_zero, List.setIfInBounds_toArray, List.set_cons_zero, List.set_cons_succ]
  refine wpAnyH_take (i := 17) (v := ?_) rfl (by kernel_rfl) (by kernel_rfl) (by kernel_rfl) (fun _ _ _ h => h) (Or.inl ⟨by kernel_rfl, ?_⟩) (by assumption) ?_
  rotate_left
  · intro w hSw
    go_simp
    all_goals with_reducible rfl
  try simp only [Act.put, List.getElem_toArray, List.getElem_cons_succ, List.getElem_cons_zero, List.setIfInBounds_toArray, List.set_cons_zero, List.set_cons_succ]
  refine wpAnyH_take (i := 18) (v := ?_) rfl (by kernel_rfl) (by kernel_rfl) (by kernel_rfl) (fun _ _ _ h => h) (Or.inl ⟨by kernel_rfl, ?_⟩) (by assumption) ?_
  rotate_left
  · intro w hSw
    go_simp
    all_goals with_reducible rfl
  try simp only [Act.put, List.getElem_toArray, List.getElem_cons_succ, List.getElem_cons_zero, List.setIfInBounds_toArray, List.set_cons_zero, List.set_cons_succ]
  refine wpAnyH_take (i := 19) (v := ?_) rfl (by kernel_rfl) (by kernel_rfl) (by kernel_rfl) (fun _ _ _ h => h) (Or.inl ⟨by kernel_rfl, ?_⟩) (by assumption) ?_
  rotate_left
  · intro w hSw
    go_simp
    all_goals with_reducible rfl
  try simp only [Act.put, List.getElem_toArray, List.getElem_cons_succ, List.getElem_cons_zero, List.setIfInBounds_toArray, List.set_cons_zero, List.set_cons_succ]
  refine wpAnyH_take (i := 20) (v := ?_) rfl (by kernel_rfl) (by kernel_rfl) (by kernel_rfl) (fun _ _ _ h => h) (Or.inl ⟨by kernel_rfl, ?_⟩) (by assumption) ?_
  rotate_left
  · intro w hSw
    go_simp
    all_goals with_reducible rfl
  try simp only [Act.put, List.getElem_toArray, List.getElem_cons_succ, List.getElem_cons_zero, List.setIfInBounds_toArray, List.set_cons_zero, List.set_cons_succ]
  refine wpAnyH_ready (rs := [21]) (by kernel_rfl) (by simp) ?_
  refine AllReadyH.cons rfl (fun K hK => ?_) AllReadyH.nil
  go_simp
  go_wp2_with fail
  refine (HWT _ hbD).mono ?_
  rintro _ _ ⟨rfl, rfl⟩
  refine hK.out _ _ (HSS.out _ hbD) (fun hHeld => ?_)
  clear hK K
  try simp only [Act.put, List.getElem_toArray, List.getElem_cons_succ, List.getElem_cons_zero, List.setIfInBounds_toArray, List.set_cons_zero, List.set_cons_succ]
  refine wpAnyH_take (i := 22) (v := ?_) rfl (by kernel_rfl) (by kernel_rfl) (by kernel_rfl) (fun _ _ _ h => h) (Or.inl ⟨by kernel_rfl, ?_⟩) (by assumption) ?_
  rotate_left
  · intro w hSw
    go_simp
    all_goals with_reducible rfl
  try simp only [Act.put, List.getElem_toArray, List.getElem_cons_succ, List.getElem_cons_zero, List.setIfInBounds_toArray, List.set_cons_zero, List.set_cons_succ]
  refine wpAnyH_take (i := 23) (v := ?_) rfl (by kernel_rfl) (by kernel_rfl) (by kernel_rfl) (fun _ _ _ h => h) (Or.inl ⟨by kernel_rfl, ?_⟩) (by assumption) ?_
  rotate_left
  · intro w hSw
    go_simp
    all_goals with_reducible rfl
  try simp only [Act.put, List.getElem_toArray, List.getElem_cons_succ, List.getElem_cons_zero, List.setIfInBounds_toArray, List.set_cons_zero, List.set_cons_succ]
  refine wpAnyH_take (i := 24) (v := ?_) rfl (by kernel_rfl) (by kernel_rfl) (by kernel_rfl) (fun _ _ _ h => h) (Or.inl ⟨by kernel_rfl, ?_⟩) (by assumption) ?_
  rotate_left
  · intro w hSw
    go_simp
    all_goals with_reducible rfl
  try simp only [Act.put, List.getElem_toArray, List.getElem_cons_succ, List.getElem_cons_zero, List.setIfInBounds_toArray, List.set_cons_zero, List.set_cons_succ]
  refine wpAnyH_take (i := 25) (v := ?_) rfl (by kernel_rfl) (by kernel_rfl) (by kernel_rfl) (fun _ _ _ h => h) (Or.inl ⟨by kernel_rfl, ?_⟩) (by assumption) ?_
  rotate_left
  · intro w hSw
    go_simp
    all_goals with_reducible rfl
  try simp only [Act.put, List.getElem_toArray, List.getElem_cons_succ, List.getElem_cons_zero, List.setIfInBounds_toArray, List.set_cons_zero, List.set_cons_succ]
  refine wpAnyH_take (i := 26) (v := ?_) rfl (by kernel_rfl) (by kernel_rfl) (by kernel_rfl) (fun _ _ _ h => h) (Or.inl ⟨by kernel_rfl, ?_⟩) (by assumption) ?_
  rotate_left
  · intro w hSw
    go_simp
    all_goals with_reducible rfl
  try simp only [Act.put, List.getElem_toArray, List.getElem_cons_succ, List.getElem_cons_zero, List.setIfInBounds_toArray, List.set_cons_zero, List.set_cons_succ]
  refine wpAnyH_take (i := 27) (v := ?_) rfl (by kernel_rfl) (by kernel_rfl) (by kernel_rfl) (fun _ _ _ h => h) (Or.inl ⟨by kernel_rfl, ?_⟩) (by assumption) ?_
  rotate_left
  · intro w hSw
    go_simp
    all_goals with_reducible rfl
  try simp only [Act.put, List.getElem_toArray, List.getElem_cons_succ, List.getElem_cons_zero, List.setIfInBounds_toArray, List.set_cons_zero, List.set_cons_succ]
  refine wpAnyH_take (i := 28) (v := ?_) rfl (by kernel_rfl) (by kernel_rfl) (by kernel_rfl) (fun _ _ _ h => h) (Or.inl ⟨by kernel_rfl, ?_⟩) (by assumption) ?_
  rotate_left
  · intro w hSw
    go_simp
    all_goals with_reducible rfl
  try simp only [Act.put, List.getElem_toArray, List.getElem_cons_succ, List.getElem_cons_zero, List.setIfInBounds_toArray, List.set_cons_zero, List.set_cons_succ]
  refine wpAnyH_take (i := 29) (v := ?_) rfl (by kernel_rfl) (by kernel_rfl) (by kernel_rfl) (fun _ _ _ h => h) (Or.inl ⟨by kernel_rfl, ?_⟩) (by assumption) ?_
  rotate_left
  · intro w hSw
    go_simp
    all_goals with_reducible rfl
  try simp only [Act.put, List.getElem_toArray, List.getElem_cons_succ, List.getElem_cons_zero, List.setIfInBounds_toArray, List.set_cons_zero, List.set_cons_succ]
  refine wpAnyH_take (i := 30) (v := ?_) rfl (by kernel_rfl) (by kernel_rfl) (by kernel_rfl) (fun _ _ _ h => h) (Or.inl ⟨by kernel_rfl, ?_⟩) (by assumption) ?_
  rotate_left
  · intro w hSw
    go_simp
    all_goals with_reducible rfl
  try simp only [Act.put, List.getElem_toArray, List.getElem_cons_succ, List.getElem_cons_zero, List.setIfInBounds_toArray, List.set_cons_zero, List.set_cons_succ]
  refine wpAnyH_take (i := 31) (v := ?_) rfl (by kernel_rfl) (by kernel_rfl) (by kernel_rfl) (fun _ _ _ h => h) (Or.inl ⟨by kernel_rfl, ?_⟩) (by assumption) ?_
  rotate_left
  · intro w hSw
    go_simp
    all_goals with_reducible rfl
  try simp only [Act.put, List.getElem_toArray, List.getElem_cons_succ, List.getElem_cons_zero, List.setIfInBounds_toArray, List.set_cons_zero, List.set_cons_succ]
  refine wpAnyH_take (i := 32) (v := ?_) rfl (by kernel_rfl) (by kernel_rfl) (by kernel_rfl) (fun _ _ _ h => h) (Or.inl ⟨by kernel_rfl, ?_⟩) (by assumption) ?_
  rotate_left
  · intro w hSw
    go_simp
    all_goals with_reducible rfl
  try simp only [Act.put, List.getElem_toArray, List.getElem_cons_succ, List.getElem_cons_zero, List.setIfInBounds_toArray, List.set_cons_zero, List.set_cons_succ]
  refine wpAnyH_ready (rs := [33]) (by kernel_rfl) (by simp) ?_
  refine AllReadyH.cons rfl (fun K hK => ?_) AllReadyH.nil
  go_simp
  go_wp2_with fail
  refine (HHK _ hbD).mono ?_
  rintro _ w5 ⟨rfl, hb5'⟩
  have hb5 : Below V.heap.size V w5 := kqt hbD hb5'
  refine hK.out _ _ (HSS.out _ hb5) (fun hHeld => ?_)
  clear hK K
  try simp only [Act.put, List.getElem_toArray, List.getElem_cons_succ, List.getElem_cons_zero, List.setIfInBounds_toArray, List.set_cons_zero, List.set_cons_succ]
  refine wpAnyH_take (i := 34) (v := ?_) rfl (by kernel_rfl) (by kernel_rfl) (by kernel_rfl) (fun _ _ _ h => h) (Or.inl ⟨by kernel_rfl, ?_⟩) (by assumption) ?_
  rotate_left
  · intro w hSw
    go_simp
    all_goals with_reducible rfl
  try simp only [Act.put, List.getElem_toArray, List.getElem_cons_succ, List.getElem_cons_zero, List.setIfInBounds_toArray, List.set_cons_zero, List.set_cons_succ]
  refine wpAnyH_take (i := 35) (v := ?_) rfl (by kernel_rfl) (by kernel_rfl) (by kernel_rfl) (fun _ _ _ h => h) (Or.inl ⟨by kernel_rfl, ?_⟩) (by assumption) ?_
  rotate_left
  · intro w hSw
    go_simp
    all_goals with_reducible rfl
  try simp only [Act.put, List.getElem_toArray, List.getElem_cons_succ, List.getElem_cons_zero, List.setIfInBounds_toArray, List.set_cons_zero, List.set_cons_succ]
  refine wpAnyH_done (by kernel_rfl) ?_ _
  clear hHeld
  go_wp2
  go_ret
  exact ⟨rfl, kqt hbV hb5⟩
end Go.Proofs.YtpcikfpldmackaaGreatDoor
namespace Go.Proofs.YtpcikfpldmackaaGreatDoor
open Go.RowKit
set_option linter.unusedVariables false
set_option linter.unusedSimpArgs false
set_option maxRecDepth 100000

theorem asks_noneR {s : Sc} {q : Rq} (h0 : scf s = 0) (h1 : askf q = 0) (h : aof s.acs q.act = none) : asks s q = 3 := by unfold asks; rw [orE_r h0, orE_r h1, h]
theorem asks_someR {s : Sc} {q : Rq} {a : Ac} (h0 : scf s = 0) (h1 : askf q = 0) (h : aof s.acs q.act = some a) : asks s q = if hasT q.who.t a.who && hasT q.what.t a.what then wtf a.cx q.cx else 2 := by unfold asks; rw [orE_r h0, orE_r h1, h]
theorem aoi_mem {al : List Ac} {x : ByteArray} {a : Ac} (h : aoi al x = some a) : a ∈ al := List.mem_of_find?_eq_some h
set_option maxHeartbeats 4000000 in
theorem askFits_none (s : Sc) (q : Rq) (pk pa pq : Option Addr) (ck ca cq : Nat) (w : World) (h : SA w s pk ck pa ca) (hq : RqArg w q pq cq) (h0 : scf s = 0) (h1 : askf q = 0) (hn : aof s.acs q.act = none) :
    Calls Tryz.prog 19 #[scV s pk ck pa ca, reqV q pq cq] w fun e w' => e = .returned (.int .i64 3) ∧ Below w.heap.size w w' := by
  obtain ⟨V, hV⟩ : ∃ V, V = (w.alloc (.cells #[.slice pk s.ks.length ck, .slice pa s.acs.length ca] 38)).alloc (.cells #[.string q.who.t, .string q.who.i, .string q.act.t, .string q.act.i, .string q.what.t, .string q.what.i, .slice pq q.cx.length cq] 43) := ⟨_, rfl⟩
  have hbV : Below w.heap.size w V := by rw [hV]; exact kqx
  have HB0 : Hid (Blk V w.heap.size #[.slice pk s.ks.length ck, .slice pa s.acs.length ca] 38) := by rw [hV]; exact (Blk.new w _ _ rfl).up kqx
  have HB1 : Hid (Blk V (w.heap.size + 1) #[.string q.who.t, .string q.who.i, .string q.act.t, .string q.act.i, .string q.what.t, .string q.what.i, .slice pq q.cx.length cq] 43) := by rw [hV]; refine Blk.new _ _ _ ?_; simp
  have HSA : Hid (SA V s pk ck pa ca) := h.up hbV
  have HRQ : Hid (∀ W, Below V.heap.size V W → RqArg W q pq cq) := fun W hW => ⟨hq.u0, hq.u1, hq.u2, hq.nl.up (kqt hbV hW), hq.le, hq.cm⟩
  have HC := schemaFault_any s pk pa ck ca V HSA.out
  have HQ := fun W (hW : Below V.heap.size V W) => askFaultP_any q pq cq W (HRQ.out W hW)
  have HA := fun W (hW : Below V.heap.size V W) => actOfR_any s pk pa ck ca q.act.i W (HSA.out.up hW)
  unfold scV at *
  unfold reqV at *
  clear h hq
  rw [h0] at HC
  rw [h1] at HQ
  have HAN : Hid (aof s.acs q.act = none) := hn
  clear h0 h1 hn
  go_enter Tryz.func19, Tryz.ntmps19
  go_wp2_with fail
  rw [← hV]
  clear hV
  refine HC.mono ?_
  rintro _ w1 ⟨rfl, hb1⟩
  have w1r0 : w1.cell? ⟨w.heap.size, 0, none⟩ = some (.slice pk s.ks.length ck) := (HB0.out.up hb1).cell 0
  have w1r1 : w1.cell? ⟨w.heap.size, 1, none⟩ = some (.slice pa s.acs.length ca) := (HB0.out.up hb1).cell 1
  have w1q0 : w1.cell? ⟨w.heap.size + 1, 0, none⟩ = some (.string q.who.t) := (HB1.out.up hb1).cell 0
  have w1q1 : w1.cell? ⟨w.heap.size + 1, 1, none⟩ = some (.string q.who.i) := (HB1.out.up hb1).cell 1
  have w1q2 : w1.cell? ⟨w.heap.size + 1, 2, none⟩ = some (.string q.act.t) := (HB1.out.up hb1).cell 2
  have w1q3 : w1.cell? ⟨w.heap.size + 1, 3, none⟩ = some (.string q.act.i) := (HB1.out.up hb1).cell 3
  have w1q4 : w1.cell? ⟨w.heap.size + 1, 4, none⟩ = some (.string q.what.t) := (HB1.out.up hb1).cell 4
  have w1q5 : w1.cell? ⟨w.heap.size + 1, 5, none⟩ = some (.string q.what.i) := (HB1.out.up hb1).cell 5
  have w1q6 : w1.cell? ⟨w.heap.size + 1, 6, none⟩ = some (.slice pq q.cx.length cq) := (HB1.out.up hb1).cell 6
  go_wp2_with fail
  refine (HQ _ hb1).mono ?_
  rintro _ w2 ⟨rfl, hb2'⟩
  have hb2 := kqt hb1 hb2'
  clear w1r0 w1r1 w1q0 w1q1 w1q2 w1q3 w1q4 w1q5 w1q6
  have w2r0 : w2.cell? ⟨w.heap.size, 0, none⟩ = some (.slice pk s.ks.length ck) := (HB0.out.up hb2).cell 0
  have w2r1 : w2.cell? ⟨w.heap.size, 1, none⟩ = some (.slice pa s.acs.length ca) := (HB0.out.up hb2).cell 1
  have w2q0 : w2.cell? ⟨w.heap.size + 1, 0, none⟩ = some (.string q.who.t) := (HB1.out.up hb2).cell 0
  have w2q1 : w2.cell? ⟨w.heap.size + 1, 1, none⟩ = some (.string q.who.i) := (HB1.out.up hb2).cell 1
  have w2q2 : w2.cell? ⟨w.heap.size + 1, 2, none⟩ = some (.string q.act.t) := (HB1.out.up hb2).cell 2
  have w2q3 : w2.cell? ⟨w.heap.size + 1, 3, none⟩ = some (.string q.act.i) := (HB1.out.up hb2).cell 3
  have w2q4 : w2.cell? ⟨w.heap.size + 1, 4, none⟩ = some (.string q.what.t) := (HB1.out.up hb2).cell 4
  have w2q5 : w2.cell? ⟨w.heap.size + 1, 5, none⟩ = some (.string q.what.i) := (HB1.out.up hb2).cell 5
  have w2q6 : w2.cell? ⟨w.heap.size + 1, 6, none⟩ = some (.slice pq q.cx.length cq) := (HB1.out.up hb2).cell 6
  go_wp2_with fail
  refine (HA _ hb2).mono ?_
  rintro _ w3 ⟨⟨n, rfl, hix⟩, hb3'⟩
  have hb3 := kqt hb2 hb3'
  clear w2r0 w2r1 w2q0 w2q1 w2q2 w2q3 w2q4 w2q5 w2q6
  clear hb1 hb2 hb2' hb3' HC HQ HA
  have x2 : w3.cell? ⟨w.heap.size + 1, 2, none⟩ = some (.string q.act.t) := (HB1.out.up hb3).cell 2
  rcases hix with ⟨hno, rfl⟩ | ⟨j, hj, hyes, rfl⟩
  · clear hno
    go_wp2
    go_ret
    exact ⟨rfl, kqt hbV hb3⟩
  · have ht : ¬ q.act.t = actT := fun e => by have := HAN.out; rw [aof_aoi, if_pos e, hyes] at this; cases this
    have j2 : ¬ (j : Int) < 0 := by omega
    have j3 : (0 : Int) ≤ (j : Int) := by omega
    have hne : ¬ q.act.t.toList = [65, 99, 116, 105, 111, 110] := fun e => ht (bytes_inj (by rw [← ByteArray.toList_eq, e]; rfl))
    have hne2 : (q.act.t.toList == [65, 99, 116, 105, 111, 110]) = false := by rw [beq_eq_false_iff_ne]; exact hne
    clear ht hyes
    go_wp2
    go_ret
    exact ⟨rfl, kqt hbV hb3⟩
set_option maxHeartbeats 4000000 in
theorem askFits_any (s : Sc) (q : Rq) (pk pa pq : Option Addr) (ck ca cq : Nat) (w : World) (h : SA w s pk ck pa ca) (hq : RqArg w q pq cq) :
    Calls Tryz.prog 19 #[scV s pk ck pa ca, reqV q pq cq] w fun e w' => e = .returned (.int .i64 (asks s q)) ∧ Below w.heap.size w w' := by
  by_cases h0 : scf s = 0
  · by_cases h1 : askf q = 0
    · cases hao : aof s.acs q.act with
      | none => rw [asks_noneR h0 h1 hao]; exact askFits_none s q pk pa pq ck ca cq w h hq h0 h1 hao
      | some ac =>
        have ht : q.act.t = actT := by
          by_cases e : q.act.t = actT
          · exact e
          · rw [aof_aoi, if_neg e] at hao; cases hao
        have hac : aoi s.acs q.act.i = some ac := by rw [aof_aoi, if_pos ht] at hao; exact hao
        have hk := (scf_kinds h0).2 ac (aoi_mem hac)
        rw [asks_someR h0 h1 hao, wtf_of hk (askf_val h1)]
        cases e1 : hasT q.who.t ac.who
        · exact askFits_c1 s q pk pa pq ck ca cq w h hq h0 h1 ac hac ht e1
        · cases e2 : hasT q.what.t ac.what
          · exact askFits_c2 s q pk pa pq ck ca cq w h hq h0 h1 ac hac ht e1 e2
          · cases e3 : hasB ac.cx q.cx
            · exact askFits_c3 s q pk pa pq ck ca cq w h hq h0 h1 ac hac ht e1 e2 e3
            · exact askFits_c4 s q pk pa pq ck ca cq w h hq h0 h1 ac hac ht e1 e2 e3
    · have HR : Hid (asks s q = askf q) := by show _ = _; unfold asks; rw [orE_r h0, orE_l h1]
      have e3 : (askf q != 0) = true := by simp [h1]
      obtain ⟨V, hV⟩ : ∃ V, V = (w.alloc (.cells #[.slice pk s.ks.length ck, .slice pa s.acs.length ca] 38)).alloc (.cells #[.string q.who.t, .string q.who.i, .string q.act.t, .string q.act.i, .string q.what.t, .string q.what.i, .slice pq q.cx.length cq] 43) := ⟨_, rfl⟩
      have hbV : Below w.heap.size w V := by rw [hV]; exact kqx
      have HB0 : Hid (Blk V w.heap.size #[.slice pk s.ks.length ck, .slice pa s.acs.length ca] 38) := by rw [hV]; exact (Blk.new w _ _ rfl).up kqx
      have HB1 : Hid (Blk V (w.heap.size + 1) #[.string q.who.t, .string q.who.i, .string q.act.t, .string q.act.i, .string q.what.t, .string q.what.i, .slice pq q.cx.length cq] 43) := by rw [hV]; refine Blk.new _ _ _ ?_; simp
      have HSA : Hid (SA V s pk ck pa ca) := h.up hbV
      have HRQ : Hid (∀ W, Below V.heap.size V W → RqArg W q pq cq) := fun W hW => ⟨hq.u0, hq.u1, hq.u2, hq.nl.up (kqt hbV hW), hq.le, hq.cm⟩
      have HC := schemaFault_any s pk pa ck ca V HSA.out
      have HQ := fun W (hW : Below V.heap.size V W) => askFaultP_any q pq cq W (HRQ.out W hW)
      have HA := fun W (hW : Below V.heap.size V W) => actOfR_any s pk pa ck ca q.act.i W (HSA.out.up hW)
      unfold scV at *
      unfold reqV at *
      clear h hq

      rw [h0] at HC
      clear h0 h1
      generalize askf q = n at *
      go_enter Tryz.func19, Tryz.ntmps19
      go_wp2_with fail
      rw [← hV]
      clear hV
      refine HC.mono ?_
      rintro _ w1 ⟨rfl, hb1⟩
      have w1r0 : w1.cell? ⟨w.heap.size, 0, none⟩ = some (.slice pk s.ks.length ck) := (HB0.out.up hb1).cell 0
      have w1r1 : w1.cell? ⟨w.heap.size, 1, none⟩ = some (.slice pa s.acs.length ca) := (HB0.out.up hb1).cell 1
      have w1q0 : w1.cell? ⟨w.heap.size + 1, 0, none⟩ = some (.string q.who.t) := (HB1.out.up hb1).cell 0
      have w1q1 : w1.cell? ⟨w.heap.size + 1, 1, none⟩ = some (.string q.who.i) := (HB1.out.up hb1).cell 1
      have w1q2 : w1.cell? ⟨w.heap.size + 1, 2, none⟩ = some (.string q.act.t) := (HB1.out.up hb1).cell 2
      have w1q3 : w1.cell? ⟨w.heap.size + 1, 3, none⟩ = some (.string q.act.i) := (HB1.out.up hb1).cell 3
      have w1q4 : w1.cell? ⟨w.heap.size + 1, 4, none⟩ = some (.string q.what.t) := (HB1.out.up hb1).cell 4
      have w1q5 : w1.cell? ⟨w.heap.size + 1, 5, none⟩ = some (.string q.what.i) := (HB1.out.up hb1).cell 5
      have w1q6 : w1.cell? ⟨w.heap.size + 1, 6, none⟩ = some (.slice pq q.cx.length cq) := (HB1.out.up hb1).cell 6
      go_wp2_with fail
      refine (HQ _ hb1).mono ?_
      rintro _ w2 ⟨rfl, hb2⟩
      go_wp2
      go_ret
      exact ⟨by rw [HR.out]; rfl, kqt hbV (kqt hb1 hb2)⟩
  · have HR : Hid (asks s q = scf s) := by show _ = _; unfold asks; rw [orE_l h0]
    have e2 : (scf s == 0) = false := by simpa using h0
    have e3 : (scf s != 0) = true := by simp [h0]
    obtain ⟨V, hV⟩ : ∃ V, V = (w.alloc (.cells #[.slice pk s.ks.length ck, .slice pa s.acs.length ca] 38)).alloc (.cells #[.string q.who.t, .string q.who.i, .string q.act.t, .string q.act.i, .string q.what.t, .string q.what.i, .slice pq q.cx.length cq] 43) := ⟨_, rfl⟩
    have hbV : Below w.heap.size w V := by rw [hV]; exact kqx
    have HB0 : Hid (Blk V w.heap.size #[.slice pk s.ks.length ck, .slice pa s.acs.length ca] 38) := by rw [hV]; exact (Blk.new w _ _ rfl).up kqx
    have HB1 : Hid (Blk V (w.heap.size + 1) #[.string q.who.t, .string q.who.i, .string q.act.t, .string q.act.i, .string q.what.t, .string q.what.i, .slice pq q.cx.length cq] 43) := by rw [hV]; refine Blk.new _ _ _ ?_; simp
    have HSA : Hid (SA V s pk ck pa ca) := h.up hbV
    have HRQ : Hid (∀ W, Below V.heap.size V W → RqArg W q pq cq) := fun W hW => ⟨hq.u0, hq.u1, hq.u2, hq.nl.up (kqt hbV hW), hq.le, hq.cm⟩
    have HC := schemaFault_any s pk pa ck ca V HSA.out
    have HQ := fun W (hW : Below V.heap.size V W) => askFaultP_any q pq cq W (HRQ.out W hW)
    have HA := fun W (hW : Below V.heap.size V W) => actOfR_any s pk pa ck ca q.act.i W (HSA.out.up hW)
    unfold scV at *
    unfold reqV at *
    clear h hq

    clear h0
    generalize scf s = n at *
    go_enter Tryz.func19, Tryz.ntmps19
    go_wp2_with fail
    rw [← hV]
    clear hV
    refine HC.mono ?_
    rintro _ w1 ⟨rfl, hb1⟩
    go_wp2
    go_ret
    exact ⟨by rw [HR.out]; rfl, kqt hbV hb1⟩
end Go.Proofs.YtpcikfpldmackaaGreatDoor
