/- The document's StoreFits: by a walk of its own text. -/
import Derived.Test.YtpcikfpldmackaaGreatDoorG29
import Derived.Test.YtpcikfpldmackaaGreatDoorG25
import Derived.Deep.RegionHeld
namespace Go.Proofs.YtpcikfpldmackaaGreatDoor
open Go.RowKit
set_option linter.unusedVariables false
set_option linter.unusedSimpArgs false
set_option maxRecDepth 100000

theorem mbf_noneR {ks : List Kd} {e : En} (h : kof ks e.u.t = none) : mbf ks e = 3 := by unfold mbf; rw [h]
theorem mbf_someR {ks : List Kd} {e : En} {k : Kd} (h : kof ks e.u.t = some k) : mbf ks e = if e.up.all (fun u => hasT u.t k.up) then wtf k.ty e.nd else 2 := by unfold mbf; rw [h]
theorem all_stepR {l : List Ui} {k : Nat} (h : k < l.length) (f : Ui → Bool) : (l.take (k + 1)).all f = ((l.take k).all f && f l[k]) := by
  rw [List.take_succ_eq_append_getElem h, List.all_append]; simp
theorem all_missR {l : List Ui} {k : Nat} (h : k < l.length) {f : Ui → Bool} (hf : f l[k] = false) : l.all f = false := by
  cases e : l.all f
  · rfl
  · rw [List.all_eq_true] at e
    rw [e _ (List.getElem_mem h)] at hf
    cases hf
theorem esf_stepR {ks : List Kd} {es : List En} {k : Nat} (h : k < es.length) : esf ks (es.drop k) = orE (mbf ks es[k]) (esf ks (es.drop (k + 1))) := by rw [List.drop_eq_getElem_cons h]; rfl
set_option maxHeartbeats 4000000 in
theorem storeFits_any (s : Sc) (es : List En) (pk pa pe : Option Addr) (ck ca ce : Nat) (w : World) (h : SA w s pk ck pa ca) (he : EL w pe es) (hem : es.length ≤ maxLen) :
    Calls Tryz.prog 17 #[scV s pk ck pa ca, .slice pe es.length ce] w fun e w' => e = .returned (.int .i64 (stof s es)) ∧ Below w.heap.size w w' := by
  obtain ⟨V, hV⟩ : ∃ V, V = w.alloc (.cells #[.slice pk s.ks.length ck, .slice pa s.acs.length ca] 38) := ⟨_, rfl⟩
  have hbV : Below w.heap.size w V := by rw [hV]; exact kqx
  have HB0 : Hid (Blk V w.heap.size #[.slice pk s.ks.length ck, .slice pa s.acs.length ca] 38) := by rw [hV]; exact Blk.new w _ _ rfl
  have HSA : Hid (SA V s pk ck pa ca) := h.up hbV
  have HEL : Hid (EL V pe es) := he.up hbV
  have HC := schemaFault_any s pk pa ck ca V HSA.out
  unfold maxLen at hem
  unfold scV at *
  clear h he
  by_cases h0 : scf s = 0
  · rw [h0] at HC
    have HK0 : Hid (∀ k ∈ s.ks, kfault k.ty = 0) := (scf_kinds h0).1
    have h8 : s.ks.length ≤ 8 := by
      rcases scf_waysR s with ⟨_, e⟩ | ⟨hk, _⟩
      · omega
      · exact hk
    have HN := fun W (hW : Below V.heap.size V W) => storeFault_any es pe ce W (HEL.out.up hW)
    by_cases h1 : stf es = 0
    · rw [h1] at HN
      have HS : Hid (stof s es = esf s.ks es) := by show _ = _; unfold stof; rw [orE_r h0, orE_r h1]
      have h16 : es.length ≤ 16 := (stf_zero h1).few
      have HV0 : Hid (∀ e ∈ es, vfault e.nd = 0) := stf_vals h1
      clear h0 h1 hem
      go_enter Tryz.func17, Tryz.ntmps17
      go_wp2_with fail
      rw [← hV]
      clear hV
      refine HC.mono ?_
      rintro _ w1 ⟨rfl, hb1⟩
      go_wp2_with fail
      refine (HN _ hb1).mono ?_
      rintro _ w2 ⟨rfl, hb2'⟩
      have hb2 := kqt hb1 hb2'
      clear hb1 hb2' HC HN
      go_wp2_with fail
      go_loopw [6, 7, 8] (fun iv _ _ wr => ∃ i : Nat, i ≤ es.length ∧ iv = .int .i64 i ∧ Hid (esf s.ks es = esf s.ks (es.drop i)) ∧ Below V.heap.size V wr) (fun iv _ _ _ => es.length - (intOf iv).toNat)
      case atStart => exact ⟨0, Nat.zero_le _, rfl, rfl, hb2⟩
      case round =>
        rename World => wr
        obtain ⟨i, hi, rfl, HF, hbr⟩ := hrel
        by_cases hlt : i < es.length
        · have i1 : (i : Int) < (es.length : Int) := by omega
          obtain ⟨b, off, pu, cu, pn, cn, hpe, hbl', w1_, hUL', hNL', w2_, w3_, hu1, hu2, hn1, hn2, c0', c1', c2', c3'⟩ := HEL.out.at hlt
          have hbl : b < V.heap.size := hbl'
          clear w1_ w2_ w3_
          have HX : Hid _ := esf_stepR (ks := s.ks) hlt
          have HVN : Hid (vfault es[i].nd = 0) := HV0.out _ (List.getElem_mem _)
          obtain ⟨x, hx⟩ : ∃ x, x = es[i] := ⟨_, rfl⟩
          rw [← hx] at hUL' hNL' hu1 hn1 c0' c1' c2' c3' HX HVN
          have HUL : Hid (UL V pu x.up) := hUL'
          have HNL : Hid (AK V x.nd pn cn) := ⟨hNL', hn1, hn2⟩
          have HC0 : Hid (V.cell? ⟨b, off + i * 4, none⟩ = some (.string x.u.t)) := c0'
          have HC2 : Hid (V.cell? ⟨b, off + i * 4 + 2, none⟩ = some (.slice pu x.up.length cu)) := c2'
          have HC3 : Hid (V.cell? ⟨b, off + i * 4 + 3, none⟩ = some (.slice pn x.nd.length cn)) := c3'
          have hul : x.up.length ≤ 9223372036854775807 := by unfold maxLen at hu2; omega
          subst hpe
          clear hx hUL' hNL' hu1 hu2 hn1 hn2 c0' c1' c2' c3' hbl'
          have HKD := fun W (hW : Below V.heap.size V W) => kindOfR_any s pk pa ck ca x.u.t W (HSA.out.up hW)
          unfold scV at HKD
          have y0 : wr.cell? ⟨w.heap.size, 0, none⟩ = some (.slice pk s.ks.length ck) := (HB0.out.up hbr).cell 0
          have y1 : wr.cell? ⟨w.heap.size, 1, none⟩ = some (.slice pa s.acs.length ca) := (HB0.out.up hbr).cell 1
          have y2 := (hbr.cell (p := ⟨b, off + i * 4, none⟩) hbl).trans HC0.out
          go_wp2_with fail
          go_region_held (fun w' => w'.cell? ⟨w.heap.size, 0, none⟩ = some (.slice pk s.ks.length ck) ∧ w'.cell? ⟨w.heap.size, 1, none⟩ = some (.slice pa s.acs.length ca) ∧ w'.cell? ⟨b, off + i * 4, none⟩ = some (.string x.u.t)) (first | exact ⟨y0, y1, y2⟩ | exact ⟨(HB0.out.up hb5).cell 0, (HB0.out.up hb5).cell 1, (hb5.cell (p := ⟨b, off + i * 4, none⟩) hbl).trans HC0.out⟩) (first
            | (go_at_call 42
               refine (HKD _ (kqt hbr kqx)).mono ?_
               rintro _ w5 ⟨⟨kn, rfl, hkn⟩, hb5'⟩
               have hb5 : Below V.heap.size V w5 := kqt (kqt hbr kqx) hb5'))
          clear y0 y1 y2 HKD
          rcases hkn with ⟨hno, rfl⟩ | ⟨j, hj, hyes, rfl⟩
          · have HR : Hid (stof s es = 3) := by show _ = _; rw [HS.out, HF.out, HX.out, mbf_noneR hno]; rfl
            clear hno HX HF
            go_wp2
            go_ret
            exact ⟨by rw [HR.out]; rfl, kqt hbV hb5⟩
          · obtain ⟨bk, ok, qu, du, qt, dt, hpk, hbk, hkv, g0, g1, g2⟩ := HSA.out.ks.at hj
            have HKT : Hid (kfault s.ks[j].ty = 0) := HK0.out _ (List.getElem_mem _)
            obtain ⟨kd, hkd⟩ : ∃ kd, kd = s.ks[j] := ⟨_, rfl⟩
            rw [← hkd] at hyes hkv g1 g2 HKT
            have HM : Hid (mbf s.ks x = if x.up.all (fun u => hasT u.t kd.up) then (if hasB kd.ty x.nd then 0 else 2) else 2) := by show _ = _; rw [mbf_someR hyes, wtf_of HKT.out HVN.out]
            have HKV : Hid (KdV V kd qu du qt dt) := hkv
            have HG1 : Hid (V.cell? ⟨bk, ok + j * 3 + 1, none⟩ = some (.slice qu kd.up.length du)) := g1
            have HG2 : Hid (V.cell? ⟨bk, ok + j * 3 + 2, none⟩ = some (.slice qt kd.ty.length dt)) := g2
            have j1 : (j : Int) < (s.ks.length : Int) := by omega
            have j2 : ¬ (j : Int) < 0 := by omega
            have j3 : (0 : Int) ≤ (j : Int) := by omega
            subst hpk
            clear hkd hyes hkv g0 g1 g2 hj
            go_wp2_with fail
            go_loopw [8] (fun pv w6 => ∃ p : Nat, p ≤ x.up.length ∧ pv = .int .i64 p ∧ Hid ((x.up.take p).all (fun u => hasT u.t kd.up) = true) ∧ Below V.heap.size V w6) (fun pv _ => x.up.length - (intOf pv).toNat)
            case atStart => exact ⟨0, Nat.zero_le _, rfl, rfl, hb5⟩
            case round =>
              rename World => w6
              obtain ⟨p, hp, rfl, HA, hb6⟩ := hrel
              have z2 := (hb6.cell (p := ⟨b, off + i * 4 + 2, none⟩) hbl).trans HC2.out
              have z0 : w6.cell? ⟨w.heap.size, 0, none⟩ = some (.slice (some ⟨bk, ok, none⟩) s.ks.length ck) := (HB0.out.up hb6).cell 0
              by_cases hltp : p < x.up.length
              · have p1 : (p : Int) < (x.up.length : Int) := by omega
                obtain ⟨bu, ou, hpu, hbu, u0, u9⟩ := HUL.out.at hltp
                clear u9
                have HXA : Hid _ := all_stepR hltp (fun u => hasT u.t kd.up)
                have HYA : Hid _ := @all_missR _ _ hltp (fun u => hasT u.t kd.up)
                obtain ⟨y, hy⟩ : ∃ y, y = x.up[p] := ⟨_, rfl⟩
                rw [← hy] at u0 HXA HYA
                have HU0 : Hid (V.cell? ⟨bu, ou + p * 2, none⟩ = some (.string y.t)) := u0
                subst hpu
                have u1 := (hb6.cell (p := ⟨bu, ou + p * 2, none⟩) hbu).trans HU0.out
                have z1 := (hb6.cell (p := ⟨bk, ok + j * 3 + 1, none⟩) hbk).trans HG1.out
                have HCT := fun W (hW : Below V.heap.size V W) => amongR_any y.t kd.up qu du W (HKV.out.us.up hW)
                clear hy u0
                cases hh : hasT y.t kd.up
                · rw [hh] at HCT
                  have HR : Hid (stof s es = 2) := by show _ = _; rw [HS.out, HF.out, HX.out, HM.out, HYA.out hh]; rfl
                  clear hh HXA HYA HA HM HX HF
                  go_wp2_with fail
                  go_region_held (fun w' => w'.cell? ⟨b, off + i * 4 + 2, none⟩ = some (.slice (some ⟨bu, ou, none⟩) x.up.length cu) ∧ w'.cell? ⟨bu, ou + p * 2, none⟩ = some (.string y.t) ∧ w'.cell? ⟨w.heap.size, 0, none⟩ = some (.slice (some ⟨bk, ok, none⟩) s.ks.length ck) ∧ w'.cell? ⟨bk, ok + j * 3 + 1, none⟩ = some (.slice qu kd.up.length du)) (exact ⟨z2, u1, z0, z1⟩) (first
                    | (go_at_call 43
                       refine (HCT _ (kqt hb6 kqx)).mono ?_
                       rintro _ w7 ⟨rfl, rfl⟩))
                  go_wp2
                  go_ret
                  exact ⟨by rw [HR.out]; rfl, kqt hbV (kqt hb6 kqx)⟩
                · rw [hh] at HCT
                  have HA2 : Hid ((x.up.take (p + 1)).all (fun u => hasT u.t kd.up) = true) := by show _ = _; rw [HXA.out, HA.out]; exact hh
                  clear hh HXA HYA HA
                  go_wp2_with fail
                  go_region_held (fun w' => w'.cell? ⟨b, off + i * 4 + 2, none⟩ = some (.slice (some ⟨bu, ou, none⟩) x.up.length cu) ∧ w'.cell? ⟨bu, ou + p * 2, none⟩ = some (.string y.t) ∧ w'.cell? ⟨w.heap.size, 0, none⟩ = some (.slice (some ⟨bk, ok, none⟩) s.ks.length ck) ∧ w'.cell? ⟨bk, ok + j * 3 + 1, none⟩ = some (.slice qu kd.up.length du)) (exact ⟨z2, u1, z0, z1⟩) (first
                    | (go_at_call 43
                       refine (HCT _ (kqt hb6 kqx)).mono ?_
                       rintro _ w7 ⟨rfl, rfl⟩))
                  go_wp2
                  go_roundw
                  case rel => exact ⟨p + 1, by omega, by go_num, HA2, kqt hb6 kqx⟩
                  case measure => simp [intOf]; omega
              · have p1 : ¬ (p : Int) < (x.up.length : Int) := by omega
                have HM2 : Hid (mbf s.ks x = if hasB kd.ty x.nd then 0 else 2) := by
                  show _ = _
                  have := HA.out
                  rw [List.take_of_length_le (by omega)] at this
                  rw [HM.out, if_pos this]
                have z3 := (hb6.cell (p := ⟨b, off + i * 4 + 3, none⟩) hbl).trans HC3.out
                have z4 := (hb6.cell (p := ⟨bk, ok + j * 3 + 2, none⟩) hbk).trans HG2.out
                have HCH := fun W (hW : Below V.heap.size V W) => hasKindB_any kd.ty x.nd qt pn dt cn W (HKV.out.ty.up hW) (HNL.out.up hW) HKT.out HVN.out
                have HSS : Hid (∀ w', Below V.heap.size V w' → w'.cell? ⟨w.heap.size, 0, none⟩ = some (.slice (some ⟨bk, ok, none⟩) s.ks.length ck) ∧ w'.cell? ⟨bk, ok + j * 3 + 2, none⟩ = some (.slice qt kd.ty.length dt) ∧ w'.cell? ⟨b, off + i * 4 + 3, none⟩ = some (.slice pn x.nd.length cn)) := fun w' hb => ⟨(HB0.out.up hb).cell 0, (hb.cell (p := ⟨bk, ok + j * 3 + 2, none⟩) hbk).trans HG2.out, (hb.cell (p := ⟨b, off + i * 4 + 3, none⟩) hbl).trans HC3.out⟩
                clear HA HM
                cases hh : hasB kd.ty x.nd
                · rw [hh] at HCH
                  have HR : Hid (stof s es = 2) := by show _ = _; rw [HS.out, HF.out, HX.out, HM2.out, hh]; rfl
                  clear hh HM2 HX HF
                  go_wp2_with fail
                  go_region_held (fun w' => w'.cell? ⟨w.heap.size, 0, none⟩ = some (.slice (some ⟨bk, ok, none⟩) s.ks.length ck) ∧ w'.cell? ⟨bk, ok + j * 3 + 2, none⟩ = some (.slice qt kd.ty.length dt) ∧ w'.cell? ⟨b, off + i * 4 + 3, none⟩ = some (.slice pn x.nd.length cn)) (first | exact ⟨z0, z4, z3⟩ | exact HSS.out _ hb7) (first
                    | (go_at_call 9
                       refine (HCH _ (kqt hb6 kqx)).mono ?_
                       rintro _ w7 ⟨rfl, hb7'⟩
                       have hb7 : Below V.heap.size V w7 := kqt (kqt hb6 kqx) hb7'))
                  go_wp2
                  go_ret
                  exact ⟨by rw [HR.out]; rfl, kqt hbV hb7⟩
                · rw [hh] at HCH
                  have HF2 : Hid (esf s.ks es = esf s.ks (es.drop (i + 1))) := by show _ = _; rw [HF.out, HX.out, HM2.out, hh]; exact orE_r rfl
                  clear hh HM2 HX HF
                  go_wp2_with fail
                  go_region_held (fun w' => w'.cell? ⟨w.heap.size, 0, none⟩ = some (.slice (some ⟨bk, ok, none⟩) s.ks.length ck) ∧ w'.cell? ⟨bk, ok + j * 3 + 2, none⟩ = some (.slice qt kd.ty.length dt) ∧ w'.cell? ⟨b, off + i * 4 + 3, none⟩ = some (.slice pn x.nd.length cn)) (first | exact ⟨z0, z4, z3⟩ | exact HSS.out _ hb7) (first
                    | (go_at_call 9
                       refine (HCH _ (kqt hb6 kqx)).mono ?_
                       rintro _ w7 ⟨rfl, hb7'⟩
                       have hb7 : Below V.heap.size V w7 := kqt (kqt hb6 kqx) hb7'))
                  go_wp2
                  go_roundw
                  case rel => exact ⟨i + 1, by omega, by go_num, HF2, hb7⟩
                  case measure => simp [intOf]; omega
        · have i1 : ¬ (i : Int) < (es.length : Int) := by omega
          have HR : Hid (stof s es = 0) := by show _ = _; rw [HS.out, HF.out, List.drop_of_length_le (by omega)]; rfl
          clear HF
          go_wp2
          go_ret
          exact ⟨by rw [HR.out]; rfl, kqt hbV hbr⟩
    · have HR : Hid (stof s es = stf es) := by show _ = _; unfold stof; rw [orE_r h0, orE_l h1]
      have e3 : (stf es == 0) = false := by simpa using h1
      clear h0 h1
      generalize stf es = n at *
      go_enter Tryz.func17, Tryz.ntmps17
      go_wp2_with fail
      rw [← hV]
      clear hV
      refine HC.mono ?_
      rintro _ w1 ⟨rfl, hb1⟩
      go_wp2_with fail
      refine (HN _ hb1).mono ?_
      rintro _ w2 ⟨rfl, hb2⟩
      go_wp2_with fail
      go_loopw [6, 7, 8] (fun iv _ _ wr => iv = .int .i64 0 ∧ wr = w2) (fun _ _ _ _ => 0)
      case atStart => exact ⟨rfl, rfl⟩
      case round =>
        rename World => wr
        obtain ⟨rfl, rfl⟩ := hrel
        by_cases hi0 : 0 < es.length
        · have j1 : (0 : Int) < (es.length : Int) := by omega
          clear hi0
          go_wp2
          go_ret
          exact ⟨by rw [HR.out]; rfl, kqt hbV (kqt hb1 hb2)⟩
        · have j1 : ¬ (0 : Int) < (es.length : Int) := by omega
          clear hi0
          go_wp2
          go_ret
          exact ⟨by rw [HR.out]; rfl, kqt hbV (kqt hb1 hb2)⟩
  · have HR : Hid (stof s es = scf s) := by show _ = _; unfold stof; rw [orE_l h0]
    have e3 : (scf s == 0) = false := by simpa using h0
    clear h0
    generalize scf s = n at *
    go_enter Tryz.func17, Tryz.ntmps17
    go_wp2_with fail
    rw [← hV]
    clear hV
    refine HC.mono ?_
    rintro _ w1 ⟨rfl, hb1⟩
    go_wp2_with fail
    go_loopw [6, 7, 8] (fun iv _ _ wr => iv = .int .i64 0 ∧ wr = w1) (fun _ _ _ _ => 0)
    case atStart => exact ⟨rfl, rfl⟩
    case round =>
      rename World => wr
      obtain ⟨rfl, rfl⟩ := hrel
      by_cases hi0 : 0 < es.length
      · have j1 : (0 : Int) < (es.length : Int) := by omega
        clear hi0
        go_wp2
        go_ret
        exact ⟨by rw [HR.out]; rfl, kqt hbV hb1⟩
      · have j1 : ¬ (0 : Int) < (es.length : Int) := by omega
        clear hi0
        go_wp2
        go_ret
        exact ⟨by rw [HR.out]; rfl, kqt hbV hb1⟩
end Go.Proofs.YtpcikfpldmackaaGreatDoor
