/- Package schema: checkActs, Check: by walks of their own texts. Package schema: kindOf, actOf: by walks of their own texts. Package eval: Ask, by a walk of its own text. The document's Parts, and package wicketgatesame's Lists: what they return, by walks of their own texts. The document's AskFault: by a walk of its own text (as AskRef, with package eval's faces alone). -/
import Derived.Test.YtpcikfpldmackaaGreatDoorG23
import Derived.Test.YtpcikfpldmackaaGreatDoorG6
import Derived.Test.YtpcikfpldmackaaGreatDoorG20
import Derived.Test.YtpcikfpldmackaaGreatDoorG12
import Derived.Test.YtpcikfpldmackaaGreatDoorG10
import Derived.Test.YtpcikfpldmackaaGreatDoorG21
import Derived.Test.YtpcikfpldmackaaGreatDoorG11
import Derived.Test.YtpcikfpldmackaaGreatDoorG17
namespace Go.Proofs.YtpcikfpldmackaaGreatDoor
open Go.RowKit Go.Maps Go.WideMaps
set_option linter.unusedVariables false
set_option linter.unusedSimpArgs false
set_option maxRecDepth 100000

theorem asf_step {al : List Ac} {k : Nat} (h : k < al.length) : asf ((al.take k).map (·.id)) (al.drop k) = orE (acf ((al.take k).map (·.id)) al[k]) (asf ((al.take (k + 1)).map (·.id)) (al.drop (k + 1))) := by
  rw [List.take_succ_eq_append_getElem h, List.map_append]
  rw [List.drop_eq_getElem_cons h]
  rfl
/-- Where an act's error comes from. -/
theorem acf_ways (seen : List ByteArray) (a : Ac) : (tmf a.id ≠ 0 ∧ acf seen a = tmf a.id) ∨ (tmf a.id = 0 ∧ hasT a.id seen = true ∧ acf seen a = 6) ∨ (tmf a.id = 0 ∧ hasT a.id seen = false ∧ (6 < a.who.length ∨ 6 < a.what.length) ∧ acf seen a = 4) ∨ (tmf a.id = 0 ∧ hasT a.id seen = false ∧ a.who.length ≤ 6 ∧ a.what.length ≤ 6 ∧ acf seen a = orE (nsf a.who) (orE (nsf a.what) (rcf a.cx))) := by
  unfold acf
  by_cases h1 : tmf a.id = 0
  · rw [orE_r h1]
    cases h2 : hasT a.id seen
    · rw [orE_r (by unfold twE; rw [h2]; rfl)]
      by_cases h3 : 6 < a.who.length ∨ 6 < a.what.length
      · exact .inr (.inr (.inl ⟨h1, rfl, h3, by rw [decide_eq_true h3]; rfl⟩))
      · rw [orE_r (by rw [decide_eq_false h3]; rfl)]
        exact .inr (.inr (.inr ⟨h1, rfl, by omega, by omega, rfl⟩))
    · exact .inr (.inl ⟨h1, rfl, by unfold twE; rw [h2]; rfl⟩)
  · exact .inl ⟨h1, orE_l h1⟩
set_option maxHeartbeats 8000000 in
theorem checkActs_any (al : List Ac) (p : Option Addr) (c : Nat) (w : World) (hl : AcL w p al) (h8 : al.length ≤ 8) :
    Calls Tryz.prog 36 #[.slice p al.length c] w fun e w' => e = .returned (eV (asf [] al)) ∧ Below w.heap.size w w' := by
  have HL : Hid (AcL w p al) := hl
  have hmm := @run_makeMap Tryz.prog
  clear hl
  go_enter Tryz.func36, Tryz.ntmps36
  go_wp2_with fail
  go_loopw [15] (fun i wr => ∃ k : Nat, k ≤ al.length ∧ i = .int .i64 k ∧ NSet wr w.heap.size ((al.take k).map (·.id)) ∧ Below w.heap.size w wr ∧ Hid (asf [] al = asf ((al.take k).map (·.id)) (al.drop k))) (fun i _ => al.length - (intOf i).toNat)
  case atStart => exact ⟨0, Nat.zero_le _, rfl, by simpa using NSet.made w, (Below.refl _ _).alloc (Nat.le_refl _) _, by simp [Hid]⟩
  case round =>
    rename World => wr
    obtain ⟨k, hk, rfl, hset, hnx, HR⟩ := hrel
    by_cases hlt : k < al.length
    · have i1 : (k : Int) < (al.length : Int) := by omega
      obtain ⟨b, off, p0, c0', p1, c1', pt, ct, rfl, hbl, hkv, c0, c1, c2, c3⟩ := HL.out.at hlt
      replace c0 := (hnx.cell (p := ⟨b, off + k * 4, none⟩) hbl).trans c0
      replace c1 := (hnx.cell (p := ⟨b, off + k * 4 + 1, none⟩) hbl).trans c1
      replace c2 := (hnx.cell (p := ⟨b, off + k * 4 + 2, none⟩) hbl).trans c2
      replace c3 := (hnx.cell (p := ⟨b, off + k * 4 + 3, none⟩) hbl).trans c3
      have HS : Hid (asf [] al = orE (acf ((al.take k).map (·.id)) al[k]) (asf ((al.take (k + 1)).map (·.id)) (al.drop (k + 1)))) := by show _ = _; rw [HR.out]; exact asf_step hlt
      have HT : Hid ((al.take (k + 1)).map (·.id) = (al.take k).map (·.id) ++ [al[k].id]) := by show _ = _; rw [List.take_succ_eq_append_getElem hlt, List.map_append]; rfl
      have hsl : ((al.take k).map (·.id)).length < 1000 := by simp; omega
      generalize al[k] = x at *
      obtain ⟨nm, us, vs, ty⟩ := x
      dsimp only at c0 c1 c2 c3
      obtain ⟨V, hV⟩ : ∃ V, V = wr.alloc (.cells #[.string nm, .slice p0 us.length c0', .slice p1 vs.length c1', .slice pt ty.length ct] 92) := ⟨_, rfl⟩
      have hbV : Below wr.heap.size wr V := by rw [hV]; exact kqx
      have hVs : V.heap.size = wr.heap.size + 1 := by rw [hV]; simp
      have v0 : V.cell? ⟨wr.heap.size, 0, none⟩ = some (.string nm) := by rw [hV]; simp
      have v1 : V.cell? ⟨wr.heap.size, 1, none⟩ = some (.slice p0 us.length c0') := by rw [hV]; simp
      have v2 : V.cell? ⟨wr.heap.size, 2, none⟩ = some (.slice p1 vs.length c1') := by rw [hV]; simp
      have v3 : V.cell? ⟨wr.heap.size, 3, none⟩ = some (.slice pt ty.length ct) := by rw [hV]; simp
      have hwr := hset.lt
      have hbw := kqt hnx hbV
      have HC := quoteN_any nm V hkv.id
      have eC : tfault nm.data.toList = tmf nm := rfl
      rw [eC] at HC
      have hcV : ∀ w', Below V.heap.size V w' → w'.cell? ⟨wr.heap.size, 0, none⟩ = some (.string nm) ∧ w'.cell? ⟨wr.heap.size, 1, none⟩ = some (.slice p0 us.length c0') ∧ w'.cell? ⟨wr.heap.size, 2, none⟩ = some (.slice p1 vs.length c1') ∧ w'.cell? ⟨wr.heap.size, 3, none⟩ = some (.slice pt ty.length ct) := fun w' h => ⟨(h.cell (p := ⟨wr.heap.size, 0, none⟩) (by show wr.heap.size < _; omega)).trans v0, (h.cell (p := ⟨wr.heap.size, 1, none⟩) (by show wr.heap.size < _; omega)).trans v1, (h.cell (p := ⟨wr.heap.size, 2, none⟩) (by show wr.heap.size < _; omega)).trans v2, (h.cell (p := ⟨wr.heap.size, 3, none⟩) (by show wr.heap.size < _; omega)).trans v3⟩
      have HCV : Hid (∀ w', _) := hcV
      have HS2 := hset.up hbV
      have HSV : Hid (NSet V w.heap.size _) := HS2
      have HKV : Hid (AcV w ⟨nm, us, vs, ty⟩ p0 c0' p1 c1' pt ct) := hkv
      clear hcV v0 v1 v2 v3 hset HS2 hkv
      rcases acf_ways ((al.take k).map (·.id)) ⟨nm, us, vs, ty⟩ with ⟨n1, e1⟩ | ⟨n1, n2, e1⟩ | ⟨n1, n2, n3, e1⟩ | ⟨n1, n2, n3, n4, e1⟩
      · rw [eV_not n1] at HC
        have HE : Hid (eV (asf [] al) = .iface 23 (.int .i64 (tmf nm))) := by show _ = _; rw [HS.out, e1, orE_l n1, eV_not n1]
        clear e1 n1 HS HR
        generalize tmf nm = n at *
        go_wp2_with fail
        rw [← hV]
        clear hV
        refine HC.mono ?_
        rintro e w1 ⟨q, _, rfl, hb1⟩
        go_wp2
        go_ret
        exact ⟨by rw [HE.out]; rfl, kqt hbw hb1⟩
      all_goals
        rw [eV_nil n1] at HC
        clear n1 HR
        go_wp2_with fail
        rw [← hV]
        clear hV
        refine HC.mono ?_
        rintro e w1 ⟨q, _, rfl, hb1⟩
        obtain ⟨v0, v1, v2, v3⟩ := HCV.out w1 hb1
        have hb01 := kqt hbw hb1
        have hs1 := HSV.out.up hb1
        have hw1 : wr.heap.size < w1.heap.size := by have := hb1.size; omega
        clear HCV HSV HC
      · have HE : Hid (eV (asf [] al) = .iface 23 (.int .i64 6)) := by show _ = _; rw [HS.out, e1]; rfl
        have HP := sput_twice w.heap.size _ nm w1 hs1 HKV.out.id n2
        clear e1 HS n2 hs1
        go_wp2_with fail
        refine HP.mono ?_
        rintro e w2 ⟨rfl, hb2⟩
        go_wp2
        go_ret
        exact ⟨by rw [HE.out]; rfl, kqt hb01 hb2⟩
      all_goals
        have HP := sput_ok w.heap.size _ nm w1 hs1 HKV.out.id n2 hsl
        clear n2 hs1
        go_wp2_with fail
        refine HP.mono ?_
        rintro e w2 ⟨rfl, hset2, hg2⟩
        have u1 := (grown_cell hg2 (a := ⟨wr.heap.size, 1, none⟩) hw1 (by show wr.heap.size ≠ _; omega)).trans v1
        have u2 := (grown_cell hg2 (a := ⟨wr.heap.size, 2, none⟩) hw1 (by show wr.heap.size ≠ _; omega)).trans v2
        have u3 := (grown_cell hg2 (a := ⟨wr.heap.size, 3, none⟩) hw1 (by show wr.heap.size ≠ _; omega)).trans v3
        have hb2 := hb01.grown hg2 hb01.size (fun j hj => by cases hj; exact Nat.le_refl _)
        clear v0 v1 v2 v3 HP hg2
      · have HE : Hid (eV (asf [] al) = .iface 23 (.int .i64 4)) := by show _ = _; rw [HS.out, e1]; rfl
        clear e1 HS
        try dsimp only at n3
        by_cases h6 : 6 < us.length
        · have j1 : (6 : Int) < (us.length : Int) := by omega
          clear n3 h6
          go_wp2
          go_ret
          exact ⟨by rw [HE.out]; rfl, hb2⟩
        · have j1 : ¬ (6 : Int) < (us.length : Int) := by omega
          have j2 : (6 : Int) < (vs.length : Int) := by omega
          clear n3 h6
          go_wp2
          go_ret
          exact ⟨by rw [HE.out]; rfl, hb2⟩
      · try dsimp only at n3
        try dsimp only at n4
        try dsimp only at e1
        try dsimp only at HT
        have j1 : ¬ (6 : Int) < (us.length : Int) := by omega
        have j2 : ¬ (6 : Int) < (vs.length : Int) := by omega
        have HN1 := checkNames_any us p0 c0' w2 (HKV.out.us.up hb2)
        have HN2 := checkNames_any vs p1 c1' w2 (HKV.out.vs.up hb2)
        have HQ := checkRec_any ty pt ct w2 (HKV.out.ty.up hb2)
        rw [e1] at HS
        clear e1 n3 n4
        by_cases h1 : nsf us = 0
        · rw [eV_nil h1] at HN1
          rw [orE_r h1] at HS
          by_cases h2 : nsf vs = 0
          · rw [eV_nil h2] at HN2
            rw [orE_r h2] at HS
            by_cases h0 : rcf ty = 0
            · have HE : Hid (asf [] al = asf ((al.take (k + 1)).map (·.id)) (al.drop (k + 1))) := by show _ = _; rw [HS.out, orE_r h0]
              rw [eV_nil h0] at HQ
              clear HS h0 h1 h2
              go_wp2_with fail
              refine HN1.mono ?_
              rintro e w3 ⟨rfl, rfl⟩
              go_wp2_with fail
              refine HN2.mono ?_
              rintro e w3 ⟨rfl, rfl⟩
              go_wp2_with fail
              refine HQ.mono ?_
              rintro e w4 ⟨rfl, hb4⟩
              have hset4 := hset2.up hb4
              have hb04 := kqt hb2 hb4
              clear hset2
              go_wp2
              go_roundw
              case rel => exact ⟨k + 1, by omega, by go_num, by rw [HT.out]; exact hset4, hb04, HE⟩
              case measure => simp [intOf]; omega
            · have HE : Hid (eV (asf [] al) = .iface 23 (.int .i64 (rcf ty))) := by show _ = _; rw [HS.out, orE_l h0, eV_not h0]
              rw [eV_not h0] at HQ
              clear HS h0 h1 h2
              generalize rcf ty = n at *
              go_wp2_with fail
              refine HN1.mono ?_
              rintro e w3 ⟨rfl, rfl⟩
              go_wp2_with fail
              refine HN2.mono ?_
              rintro e w3 ⟨rfl, rfl⟩
              go_wp2_with fail
              refine HQ.mono ?_
              rintro e w4 ⟨rfl, hb4⟩
              go_wp2
              go_ret
              exact ⟨by rw [HE.out]; rfl, kqt hb2 hb4⟩
          · have HE : Hid (eV (asf [] al) = .iface 23 (.int .i64 (nsf vs))) := by show _ = _; rw [HS.out, orE_l h2, orE_l h2, eV_not h2]
            rw [eV_not h2] at HN2
            clear HS h1 h2 HQ
            generalize nsf vs = n at *
            go_wp2_with fail
            refine HN1.mono ?_
            rintro e w3 ⟨rfl, rfl⟩
            go_wp2_with fail
            refine HN2.mono ?_
            rintro e w3 ⟨rfl, rfl⟩
            go_wp2
            go_ret
            exact ⟨by rw [HE.out]; rfl, hb2⟩
        · have HE : Hid (eV (asf [] al) = .iface 23 (.int .i64 (nsf us))) := by show _ = _; rw [HS.out, orE_l h1, orE_l h1, eV_not h1]
          rw [eV_not h1] at HN1
          clear HS h1 HN2 HQ
          generalize nsf us = n at *
          go_wp2_with fail
          refine HN1.mono ?_
          rintro e w3 ⟨rfl, rfl⟩
          go_wp2
          go_ret
          exact ⟨by rw [HE.out]; rfl, hb2⟩
    · have i1 : ¬ (k : Int) < (al.length : Int) := by omega
      have HE : Hid (asf [] al = 0) := by show _ = _; rw [HR.out, List.drop_of_length_le (by omega)]; rfl
      clear HR
      go_wp2
      go_ret
      exact ⟨by rw [HE.out]; rfl, hnx⟩
theorem scf_ways (s : Sc) : ((8 < s.ks.length ∨ 8 < s.acs.length) ∧ scf s = 4) ∨ (s.ks.length ≤ 8 ∧ s.acs.length ≤ 8 ∧ scf s = orE (ksf [] s.ks) (asf [] s.acs)) := by
  unfold scf
  by_cases h : 8 < s.ks.length ∨ 8 < s.acs.length
  · exact .inl ⟨h, by rw [decide_eq_true h]; rfl⟩
  · exact .inr ⟨by omega, by omega, by rw [decide_eq_false h]; rfl⟩
set_option maxHeartbeats 2000000 in
/-- Check of a schema. -/
theorem scheck_any (s : Sc) (pk pa : Option Addr) (ck ca : Nat) (w : World) (h : SA w s pk ck pa ca) :
    Calls Tryz.prog 14 #[scV s pk ck pa ca] w fun e w' => e = .returned (eV (scf s)) ∧ Below w.heap.size w w' := by
  unfold scV
  obtain ⟨V, hV⟩ : ∃ V, V = w.alloc (.cells #[.slice pk s.ks.length ck, .slice pa s.acs.length ca] 38) := ⟨_, rfl⟩
  have hbV : Below w.heap.size w V := by rw [hV]; exact kqx
  have hVs : V.heap.size = w.heap.size + 1 := by rw [hV]; simp
  have v0 : V.cell? ⟨w.heap.size, 0, none⟩ = some (.slice pk s.ks.length ck) := by rw [hV]; simp
  have v1 : V.cell? ⟨w.heap.size, 1, none⟩ = some (.slice pa s.acs.length ca) := by rw [hV]; simp
  have HSA : Hid (SA V s pk ck pa ca) := h.up hbV
  clear h
  rcases scf_ways s with ⟨h8, e⟩ | ⟨hk, ha, e⟩
  · have HE : Hid (scf s = 4) := e
    clear e
    by_cases h6 : 8 < s.ks.length
    · have j1 : (8 : Int) < (s.ks.length : Int) := by omega
      clear h8 h6
      go_enter Tryz.func14, Tryz.ntmps14
      go_wp2
      go_ret
      exact ⟨by rw [HE.out]; rfl, kqx⟩
    · have j1 : ¬ (8 : Int) < (s.ks.length : Int) := by omega
      have j2 : (8 : Int) < (s.acs.length : Int) := by omega
      clear h8 h6
      go_enter Tryz.func14, Tryz.ntmps14
      go_wp2
      go_ret
      exact ⟨by rw [HE.out]; rfl, kqx⟩
  · have HE : Hid (scf s = orE (ksf [] s.ks) (asf [] s.acs)) := e
    have j1 : ¬ (8 : Int) < (s.ks.length : Int) := by omega
    have j2 : ¬ (8 : Int) < (s.acs.length : Int) := by omega
    have HC := checkKinds_any s.ks pk ck V HSA.out.ks hk
    by_cases h0 : ksf [] s.ks = 0
    · rw [eV_nil h0] at HC
      have HE2 : Hid (scf s = asf [] s.acs) := by show _ = _; rw [HE.out, orE_r h0]
      have HA := fun W (hW : Below V.heap.size V W) => checkActs_any s.acs pa ca W (HSA.out.asl.up hW) ha
      clear h0 HE e
      by_cases h1 : asf [] s.acs = 0
      · rw [eV_nil h1] at HA
        have HE3 : Hid (eV (scf s) = .nilIface) := by show _ = _; rw [HE2.out, eV_nil h1]
        clear h1 HE2
        go_enter Tryz.func14, Tryz.ntmps14
        go_wp2_with fail
        rw [← hV]
        clear hV
        refine HC.mono ?_
        rintro e w1 ⟨rfl, hb1⟩
        have u1 := (hb1.cell (p := ⟨w.heap.size, 1, none⟩) (by show w.heap.size < _; omega)).trans v1
        go_wp2_with fail
        refine (HA _ hb1).mono ?_
        rintro e w2 ⟨rfl, hb2⟩
        go_wp2
        go_ret
        exact ⟨by rw [HE3.out]; rfl, kqt hbV (kqt hb1 hb2)⟩
      · rw [eV_not h1] at HA
        have HE3 : Hid (eV (scf s) = .iface 23 (.int .i64 (asf [] s.acs))) := by show _ = _; rw [HE2.out, eV_not h1]
        clear h1 HE2
        generalize asf [] s.acs = n at *
        go_enter Tryz.func14, Tryz.ntmps14
        go_wp2_with fail
        rw [← hV]
        clear hV
        refine HC.mono ?_
        rintro e w1 ⟨rfl, hb1⟩
        have u1 := (hb1.cell (p := ⟨w.heap.size, 1, none⟩) (by show w.heap.size < _; omega)).trans v1
        go_wp2_with fail
        refine (HA _ hb1).mono ?_
        rintro e w2 ⟨rfl, hb2⟩
        go_wp2
        go_ret
        exact ⟨by rw [HE3.out]; rfl, kqt hbV (kqt hb1 hb2)⟩
    · rw [eV_not h0] at HC
      have HE3 : Hid (eV (scf s) = .iface 23 (.int .i64 (ksf [] s.ks))) := by show _ = _; rw [HE.out, orE_l h0, eV_not h0]
      clear h0 HE e
      generalize ksf [] s.ks = n at *
      go_enter Tryz.func14, Tryz.ntmps14
      go_wp2_with fail
      rw [← hV]
      clear hV
      refine HC.mono ?_
      rintro e w1 ⟨rfl, hb1⟩
      go_wp2
      go_ret
      exact ⟨by rw [HE3.out]; rfl, kqt hbV hb1⟩
end Go.Proofs.YtpcikfpldmackaaGreatDoor
namespace Go.Proofs.YtpcikfpldmackaaGreatDoor
open Go.RowKit
set_option linter.unusedVariables false
set_option linter.unusedSimpArgs false
set_option maxRecDepth 100000

/-- A kind in a block of its own. -/
structure K3 (w : World) (B : Nat) (a b c : Value) : Prop where
  blk : w.heap[B]? = some (.cells #[a, b, c] 89 (0, 0))
theorem K3.lt {w : World} {B : Nat} {a b c : Value} (h : K3 w B a b c) : B < w.heap.size := (Array.getElem?_eq_some_iff.1 h.blk).1
theorem K3.up {w w' : World} {B : Nat} {a b c : Value} (h : K3 w B a b c) (hb : Below w.heap.size w w') : K3 w' B a b c := ⟨(hb.block B h.lt).trans h.blk⟩
theorem K3.new (w : World) (a b c : Value) {N : Nat} (h : N = w.heap.size) : K3 (w.alloc (.cells #[a, b, c] 89)) N a b c := ⟨fnew_at h⟩
theorem K3.cells {w : World} {B : Nat} {a b c : Value} (h : K3 w B a b c) : w.cell? ⟨B, 0, none⟩ = some a ∧ w.cell? ⟨B, 1, none⟩ = some b ∧ w.cell? ⟨B, 2, none⟩ = some c := by
  have := h.blk
  simp [World.cell?, this]
theorem K3.free {w : World} {B : Nat} {a b c : Value} (h : K3 w B a b c) (j : Nat) : w.frozen? ⟨B, j, none⟩ = false := by
  have := h.blk
  simp [World.frozen?, this]
theorem K3.put {w w' : World} {B : Nat} {a b c a' b' c' : Value} (h : K3 w B a b c) (hw : w' = ((w.setCell ⟨B, 0, none⟩ a').setCell ⟨B, 1, none⟩ b').setCell ⟨B, 2, none⟩ c') : K3 w' B a' b' c' ∧ Keep (fun x => x = B) w w' := by
  have e1 := heap_setCell_same w B 0 _ _ a' h.blk
  have e2 := heap_setCell_same _ B 1 _ _ b' e1
  have e3 := heap_setCell_same _ B 2 _ _ c' e2
  subst hw
  have q : ∀ (W : World) (o : Nat) (z : Value), Keep (fun x => x = B) W (W.setCell ⟨B, o, none⟩ z) := fun W o z => keep_set W B o z
  have t : ∀ {a b c : World}, Keep (fun x => x = B) a b → Keep (fun x => x = B) b c → Keep (fun x => x = B) a c := fun h k => h.trans k (fun _ e => .inl e)
  exact ⟨⟨e3⟩, t (t (q _ _ _) (q _ _ _)) (q _ _ _)⟩
/-- An act in a block of its own. -/
structure K4 (w : World) (B : Nat) (a b c d : Value) : Prop where
  blk : w.heap[B]? = some (.cells #[a, b, c, d] 92 (0, 0))
theorem K4.lt {w : World} {B : Nat} {a b c d : Value} (h : K4 w B a b c d) : B < w.heap.size := (Array.getElem?_eq_some_iff.1 h.blk).1
theorem K4.up {w w' : World} {B : Nat} {a b c d : Value} (h : K4 w B a b c d) (hb : Below w.heap.size w w') : K4 w' B a b c d := ⟨(hb.block B h.lt).trans h.blk⟩
theorem K4.new (w : World) (a b c d : Value) {N : Nat} (h : N = w.heap.size) : K4 (w.alloc (.cells #[a, b, c, d] 92)) N a b c d := ⟨fnew_at h⟩
theorem K4.cells {w : World} {B : Nat} {a b c d : Value} (h : K4 w B a b c d) : w.cell? ⟨B, 0, none⟩ = some a ∧ w.cell? ⟨B, 1, none⟩ = some b ∧ w.cell? ⟨B, 2, none⟩ = some c ∧ w.cell? ⟨B, 3, none⟩ = some d := by
  have := h.blk
  simp [World.cell?, this]
theorem K4.free {w : World} {B : Nat} {a b c d : Value} (h : K4 w B a b c d) (j : Nat) : w.frozen? ⟨B, j, none⟩ = false := by
  have := h.blk
  simp [World.frozen?, this]
theorem K4.put {w w' : World} {B : Nat} {a b c d a' b' c' d' : Value} (h : K4 w B a b c d) (hw : w' = (((w.setCell ⟨B, 0, none⟩ a').setCell ⟨B, 1, none⟩ b').setCell ⟨B, 2, none⟩ c').setCell ⟨B, 3, none⟩ d') : K4 w' B a' b' c' d' ∧ Keep (fun x => x = B) w w' := by
  have e1 := heap_setCell_same w B 0 _ _ a' h.blk
  have e2 := heap_setCell_same _ B 1 _ _ b' e1
  have e3 := heap_setCell_same _ B 2 _ _ c' e2
  have e4 := heap_setCell_same _ B 3 _ _ d' e3
  subst hw
  have q : ∀ (W : World) (o : Nat) (z : Value), Keep (fun x => x = B) W (W.setCell ⟨B, o, none⟩ z) := fun W o z => keep_set W B o z
  have t : ∀ {a b c : World}, Keep (fun x => x = B) a b → Keep (fun x => x = B) b c → Keep (fun x => x = B) a c := fun h k => h.trans k (fun _ e => .inl e)
  exact ⟨⟨e4⟩, t (t (t (q _ _ _) (q _ _ _)) (q _ _ _)) (q _ _ _)⟩
/-- What kindOf tells. -/
def KofRet (w' : World) (en : Ending) : Option Kd → Prop
  | some k => ∃ pu cu pt ct, en = .returned (.tuple #[.agg #[.string k.nm, .slice pu k.up.length cu, .slice pt k.ty.length ct], .nilIface]) ∧ KdV w' k pu cu pt ct
  | none => en = .returned (.tuple #[.agg #[.string ⟨#[]⟩, .slice none 0 0, .slice none 0 0], .iface 23 (.int .i64 3)])
theorem kof_at {ks : List Kd} {s : ByteArray} {k : Nat} (h : k < ks.length) (hn : kof (ks.take k) s = none) : (ks[k].nm = s → kof ks s = some ks[k]) ∧ (ks[k].nm ≠ s → kof (ks.take (k + 1)) s = none) := by
  constructor
  · intro e
    have : ks = ks.take k ++ ks[k] :: ks.drop (k + 1) := by rw [← List.drop_eq_getElem_cons h, List.take_append_drop]
    conv => lhs; rw [this]
    unfold kof at *
    rw [List.find?_append, hn, Option.none_or, List.find?_cons_of_pos (by simpa using e)]
  · intro e
    rw [List.take_succ_eq_append_getElem h]
    unfold kof at *
    rw [List.find?_append, hn, Option.none_or, List.find?_cons_of_neg (by simpa using e)]
    rfl
set_option maxHeartbeats 4000000 in
theorem kindOf_any (ks : List Kd) (p : Option Addr) (c : Nat) (s : ByteArray) (w : World) (hl : KdL w p ks) (h8 : ks.length ≤ 8) :
    Calls Tryz.prog 77 #[.slice p ks.length c, .string s] w fun e w' => KofRet w' e (kof ks s) ∧ Below w.heap.size w w' := by
  have HL : Hid (KdL w p ks) := hl
  clear hl
  obtain ⟨W, hW⟩ : ∃ W, W = w.alloc (.cells #[.string ⟨#[]⟩, .slice none 0 0, .slice none 0 0] 89) := ⟨_, rfl⟩
  have hbW : Below w.heap.size w W := by rw [hW]; exact kqx
  have hr_0 : K3 W w.heap.size (.string ⟨#[]⟩) (.slice none 0 0) (.slice none 0 0) := by rw [hW]; exact K3.new w _ _ _ rfl
  have hWs : w.heap.size + 1 ≤ W.heap.size := by rw [hW]; simp
  go_enter Tryz.func77, Tryz.ntmps77
  go_wp2
  rw [← hW]
  clear hW
  go_loopw [10] (fun i wr => ∃ k : Nat, k ≤ ks.length ∧ i = .int .i64 k ∧ Hid (kof (ks.take k) s = none) ∧ K3 wr w.heap.size (.string ⟨#[]⟩) (.slice none 0 0) (.slice none 0 0) ∧ Below w.heap.size w wr ∧ w.heap.size + 1 ≤ wr.heap.size) (fun i _ => ks.length - (intOf i).toNat)
  case atStart => exact ⟨0, Nat.zero_le _, rfl, rfl, hr_0, hbW, hWs⟩
  case round =>
    rename World => w3
    obtain ⟨k, hk, rfl, HF, hr_3, hb3, hs3⟩ := hrel
    by_cases hlt : k < ks.length
    · have i1 : (k : Int) < (ks.length : Int) := by omega
      obtain ⟨b, off, pu, cu, pt, ct, rfl, hbl, hkv, c0, c1, c2⟩ := HL.out.at hlt
      replace c0 := (hb3.cell (p := ⟨b, off + k * 3, none⟩) hbl).trans c0
      replace c1 := (hb3.cell (p := ⟨b, off + k * 3 + 1, none⟩) hbl).trans c1
      replace c2 := (hb3.cell (p := ⟨b, off + k * 3 + 2, none⟩) hbl).trans c2
      have HX : Hid _ := kof_at (s := s) hlt HF.out
      have HKV : Hid (KdV w ks[k] pu cu pt ct) := hkv
      clear hkv
      generalize ks[k] = x at *
      obtain ⟨nm, up, ty⟩ := x
      dsimp only at c0 c1 c2
      obtain ⟨V6, hV6⟩ : ∃ V6, V6 = w3.alloc (.cells #[.string nm, .slice pu up.length cu, .slice pt ty.length ct] 89) := ⟨_, rfl⟩
      have hb6 : Below w3.heap.size w3 V6 := by rw [hV6]; exact kqx
      have hr_6 := hr_3.up hb6
      by_cases he : nm = s
      · subst he
        have HK : Hid (kof ks nm = some ⟨nm, up, ty⟩) := HX.out.1 rfl
        obtain ⟨s0, s1, s2⟩ := hr_6.cells
        have fr := hr_6.free
        rw [hV6] at s0 s1 s2 fr
        clear HX HF
        go_wp2
        rw [← hV6]
        obtain ⟨V, hV⟩ : ∃ V, V = ((V6.setCell ⟨w.heap.size, 0, none⟩ (.string nm)).setCell ⟨w.heap.size, 1, none⟩ (.slice pu up.length cu)).setCell ⟨w.heap.size, 2, none⟩ (.slice pt ty.length ct) := ⟨_, rfl⟩
        obtain ⟨hPV, hKV⟩ := hr_6.put hV
        obtain ⟨t0, t1, t2⟩ := hPV.cells
        have hbV : Below w.heap.size V6 V := hKV.below (by have := hb6.size; omega) (fun a e => by omega)
        rw [← hV]
        have hbf : Below w.heap.size w V := (hb3.trans (hb6.mono hb3.size)).trans hbV
        refine bodyPost_ret (v := .tuple #[.agg #[.string nm, .slice pu up.length cu, .slice pt ty.length ct], .nilIface]) (by simp [results, Tryz.results77, go_sem, t0, t1, t2]) rfl ⟨?_, hbf⟩
        rw [HK.out]
        exact ⟨_, _, _, _, rfl, HKV.out.up hbf⟩
      · have HF2 : Hid (kof (ks.take (k + 1)) s = none) := HX.out.2 he
        have e1 : (nm.toList == s.toList) = false := by simpa using tl_neS he
        clear he HX HF
        go_wp2_with fail
        rw [← hV6]
        go_roundw
        case rel => exact ⟨k + 1, by omega, by go_num, HF2, hr_6, kqt hb3 hb6, by have := hb6.size; omega⟩
        case measure => simp [intOf]; omega
    · have i1 : ¬ (k : Int) < (ks.length : Int) := by omega
      have HK : Hid (kof ks s = none) := by
        have := HF.out
        rw [List.take_of_length_le (by omega)] at this
        exact this
      obtain ⟨s0, s1, s2⟩ := hr_3.cells
      have fr := hr_3.free
      clear HF
      go_wp2
      obtain ⟨V, hV⟩ : ∃ V, V = ((w3.setCell ⟨w.heap.size, 0, none⟩ (.string ⟨#[]⟩)).setCell ⟨w.heap.size, 1, none⟩ (.slice none 0 0)).setCell ⟨w.heap.size, 2, none⟩ (.slice none 0 0) := ⟨_, rfl⟩
      obtain ⟨hPV, hKV⟩ := hr_3.put hV
      obtain ⟨t0, t1, t2⟩ := hPV.cells
      have hbV : Below w.heap.size w3 V := hKV.below (by omega) (fun a e => by omega)
      try rw [← hV]
      refine bodyPost_ret (v := .tuple #[.agg #[.string ⟨#[]⟩, .slice none 0 0, .slice none 0 0], .iface 23 (.int .i64 3)]) (by simp [results, Tryz.results77, go_sem, t0, t1, t2]) rfl ⟨?_, hb3.trans hbV⟩
      rw [HK.out]
      rfl
/-- What actOf tells. -/
def AofRet (w' : World) (en : Ending) : Option Ac → Prop
  | some a => ∃ p0 c0 p1 c1 pt ct, en = .returned (.tuple #[.agg #[.string a.id, .slice p0 a.who.length c0, .slice p1 a.what.length c1, .slice pt a.cx.length ct], .nilIface]) ∧ AcV w' a p0 c0 p1 c1 pt ct
  | none => en = .returned (.tuple #[.agg #[.string ⟨#[]⟩, .slice none 0 0, .slice none 0 0, .slice none 0 0], .iface 23 (.int .i64 3)])
theorem aof_at {al : List Ac} {u : Ui} {k : Nat} (h : k < al.length) (hn : aof (al.take k) u = none) : (u.t = actT → al[k].id = u.i → aof al u = some al[k]) ∧ (¬ (u.t = actT ∧ al[k].id = u.i) → aof (al.take (k + 1)) u = none) := by
  constructor
  · intro e1 e2
    have : al = al.take k ++ al[k] :: al.drop (k + 1) := by rw [← List.drop_eq_getElem_cons h, List.take_append_drop]
    conv => lhs; rw [this]
    unfold aof at *
    rw [List.find?_append, hn, Option.none_or, List.find?_cons_of_pos (by simp [e1, e2])]
  · intro e
    rw [List.take_succ_eq_append_getElem h]
    unfold aof at *
    rw [List.find?_append, hn, Option.none_or, List.find?_cons_of_neg (by simpa using e)]
    rfl
set_option maxHeartbeats 4000000 in
theorem actOf_any (al : List Ac) (p : Option Addr) (c : Nat) (u : Ui) (w : World) (hl : AcL w p al) (h8 : al.length ≤ 8) :
    Calls Tryz.prog 45 #[.slice p al.length c, .agg #[.string u.t, .string u.i]] w fun e w' => AofRet w' e (aof al u) ∧ Below w.heap.size w w' := by
  have HL : Hid (AcL w p al) := hl
  clear hl
  obtain ⟨W, hW⟩ : ∃ W, W = (w.alloc (.cells #[.string u.t, .string u.i] 41)).alloc (.cells #[.string ⟨#[]⟩, .slice none 0 0, .slice none 0 0, .slice none 0 0] 92) := ⟨_, rfl⟩
  have hbW : Below w.heap.size w W := by rw [hW]; exact kqx
  have hr_0 : K4 W (w.heap.size + 1) (.string ⟨#[]⟩) (.slice none 0 0) (.slice none 0 0) (.slice none 0 0) := by rw [hW]; exact K4.new _ _ _ _ _ (by simp)
  have hWs : w.heap.size + 2 ≤ W.heap.size := by rw [hW]; simp
  have a0 : W.cell? ⟨w.heap.size, 0, none⟩ = some (.string u.t) := by rw [hW]; simp
  have a1 : W.cell? ⟨w.heap.size, 1, none⟩ = some (.string u.i) := by rw [hW]; simp
  go_enter Tryz.func45, Tryz.ntmps45
  go_wp2
  rw [← hW]
  clear hW
  go_loopw [10] (fun i wr => ∃ k : Nat, k ≤ al.length ∧ i = .int .i64 k ∧ Hid (aof (al.take k) u = none) ∧ K4 wr (w.heap.size + 1) (.string ⟨#[]⟩) (.slice none 0 0) (.slice none 0 0) (.slice none 0 0) ∧ wr.cell? ⟨w.heap.size, 0, none⟩ = some (.string u.t) ∧ wr.cell? ⟨w.heap.size, 1, none⟩ = some (.string u.i) ∧ Below w.heap.size w wr ∧ w.heap.size + 2 ≤ wr.heap.size) (fun i _ => al.length - (intOf i).toNat)
  case atStart => exact ⟨0, Nat.zero_le _, rfl, rfl, hr_0, a0, a1, hbW, hWs⟩
  case round =>
    rename World => w3
    obtain ⟨k, hk, rfl, HF, hr_3, a0, a1, hb3, hs3⟩ := hrel
    by_cases hlt : k < al.length
    · have i1 : (k : Int) < (al.length : Int) := by omega
      obtain ⟨b, off, p0, c0', p1, c1', pt, ct, rfl, hbl, hkv, c0, c1, c2, c3⟩ := HL.out.at hlt
      replace c0 := (hb3.cell (p := ⟨b, off + k * 4, none⟩) hbl).trans c0
      replace c1 := (hb3.cell (p := ⟨b, off + k * 4 + 1, none⟩) hbl).trans c1
      replace c2 := (hb3.cell (p := ⟨b, off + k * 4 + 2, none⟩) hbl).trans c2
      replace c3 := (hb3.cell (p := ⟨b, off + k * 4 + 3, none⟩) hbl).trans c3
      have HX : Hid _ := aof_at (u := u) hlt HF.out
      have HKV : Hid (AcV w al[k] p0 c0' p1 c1' pt ct) := hkv
      clear hkv
      generalize al[k] = x at *
      obtain ⟨nm, us, vs, ty⟩ := x
      dsimp only at c0 c1 c2 c3
      obtain ⟨V6, hV6⟩ : ∃ V6, V6 = w3.alloc (.cells #[.string nm, .slice p0 us.length c0', .slice p1 vs.length c1', .slice pt ty.length ct] 92) := ⟨_, rfl⟩
      have hb6 : Below w3.heap.size w3 V6 := by rw [hV6]; exact kqx
      have hr_6 := hr_3.up hb6
      have d0 := (hb6.cell (p := ⟨w.heap.size, 0, none⟩) (by show w.heap.size < _; omega)).trans a0
      have d1 := (hb6.cell (p := ⟨w.heap.size, 1, none⟩) (by show w.heap.size < _; omega)).trans a1
      by_cases he : u.t = actT ∧ nm = u.i
      · obtain ⟨he1, he2⟩ := he
        have HK : Hid (aof al u = some ⟨nm, us, vs, ty⟩) := HX.out.1 he1 he2
        obtain ⟨s0, s1, s2, s3⟩ := hr_6.cells
        have fr := hr_6.free
        rw [hV6] at s0 s1 s2 s3 fr
        rw [hV6, he1] at d0
        rw [hV6, ← he2] at d1
        unfold actT at d0
        clear HX HF he1 he2 a0 a1
        go_wp2
        rw [← hV6]
        obtain ⟨V, hV⟩ : ∃ V, V = (((V6.setCell ⟨w.heap.size + 1, 0, none⟩ (.string nm)).setCell ⟨w.heap.size + 1, 1, none⟩ (.slice p0 us.length c0')).setCell ⟨w.heap.size + 1, 2, none⟩ (.slice p1 vs.length c1')).setCell ⟨w.heap.size + 1, 3, none⟩ (.slice pt ty.length ct) := ⟨_, rfl⟩
        obtain ⟨hPV, hKV⟩ := hr_6.put hV
        obtain ⟨t0, t1, t2, t3⟩ := hPV.cells
        have hbV : Below w.heap.size V6 V := hKV.below (by have := hb6.size; omega) (fun a e => by omega)
        rw [← hV]
        have hbf : Below w.heap.size w V := (hb3.trans (hb6.mono hb3.size)).trans hbV
        refine bodyPost_ret (v := .tuple #[.agg #[.string nm, .slice p0 us.length c0', .slice p1 vs.length c1', .slice pt ty.length ct], .nilIface]) (by simp [results, Tryz.results45, go_sem, t0, t1, t2, t3]) rfl ⟨?_, hbf⟩
        rw [HK.out]
        exact ⟨_, _, _, _, _, _, rfl, HKV.out.up hbf⟩
      · have HF2 : Hid (aof (al.take (k + 1)) u = none) := HX.out.2 he
        by_cases he1 : u.t = actT
        · have e1 : (nm.toList == u.i.toList) = false := by simpa using tl_neS (fun e => he ⟨he1, e⟩)
          have D0 := d0
          have D1 := d1
          rw [hV6, he1] at d0
          rw [hV6] at d1
          unfold actT at d0
          have HD0 : Hid (V6.cell? ⟨w.heap.size, 0, none⟩ = some (.string u.t)) := D0
          have HD1 : Hid (V6.cell? ⟨w.heap.size, 1, none⟩ = some (.string u.i)) := D1
          clear he HX HF he1 D0 D1 a0 a1
          go_wp2_with fail
          rw [← hV6]
          go_roundw
          case rel => exact ⟨k + 1, by omega, by go_num, HF2, hr_6, HD0.out, HD1.out, kqt hb3 hb6, by have := hb6.size; omega⟩
          case measure => simp [intOf]; omega
        · have e1 : ¬ u.t.toList = [65, 99, 116, 105, 111, 110] := fun e => tl_neS he1 (by rw [e, ByteArray.toList_eq]; rfl)
          have e2 : (u.t.toList == [65, 99, 116, 105, 111, 110]) = false := by rw [beq_eq_false_iff_ne]; exact e1
          have HD0 : Hid (V6.cell? ⟨w.heap.size, 0, none⟩ = some (.string u.t)) := d0
          have HD1 : Hid (V6.cell? ⟨w.heap.size, 1, none⟩ = some (.string u.i)) := d1
          rw [hV6] at d0 d1
          clear he HX HF he1 a0 a1
          go_wp2_with fail
          rw [← hV6]
          go_roundw
          case rel => exact ⟨k + 1, by omega, by go_num, HF2, hr_6, HD0.out, HD1.out, kqt hb3 hb6, by have := hb6.size; omega⟩
          case measure => simp [intOf]; omega
    · have i1 : ¬ (k : Int) < (al.length : Int) := by omega
      have HK : Hid (aof al u = none) := by
        have := HF.out
        rw [List.take_of_length_le (by omega)] at this
        exact this
      obtain ⟨s0, s1, s2, s3⟩ := hr_3.cells
      have fr := hr_3.free
      clear HF
      go_wp2
      obtain ⟨V, hV⟩ : ∃ V, V = (((w3.setCell ⟨w.heap.size + 1, 0, none⟩ (.string ⟨#[]⟩)).setCell ⟨w.heap.size + 1, 1, none⟩ (.slice none 0 0)).setCell ⟨w.heap.size + 1, 2, none⟩ (.slice none 0 0)).setCell ⟨w.heap.size + 1, 3, none⟩ (.slice none 0 0) := ⟨_, rfl⟩
      obtain ⟨hPV, hKV⟩ := hr_3.put hV
      obtain ⟨t0, t1, t2, t3⟩ := hPV.cells
      have hbV : Below w.heap.size w3 V := hKV.below (by omega) (fun a e => by omega)
      try rw [← hV]
      refine bodyPost_ret (v := .tuple #[.agg #[.string ⟨#[]⟩, .slice none 0 0, .slice none 0 0, .slice none 0 0], .iface 23 (.int .i64 3)]) (by simp [results, Tryz.results45, go_sem, t0, t1, t2, t3]) rfl ⟨?_, hb3.trans hbV⟩
      rw [HK.out]
      rfl
end Go.Proofs.YtpcikfpldmackaaGreatDoor
namespace Go.Proofs.YtpcikfpldmackaaGreatDoor
open Go.RowKit
set_option linter.unusedVariables false
set_option maxRecDepth 100000

theorem aqt {a b c : World} (h : Below a.heap.size a b) (k : Below b.heap.size b c) : Below a.heap.size a c := h.trans (k.mono h.size)
/-- A request as a value. -/
def reqV (q : Rq) (pq : Option Addr) (cq : Nat) : Value := .agg #[.string q.who.t, .string q.who.i, .string q.act.t, .string q.act.i, .string q.what.t, .string q.what.i, .slice pq q.cx.length cq]
def uAt (q : Rq) : Nat → Ui
  | 0 => q.who | 1 => q.act | _ => q.what
structure RqArg (w : World) (q : Rq) (pq : Option Addr) (cq : Nat) : Prop where
  u0 : UOk q.who
  u1 : UOk q.act
  u2 : UOk q.what
  nl : NL w pq q.cx
  le : q.cx.length ≤ cq
  cm : cq ≤ maxLen
set_option maxHeartbeats 1000000 in
theorem ask_any (q : Rq) (pq : Option Addr) (cq : Nat) (w : World) (h : RqArg w q pq cq) :
    Calls Tryz.prog 44 #[reqV q pq cq] w fun e w' => e = .returned (eV (askf q)) ∧ Below w.heap.size w w' := by
  unfold reqV
  have hAsk : ∀ j, j ≤ 2 → (∀ l, l < j → uf (uAt q l) = 0) → uf (uAt q j) ≠ 0 → askf q = uf (uAt q j) := by
    intro j hj hz hn
    unfold askf
    match j, hj with
    | 0, _ =>
      have n0 : uf q.who ≠ 0 := hn
      rw [if_neg n0]; rfl
    | 1, _ =>
      have z0 : uf q.who = 0 := hz 0 (by omega)
      have n0 : uf q.act ≠ 0 := hn
      rw [if_pos z0, if_neg n0]; rfl
    | 2, _ =>
      have z0 : uf q.who = 0 := hz 0 (by omega)
      have z1 : uf q.act = 0 := hz 1 (by omega)
      have n0 : uf q.what ≠ 0 := hn
      rw [if_pos z0, if_pos z1, if_neg n0]; rfl
  have hAll : (∀ l, l < 3 → uf (uAt q l) = 0) → askf q = afault q.cx := by
    intro hz
    have z0 : uf q.who = 0 := hz 0 (by omega)
    have z1 : uf q.act = 0 := hz 1 (by omega)
    have z2 : uf q.what = 0 := hz 2 (by omega)
    unfold askf
    rw [if_pos z0, if_pos z1, if_pos z2]
  have hok : ∀ j, UOk (uAt q j) := fun j => by
    match j with
    | 0 => exact h.u0
    | 1 => exact h.u1
    | _ + 2 => exact h.u2
  have hbW : Below w.heap.size w ((w.alloc (.cells #[.string q.who.t, .string q.who.i, .string q.act.t, .string q.act.i, .string q.what.t, .string q.what.i, .slice pq q.cx.length cq] 43)).alloc (.cells #[.string q.who.t, .string q.who.i, .string q.act.t, .string q.act.i, .string q.what.t, .string q.what.i] 41)) := ((Below.refl _ _).alloc (Nat.le_refl _) _).alloc (by simp) _
  have hsW : ((w.alloc (.cells #[.string q.who.t, .string q.who.i, .string q.act.t, .string q.act.i, .string q.what.t, .string q.what.i, .slice pq q.cx.length cq] 43)).alloc (.cells #[.string q.who.t, .string q.who.i, .string q.act.t, .string q.act.i, .string q.what.t, .string q.what.i] 41)).heap.size = w.heap.size + 2 := by simp
  have hcW : ∀ j, j ≤ 2 → ((w.alloc (.cells #[.string q.who.t, .string q.who.i, .string q.act.t, .string q.act.i, .string q.what.t, .string q.what.i, .slice pq q.cx.length cq] 43)).alloc (.cells #[.string q.who.t, .string q.who.i, .string q.act.t, .string q.act.i, .string q.what.t, .string q.what.i] 41)).cell? ⟨w.heap.size + 1, j * 2, none⟩ = some (.string (uAt q j).t) ∧ ((w.alloc (.cells #[.string q.who.t, .string q.who.i, .string q.act.t, .string q.act.i, .string q.what.t, .string q.what.i, .slice pq q.cx.length cq] 43)).alloc (.cells #[.string q.who.t, .string q.who.i, .string q.act.t, .string q.act.i, .string q.what.t, .string q.what.i] 41)).cell? ⟨w.heap.size + 1, j * 2 + 1, none⟩ = some (.string (uAt q j).i) := by
    intro j hj
    have e : ∀ o, ((w.alloc (.cells #[.string q.who.t, .string q.who.i, .string q.act.t, .string q.act.i, .string q.what.t, .string q.what.i, .slice pq q.cx.length cq] 43)).alloc (.cells #[.string q.who.t, .string q.who.i, .string q.act.t, .string q.act.i, .string q.what.t, .string q.what.i] 41)).cell? ⟨w.heap.size + 1, o, none⟩ = (#[.string q.who.t, .string q.who.i, .string q.act.t, .string q.act.i, .string q.what.t, .string q.what.i] : Array Value)[o]? := fun o => World.cell?_alloc_at _ _ _ o (by simp)
    rw [e, e]
    match j, hj with
    | 0, _ => exact ⟨rfl, rfl⟩
    | 1, _ => exact ⟨rfl, rfl⟩
    | 2, _ => exact ⟨rfl, rfl⟩
  have hqW : ((w.alloc (.cells #[.string q.who.t, .string q.who.i, .string q.act.t, .string q.act.i, .string q.what.t, .string q.what.i, .slice pq q.cx.length cq] 43)).alloc (.cells #[.string q.who.t, .string q.who.i, .string q.act.t, .string q.act.i, .string q.what.t, .string q.what.i] 41)).cell? ⟨w.heap.size, 6, none⟩ = some (.slice pq q.cx.length cq) := by simp
  have hn0 := h.nl
  have hle := h.le
  have hcm := h.cm
  clear h
  go_enter Tryz.func44, Tryz.ntmps44
  go_wp2_with fail
  generalize (w.alloc (.cells #[.string q.who.t, .string q.who.i, .string q.act.t, .string q.act.i, .string q.what.t, .string q.what.i, .slice pq q.cx.length cq] 43)).alloc (.cells #[.string q.who.t, .string q.who.i, .string q.act.t, .string q.act.i, .string q.what.t, .string q.what.i] 41) = W at *
  go_loopw [16] (fun i wr => ∃ j : Nat, j ≤ 3 ∧ i = .int .i64 j ∧ Hid (∀ l, l < j → uf (uAt q l) = 0) ∧ Below W.heap.size W wr) (fun i _ => 3 - (intOf i).toNat)
  case atStart => exact ⟨0, Nat.zero_le _, rfl, fun l hl => absurd hl (by omega), Below.refl _ _⟩
  case round =>
    rename World => wr
    obtain ⟨j, hj, rfl, HZ, hbr⟩ := hrel
    by_cases hlt : j < 3
    · have i1 : (j : Int) < 3 := by omega
      obtain ⟨c0, c1⟩ := hcW j (by omega)
      have y0 := (hbr.cell (p := ⟨w.heap.size + 1, j * 2, none⟩) (by show w.heap.size + 1 < _; omega)).trans c0
      have y1 := (hbr.cell (p := ⟨w.heap.size + 1, j * 2 + 1, none⟩) (by show w.heap.size + 1 < _; omega)).trans c1
      have HW := fun w1 => write_any (uAt q j).t (uAt q j).i w1 (hok j).1 (hok j).2
      have hbx : Below wr.heap.size wr (wr.alloc (.cells #[.string (uAt q j).t, .string (uAt q j).i] 41)) := (Below.refl _ _).alloc (Nat.le_refl _) _
      have eU : ufault (uAt q j).t.data.toList (uAt q j).i.data.toList = uf (uAt q j) := rfl
      rw [eU] at HW
      clear c0 c1 eU
      by_cases hu : uf (uAt q j) = 0
      · rw [eV_nil hu] at HW
        have HZ2 : Hid (∀ l, l < j + 1 → uf (uAt q l) = 0) := fun l hl => by
          by_cases e : l = j
          · rw [e]; exact hu
          · exact HZ.out l (by omega)
        clear hu HZ
        generalize uAt q j = u at *
        obtain ⟨ut, ui⟩ := u
        go_wp2_with (go_at_call 81; refine (HW _).mono ?_; rintro e w1 ⟨t1, rfl, hb1⟩)
        go_roundw
        case rel => exact ⟨j + 1, by omega, by go_num, HZ2, hbr.trans ((hbx.trans (hb1.mono hbx.size)).mono hbr.size)⟩
        case measure => simp [intOf]; omega
      · rw [eV_not hu] at HW
        have HA2 : Hid (askf q = uf (uAt q j)) := hAsk j (by omega) HZ.out hu
        have HU : Hid (uf (uAt q j) ≠ 0) := hu
        clear hu HZ
        generalize hn : uf (uAt q j) = n at *
        clear hn
        generalize uAt q j = u at *
        obtain ⟨ut, ui⟩ := u
        go_wp2_with (go_at_call 81; refine (HW _).mono ?_; rintro e w1 ⟨t1, rfl, hb1⟩)
        go_ret
        rw [HA2.out, eV_not HU.out]
        exact ⟨rfl, aqt hbW (hbr.trans ((hbx.trans (hb1.mono hbx.size)).mono hbr.size))⟩
    · have i1 : ¬ (j : Int) < 3 := by omega
      obtain rfl : j = 3 := by omega
      have HA2 : Hid (askf q = afault q.cx) := hAll HZ.out
      have y6 := (hbr.cell (p := ⟨w.heap.size, 6, none⟩) (by show w.heap.size < _; omega)).trans hqW
      have hbw := aqt hbW hbr
      have HC := vcheck_any q.cx pq cq wr (hn0.up hbw) hle hcm
      by_cases hv : vfault q.cx = 0
      · rw [eV_nil hv] at HC
        obtain ⟨x, r, ex, _⟩ := value_head hv
        have hnr := hn0.up hbw
        obtain ⟨b, off, rfl, hbb, x0, hrest⟩ := hnr.at (i := 0) (by rw [ex]; simp)
        clear hrest
        simp only [Nat.zero_mul, Nat.add_zero] at x0
        have hx0 : q.cx[0]'(by rw [ex]; simp) = x := by simp [ex]
        rw [hx0] at x0
        have i2 : (0 : Int) < (q.cx.length : Int) := by rw [ex]; simp
        have HF : Hid (afault q.cx = if x.op = 6 then 0 else 2) := by show _ = _; unfold afault; rw [if_pos hv, ex]
        by_cases h6 : x.op = 6
        · have e6 : (x.op != 6) = false := by simpa using h6
          have HE : Hid (eV (askf q) = .nilIface) := by show _ = _; rw [HA2.out, HF.out, if_pos h6]; rfl
          clear hv h6 ex hx0 HF HA2
          go_wp2_with fail
          refine HC.mono ?_
          rintro e w1 ⟨rfl, hb1⟩
          have z0 := (hb1.cell (p := ⟨b, off, none⟩) hbb).trans x0
          have z6 := (hb1.cell (p := ⟨w.heap.size, 6, none⟩) (by have := hbr.size; show w.heap.size < _; omega)).trans y6
          go_wp2
          go_ret
          rw [HE.out]
          exact ⟨rfl, aqt hbw hb1⟩
        · have e6 : (x.op != 6) = true := by simpa using h6
          have HE : Hid (eV (askf q) = .iface 23 (.int .i64 2)) := by show _ = _; rw [HA2.out, HF.out, if_neg h6]; rfl
          clear hv h6 ex hx0 HF HA2
          go_wp2_with fail
          refine HC.mono ?_
          rintro e w1 ⟨rfl, hb1⟩
          have z0 := (hb1.cell (p := ⟨b, off, none⟩) hbb).trans x0
          have z6 := (hb1.cell (p := ⟨w.heap.size, 6, none⟩) (by have := hbr.size; show w.heap.size < _; omega)).trans y6
          go_wp2
          go_ret
          rw [HE.out]
          exact ⟨rfl, aqt hbw hb1⟩
      · rw [eV_not hv] at HC
        have HF : Hid (eV (askf q) = .iface 23 (.int .i64 (vfault q.cx))) := by
          show _ = _
          rw [HA2.out]
          unfold afault
          rw [if_neg hv, eV_not hv]
        clear hv HA2
        generalize vfault q.cx = n at *
        go_wp2_with fail
        refine HC.mono ?_
        rintro e w1 ⟨rfl, hb1⟩
        go_wp2
        go_ret
        rw [HF.out]
        exact ⟨rfl, aqt hbw hb1⟩
end Go.Proofs.YtpcikfpldmackaaGreatDoor
namespace Go.Proofs.YtpcikfpldmackaaGreatDoor
open Go.RowKit
set_option linter.unusedVariables false

theorem append_listN (w : World) {ops : Array Oper} {rest : List Oper} {o : Oper} {a : Act} {Q : Exit → Act → World → Prop} (hgd : o.guard = none) (s x : Operand)
    (ho : o.op = .call { callee := .builtin .append, args := #[s, x], argTypes := #[64, 64] })
    (base : Nat) (v : Value) (vs : List (List Nd)) (hs : a.eval s = v) (hown : OL w base v vs) (L : List Nd) (n : Nat) (hn : L.length = n) (q : Option Addr) (c : Nat) (hN : NT w base q L) (hlc : n ≤ c) (hcm : c ≤ maxLen)
    (hx : a.eval x = .slice (some ⟨w.heap.size, 0, none⟩) 1 1) (hlen : vs.length + 1 ≤ 1099511627776) (hbase : base ≤ w.heap.size)
    (h : ∀ v' w', OL w' base v' (vs ++ [L]) → Kept base 22 w w' → wpList Tryz.prog ops Q rest (a.put o.dst v') w') : wpList Tryz.prog ops Q (o :: rest) a (w.alloc (.cells #[.slice q n c] 22)) := by
  subst hn
  exact append_list w hgd s x ho base v vs hs hown L q c hN hlc hcm hx hlen hbase h

/-- What Parts hands back: the parts, and their names. -/
def PartsRet (w : World) (ss : List (List Nd)) (e : Ending) : Prop := ∃ q1 c1 q2 c2, e = .returned (.tuple #[.slice q1 ss.length c1, .slice q2 ss.length c2]) ∧ LL w q1 (ss.map strip) ∧ TL w q2 (ss.map nameOf)

theorem Segs.drop_eq {v : List Nd} {at_ : Nat} {a r : List Nd} (h : v.drop at_ = a ++ r) : v.drop (at_ + a.length) = r ∧ (v.drop at_).take a.length = a := by
  refine ⟨?_, by rw [h, List.take_left]⟩
  rw [← List.drop_drop, h, List.drop_left]

theorem Rising.heads {l : ByteArray} {ss : List (List Nd)} (h : Rising l ss) : ∀ s ∈ ss, ∃ y t, s = y :: t ∧ y.op = 7 := by
  induction h with
  | nil => simp
  | cons h7 hl hs ih =>
    intro s hs'
    rcases List.mem_cons.1 hs' with rfl | hs'
    · exact ⟨_, _, rfl, h7⟩
    · exact ih s hs'

set_option maxRecDepth 100000 in
set_option maxHeartbeats 600000 in
theorem refParts_set (x : Nd) (r : List Nd) (ss : List (List Nd)) (hss : Segs (x :: r).length r ss) (hh : ∀ s ∈ ss, ∃ y t, s = y :: t ∧ y.op ≠ 7) (hcnt : (ss.length : Int) = x.n) (b off c : Nat) (w : World) (hv : NL w (some ⟨b, off, none⟩) (x :: r)) (hbw : b < w.heap.size) (hl : (x :: r).length ≤ 200) (hc : (x :: r).length ≤ c) (hcm : c ≤ maxLen) (hop : x.op = 5) :
    Calls Tryz.prog 24 #[.slice (some ⟨b, off, none⟩) (x :: r).length c] w fun e w' => PartsRet w' ss e ∧ Below w.heap.size w w' := by
  have HM : Hid (c ≤ maxLen) := hcm
  unfold maxLen at hcm
  have hsl := hss.length
  obtain ⟨b', o', hpe, _, x0, x1, _, _, xw⟩ := hv.head
  obtain ⟨rfl, rfl⟩ : b = b' ∧ off = o' := by simpa using hpe
  have HSS : Hid (Segs (x :: r).length r ss) := hss
  have HH : Hid (∀ s ∈ ss, ∃ y t, s = y :: t ∧ y.op ≠ 7) := hh
  generalize hV : x :: r = v at *
  have hvl : v.length = r.length + 1 := by rw [← hV]; rfl
  have HVL : Hid (v.length = r.length + 1) := hvl
  have hd1 : v.drop 1 = r := by rw [← hV]; rfl
  have HD1 : Hid (_ = _) := hd1
  have eop : (x.op == 6) = false := by simp [hop]
  have i0 : (0 : Int) < (v.length : Int) := by omega
  have hsl2 : ss.length + 1 ≤ v.length := by omega
  clear hss hh hpe hop hV hd1 hvl
  go_enter Tryz.func24, Tryz.ntmps24
  go_wp2
  go_loopw [4, 5, 6, 7, 8] (fun ov nv sa i sn wr => ∃ (k at_ : Nat) (done ss' : List (List Nd)), i = .int .i64 k ∧ sa = .int .i64 at_ ∧ OL wr w.heap.size ov (done.map strip) ∧ OT wr w.heap.size nv (done.map nameOf) ∧ done.length = k ∧ Hid (Segs v.length (v.drop at_) ss') ∧ Hid (done ++ ss' = ss) ∧ at_ ≤ v.length ∧ 1 ≤ at_ ∧ Below w.heap.size w wr) (fun _ _ _ i _ _ => ss.length - (intOf i).toNat)
  case atStart => exact ⟨0, 1, [], ss, rfl, rfl, OL.nil _ _, Row1.nil _ _ _, rfl, by rw [HD1.out]; exact HSS, rfl, by omega, Nat.le_refl _, Below.refl _ _⟩
  case round =>
    obtain ⟨k, at_, done, ss', rfl, rfl, hol, hot, hdl, HSg, HD, hat, hat1, hb⟩ := hrel
    have z0 := (hb.cell (p := ⟨b, off, none⟩) hbw).trans x0
    have z1 := (hb.cell (p := ⟨b, off + 1, none⟩) hbw).trans x1
    have hlen := congrArg List.length HD.out
    rw [List.length_append] at hlen
    have hvr := hv.up hb
    generalize hu : v.drop at_ = u at *
    cases hsg : HSg.out with
    | nil =>
      have HE : Hid (done = ss) := by have := HD.out; show _ = _; simpa using this
      simp at hlen
      have i1 : ¬ (k : Int) < x.n := by omega
      clear hsg
      obtain ⟨q1, c1, rfl, hll, _⟩ := hol.lists
      obtain ⟨q2, c2, rfl, htl, _⟩ := hot.texts
      rw [HE.out] at hll htl ⊢
      simp only [List.length_map]
      go_wp2
      go_ret2
      exact ⟨⟨q1, c1, q2, c2, rfl, hll, htl⟩, hb⟩
    | @cons a r' ss2 h hs =>
      obtain ⟨y, t, rfl, hy⟩ := HH.out a (by rw [← HD.out]; simp)
      simp at hlen
      have hul : (v.drop at_).length = v.length - at_ := by simp
      rw [hu] at hul
      simp at hul
      have i1 : (k : Int) < x.n := by omega
      have hda := Segs.drop_eq hu
      simp only [List.length_cons] at hda
      have HS2 : Hid (Segs v.length r' ss2) := hs
      have halt : at_ < v.length := by omega
      have HY : Hid (y.op ≠ 7) := hy
      have hpv : pastV v.length ((y :: t) ++ r') = some r' := by
        have := h
        simp only [List.cons_append, itemP, if_neg hy] at this
        exact this
      have hendc := fun w' (hb' : Below w.heap.size w w') => valueEnd_any (v.length + 1) v b off c at_ false w' (by omega) (by omega) (hv.up hb') (Nat.lt_of_lt_of_le hbw hb'.size) hc HM.out
      rw [pastF_value, hu, pastV_fuel (v.length + 1) v.length ((y :: t) ++ r') (by simp; omega) (by simp; omega), hpv] at hendc
      have hen : endI v.length (some r') = ((at_ + 1 + t.length : Nat) : Int) := by unfold endI; simp only []; omega
      rw [hen] at hendc
      have j1 : (at_ : Int) ≤ ((at_ + 1 + t.length : Nat) : Int) := by omega
      have j2 : ((at_ + 1 + t.length : Nat) : Int) ≤ (c : Int) := by omega
      have hst : strip (y :: t) = y :: t := by show (if y.op = 7 then t else y :: t) = _; rw [if_neg hy]
      have hnm : nameOf (y :: t) = ⟨#[]⟩ := by show (if y.op = 7 then y.s else _) = _; rw [if_neg hy]
      have j4 : ¬ c = at_ := by omega
      have hT : NL w (some ⟨b, off + at_ * 4, none⟩) (y :: t) := by
        have := hv.from at_ (y :: t).length
        rw [hu, List.take_left] at this
        exact this
      generalize hen2 : at_ + 1 + t.length = en at *
      have HEN : Hid (_ = _) := hen2
      clear hsg h hs hpv hu hen hy hen2
      go_wp2_with fail
      refine (hendc _ hb).mono ?_
      rintro e w1 ⟨rfl, hb1⟩
      have hb2 := hb.trans (hb1.mono hb.size)
      have hol1 := hol.below hb1 hb.size
      have hot1 : OT w1 w.heap.size u5 (done.map nameOf) := Row1.kept (e := 231) hot (Kept.of_below hb1 hb.size) (by decide)
      have hNT : NT w1 w.heap.size (some ⟨b, off + at_ * 4, none⟩) (y :: t) := ⟨hT.up hb2, .inr ⟨b, _, rfl, .inl hbw⟩⟩
      have hLn : (y :: t).length = (en - at_) := by have := HEN.out; first | (simp; omega) | omega
      have hdm : (done.map strip).length ≤ 200 := by simp; omega
      have hdm2 : (done.map nameOf).length ≤ 200 := by simp; omega
      clear hendc hol hot z0 z1
      have HOL : Hid (OL w1 w.heap.size u4 (done.map strip)) := hol1
      have HOT : Hid (OT w1 w.heap.size u5 (done.map nameOf)) := hot1
      clear hol1 hot1
      go_wp2_with (first
        | (at_builtin; refine append_listN w1 rfl (.tmp 33) (.tmp 38) rfl w.heap.size u4 (done.map strip) rfl HOL.out (y :: t) (en - at_) hLn (some ⟨b, off + at_ * 4, none⟩) (c - at_) hNT (by omega) (by unfold maxLen; omega) rfl (by omega) hb2.size ?_; intro v1 w2 hol2 hk2; have hot2 : OT w2 w.heap.size u5 (done.map nameOf) := Row1.kept HOT.out hk2 (by decide); have hb3 := hb2.trans hk2.bel; have HO2 : Hid (OL w2 w.heap.size v1 (done.map strip ++ [(y :: t)])) := hol2; clear hol2)
        | (at_builtin; refine append_text w2 rfl (.tmp 40) (.tmp 42) rfl w.heap.size u5 (done.map nameOf) rfl hot2 ⟨#[]⟩ rfl (by omega) hb3.size ?_; intro v2 w3 hot3 hk3))
      have hol3 := HO2.out.kept hk3 (by decide) (by decide)
      go_roundw
      case rel => exact ⟨k + 1, en, done ++ [y :: t], ss2, by go_num, rfl, by rw [List.map_append, List.map_cons, hst]; exact hol3, by rw [List.map_append, List.map_cons, hnm]; exact hot3, by simp [hdl], by rw [← HEN.out, show at_ + 1 + t.length = at_ + (t.length + 1) by omega, hda.1]; exact HS2, by show _ = _; rw [← HD.out]; simp, by have := HEN.out; omega, by have := HEN.out; omega, hb3.trans hk3.bel⟩
      case measure => simp [intOf]; omega

set_option maxRecDepth 100000 in
set_option maxHeartbeats 600000 in
theorem refParts_rec (x : Nd) (r : List Nd) (ss : List (List Nd)) (hss : Segs (x :: r).length r ss) (hh : ∀ s ∈ ss, ∃ y t, s = y :: t ∧ y.op = 7) (hcnt : (ss.length : Int) = x.n) (b off c : Nat) (w : World) (hv : NL w (some ⟨b, off, none⟩) (x :: r)) (hbw : b < w.heap.size) (hl : (x :: r).length ≤ 200) (hc : (x :: r).length ≤ c) (hcm : c ≤ maxLen) (hop : x.op = 6) :
    Calls Tryz.prog 24 #[.slice (some ⟨b, off, none⟩) (x :: r).length c] w fun e w' => PartsRet w' ss e ∧ Below w.heap.size w w' := by
  have HM : Hid (c ≤ maxLen) := hcm
  unfold maxLen at hcm
  have hsl := hss.length
  obtain ⟨b', o', hpe, _, x0, x1, _, _, xw⟩ := hv.head
  obtain ⟨rfl, rfl⟩ : b = b' ∧ off = o' := by simpa using hpe
  have HSS : Hid (Segs (x :: r).length r ss) := hss
  have HH : Hid (∀ s ∈ ss, ∃ y t, s = y :: t ∧ y.op = 7) := hh
  generalize hV : x :: r = v at *
  have hvl : v.length = r.length + 1 := by rw [← hV]; rfl
  have HVL : Hid (v.length = r.length + 1) := hvl
  have hd1 : v.drop 1 = r := by rw [← hV]; rfl
  have HD1 : Hid (_ = _) := hd1
  have eop : (x.op == 6) = true := by simp [hop]
  have i0 : (0 : Int) < (v.length : Int) := by omega
  have hsl2 : ss.length + 1 ≤ v.length := by omega
  clear hss hh hpe hop hV hd1 hvl
  go_enter Tryz.func24, Tryz.ntmps24
  go_wp2
  go_loopw [4, 5, 6, 7, 8] (fun ov nv sa i sn wr => ∃ (k at_ : Nat) (done ss' : List (List Nd)), i = .int .i64 k ∧ sa = .int .i64 at_ ∧ OL wr w.heap.size ov (done.map strip) ∧ OT wr w.heap.size nv (done.map nameOf) ∧ done.length = k ∧ Hid (Segs v.length (v.drop at_) ss') ∧ Hid (done ++ ss' = ss) ∧ at_ ≤ v.length ∧ 1 ≤ at_ ∧ Below w.heap.size w wr) (fun _ _ _ i _ _ => ss.length - (intOf i).toNat)
  case atStart => exact ⟨0, 1, [], ss, rfl, rfl, OL.nil _ _, Row1.nil _ _ _, rfl, by rw [HD1.out]; exact HSS, rfl, by omega, Nat.le_refl _, Below.refl _ _⟩
  case round =>
    obtain ⟨k, at_, done, ss', rfl, rfl, hol, hot, hdl, HSg, HD, hat, hat1, hb⟩ := hrel
    have z0 := (hb.cell (p := ⟨b, off, none⟩) hbw).trans x0
    have z1 := (hb.cell (p := ⟨b, off + 1, none⟩) hbw).trans x1
    have hlen := congrArg List.length HD.out
    rw [List.length_append] at hlen
    have hvr := hv.up hb
    generalize hu : v.drop at_ = u at *
    cases hsg : HSg.out with
    | nil =>
      have HE : Hid (done = ss) := by have := HD.out; show _ = _; simpa using this
      simp at hlen
      have i1 : ¬ (k : Int) < x.n := by omega
      clear hsg
      obtain ⟨q1, c1, rfl, hll, _⟩ := hol.lists
      obtain ⟨q2, c2, rfl, htl, _⟩ := hot.texts
      rw [HE.out] at hll htl ⊢
      simp only [List.length_map]
      go_wp2
      go_ret2
      exact ⟨⟨q1, c1, q2, c2, rfl, hll, htl⟩, hb⟩
    | @cons a r' ss2 h hs =>
      obtain ⟨y, t, rfl, hy⟩ := HH.out a (by rw [← HD.out]; simp)
      simp at hlen
      have hul : (v.drop at_).length = v.length - at_ := by simp
      rw [hu] at hul
      simp at hul
      have i1 : (k : Int) < x.n := by omega
      have hda := Segs.drop_eq hu
      simp only [List.length_cons] at hda
      have HS2 : Hid (Segs v.length r' ss2) := hs
      have halt : at_ < v.length := by omega
      have HY : Hid (y.op = 7) := hy
      have hcons : v.drop (at_ + 1) = t ++ r' := by
        rw [← List.drop_drop, hu]; rfl
      have hpv : pastV v.length (t ++ r') = some r' := by
        have := h
        simp only [List.cons_append, itemP, if_pos hy] at this
        exact this
      obtain ⟨b', o', hpe, _, _, _, y2, _, yw⟩ := hvr.at halt
      obtain ⟨rfl, rfl⟩ : b = b' ∧ off = o' := by simpa using hpe
      have hye : v[at_] = y := by
        have := congrArg (fun l => l[0]?) hu
        simp at this
        rw [List.getElem?_eq_getElem halt] at this
        exact Option.some.inj this
      rw [hye] at y2
      have hendc := fun w' (hb' : Below w.heap.size w w') => valueEnd_any (v.length + 1) v b off c (at_ + 1) false w' (by omega) (by omega) (hv.up hb') (Nat.lt_of_lt_of_le hbw hb'.size) hc HM.out
      rw [pastF_value, hcons, pastV_fuel (v.length + 1) v.length (t ++ r') (by simp; omega) (by simp; omega), hpv] at hendc
      have hen : endI v.length (some r') = ((at_ + 1 + t.length : Nat) : Int) := by unfold endI; simp only []; omega
      rw [hen, show ((at_ + 1 : Nat) : Int) = (at_ : Int) + 1 by omega] at hendc
      have j1 : (at_ : Int) + 1 ≤ ((at_ + 1 + t.length : Nat) : Int) := by omega
      have j2 : ((at_ + 1 + t.length : Nat) : Int) ≤ (c : Int) := by omega
      have j3 : (at_ : Int) < (v.length : Int) := by omega
      have hst : strip (y :: t) = t := by show (if y.op = 7 then t else y :: t) = t; rw [if_pos hy]
      have hnm : nameOf (y :: t) = y.s := by show (if y.op = 7 then y.s else _) = y.s; rw [if_pos hy]
      have hne : 0 < t.length := by
        have := (pastV_shorter hpv).1
        simp at this; omega
      have j4 : ¬ c = at_ + 1 := by omega
      have hT : NL w (some ⟨b, off + (at_ + 1) * 4, none⟩) t := by
        have := hv.from (at_ + 1) t.length
        rw [hcons, List.take_left] at this
        exact this
      generalize hen2 : at_ + 1 + t.length = en at *
      have HEN : Hid (_ = _) := hen2
      clear hsg h hs hpv hcons hye hu hen hy hen2 hpe
      go_wp2_with fail
      refine (hendc _ hb).mono ?_
      rintro e w1 ⟨rfl, hb1⟩
      have hb2 := hb.trans (hb1.mono hb.size)
      have hol1 := hol.below hb1 hb.size
      have hot1 : OT w1 w.heap.size u5 (done.map nameOf) := Row1.kept (e := 231) hot (Kept.of_below hb1 hb.size) (by decide)
      have hNT : NT w1 w.heap.size (some ⟨b, off + (at_ + 1) * 4, none⟩) t := ⟨hT.up hb2, .inr ⟨b, _, rfl, .inl hbw⟩⟩
      have hLn : t.length = (en - (at_ + 1)) := by have := HEN.out; first | (simp; omega) | omega
      have hdm : (done.map strip).length ≤ 200 := by simp; omega
      have hdm2 : (done.map nameOf).length ≤ 200 := by simp; omega
      clear hendc hol hot z0 z1
      have HOL : Hid (OL w1 w.heap.size u4 (done.map strip)) := hol1
      have HOT : Hid (OT w1 w.heap.size u5 (done.map nameOf)) := hot1
      clear hol1 hot1
      go_wp2_with (first
        | (at_builtin; refine append_listN w1 rfl (.tmp 33) (.tmp 38) rfl w.heap.size u4 (done.map strip) rfl HOL.out t (en - (at_ + 1)) hLn (some ⟨b, off + (at_ + 1) * 4, none⟩) (c - (at_ + 1)) hNT (by omega) (by unfold maxLen; omega) rfl (by omega) hb2.size ?_; intro v1 w2 hol2 hk2; have hot2 : OT w2 w.heap.size u5 (done.map nameOf) := Row1.kept HOT.out hk2 (by decide); have hb3 := hb2.trans hk2.bel; have HO2 : Hid (OL w2 w.heap.size v1 (done.map strip ++ [t])) := hol2; clear hol2)
        | (at_builtin; refine append_text w2 rfl (.tmp 40) (.tmp 42) rfl w.heap.size u5 (done.map nameOf) rfl hot2 y.s rfl (by omega) hb3.size ?_; intro v2 w3 hot3 hk3))
      have hol3 := HO2.out.kept hk3 (by decide) (by decide)
      go_roundw
      case rel => exact ⟨k + 1, en, done ++ [y :: t], ss2, by go_num, rfl, by rw [List.map_append, List.map_cons, hst]; exact hol3, by rw [List.map_append, List.map_cons, hnm]; exact hot3, by simp [hdl], by rw [← HEN.out, show at_ + 1 + t.length = at_ + (t.length + 1) by omega, hda.1]; exact HS2, by show _ = _; rw [← HD.out]; simp, by have := HEN.out; omega, by have := HEN.out; omega, hb3.trans hk3.bel⟩
      case measure => simp [intOf]; omega
end Go.Proofs.YtpcikfpldmackaaGreatDoor
namespace Go.Proofs.YtpcikfpldmackaaGreatDoor
open Go.RowKit
set_option linter.unusedVariables false
set_option maxRecDepth 100000

theorem qbtP {a b c : World} (h : Below a.heap.size a b) (k : Below b.heap.size b c) : Below a.heap.size a c := h.trans (k.mono h.size)
theorem new_atP {w : World} {cs : Array Value} {T : TypeId} {n : Nat} (h : n = w.heap.size) : (w.alloc (.cells cs T)).heap[n]? = some (.cells cs T (0, 0)) := by subst h; exact (MapKept.heap_alloc w _).1
theorem req_cellsP {w : World} {B : Nat} {a0 a1 a2 a3 a4 a5 a6 : Value} {T : TypeId} (h : w.heap[B]? = some (.cells #[a0, a1, a2, a3, a4, a5, a6] T (0, 0))) :
    w.cell? ⟨B, 0, none⟩ = some a0 ∧ w.cell? ⟨B, 1, none⟩ = some a1 ∧ w.cell? ⟨B, 2, none⟩ = some a2 ∧ w.cell? ⟨B, 3, none⟩ = some a3 ∧ w.cell? ⟨B, 4, none⟩ = some a4 ∧ w.cell? ⟨B, 5, none⟩ = some a5 ∧ w.cell? ⟨B, 6, none⟩ = some a6 := by
  simp [World.cell?, h]
/-- A request that a statement keeps in a block of its own. -/
structure QBP (w : World) (B : Nat) (q : Rq) (pq : Option Addr) (cq : Nat) : Prop where
  blk : w.heap[B]? = some (.cells #[.string q.who.t, .string q.who.i, .string q.act.t, .string q.act.i, .string q.what.t, .string q.what.i, .slice pq q.cx.length cq] 43 (0, 0))
theorem QBP.lt {w : World} {B : Nat} {q : Rq} {pq : Option Addr} {cq : Nat} (h : QBP w B q pq cq) : B < w.heap.size := (Array.getElem?_eq_some_iff.1 h.blk).1
theorem QBP.up {w w' : World} {B : Nat} {q : Rq} {pq : Option Addr} {cq : Nat} (h : QBP w B q pq cq) (hb : Below w.heap.size w w') : QBP w' B q pq cq := ⟨(hb.block B h.lt).trans h.blk⟩
theorem QBP.cells {w : World} {B : Nat} {q : Rq} {pq : Option Addr} {cq : Nat} (h : QBP w B q pq cq) :
    w.cell? ⟨B, 0, none⟩ = some (.string q.who.t) ∧ w.cell? ⟨B, 1, none⟩ = some (.string q.who.i) ∧ w.cell? ⟨B, 2, none⟩ = some (.string q.act.t) ∧ w.cell? ⟨B, 3, none⟩ = some (.string q.act.i) ∧ w.cell? ⟨B, 4, none⟩ = some (.string q.what.t) ∧ w.cell? ⟨B, 5, none⟩ = some (.string q.what.i) ∧ w.cell? ⟨B, 6, none⟩ = some (.slice pq q.cx.length cq) := req_cellsP h.blk
theorem QBP.new (w : World) (q : Rq) (pq : Option Addr) (cq : Nat) : QBP (w.alloc (.cells #[.string q.who.t, .string q.who.i, .string q.act.t, .string q.act.i, .string q.what.t, .string q.what.i, .slice pq q.cx.length cq] 43)) w.heap.size q pq cq := ⟨new_atP rfl⟩
theorem qbAP {a b : World} (h : Below a.heap.size a b) {o : Obj} : Below a.heap.size a (b.alloc o) := qbtP h ((Below.refl _ _).alloc (Nat.le_refl _) o)
theorem qbDP {a b : World} (h : Below a.heap.size a b) : Below a.heap.size a b.drew := ⟨h.os, h.tape, h.output, h.size, h.block⟩
theorem uidRP_any (u : Ui) (w : World) (h : UOk u) : Calls Tryz.prog 78 #[.agg #[.string u.t, .string u.i]] w fun e w' => e = .returned (.int .i64 (uf u)) ∧ Below w.heap.size w w' := uidFault_any u.t u.i w h.1 h.2
theorem nl_headP {w : World} {b off : Nat} {v r : List Nd} {y : Nd} (h : NL w (some ⟨b, off, none⟩) v) (e : v = y :: r) : w.cell? ⟨b, off, none⟩ = some (.int .i64 y.op) := by
  subst e
  obtain ⟨b', off', e, _, x0, _⟩ := h.at (i := 0) (by simp)
  cases e
  simpa using x0
set_option maxHeartbeats 2000000 in
theorem askFaultP_any (q : Rq) (pq : Option Addr) (cq : Nat) (w : World) (h : RqArg w q pq cq) :
    Calls Tryz.prog 48 #[reqV q pq cq] w fun e w' => e = .returned (.int .i64 (askf q)) ∧ Below w.heap.size w w' := by
  by_cases z0 : uf q.who = 0
  · by_cases z1 : uf q.act = 0
    · by_cases z2 : uf q.what = 0
      · by_cases zv : vfault q.cx = 0
        · obtain ⟨y, r, ex, _⟩ := value_head zv
          have HF : Hid (afault q.cx = if y.op = 6 then 0 else 2) := by show _ = _; unfold afault; rw [if_pos zv, ex]
          have i2 : (0 : Int) < (q.cx.length : Int) := by rw [ex]; simp
          have HV := fun w1 h1 => valueFault_any q.cx pq cq w1 h1 h.le h.cm
          rw [zv] at HV
          obtain ⟨b0, off, hpq, hbb0, hjunk⟩ := h.nl.at (i := 0) (by rw [ex]; simp)
          clear hjunk
          have HPQ : Hid (pq = some ⟨b0, off, none⟩) := hpq
          clear hpq
          have HEX : Hid (q.cx = y :: r) := ex
          clear ex
          have hn := h.nl
          have HU0 := fun w1 => uidRP_any q.who w1 h.u0
          rw [z0] at HU0
          have HU1 := fun w1 => uidRP_any q.act w1 h.u1
          rw [z1] at HU1
          have HU2 := fun w1 => uidRP_any q.what w1 h.u2
          rw [z2] at HU2
          by_cases h6 : y.op = 6
          · have HA : Hid (askf q = 0) := by show _ = _; unfold askf; rw [if_pos z0, if_pos z1, if_pos z2, HF.out, if_pos h6]
            have e6 : (y.op != 6) = false := by simpa using h6
            clear z0 z1 z2 zv h6 HF h
            obtain ⟨W, hW⟩ : ∃ W, W = w.alloc (.cells #[.string q.who.t, .string q.who.i, .string q.act.t, .string q.act.i, .string q.what.t, .string q.what.i, .slice pq q.cx.length cq] 43) := ⟨_, rfl⟩
            have hb_0 : Below w.heap.size w W := by rw [hW]; exact (Below.refl _ _).alloc (Nat.le_refl _) _
            have hq_0 : QBP W w.heap.size q pq cq := by rw [hW]; exact QBP.new w q pq cq
            have hn_0 := hn.up hb_0
            clear hn
            unfold reqV
            go_enter Tryz.func48, Tryz.ntmps48
            obtain ⟨x0, x1, x2, x3, x4, x5, x6⟩ := hq_0.cells
            go_wp2_with fail
            rw [← hW]
            refine (HU0 _).mono ?_
            rintro _ w1 ⟨rfl, hbb⟩
            clear x0 x1 x2 x3 x4 x5 x6
            have hb_1 := qbtP hb_0 hbb
            have hq_1 := hq_0.up hbb
            have hn_1 := hn_0.up hbb
            clear hbb hb_0 hq_0 hn_0
            obtain ⟨x0, x1, x2, x3, x4, x5, x6⟩ := hq_1.cells
            go_wp2_with fail
            refine (HU1 _).mono ?_
            rintro _ w2 ⟨rfl, hbb⟩
            clear x0 x1 x2 x3 x4 x5 x6
            have hb_2 := qbtP hb_1 hbb
            have hq_2 := hq_1.up hbb
            have hn_2 := hn_1.up hbb
            clear hbb hb_1 hq_1 hn_1
            obtain ⟨x0, x1, x2, x3, x4, x5, x6⟩ := hq_2.cells
            go_wp2_with fail
            refine (HU2 _).mono ?_
            rintro _ w3 ⟨rfl, hbb⟩
            clear x0 x1 x2 x3 x4 x5 x6
            have hb_3 := qbtP hb_2 hbb
            have hq_3 := hq_2.up hbb
            have hn_3 := hn_2.up hbb
            clear hbb hb_2 hq_2 hn_2
            obtain ⟨x0, x1, x2, x3, x4, x5, x6⟩ := hq_3.cells
            go_wp2_with fail
            refine (HV _ hn_3).mono ?_
            rintro _ w4 ⟨rfl, hbb⟩
            clear x0 x1 x2 x3 x4 x5 x6
            have hb_4 := qbtP hb_3 hbb
            have hq_4 := hq_3.up hbb
            have hn_4 := hn_3.up hbb
            clear hbb hb_3 hq_3 hn_3
            have hpq := HPQ.out
            subst hpq
            have hbz : b0 < w4.heap.size := by rcases hn_4 with e | ⟨_, _, e, h, _⟩ <;> first | (rw [HEX.out] at e; cases e) | (cases e; exact h)
            have hc0 : w4.cell? ⟨b0, off, none⟩ = some (.int .i64 y.op) := nl_headP hn_4 HEX.out
            obtain ⟨x0, x1, x2, x3, x4, x5, x6⟩ := hq_4.cells
            go_wp2_with fail
            go_ret
            rw [HA.out]
            exact ⟨rfl, hb_4⟩
          · have HA : Hid (askf q = 2) := by show _ = _; unfold askf; rw [if_pos z0, if_pos z1, if_pos z2, HF.out, if_neg h6]
            have e6 : (y.op != 6) = true := by simpa using h6
            clear z0 z1 z2 zv h6 HF h
            obtain ⟨W, hW⟩ : ∃ W, W = w.alloc (.cells #[.string q.who.t, .string q.who.i, .string q.act.t, .string q.act.i, .string q.what.t, .string q.what.i, .slice pq q.cx.length cq] 43) := ⟨_, rfl⟩
            have hb_0 : Below w.heap.size w W := by rw [hW]; exact (Below.refl _ _).alloc (Nat.le_refl _) _
            have hq_0 : QBP W w.heap.size q pq cq := by rw [hW]; exact QBP.new w q pq cq
            have hn_0 := hn.up hb_0
            clear hn
            unfold reqV
            go_enter Tryz.func48, Tryz.ntmps48
            obtain ⟨x0, x1, x2, x3, x4, x5, x6⟩ := hq_0.cells
            go_wp2_with fail
            rw [← hW]
            refine (HU0 _).mono ?_
            rintro _ w1 ⟨rfl, hbb⟩
            clear x0 x1 x2 x3 x4 x5 x6
            have hb_1 := qbtP hb_0 hbb
            have hq_1 := hq_0.up hbb
            have hn_1 := hn_0.up hbb
            clear hbb hb_0 hq_0 hn_0
            obtain ⟨x0, x1, x2, x3, x4, x5, x6⟩ := hq_1.cells
            go_wp2_with fail
            refine (HU1 _).mono ?_
            rintro _ w2 ⟨rfl, hbb⟩
            clear x0 x1 x2 x3 x4 x5 x6
            have hb_2 := qbtP hb_1 hbb
            have hq_2 := hq_1.up hbb
            have hn_2 := hn_1.up hbb
            clear hbb hb_1 hq_1 hn_1
            obtain ⟨x0, x1, x2, x3, x4, x5, x6⟩ := hq_2.cells
            go_wp2_with fail
            refine (HU2 _).mono ?_
            rintro _ w3 ⟨rfl, hbb⟩
            clear x0 x1 x2 x3 x4 x5 x6
            have hb_3 := qbtP hb_2 hbb
            have hq_3 := hq_2.up hbb
            have hn_3 := hn_2.up hbb
            clear hbb hb_2 hq_2 hn_2
            obtain ⟨x0, x1, x2, x3, x4, x5, x6⟩ := hq_3.cells
            go_wp2_with fail
            refine (HV _ hn_3).mono ?_
            rintro _ w4 ⟨rfl, hbb⟩
            clear x0 x1 x2 x3 x4 x5 x6
            have hb_4 := qbtP hb_3 hbb
            have hq_4 := hq_3.up hbb
            have hn_4 := hn_3.up hbb
            clear hbb hb_3 hq_3 hn_3
            have hpq := HPQ.out
            subst hpq
            have hbz : b0 < w4.heap.size := by rcases hn_4 with e | ⟨_, _, e, h, _⟩ <;> first | (rw [HEX.out] at e; cases e) | (cases e; exact h)
            have hc0 : w4.cell? ⟨b0, off, none⟩ = some (.int .i64 y.op) := nl_headP hn_4 HEX.out
            obtain ⟨x0, x1, x2, x3, x4, x5, x6⟩ := hq_4.cells
            go_wp2_with fail
            go_ret
            rw [HA.out]
            exact ⟨rfl, hb_4⟩
        · have HV := fun w1 h1 => valueFault_any q.cx pq cq w1 h1 h.le h.cm
          have hn := h.nl
          have HU0 := fun w1 => uidRP_any q.who w1 h.u0
          rw [z0] at HU0
          have HU1 := fun w1 => uidRP_any q.act w1 h.u1
          rw [z1] at HU1
          have HU2 := fun w1 => uidRP_any q.what w1 h.u2
          rw [z2] at HU2
          have HA : Hid (askf q = vfault q.cx) := by show _ = _; unfold askf; rw [if_pos z0, if_pos z1, if_pos z2]; unfold afault; rw [if_neg zv]
          have n0 : (vfault q.cx == 0) = false := by simpa using zv
          clear z0 z1 z2 zv h
          generalize vfault q.cx = n at *
          obtain ⟨W, hW⟩ : ∃ W, W = w.alloc (.cells #[.string q.who.t, .string q.who.i, .string q.act.t, .string q.act.i, .string q.what.t, .string q.what.i, .slice pq q.cx.length cq] 43) := ⟨_, rfl⟩
          have hb_0 : Below w.heap.size w W := by rw [hW]; exact (Below.refl _ _).alloc (Nat.le_refl _) _
          have hq_0 : QBP W w.heap.size q pq cq := by rw [hW]; exact QBP.new w q pq cq
          have hn_0 := hn.up hb_0
          clear hn
          unfold reqV
          go_enter Tryz.func48, Tryz.ntmps48
          obtain ⟨x0, x1, x2, x3, x4, x5, x6⟩ := hq_0.cells
          go_wp2_with fail
          rw [← hW]
          refine (HU0 _).mono ?_
          rintro _ w1 ⟨rfl, hbb⟩
          clear x0 x1 x2 x3 x4 x5 x6
          have hb_1 := qbtP hb_0 hbb
          have hq_1 := hq_0.up hbb
          have hn_1 := hn_0.up hbb
          clear hbb hb_0 hq_0 hn_0
          obtain ⟨x0, x1, x2, x3, x4, x5, x6⟩ := hq_1.cells
          go_wp2_with fail
          refine (HU1 _).mono ?_
          rintro _ w2 ⟨rfl, hbb⟩
          clear x0 x1 x2 x3 x4 x5 x6
          have hb_2 := qbtP hb_1 hbb
          have hq_2 := hq_1.up hbb
          have hn_2 := hn_1.up hbb
          clear hbb hb_1 hq_1 hn_1
          obtain ⟨x0, x1, x2, x3, x4, x5, x6⟩ := hq_2.cells
          go_wp2_with fail
          refine (HU2 _).mono ?_
          rintro _ w3 ⟨rfl, hbb⟩
          clear x0 x1 x2 x3 x4 x5 x6
          have hb_3 := qbtP hb_2 hbb
          have hq_3 := hq_2.up hbb
          have hn_3 := hn_2.up hbb
          clear hbb hb_2 hq_2 hn_2
          obtain ⟨x0, x1, x2, x3, x4, x5, x6⟩ := hq_3.cells
          go_wp2_with fail
          refine (HV _ hn_3).mono ?_
          rintro _ w4 ⟨rfl, hbb⟩
          clear x0 x1 x2 x3 x4 x5 x6
          have hb_4 := qbtP hb_3 hbb
          have hq_4 := hq_3.up hbb
          have hn_4 := hn_3.up hbb
          clear hbb hb_3 hq_3 hn_3
          obtain ⟨x0, x1, x2, x3, x4, x5, x6⟩ := hq_4.cells
          go_wp2_with fail
          go_ret
          rw [HA.out]
          exact ⟨rfl, hb_4⟩
      · have HU0 := fun w1 => uidRP_any q.who w1 h.u0
        rw [z0] at HU0
        have HU1 := fun w1 => uidRP_any q.act w1 h.u1
        rw [z1] at HU1
        have HA : Hid (askf q = uf q.what) := by show _ = _; unfold askf; rw [if_pos z0, if_pos z1, if_neg z2]
        have HU2 := fun w1 => uidRP_any q.what w1 h.u2
        have n0 : (uf q.what == 0) = false := by simpa using z2
        clear z0 z1 z2 h
        generalize uf q.what = n at *
        obtain ⟨W, hW⟩ : ∃ W, W = w.alloc (.cells #[.string q.who.t, .string q.who.i, .string q.act.t, .string q.act.i, .string q.what.t, .string q.what.i, .slice pq q.cx.length cq] 43) := ⟨_, rfl⟩
        have hb_0 : Below w.heap.size w W := by rw [hW]; exact (Below.refl _ _).alloc (Nat.le_refl _) _
        have hq_0 : QBP W w.heap.size q pq cq := by rw [hW]; exact QBP.new w q pq cq
        
        unfold reqV
        go_enter Tryz.func48, Tryz.ntmps48
        obtain ⟨x0, x1, x2, x3, x4, x5, x6⟩ := hq_0.cells
        go_wp2_with fail
        rw [← hW]
        refine (HU0 _).mono ?_
        rintro _ w1 ⟨rfl, hbb⟩
        clear x0 x1 x2 x3 x4 x5 x6
        have hb_1 := qbtP hb_0 hbb
        have hq_1 := hq_0.up hbb
        clear hbb hb_0 hq_0
        obtain ⟨x0, x1, x2, x3, x4, x5, x6⟩ := hq_1.cells
        go_wp2_with fail
        refine (HU1 _).mono ?_
        rintro _ w2 ⟨rfl, hbb⟩
        clear x0 x1 x2 x3 x4 x5 x6
        have hb_2 := qbtP hb_1 hbb
        have hq_2 := hq_1.up hbb
        clear hbb hb_1 hq_1
        obtain ⟨x0, x1, x2, x3, x4, x5, x6⟩ := hq_2.cells
        go_wp2_with fail
        refine (HU2 _).mono ?_
        rintro _ w3 ⟨rfl, hbb⟩
        clear x0 x1 x2 x3 x4 x5 x6
        have hb_3 := qbtP hb_2 hbb
        have hq_3 := hq_2.up hbb
        clear hbb hb_2 hq_2
        obtain ⟨x0, x1, x2, x3, x4, x5, x6⟩ := hq_3.cells
        go_wp2_with fail
        go_ret
        rw [HA.out]
        exact ⟨rfl, hb_3⟩
    · have HU0 := fun w1 => uidRP_any q.who w1 h.u0
      rw [z0] at HU0
      have HA : Hid (askf q = uf q.act) := by show _ = _; unfold askf; rw [if_pos z0, if_neg z1]
      have HU1 := fun w1 => uidRP_any q.act w1 h.u1
      have n0 : (uf q.act == 0) = false := by simpa using z1
      clear z0 z1 h
      generalize uf q.act = n at *
      obtain ⟨W, hW⟩ : ∃ W, W = w.alloc (.cells #[.string q.who.t, .string q.who.i, .string q.act.t, .string q.act.i, .string q.what.t, .string q.what.i, .slice pq q.cx.length cq] 43) := ⟨_, rfl⟩
      have hb_0 : Below w.heap.size w W := by rw [hW]; exact (Below.refl _ _).alloc (Nat.le_refl _) _
      have hq_0 : QBP W w.heap.size q pq cq := by rw [hW]; exact QBP.new w q pq cq
      
      unfold reqV
      go_enter Tryz.func48, Tryz.ntmps48
      obtain ⟨x0, x1, x2, x3, x4, x5, x6⟩ := hq_0.cells
      go_wp2_with fail
      rw [← hW]
      refine (HU0 _).mono ?_
      rintro _ w1 ⟨rfl, hbb⟩
      clear x0 x1 x2 x3 x4 x5 x6
      have hb_1 := qbtP hb_0 hbb
      have hq_1 := hq_0.up hbb
      clear hbb hb_0 hq_0
      obtain ⟨x0, x1, x2, x3, x4, x5, x6⟩ := hq_1.cells
      go_wp2_with fail
      refine (HU1 _).mono ?_
      rintro _ w2 ⟨rfl, hbb⟩
      clear x0 x1 x2 x3 x4 x5 x6
      have hb_2 := qbtP hb_1 hbb
      have hq_2 := hq_1.up hbb
      clear hbb hb_1 hq_1
      obtain ⟨x0, x1, x2, x3, x4, x5, x6⟩ := hq_2.cells
      go_wp2_with fail
      go_ret
      rw [HA.out]
      exact ⟨rfl, hb_2⟩
  · have HA : Hid (askf q = uf q.who) := by show _ = _; unfold askf; rw [if_neg z0]
    have HU0 := fun w1 => uidRP_any q.who w1 h.u0
    have n0 : (uf q.who == 0) = false := by simpa using z0
    clear z0 h
    generalize uf q.who = n at *
    obtain ⟨W, hW⟩ : ∃ W, W = w.alloc (.cells #[.string q.who.t, .string q.who.i, .string q.act.t, .string q.act.i, .string q.what.t, .string q.what.i, .slice pq q.cx.length cq] 43) := ⟨_, rfl⟩
    have hb_0 : Below w.heap.size w W := by rw [hW]; exact (Below.refl _ _).alloc (Nat.le_refl _) _
    have hq_0 : QBP W w.heap.size q pq cq := by rw [hW]; exact QBP.new w q pq cq
    
    unfold reqV
    go_enter Tryz.func48, Tryz.ntmps48
    obtain ⟨x0, x1, x2, x3, x4, x5, x6⟩ := hq_0.cells
    go_wp2_with fail
    rw [← hW]
    refine (HU0 _).mono ?_
    rintro _ w1 ⟨rfl, hbb⟩
    clear x0 x1 x2 x3 x4 x5 x6
    have hb_1 := qbtP hb_0 hbb
    have hq_1 := hq_0.up hbb
    clear hbb hb_0 hq_0
    obtain ⟨x0, x1, x2, x3, x4, x5, x6⟩ := hq_1.cells
    go_wp2_with fail
    go_ret
    rw [HA.out]
    exact ⟨rfl, hb_1⟩
end Go.Proofs.YtpcikfpldmackaaGreatDoor
