/- Package schema: checkActs, Check: by walks of their own texts. An act in a block of its own; how actOf ends. (Parted out of ScO.) Package kinds: field, by a walk of its own text. Package kinds: readBoth, by walks of its own text. Package tree's small functions: hasNothing, hasJustS, isName, isText, isWord, isVar, isField, each by a walk of its own text. Whether a node may stand in a value: package val's need, isText, mayBe, each by a walk of its own text. -/
import Derived.Test.YtgkbegomekhpcaaGreatDoorC15
import Derived.Test.YtgkbegomekhpcaaGreatDoorC5
import Derived.Test.YtgkbegomekhpcaaGreatDoorC14
import Derived.Test.YtgkbegomekhpcaaGreatDoorC11
import Derived.Test.YtgkbegomekhpcaaGreatDoorC6
import Derived.Laws.StructEq
namespace Go.Proofs.YtgkbegomekhpcaaGreatDoor
open Go.RowKit Go.Maps Go.WideMaps
set_option linter.unusedVariables false
set_option linter.unusedSimpArgs false
set_option maxRecDepth 100000

theorem asf_step {al : List Ac} {k : Nat} (h : k < al.length) : asf ((al.take k).map (·.id)) (al.drop k) = orE (acf ((al.take k).map (·.id)) al[k]) (asf ((al.take (k + 1)).map (·.id)) (al.drop (k + 1))) := by
  rw [List.take_succ_eq_append_getElem h, List.map_append]
  rw [List.drop_eq_getElem_cons h]
  rfl
/-- Where an act's error comes from. -/
theorem acf_ways (seen : List ByteArray) (a : Ac) : (tmf a.id ≠ 0 ∧ acf seen a = tmf a.id) ∨ (tmf a.id = 0 ∧ hasT a.id seen = true ∧ acf seen a = 6) ∨ (tmf a.id = 0 ∧ hasT a.id seen = false ∧ (6 < a.who.length ∨ 6 < a.what.length) ∧ acf seen a = 4) ∨ (tmf a.id = 0 ∧ hasT a.id seen = false ∧ a.who.length ≤ 6 ∧ a.what.length ≤ 6 ∧ acf seen a = orE (nsf a.who) (orE (nsf a.what) (rcf a.cx))) := by
  unfold acf
  by_cases h1 : tmf a.id = 0
  · rw [orE_r h1]
    cases h2 : hasT a.id seen
    · rw [orE_r (by unfold twE; rw [h2]; rfl)]
      by_cases h3 : 6 < a.who.length ∨ 6 < a.what.length
      · exact .inr (.inr (.inl ⟨h1, rfl, h3, by rw [decide_eq_true h3]; rfl⟩))
      · rw [orE_r (by rw [decide_eq_false h3]; rfl)]
        exact .inr (.inr (.inr ⟨h1, rfl, by omega, by omega, rfl⟩))
    · exact .inr (.inl ⟨h1, rfl, by unfold twE; rw [h2]; rfl⟩)
  · exact .inl ⟨h1, orE_l h1⟩
set_option maxHeartbeats 8000000 in
theorem checkActs_any (al : List Ac) (p : Option Addr) (c : Nat) (w : World) (hl : AcL w p al) (h8 : al.length ≤ 8) :
    Calls Tryz.prog 60 #[.slice p al.length c] w fun e w' => e = .returned (eV (asf [] al)) ∧ Below w.heap.size w w' := by
  have HL : Hid (AcL w p al) := hl
  have hmm := @run_makeMap Tryz.prog
  clear hl
  go_enter Tryz.func60, Tryz.ntmps60
  go_wp2_with fail
  go_loopw [15] (fun i wr => ∃ k : Nat, k ≤ al.length ∧ i = .int .i64 k ∧ NSet wr w.heap.size ((al.take k).map (·.id)) ∧ Below w.heap.size w wr ∧ Hid (asf [] al = asf ((al.take k).map (·.id)) (al.drop k))) (fun i _ => al.length - (intOf i).toNat)
  case atStart => exact ⟨0, Nat.zero_le _, rfl, by simpa using NSet.made w, (Below.refl _ _).alloc (Nat.le_refl _) _, by simp [Hid]⟩
  case round =>
    rename World => wr
    obtain ⟨k, hk, rfl, hset, hnx, HR⟩ := hrel
    by_cases hlt : k < al.length
    · have i1 : (k : Int) < (al.length : Int) := by omega
      obtain ⟨b, off, p0, c0', p1, c1', pt, ct, rfl, hbl, hkv, c0, c1, c2, c3⟩ := HL.out.at hlt
      replace c0 := (hnx.cell (p := ⟨b, off + k * 4, none⟩) hbl).trans c0
      replace c1 := (hnx.cell (p := ⟨b, off + k * 4 + 1, none⟩) hbl).trans c1
      replace c2 := (hnx.cell (p := ⟨b, off + k * 4 + 2, none⟩) hbl).trans c2
      replace c3 := (hnx.cell (p := ⟨b, off + k * 4 + 3, none⟩) hbl).trans c3
      have HS : Hid (asf [] al = orE (acf ((al.take k).map (·.id)) al[k]) (asf ((al.take (k + 1)).map (·.id)) (al.drop (k + 1)))) := by show _ = _; rw [HR.out]; exact asf_step hlt
      have HT : Hid ((al.take (k + 1)).map (·.id) = (al.take k).map (·.id) ++ [al[k].id]) := by show _ = _; rw [List.take_succ_eq_append_getElem hlt, List.map_append]; rfl
      have hsl : ((al.take k).map (·.id)).length < 1000 := by simp; omega
      generalize al[k] = x at *
      obtain ⟨nm, us, vs, ty⟩ := x
      dsimp only at c0 c1 c2 c3
      obtain ⟨V, hV⟩ : ∃ V, V = wr.alloc (.cells #[.string nm, .slice p0 us.length c0', .slice p1 vs.length c1', .slice pt ty.length ct] 64) := ⟨_, rfl⟩
      have hbV : Below wr.heap.size wr V := by rw [hV]; exact kqx
      have hVs : V.heap.size = wr.heap.size + 1 := by rw [hV]; simp
      have v0 : V.cell? ⟨wr.heap.size, 0, none⟩ = some (.string nm) := by rw [hV]; simp
      have v1 : V.cell? ⟨wr.heap.size, 1, none⟩ = some (.slice p0 us.length c0') := by rw [hV]; simp
      have v2 : V.cell? ⟨wr.heap.size, 2, none⟩ = some (.slice p1 vs.length c1') := by rw [hV]; simp
      have v3 : V.cell? ⟨wr.heap.size, 3, none⟩ = some (.slice pt ty.length ct) := by rw [hV]; simp
      have hwr := hset.lt
      have hbw := kqt hnx hbV
      have HC := quoteN_any nm V hkv.id
      have eC : tfault nm.data.toList = tmf nm := rfl
      rw [eC] at HC
      have hcV : ∀ w', Below V.heap.size V w' → w'.cell? ⟨wr.heap.size, 0, none⟩ = some (.string nm) ∧ w'.cell? ⟨wr.heap.size, 1, none⟩ = some (.slice p0 us.length c0') ∧ w'.cell? ⟨wr.heap.size, 2, none⟩ = some (.slice p1 vs.length c1') ∧ w'.cell? ⟨wr.heap.size, 3, none⟩ = some (.slice pt ty.length ct) := fun w' h => ⟨(h.cell (p := ⟨wr.heap.size, 0, none⟩) (by show wr.heap.size < _; omega)).trans v0, (h.cell (p := ⟨wr.heap.size, 1, none⟩) (by show wr.heap.size < _; omega)).trans v1, (h.cell (p := ⟨wr.heap.size, 2, none⟩) (by show wr.heap.size < _; omega)).trans v2, (h.cell (p := ⟨wr.heap.size, 3, none⟩) (by show wr.heap.size < _; omega)).trans v3⟩
      have HCV : Hid (∀ w', _) := hcV
      have HS2 := hset.up hbV
      have HSV : Hid (NSet V w.heap.size _) := HS2
      have HKV : Hid (AcV w ⟨nm, us, vs, ty⟩ p0 c0' p1 c1' pt ct) := hkv
      clear hcV v0 v1 v2 v3 hset HS2 hkv
      rcases acf_ways ((al.take k).map (·.id)) ⟨nm, us, vs, ty⟩ with ⟨n1, e1⟩ | ⟨n1, n2, e1⟩ | ⟨n1, n2, n3, e1⟩ | ⟨n1, n2, n3, n4, e1⟩
      · rw [eV_not n1] at HC
        have HE : Hid (eV (asf [] al) = .iface 36 (.int .i64 (tmf nm))) := by show _ = _; rw [HS.out, e1, orE_l n1, eV_not n1]
        clear e1 n1 HS HR
        generalize tmf nm = n at *
        go_wp2_with fail
        rw [← hV]
        clear hV
        refine HC.mono ?_
        rintro e w1 ⟨q, _, rfl, hb1⟩
        go_wp2
        go_ret
        exact ⟨by rw [HE.out]; rfl, kqt hbw hb1⟩
      all_goals
        rw [eV_nil n1] at HC
        clear n1 HR
        go_wp2_with fail
        rw [← hV]
        clear hV
        refine HC.mono ?_
        rintro e w1 ⟨q, _, rfl, hb1⟩
        obtain ⟨v0, v1, v2, v3⟩ := HCV.out w1 hb1
        have hb01 := kqt hbw hb1
        have hs1 := HSV.out.up hb1
        have hw1 : wr.heap.size < w1.heap.size := by have := hb1.size; omega
        clear HCV HSV HC
      · have HE : Hid (eV (asf [] al) = .iface 36 (.int .i64 6)) := by show _ = _; rw [HS.out, e1]; rfl
        have HP := sput_twice w.heap.size _ nm w1 hs1 HKV.out.id n2
        clear e1 HS n2 hs1
        go_wp2_with fail
        refine HP.mono ?_
        rintro e w2 ⟨rfl, hb2⟩
        go_wp2
        go_ret
        exact ⟨by rw [HE.out]; rfl, kqt hb01 hb2⟩
      all_goals
        have HP := sput_ok w.heap.size _ nm w1 hs1 HKV.out.id n2 hsl
        clear n2 hs1
        go_wp2_with fail
        refine HP.mono ?_
        rintro e w2 ⟨rfl, hset2, hg2⟩
        have u1 := (grown_cell hg2 (a := ⟨wr.heap.size, 1, none⟩) hw1 (by show wr.heap.size ≠ _; omega)).trans v1
        have u2 := (grown_cell hg2 (a := ⟨wr.heap.size, 2, none⟩) hw1 (by show wr.heap.size ≠ _; omega)).trans v2
        have u3 := (grown_cell hg2 (a := ⟨wr.heap.size, 3, none⟩) hw1 (by show wr.heap.size ≠ _; omega)).trans v3
        have hb2 := hb01.grown hg2 hb01.size (fun j hj => by cases hj; exact Nat.le_refl _)
        clear v0 v1 v2 v3 HP hg2
      · have HE : Hid (eV (asf [] al) = .iface 36 (.int .i64 4)) := by show _ = _; rw [HS.out, e1]; rfl
        clear e1 HS
        try dsimp only at n3
        by_cases h6 : 6 < us.length
        · have j1 : (6 : Int) < (us.length : Int) := by omega
          clear n3 h6
          go_wp2
          go_ret
          exact ⟨by rw [HE.out]; rfl, hb2⟩
        · have j1 : ¬ (6 : Int) < (us.length : Int) := by omega
          have j2 : (6 : Int) < (vs.length : Int) := by omega
          clear n3 h6
          go_wp2
          go_ret
          exact ⟨by rw [HE.out]; rfl, hb2⟩
      · try dsimp only at n3
        try dsimp only at n4
        try dsimp only at e1
        try dsimp only at HT
        have j1 : ¬ (6 : Int) < (us.length : Int) := by omega
        have j2 : ¬ (6 : Int) < (vs.length : Int) := by omega
        have HN1 := checkNames_any us p0 c0' w2 (HKV.out.us.up hb2)
        have HN2 := checkNames_any vs p1 c1' w2 (HKV.out.vs.up hb2)
        have HQ := checkRec_any ty pt ct w2 (HKV.out.ty.up hb2)
        rw [e1] at HS
        clear e1 n3 n4
        by_cases h1 : nsf us = 0
        · rw [eV_nil h1] at HN1
          rw [orE_r h1] at HS
          by_cases h2 : nsf vs = 0
          · rw [eV_nil h2] at HN2
            rw [orE_r h2] at HS
            by_cases h0 : rcf ty = 0
            · have HE : Hid (asf [] al = asf ((al.take (k + 1)).map (·.id)) (al.drop (k + 1))) := by show _ = _; rw [HS.out, orE_r h0]
              rw [eV_nil h0] at HQ
              clear HS h0 h1 h2
              go_wp2_with fail
              refine HN1.mono ?_
              rintro e w3 ⟨rfl, rfl⟩
              go_wp2_with fail
              refine HN2.mono ?_
              rintro e w3 ⟨rfl, rfl⟩
              go_wp2_with fail
              refine HQ.mono ?_
              rintro e w4 ⟨rfl, hb4⟩
              have hset4 := hset2.up hb4
              have hb04 := kqt hb2 hb4
              clear hset2
              go_wp2
              go_roundw
              case rel => exact ⟨k + 1, by omega, by go_num, by rw [HT.out]; exact hset4, hb04, HE⟩
              case measure => simp [intOf]; omega
            · have HE : Hid (eV (asf [] al) = .iface 36 (.int .i64 (rcf ty))) := by show _ = _; rw [HS.out, orE_l h0, eV_not h0]
              rw [eV_not h0] at HQ
              clear HS h0 h1 h2
              generalize rcf ty = n at *
              go_wp2_with fail
              refine HN1.mono ?_
              rintro e w3 ⟨rfl, rfl⟩
              go_wp2_with fail
              refine HN2.mono ?_
              rintro e w3 ⟨rfl, rfl⟩
              go_wp2_with fail
              refine HQ.mono ?_
              rintro e w4 ⟨rfl, hb4⟩
              go_wp2
              go_ret
              exact ⟨by rw [HE.out]; rfl, kqt hb2 hb4⟩
          · have HE : Hid (eV (asf [] al) = .iface 36 (.int .i64 (nsf vs))) := by show _ = _; rw [HS.out, orE_l h2, orE_l h2, eV_not h2]
            rw [eV_not h2] at HN2
            clear HS h1 h2 HQ
            generalize nsf vs = n at *
            go_wp2_with fail
            refine HN1.mono ?_
            rintro e w3 ⟨rfl, rfl⟩
            go_wp2_with fail
            refine HN2.mono ?_
            rintro e w3 ⟨rfl, rfl⟩
            go_wp2
            go_ret
            exact ⟨by rw [HE.out]; rfl, hb2⟩
        · have HE : Hid (eV (asf [] al) = .iface 36 (.int .i64 (nsf us))) := by show _ = _; rw [HS.out, orE_l h1, orE_l h1, eV_not h1]
          rw [eV_not h1] at HN1
          clear HS h1 HN2 HQ
          generalize nsf us = n at *
          go_wp2_with fail
          refine HN1.mono ?_
          rintro e w3 ⟨rfl, rfl⟩
          go_wp2
          go_ret
          exact ⟨by rw [HE.out]; rfl, hb2⟩
    · have i1 : ¬ (k : Int) < (al.length : Int) := by omega
      have HE : Hid (asf [] al = 0) := by show _ = _; rw [HR.out, List.drop_of_length_le (by omega)]; rfl
      clear HR
      go_wp2
      go_ret
      exact ⟨by rw [HE.out]; rfl, hnx⟩
theorem scf_ways (s : Sc) : ((8 < s.ks.length ∨ 8 < s.acs.length) ∧ scf s = 4) ∨ (s.ks.length ≤ 8 ∧ s.acs.length ≤ 8 ∧ scf s = orE (ksf [] s.ks) (asf [] s.acs)) := by
  unfold scf
  by_cases h : 8 < s.ks.length ∨ 8 < s.acs.length
  · exact .inl ⟨h, by rw [decide_eq_true h]; rfl⟩
  · exact .inr ⟨by omega, by omega, by rw [decide_eq_false h]; rfl⟩
set_option maxHeartbeats 2000000 in
/-- Check of a schema. -/
theorem scheck_any (s : Sc) (pk pa : Option Addr) (ck ca : Nat) (w : World) (h : SA w s pk ck pa ca) :
    Calls Tryz.prog 22 #[scV s pk ck pa ca] w fun e w' => e = .returned (eV (scf s)) ∧ Below w.heap.size w w' := by
  unfold scV
  obtain ⟨V, hV⟩ : ∃ V, V = w.alloc (.cells #[.slice pk s.ks.length ck, .slice pa s.acs.length ca] 25) := ⟨_, rfl⟩
  have hbV : Below w.heap.size w V := by rw [hV]; exact kqx
  have hVs : V.heap.size = w.heap.size + 1 := by rw [hV]; simp
  have v0 : V.cell? ⟨w.heap.size, 0, none⟩ = some (.slice pk s.ks.length ck) := by rw [hV]; simp
  have v1 : V.cell? ⟨w.heap.size, 1, none⟩ = some (.slice pa s.acs.length ca) := by rw [hV]; simp
  have HSA : Hid (SA V s pk ck pa ca) := h.up hbV
  clear h
  rcases scf_ways s with ⟨h8, e⟩ | ⟨hk, ha, e⟩
  · have HE : Hid (scf s = 4) := e
    clear e
    by_cases h6 : 8 < s.ks.length
    · have j1 : (8 : Int) < (s.ks.length : Int) := by omega
      clear h8 h6
      go_enter Tryz.func22, Tryz.ntmps22
      go_wp2
      go_ret
      exact ⟨by rw [HE.out]; rfl, kqx⟩
    · have j1 : ¬ (8 : Int) < (s.ks.length : Int) := by omega
      have j2 : (8 : Int) < (s.acs.length : Int) := by omega
      clear h8 h6
      go_enter Tryz.func22, Tryz.ntmps22
      go_wp2
      go_ret
      exact ⟨by rw [HE.out]; rfl, kqx⟩
  · have HE : Hid (scf s = orE (ksf [] s.ks) (asf [] s.acs)) := e
    have j1 : ¬ (8 : Int) < (s.ks.length : Int) := by omega
    have j2 : ¬ (8 : Int) < (s.acs.length : Int) := by omega
    have HC := checkKinds_any s.ks pk ck V HSA.out.ks hk
    by_cases h0 : ksf [] s.ks = 0
    · rw [eV_nil h0] at HC
      have HE2 : Hid (scf s = asf [] s.acs) := by show _ = _; rw [HE.out, orE_r h0]
      have HA := fun W (hW : Below V.heap.size V W) => checkActs_any s.acs pa ca W (HSA.out.asl.up hW) ha
      clear h0 HE e
      by_cases h1 : asf [] s.acs = 0
      · rw [eV_nil h1] at HA
        have HE3 : Hid (eV (scf s) = .nilIface) := by show _ = _; rw [HE2.out, eV_nil h1]
        clear h1 HE2
        go_enter Tryz.func22, Tryz.ntmps22
        go_wp2_with fail
        rw [← hV]
        clear hV
        refine HC.mono ?_
        rintro e w1 ⟨rfl, hb1⟩
        have u1 := (hb1.cell (p := ⟨w.heap.size, 1, none⟩) (by show w.heap.size < _; omega)).trans v1
        go_wp2_with fail
        refine (HA _ hb1).mono ?_
        rintro e w2 ⟨rfl, hb2⟩
        go_wp2
        go_ret
        exact ⟨by rw [HE3.out]; rfl, kqt hbV (kqt hb1 hb2)⟩
      · rw [eV_not h1] at HA
        have HE3 : Hid (eV (scf s) = .iface 36 (.int .i64 (asf [] s.acs))) := by show _ = _; rw [HE2.out, eV_not h1]
        clear h1 HE2
        generalize asf [] s.acs = n at *
        go_enter Tryz.func22, Tryz.ntmps22
        go_wp2_with fail
        rw [← hV]
        clear hV
        refine HC.mono ?_
        rintro e w1 ⟨rfl, hb1⟩
        have u1 := (hb1.cell (p := ⟨w.heap.size, 1, none⟩) (by show w.heap.size < _; omega)).trans v1
        go_wp2_with fail
        refine (HA _ hb1).mono ?_
        rintro e w2 ⟨rfl, hb2⟩
        go_wp2
        go_ret
        exact ⟨by rw [HE3.out]; rfl, kqt hbV (kqt hb1 hb2)⟩
    · rw [eV_not h0] at HC
      have HE3 : Hid (eV (scf s) = .iface 36 (.int .i64 (ksf [] s.ks))) := by show _ = _; rw [HE.out, orE_l h0, eV_not h0]
      clear h0 HE e
      generalize ksf [] s.ks = n at *
      go_enter Tryz.func22, Tryz.ntmps22
      go_wp2_with fail
      rw [← hV]
      clear hV
      refine HC.mono ?_
      rintro e w1 ⟨rfl, hb1⟩
      go_wp2
      go_ret
      exact ⟨by rw [HE3.out]; rfl, kqt hbV hb1⟩
end Go.Proofs.YtgkbegomekhpcaaGreatDoor
namespace Go.Proofs.YtgkbegomekhpcaaGreatDoor
open Go.RowKit
set_option linter.unusedVariables false
set_option linter.unusedSimpArgs false
set_option maxRecDepth 100000

/-- An act in a block of its own. -/
structure K4 (w : World) (B : Nat) (a b c d : Value) : Prop where
  blk : w.heap[B]? = some (.cells #[a, b, c, d] 64 (0, 0))
theorem K4.lt {w : World} {B : Nat} {a b c d : Value} (h : K4 w B a b c d) : B < w.heap.size := (Array.getElem?_eq_some_iff.1 h.blk).1
theorem K4.up {w w' : World} {B : Nat} {a b c d : Value} (h : K4 w B a b c d) (hb : Below w.heap.size w w') : K4 w' B a b c d := ⟨(hb.block B h.lt).trans h.blk⟩
theorem K4.new (w : World) (a b c d : Value) {N : Nat} (h : N = w.heap.size) : K4 (w.alloc (.cells #[a, b, c, d] 64)) N a b c d := ⟨fnew_at h⟩
theorem K4.cells {w : World} {B : Nat} {a b c d : Value} (h : K4 w B a b c d) : w.cell? ⟨B, 0, none⟩ = some a ∧ w.cell? ⟨B, 1, none⟩ = some b ∧ w.cell? ⟨B, 2, none⟩ = some c ∧ w.cell? ⟨B, 3, none⟩ = some d := by
  have := h.blk
  simp [World.cell?, this]
theorem K4.free {w : World} {B : Nat} {a b c d : Value} (h : K4 w B a b c d) (j : Nat) : w.frozen? ⟨B, j, none⟩ = false := by
  have := h.blk
  simp [World.frozen?, this]
/-- What actOf tells. -/
def AofRet (w' : World) (en : Ending) : Option Ac → Prop
  | some a => ∃ p0 c0 p1 c1 pt ct, en = .returned (.tuple #[.agg #[.string a.id, .slice p0 a.who.length c0, .slice p1 a.what.length c1, .slice pt a.cx.length ct], .nilIface]) ∧ AcV w' a p0 c0 p1 c1 pt ct
  | none => en = .returned (.tuple #[.agg #[.string ⟨#[]⟩, .slice none 0 0, .slice none 0 0, .slice none 0 0], .iface 36 (.int .i64 3)])
theorem K4.put {w w' : World} {B : Nat} {a b c d a' b' c' d' : Value} (h : K4 w B a b c d) (hw : w' = (((w.setCell ⟨B, 0, none⟩ a').setCell ⟨B, 1, none⟩ b').setCell ⟨B, 2, none⟩ c').setCell ⟨B, 3, none⟩ d') : K4 w' B a' b' c' d' ∧ Keep (fun x => x = B) w w' := by
  have e1 := heap_setCell_same w B 0 _ _ a' h.blk
  have e2 := heap_setCell_same _ B 1 _ _ b' e1
  have e3 := heap_setCell_same _ B 2 _ _ c' e2
  have e4 := heap_setCell_same _ B 3 _ _ d' e3
  subst hw
  have q : ∀ (W : World) (o : Nat) (z : Value), Keep (fun x => x = B) W (W.setCell ⟨B, o, none⟩ z) := fun W o z => keep_set W B o z
  have t : ∀ {a b c : World}, Keep (fun x => x = B) a b → Keep (fun x => x = B) b c → Keep (fun x => x = B) a c := fun h k => h.trans k (fun _ e => .inl e)
  exact ⟨⟨e4⟩, t (t (t (q _ _ _) (q _ _ _)) (q _ _ _)) (q _ _ _)⟩
end Go.Proofs.YtgkbegomekhpcaaGreatDoor
namespace Go.Proofs.YtgkbegomekhpcaaGreatDoor
open Go.RowKit
set_option linter.unusedVariables false
set_option maxRecDepth 100000

/-- What field tells. -/
def FdRet (S : Nat → Prop) (w' : World) (en : Ending) : Option (Nd × Tp) → Prop
  | some (f, kf) => ∃ q c, en = .returned (.tuple #[.agg #[.int .i64 f.op, .int .i64 f.n, .string f.s, .string f.t, .slice q kf.len c], .bool true]) ∧ f.wf ∧ VK w' kf (.slice q kf.len c) S
  | none => en = .returned (.tuple #[.agg #[.int .i64 0, .int .i64 0, .string ⟨#[]⟩, .string ⟨#[]⟩, .slice none 0 0], .bool false])
theorem find_app {s : ByteArray} : ∀ {a b : Tp}, a.find s = none → (a.app b).find s = b.find s
  | .nil, b, _ => rfl
  | .cons x k r, b, h => by
    rw [Tp.find] at h
    split at h
    · cases h
    · rename_i hne; rw [Tp.app, Tp.find, if_neg hne]; exact find_app h
set_option maxHeartbeats 4000000 in
theorem field_any (x : Nd) (k : Tp) (s : ByteArray) (w : World) (v : Value) (S : Nat → Prop) (hv : VK w k v S) (hl : k.flat.length ≤ 1000) :
    Calls Tryz.prog 196 #[partV x v, .string s] w fun en w' => FdRet S w' en (k.find s) ∧ Below w.heap.size w w' := by
  obtain ⟨q, c, rfl, hkc, hcm⟩ := hv.slice
  have HV : Hid (VK w k (.slice q k.len c) (fun a => S a ∧ a < w.heap.size)) := hv.real
  have hkb : k.len ≤ 1000 := by have := tp_len_flat k; omega
  clear hv hl
  obtain ⟨W, hW⟩ : ∃ W, W = (w.alloc (.cells #[.int .i64 x.op, .int .i64 x.n, .string x.s, .string x.t, .slice q k.len c] 81)).alloc (.cells #[.int .i64 0, .int .i64 0, .string ⟨#[]⟩, .string ⟨#[]⟩, .slice none 0 0] 81) := ⟨_, rfl⟩
  have hb0 : Below w.heap.size w W := by rw [hW]; exact kqx
  have hp_0 : PBk W w.heap.size x (.slice q k.len c) := by rw [hW]; exact (PBk.new w x _ rfl).up kqx
  have hr_0 : PBk W (w.heap.size + 1) zN (.slice none 0 0) := by rw [hW]; exact PBk.new _ zN _ (by simp)
  have hWs : w.heap.size + 2 ≤ W.heap.size := by rw [hW]; simp
  unfold partV
  go_enter Tryz.func196, Tryz.ntmps196
  go_wp2
  rw [← hW]
  go_loopw [11] (fun i wr => ∃ (done todo : Tp), Hid (done.app todo = k) ∧ i = .int .i64 (done.len : Int) ∧ Hid (done.find s = none) ∧ PBk wr (w.heap.size + 1) zN (.slice none 0 0) ∧ Below w.heap.size w wr ∧ w.heap.size + 2 ≤ wr.heap.size) (fun i _ => k.len - (intOf i).toNat)
  case atStart => exact ⟨.nil, k, rfl, rfl, rfl, hr_0, hb0, hWs⟩
  case round =>
    rename World => w3
    obtain ⟨done, todo, HD, rfl, HF, hr_3, hb3, hs3⟩ := hrel
    cases todo with
    | nil =>
      have hd : done = k := by have := HD.out; rw [tp_app_nil] at this; exact this
      subst hd
      have i1 : ¬ (done.len : Int) < (done.len : Int) := by omega
      obtain ⟨r0, r1, r2, r3, r4⟩ := hr_3.cells
      have fr := hr_3.free
      go_wp2
      obtain ⟨V, hV⟩ : ∃ V, V = ((((w3.setCell ⟨w.heap.size + 1, 0, none⟩ (.int .i64 zN.op)).setCell ⟨w.heap.size + 1, 1, none⟩ (.int .i64 zN.n)).setCell ⟨w.heap.size + 1, 2, none⟩ (.string zN.s)).setCell ⟨w.heap.size + 1, 3, none⟩ (.string zN.t)).setCell ⟨w.heap.size + 1, 4, none⟩ (.slice none 0 0) := ⟨_, rfl⟩
      obtain ⟨hPV, hKV⟩ := hr_3.put hV
      obtain ⟨t0, t1, t2, t3, t4⟩ := hPV.cells
      have hbV : Below w.heap.size w3 V := hKV.below (by omega) (fun a e => by omega)
      unfold zN at hV t0 t1 t2 t3
      dsimp only at hV t0 t1 t2 t3
      rw [← hV]
      exact bodyPost_ret (v := .tuple #[.agg #[.int .i64 0, .int .i64 0, .string ⟨#[]⟩, .string ⟨#[]⟩, .slice none 0 0], .bool false]) (by simp [results, Tryz.results196, go_sem, t0, t1, t2, t3, t4]) rfl ⟨by rw [HF.out]; rfl, hb3.trans hbV⟩
    | cons y ky r =>
      have hv3 : VK w3 k (.slice q k.len c) (fun a => S a ∧ a < w.heap.size) := HV.out.up hb3
      have hkl : k.len = done.len + (r.len + 1) := by rw [← HD.out, tp_app_len]; rfl
      have i1 : (done.len : Int) < (k.len : Int) := by omega
      rw [← HD.out] at hv3
      obtain ⟨g, cap, u, hu, hP, hyw, hvk, hSg⟩ := hv3.at
      rw [HD.out, ← hkl] at hu
      cases hu
      obtain ⟨qu, cu, rfl, _⟩ := hvk.slice
      obtain ⟨p0, p1, p2, p3, p4⟩ := hP.cells
      have HDn : Hid ((done.app (.cons y ky .nil)).app r = k) := by show _ = _; rw [tp_app_assoc, ← HD.out]; rfl
      have HKL : Hid (k.len = done.len + (r.len + 1)) := hkl
      have HVk : Hid (VK w3 ky (.slice qu ky.len cu) (fun a => S a ∧ a < w.heap.size)) := hvk
      clear hv3 hP hkl hvk
      by_cases he : y.s = s
      · subst he
        have HK : Hid (k.find y.s = some (y, ky)) := by show _ = _; rw [← HD.out, find_app HF.out, Fl.find_head]
        obtain ⟨V6, hV6⟩ : ∃ V6, V6 = w3.alloc (.cells #[.int .i64 y.op, .int .i64 y.n, .string y.s, .string y.t, .slice qu ky.len cu] 81) := ⟨_, rfl⟩
        have hb6 : Below w3.heap.size w3 V6 := by rw [hV6]; exact kqx
        have hr_6 := hr_3.up hb6
        obtain ⟨s0, s1, s2, s3, s4⟩ := hr_6.cells
        have fr := hr_6.free
        rw [hV6] at s0 s1 s2 s3 s4 fr
        go_wp2
        rw [← hV6]
        obtain ⟨V, hV⟩ : ∃ V, V = ((((V6.setCell ⟨w.heap.size + 1, 0, none⟩ (.int .i64 y.op)).setCell ⟨w.heap.size + 1, 1, none⟩ (.int .i64 y.n)).setCell ⟨w.heap.size + 1, 2, none⟩ (.string y.s)).setCell ⟨w.heap.size + 1, 3, none⟩ (.string y.t)).setCell ⟨w.heap.size + 1, 4, none⟩ (.slice qu ky.len cu) := ⟨_, rfl⟩
        obtain ⟨hPV, hKV⟩ := hr_6.put hV
        obtain ⟨t0, t1, t2, t3, t4⟩ := hPV.cells
        have hbV : Below w.heap.size V6 V := hKV.below (by have := hb6.size; omega) (fun a e => by omega)
        rw [← hV]
        have hbf : Below w.heap.size w V := (hb3.trans (hb6.mono hb3.size)).trans hbV
        refine bodyPost_ret (v := .tuple #[.agg #[.int .i64 y.op, .int .i64 y.n, .string y.s, .string y.t, .slice qu ky.len cu], .bool true]) (by simp [results, Tryz.results196, go_sem, t0, t1, t2, t3, t4]) rfl ⟨?_, hbf⟩
        rw [HK.out]
        exact ⟨_, _, rfl, hyw, (HVk.out.bel ((hb6.mono (by omega)).trans hbV) (fun a ha => ha.2)).sub (fun a ha => ha.1)⟩
      · have HF2 : Hid ((done.app (.cons y ky .nil)).find s = none) := by show _ = _; rw [find_app HF.out, find_ne he]; rfl
        have e1 : (y.s.toList == s.toList) = false := by rw [beq_eq_false_iff_ne]; exact fun h => he (bytes_inj (by simpa only [ByteArray.toList_eq] using h))
        obtain ⟨V6, hV6⟩ : ∃ V6, V6 = w3.alloc (.cells #[.int .i64 y.op, .int .i64 y.n, .string y.s, .string y.t, .slice qu ky.len cu] 81) := ⟨_, rfl⟩
        have hb6 : Below w3.heap.size w3 V6 := by rw [hV6]; exact kqx
        clear he
        go_wp2_with fail
        rw [← hV6]
        go_roundw
        case rel => exact ⟨done.app (.cons y ky .nil), r, HDn, by rw [tp_app_len]; simp only [Tp.len]; go_num, HF2, hr_3.up hb6, hb3.trans (hb6.mono hb3.size), by have := hb6.size; omega⟩
        case measure => have := HKL.out; simp [intOf]; omega
end Go.Proofs.YtgkbegomekhpcaaGreatDoor
namespace Go.Proofs.YtgkbegomekhpcaaGreatDoor
open Go.RowKit
set_option linter.unusedVariables false
set_option maxRecDepth 100000

/-- A part is put into a block, beside another. -/
theorem PBk.puts {w : World} {A B : Nat} {x y z : Nd} {v u r : Value} (h : PBk w A y v) (k : PBk w B z r) (hne : A ≠ B) : ∃ V, V = (((((w.setCell ⟨A, 0, none⟩ (.int .i64 x.op)).setCell ⟨A, 1, none⟩ (.int .i64 x.n)).setCell ⟨A, 2, none⟩ (.string x.s)).setCell ⟨A, 3, none⟩ (.string x.t)).setCell ⟨A, 4, none⟩ u) ∧ PBk V A x u ∧ PBk V B z r ∧ Keep (fun a => a = A) w V := by
  obtain ⟨h1, h2⟩ := h.put (x := x) (u := u) rfl
  exact ⟨_, rfl, h1, k.keep h2 (fun e => hne e.symm), h2⟩
section
variable (a b : List Nd) (w : World) (p q : Option Addr) (c d : Nat) (ha : NL w p a) (hb : NL w q b) (hc : a.length ≤ c) (hcm : c ≤ maxLen) (hd : b.length ≤ d) (hdm : d ≤ maxLen)
include ha hb hc hcm hd hdm
omit hb hd hdm in
set_option maxHeartbeats 4000000 in
theorem readBoth_one (h : kfault a ≠ 0) :
    Calls Tryz.prog 188 #[.slice p a.length c, .slice q b.length d] w fun e w' => e = .returned (.tuple #[.agg #[.int .i64 0, .int .i64 0, .string ⟨#[]⟩, .string ⟨#[]⟩, .slice none 0 0], .agg #[.int .i64 0, .int .i64 0, .string ⟨#[]⟩, .string ⟨#[]⟩, .slice none 0 0], .iface 36 (.int .i64 (kfault a))]) ∧ Below w.heap.size w w' := by
  have hC := fun W (hW : Below w.heap.size w W) => read_err a W p c (ha.up hW) hc hcm h
  generalize kfault a = n at *
  clear ha
  obtain ⟨W, hW⟩ : ∃ W, W = (w.alloc (.cells #[.int .i64 0, .int .i64 0, .string ⟨#[]⟩, .string ⟨#[]⟩, .slice none 0 0] 81)).alloc (.cells #[.int .i64 0, .int .i64 0, .string ⟨#[]⟩, .string ⟨#[]⟩, .slice none 0 0] 81) := ⟨_, rfl⟩
  have hbW : Below w.heap.size w W := by rw [hW]; exact kqx
  have hA : PBk W w.heap.size zN (.slice none 0 0) := by rw [hW]; exact (PBk.new w zN _ rfl).up kqx
  have hB : PBk W (w.heap.size + 1) zN (.slice none 0 0) := by rw [hW]; exact PBk.new _ zN _ (by simp)
  go_enter Tryz.func188, Tryz.ntmps188
  go_wp2_with fail
  rw [← hW]
  refine (hC W hbW).mono ?_
  rintro _ w5 ⟨rfl, hb5⟩
  have hA5 := hA.up hb5
  have hB5 := hB.up hb5
  obtain ⟨r0, r1, r2, r3, r4⟩ := hA5.cells
  obtain ⟨s0, s1, s2, s3, s4⟩ := hB5.cells
  have fr := hA5.free
  have fs := hB5.free
  have hb05 := kqt hbW hb5
  clear hC hW hA hB
  go_wp2
  obtain ⟨V1, hV1, hA1, hB1, hK1⟩ := hA5.puts (x := zN) (u := .slice none 0 0) hB5 (by omega)
  obtain ⟨V2, hV2, hA2, hB2, hK2⟩ := hA1.puts (x := zN) (u := .slice none 0 0) hB1 (by omega)
  obtain ⟨V3, hV3, hB3, hA3, hK3⟩ := hB2.puts (x := zN) (u := .slice none 0 0) hA2 (by omega)
  unfold zN at hV1 hV2 hV3
  dsimp only at hV1 hV2 hV3
  rw [← hV1, ← hV2, ← hV3]
  obtain ⟨t0, t1, t2, t3, t4⟩ := hA3.cells
  obtain ⟨v0, v1, v2, v3, v4⟩ := hB3.cells
  unfold zN at t0 t1 t2 t3 v0 v1 v2 v3
  dsimp only at t0 t1 t2 t3 v0 v1 v2 v3
  have hbf : Below w.heap.size w V3 := ((hb05.trans (hK1.below (by have := hA5.lt; omega) (fun a e => by omega))).trans (hK2.below (by have := hA1.lt; omega) (fun a e => by omega))).trans (hK3.below (by have := hA2.lt; omega) (fun a e => by omega))
  exact bodyPost_ret (v := .tuple #[.agg #[.int .i64 0, .int .i64 0, .string ⟨#[]⟩, .string ⟨#[]⟩, .slice none 0 0], .agg #[.int .i64 0, .int .i64 0, .string ⟨#[]⟩, .string ⟨#[]⟩, .slice none 0 0], .iface 36 (.int .i64 n)]) (by simp [results, Tryz.results188, go_sem, t0, t1, t2, t3, t4, v0, v1, v2, v3, v4]) rfl ⟨rfl, hbf⟩
set_option maxHeartbeats 4000000 in
theorem readBoth_two (x : Nd) (k : Tp) (hla : a.length ≤ 200) (hk : KTy a x k) (h : kfault b ≠ 0) :
    Calls Tryz.prog 188 #[.slice p a.length c, .slice q b.length d] w fun e w' => e = .returned (.tuple #[.agg #[.int .i64 0, .int .i64 0, .string ⟨#[]⟩, .string ⟨#[]⟩, .slice none 0 0], .agg #[.int .i64 0, .int .i64 0, .string ⟨#[]⟩, .string ⟨#[]⟩, .slice none 0 0], .iface 36 (.int .i64 (kfault b))]) ∧ Below w.heap.size w w' := by
  have hC0 := fun W (hW : Below w.heap.size w W) => read_ok a W p c (ha.up hW) hc hcm hla x k hk
  have hC := fun W (hW : Below w.heap.size w W) => read_err b W q d (hb.up hW) hd hdm h
  generalize kfault b = n at *
  clear ha hb hk
  obtain ⟨W, hW⟩ : ∃ W, W = (w.alloc (.cells #[.int .i64 0, .int .i64 0, .string ⟨#[]⟩, .string ⟨#[]⟩, .slice none 0 0] 81)).alloc (.cells #[.int .i64 0, .int .i64 0, .string ⟨#[]⟩, .string ⟨#[]⟩, .slice none 0 0] 81) := ⟨_, rfl⟩
  have hbW : Below w.heap.size w W := by rw [hW]; exact kqx
  have hA : PBk W w.heap.size zN (.slice none 0 0) := by rw [hW]; exact (PBk.new w zN _ rfl).up kqx
  have hB : PBk W (w.heap.size + 1) zN (.slice none 0 0) := by rw [hW]; exact PBk.new _ zN _ (by simp)
  go_enter Tryz.func188, Tryz.ntmps188
  go_wp2_with fail
  rw [← hW]
  refine (hC0 W hbW).mono ?_
  rintro _ w5 ⟨⟨q5, c5, rfl, hxw, hu⟩, hb5⟩
  have hA5 := hA.up hb5
  have hB5 := hB.up hb5
  obtain ⟨r0, r1, r2, r3, r4⟩ := hA5.cells
  have fr := hA5.free
  have hb05 := kqt hbW hb5
  clear hC0 hW hA hB
  go_wp2_with fail
  obtain ⟨V1, hV1, hA1, hB1, hK1⟩ := hA5.puts (x := x) (u := .slice q5 k.len c5) hB5 (by omega)
  have hb1 : Below w.heap.size w V1 := hb05.trans (hK1.below (by have := hA5.lt; omega) (fun a e => by omega))
  rw [← hV1]
  refine (hC V1 hb1).mono ?_
  rintro _ w7 ⟨rfl, hb7⟩
  have hA7 := hA1.up hb7
  have hB7 := hB1.up hb7
  have hb07 := kqt hb1 hb7
  clear hC hV1 hu r0 r1 r2 r3 r4 fr
  obtain ⟨r0, r1, r2, r3, r4⟩ := hA7.cells
  obtain ⟨s0, s1, s2, s3, s4⟩ := hB7.cells
  have fr := hA7.free
  have fs := hB7.free
  go_wp2
  obtain ⟨V2, hV2, hB2, hA2, hK2⟩ := hB7.puts (x := zN) (u := .slice none 0 0) hA7 (by omega)
  obtain ⟨V3, hV3, hA3, hB3, hK3⟩ := hA2.puts (x := zN) (u := .slice none 0 0) hB2 (by omega)
  obtain ⟨V4, hV4, hB4, hA4, hK4⟩ := hB3.puts (x := zN) (u := .slice none 0 0) hA3 (by omega)
  unfold zN at hV2 hV3 hV4
  dsimp only at hV2 hV3 hV4
  rw [← hV2, ← hV3, ← hV4]
  obtain ⟨t0, t1, t2, t3, t4⟩ := hA4.cells
  obtain ⟨v0, v1, v2, v3, v4⟩ := hB4.cells
  unfold zN at t0 t1 t2 t3 v0 v1 v2 v3
  dsimp only at t0 t1 t2 t3 v0 v1 v2 v3
  have hbf : Below w.heap.size w V4 := ((hb07.trans (hK2.below (by have := hA7.lt; omega) (fun a e => by omega))).trans (hK3.below (by have := hA2.lt; omega) (fun a e => by omega))).trans (hK4.below (by have := hA3.lt; omega) (fun a e => by omega))
  exact bodyPost_ret (v := .tuple #[.agg #[.int .i64 0, .int .i64 0, .string ⟨#[]⟩, .string ⟨#[]⟩, .slice none 0 0], .agg #[.int .i64 0, .int .i64 0, .string ⟨#[]⟩, .string ⟨#[]⟩, .slice none 0 0], .iface 36 (.int .i64 n)]) (by simp [results, Tryz.results188, go_sem, t0, t1, t2, t3, t4, v0, v1, v2, v3, v4]) rfl ⟨rfl, hbf⟩
set_option maxHeartbeats 4000000 in
theorem readBoth_ok (x y : Nd) (k l : Tp) (hla : a.length ≤ 200) (hlb : b.length ≤ 200) (hk : KTy a x k) (hl : KTy b y l) :
    Calls Tryz.prog 188 #[.slice p a.length c, .slice q b.length d] w fun e w' => (∃ q1 c1 q2 c2, e = .returned (.tuple #[.agg #[.int .i64 x.op, .int .i64 x.n, .string x.s, .string x.t, .slice q1 k.len c1], .agg #[.int .i64 y.op, .int .i64 y.n, .string y.s, .string y.t, .slice q2 l.len c2], .nilIface]) ∧ x.wf ∧ y.wf ∧ VK w' k (.slice q1 k.len c1) (fun a => w.heap.size ≤ a) ∧ VK w' l (.slice q2 l.len c2) (fun a => w.heap.size ≤ a)) ∧ Below w.heap.size w w' := by
  have hC0 := fun W (hW : Below w.heap.size w W) => read_ok a W p c (ha.up hW) hc hcm hla x k hk
  have hC := fun W (hW : Below w.heap.size w W) => read_ok b W q d (hb.up hW) hd hdm hlb y l hl
  clear ha hb hk hl
  obtain ⟨W, hW⟩ : ∃ W, W = (w.alloc (.cells #[.int .i64 0, .int .i64 0, .string ⟨#[]⟩, .string ⟨#[]⟩, .slice none 0 0] 81)).alloc (.cells #[.int .i64 0, .int .i64 0, .string ⟨#[]⟩, .string ⟨#[]⟩, .slice none 0 0] 81) := ⟨_, rfl⟩
  have hbW : Below w.heap.size w W := by rw [hW]; exact kqx
  have hA : PBk W w.heap.size zN (.slice none 0 0) := by rw [hW]; exact (PBk.new w zN _ rfl).up kqx
  have hB : PBk W (w.heap.size + 1) zN (.slice none 0 0) := by rw [hW]; exact PBk.new _ zN _ (by simp)
  have hWs : W.heap.size = w.heap.size + 2 := by rw [hW]; simp
  go_enter Tryz.func188, Tryz.ntmps188
  go_wp2_with fail
  rw [← hW]
  refine (hC0 W hbW).mono ?_
  rintro _ w5 ⟨⟨q5, c5, rfl, hxw, hu⟩, hb5⟩
  have hA5 := hA.up hb5
  have hB5 := hB.up hb5
  obtain ⟨r0, r1, r2, r3, r4⟩ := hA5.cells
  have fr := hA5.free
  have hb05 := kqt hbW hb5
  clear hC0 hW hA hB
  go_wp2_with fail
  obtain ⟨V1, hV1, hA1, hB1, hK1⟩ := hA5.puts (x := x) (u := .slice q5 k.len c5) hB5 (by omega)
  have hb1 : Below w.heap.size w V1 := hb05.trans (hK1.below (by have := hA5.lt; omega) (fun a e => by omega))
  have hu1 : VK V1 k (.slice q5 k.len c5) (fun a => w.heap.size + 2 ≤ a) := (hu.agree (fun a h hl => hK1.block a hl (by omega))).sub (fun a h => by omega)
  rw [← hV1]
  refine (hC V1 hb1).mono ?_
  rintro _ w7 ⟨⟨q7, c7, rfl, hyw, hv7⟩, hb7⟩
  have hA7 := hA1.up hb7
  have hB7 := hB1.up hb7
  have hb07 := kqt hb1 hb7
  have hu7 := hu1.up hb7
  have hV1s : w.heap.size + 2 ≤ V1.heap.size := by have := hb5.size; have := hK1.size; omega
  have hv7' : VK w7 l (.slice q7 l.len c7) (fun a => w.heap.size + 2 ≤ a) := hv7.sub (fun a h => by omega)
  clear hC hV1 hu r0 r1 r2 r3 r4 fr hv7 hu1
  obtain ⟨r0, r1, r2, r3, r4⟩ := hA7.cells
  obtain ⟨s0, s1, s2, s3, s4⟩ := hB7.cells
  have fr := hA7.free
  have fs := hB7.free
  go_wp2
  obtain ⟨V2, hV2, hB2, hA2, hK2⟩ := hB7.puts (x := y) (u := .slice q7 l.len c7) hA7 (by omega)
  rw [← hV2]
  have hb2 : Below w.heap.size w V2 := hb07.trans (hK2.below (by have := hA7.lt; omega) (fun a e => by omega))
  have hu2 := hu7.agree (w' := V2) (fun a h hl => hK2.block a hl (by omega))
  have hv2 := hv7'.agree (w' := V2) (fun a h hl => hK2.block a hl (by omega))
  clear hV2 r0 r1 r2 r3 r4 s0 s1 s2 s3 s4 fr fs
  obtain ⟨r0, r1, r2, r3, r4⟩ := hA2.cells
  obtain ⟨s0, s1, s2, s3, s4⟩ := hB2.cells
  have fr := hA2.free
  have fs := hB2.free
  have r0' : V2.drew.cell? _ = _ := r0
  have r1' : V2.drew.cell? _ = _ := r1
  have r2' : V2.drew.cell? _ = _ := r2
  have r3' : V2.drew.cell? _ = _ := r3
  have r4' : V2.drew.cell? _ = _ := r4
  have s0' : V2.drew.cell? _ = _ := s0
  have s1' : V2.drew.cell? _ = _ := s1
  have s2' : V2.drew.cell? _ = _ := s2
  have s3' : V2.drew.cell? _ = _ := s3
  have s4' : V2.drew.cell? _ = _ := s4
  have fr' : ∀ j, V2.drew.frozen? ⟨w.heap.size, j, none⟩ = false := fr
  have fs' : ∀ j, V2.drew.frozen? ⟨w.heap.size + 1, j, none⟩ = false := fs
  go_region
  obtain ⟨V3, hV3, hA3, hB3, hK3⟩ := hA2.puts (x := x) (u := .slice q5 k.len c5) hB2 (by omega)
  obtain ⟨V4, hV4, hB4, hA4, hK4⟩ := hB3.puts (x := y) (u := .slice q7 l.len c7) hA3 (by omega)
  rw [← hV3, ← hV4]
  go_wp2
  have hb4 : Below w.heap.size w V4 := (hb2.trans (hK3.below (by have := hA2.lt; omega) (fun a e => by omega))).trans (hK4.below (by have := hA3.lt; omega) (fun a e => by omega))
  have hu4 := (hu2.agree (w' := V3) (fun a h hl => hK3.block a hl (by omega))).agree (w' := V4) (fun a h hl => hK4.block a hl (by omega))
  have hv4 := (hv2.agree (w' := V3) (fun a h hl => hK3.block a hl (by omega))).agree (w' := V4) (fun a h hl => hK4.block a hl (by omega))
  have hbd : Below V4.heap.size V4 V4.drew := kqx
  obtain ⟨t0, t1, t2, t3, t4⟩ := (hA4.up hbd).cells
  obtain ⟨v0, v1, v2, v3, v4⟩ := (hB4.up hbd).cells
  exact bodyPost_ret (v := .tuple #[.agg #[.int .i64 x.op, .int .i64 x.n, .string x.s, .string x.t, .slice q5 k.len c5], .agg #[.int .i64 y.op, .int .i64 y.n, .string y.s, .string y.t, .slice q7 l.len c7], .nilIface]) (by simp [results, Tryz.results188, go_sem, t0, t1, t2, t3, t4, v0, v1, v2, v3, v4]) rfl ⟨⟨_, _, _, _, rfl, hxw, hyw, (hu4.up hbd).sub (fun a h => by omega), (hv4.up hbd).sub (fun a h => by omega)⟩, kqt hb4 hbd⟩
end
/-- What Below tells. -/
noncomputable def bfault (a b : List Nd) : Int := if kfault a = 0 then kfault b else kfault a
section
variable (a b : List Nd) (w : World) (p q : Option Addr) (c d : Nat) (ha : NL w p a) (hb : NL w q b) (hc : a.length ≤ c) (hcm : c ≤ maxLen) (hd : b.length ≤ d) (hdm : d ≤ maxLen)
include ha hb hc hcm hd hdm
theorem readBoth_err (h : bfault a b ≠ 0) :
    Calls Tryz.prog 188 #[.slice p a.length c, .slice q b.length d] w fun e w' => e = .returned (.tuple #[.agg #[.int .i64 0, .int .i64 0, .string ⟨#[]⟩, .string ⟨#[]⟩, .slice none 0 0], .agg #[.int .i64 0, .int .i64 0, .string ⟨#[]⟩, .string ⟨#[]⟩, .slice none 0 0], .iface 36 (.int .i64 (bfault a b))]) ∧ Below w.heap.size w w' := by
  unfold bfault at *
  by_cases h1 : kfault a = 0
  · rw [if_pos h1] at h ⊢
    obtain ⟨h2, x, k, h3⟩ := kfault_zero h1
    exact readBoth_two a b w p q c d ha hb hc hcm hd hdm x k h2 h3 h
  · rw [if_neg h1]
    exact readBoth_one a b w p q c d ha hc hcm h1
end
end Go.Proofs.YtgkbegomekhpcaaGreatDoor
namespace Go.Proofs.YtgkbegomekhpcaaGreatDoor
open Go.RowKit
set_option linter.unusedVariables false

def bare (x : Nd) : Bool := x.n == 0 && (x.s.data.toList.isEmpty && x.t.data.toList.isEmpty)
def justS (x : Nd) : Bool := x.n == 0 && x.t.data.toList.isEmpty

theorem tName_any (s : ByteArray) (w : World) (hs : s.size ≤ maxLen) :
    Calls Tryz.prog 185 #[.string s] w fun e w' => e = .returned (.bool (nfault s.data.toList == 0)) ∧ w' = w := by
  have HC := fun w => check_any s w hs
  cases h : (nfault s.data.toList == 0)
  · rw [eV_not (by simpa using h)] at HC
    go_enter Tryz.func185, Tryz.ntmps185
    go_wp2_with fail
    refine (HC _).mono ?_
    rintro e w1 ⟨rfl, rfl⟩
    go_wp2
    go_ret
    exact ⟨rfl, rfl⟩
  · rw [eV_nil (by simpa using h)] at HC
    go_enter Tryz.func185, Tryz.ntmps185
    go_wp2_with fail
    refine (HC _).mono ?_
    rintro e w1 ⟨rfl, rfl⟩
    go_wp2
    go_ret
    exact ⟨rfl, rfl⟩

theorem tText_any (s : ByteArray) (w : World) (hs : s.size ≤ maxLen) :
    Calls Tryz.prog 186 #[.string s] w fun e w' => e = .returned (.bool (textOk s.data.toList)) ∧ Below w.heap.size w w' := by
  have HC := fun w => quoteN_any s w hs
  cases h : textOk s.data.toList
  · have hn := tfault_not h
    rw [eV_not hn] at HC
    go_enter Tryz.func186, Tryz.ntmps186
    go_wp2_with fail
    refine (HC _).mono ?_
    rintro e w1 ⟨q, _, rfl, hb⟩
    go_wp2
    go_ret
    exact ⟨rfl, hb⟩
  · have hn := tfault_ok h
    rw [eV_nil hn] at HC
    go_enter Tryz.func186, Tryz.ntmps186
    go_wp2_with fail
    refine (HC _).mono ?_
    rintro e w1 ⟨q, _, rfl, hb⟩
    go_wp2
    go_ret
    exact ⟨rfl, hb⟩

theorem hasNothing_any (x : Nd) (w : World) :
    Calls Tryz.prog 184 #[x.val] w fun e w' => e = .returned (.bool (bare x)) ∧ Below w.heap.size w w' := by
  obtain ⟨op, n, s, t⟩ := x
  unfold Nd.val
  have HL : Hid (∀ o w', Below (w.alloc o).heap.size (w.alloc o) w' → Below w.heap.size w w') := fun o w' h => ((Below.refl _ _).alloc (Nat.le_refl _) _).trans (h.mono (by simp))
  go_enter Tryz.func184, Tryz.ntmps184
  go_wp2
  all_goals
    go_ret
    refine ⟨ret_bool ?_, HL.out _ _ (Below.refl _ _)⟩
    simp_all [bare, ← ByteArray.toList_eq]

theorem hasJustS_any (x : Nd) (w : World) :
    Calls Tryz.prog 182 #[x.val] w fun e w' => e = .returned (.bool (justS x)) ∧ Below w.heap.size w w' := by
  obtain ⟨op, n, s, t⟩ := x
  unfold Nd.val
  have HL : Hid (∀ o w', Below (w.alloc o).heap.size (w.alloc o) w' → Below w.heap.size w w') := fun o w' h => ((Below.refl _ _).alloc (Nat.le_refl _) _).trans (h.mono (by simp))
  go_enter Tryz.func182, Tryz.ntmps182
  go_wp2
  all_goals
    go_ret
    refine ⟨ret_bool ?_, HL.out _ _ (Below.refl _ _)⟩
    simp_all [justS, ← ByteArray.toList_eq]

theorem isWord_any (s : ByteArray) (w : World) :
    Calls Tryz.prog 232 #[.string s] w fun e w' => e = .returned (.bool (rsv s.data.toList)) ∧ w' = w := by
  go_enter Tryz.func232, Tryz.ntmps232
  go_wp2
  all_goals
    go_ret
    refine ⟨ret_bool ?_, rfl⟩
    simp_all [rsv, ByteArray.toList_eq]

theorem head_byte (s : ByteArray) (h : 1 ≤ s.size) : (s.extract 0 1).data.toList = s.data.toList.take 1 := by simp
theorem tail_bytes (s : ByteArray) : (s.extract 1 s.size).data.toList = s.data.toList.tail := by
  simp [List.take_of_length_le]
theorem take_head {l : List UInt8} (c : UInt8) : l.take 1 = [c] ↔ l.head? = some c := by cases l <;> simp

theorem hasPrefix_any (s : ByteArray) (w : World) (hs : s.size ≤ maxLen) :
    Calls Tryz.prog 204 #[.string s, .string ⟨#[63]⟩] w fun e w' => e = .returned (.bool (decide (s.data.toList.head? = some 63))) ∧ w' = w := by
  unfold maxLen at hs
  have hl : s.data.toList.length = s.size := by simp
  by_cases h1 : 1 ≤ s.size
  · have h1' : (1 : Int) ≤ (s.size : Int) := by omega
    have HE : Hid (((s.extract 0 1).toList = [63]) ↔ s.data.toList.head? = some 63) := by
      show (_ ↔ _)
      rw [ByteArray.toList_eq, head_byte s h1, take_head]
    go_enter Tryz.func204, Tryz.ntmps204
    go_wp2
    go_ret
    refine ⟨ret_bool ?_, rfl⟩
    rw [Bool.eq_iff_iff, beq_iff_eq, decide_eq_true_iff]
    exact HE.out
  · have h1' : ¬ (1 : Int) ≤ (s.size : Int) := by omega
    have HE : Hid (decide (s.data.toList.head? = some 63) = false) := by
      show _ = _
      have : s.data.toList = [] := List.eq_nil_of_length_eq_zero (by omega)
      rw [this]; rfl
    go_enter Tryz.func204, Tryz.ntmps204
    go_wp2
    go_ret
    exact ⟨ret_bool HE.out.symm, rfl⟩

/-- Without the sign of a slot. -/
def slotOf (s : ByteArray) : ByteArray := if s.data.toList.head? = some 63 then s.extract 1 s.size else s
theorem cutPrefix_yes (s : ByteArray) (w : World) (hs : s.size ≤ maxLen) (h : s.data.toList.head? = some 63) :
    Calls Tryz.prog 231 #[.string s, .string ⟨#[63]⟩] w fun e w' => e = .returned (.tuple #[.string (s.extract 1 s.size), .bool true]) ∧ w' = w := by
  have hl : s.data.toList.length = s.size := by simp
  have h1 : 1 ≤ s.size := by
    cases e : s.data.toList with
    | nil => rw [e] at h; cases h
    | cons a l => rw [e] at hl; simp at hl; omega
  have h1' : (1 : Int) ≤ (s.size : Int) := by omega
  have HP := fun w => hasPrefix_any s w hs
  rw [decide_eq_true h] at HP
  unfold maxLen at hs
  have hin : Calls Tryz.prog 274 #[.string s, .string ⟨#[63]⟩] w fun e w' => e = .returned (.tuple #[.string (s.extract 1 s.size), .bool true]) ∧ w' = w := by
    go_enter Tryz.func274, Tryz.ntmps274
    go_wp2_with fail
    refine (HP _).mono ?_
    rintro e w1 ⟨rfl, rfl⟩
    go_wp2
    go_ret2
    exact ⟨rfl, rfl⟩
  go_enter Tryz.func231, Tryz.ntmps231
  go_wp2_with fail
  refine hin.mono ?_
  rintro e w1 ⟨rfl, rfl⟩
  go_wp2
  go_ret2
  exact ⟨rfl, rfl⟩
theorem cutPrefix_no (s : ByteArray) (w : World) (hs : s.size ≤ maxLen) (h : s.data.toList.head? ≠ some 63) :
    Calls Tryz.prog 231 #[.string s, .string ⟨#[63]⟩] w fun e w' => e = .returned (.tuple #[.string s, .bool false]) ∧ w' = w := by
  have HP := fun w => hasPrefix_any s w hs
  rw [decide_eq_false h] at HP
  have hin : Calls Tryz.prog 274 #[.string s, .string ⟨#[63]⟩] w fun e w' => e = .returned (.tuple #[.string s, .bool false]) ∧ w' = w := by
    go_enter Tryz.func274, Tryz.ntmps274
    go_wp2_with fail
    refine (HP _).mono ?_
    rintro e w1 ⟨rfl, rfl⟩
    go_wp2
    go_ret2
    exact ⟨rfl, rfl⟩
  go_enter Tryz.func231, Tryz.ntmps231
  go_wp2_with fail
  refine hin.mono ?_
  rintro e w1 ⟨rfl, rfl⟩
  go_wp2
  go_ret2
  exact ⟨rfl, rfl⟩

theorem isVar_any (s : ByteArray) (w : World) (hs : s.size ≤ maxLen) :
    Calls Tryz.prog 183 #[.string s] w fun e w' => e = .returned (.bool (varOk s.data.toList)) ∧ w' = w := by
  by_cases h : s.data.toList.head? = some 63
  · have HV : Hid (varOk s.data.toList = (nfault (s.extract 1 s.size).data.toList == 0)) := by
      show _ = _
      unfold varOk; rw [if_pos h, tail_bytes]
    have HN := fun w => tName_any (s.extract 1 s.size) w (Nat.le_trans (by simp) hs)
    have HP := fun w => cutPrefix_yes s w hs h
    clear h
    generalize s.extract 1 s.size = u at *
    go_enter Tryz.func183, Tryz.ntmps183
    go_wp2_with fail
    refine (HP _).mono ?_
    rintro e w1 ⟨rfl, rfl⟩
    go_wp2_with fail
    refine (HN _).mono ?_
    rintro e w1 ⟨rfl, rfl⟩
    go_wp2
    go_ret
    exact ⟨ret_bool HV.out.symm, rfl⟩
  · have HV : Hid (varOk s.data.toList = (nfault s.data.toList == 0 && !rsv s.data.toList)) := by
      show _ = _
      unfold varOk; rw [if_neg h]
    have HN := fun w => tName_any s w hs
    have HP := fun w => cutPrefix_no s w hs h
    have HW := fun w => isWord_any s w
    clear h
    generalize rsv s.data.toList = r at *
    cases hn : (nfault s.data.toList == 0) <;> rw [hn] at HN HV
    · go_enter Tryz.func183, Tryz.ntmps183
      go_wp2_with fail
      refine (HP _).mono ?_
      rintro e w1 ⟨rfl, rfl⟩
      go_wp2_with fail
      refine (HN _).mono ?_
      rintro e w1 ⟨rfl, rfl⟩
      go_wp2
      go_ret
      exact ⟨ret_bool HV.out.symm, rfl⟩
    · go_enter Tryz.func183, Tryz.ntmps183
      go_wp2_with fail
      refine (HP _).mono ?_
      rintro e w1 ⟨rfl, rfl⟩
      go_wp2_with fail
      refine (HN _).mono ?_
      rintro e w1 ⟨rfl, rfl⟩
      go_wp2_with fail
      refine (HW _).mono ?_
      rintro e w1 ⟨rfl, rfl⟩
      go_wp2
      go_ret
      exact ⟨ret_bool HV.out.symm, rfl⟩

theorem tField_any (x : Nd) (w : World) (hx : x.wf) :
    Calls Tryz.prog 187 #[x.val] w fun e w' => e = .returned (.bool (x.op == 7 && ndOk x)) ∧ Below w.heap.size w w' := by
  have HJ := fun w => hasJustS_any x w
  have HN := fun w => tName_any x.s w hx.1
  have HB : Hid ((x.op == 7 && ndOk x) = (x.op == 7 && (justS x && (nfault x.s.data.toList == 0)))) := by
    show _ = _
    by_cases h7 : x.op = 7
    · unfold ndOk justS; simp [h7]
    · have : (x.op == 7) = false := by simpa using h7
      rw [this]; rfl
  rw [HB.out]
  clear HB
  generalize hj : justS x = j at *
  generalize hn : (nfault x.s.data.toList == 0) = n at *
  clear hj hn
  obtain ⟨op, m, s, t⟩ := x
  unfold Nd.val at *
  have HL : Hid (∀ o w', Below (w.alloc o).heap.size (w.alloc o) w' → Below w.heap.size w w') := fun o w' h => ((Below.refl _ _).alloc (Nat.le_refl _) _).trans (h.mono (by simp))
  simp only at *
  cases h7 : (op == 7)
  · go_enter Tryz.func187, Tryz.ntmps187
    go_wp2
    go_ret
    exact ⟨rfl, HL.out _ _ (Below.refl _ _)⟩
  · have hal : ∀ w', Below (w.alloc (.cells #[.int .i64 op, .int .i64 m, .string s, .string t] 33)).heap.size (w.alloc (.cells #[.int .i64 op, .int .i64 m, .string s, .string t] 33)) w' → w'.cell? ⟨w.heap.size, 2, none⟩ = some (.string s) := fun w' hb => (hb.cell (p := ⟨w.heap.size, 2, none⟩) (by simp)).trans (by simp [go_sem])
    have HAL : Hid (∀ _, _) := hal
    clear hal
    cases j
    · go_enter Tryz.func187, Tryz.ntmps187
      go_wp2_with fail
      refine (HJ _).mono ?_
      rintro e w1 ⟨rfl, hb⟩
      go_wp2
      go_ret
      exact ⟨rfl, HL.out _ _ hb⟩
    · go_enter Tryz.func187, Tryz.ntmps187
      go_wp2_with fail
      refine (HJ _).mono ?_
      rintro e w1 ⟨rfl, hb⟩
      have hc := HAL.out _ hb
      go_wp2_with fail
      refine (HN _).mono ?_
      rintro e w2 ⟨rfl, rfl⟩
      go_wp2
      go_ret
      exact ⟨rfl, HL.out _ _ hb⟩
end Go.Proofs.YtgkbegomekhpcaaGreatDoor
namespace Go.Proofs.YtgkbegomekhpcaaGreatDoor
open Go.RowKit
set_option linter.unusedVariables false

/-- What is thrown where there is no value. -/
def thrown : List PanicEntry := [{ v := .iface 36 (.int .i64 1), recovered := false }]

theorem need_true (w : World) : Calls Tryz.prog 128 #[.bool true] w fun e w' => e = .returned (.tuple #[]) ∧ w' = w := by
  go_enter Tryz.func128, Tryz.ntmps128
  go_wp2
  go_end0
  exact ⟨rfl, rfl⟩
theorem need_false (w : World) : Calls Tryz.prog 128 #[.bool false] w fun e w' => e = .panicked thrown ∧ w' = w := by
  go_enter Tryz.func128, Tryz.ntmps128
  go_wp2
  exact ⟨rfl, rfl, rfl⟩

theorem isText_any (s : ByteArray) (w : World) (hs : s.size ≤ maxLen) :
    Calls Tryz.prog 234 #[.string s] w fun e w' => e = .returned (.bool (textOk s.data.toList)) ∧ Below w.heap.size w w' := by
  by_cases h : 60 < s.size
  · have HT : Hid (textOk s.data.toList = false) := by show _ = _; unfold textOk; simp; intro hh; omega
    go_enter Tryz.func234, Tryz.ntmps234
    go_wp2_with fail
    refine (quote_full s _ hs h).mono ?_
    rintro e w1 ⟨rfl, rfl⟩
    go_wp2
    go_ret
    exact ⟨ret_bool HT.out.symm, Below.refl _ _⟩
  · cases ho : s.data.toList.all okb
    · have HT : Hid (textOk s.data.toList = false) := by show _ = _; unfold textOk; rw [ho]; simp
      go_enter Tryz.func234, Tryz.ntmps234
      go_wp2_with fail
      refine (quote_short s _ (by omega)).mono ?_
      rintro e w1 ⟨rfl, hb⟩
      rw [qres_bad ho]
      go_wp2
      go_ret
      exact ⟨ret_bool HT.out.symm, hb⟩
    · have HT : Hid (textOk s.data.toList = true) := by show _ = _; unfold textOk; rw [ho]; simp; omega
      go_enter Tryz.func234, Tryz.ntmps234
      go_wp2_with fail
      refine (quote_short s _ (by omega)).mono ?_
      rintro e w1 ⟨rfl, hb⟩
      rw [qres_ok ho]
      go_wp2
      go_ret
      exact ⟨ret_bool HT.out.symm, hb⟩

set_option maxHeartbeats 2000000 in
theorem mayBe_any (x : Nd) (w : World) (hx : x.wf) :
    Calls Tryz.prog 193 #[x.val] w fun e w' => e = .returned (.bool (ndOk x)) ∧ Below w.heap.size w w' := by
  obtain ⟨op, n, s, t⟩ := x
  obtain ⟨hs, ht, _⟩ := hx
  unfold Nd.val
  have hal : ∀ o w', Below (w.alloc o).heap.size (w.alloc o) w' → Below w.heap.size w w' := fun o w' h => ((Below.refl _ _).alloc (Nat.le_refl _) _).trans (h.mono (by simp))
  have HL : Hid (∀ o w', Below (w.alloc o).heap.size (w.alloc o) w' → Below w.heap.size w w') := hal
  clear hal
  by_cases h1 : op = 1
  · subst h1
    go_enter Tryz.func193, Tryz.ntmps193
    go_wp2
    all_goals
      go_ret
      refine ⟨ret_bool ?_, HL.out _ _ (Below.refl _ _)⟩
      simp_all [ndOk, ← ByteArray.toList_eq]
  by_cases h2 : op = 2
  · subst h2
    go_enter Tryz.func193, Tryz.ntmps193
    go_wp2
    all_goals
      go_ret
      refine ⟨ret_bool ?_, HL.out _ _ (Below.refl _ _)⟩
      simp_all [ndOk, ← ByteArray.toList_eq]
  by_cases h3 : op = 3
  · subst h3
    have HT := fun w => isText_any s w hs
    cases hT : textOk s.data.toList <;> rw [hT] at HT
    all_goals
      go_enter Tryz.func193, Tryz.ntmps193
      go_wp2_with (go_at_call 234; refine (HT _).mono ?_; rintro e w1 ⟨rfl, hb⟩)
      all_goals
        go_ret
        refine ⟨ret_bool ?_, HL.out _ _ (by first | assumption | exact Below.refl _ _)⟩
        simp_all [ndOk, ByteArray.toList_eq]
  by_cases h4 : op = 4
  · subst h4
    have HT := fun w => isText_any t w ht
    have HC := fun w => check_any s w hs
    by_cases hn : nfault s.data.toList = 0
    · rw [eV_nil hn] at HC
      cases hT : textOk t.data.toList <;> rw [hT] at HT
      all_goals
        go_enter Tryz.func193, Tryz.ntmps193
        go_wp2_with (first | (go_at_call 234; refine (HT _).mono ?_; rintro e w1 ⟨rfl, hb⟩) | (go_at_call 38; refine (HC _).mono ?_; rintro e w1 ⟨rfl, rfl⟩))
        all_goals
          go_ret
          refine ⟨ret_bool ?_, HL.out _ _ (by first | assumption | exact Below.refl _ _)⟩
          simp_all [ndOk]
    · rw [eV_not hn] at HC
      go_enter Tryz.func193, Tryz.ntmps193
      go_wp2_with (first | (go_at_call 234; refine (HT _).mono ?_; rintro e w1 ⟨rfl, hb⟩) | (go_at_call 38; refine (HC _).mono ?_; rintro e w1 ⟨rfl, rfl⟩))
      all_goals
        go_ret
        refine ⟨ret_bool ?_, HL.out _ _ (by first | assumption | exact Below.refl _ _)⟩
        simp_all [ndOk]
  by_cases h56 : op = 5 ∨ op = 6
  · rcases h56 with rfl | rfl
    all_goals
      go_enter Tryz.func193, Tryz.ntmps193
      go_wp2
      all_goals
        go_ret
        refine ⟨ret_bool ?_, HL.out _ _ (Below.refl _ _)⟩
        simp_all [ndOk, ← ByteArray.toList_eq]
  by_cases h7 : op = 7
  · subst h7
    have HC := fun w => check_any s w hs
    by_cases hn : nfault s.data.toList = 0
    · rw [eV_nil hn] at HC
      go_enter Tryz.func193, Tryz.ntmps193
      go_wp2_with (go_at_call 38; refine (HC _).mono ?_; rintro e w1 ⟨rfl, rfl⟩)
      all_goals
        go_ret
        refine ⟨ret_bool ?_, HL.out _ _ (Below.refl _ _)⟩
        simp_all [ndOk, ByteArray.toList_eq]
    · rw [eV_not hn] at HC
      go_enter Tryz.func193, Tryz.ntmps193
      go_wp2_with (go_at_call 38; refine (HC _).mono ?_; rintro e w1 ⟨rfl, rfl⟩)
      all_goals
        go_ret
        refine ⟨ret_bool ?_, HL.out _ _ (Below.refl _ _)⟩
        simp_all [ndOk, ByteArray.toList_eq]
  · have j5 : ¬ op = 5 := fun h => h56 (.inl h)
    have j6 : ¬ op = 6 := fun h => h56 (.inr h)
    have e1 : (op == 1) = false := by simpa using h1
    have e2 : (op == 2) = false := by simpa using h2
    have e3 : (op == 3) = false := by simpa using h3
    have e4 : (op == 4) = false := by simpa using h4
    have e5 : (op == 5) = false := by simpa using j5
    have e6 : (op == 6) = false := by simpa using j6
    have e7 : (op == 7) = false := by simpa using h7
    have HN : Hid (ndOk ⟨op, n, s, t⟩ = false) := by show _ = _; simp [ndOk, h1, h2, h3, h4, j5, j6, h7]
    clear h1 h2 h3 h4 h56 j5 j6 h7
    go_enter Tryz.func193, Tryz.ntmps193
    go_wp2
    go_ret
    exact ⟨ret_bool HN.out.symm, HL.out _ _ (Below.refl _ _)⟩
end Go.Proofs.YtgkbegomekhpcaaGreatDoor
