/- The document's StoreFault: by a walk of its own text. -/
import Derived.Test.YtkpbholhempmmaaGreatDoorEntFault
import Derived.Test.YtkpbholhempmmaaGreatDoorPast
namespace Go.Proofs.YtkpbholhempmmaaGreatDoor
open Go.RowKit Go.Maps Go.WideMaps
set_option linter.unusedVariables false
set_option linter.unusedSimpArgs false

theorem lfault_bad {seen : List Ui} {x : En} {r : List En} (h : uf x.u ≠ 0) : lfault seen (x :: r) = uf x.u := by unfold lfault; rw [if_neg h]
theorem lfault_twice {seen : List Ui} {x : En} {r : List En} (h : uf x.u = 0) (k : x.u ∈ seen) : lfault seen (x :: r) = 6 := by unfold lfault; rw [if_pos h, if_pos k]
theorem lfault_ent {seen : List Ui} {x : En} {r : List En} (h : uf x.u = 0) (k : x.u ∉ seen) (j : efault x ≠ 0) : lfault seen (x :: r) = efault x := by unfold lfault; rw [if_pos h, if_neg k, if_neg j]
theorem lfault_next {seen : List Ui} {x : En} {r : List En} (h : uf x.u = 0) (k : x.u ∉ seen) (j : efault x = 0) : lfault seen (x :: r) = lfault (seen ++ [x.u]) r := by conv => lhs; unfold lfault; rw [if_pos h, if_neg k, if_pos j]

open Classical in
noncomputable def abvB (es : List En) (u y : Ui) : Bool := decide (Abv es u y)
open Classical in
theorem abvB_iff (es : List En) (u y : Ui) : abvB es u y = true ↔ Abv es u y := by unfold abvB; rw [decide_eq_true_iff]
theorem overB_any (es : List En) (p : Option Addr) (c : Nat) (u y : Ui) (w : World) (hl : EL w p es) (hf : Few es) :
    Calls Tryz.prog 7 #[.slice p es.length c, .agg #[.string u.t, .string u.i], .agg #[.string y.t, .string y.i], .int .i64 es.length] w fun e w' => e = .returned (.bool (abvB es u y)) ∧ Below w.heap.size w w' := by
  refine (over_any es p c u y w hl hf).mono ?_
  rintro e w' ⟨⟨r, rfl, hr⟩, hb⟩
  refine ⟨?_, hb⟩
  have : r = abvB es u y := by rw [Bool.eq_iff_iff, hr, abvB_iff]
  rw [this]

set_option maxRecDepth 100000 in
set_option maxHeartbeats 8000000 in
theorem storeFault_any (es : List En) (p : Option Addr) (c : Nat) (w : World) (hl : EL w p es) :
    Calls Tryz.prog 4 #[.slice p es.length c] w fun er w' => er = .returned (.int .i64 (sfault es)) ∧ Below w.heap.size w w' := by
  by_cases h16 : 16 < es.length
  · have h' : (16 : Int) < (es.length : Int) := by omega
    have HF : Hid (sfault es = 4) := sfault_full h16
    go_enter Tryz.func4, Tryz.ntmps4
    go_wp2_with fail
    go_ret
    exact ⟨by rw [HF.out]; rfl, Below.refl _ _⟩
  · have h' : ¬ (16 : Int) < (es.length : Int) := by omega
    have HL : Hid (EL w p es) := hl
    have HB0 : Hid (lfault [] es ≠ 0 → sfault es = lfault [] es) := sfault_list h16
    have HN : Hid (lfault [] es = 0 → Few es) := few_of h16
    have HO : Hid (lfault [] es = 0 → ¬ Cyc es → sfault es = 0) := sfault_ok h16
    have HY : Hid (lfault [] es = 0 → Cyc es → sfault es = 7) := sfault_cyc h16
    generalize hZ : lfault [] es = Z at HB0 HN HO HY
    have HZ : Hid (lfault ((es.take 0).map (·.u)) (es.drop 0) = Z) := hZ
    clear hl hZ
    go_enter Tryz.func4, Tryz.ntmps4
    go_wp2_with fail
    go_loopw [3] (fun iv wr => ∃ i : Nat, i ≤ es.length ∧ iv = .int .i64 i ∧ Hid (lfault ((es.take i).map (·.u)) (es.drop i) = Z) ∧ Hid (Below w.heap.size w wr)) (fun iv _ => es.length - (intOf iv).toNat)
    case atStart => exact ⟨0, Nat.zero_le _, rfl, HZ, Below.refl _ _⟩
    case round =>
      obtain ⟨i, hi, rfl, HR, HB⟩ := hrel
      by_cases hlt : i < es.length
      · have i1 : (i : Int) < (es.length : Int) := by omega
        obtain ⟨b, off, pu, cu, pa, ca, rfl, hbl, _, hUL, hNL, hou, hoU, hu1, hu2, hn1, hn2, g0, g1, g2, g3⟩ := HL.out.at hlt
        have HG : Hid (∀ w', Below w.heap.size w w' → w'.cell? ⟨b, off + i * 4, none⟩ = some (.string es[i].u.t) ∧ w'.cell? ⟨b, off + i * 4 + 1, none⟩ = some (.string es[i].u.i) ∧ w'.cell? ⟨b, off + i * 4 + 2, none⟩ = some (.slice pu es[i].up.length cu) ∧ w'.cell? ⟨b, off + i * 4 + 3, none⟩ = some (.slice pa es[i].nd.length ca)) := fun w' k =>
          ⟨(k.cell (p := ⟨b, off + i * 4, none⟩) hbl).trans g0, (k.cell (p := ⟨b, off + i * 4 + 1, none⟩) hbl).trans g1, (k.cell (p := ⟨b, off + i * 4 + 2, none⟩) hbl).trans g2, (k.cell (p := ⟨b, off + i * 4 + 3, none⟩) hbl).trans g3⟩
        obtain ⟨x0, x1, x2, x3⟩ := HG.out _ HB.out
        have HD : Hid (es.drop i = es[i] :: es.drop (i + 1)) := List.drop_eq_getElem_cons hlt
        have HT : Hid (es.take (i + 1) = es.take i ++ [es[i]]) := List.take_succ_eq_append_getElem hlt
        replace hUL : Hid (UL _ _ _) := hUL
        replace hNL : Hid (NL _ _ _) := hNL
        replace hoU : Hid (∀ _, _) := hoU
        generalize es[i] = x at *
        clear g0 g1 g2 g3
        by_cases h0 : uf x.u = 0
        · have HX0 : Hid (uf x.u = 0) := h0
          clear h0
          go_wp2_with fail
          refine (uidF_any x.u _ hou).mono ?_
          rintro er w1 ⟨rfl, hb1⟩
          replace HB : Hid (Below w.heap.size w w1) := HB.out.trans (hb1.mono HB.out.size)
          clear hb1 x0 x1 x2 x3
          rw [HX0.out]
          go_wp2_with fail
          go_loopw [4, 5] (fun ev jv wr => ∃ (j : Nat) (z : Int), j ≤ i ∧ jv = .int .i64 j ∧ ev = .int .i64 z ∧ ((z = 0 ∧ Hid (∀ y ∈ es.take j, y.u ≠ x.u)) ∨ (z = 6 ∧ Hid (∃ y ∈ es.take i, y.u = x.u))) ∧ Hid (Below w.heap.size w wr)) (fun ev jv _ => i - (intOf jv).toNat)
          case atStart => exact ⟨0, 0, Nat.zero_le _, rfl, rfl, .inl ⟨rfl, fun y hy => (by simp at hy)⟩, HB⟩
          case round =>
            obtain ⟨j, z, hj, rfl, rfl, hz, HB⟩ := hrel
            rcases hz with ⟨rfl, HNI⟩ | ⟨rfl, HIN⟩
            · by_cases hlt2 : j < i
              · have i2 : (j : Int) < (i : Int) := by omega
                have i3 : (j : Int) < (es.length : Int) := by omega
                obtain ⟨x0, x1, _, _⟩ := HG.out _ HB.out
                obtain ⟨b', off', pu', cu', pa', ca', hpe, hbl', _, _, _, _, _, _, _, _, _, y0, y1, _, _⟩ := (HL.out.up HB.out).at (show j < es.length by omega)
                simp at hpe
                obtain ⟨rfl, rfl⟩ := hpe
                have HM : Hid (es[j] ∈ es.take i) := List.mem_take_iff_getElem.2 ⟨j, by omega, rfl⟩
                have HT2 : Hid (es.take (j + 1) = es.take j ++ [es[j]]) := List.take_succ_eq_append_getElem (by omega)
                generalize es[j]'(by omega) = y at y0 y1 HM HT2
                rcases uid_cases y.u x.u with heq | ⟨hne, ht⟩ | ⟨hne, ii, heq, ht⟩
                · rw [heq] at y0 y1
                  have HIN : Hid (∃ y ∈ es.take i, y.u = x.u) := ⟨y, HM.out, heq⟩
                  clear heq
                  go_wp2_with fail
                  go_quiet (fail)
                  go_wp2_with fail
                  go_roundw
                  case rel => exact ⟨j + 1, 6, by omega, by go_num, rfl, .inr ⟨rfl, HIN⟩, belD HB.out _⟩
                  case measure => simp [intOf]; omega
                · have HN2 : Hid (∀ y ∈ es.take (j + 1), y.u ≠ x.u) := by
                    intro z hz
                    rw [HT2.out] at hz
                    rcases List.mem_append.1 hz with q | q
                    · exact HNI.out z q
                    · rw [List.mem_singleton.1 q]; exact hne
                  clear hne
                  go_wp2_with fail
                  go_quiet (fail)
                  go_wp2_with fail
                  go_roundw
                  case rel => exact ⟨j + 1, 0, by omega, by go_num, rfl, .inl ⟨rfl, HN2⟩, belD HB.out _⟩
                  case measure => simp [intOf]; omega
                · have HN2 : Hid (∀ y ∈ es.take (j + 1), y.u ≠ x.u) := by
                    intro z hz
                    rw [HT2.out] at hz
                    rcases List.mem_append.1 hz with q | q
                    · exact HNI.out z q
                    · rw [List.mem_singleton.1 q]; exact hne
                  rw [heq] at y0 y1
                  simp only at y0 y1
                  clear hne heq
                  go_wp2_with fail
                  go_quiet (fail)
                  go_wp2_with fail
                  go_roundw
                  case rel => exact ⟨j + 1, 0, by omega, by go_num, rfl, .inl ⟨rfl, HN2⟩, belD HB.out _⟩
                  case measure => simp [intOf]; omega
              · obtain rfl : j = i := by omega
                have i2 : ¬ (j : Int) < (j : Int) := by omega
                have HNM : Hid (x.u ∉ (es.take j).map (·.u)) := by
                  intro q
                  obtain ⟨y, hy, e⟩ := List.mem_map.1 q
                  exact HNI.out y hy e
                obtain ⟨x0, x1, x2, x3⟩ := HG.out _ HB.out
                by_cases hef : efault x = 0
                · have HEF : Hid (efault x = 0) := hef
                  have HRZ : Hid (lfault ((es.take (j + 1)).map (·.u)) (es.drop (j + 1)) = Z) := by
                    have h := HR.out
                    rw [HD.out, lfault_next HX0.out HNM.out hef] at h
                    show _ = _
                    rw [HT.out, List.map_append]
                    exact h
                  clear hef
                  go_wp2_with fail
                  refine (entityFault_any x pu cu pa ca _ (hUL.out.up HB.out) (hNL.out.up HB.out) hoU.out hn1 hn2).mono ?_
                  rintro er w2 ⟨rfl, hb2⟩
                  replace HB : Hid (Below w.heap.size w w2) := HB.out.trans (hb2.mono HB.out.size)
                  clear hb2 x0 x1 x2 x3
                  rw [HEF.out]
                  go_wp2_with fail
                  go_roundw
                  case rel => exact ⟨j + 1, by omega, by go_num, HRZ, HB⟩
                  case measure => simp [intOf]; omega
                · have hef' : (efault x != 0) = true := by simp [hef]
                  have HEF : Hid (efault x ≠ 0) := hef
                  have HRZ : Hid (efault x = Z) := by
                    have h := HR.out
                    rw [HD.out, lfault_ent HX0.out HNM.out hef] at h
                    exact h
                  clear hef
                  go_wp2_with fail
                  refine (entityFault_any x pu cu pa ca _ (hUL.out.up HB.out) (hNL.out.up HB.out) hoU.out hn1 hn2).mono ?_
                  rintro er w2 ⟨rfl, hb2⟩
                  replace HB : Hid (Below w.heap.size w w2) := HB.out.trans (hb2.mono HB.out.size)
                  go_wp2_with fail
                  go_ret
                  have hz : Z ≠ 0 := by rw [← HRZ.out]; exact HEF.out
                  exact ⟨by rw [HB0.out hz, ← HRZ.out]; rfl, HB.out⟩
            · have HRZ : Hid (6 = Z) := by
                have h := HR.out
                obtain ⟨y, hy, e⟩ := HIN.out
                rw [HD.out, lfault_twice HX0.out (List.mem_map.2 ⟨y, hy, e⟩)] at h
                exact h
              have hz : Hid (Z ≠ 0) := by show Z ≠ 0; rw [← HRZ.out]; decide
              by_cases hlt2 : j < i
              · have i2 : (j : Int) < (i : Int) := by omega
                go_wp2_with fail
                go_ret
                exact ⟨by rw [HB0.out hz.out, ← HRZ.out]; rfl, HB.out⟩
              · have i2 : ¬ (j : Int) < (i : Int) := by omega
                go_wp2_with fail
                go_ret
                exact ⟨by rw [HB0.out hz.out, ← HRZ.out]; rfl, HB.out⟩
        · have HX0 : Hid (uf x.u ≠ 0) := h0
          have h0' : (uf x.u == 0) = false := by simp [h0]
          have h0'' : (uf x.u != 0) = true := by simp [h0]
          have HRZ : Hid (uf x.u = Z) := by
            have h := HR.out
            rw [HD.out, lfault_bad h0] at h
            exact h
          clear h0
          go_wp2_with fail
          refine (uidF_any x.u _ hou).mono ?_
          rintro er w1 ⟨rfl, hb1⟩
          replace HB : Hid (Below w.heap.size w w1) := HB.out.trans (hb1.mono HB.out.size)
          clear hb1 x0 x1 x2 x3
          go_wp2_with fail
          go_loopw [4, 5] (fun ev jv wr => ev = .int .i64 (uf x.u) ∧ jv = .int .i64 0 ∧ Hid (Below w.heap.size w wr)) (fun _ _ _ => 0)
          case atStart => exact ⟨rfl, rfl, HB⟩
          case round =>
            obtain ⟨rfl, rfl, HB⟩ := hrel
            have hz : Z ≠ 0 := by rw [← HRZ.out]; exact HX0.out
            have HZN : Hid (Z ≠ 0) := hz
            clear hz
            by_cases hi0 : 0 < i
            · have i2 : (0 : Int) < (i : Int) := by omega
              go_wp2_with fail
              go_ret
              exact ⟨by rw [HB0.out HZN.out, ← HRZ.out]; rfl, HB.out⟩
            · have i2 : ¬ (0 : Int) < (i : Int) := by omega
              go_wp2_with fail
              go_ret
              exact ⟨by rw [HB0.out HZN.out, ← HRZ.out]; rfl, HB.out⟩
      · obtain rfl : i = es.length := by omega
        have i1 : ¬ (es.length : Int) < (es.length : Int) := by omega
        have HZ0 : Hid (Z = 0) := by have h := HR.out; rw [List.drop_length] at h; exact h.symm
        have HF : Hid (Few es) := HN.out HZ0.out
        go_wp2_with fail
        go_loopw [6] (fun kv wr => ∃ k : Nat, k ≤ es.length ∧ kv = .int .i64 k ∧ Hid (∀ y ∈ es.take k, ¬ Abv es y.u y.u) ∧ Hid (Below w.heap.size w wr)) (fun kv _ => es.length - (intOf kv).toNat)
        case atStart => exact ⟨0, Nat.zero_le _, rfl, fun y hy => (by simp at hy), HB⟩
        case round =>
          obtain ⟨k, hk, rfl, HA, HB⟩ := hrel
          by_cases hlt2 : k < es.length
          · have i2 : (k : Int) < (es.length : Int) := by omega
            obtain ⟨b, off, pu, cu, pa, ca, rfl, hbl, _, _, _, hou, _, _, _, _, _, g0, g1, _, _⟩ := (HL.out.up HB.out).at hlt2
            have HM : Hid (es[k] ∈ es) := List.getElem_mem hlt2
            have HT : Hid (es.take (k + 1) = es.take k ++ [es[k]]) := List.take_succ_eq_append_getElem hlt2
            generalize es[k] = x at *
            have HAB : Hid (abvB es x.u x.u = true ↔ Abv es x.u x.u) := abvB_iff es x.u x.u
            have hz0 : ∀ q : BW wr.heap.size wr, q.at_.cell? ⟨b, off + k * 4, none⟩ = some (.string x.u.t) := fun q => (q.bel.cell (p := ⟨b, off + k * 4, none⟩) hbl).trans g0
            have hz1 : ∀ q : BW wr.heap.size wr, q.at_.cell? ⟨b, off + k * 4 + 1, none⟩ = some (.string x.u.i) := fun q => (q.bel.cell (p := ⟨b, off + k * 4 + 1, none⟩) hbl).trans g1
            have hcall : ∀ q : BW wr.heap.size wr, Calls Tryz.prog 7 #[.slice (some ⟨b, off, none⟩) es.length c, .agg #[.string x.u.t, .string x.u.i], .agg #[.string x.u.t, .string x.u.i], .int .i64 es.length] q.at_ (fun e w'' => e = .returned (.bool (abvB es x.u x.u)) ∧ ∃ p' : BW wr.heap.size wr, w'' = p'.at_) := fun q => Calls.bel q (overB_any es _ c x.u x.u q.at_ ((HL.out.up HB.out).up q.bel) HF.out)
            generalize abvB es x.u x.u = r at hcall HAB
            go_wp2_with fail
            refine wp_region_bel (by kernel_rfl) (by kernel_rfl) ?_
            repeat (go_big_quiet_step (exact hcall _))
            refine wpQuiet_nil ?_
            rintro _ ⟨q, rfl⟩
            have HB5 : Hid (Below w.heap.size w q.at_) := HB.out.trans (q.bel.mono HB.out.size)
            clear hcall hz0 hz1
            cases r
            · have HA2 : Hid (∀ y ∈ es.take (k + 1), ¬ Abv es y.u y.u) := by
                intro z hz
                rw [HT.out] at hz
                rcases List.mem_append.1 hz with q | q
                · exact HA.out z q
                · rw [List.mem_singleton.1 q]
                  intro hab
                  have := HAB.out.2 hab
                  cases this
              clear HAB
              go_wp2_with fail
              go_roundw
              case rel => exact ⟨k + 1, by omega, by go_num, HA2, HB5⟩
              case measure => simp [intOf]; omega
            · have HCY : Hid (sfault es = 7) := HY.out HZ0.out ⟨x, HM.out, HAB.out.1 rfl⟩
              clear HAB
              go_wp2_with fail
              go_ret
              exact ⟨by rw [HCY.out]; rfl, HB5.out⟩
          · obtain rfl : k = es.length := by omega
            have i2 : ¬ (es.length : Int) < (es.length : Int) := by omega
            have HCY : Hid (sfault es = 0) := HO.out HZ0.out (fun ⟨e, he, h⟩ => HA.out e (by rw [List.take_length]; exact he) h)
            go_wp2_with fail
            go_ret
            exact ⟨by rw [HCY.out]; rfl, HB.out⟩
end Go.Proofs.YtkpbholhempmmaaGreatDoor
