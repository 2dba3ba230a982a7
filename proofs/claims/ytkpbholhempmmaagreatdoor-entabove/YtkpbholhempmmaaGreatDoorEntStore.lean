/- Package ent's checkAttrs, storeOf: by walks of their own texts. -/
import Derived.Test.YtkpbholhempmmaaGreatDoorEntCyc
import Derived.Test.YtkpbholhempmmaaGreatDoorCheck
namespace Go.Proofs.YtkpbholhempmmaaGreatDoor
open Go.RowKit Go.Maps Go.WideMaps
set_option linter.unusedVariables false
set_option linter.unusedSimpArgs false

theorem vfault_nil : vfault [] ≠ 0 := by decide

set_option maxHeartbeats 1000000 in
theorem checkAttrs_any (v : List Nd) (p : Option Addr) (c : Nat) (w : World) (hv : NL w p v) (hc : v.length ≤ c) (hcm : c ≤ maxLen) :
    Calls Tryz.prog 32 #[.slice p v.length c] w fun e w' => e = .returned (eV (afault v)) ∧ Below w.heap.size w w' := by
  by_cases h0 : vfault v = 0
  · cases v with
    | nil => exact absurd h0 vfault_nil
    | cons x r =>
      have HE : Hid (eV (vfault (x :: r)) = .nilIface) := eV_nil h0
      obtain ⟨b, off, rfl, hbl, hc0, _⟩ := hv.at (i := 0) (by simp)
      have hcc : ∀ w', Below w.heap.size w w' → w'.cell? ⟨b, off, none⟩ = some (.int .i64 x.op) := fun w' k => (k.cell (p := ⟨b, off, none⟩) hbl).trans (by simpa using hc0)
      have HV : Hid (NL _ _ _) := hv
      have HC : Hid (∀ w', _) := hcc
      have hl1 : (0 : Int) < ((r.length + 1 : Nat) : Int) := by omega
      by_cases h6 : x.op = 6
      · have HF : Hid (afault (x :: r) = 0) := by show _ = _; unfold afault; rw [if_pos h0]; simp [h6]
        have h6' : (x.op != 6) = false := by simp [h6]
        clear h0 hc0 hcc hv h6
        go_enter Tryz.func32, Tryz.ntmps32
        go_wp2_with fail
        refine (vcheck_any (x :: r) _ c _ HV.out hc hcm).mono ?_
        rintro e w1 ⟨rfl, hb1⟩
        rw [HE.out]
        have hx := HC.out w1 hb1
        go_wp2_with fail
        go_ret
        exact ⟨by rw [HF.out]; rfl, hb1⟩
      · have HF : Hid (afault (x :: r) = 2) := by show _ = _; unfold afault; rw [if_pos h0]; simp [h6]
        have h6' : (x.op != 6) = true := by simp [h6]
        clear h0 hc0 hcc hv h6
        go_enter Tryz.func32, Tryz.ntmps32
        go_wp2_with fail
        refine (vcheck_any (x :: r) _ c _ HV.out hc hcm).mono ?_
        rintro e w1 ⟨rfl, hb1⟩
        rw [HE.out]
        have hx := HC.out w1 hb1
        go_wp2_with fail
        go_ret
        exact ⟨by rw [HF.out]; rfl, hb1⟩
  · have HE : Hid (eV (vfault v) = .iface 25 (.int .i64 (vfault v))) := eV_not h0
    have HF : Hid (afault v = vfault v) := if_neg h0
    clear h0
    go_enter Tryz.func32, Tryz.ntmps32
    go_wp2_with fail
    refine (vcheck_any v _ c _ hv hc hcm).mono ?_
    rintro e w1 ⟨rfl, hb1⟩
    rw [HE.out]
    go_wp2_with fail
    go_ret
    exact ⟨by rw [HF.out, HE.out]; rfl, hb1⟩

theorem lfault_cons (seen : List Ui) (e : En) (r : List En) : lfault seen (e :: r) = if pfault seen e.u = 0 then (if ffup e.up = 0 then (if afault e.nd = 0 then lfault (seen ++ [e.u]) r else afault e.nd) else ffup e.up) else pfault seen e.u := by
  conv => lhs; unfold lfault
  unfold pfault efault
  by_cases h0 : uf e.u = 0
  · rw [if_pos h0, if_pos h0]
    by_cases h1 : e.u ∈ seen
    · rw [if_pos h1, if_pos h1]; rfl
    · rw [if_neg h1, if_neg h1, if_pos rfl]
      by_cases h2 : ffup e.up = 0
      · rw [if_pos h2, if_pos h2]
      · rw [if_neg h2, if_neg h2, if_neg h2]
  · rw [if_neg h0, if_neg h0, if_neg h0]
theorem sfault_full {es : List En} (h : 16 < es.length) : sfault es = 4 := by unfold sfault; rw [if_pos h]
theorem sfault_list {es : List En} (h : ¬ 16 < es.length) (k : lfault [] es ≠ 0) : sfault es = lfault [] es := by unfold sfault; rw [if_neg h, if_neg k]
theorem sfault_cyc {es : List En} (h : ¬ 16 < es.length) (k : lfault [] es = 0) (c : Cyc es) : sfault es = 7 := by unfold sfault; rw [if_neg h, if_pos k, if_pos c]
theorem sfault_ok {es : List En} (h : ¬ 16 < es.length) (k : lfault [] es = 0) (c : ¬ Cyc es) : sfault es = 0 := by unfold sfault; rw [if_neg h, if_pos k, if_neg c]
theorem few_of {es : List En} (h : ¬ 16 < es.length) (k : lfault [] es = 0) : Few es := by
  obtain ⟨i1, i2⟩ := lfault_zero _ _ k
  exact ⟨by omega, i2, fun e he => (ffup_zero (efault_zero (i1 e he).2.2).1).1⟩

/-- What storeOf tells. -/
def Stored (es : List En) (w : World) (e : Ending) (w' : World) : Prop :=
  (sfault es = 0 ∧ ∃ sb, e = .returned (.tuple #[.map (some sb), .nilIface]) ∧ EMap w w' sb es) ∨ (sfault es ≠ 0 ∧ e = .returned (.tuple #[.map none, eV (sfault es)]))

set_option maxRecDepth 100000 in
set_option maxHeartbeats 4000000 in
theorem storeOf_any (es : List En) (p : Option Addr) (c : Nat) (w : World) (hl : EL w p es) :
    Calls Tryz.prog 18 #[.slice p es.length c] w fun e w' => Stored es w e w' ∧ Below w.heap.size w w' := by
  by_cases h16 : 16 < es.length
  · have h' : (16 : Int) < (es.length : Int) := by omega
    have HF : Hid (sfault es = 4) := sfault_full h16
    go_enter Tryz.func18, Tryz.ntmps18
    go_wp2_with fail
    go_ret2
    exact ⟨.inr ⟨by rw [HF.out]; decide, by rw [HF.out]; rfl⟩, Below.refl _ _⟩
  · have h' : ¬ (16 : Int) < (es.length : Int) := by omega
    have HL : Hid (EL w p es) := hl
    have HB : Hid (lfault [] es ≠ 0 → sfault es = lfault [] es) := sfault_list h16
    have HN : Hid (lfault [] es = 0 → Few es) := few_of h16
    have HO : Hid (lfault [] es = 0 → ¬ Cyc es → sfault es = 0) := sfault_ok h16
    have HY : Hid (lfault [] es = 0 → Cyc es → sfault es = 7) := sfault_cyc h16
    generalize hZ : lfault [] es = Z at HB HN HO HY
    have HZ : Hid (lfault ((es.take 0).map (·.u)) (es.drop 0) = Z) := hZ
    clear hl hZ
    have hmm := @run_makeMap Tryz.prog
    go_enter Tryz.func18, Tryz.ntmps18
    go_wp2_with fail
    go_loopw [19] (fun i wr => ∃ k : Nat, k ≤ es.length ∧ i = .int .i64 k ∧ EMap w wr w.heap.size (es.take k) ∧ USet wr (w.heap.size + 1) ((es.take k).map (·.u)) ∧ Below w.heap.size w wr ∧ Hid (lfault ((es.take k).map (·.u)) (es.drop k) = Z)) (fun i _ => es.length - (intOf i).toNat)
    case atStart => exact ⟨0, Nat.zero_le _, rfl, (EMap.made w w).up ((Below.refl _ _).alloc (Nat.le_refl _) _), by simpa using USet.made (w.alloc (.map #[] 0)), ((Below.refl _ _).alloc (Nat.le_refl _) _).alloc (by simp) _, HZ⟩
    case round =>
      obtain ⟨k, hk, rfl, hmap, hset, hnx, HR⟩ := hrel
      by_cases hlt : k < es.length
      · have i1 : (k : Int) < (es.length : Int) := by omega
        obtain ⟨b, off, pu, cu, pa, ca, rfl, hbl, HEV, HUL, HNL, hou, hoU, hu1, hu2, hn1, hn2, g0, g1, g2, g3⟩ := HL.out.at hlt
        have hq : ∀ o, wr.cell? ⟨b, o, none⟩ = w.cell? ⟨b, o, none⟩ := fun o => hnx.cell (p := ⟨b, o, none⟩) hbl
        have hc0 := (hq _).trans g0
        have hc1 := (hq _).trans g1
        have hc2 := (hq _).trans g2
        have hc3 := (hq _).trans g3
        have HD : Hid (es.drop k = es[k] :: es.drop (k + 1)) := List.drop_eq_getElem_cons hlt
        have HT : Hid (es.take (k + 1) = es.take k ++ [es[k]]) := List.take_succ_eq_append_getElem hlt
        replace HEV : Hid (EV w _ _) := HEV
        replace HUL : Hid (UL w _ _) := HUL
        replace HNL : Hid (NL w _ _) := HNL
        have HOU : Hid (∀ _, _) := hoU
        generalize es[k] = e at *
        have HR2 : Hid ((if pfault ((es.take k).map (·.u)) e.u = 0 then (if ffup e.up = 0 then (if afault e.nd = 0 then lfault (((es.take k).map (·.u)) ++ [e.u]) (es.drop (k + 1)) else afault e.nd) else ffup e.up) else pfault ((es.take k).map (·.u)) e.u) = Z) := by have h := HR.out; rw [HD.out, lfault_cons] at h; exact h
        have hnz := hnx.size
        have hsl := hset.lt
        clear g0 g1 g2 g3 hq hoU HR
        have hbx := (Below.refl wr.heap.size wr).alloc (Nat.le_refl _) (.cells #[.string e.u.t, .string e.u.i, .slice pu e.up.length cu, .slice pa e.nd.length ca] 33)
        have htl : (es.take k).length = k := by rw [List.length_take]; omega
        by_cases hp : pfault ((es.take k).map (·.u)) e.u = 0
        · have HP : Hid (_ = _) := hp
          have HR3 : Hid ((if ffup e.up = 0 then (if afault e.nd = 0 then lfault (((es.take k).map (·.u)) ++ [e.u]) (es.drop (k + 1)) else afault e.nd) else ffup e.up) = Z) := by have h := HR2.out; rw [if_pos hp] at h; exact h
          clear hp HR2
          go_wp2_with fail
          refine (put_ok (w.heap.size + 1) ((es.take k).map (·.u)) e.u _ (hset.up hbx) hou HP.out (by simp; omega)).mono ?_
          rintro er w1 ⟨rfl, hset1, hg1⟩
          have hne1 : some wr.heap.size ≠ some (w.heap.size + 1) := fun q => by simp at q; omega
          have hxc : ∀ o, w1.cell? ⟨wr.heap.size, o, none⟩ = _ := fun o => cell_grown2 hg1 (by simp) hne1 o
          have x0 : w1.cell? ⟨wr.heap.size, 0, none⟩ = some (.string e.u.t) := by rw [hxc]; simp
          have x1 : w1.cell? ⟨wr.heap.size, 1, none⟩ = some (.string e.u.i) := by rw [hxc]; simp
          have x2 : w1.cell? ⟨wr.heap.size, 2, none⟩ = some (.slice pu e.up.length cu) := by rw [hxc]; simp
          have x3 : w1.cell? ⟨wr.heap.size, 3, none⟩ = some (.slice pa e.nd.length ca) := by rw [hxc]; simp
          have hz1 : wr.heap.size < w1.heap.size := by have := hg1.size; simp at this; omega
          have hb1 : Below w.heap.size w w1 := (hnx.trans (hbx.mono hnz)).grown hg1 (by simp; omega) (fun j hj => by cases hj; omega)
          have hmap1 : EMap w w1 w.heap.size (es.take k) := (hmap.up hbx).kept hg1 (fun q => by simp at q)
          clear hxc
          by_cases hfu : ffup e.up = 0
          · have HE2 : Hid (eV (ffup e.up) = .nilIface) := eV_nil hfu
            have HR4 : Hid ((if afault e.nd = 0 then lfault (((es.take k).map (·.u)) ++ [e.u]) (es.drop (k + 1)) else afault e.nd) = Z) := by have h := HR3.out; rw [if_pos hfu] at h; exact h
            clear hfu HR3
            go_wp2_with fail
            refine (checkUp_any e.up pu cu _ (HUL.out.up hb1) hu1 hu2 HOU.out).mono ?_
            rintro er w2 ⟨rfl, hb2⟩
            rw [HE2.out]
            have y : ∀ o, w2.cell? ⟨wr.heap.size, o, none⟩ = w1.cell? ⟨wr.heap.size, o, none⟩ := fun o => hb2.cell (p := ⟨wr.heap.size, o, none⟩) hz1
            have y0 := (y 0).trans x0
            have y1 := (y 1).trans x1
            have y2 := (y 2).trans x2
            have y3 := (y 3).trans x3
            have hb12 : Below w.heap.size w w2 := hb1.trans (hb2.mono hb1.size)
            have hz2 : wr.heap.size < w2.heap.size := by have := hb2.size; omega
            clear y x0 x1 x2 x3
            by_cases hfa : afault e.nd = 0
            · have HE3 : Hid (eV (afault e.nd) = .nilIface) := eV_nil hfa
              have HR5 : Hid (lfault (((es.take k).map (·.u)) ++ [e.u]) (es.drop (k + 1)) = Z) := by have h := HR4.out; rw [if_pos hfa] at h; exact h
              clear hfa HR4
              go_wp2_with fail
              refine (checkAttrs_any e.nd pa ca _ (HNL.out.up hb12) hn1 hn2).mono ?_
              rintro er w3 ⟨rfl, hb3⟩
              rw [HE3.out]
              have y : ∀ o, w3.cell? ⟨wr.heap.size, o, none⟩ = w2.cell? ⟨wr.heap.size, o, none⟩ := fun o => hb3.cell (p := ⟨wr.heap.size, o, none⟩) hz2
              have v0 := (y 0).trans y0
              have v1 := (y 1).trans y1
              have v2 := (y 2).trans y2
              have v3 := (y 3).trans y3
              have hb13 : Below w1.heap.size w1 w3 := hb2.trans (hb3.mono hb2.size)
              have hb03 : Below w.heap.size w w3 := hb1.trans (hb13.mono hb1.size)
              obtain ⟨D, h1, h2, h3⟩ := hmap1.up hb13
              have hNu : ∀ x ∈ es.take k, x.u ≠ e.u := fun x hx q => by
                have h := HP.out
                unfold pfault at h
                by_cases h0 : uf e.u = 0
                · rw [if_pos h0, if_pos (List.mem_map.2 ⟨x, hx, q⟩)] at h; cases h
                · rw [if_neg h0] at h; exact absurd h h0
              have HT3 : Hid (_ ∧ _) := EMap.put h1.isMap h2 h3 hou hNu HEV.out
              have hkey : keyOf Tryz.prog 24 (.agg #[.string e.u.t, .string e.u.i]) = some (klit e.u) := keyOf_uid hou
              have hml : (es.take k).length < maxLen := by rw [htl]; unfold maxLen; omega
              clear h2 h3 hNu y y0 y1 y2 y3
              go_wp2_with (at_mapUpdate; refine wpList_mapUpdate_own _ rfl _ _ _ 51 rfl 24 33 uid_law Tryz.underlying51 heldE w.heap.size (es.take k).length D rfl h1 hml _ _ (klit e.u) rfl rfl hkey (.held (.agg #[.string e.u.t, .string e.u.i, .slice pu e.up.length cu, .slice pa e.nd.length ca])) [] rfl ?_; intro w4 hown4 hg4)
              go_roundw
              case rel =>
                refine ⟨k + 1, by omega, by go_num, ?_, ?_, hb03.grown hg4 hb03.size (fun j hj => by cases hj; exact Nat.le_refl _), ?_⟩
                · rw [HT.out]
                  exact ⟨_, by simpa using hown4, HT3.out⟩
                · rw [HT.out, List.map_append]
                  exact (hset1.up hb13).kept hg4 (fun q => by simp at q)
                · show _ = Z
                  rw [HT.out, List.map_append]
                  exact HR5.out
              case measure => simp [intOf]; omega
            · have HE3 : Hid (eV (afault e.nd) = .iface 25 (.int .i64 (afault e.nd))) := eV_not hfa
              have HR5 : Hid (afault e.nd = Z) := by have h := HR4.out; rw [if_neg hfa] at h; exact h
              have HA : Hid (afault e.nd ≠ 0) := hfa
              clear hfa HR4
              go_wp2_with fail
              refine (checkAttrs_any e.nd pa ca _ (HNL.out.up hb12) hn1 hn2).mono ?_
              rintro er w3 ⟨rfl, hb3⟩
              rw [HE3.out]
              go_wp2_with fail
              go_ret2
              have hz : Z ≠ 0 := by rw [← HR5.out]; exact HA.out
              exact ⟨.inr ⟨by rw [HB.out hz]; exact hz, by rw [HB.out hz, ← HR5.out, HE3.out]; rfl⟩, hb12.trans (hb3.mono hb12.size)⟩
          · have HE2 : Hid (eV (ffup e.up) = .iface 25 (.int .i64 (ffup e.up))) := eV_not hfu
            have HR4 : Hid (ffup e.up = Z) := by have h := HR3.out; rw [if_neg hfu] at h; exact h
            have HA : Hid (ffup e.up ≠ 0) := hfu
            clear hfu HR3
            go_wp2_with fail
            refine (checkUp_any e.up pu cu _ (HUL.out.up hb1) hu1 hu2 HOU.out).mono ?_
            rintro er w2 ⟨rfl, hb2⟩
            rw [HE2.out]
            go_wp2_with fail
            go_ret2
            have hz : Z ≠ 0 := by rw [← HR4.out]; exact HA.out
            exact ⟨.inr ⟨by rw [HB.out hz]; exact hz, by rw [HB.out hz, ← HR4.out, HE2.out]; rfl⟩, hb1.trans (hb2.mono hb1.size)⟩
        · have HP : Hid (_ ≠ _) := hp
          have HR3 : Hid (pfault ((es.take k).map (·.u)) e.u = Z) := by have h := HR2.out; rw [if_neg hp] at h; exact h
          have HE1 : Hid (eV (pfault ((es.take k).map (·.u)) e.u) = .iface 25 (.int .i64 Z)) := by
            show _ = _
            rw [← HR3.out]
            exact eV_not hp
          clear hp HR2
          go_wp2_with fail
          refine (put_err (w.heap.size + 1) ((es.take k).map (·.u)) e.u _ (hset.up hbx) hou HP.out).mono ?_
          rintro er w1 ⟨rfl, hb1⟩
          rw [HE1.out]
          go_wp2_with fail
          go_ret2
          have hz : Z ≠ 0 := by rw [← HR3.out]; exact HP.out
          exact ⟨.inr ⟨by rw [HB.out hz]; exact hz, by rw [HB.out hz, eV_not hz]; rfl⟩, (hnx.trans (hbx.mono hnz)).trans (hb1.mono (by simp; omega))⟩
      · obtain rfl : k = es.length := by omega
        have i1 : ¬ (es.length : Int) < (es.length : Int) := by omega
        have HZ0 : Hid (Z = 0) := by have h := HR.out; rw [List.drop_length] at h; exact h.symm
        have HF : Hid (Few es) := HN.out HZ0.out
        rw [List.take_length] at hmap
        clear hset
        go_wp2_with fail
        refine (hasCycle_any es w w.heap.size HF.out _ hmap hnx).mono ?_
        rintro er w1 ⟨cy, rfl, hcy, hb1⟩
        have hmap1 := hmap.up hb1
        cases cy
        · have HNC : Hid (¬ Cyc es) := fun q => by have := hcy.2 q; cases this
          clear hcy
          go_wp2_with fail
          go_ret2
          exact ⟨.inl ⟨HO.out HZ0.out HNC.out, w.heap.size, rfl, hmap1⟩, hnx.trans (hb1.mono hnx.size)⟩
        · have HCY : Hid (Cyc es) := hcy.1 rfl
          clear hcy
          go_wp2_with fail
          go_ret2
          have h7 := HY.out HZ0.out HCY.out
          exact ⟨.inr ⟨by rw [h7]; decide, by rw [h7]; rfl⟩, hnx.trans (hb1.mono hnx.size)⟩

end Go.Proofs.YtkpbholhempmmaaGreatDoor
