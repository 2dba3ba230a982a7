/- Package ent's above and hasCycle: by walks of their own texts. Package ent's checkAttrs, storeOf: by walks of their own texts. Package ent's Check: by a walk of its own text. Package schema: mayBe, Store, Asks: by walks of their own texts. Schemas: the fact that the statements share; a kind's type made another in a row of the call's own. -/
import Derived.Test.YtpcikfpldmackaaDoorG13
import Derived.Deep.RegionWith
import Derived.Test.YtpcikfpldmackaaDoorG19
import Derived.Test.YtpcikfpldmackaaDoorG20
import Derived.Test.YtpcikfpldmackaaDoorG6
namespace Go.Proofs.YtpcikfpldmackaaDoor
open Go.RowKit Go.Maps Go.WideMaps
set_option linter.unusedVariables false
set_option linter.unusedSimpArgs false

/-- All that stand above some entity. -/
def allUps (es : List En) : List Ui := es.flatMap (·.up)
theorem allUps_mem {es : List En} {u x : Ui} (h : x ∈ upsOf es u) : x ∈ allUps es := by
  obtain ⟨e, he, _, h2⟩ := upsOf_mem h
  exact List.mem_flatMap.2 ⟨e, he, by rw [h2]; exact h⟩
theorem allUps_len : ∀ (es : List En), (∀ e ∈ es, e.up.length ≤ 6) → (allUps es).length ≤ 6 * es.length
  | [], _ => by simp [allUps]
  | e :: r, h => by
    have h1 := h e (by simp)
    have h2 := allUps_len r (fun x hx => h x (by simp [hx]))
    unfold allUps at h2 ⊢
    rw [List.flatMap_cons, List.length_append, List.length_cons]
    omega
theorem toCome_len (U L : List Ui) : toCome U L ≤ U.length := List.length_filter_le _ _

/-- A store whose entities are all different, and few. -/
structure Few (es : List En) : Prop where
  few : es.length ≤ 16
  uniq : Uniq es
  ups : ∀ e ∈ es, e.up.length ≤ 6

set_option maxRecDepth 100000 in
set_option maxHeartbeats 1000000 in
theorem above_any (es : List En) (w0 : World) (sb : Nat) (hf : Few es) (u : Ui) (w : World) (hu : UOk u) (hm : EMap w0 w sb es) (hb : Below w0.heap.size w0 w) :
    Calls Tryd.prog 78 #[.map (some sb), .agg #[.string u.t, .string u.i]] w fun e w' => ∃ fb M, e = .returned (.map (some fb)) ∧ USet w' fb M ∧ (∀ v, v ∈ M ↔ Abv es u v) ∧ Below w.heap.size w w' ∧ M.length ≤ 96 := by
  have hlt := hm.lt
  have hn : toCome (allUps es) [] ≤ 96 := Nat.le_trans (toCome_len _ _) (Nat.le_trans (allUps_len es hf.ups) (by have := hf.few; omega))
  have h96 : toCome (allUps es) [] ≤ 96 := hn
  have hbs := hb.size
  have HF : Hid (Few es) := hf
  have HM : Hid (EMap w0 w sb es) := hm
  clear hf hm
  have hmm := @run_makeMap Tryd.prog
  go_enter Tryd.func78, Tryd.ntmps78
  go_wp2_with fail
  have hb1 : Below w.heap.size w ((w.alloc (.cells #[.string u.t, .string u.i] 40)).alloc (.map #[] 0)) := ((Below.refl _ _).alloc (Nat.le_refl _) _).alloc (by simp) _
  have hs1 : USet ((w.alloc (.cells #[.string u.t, .string u.i] 40)).alloc (.map #[] 0)) (w.heap.size + 1) [] := by simpa using USet.made (w.alloc (.cells #[.string u.t, .string u.i] 40))
  refine (climb_any es w0 sb (w.heap.size + 1) (allUps es) (fun u x hx => allUps_mem hx) HF.out.uniq (by omega) (by omega) _ [] u _ hu (HM.out.up hb1) hs1 (hb.trans (hb1.mono hb.size)) rfl (by simp; omega)).mono ?_
  rintro e w1 ⟨rfl, M, hcl, hset, hg, hcnt⟩
  have hcnt2 : M.length ≤ 96 := by simp at hcnt; omega
  clear hcnt
  go_wp2_with fail
  go_ret
  refine ⟨w.heap.size + 1, M, rfl, hset, fun v => ⟨fun hv => ?_, fun hv => ?_⟩, ?_, hcnt2⟩
  · rcases hcl.frm v hv with h | h
    · cases h
    · exact h
  · exact abv_closed hcl.ups (fun v hv => hcl.closed v hv (by simp)) hv
  · exact hb1.grown hg (by simp; omega) (fun j hj => by cases hj; omega)

theorem EMap.uidOf {w0 w : World} {b : Nat} {es : List En} {D : DataW Value} (h2 : ∀ kl, Maps.has D kl = true → ∃ e ∈ es, kl = klit e.u) (h3 : ∀ e ∈ es, UOk e.u) {u : Ui} (hu : UOk u) (h : Maps.has D (klit u) = true) : ∃ e ∈ es, e.u = u := by
  obtain ⟨e, he, hk⟩ := h2 _ h
  exact ⟨e, he, (klit_inj hu (h3 e he) hk).symm⟩

set_option maxRecDepth 100000 in
set_option maxHeartbeats 4000000 in
theorem hasCycle_any (es : List En) (w0 : World) (sb : Nat) (hf : Few es) (w : World) (hm : EMap w0 w sb es) (hb : Below w0.heap.size w0 w) :
    Calls Tryd.prog 54 #[.map (some sb)] w fun e w' => ∃ c, e = .returned (.bool c) ∧ (c = true ↔ Cyc es) ∧ Below w.heap.size w w' := by
  have HM : Hid (EMap w0 w sb es) := hm
  obtain ⟨D, h1, h2, h3⟩ := hm
  have H2 : Hid (∀ _, _) := h2
  have H3 : Hid (∀ _, _) := h3
  have hsb := h1.lt
  clear h2 h3
  go_enter Tryd.func54, Tryd.ntmps54
  go_wp2_with (first
    | (at_range; refine wpList_range_own _ rfl _ 77 rfl 40 51 uid_law Tryd.underlying77 _ sb es.length D rfl h1 ?_; intro w1 hrg0 hg0 hs0)
    | go_in)
  go_frame
  go_loopw [3] (fun _ wr => ∃ (left : Lit → Bool) (cnt : Nat), wr.ranges Tryd.prog 40 heldE sb w.heap.size es.length D left cnt ∧ w.grownBy wr none ∧ Hid (∀ e ∈ es, left (klit e.u) = true ∨ ¬ Abv es e.u e.u) ∧ Hid (∀ kl, left kl = true → Maps.has D kl = true)) (fun _ wr => wr.rangeLeft sb w.heap.size)
  case atStart => exact ⟨_, _, hrg0, hg0, fun e he => .inl (H3.out e he).1, fun kl h => h⟩
  case round =>
    obtain ⟨left, cnt, hrg, hgr, HI, HLH⟩ := hrel
    go_wp2_with (first
      | (at_next; refine wpList_next_ranges _ rfl _ rfl 40 uid_law heldE (fun x : Ui => .agg #[.string x.t, .string x.i]) id (fun key kl hk => by obtain ⟨x, hx, _⟩ := keyOf_uid_inv hk; exact ⟨x, hx⟩) (fun v _ _ => ⟨v, rfl⟩) sb w.heap.size es.length D left cnt rfl hrg ?_ ?_)
      | go_in)
    · intro hc0 hl0
      go_wp2_with fail
      go_ret
      refine ⟨false, rfl, ⟨fun q => (by cases q), fun ⟨e, he, hc⟩ => ?_⟩, ⟨hgr.os, hgr.tape, hgr.output, hgr.size, fun i hi => hgr.block i hi (by simp)⟩⟩
      rcases HI.out e he with h | h
      · rw [hl0] at h; cases h
      · exact absurd hc h
    · intro x c kl yd yp w2 cnt2 hkey hlk hv hat hrg2 hlt hg2 hs2 hen
      obtain ⟨x', ex, hxok, rfl⟩ := keyOf_uid_inv hkey
      obtain rfl : x = x' := uV_inj ex
      have hgr2 : w.grownBy w2 none := hgr.andThen hg2 (fun j hj => by cases hj; exact .inl (Nat.le_refl _))
      have HG2 : Hid (w.grownBy w2 none) := hgr2
      have HM2 : Hid (EMap w0 w2 sb es) := HM.out.kept hgr2 (by simp)
      have HB2 : Hid (Below w0.heap.size w0 w2) := hb.grown hgr2 hb.size (fun j hj => by cases hj)
      have HLK : Hid (_ = _) := hlk
      clear hs2 hgr2 ex hkey hv hat hlk
      go_wp2_with fail
      go_region_with (first
        | (go_at_call 78
           refine (above_any es w0 sb hf x _ hxok ?_ ?_).mono ?_
           · exact HM2.out.up (by repeat (first | exact Below.refl _ _ | exact (Below.refl _ _).alloc (Nat.le_refl _) _ | apply Below.drew))
           · exact HB2.out.trans (Below.mono (by repeat (first | exact Below.refl _ _ | exact (Below.refl _ _).alloc (Nat.le_refl _) _ | apply Below.drew)) HB2.out.size)
           rintro e w3 ⟨fb, M, rfl, hset, hM, hb3, hM96⟩
           have hx0 : w3.cell? ⟨w2.heap.size, 0, none⟩ = some (.string x.t) := (hb3.cell (p := ⟨w2.heap.size, 0, none⟩) (by simp)).trans (by simp)
           have hx1 : w3.cell? ⟨w2.heap.size, 1, none⟩ = some (.string x.i) := (hb3.cell (p := ⟨w2.heap.size, 1, none⟩) (by simp)).trans (by simp))
        | (go_at_call 77
           refine (has_any fb M x _ hset hxok).mono ?_
           rintro e w4 ⟨rfl, hb4⟩
           generalize hdd : decide (x ∈ M) = d))
      all_goals
        have hb34 : Below w2.heap.size w2 w4 := (Below.trans (by repeat (first | exact Below.refl _ _ | exact (Below.refl _ _).alloc (Nat.le_refl _) _ | apply Below.drew)) (hb3.mono (by simp))).trans (hb4.mono (by have := hb3.size; simp at this; omega))
        have HDD : Hid (_ = _) := hdd
        have HMM : Hid (∀ _, _) := hM
        clear hdd hM
        cases d
        · have HI2 : Hid (∀ e ∈ es, (left (klit e.u) && !(klit e.u).sameKey (klit x)) = true ∨ ¬ Abv es e.u e.u) := by
            intro e he
            by_cases hex : e.u = x
            · right
              intro hab
              rw [hex] at hab
              have := (HMM.out x).2 hab
              have h0 := HDD.out
              rw [decide_eq_true this] at h0
              cases h0
            · rcases HI.out e he with h | h
              · left
                rw [h, sameKey_ne (fun q => hex (klit_inj (H3.out e he).2.1 hxok q))]
                rfl
              · exact .inr h
          go_wp2_with fail
          go_roundw
          case rel => exact ⟨_, cnt2, hrg2.kept (gb_of hb34) (by simp) (by simp), HG2.out.andThen (gb_of hb34) (fun j hj => by cases hj), HI2, fun kl hk => HLH.out kl (by simp at hk; exact hk.1)⟩
          case measure => rw [(hrg2.kept (gb_of hb34) (by simp) (by simp)).left_eq, hrg.left_eq]; exact hlt
        · go_wp2_with fail
          go_ret
          have h34 := HG2.out.andThen (gb_of hb34) (fun j hj => by cases hj)
          refine ⟨true, rfl, ⟨fun _ => ?_, fun _ => rfl⟩, ⟨h34.os, h34.tape, h34.output, h34.size, fun i hi => h34.block i hi (by simp)⟩⟩
          obtain ⟨e, he, hk⟩ := H2.out _ (HLH.out _ HLK.out)
          have hex : x = e.u := klit_inj hxok (H3.out e he).2.1 hk
          have hx := (HMM.out x).1 (of_decide_eq_true HDD.out)
          exact ⟨e, he, by rw [← hex]; exact hx⟩
end Go.Proofs.YtpcikfpldmackaaDoor
namespace Go.Proofs.YtpcikfpldmackaaDoor
open Go.RowKit Go.Maps Go.WideMaps
set_option linter.unusedVariables false
set_option linter.unusedSimpArgs false

theorem vfault_nil : vfault [] ≠ 0 := by decide

set_option maxHeartbeats 1000000 in
theorem checkAttrs_any (v : List Nd) (p : Option Addr) (c : Nat) (w : World) (hv : NL w p v) (hc : v.length ≤ c) (hcm : c ≤ maxLen) :
    Calls Tryd.prog 53 #[.slice p v.length c] w fun e w' => e = .returned (eV (afault v)) ∧ Below w.heap.size w w' := by
  by_cases h0 : vfault v = 0
  · cases v with
    | nil => exact absurd h0 vfault_nil
    | cons x r =>
      have HE : Hid (eV (vfault (x :: r)) = .nilIface) := eV_nil h0
      obtain ⟨b, off, rfl, hbl, hc0, _⟩ := hv.at (i := 0) (by simp)
      have hcc : ∀ w', Below w.heap.size w w' → w'.cell? ⟨b, off, none⟩ = some (.int .i64 x.op) := fun w' k => (k.cell (p := ⟨b, off, none⟩) hbl).trans (by simpa using hc0)
      have HV : Hid (NL _ _ _) := hv
      have HC : Hid (∀ w', _) := hcc
      have hl1 : (0 : Int) < ((r.length + 1 : Nat) : Int) := by omega
      by_cases h6 : x.op = 6
      · have HF : Hid (afault (x :: r) = 0) := by show _ = _; unfold afault; rw [if_pos h0]; simp [h6]
        have h6' : (x.op != 6) = false := by simp [h6]
        clear h0 hc0 hcc hv h6
        go_enter Tryd.func53, Tryd.ntmps53
        go_wp2_with fail
        refine (vcheck_any (x :: r) _ c _ HV.out hc hcm).mono ?_
        rintro e w1 ⟨rfl, hb1⟩
        rw [HE.out]
        have hx := HC.out w1 hb1
        go_wp2_with fail
        go_ret
        exact ⟨by rw [HF.out]; rfl, hb1⟩
      · have HF : Hid (afault (x :: r) = 2) := by show _ = _; unfold afault; rw [if_pos h0]; simp [h6]
        have h6' : (x.op != 6) = true := by simp [h6]
        clear h0 hc0 hcc hv h6
        go_enter Tryd.func53, Tryd.ntmps53
        go_wp2_with fail
        refine (vcheck_any (x :: r) _ c _ HV.out hc hcm).mono ?_
        rintro e w1 ⟨rfl, hb1⟩
        rw [HE.out]
        have hx := HC.out w1 hb1
        go_wp2_with fail
        go_ret
        exact ⟨by rw [HF.out]; rfl, hb1⟩
  · have HE : Hid (eV (vfault v) = .iface 23 (.int .i64 (vfault v))) := eV_not h0
    have HF : Hid (afault v = vfault v) := if_neg h0
    clear h0
    go_enter Tryd.func53, Tryd.ntmps53
    go_wp2_with fail
    refine (vcheck_any v _ c _ hv hc hcm).mono ?_
    rintro e w1 ⟨rfl, hb1⟩
    rw [HE.out]
    go_wp2_with fail
    go_ret
    exact ⟨by rw [HF.out, HE.out]; rfl, hb1⟩

theorem lfault_cons (seen : List Ui) (e : En) (r : List En) : lfault seen (e :: r) = if uqf seen e.u = 0 then (if ffup e.up = 0 then (if afault e.nd = 0 then lfault (seen ++ [e.u]) r else afault e.nd) else ffup e.up) else uqf seen e.u := by
  conv => lhs; unfold lfault
  unfold uqf efault
  by_cases h0 : uf e.u = 0
  · rw [if_pos h0, if_pos h0]
    by_cases h1 : e.u ∈ seen
    · rw [if_pos h1, if_pos h1]; rfl
    · rw [if_neg h1, if_neg h1, if_pos rfl]
      by_cases h2 : ffup e.up = 0
      · rw [if_pos h2, if_pos h2]
      · rw [if_neg h2, if_neg h2, if_neg h2]
  · rw [if_neg h0, if_neg h0, if_neg h0]
theorem sfault_full {es : List En} (h : 16 < es.length) : stf es = 4 := by unfold stf; rw [if_pos h]
theorem sfault_list {es : List En} (h : ¬ 16 < es.length) (k : lfault [] es ≠ 0) : stf es = lfault [] es := by unfold stf; rw [if_neg h, if_neg k]
theorem sfault_cyc {es : List En} (h : ¬ 16 < es.length) (k : lfault [] es = 0) (c : Cyc es) : stf es = 7 := by unfold stf; rw [if_neg h, if_pos k, if_pos c]
theorem sfault_ok {es : List En} (h : ¬ 16 < es.length) (k : lfault [] es = 0) (c : ¬ Cyc es) : stf es = 0 := by unfold stf; rw [if_neg h, if_pos k, if_neg c]
theorem few_of {es : List En} (h : ¬ 16 < es.length) (k : lfault [] es = 0) : Few es := by
  obtain ⟨i1, i2⟩ := lfault_zero _ _ k
  exact ⟨by omega, i2, fun e he => (ffup_zero (efault_zero (i1 e he).2.2).1).1⟩

/-- What storeOf tells. -/
def Stored (es : List En) (w : World) (e : Ending) (w' : World) : Prop :=
  (stf es = 0 ∧ ∃ sb, e = .returned (.tuple #[.map (some sb), .nilIface]) ∧ EMap w w' sb es) ∨ (stf es ≠ 0 ∧ e = .returned (.tuple #[.map none, eV (stf es)]))

set_option maxRecDepth 100000 in
set_option maxHeartbeats 4000000 in
theorem storeOf_any (es : List En) (p : Option Addr) (c : Nat) (w : World) (hl : EL w p es) :
    Calls Tryd.prog 30 #[.slice p es.length c] w fun e w' => Stored es w e w' ∧ Below w.heap.size w w' := by
  by_cases h16 : 16 < es.length
  · have h' : (16 : Int) < (es.length : Int) := by omega
    have HF : Hid (stf es = 4) := sfault_full h16
    go_enter Tryd.func30, Tryd.ntmps30
    go_wp2_with fail
    go_ret2
    exact ⟨.inr ⟨by rw [HF.out]; decide, by rw [HF.out]; rfl⟩, Below.refl _ _⟩
  · have h' : ¬ (16 : Int) < (es.length : Int) := by omega
    have HL : Hid (EL w p es) := hl
    have HB : Hid (lfault [] es ≠ 0 → stf es = lfault [] es) := sfault_list h16
    have HN : Hid (lfault [] es = 0 → Few es) := few_of h16
    have HO : Hid (lfault [] es = 0 → ¬ Cyc es → stf es = 0) := sfault_ok h16
    have HY : Hid (lfault [] es = 0 → Cyc es → stf es = 7) := sfault_cyc h16
    generalize hZ : lfault [] es = Z at HB HN HO HY
    have HZ : Hid (lfault ((es.take 0).map (·.u)) (es.drop 0) = Z) := hZ
    clear hl hZ
    have hmm := @run_makeMap Tryd.prog
    go_enter Tryd.func30, Tryd.ntmps30
    go_wp2_with fail
    go_loopw [19] (fun i wr => ∃ k : Nat, k ≤ es.length ∧ i = .int .i64 k ∧ EMap w wr w.heap.size (es.take k) ∧ USet wr (w.heap.size + 1) ((es.take k).map (·.u)) ∧ Below w.heap.size w wr ∧ Hid (lfault ((es.take k).map (·.u)) (es.drop k) = Z)) (fun i _ => es.length - (intOf i).toNat)
    case atStart => exact ⟨0, Nat.zero_le _, rfl, (EMap.made w w).up ((Below.refl _ _).alloc (Nat.le_refl _) _), by simpa using USet.made (w.alloc (.map #[] 0)), ((Below.refl _ _).alloc (Nat.le_refl _) _).alloc (by simp) _, HZ⟩
    case round =>
      obtain ⟨k, hk, rfl, hmap, hset, hnx, HR⟩ := hrel
      by_cases hlt : k < es.length
      · have i1 : (k : Int) < (es.length : Int) := by omega
        obtain ⟨b, off, pu, cu, pa, ca, rfl, hbl, HEV, HUL, HNL, hou, hoU, hu1, hu2, hn1, hn2, g0, g1, g2, g3⟩ := HL.out.at hlt
        have hq : ∀ o, wr.cell? ⟨b, o, none⟩ = w.cell? ⟨b, o, none⟩ := fun o => hnx.cell (p := ⟨b, o, none⟩) hbl
        have hc0 := (hq _).trans g0
        have hc1 := (hq _).trans g1
        have hc2 := (hq _).trans g2
        have hc3 := (hq _).trans g3
        have HD : Hid (es.drop k = es[k] :: es.drop (k + 1)) := List.drop_eq_getElem_cons hlt
        have HT : Hid (es.take (k + 1) = es.take k ++ [es[k]]) := List.take_succ_eq_append_getElem hlt
        replace HEV : Hid (EV w _ _) := HEV
        replace HUL : Hid (UL w _ _) := HUL
        replace HNL : Hid (NL w _ _) := HNL
        have HOU : Hid (∀ _, _) := hoU
        generalize es[k] = e at *
        have HR2 : Hid ((if uqf ((es.take k).map (·.u)) e.u = 0 then (if ffup e.up = 0 then (if afault e.nd = 0 then lfault (((es.take k).map (·.u)) ++ [e.u]) (es.drop (k + 1)) else afault e.nd) else ffup e.up) else uqf ((es.take k).map (·.u)) e.u) = Z) := by have h := HR.out; rw [HD.out, lfault_cons] at h; exact h
        have hnz := hnx.size
        have hsl := hset.lt
        clear g0 g1 g2 g3 hq hoU HR
        have hbx := (Below.refl wr.heap.size wr).alloc (Nat.le_refl _) (.cells #[.string e.u.t, .string e.u.i, .slice pu e.up.length cu, .slice pa e.nd.length ca] 51)
        have htl : (es.take k).length = k := by rw [List.length_take]; omega
        by_cases hp : uqf ((es.take k).map (·.u)) e.u = 0
        · have HP : Hid (_ = _) := hp
          have HR3 : Hid ((if ffup e.up = 0 then (if afault e.nd = 0 then lfault (((es.take k).map (·.u)) ++ [e.u]) (es.drop (k + 1)) else afault e.nd) else ffup e.up) = Z) := by have h := HR2.out; rw [if_pos hp] at h; exact h
          clear hp HR2
          go_wp2_with fail
          refine (put_ok (w.heap.size + 1) ((es.take k).map (·.u)) e.u _ (hset.up hbx) hou HP.out (by simp; omega)).mono ?_
          rintro er w1 ⟨rfl, hset1, hg1⟩
          have hne1 : some wr.heap.size ≠ some (w.heap.size + 1) := fun q => by simp at q; omega
          have hxc : ∀ o, w1.cell? ⟨wr.heap.size, o, none⟩ = _ := fun o => cell_grown2 hg1 (by simp) hne1 o
          have x0 : w1.cell? ⟨wr.heap.size, 0, none⟩ = some (.string e.u.t) := by rw [hxc]; simp
          have x1 : w1.cell? ⟨wr.heap.size, 1, none⟩ = some (.string e.u.i) := by rw [hxc]; simp
          have x2 : w1.cell? ⟨wr.heap.size, 2, none⟩ = some (.slice pu e.up.length cu) := by rw [hxc]; simp
          have x3 : w1.cell? ⟨wr.heap.size, 3, none⟩ = some (.slice pa e.nd.length ca) := by rw [hxc]; simp
          have hz1 : wr.heap.size < w1.heap.size := by have := hg1.size; simp at this; omega
          have hb1 : Below w.heap.size w w1 := (hnx.trans (hbx.mono hnz)).grown hg1 (by simp; omega) (fun j hj => by cases hj; omega)
          have hmap1 : EMap w w1 w.heap.size (es.take k) := (hmap.up hbx).kept hg1 (fun q => by simp at q)
          clear hxc
          by_cases hfu : ffup e.up = 0
          · have HE2 : Hid (eV (ffup e.up) = .nilIface) := eV_nil hfu
            have HR4 : Hid ((if afault e.nd = 0 then lfault (((es.take k).map (·.u)) ++ [e.u]) (es.drop (k + 1)) else afault e.nd) = Z) := by have h := HR3.out; rw [if_pos hfu] at h; exact h
            clear hfu HR3
            go_wp2_with fail
            refine (checkUp_any e.up pu cu _ (HUL.out.up hb1) hu1 hu2 HOU.out).mono ?_
            rintro er w2 ⟨rfl, hb2⟩
            rw [HE2.out]
            have y : ∀ o, w2.cell? ⟨wr.heap.size, o, none⟩ = w1.cell? ⟨wr.heap.size, o, none⟩ := fun o => hb2.cell (p := ⟨wr.heap.size, o, none⟩) hz1
            have y0 := (y 0).trans x0
            have y1 := (y 1).trans x1
            have y2 := (y 2).trans x2
            have y3 := (y 3).trans x3
            have hb12 : Below w.heap.size w w2 := hb1.trans (hb2.mono hb1.size)
            have hz2 : wr.heap.size < w2.heap.size := by have := hb2.size; omega
            clear y x0 x1 x2 x3
            by_cases hfa : afault e.nd = 0
            · have HE3 : Hid (eV (afault e.nd) = .nilIface) := eV_nil hfa
              have HR5 : Hid (lfault (((es.take k).map (·.u)) ++ [e.u]) (es.drop (k + 1)) = Z) := by have h := HR4.out; rw [if_pos hfa] at h; exact h
              clear hfa HR4
              go_wp2_with fail
              refine (checkAttrs_any e.nd pa ca _ (HNL.out.up hb12) hn1 hn2).mono ?_
              rintro er w3 ⟨rfl, hb3⟩
              rw [HE3.out]
              have y : ∀ o, w3.cell? ⟨wr.heap.size, o, none⟩ = w2.cell? ⟨wr.heap.size, o, none⟩ := fun o => hb3.cell (p := ⟨wr.heap.size, o, none⟩) hz2
              have v0 := (y 0).trans y0
              have v1 := (y 1).trans y1
              have v2 := (y 2).trans y2
              have v3 := (y 3).trans y3
              have hb13 : Below w1.heap.size w1 w3 := hb2.trans (hb3.mono hb2.size)
              have hb03 : Below w.heap.size w w3 := hb1.trans (hb13.mono hb1.size)
              obtain ⟨D, h1, h2, h3⟩ := hmap1.up hb13
              have hNu : ∀ x ∈ es.take k, x.u ≠ e.u := fun x hx q => by
                have h := HP.out
                unfold uqf at h
                by_cases h0 : uf e.u = 0
                · rw [if_pos h0, if_pos (List.mem_map.2 ⟨x, hx, q⟩)] at h; cases h
                · rw [if_neg h0] at h; exact absurd h h0
              have HT3 : Hid (_ ∧ _) := EMap.put h1.isMap h2 h3 hou hNu HEV.out
              have hkey : keyOf Tryd.prog 40 (.agg #[.string e.u.t, .string e.u.i]) = some (klit e.u) := keyOf_uid hou
              have hml : (es.take k).length < maxLen := by rw [htl]; unfold maxLen; omega
              clear h2 h3 hNu y y0 y1 y2 y3
              go_wp2_with (at_mapUpdate; refine wpList_mapUpdate_own _ rfl _ _ _ 77 rfl 40 51 uid_law Tryd.underlying77 heldE w.heap.size (es.take k).length D rfl h1 hml _ _ (klit e.u) rfl rfl hkey (.held (.agg #[.string e.u.t, .string e.u.i, .slice pu e.up.length cu, .slice pa e.nd.length ca])) [] rfl ?_; intro w4 hown4 hg4)
              go_roundw
              case rel =>
                refine ⟨k + 1, by omega, by go_num, ?_, ?_, hb03.grown hg4 hb03.size (fun j hj => by cases hj; exact Nat.le_refl _), ?_⟩
                · rw [HT.out]
                  exact ⟨_, by simpa using hown4, HT3.out⟩
                · rw [HT.out, List.map_append]
                  exact (hset1.up hb13).kept hg4 (fun q => by simp at q)
                · show _ = Z
                  rw [HT.out, List.map_append]
                  exact HR5.out
              case measure => simp [intOf]; omega
            · have HE3 : Hid (eV (afault e.nd) = .iface 23 (.int .i64 (afault e.nd))) := eV_not hfa
              have HR5 : Hid (afault e.nd = Z) := by have h := HR4.out; rw [if_neg hfa] at h; exact h
              have HA : Hid (afault e.nd ≠ 0) := hfa
              clear hfa HR4
              go_wp2_with fail
              refine (checkAttrs_any e.nd pa ca _ (HNL.out.up hb12) hn1 hn2).mono ?_
              rintro er w3 ⟨rfl, hb3⟩
              rw [HE3.out]
              go_wp2_with fail
              go_ret2
              have hz : Z ≠ 0 := by rw [← HR5.out]; exact HA.out
              exact ⟨.inr ⟨by rw [HB.out hz]; exact hz, by rw [HB.out hz, ← HR5.out, HE3.out]; rfl⟩, hb12.trans (hb3.mono hb12.size)⟩
          · have HE2 : Hid (eV (ffup e.up) = .iface 23 (.int .i64 (ffup e.up))) := eV_not hfu
            have HR4 : Hid (ffup e.up = Z) := by have h := HR3.out; rw [if_neg hfu] at h; exact h
            have HA : Hid (ffup e.up ≠ 0) := hfu
            clear hfu HR3
            go_wp2_with fail
            refine (checkUp_any e.up pu cu _ (HUL.out.up hb1) hu1 hu2 HOU.out).mono ?_
            rintro er w2 ⟨rfl, hb2⟩
            rw [HE2.out]
            go_wp2_with fail
            go_ret2
            have hz : Z ≠ 0 := by rw [← HR4.out]; exact HA.out
            exact ⟨.inr ⟨by rw [HB.out hz]; exact hz, by rw [HB.out hz, ← HR4.out, HE2.out]; rfl⟩, hb1.trans (hb2.mono hb1.size)⟩
        · have HP : Hid (_ ≠ _) := hp
          have HR3 : Hid (uqf ((es.take k).map (·.u)) e.u = Z) := by have h := HR2.out; rw [if_neg hp] at h; exact h
          have HE1 : Hid (eV (uqf ((es.take k).map (·.u)) e.u) = .iface 23 (.int .i64 Z)) := by
            show _ = _
            rw [← HR3.out]
            exact eV_not hp
          clear hp HR2
          go_wp2_with fail
          refine (put_err (w.heap.size + 1) ((es.take k).map (·.u)) e.u _ (hset.up hbx) hou HP.out).mono ?_
          rintro er w1 ⟨rfl, hb1⟩
          rw [HE1.out]
          go_wp2_with fail
          go_ret2
          have hz : Z ≠ 0 := by rw [← HR3.out]; exact HP.out
          exact ⟨.inr ⟨by rw [HB.out hz]; exact hz, by rw [HB.out hz, eV_not hz]; rfl⟩, (hnx.trans (hbx.mono hnz)).trans (hb1.mono (by simp; omega))⟩
      · obtain rfl : k = es.length := by omega
        have i1 : ¬ (es.length : Int) < (es.length : Int) := by omega
        have HZ0 : Hid (Z = 0) := by have h := HR.out; rw [List.drop_length] at h; exact h.symm
        have HF : Hid (Few es) := HN.out HZ0.out
        rw [List.take_length] at hmap
        clear hset
        go_wp2_with fail
        refine (hasCycle_any es w w.heap.size HF.out _ hmap hnx).mono ?_
        rintro er w1 ⟨cy, rfl, hcy, hb1⟩
        have hmap1 := hmap.up hb1
        cases cy
        · have HNC : Hid (¬ Cyc es) := fun q => by have := hcy.2 q; cases this
          clear hcy
          go_wp2_with fail
          go_ret2
          exact ⟨.inl ⟨HO.out HZ0.out HNC.out, w.heap.size, rfl, hmap1⟩, hnx.trans (hb1.mono hnx.size)⟩
        · have HCY : Hid (Cyc es) := hcy.1 rfl
          clear hcy
          go_wp2_with fail
          go_ret2
          have h7 := HY.out HZ0.out HCY.out
          exact ⟨.inr ⟨by rw [h7]; decide, by rw [h7]; rfl⟩, hnx.trans (hb1.mono hnx.size)⟩

end Go.Proofs.YtpcikfpldmackaaDoor
namespace Go.Proofs.YtpcikfpldmackaaDoor
open Go.RowKit Go.Maps Go.WideMaps
set_option linter.unusedVariables false
set_option linter.unusedSimpArgs false

set_option maxHeartbeats 1000000 in
theorem entCheck_any (es : List En) (p : Option Addr) (c : Nat) (w : World) (hl : EL w p es) :
    Calls Tryd.prog 15 #[.slice p es.length c] w fun e w' => e = .returned (eV (stf es)) ∧ Below w.heap.size w w' := by
  go_enter Tryd.func15, Tryd.ntmps15
  go_wp2_with fail
  refine (storeOf_any es p c _ hl).mono ?_
  rintro e w1 ⟨⟨h0, sb, rfl, hm⟩ | ⟨h0, rfl⟩, hb1⟩
  · have HE : Hid (eV (stf es) = .nilIface) := eV_nil h0
    clear h0
    go_wp2_with fail
    go_ret
    exact ⟨by rw [HE.out]; rfl, hb1⟩
  · have HE : Hid (eV (stf es) = .iface 23 (.int .i64 (stf es))) := eV_not h0
    clear h0
    rw [HE.out]
    go_wp2_with fail
    go_ret
    exact ⟨by rw [HE.out]; rfl, hb1⟩
end Go.Proofs.YtpcikfpldmackaaDoor
namespace Go.Proofs.YtpcikfpldmackaaDoor
open Go.RowKit
set_option linter.unusedVariables false
set_option linter.unusedSimpArgs false
set_option maxRecDepth 100000

def enV (e : En) (pu : Option Addr) (cu : Nat) (pa : Option Addr) (ca : Nat) : Value := .agg #[.string e.u.t, .string e.u.i, .slice pu e.up.length cu, .slice pa e.nd.length ca]
/-- An entity as an argument. -/
structure EA1 (w : World) (e : En) (pu : Option Addr) (cu : Nat) (pa : Option Addr) (ca : Nat) : Prop where
  ul : UL w pu e.up
  le : e.up.length ≤ cu
  cm : cu ≤ maxLen
  nd : AK w e.nd pa ca
theorem EA1.up {w w' : World} {e : En} {pu pa : Option Addr} {cu ca : Nat} (h : EA1 w e pu cu pa ca) (hb : Below w.heap.size w w') : EA1 w' e pu cu pa ca := ⟨h.ul.up hb, h.le, h.cm, h.nd.up hb⟩
theorem mbf_none {ks : List Kd} {e : En} (h : kof ks e.u.t = none) : mbf ks e = 3 := by unfold mbf; rw [h]
theorem mbf_some {ks : List Kd} {e : En} {k : Kd} (h : kof ks e.u.t = some k) : mbf ks e = if e.up.all (fun u => hasT u.t k.up) then wtf k.ty e.nd else 2 := by unfold mbf; rw [h]
theorem all_step {l : List Ui} {k : Nat} (h : k < l.length) (f : Ui → Bool) : (l.take (k + 1)).all f = ((l.take k).all f && f l[k]) := by
  rw [List.take_succ_eq_append_getElem h, List.all_append]; simp
theorem all_miss {l : List Ui} {k : Nat} (h : k < l.length) {f : Ui → Bool} (hf : f l[k] = false) : l.all f = false := by
  cases e : l.all f
  · rfl
  · rw [List.all_eq_true] at e
    rw [e _ (List.getElem_mem h)] at hf
    cases hf
set_option maxHeartbeats 4000000 in
theorem smayBe_any (ks : List Kd) (p : Option Addr) (c : Nat) (e : En) (pu : Option Addr) (cu : Nat) (pa : Option Addr) (ca : Nat) (w : World) (hl : KdL w p ks) (h8 : ks.length ≤ 8) (he : EA1 w e pu cu pa ca) :
    Calls Tryd.prog 27 #[.slice p ks.length c, enV e pu cu pa ca] w fun en w' => en = .returned (eV (mbf ks e)) ∧ Below w.heap.size w w' := by
  obtain ⟨V, hV⟩ : ∃ V, V = w.alloc (.cells #[.string e.u.t, .string e.u.i, .slice pu e.up.length cu, .slice pa e.nd.length ca] 51) := ⟨_, rfl⟩
  have hbV : Below w.heap.size w V := by rw [hV]; exact kqx
  have hVs : V.heap.size = w.heap.size + 1 := by rw [hV]; simp
  have v2 : V.cell? ⟨w.heap.size, 2, none⟩ = some (.slice pu e.up.length cu) := by rw [hV]; simp
  have v3 : V.cell? ⟨w.heap.size, 3, none⟩ = some (.slice pa e.nd.length ca) := by rw [hV]; simp
  have HK := kindOf_any ks p c e.u.t V (hl.up hbV) h8
  have HEA : Hid (EA1 V e pu cu pa ca) := he.up hbV
  unfold enV
  clear hl he
  cases hk : kof ks e.u.t with
  | none =>
    rw [hk] at HK
    have HE : Hid (eV (mbf ks e) = .iface 23 (.int .i64 3)) := by show _ = _; rw [mbf_none hk]; rfl
    clear hk
    unfold KofRet at HK
    go_enter Tryd.func27, Tryd.ntmps27
    go_wp2_with fail
    rw [← hV]
    clear hV
    refine HK.mono ?_
    rintro _ w1 ⟨rfl, hb1⟩
    go_wp2
    go_ret
    exact ⟨by rw [HE.out]; rfl, kqt hbV (kqt hb1 kqx)⟩
  | some kd =>
    rw [hk] at HK
    have HM : Hid (mbf ks e = if e.up.all (fun u => hasT u.t kd.up) then wtf kd.ty e.nd else 2) := mbf_some hk
    clear hk
    unfold KofRet at HK
    have hul : e.up.length ≤ 9223372036854775807 := by have h1 := HEA.out.le; have h2 := HEA.out.cm; unfold maxLen at h2; omega
    go_enter Tryd.func27, Tryd.ntmps27
    go_wp2_with fail
    rw [← hV]
    clear hV
    refine HK.mono ?_
    rintro _ w1 ⟨⟨qu, du, qt, dt, rfl, hkv⟩, hb1⟩
    obtain ⟨W, hW⟩ : ∃ W, W = w1.alloc (.cells #[.string kd.nm, .slice qu kd.up.length du, .slice qt kd.ty.length dt] 57) := ⟨_, rfl⟩
    have hbW : Below w1.heap.size w1 W := by rw [hW]; exact kqx
    have hWs : W.heap.size = w1.heap.size + 1 := by rw [hW]; simp
    have y1 : W.cell? ⟨w1.heap.size, 1, none⟩ = some (.slice qu kd.up.length du) := by rw [hW]; simp
    have y2 : W.cell? ⟨w1.heap.size, 2, none⟩ = some (.slice qt kd.ty.length dt) := by rw [hW]; simp
    have hb1W := kqt hb1 hbW
    have x2 := (hb1W.cell (p := ⟨w.heap.size, 2, none⟩) (by show w.heap.size < _; omega)).trans v2
    have x3 := (hb1W.cell (p := ⟨w.heap.size, 3, none⟩) (by show w.heap.size < _; omega)).trans v3
    have HKV : Hid (KdV W kd qu du qt dt) := hkv.up hbW
    have HEW : Hid (EA1 W e pu cu pa ca) := HEA.out.up hb1W
    have hbwW := kqt hbV hb1W
    have hs1 : w.heap.size < w1.heap.size := by have := hb1.size; omega
    rw [hW] at x2
    clear hkv HK hb1W hbW hb1
    go_wp2_with fail
    rw [← hW]
    clear hW x2 v2 v3
    go_loopw [23] (fun i wr => ∃ k : Nat, k ≤ e.up.length ∧ i = .int .i64 k ∧ Hid ((e.up.take k).all (fun u => hasT u.t kd.up) = true) ∧ Below W.heap.size W wr) (fun i _ => e.up.length - (intOf i).toNat)
    case atStart => exact ⟨0, Nat.zero_le _, rfl, rfl, Below.refl _ _⟩
    case round =>
      rename World => wr
      obtain ⟨k, hk, rfl, HF, hbr⟩ := hrel
      by_cases hlt : k < e.up.length
      · have i1 : (k : Int) < (e.up.length : Int) := by omega
        obtain ⟨b, off, rfl, hbl, c0, c1⟩ := (HEW.out.ul.up hbr).at hlt
        have HX : Hid _ := all_step hlt (fun u => hasT u.t kd.up)
        have HY : Hid _ := @all_miss _ _ hlt (fun u => hasT u.t kd.up)
        generalize e.up[k] = x at *
        obtain ⟨V3, hV3⟩ : ∃ V3, V3 = wr.alloc (.cells #[.string x.t, .string x.i] 40) := ⟨_, rfl⟩
        have hb3 : Below wr.heap.size wr V3 := by rw [hV3]; exact kqx
        have z1 := (hb3.cell (p := ⟨w1.heap.size, 1, none⟩) (by have := hbr.size; show w1.heap.size < _; omega)).trans ((hbr.cell (p := ⟨w1.heap.size, 1, none⟩) (by show w1.heap.size < _; omega)).trans y1)
        have hbr3 := kqt hbr hb3
        have HC := containsS_any x.t kd.up qu du V3 (HKV.out.us.up hbr3)
        rw [hV3] at z1
        cases hh : hasT x.t kd.up
        · rw [hh] at HC
          have HE : Hid (eV (mbf ks e) = .iface 23 (.int .i64 2)) := by show _ = _; rw [HM.out, HY.out hh]; rfl
          clear hh HX HY HF HM
          go_wp2_with fail
          rw [← hV3]
          clear hV3
          refine HC.mono ?_
          rintro _ w4 ⟨rfl, rfl⟩
          go_wp2
          go_ret
          exact ⟨by rw [HE.out]; rfl, kqt hbwW hbr3⟩
        · rw [hh] at HC
          have HF2 : Hid ((e.up.take (k + 1)).all (fun u => hasT u.t kd.up) = true) := by show _ = _; rw [HX.out, HF.out]; exact hh
          clear hh HX HY HF
          go_wp2_with fail
          rw [← hV3]
          clear hV3
          refine HC.mono ?_
          rintro _ w4 ⟨rfl, rfl⟩
          go_wp2
          go_roundw
          case rel => exact ⟨k + 1, by omega, by go_num, HF2, hbr3⟩
          case measure => simp [intOf]; omega
      · have i1 : ¬ (k : Int) < (e.up.length : Int) := by omega
        have HE : Hid (mbf ks e = wtf kd.ty e.nd) := by
          show _ = _
          have := HF.out
          rw [List.take_of_length_le (by omega)] at this
          rw [HM.out, if_pos this]
        have z2 := (hbr.cell (p := ⟨w1.heap.size, 2, none⟩) (by show w1.heap.size < _; omega)).trans y2
        have z3 := (hbr.cell (p := ⟨w.heap.size, 3, none⟩) (by show w.heap.size < _; omega)).trans x3
        have HC := wantType_any kd.ty e.nd qt pa dt ca wr (HKV.out.ty.up hbr) (HEW.out.nd.up hbr)
        have HE2 : Hid (eV (mbf ks e) = eV (wtf kd.ty e.nd)) := congrArg eV HE.out
        generalize eV (wtf kd.ty e.nd) = r at HC HE2
        clear HF HM HE
        go_wp2_with fail
        refine HC.mono ?_
        rintro _ w4 ⟨rfl, hb4⟩
        go_wp2
        go_ret
        exact ⟨by rw [HE2.out]; rfl, kqt hbwW (kqt hbr hb4)⟩
theorem esf_step {ks : List Kd} {es : List En} {k : Nat} (h : k < es.length) : esf ks (es.drop k) = orE (mbf ks es[k]) (esf ks (es.drop (k + 1))) := by rw [List.drop_eq_getElem_cons h]; rfl
theorem EV.ea {w : World} {e : En} {pu pa : Option Addr} {cu ca : Nat} (h1 : UL w pu e.up) (h2 : NL w pa e.nd) (a : e.up.length ≤ cu) (b : cu ≤ maxLen) (c : e.nd.length ≤ ca) (d : ca ≤ maxLen) : EA1 w e pu cu pa ca := ⟨h1, a, b, ⟨h2, c, d⟩⟩
set_option maxHeartbeats 4000000 in
/-- Store. -/
theorem sstore_any (s : Sc) (es : List En) (pk pa pe : Option Addr) (ck ca ce : Nat) (w : World) (h : SA w s pk ck pa ca) (he : EL w pe es) (hem : es.length ≤ maxLen) :
    Calls Tryd.prog 13 #[scV s pk ck pa ca, .slice pe es.length ce] w fun e w' => e = .returned (eV (stof s es)) ∧ Below w.heap.size w w' := by
  obtain ⟨V, hV⟩ : ∃ V, V = w.alloc (.cells #[.slice pk s.ks.length ck, .slice pa s.acs.length ca] 37) := ⟨_, rfl⟩
  have hbV : Below w.heap.size w V := by rw [hV]; exact kqx
  have hVs : V.heap.size = w.heap.size + 1 := by rw [hV]; simp
  have v0 : V.cell? ⟨w.heap.size, 0, none⟩ = some (.slice pk s.ks.length ck) := by rw [hV]; simp
  have HSA : Hid (SA V s pk ck pa ca) := h.up hbV
  have HEL : Hid (EL V pe es) := he.up hbV
  have HC := scheck_any s pk pa ck ca V HSA.out
  unfold maxLen at hem
  unfold scV at *
  clear h he
  by_cases h0 : scf s = 0
  · rw [eV_nil h0] at HC
    have h8 : s.ks.length ≤ 8 := by
      rcases scf_ways s with ⟨_, e⟩ | ⟨hk, _⟩
      · omega
      · exact hk
    have HN := fun W (hW : Below V.heap.size V W) => entCheck_any es pe ce W (HEL.out.up hW)
    by_cases h1 : stf es = 0
    · rw [eV_nil h1] at HN
      have HS : Hid (stof s es = esf s.ks es) := by show _ = _; unfold stof; rw [orE_r h0, orE_r h1]
      have h16 : es.length ≤ 16 := (stf_zero h1).few
      clear h0 h1 hem
      go_enter Tryd.func13, Tryd.ntmps13
      go_wp2_with fail
      rw [← hV]
      clear hV
      refine HC.mono ?_
      rintro _ w1 ⟨rfl, hb1⟩
      go_wp2_with fail
      refine (HN _ hb1).mono ?_
      rintro _ w2 ⟨rfl, hb2'⟩
      have hb2 := kqt hb1 hb2'
      clear hb1 hb2' HC HN
      go_wp2_with fail
      go_loopw [22] (fun i wr => ∃ k : Nat, k ≤ es.length ∧ i = .int .i64 k ∧ Hid (esf s.ks es = esf s.ks (es.drop k)) ∧ Below V.heap.size V wr) (fun i _ => es.length - (intOf i).toNat)
      case atStart => exact ⟨0, Nat.zero_le _, rfl, rfl, hb2⟩
      case round =>
        rename World => wr
        obtain ⟨k, hk, rfl, HF, hbr⟩ := hrel
        by_cases hlt : k < es.length
        · have i1 : (k : Int) < (es.length : Int) := by omega
          obtain ⟨b, off, pu, cu, pn, cn, rfl, hbl, _, hUL, hNL, _, _, hu1, hu2, hn1, hn2, c0, c1, c2, c3⟩ := (HEL.out.up hbr).at hlt
          have HX : Hid _ := esf_step (ks := s.ks) hlt
          generalize es[k] = x at *
          obtain ⟨V3, hV3⟩ : ∃ V3, V3 = wr.alloc (.cells #[.string x.u.t, .string x.u.i, .slice pu x.up.length cu, .slice pn x.nd.length cn] 51) := ⟨_, rfl⟩
          have hb3 : Below wr.heap.size wr V3 := by rw [hV3]; exact kqx
          have z0 := (hb3.cell (p := ⟨w.heap.size, 0, none⟩) (by have := hbr.size; show w.heap.size < _; omega)).trans ((hbr.cell (p := ⟨w.heap.size, 0, none⟩) (by show w.heap.size < _; omega)).trans v0)
          have hbr3 := kqt hbr hb3
          have HM := smayBe_any s.ks pk ck x pu cu pn cn V3 (HSA.out.ks.up hbr3) h8 ((EV.ea hUL hNL hu1 hu2 hn1 hn2).up hb3)
          unfold enV at HM
          rw [hV3] at z0
          clear hUL hNL
          by_cases h0 : mbf s.ks x = 0
          · rw [eV_nil h0] at HM
            have HF2 : Hid (esf s.ks es = esf s.ks (es.drop (k + 1))) := by show _ = _; rw [HF.out, HX.out, orE_r h0]
            clear h0 HF HX
            go_wp2_with fail
            rw [← hV3]
            clear hV3
            refine HM.mono ?_
            rintro _ w4 ⟨rfl, hb4⟩
            go_wp2
            go_roundw
            case rel => exact ⟨k + 1, by omega, by go_num, HF2, kqt hbr3 hb4⟩
            case measure => simp [intOf]; omega
          · rw [eV_not h0] at HM
            have HE : Hid (eV (stof s es) = .iface 23 (.int .i64 (mbf s.ks x))) := by show _ = _; rw [HS.out, HF.out, HX.out, orE_l h0, eV_not h0]
            clear h0 HF HX
            generalize mbf s.ks x = n at *
            go_wp2_with fail
            rw [← hV3]
            clear hV3
            refine HM.mono ?_
            rintro _ w4 ⟨rfl, hb4⟩
            go_wp2
            go_ret
            exact ⟨by rw [HE.out]; rfl, kqt hbV (kqt hbr3 hb4)⟩
        · have i1 : ¬ (k : Int) < (es.length : Int) := by omega
          have HE : Hid (eV (stof s es) = .nilIface) := by show _ = _; rw [HS.out, HF.out, List.drop_of_length_le (by omega)]; rfl
          clear HF
          go_wp2
          go_ret
          exact ⟨by rw [HE.out]; rfl, kqt hbV hbr⟩
    · rw [eV_not h1] at HN
      have HE : Hid (eV (stof s es) = .iface 23 (.int .i64 (stf es))) := by show _ = _; unfold stof; rw [orE_r h0, orE_l h1, eV_not h1]
      clear h0 h1
      generalize stf es = n at *
      go_enter Tryd.func13, Tryd.ntmps13
      go_wp2_with fail
      rw [← hV]
      clear hV
      refine HC.mono ?_
      rintro _ w1 ⟨rfl, hb1⟩
      go_wp2_with fail
      refine (HN _ hb1).mono ?_
      rintro _ w2 ⟨rfl, hb2⟩
      go_wp2
      go_ret
      exact ⟨by rw [HE.out]; rfl, kqt hbV (kqt hb1 hb2)⟩
  · rw [eV_not h0] at HC
    have HE : Hid (eV (stof s es) = .iface 23 (.int .i64 (scf s))) := by show _ = _; unfold stof; rw [orE_l h0, eV_not h0]
    clear h0
    generalize scf s = n at *
    go_enter Tryd.func13, Tryd.ntmps13
    go_wp2_with fail
    rw [← hV]
    clear hV
    refine HC.mono ?_
    rintro _ w1 ⟨rfl, hb1⟩
    go_wp2
    go_ret
    exact ⟨by rw [HE.out]; rfl, kqt hbV hb1⟩
theorem asks_none {s : Sc} {q : Rq} (h0 : scf s = 0) (h1 : askf q = 0) (h : aof s.acs q.act = none) : asks s q = 3 := by unfold asks; rw [orE_r h0, orE_r h1, h]
theorem asks_some {s : Sc} {q : Rq} {a : Ac} (h0 : scf s = 0) (h1 : askf q = 0) (h : aof s.acs q.act = some a) : asks s q = if hasT q.who.t a.who && hasT q.what.t a.what then wtf a.cx q.cx else 2 := by unfold asks; rw [orE_r h0, orE_r h1, h]
set_option maxHeartbeats 4000000 in
/-- Asks. -/
theorem sasks_any (s : Sc) (q : Rq) (pk pa pq : Option Addr) (ck ca cq : Nat) (w : World) (h : SA w s pk ck pa ca) (hq : RqArg w q pq cq) :
    Calls Tryd.prog 16 #[scV s pk ck pa ca, reqV q pq cq] w fun e w' => e = .returned (eV (asks s q)) ∧ Below w.heap.size w w' := by
  obtain ⟨V, hV⟩ : ∃ V, V = (w.alloc (.cells #[.slice pk s.ks.length ck, .slice pa s.acs.length ca] 37)).alloc (.cells #[.string q.who.t, .string q.who.i, .string q.act.t, .string q.act.i, .string q.what.t, .string q.what.i, .slice pq q.cx.length cq] 42) := ⟨_, rfl⟩
  have hbV : Below w.heap.size w V := by rw [hV]; exact kqx
  have hVs : V.heap.size = w.heap.size + 2 := by rw [hV]; simp
  have v1 : V.cell? ⟨w.heap.size, 1, none⟩ = some (.slice pa s.acs.length ca) := by rw [hV]; simp
  have r0 : V.cell? ⟨w.heap.size + 1, 0, none⟩ = some (.string q.who.t) := by rw [hV]; simp
  have r1 : V.cell? ⟨w.heap.size + 1, 1, none⟩ = some (.string q.who.i) := by rw [hV]; simp
  have r2 : V.cell? ⟨w.heap.size + 1, 2, none⟩ = some (.string q.act.t) := by rw [hV]; simp
  have r3 : V.cell? ⟨w.heap.size + 1, 3, none⟩ = some (.string q.act.i) := by rw [hV]; simp
  have r4 : V.cell? ⟨w.heap.size + 1, 4, none⟩ = some (.string q.what.t) := by rw [hV]; simp
  have r5 : V.cell? ⟨w.heap.size + 1, 5, none⟩ = some (.string q.what.i) := by rw [hV]; simp
  have r6 : V.cell? ⟨w.heap.size + 1, 6, none⟩ = some (.slice pq q.cx.length cq) := by rw [hV]; simp
  have HR : Hid (∀ W, Below V.heap.size V W → W.cell? ⟨w.heap.size, 1, none⟩ = some (.slice pa s.acs.length ca) ∧ W.cell? ⟨w.heap.size + 1, 0, none⟩ = some (.string q.who.t) ∧ W.cell? ⟨w.heap.size + 1, 1, none⟩ = some (.string q.who.i) ∧ W.cell? ⟨w.heap.size + 1, 2, none⟩ = some (.string q.act.t) ∧ W.cell? ⟨w.heap.size + 1, 3, none⟩ = some (.string q.act.i) ∧ W.cell? ⟨w.heap.size + 1, 4, none⟩ = some (.string q.what.t) ∧ W.cell? ⟨w.heap.size + 1, 5, none⟩ = some (.string q.what.i) ∧ W.cell? ⟨w.heap.size + 1, 6, none⟩ = some (.slice pq q.cx.length cq)) := fun W hW => by
    have k : ∀ o, W.cell? ⟨w.heap.size + 1, o, none⟩ = V.cell? ⟨w.heap.size + 1, o, none⟩ := fun o => hW.cell (p := ⟨w.heap.size + 1, o, none⟩) (by show w.heap.size + 1 < _; omega)
    exact ⟨(hW.cell (p := ⟨w.heap.size, 1, none⟩) (by show w.heap.size < _; omega)).trans v1, (k 0).trans r0, (k 1).trans r1, (k 2).trans r2, (k 3).trans r3, (k 4).trans r4, (k 5).trans r5, (k 6).trans r6⟩
  have HSA : Hid (SA V s pk ck pa ca) := h.up hbV
  have HQA : Hid (RqArg V q pq cq) := ⟨hq.u0, hq.u1, hq.u2, hq.nl.up hbV, hq.le, hq.cm⟩
  have HC := scheck_any s pk pa ck ca V HSA.out
  have HN := fun W (hW : Below V.heap.size V W) => ask_any q pq cq W ⟨HQA.out.u0, HQA.out.u1, HQA.out.u2, HQA.out.nl.up hW, HQA.out.le, HQA.out.cm⟩
  unfold scV reqV at *
  clear h hq r0 r1 r2 r3 r4 r5 r6 v1
  by_cases h0 : scf s = 0
  · rw [eV_nil h0] at HC
    have h8 : s.acs.length ≤ 8 := by
      rcases scf_ways s with ⟨_, e⟩ | ⟨_, hk, _⟩
      · omega
      · exact hk
    by_cases h1 : askf q = 0
    · rw [eV_nil h1] at HN
      have HO := fun W (hW : Below V.heap.size V W) => actOf_any s.acs pa ca q.act W (HSA.out.asl.up hW) h8
      cases hk : aof s.acs q.act with
      | none =>
        have HE : Hid (eV (asks s q) = .iface 23 (.int .i64 3)) := by show _ = _; rw [asks_none h0 h1 hk]; rfl
        rw [hk] at HO
        clear hk h0 h1
        unfold AofRet at HO
        go_enter Tryd.func16, Tryd.ntmps16
        go_wp2_with fail
        rw [← hV]
        clear hV
        refine HC.mono ?_
        rintro _ w1 ⟨rfl, hb1⟩
        obtain ⟨z1, y0, y1, y2, y3, y4, y5, y6⟩ := HR.out _ hb1
        go_wp2_with fail
        refine (HN _ hb1).mono ?_
        rintro _ w2 ⟨rfl, hb2'⟩
        have hb2 := kqt hb1 hb2'
        clear hb1 hb2' z1 y0 y1 y2 y3 y4 y5 y6
        obtain ⟨z1, y0, y1, y2, y3, y4, y5, y6⟩ := HR.out _ hb2
        go_wp2_with fail
        refine (HO _ hb2).mono ?_
        rintro _ w3 ⟨rfl, hb3⟩
        go_wp2
        go_ret
        exact ⟨by rw [HE.out]; rfl, kqt hbV (kqt (kqt hb2 hb3) kqx)⟩
      | some a =>
        have HS : Hid (asks s q = if hasT q.who.t a.who && hasT q.what.t a.what then wtf a.cx q.cx else 2) := asks_some h0 h1 hk
        rw [hk] at HO
        clear hk h0 h1
        unfold AofRet at HO
        go_enter Tryd.func16, Tryd.ntmps16
        go_wp2_with fail
        rw [← hV]
        clear hV
        refine HC.mono ?_
        rintro _ w1 ⟨rfl, hb1⟩
        obtain ⟨z1, y0, y1, y2, y3, y4, y5, y6⟩ := HR.out _ hb1
        go_wp2_with fail
        refine (HN _ hb1).mono ?_
        rintro _ w2 ⟨rfl, hb2'⟩
        have hb2 := kqt hb1 hb2'
        clear hb1 hb2' z1 y0 y1 y2 y3 y4 y5 y6
        obtain ⟨z1, y0, y1, y2, y3, y4, y5, y6⟩ := HR.out _ hb2
        go_wp2_with fail
        refine (HO _ hb2).mono ?_
        rintro _ w3 ⟨⟨p0, c0, p1, c1, pt, ct, rfl, hav⟩, hb3'⟩
        have hb3 := kqt hb2 hb3'
        clear hb2 hb3' z1 y0 y1 y2 y3 y4 y5 y6 HN HO HC
        obtain ⟨W, hW⟩ : ∃ W, W = w3.alloc (.cells #[.string a.id, .slice p0 a.who.length c0, .slice p1 a.what.length c1, .slice pt a.cx.length ct] 45) := ⟨_, rfl⟩
        have hbW : Below w3.heap.size w3 W := by rw [hW]; exact kqx
        have hb4 := kqt hb3 hbW
        obtain ⟨z1, y0, y1, y2, y3, y4, y5, y6⟩ := HR.out _ hb4
        have x1 : W.cell? ⟨w3.heap.size, 1, none⟩ = some (.slice p0 a.who.length c0) := by rw [hW]; simp
        have x2 : W.cell? ⟨w3.heap.size, 2, none⟩ = some (.slice p1 a.what.length c1) := by rw [hW]; simp
        have x3 : W.cell? ⟨w3.heap.size, 3, none⟩ = some (.slice pt a.cx.length ct) := by rw [hW]; simp
        have HAV : Hid (AcV W a p0 c0 p1 c1 pt ct) := hav.up hbW
        have HC1 := containsS_any q.who.t a.who p0 c0 W HAV.out.us
        have HC2 := containsS_any q.what.t a.what p1 c1 W HAV.out.vs
        have HW := wantType_any a.cx q.cx pt pq ct cq W HAV.out.ty ⟨HQA.out.nl.up hb4, HQA.out.le, HQA.out.cm⟩
        have hbf := kqt hbV hb4
        rw [hW] at y0
        clear hav HR
        cases h1 : hasT q.who.t a.who
        · rw [h1] at HC1
          have HE : Hid (eV (asks s q) = .iface 23 (.int .i64 2)) := by show _ = _; rw [HS.out, h1]; rfl
          clear h1 HS
          go_wp2_with fail
          rw [← hW]
          clear hW
          refine HC1.mono ?_
          rintro _ w5 ⟨rfl, rfl⟩
          go_wp2
          go_ret
          exact ⟨by rw [HE.out]; rfl, hbf⟩
        · rw [h1] at HC1
          cases h2 : hasT q.what.t a.what
          · rw [h2] at HC2
            have HE : Hid (eV (asks s q) = .iface 23 (.int .i64 2)) := by show _ = _; rw [HS.out, h1, h2]; rfl
            clear h1 h2 HS
            go_wp2_with fail
            rw [← hW]
            clear hW
            refine HC1.mono ?_
            rintro _ w5 ⟨rfl, rfl⟩
            go_wp2_with fail
            refine HC2.mono ?_
            rintro _ w5 ⟨rfl, rfl⟩
            go_wp2
            go_ret
            exact ⟨by rw [HE.out]; rfl, hbf⟩
          · rw [h2] at HC2
            have HE : Hid (eV (asks s q) = eV (wtf a.cx q.cx)) := by show _ = _; rw [HS.out, h1, h2]; rfl
            generalize eV (wtf a.cx q.cx) = r at HE HW
            clear h1 h2 HS
            go_wp2_with fail
            rw [← hW]
            clear hW
            refine HC1.mono ?_
            rintro _ w5 ⟨rfl, rfl⟩
            go_wp2_with fail
            refine HC2.mono ?_
            rintro _ w5 ⟨rfl, rfl⟩
            go_wp2_with fail
            refine HW.mono ?_
            rintro _ w6 ⟨rfl, hb6⟩
            go_wp2
            go_ret
            exact ⟨by rw [HE.out]; rfl, kqt hbf hb6⟩
    · rw [eV_not h1] at HN
      have HE : Hid (eV (asks s q) = .iface 23 (.int .i64 (askf q))) := by show _ = _; unfold asks; rw [orE_r h0, orE_l h1, eV_not h1]
      clear h0 h1
      generalize askf q = n at *
      go_enter Tryd.func16, Tryd.ntmps16
      go_wp2_with fail
      rw [← hV]
      clear hV
      refine HC.mono ?_
      rintro _ w1 ⟨rfl, hb1⟩
      obtain ⟨z1, y0, y1, y2, y3, y4, y5, y6⟩ := HR.out _ hb1
      go_wp2_with fail
      refine (HN _ hb1).mono ?_
      rintro _ w2 ⟨rfl, hb2⟩
      go_wp2
      go_ret
      exact ⟨by rw [HE.out]; rfl, kqt hbV (kqt hb1 hb2)⟩
  · rw [eV_not h0] at HC
    have HE : Hid (eV (asks s q) = .iface 23 (.int .i64 (scf s))) := by show _ = _; unfold asks; rw [orE_l h0, eV_not h0]
    clear h0
    generalize scf s = n at *
    go_enter Tryd.func16, Tryd.ntmps16
    go_wp2_with fail
    rw [← hV]
    clear hV
    refine HC.mono ?_
    rintro _ w1 ⟨rfl, hb1⟩
    go_wp2
    go_ret
    exact ⟨by rw [HE.out]; rfl, kqt hbV hb1⟩
end Go.Proofs.YtpcikfpldmackaaDoor
namespace Go.Proofs.YtpcikfpldmackaaDoor
open Go.RowKit Go.Maps Go.WideMaps
set_option linter.unusedVariables false
set_option linter.unusedSimpArgs false

def uA : Ui := ⟨⟨#[65]⟩, ⟨#[]⟩⟩
def ndR : Nd := ⟨6, 0, ⟨#[]⟩, ⟨#[]⟩⟩
def es1 : List En := [⟨uA, [], [ndR]⟩]
def sc0 : Sc := ⟨[], []⟩
theorem uA_ok : UOk uA := by unfold UOk maxLen; decide
theorem es1_ups (u : Ui) : upsOf es1 u = [] := by
  unfold upsOf es1
  rw [List.find?_singleton]
  split
  · rename_i h; split at h <;> simp at h; rw [← h]
  · rfl
theorem es1_acyc : ¬ Cyc es1 := by
  rintro ⟨e, he, h⟩
  obtain ⟨x, hx, _⟩ := Abv.steps.1 h
  rw [es1_ups] at hx
  cases hx
theorem es1_good : stf es1 = 0 := sfault_ok (by decide) (by decide) es1_acyc
theorem sc0_good : scf sc0 = 0 := by
  unfold scf sc0
  rw [orE_zero, orE_zero]
  exact ⟨rfl, rfl, rfl⟩
theorem fact_none : stof sc0 es1 = 3 := by
  unfold stof
  rw [orE_r sc0_good, orE_r es1_good]
  rfl
theorem sc0_sa (w : World) : SA w sc0 none 0 none 0 := ⟨.inl rfl, Nat.le_refl _, Nat.zero_le _, .inl rfl, Nat.le_refl _, Nat.zero_le _⟩
theorem es1_lies (v : World) (n : Nat) (hn : v.heap.size = n) : EL ((v.alloc (.cells #[.int .i64 6, .int .i64 0, .string ⟨#[]⟩, .string ⟨#[]⟩] 48)).alloc
      (.cells #[.string ⟨#[65]⟩, .string ⟨#[]⟩, .slice none 0 0, .slice (some ⟨n, 0, none⟩) 1 1] 51)) (some ⟨n + 1, 0, none⟩) es1 := by
  subst hn
  refine .inr ⟨_, _, rfl, by simp, fun i e he => ?_⟩
  cases i with
  | succ i => simp [es1] at he
  | zero =>
    simp only [es1, List.getElem?_cons_zero, Option.some.injEq] at he
    subst he
    refine ⟨none, 0, some ⟨v.heap.size, 0, none⟩, 1, ⟨_, _, _, _, rfl, .inl rfl, ?_, uA_ok, ?_, Nat.le_refl _, Nat.zero_le _, Nat.le_refl _, by unfold maxLen; decide⟩, ?_, ?_, ?_, ?_⟩
    · refine .inr ⟨_, _, rfl, by simp; omega, fun i e he => ?_⟩
      cases i with
      | succ i => simp at he
      | zero =>
        simp only [List.getElem?_cons_zero, Option.some.injEq] at he
        subst he
        refine ⟨?_, ?_, ?_, ?_, by simp [ndR, Nd.wf, maxLen]; exact Nat.zero_le _⟩ <;> (rw [cell_old (by simp), cell_new rfl]; rfl)
    · intro x hx
      cases hx
    · rw [cell_new (by simp)]; rfl
    · rw [cell_new (by simp)]; rfl
    · rw [cell_new (by simp)]; rfl
    · rw [cell_new (by simp)]; rfl
end Go.Proofs.YtpcikfpldmackaaDoor
