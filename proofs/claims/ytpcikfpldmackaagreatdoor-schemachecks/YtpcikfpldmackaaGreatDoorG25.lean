/- Package ent's above and hasCycle: by walks of their own texts. Package ent's checkAttrs, storeOf: by walks of their own texts. Package ent's Check: by a walk of its own text. Package schema: mayBe, Store, Asks: by walks of their own texts. Schemas: the fact that the statements share; a kind's type made another in a row of the call's own. Level by level: those above a uid, as the document finds them. The document's with, Ups, Over: by walks of their own texts. The document's entityFault, StoreFault: by walks of their own texts. The document's StoreFault: by a walk of its own text. -/
import Derived.Test.YtpcikfpldmackaaGreatDoorG14
import Derived.Deep.RegionWith
import Derived.Test.YtpcikfpldmackaaGreatDoorG23
import Derived.Test.YtpcikfpldmackaaGreatDoorG24
import Derived.Test.YtpcikfpldmackaaGreatDoorG13
import Derived.Test.YtpcikfpldmackaaGreatDoorG12
import Derived.Laws.StructEq
import Derived.BigQuiet
import Derived.Deep.QuietTactic
import Derived.Test.YtpcikfpldmackaaGreatDoorG21
import Derived.Test.YtpcikfpldmackaaGreatDoorG17
namespace Go.Proofs.YtpcikfpldmackaaGreatDoor
open Go.RowKit Go.Maps Go.WideMaps
set_option linter.unusedVariables false
set_option linter.unusedSimpArgs false

/-- All that stand above some entity. -/
def allUps (es : List En) : List Ui := es.flatMap (·.up)
theorem allUps_mem {es : List En} {u x : Ui} (h : x ∈ upsOf es u) : x ∈ allUps es := by
  obtain ⟨e, he, _, h2⟩ := upsOf_mem h
  exact List.mem_flatMap.2 ⟨e, he, by rw [h2]; exact h⟩
theorem allUps_len : ∀ (es : List En), (∀ e ∈ es, e.up.length ≤ 6) → (allUps es).length ≤ 6 * es.length
  | [], _ => by simp [allUps]
  | e :: r, h => by
    have h1 := h e (by simp)
    have h2 := allUps_len r (fun x hx => h x (by simp [hx]))
    unfold allUps at h2 ⊢
    rw [List.flatMap_cons, List.length_append, List.length_cons]
    omega
theorem toCome_len (U L : List Ui) : toCome U L ≤ U.length := List.length_filter_le _ _

/-- A store whose entities are all different, and few. -/
structure Few (es : List En) : Prop where
  few : es.length ≤ 16
  uniq : Uniq es
  ups : ∀ e ∈ es, e.up.length ≤ 6

set_option maxRecDepth 100000 in
set_option maxHeartbeats 1000000 in
theorem above_any (es : List En) (w0 : World) (sb : Nat) (hf : Few es) (u : Ui) (w : World) (hu : UOk u) (hm : EMap w0 w sb es) (hb : Below w0.heap.size w0 w) :
    Calls Tryz.prog 116 #[.map (some sb), .agg #[.string u.t, .string u.i]] w fun e w' => ∃ fb M, e = .returned (.map (some fb)) ∧ USet w' fb M ∧ (∀ v, v ∈ M ↔ Abv es u v) ∧ Below w.heap.size w w' ∧ M.length ≤ 96 := by
  have hlt := hm.lt
  have hn : toCome (allUps es) [] ≤ 96 := Nat.le_trans (toCome_len _ _) (Nat.le_trans (allUps_len es hf.ups) (by have := hf.few; omega))
  have h96 : toCome (allUps es) [] ≤ 96 := hn
  have hbs := hb.size
  have HF : Hid (Few es) := hf
  have HM : Hid (EMap w0 w sb es) := hm
  clear hf hm
  have hmm := @run_makeMap Tryz.prog
  go_enter Tryz.func116, Tryz.ntmps116
  go_wp2_with fail
  have hb1 : Below w.heap.size w ((w.alloc (.cells #[.string u.t, .string u.i] 41)).alloc (.map #[] 0)) := ((Below.refl _ _).alloc (Nat.le_refl _) _).alloc (by simp) _
  have hs1 : USet ((w.alloc (.cells #[.string u.t, .string u.i] 41)).alloc (.map #[] 0)) (w.heap.size + 1) [] := by simpa using USet.made (w.alloc (.cells #[.string u.t, .string u.i] 41))
  refine (climb_any es w0 sb (w.heap.size + 1) (allUps es) (fun u x hx => allUps_mem hx) HF.out.uniq (by omega) (by omega) _ [] u _ hu (HM.out.up hb1) hs1 (hb.trans (hb1.mono hb.size)) rfl (by simp; omega)).mono ?_
  rintro e w1 ⟨rfl, M, hcl, hset, hg, hcnt⟩
  have hcnt2 : M.length ≤ 96 := by simp at hcnt; omega
  clear hcnt
  go_wp2_with fail
  go_ret
  refine ⟨w.heap.size + 1, M, rfl, hset, fun v => ⟨fun hv => ?_, fun hv => ?_⟩, ?_, hcnt2⟩
  · rcases hcl.frm v hv with h | h
    · cases h
    · exact h
  · exact abv_closed hcl.ups (fun v hv => hcl.closed v hv (by simp)) hv
  · exact hb1.grown hg (by simp; omega) (fun j hj => by cases hj; omega)

theorem EMap.uidOf {w0 w : World} {b : Nat} {es : List En} {D : DataW Value} (h2 : ∀ kl, Maps.has D kl = true → ∃ e ∈ es, kl = klit e.u) (h3 : ∀ e ∈ es, UOk e.u) {u : Ui} (hu : UOk u) (h : Maps.has D (klit u) = true) : ∃ e ∈ es, e.u = u := by
  obtain ⟨e, he, hk⟩ := h2 _ h
  exact ⟨e, he, (klit_inj hu (h3 e he) hk).symm⟩

set_option maxRecDepth 100000 in
set_option maxHeartbeats 4000000 in
theorem hasCycle_any (es : List En) (w0 : World) (sb : Nat) (hf : Few es) (w : World) (hm : EMap w0 w sb es) (hb : Below w0.heap.size w0 w) :
    Calls Tryz.prog 102 #[.map (some sb)] w fun e w' => ∃ c, e = .returned (.bool c) ∧ (c = true ↔ Cyc es) ∧ Below w.heap.size w w' := by
  have HM : Hid (EMap w0 w sb es) := hm
  obtain ⟨D, h1, h2, h3⟩ := hm
  have H2 : Hid (∀ _, _) := h2
  have H3 : Hid (∀ _, _) := h3
  have hsb := h1.lt
  clear h2 h3
  go_enter Tryz.func102, Tryz.ntmps102
  go_wp2_with (first
    | (at_range; refine wpList_range_own _ rfl _ 119 rfl 41 54 uid_law Tryz.underlying119 _ sb es.length D rfl h1 ?_; intro w1 hrg0 hg0 hs0)
    | go_in)
  go_frame
  go_loopw [3] (fun _ wr => ∃ (left : Lit → Bool) (cnt : Nat), wr.ranges Tryz.prog 41 heldE sb w.heap.size es.length D left cnt ∧ w.grownBy wr none ∧ Hid (∀ e ∈ es, left (klit e.u) = true ∨ ¬ Abv es e.u e.u) ∧ Hid (∀ kl, left kl = true → Maps.has D kl = true)) (fun _ wr => wr.rangeLeft sb w.heap.size)
  case atStart => exact ⟨_, _, hrg0, hg0, fun e he => .inl (H3.out e he).1, fun kl h => h⟩
  case round =>
    obtain ⟨left, cnt, hrg, hgr, HI, HLH⟩ := hrel
    go_wp2_with (first
      | (at_next; refine wpList_next_ranges _ rfl _ rfl 41 uid_law heldE (fun x : Ui => .agg #[.string x.t, .string x.i]) id (fun key kl hk => by obtain ⟨x, hx, _⟩ := keyOf_uid_inv hk; exact ⟨x, hx⟩) (fun v _ _ => ⟨v, rfl⟩) sb w.heap.size es.length D left cnt rfl hrg ?_ ?_)
      | go_in)
    · intro hc0 hl0
      go_wp2_with fail
      go_ret
      refine ⟨false, rfl, ⟨fun q => (by cases q), fun ⟨e, he, hc⟩ => ?_⟩, ⟨hgr.os, hgr.tape, hgr.output, hgr.size, fun i hi => hgr.block i hi (by simp)⟩⟩
      rcases HI.out e he with h | h
      · rw [hl0] at h; cases h
      · exact absurd hc h
    · intro x c kl yd yp w2 cnt2 hkey hlk hv hat hrg2 hlt hg2 hs2 hen
      obtain ⟨x', ex, hxok, rfl⟩ := keyOf_uid_inv hkey
      obtain rfl : x = x' := uV_inj ex
      have hgr2 : w.grownBy w2 none := hgr.andThen hg2 (fun j hj => by cases hj; exact .inl (Nat.le_refl _))
      have HG2 : Hid (w.grownBy w2 none) := hgr2
      have HM2 : Hid (EMap w0 w2 sb es) := HM.out.kept hgr2 (by simp)
      have HB2 : Hid (Below w0.heap.size w0 w2) := hb.grown hgr2 hb.size (fun j hj => by cases hj)
      have HLK : Hid (_ = _) := hlk
      clear hs2 hgr2 ex hkey hv hat hlk
      go_wp2_with fail
      go_region_with (first
        | (go_at_call 116
           refine (above_any es w0 sb hf x _ hxok ?_ ?_).mono ?_
           · exact HM2.out.up (by repeat (first | exact Below.refl _ _ | exact (Below.refl _ _).alloc (Nat.le_refl _) _ | apply Below.drew))
           · exact HB2.out.trans (Below.mono (by repeat (first | exact Below.refl _ _ | exact (Below.refl _ _).alloc (Nat.le_refl _) _ | apply Below.drew)) HB2.out.size)
           rintro e w3 ⟨fb, M, rfl, hset, hM, hb3, hM96⟩
           have hx0 : w3.cell? ⟨w2.heap.size, 0, none⟩ = some (.string x.t) := (hb3.cell (p := ⟨w2.heap.size, 0, none⟩) (by simp)).trans (by simp)
           have hx1 : w3.cell? ⟨w2.heap.size, 1, none⟩ = some (.string x.i) := (hb3.cell (p := ⟨w2.heap.size, 1, none⟩) (by simp)).trans (by simp))
        | (go_at_call 115
           refine (has_any fb M x _ hset hxok).mono ?_
           rintro e w4 ⟨rfl, hb4⟩
           generalize hdd : decide (x ∈ M) = d))
      all_goals
        have hb34 : Below w2.heap.size w2 w4 := (Below.trans (by repeat (first | exact Below.refl _ _ | exact (Below.refl _ _).alloc (Nat.le_refl _) _ | apply Below.drew)) (hb3.mono (by simp))).trans (hb4.mono (by have := hb3.size; simp at this; omega))
        have HDD : Hid (_ = _) := hdd
        have HMM : Hid (∀ _, _) := hM
        clear hdd hM
        cases d
        · have HI2 : Hid (∀ e ∈ es, (left (klit e.u) && !(klit e.u).sameKey (klit x)) = true ∨ ¬ Abv es e.u e.u) := by
            intro e he
            by_cases hex : e.u = x
            · right
              intro hab
              rw [hex] at hab
              have := (HMM.out x).2 hab
              have h0 := HDD.out
              rw [decide_eq_true this] at h0
              cases h0
            · rcases HI.out e he with h | h
              · left
                rw [h, sameKey_ne (fun q => hex (klit_inj (H3.out e he).2.1 hxok q))]
                rfl
              · exact .inr h
          go_wp2_with fail
          go_roundw
          case rel => exact ⟨_, cnt2, hrg2.kept (gb_of hb34) (by simp) (by simp), HG2.out.andThen (gb_of hb34) (fun j hj => by cases hj), HI2, fun kl hk => HLH.out kl (by simp at hk; exact hk.1)⟩
          case measure => rw [(hrg2.kept (gb_of hb34) (by simp) (by simp)).left_eq, hrg.left_eq]; exact hlt
        · go_wp2_with fail
          go_ret
          have h34 := HG2.out.andThen (gb_of hb34) (fun j hj => by cases hj)
          refine ⟨true, rfl, ⟨fun _ => ?_, fun _ => rfl⟩, ⟨h34.os, h34.tape, h34.output, h34.size, fun i hi => h34.block i hi (by simp)⟩⟩
          obtain ⟨e, he, hk⟩ := H2.out _ (HLH.out _ HLK.out)
          have hex : x = e.u := klit_inj hxok (H3.out e he).2.1 hk
          have hx := (HMM.out x).1 (of_decide_eq_true HDD.out)
          exact ⟨e, he, by rw [← hex]; exact hx⟩
end Go.Proofs.YtpcikfpldmackaaGreatDoor
namespace Go.Proofs.YtpcikfpldmackaaGreatDoor
open Go.RowKit Go.Maps Go.WideMaps
set_option linter.unusedVariables false
set_option linter.unusedSimpArgs false

theorem vfault_nil : vfault [] ≠ 0 := by decide

set_option maxHeartbeats 1000000 in
theorem checkAttrs_any (v : List Nd) (p : Option Addr) (c : Nat) (w : World) (hv : NL w p v) (hc : v.length ≤ c) (hcm : c ≤ maxLen) :
    Calls Tryz.prog 101 #[.slice p v.length c] w fun e w' => e = .returned (eV (afault v)) ∧ Below w.heap.size w w' := by
  by_cases h0 : vfault v = 0
  · cases v with
    | nil => exact absurd h0 vfault_nil
    | cons x r =>
      have HE : Hid (eV (vfault (x :: r)) = .nilIface) := eV_nil h0
      obtain ⟨b, off, rfl, hbl, hc0, _⟩ := hv.at (i := 0) (by simp)
      have hcc : ∀ w', Below w.heap.size w w' → w'.cell? ⟨b, off, none⟩ = some (.int .i64 x.op) := fun w' k => (k.cell (p := ⟨b, off, none⟩) hbl).trans (by simpa using hc0)
      have HV : Hid (NL _ _ _) := hv
      have HC : Hid (∀ w', _) := hcc
      have hl1 : (0 : Int) < ((r.length + 1 : Nat) : Int) := by omega
      by_cases h6 : x.op = 6
      · have HF : Hid (afault (x :: r) = 0) := by show _ = _; unfold afault; rw [if_pos h0]; simp [h6]
        have h6' : (x.op != 6) = false := by simp [h6]
        clear h0 hc0 hcc hv h6
        go_enter Tryz.func101, Tryz.ntmps101
        go_wp2_with fail
        refine (vcheck_any (x :: r) _ c _ HV.out hc hcm).mono ?_
        rintro e w1 ⟨rfl, hb1⟩
        rw [HE.out]
        have hx := HC.out w1 hb1
        go_wp2_with fail
        go_ret
        exact ⟨by rw [HF.out]; rfl, hb1⟩
      · have HF : Hid (afault (x :: r) = 2) := by show _ = _; unfold afault; rw [if_pos h0]; simp [h6]
        have h6' : (x.op != 6) = true := by simp [h6]
        clear h0 hc0 hcc hv h6
        go_enter Tryz.func101, Tryz.ntmps101
        go_wp2_with fail
        refine (vcheck_any (x :: r) _ c _ HV.out hc hcm).mono ?_
        rintro e w1 ⟨rfl, hb1⟩
        rw [HE.out]
        have hx := HC.out w1 hb1
        go_wp2_with fail
        go_ret
        exact ⟨by rw [HF.out]; rfl, hb1⟩
  · have HE : Hid (eV (vfault v) = .iface 23 (.int .i64 (vfault v))) := eV_not h0
    have HF : Hid (afault v = vfault v) := if_neg h0
    clear h0
    go_enter Tryz.func101, Tryz.ntmps101
    go_wp2_with fail
    refine (vcheck_any v _ c _ hv hc hcm).mono ?_
    rintro e w1 ⟨rfl, hb1⟩
    rw [HE.out]
    go_wp2_with fail
    go_ret
    exact ⟨by rw [HF.out, HE.out]; rfl, hb1⟩

theorem lfault_cons (seen : List Ui) (e : En) (r : List En) : lfault seen (e :: r) = if uqf seen e.u = 0 then (if ffup e.up = 0 then (if afault e.nd = 0 then lfault (seen ++ [e.u]) r else afault e.nd) else ffup e.up) else uqf seen e.u := by
  conv => lhs; unfold lfault
  unfold uqf efault
  by_cases h0 : uf e.u = 0
  · rw [if_pos h0, if_pos h0]
    by_cases h1 : e.u ∈ seen
    · rw [if_pos h1, if_pos h1]; rfl
    · rw [if_neg h1, if_neg h1, if_pos rfl]
      by_cases h2 : ffup e.up = 0
      · rw [if_pos h2, if_pos h2]
      · rw [if_neg h2, if_neg h2, if_neg h2]
  · rw [if_neg h0, if_neg h0, if_neg h0]
theorem sfault_full {es : List En} (h : 16 < es.length) : stf es = 4 := by unfold stf; rw [if_pos h]
theorem sfault_list {es : List En} (h : ¬ 16 < es.length) (k : lfault [] es ≠ 0) : stf es = lfault [] es := by unfold stf; rw [if_neg h, if_neg k]
theorem sfault_cyc {es : List En} (h : ¬ 16 < es.length) (k : lfault [] es = 0) (c : Cyc es) : stf es = 7 := by unfold stf; rw [if_neg h, if_pos k, if_pos c]
theorem sfault_ok {es : List En} (h : ¬ 16 < es.length) (k : lfault [] es = 0) (c : ¬ Cyc es) : stf es = 0 := by unfold stf; rw [if_neg h, if_pos k, if_neg c]
theorem few_of {es : List En} (h : ¬ 16 < es.length) (k : lfault [] es = 0) : Few es := by
  obtain ⟨i1, i2⟩ := lfault_zero _ _ k
  exact ⟨by omega, i2, fun e he => (ffup_zero (efault_zero (i1 e he).2.2).1).1⟩

/-- What storeOf tells. -/
def Stored (es : List En) (w : World) (e : Ending) (w' : World) : Prop :=
  (stf es = 0 ∧ ∃ sb, e = .returned (.tuple #[.map (some sb), .nilIface]) ∧ EMap w w' sb es) ∨ (stf es ≠ 0 ∧ e = .returned (.tuple #[.map none, eV (stf es)]))

set_option maxRecDepth 100000 in
set_option maxHeartbeats 4000000 in
theorem storeOf_any (es : List En) (p : Option Addr) (c : Nat) (w : World) (hl : EL w p es) :
    Calls Tryz.prog 76 #[.slice p es.length c] w fun e w' => Stored es w e w' ∧ Below w.heap.size w w' := by
  by_cases h16 : 16 < es.length
  · have h' : (16 : Int) < (es.length : Int) := by omega
    have HF : Hid (stf es = 4) := sfault_full h16
    go_enter Tryz.func76, Tryz.ntmps76
    go_wp2_with fail
    go_ret2
    exact ⟨.inr ⟨by rw [HF.out]; decide, by rw [HF.out]; rfl⟩, Below.refl _ _⟩
  · have h' : ¬ (16 : Int) < (es.length : Int) := by omega
    have HL : Hid (EL w p es) := hl
    have HB : Hid (lfault [] es ≠ 0 → stf es = lfault [] es) := sfault_list h16
    have HN : Hid (lfault [] es = 0 → Few es) := few_of h16
    have HO : Hid (lfault [] es = 0 → ¬ Cyc es → stf es = 0) := sfault_ok h16
    have HY : Hid (lfault [] es = 0 → Cyc es → stf es = 7) := sfault_cyc h16
    generalize hZ : lfault [] es = Z at HB HN HO HY
    have HZ : Hid (lfault ((es.take 0).map (·.u)) (es.drop 0) = Z) := hZ
    clear hl hZ
    have hmm := @run_makeMap Tryz.prog
    go_enter Tryz.func76, Tryz.ntmps76
    go_wp2_with fail
    go_loopw [19] (fun i wr => ∃ k : Nat, k ≤ es.length ∧ i = .int .i64 k ∧ EMap w wr w.heap.size (es.take k) ∧ USet wr (w.heap.size + 1) ((es.take k).map (·.u)) ∧ Below w.heap.size w wr ∧ Hid (lfault ((es.take k).map (·.u)) (es.drop k) = Z)) (fun i _ => es.length - (intOf i).toNat)
    case atStart => exact ⟨0, Nat.zero_le _, rfl, (EMap.made w w).up ((Below.refl _ _).alloc (Nat.le_refl _) _), by simpa using USet.made (w.alloc (.map #[] 0)), ((Below.refl _ _).alloc (Nat.le_refl _) _).alloc (by simp) _, HZ⟩
    case round =>
      obtain ⟨k, hk, rfl, hmap, hset, hnx, HR⟩ := hrel
      by_cases hlt : k < es.length
      · have i1 : (k : Int) < (es.length : Int) := by omega
        obtain ⟨b, off, pu, cu, pa, ca, rfl, hbl, HEV, HUL, HNL, hou, hoU, hu1, hu2, hn1, hn2, g0, g1, g2, g3⟩ := HL.out.at hlt
        have hq : ∀ o, wr.cell? ⟨b, o, none⟩ = w.cell? ⟨b, o, none⟩ := fun o => hnx.cell (p := ⟨b, o, none⟩) hbl
        have hc0 := (hq _).trans g0
        have hc1 := (hq _).trans g1
        have hc2 := (hq _).trans g2
        have hc3 := (hq _).trans g3
        have HD : Hid (es.drop k = es[k] :: es.drop (k + 1)) := List.drop_eq_getElem_cons hlt
        have HT : Hid (es.take (k + 1) = es.take k ++ [es[k]]) := List.take_succ_eq_append_getElem hlt
        replace HEV : Hid (EV w _ _) := HEV
        replace HUL : Hid (UL w _ _) := HUL
        replace HNL : Hid (NL w _ _) := HNL
        have HOU : Hid (∀ _, _) := hoU
        generalize es[k] = e at *
        have HR2 : Hid ((if uqf ((es.take k).map (·.u)) e.u = 0 then (if ffup e.up = 0 then (if afault e.nd = 0 then lfault (((es.take k).map (·.u)) ++ [e.u]) (es.drop (k + 1)) else afault e.nd) else ffup e.up) else uqf ((es.take k).map (·.u)) e.u) = Z) := by have h := HR.out; rw [HD.out, lfault_cons] at h; exact h
        have hnz := hnx.size
        have hsl := hset.lt
        clear g0 g1 g2 g3 hq hoU HR
        have hbx := (Below.refl wr.heap.size wr).alloc (Nat.le_refl _) (.cells #[.string e.u.t, .string e.u.i, .slice pu e.up.length cu, .slice pa e.nd.length ca] 54)
        have htl : (es.take k).length = k := by rw [List.length_take]; omega
        by_cases hp : uqf ((es.take k).map (·.u)) e.u = 0
        · have HP : Hid (_ = _) := hp
          have HR3 : Hid ((if ffup e.up = 0 then (if afault e.nd = 0 then lfault (((es.take k).map (·.u)) ++ [e.u]) (es.drop (k + 1)) else afault e.nd) else ffup e.up) = Z) := by have h := HR2.out; rw [if_pos hp] at h; exact h
          clear hp HR2
          go_wp2_with fail
          refine (put_ok (w.heap.size + 1) ((es.take k).map (·.u)) e.u _ (hset.up hbx) hou HP.out (by simp; omega)).mono ?_
          rintro er w1 ⟨rfl, hset1, hg1⟩
          have hne1 : some wr.heap.size ≠ some (w.heap.size + 1) := fun q => by simp at q; omega
          have hxc : ∀ o, w1.cell? ⟨wr.heap.size, o, none⟩ = _ := fun o => cell_grown2 hg1 (by simp) hne1 o
          have x0 : w1.cell? ⟨wr.heap.size, 0, none⟩ = some (.string e.u.t) := by rw [hxc]; simp
          have x1 : w1.cell? ⟨wr.heap.size, 1, none⟩ = some (.string e.u.i) := by rw [hxc]; simp
          have x2 : w1.cell? ⟨wr.heap.size, 2, none⟩ = some (.slice pu e.up.length cu) := by rw [hxc]; simp
          have x3 : w1.cell? ⟨wr.heap.size, 3, none⟩ = some (.slice pa e.nd.length ca) := by rw [hxc]; simp
          have hz1 : wr.heap.size < w1.heap.size := by have := hg1.size; simp at this; omega
          have hb1 : Below w.heap.size w w1 := (hnx.trans (hbx.mono hnz)).grown hg1 (by simp; omega) (fun j hj => by cases hj; omega)
          have hmap1 : EMap w w1 w.heap.size (es.take k) := (hmap.up hbx).kept hg1 (fun q => by simp at q)
          clear hxc
          by_cases hfu : ffup e.up = 0
          · have HE2 : Hid (eV (ffup e.up) = .nilIface) := eV_nil hfu
            have HR4 : Hid ((if afault e.nd = 0 then lfault (((es.take k).map (·.u)) ++ [e.u]) (es.drop (k + 1)) else afault e.nd) = Z) := by have h := HR3.out; rw [if_pos hfu] at h; exact h
            clear hfu HR3
            go_wp2_with fail
            refine (checkUp_any e.up pu cu _ (HUL.out.up hb1) hu1 hu2 HOU.out).mono ?_
            rintro er w2 ⟨rfl, hb2⟩
            rw [HE2.out]
            have y : ∀ o, w2.cell? ⟨wr.heap.size, o, none⟩ = w1.cell? ⟨wr.heap.size, o, none⟩ := fun o => hb2.cell (p := ⟨wr.heap.size, o, none⟩) hz1
            have y0 := (y 0).trans x0
            have y1 := (y 1).trans x1
            have y2 := (y 2).trans x2
            have y3 := (y 3).trans x3
            have hb12 : Below w.heap.size w w2 := hb1.trans (hb2.mono hb1.size)
            have hz2 : wr.heap.size < w2.heap.size := by have := hb2.size; omega
            clear y x0 x1 x2 x3
            by_cases hfa : afault e.nd = 0
            · have HE3 : Hid (eV (afault e.nd) = .nilIface) := eV_nil hfa
              have HR5 : Hid (lfault (((es.take k).map (·.u)) ++ [e.u]) (es.drop (k + 1)) = Z) := by have h := HR4.out; rw [if_pos hfa] at h; exact h
              clear hfa HR4
              go_wp2_with fail
              refine (checkAttrs_any e.nd pa ca _ (HNL.out.up hb12) hn1 hn2).mono ?_
              rintro er w3 ⟨rfl, hb3⟩
              rw [HE3.out]
              have y : ∀ o, w3.cell? ⟨wr.heap.size, o, none⟩ = w2.cell? ⟨wr.heap.size, o, none⟩ := fun o => hb3.cell (p := ⟨wr.heap.size, o, none⟩) hz2
              have v0 := (y 0).trans y0
              have v1 := (y 1).trans y1
              have v2 := (y 2).trans y2
              have v3 := (y 3).trans y3
              have hb13 : Below w1.heap.size w1 w3 := hb2.trans (hb3.mono hb2.size)
              have hb03 : Below w.heap.size w w3 := hb1.trans (hb13.mono hb1.size)
              obtain ⟨D, h1, h2, h3⟩ := hmap1.up hb13
              have hNu : ∀ x ∈ es.take k, x.u ≠ e.u := fun x hx q => by
                have h := HP.out
                unfold uqf at h
                by_cases h0 : uf e.u = 0
                · rw [if_pos h0, if_pos (List.mem_map.2 ⟨x, hx, q⟩)] at h; cases h
                · rw [if_neg h0] at h; exact absurd h h0
              have HT3 : Hid (_ ∧ _) := EMap.put h1.isMap h2 h3 hou hNu HEV.out
              have hkey : keyOf Tryz.prog 41 (.agg #[.string e.u.t, .string e.u.i]) = some (klit e.u) := keyOf_uid hou
              have hml : (es.take k).length < maxLen := by rw [htl]; unfold maxLen; omega
              clear h2 h3 hNu y y0 y1 y2 y3
              go_wp2_with (at_mapUpdate; refine wpList_mapUpdate_own _ rfl _ _ _ 119 rfl 41 54 uid_law Tryz.underlying119 heldE w.heap.size (es.take k).length D rfl h1 hml _ _ (klit e.u) rfl rfl hkey (.held (.agg #[.string e.u.t, .string e.u.i, .slice pu e.up.length cu, .slice pa e.nd.length ca])) [] rfl ?_; intro w4 hown4 hg4)
              go_roundw
              case rel =>
                refine ⟨k + 1, by omega, by go_num, ?_, ?_, hb03.grown hg4 hb03.size (fun j hj => by cases hj; exact Nat.le_refl _), ?_⟩
                · rw [HT.out]
                  exact ⟨_, by simpa using hown4, HT3.out⟩
                · rw [HT.out, List.map_append]
                  exact (hset1.up hb13).kept hg4 (fun q => by simp at q)
                · show _ = Z
                  rw [HT.out, List.map_append]
                  exact HR5.out
              case measure => simp [intOf]; omega
            · have HE3 : Hid (eV (afault e.nd) = .iface 23 (.int .i64 (afault e.nd))) := eV_not hfa
              have HR5 : Hid (afault e.nd = Z) := by have h := HR4.out; rw [if_neg hfa] at h; exact h
              have HA : Hid (afault e.nd ≠ 0) := hfa
              clear hfa HR4
              go_wp2_with fail
              refine (checkAttrs_any e.nd pa ca _ (HNL.out.up hb12) hn1 hn2).mono ?_
              rintro er w3 ⟨rfl, hb3⟩
              rw [HE3.out]
              go_wp2_with fail
              go_ret2
              have hz : Z ≠ 0 := by rw [← HR5.out]; exact HA.out
              exact ⟨.inr ⟨by rw [HB.out hz]; exact hz, by rw [HB.out hz, ← HR5.out, HE3.out]; rfl⟩, hb12.trans (hb3.mono hb12.size)⟩
          · have HE2 : Hid (eV (ffup e.up) = .iface 23 (.int .i64 (ffup e.up))) := eV_not hfu
            have HR4 : Hid (ffup e.up = Z) := by have h := HR3.out; rw [if_neg hfu] at h; exact h
            have HA : Hid (ffup e.up ≠ 0) := hfu
            clear hfu HR3
            go_wp2_with fail
            refine (checkUp_any e.up pu cu _ (HUL.out.up hb1) hu1 hu2 HOU.out).mono ?_
            rintro er w2 ⟨rfl, hb2⟩
            rw [HE2.out]
            go_wp2_with fail
            go_ret2
            have hz : Z ≠ 0 := by rw [← HR4.out]; exact HA.out
            exact ⟨.inr ⟨by rw [HB.out hz]; exact hz, by rw [HB.out hz, ← HR4.out, HE2.out]; rfl⟩, hb1.trans (hb2.mono hb1.size)⟩
        · have HP : Hid (_ ≠ _) := hp
          have HR3 : Hid (uqf ((es.take k).map (·.u)) e.u = Z) := by have h := HR2.out; rw [if_neg hp] at h; exact h
          have HE1 : Hid (eV (uqf ((es.take k).map (·.u)) e.u) = .iface 23 (.int .i64 Z)) := by
            show _ = _
            rw [← HR3.out]
            exact eV_not hp
          clear hp HR2
          go_wp2_with fail
          refine (put_err (w.heap.size + 1) ((es.take k).map (·.u)) e.u _ (hset.up hbx) hou HP.out).mono ?_
          rintro er w1 ⟨rfl, hb1⟩
          rw [HE1.out]
          go_wp2_with fail
          go_ret2
          have hz : Z ≠ 0 := by rw [← HR3.out]; exact HP.out
          exact ⟨.inr ⟨by rw [HB.out hz]; exact hz, by rw [HB.out hz, eV_not hz]; rfl⟩, (hnx.trans (hbx.mono hnz)).trans (hb1.mono (by simp; omega))⟩
      · obtain rfl : k = es.length := by omega
        have i1 : ¬ (es.length : Int) < (es.length : Int) := by omega
        have HZ0 : Hid (Z = 0) := by have h := HR.out; rw [List.drop_length] at h; exact h.symm
        have HF : Hid (Few es) := HN.out HZ0.out
        rw [List.take_length] at hmap
        clear hset
        go_wp2_with fail
        refine (hasCycle_any es w w.heap.size HF.out _ hmap hnx).mono ?_
        rintro er w1 ⟨cy, rfl, hcy, hb1⟩
        have hmap1 := hmap.up hb1
        cases cy
        · have HNC : Hid (¬ Cyc es) := fun q => by have := hcy.2 q; cases this
          clear hcy
          go_wp2_with fail
          go_ret2
          exact ⟨.inl ⟨HO.out HZ0.out HNC.out, w.heap.size, rfl, hmap1⟩, hnx.trans (hb1.mono hnx.size)⟩
        · have HCY : Hid (Cyc es) := hcy.1 rfl
          clear hcy
          go_wp2_with fail
          go_ret2
          have h7 := HY.out HZ0.out HCY.out
          exact ⟨.inr ⟨by rw [h7]; decide, by rw [h7]; rfl⟩, hnx.trans (hb1.mono hnx.size)⟩

end Go.Proofs.YtpcikfpldmackaaGreatDoor
namespace Go.Proofs.YtpcikfpldmackaaGreatDoor
open Go.RowKit Go.Maps Go.WideMaps
set_option linter.unusedVariables false
set_option linter.unusedSimpArgs false

set_option maxHeartbeats 1000000 in
theorem entCheck_any (es : List En) (p : Option Addr) (c : Nat) (w : World) (hl : EL w p es) :
    Calls Tryz.prog 39 #[.slice p es.length c] w fun e w' => e = .returned (eV (stf es)) ∧ Below w.heap.size w w' := by
  go_enter Tryz.func39, Tryz.ntmps39
  go_wp2_with fail
  refine (storeOf_any es p c _ hl).mono ?_
  rintro e w1 ⟨⟨h0, sb, rfl, hm⟩ | ⟨h0, rfl⟩, hb1⟩
  · have HE : Hid (eV (stf es) = .nilIface) := eV_nil h0
    clear h0
    go_wp2_with fail
    go_ret
    exact ⟨by rw [HE.out]; rfl, hb1⟩
  · have HE : Hid (eV (stf es) = .iface 23 (.int .i64 (stf es))) := eV_not h0
    clear h0
    rw [HE.out]
    go_wp2_with fail
    go_ret
    exact ⟨by rw [HE.out]; rfl, hb1⟩
end Go.Proofs.YtpcikfpldmackaaGreatDoor
namespace Go.Proofs.YtpcikfpldmackaaGreatDoor
open Go.RowKit
set_option linter.unusedVariables false
set_option linter.unusedSimpArgs false
set_option maxRecDepth 100000

def enV (e : En) (pu : Option Addr) (cu : Nat) (pa : Option Addr) (ca : Nat) : Value := .agg #[.string e.u.t, .string e.u.i, .slice pu e.up.length cu, .slice pa e.nd.length ca]
/-- An entity as an argument. -/
structure EA1 (w : World) (e : En) (pu : Option Addr) (cu : Nat) (pa : Option Addr) (ca : Nat) : Prop where
  ul : UL w pu e.up
  le : e.up.length ≤ cu
  cm : cu ≤ maxLen
  nd : AK w e.nd pa ca
theorem EA1.up {w w' : World} {e : En} {pu pa : Option Addr} {cu ca : Nat} (h : EA1 w e pu cu pa ca) (hb : Below w.heap.size w w') : EA1 w' e pu cu pa ca := ⟨h.ul.up hb, h.le, h.cm, h.nd.up hb⟩
theorem mbf_none {ks : List Kd} {e : En} (h : kof ks e.u.t = none) : mbf ks e = 3 := by unfold mbf; rw [h]
theorem mbf_some {ks : List Kd} {e : En} {k : Kd} (h : kof ks e.u.t = some k) : mbf ks e = if e.up.all (fun u => hasT u.t k.up) then wtf k.ty e.nd else 2 := by unfold mbf; rw [h]
theorem all_step {l : List Ui} {k : Nat} (h : k < l.length) (f : Ui → Bool) : (l.take (k + 1)).all f = ((l.take k).all f && f l[k]) := by
  rw [List.take_succ_eq_append_getElem h, List.all_append]; simp
theorem all_miss {l : List Ui} {k : Nat} (h : k < l.length) {f : Ui → Bool} (hf : f l[k] = false) : l.all f = false := by
  cases e : l.all f
  · rfl
  · rw [List.all_eq_true] at e
    rw [e _ (List.getElem_mem h)] at hf
    cases hf
set_option maxHeartbeats 4000000 in
theorem smayBe_any (ks : List Kd) (p : Option Addr) (c : Nat) (e : En) (pu : Option Addr) (cu : Nat) (pa : Option Addr) (ca : Nat) (w : World) (hl : KdL w p ks) (h8 : ks.length ≤ 8) (he : EA1 w e pu cu pa ca) :
    Calls Tryz.prog 40 #[.slice p ks.length c, enV e pu cu pa ca] w fun en w' => en = .returned (eV (mbf ks e)) ∧ Below w.heap.size w w' := by
  obtain ⟨V, hV⟩ : ∃ V, V = w.alloc (.cells #[.string e.u.t, .string e.u.i, .slice pu e.up.length cu, .slice pa e.nd.length ca] 54) := ⟨_, rfl⟩
  have hbV : Below w.heap.size w V := by rw [hV]; exact kqx
  have hVs : V.heap.size = w.heap.size + 1 := by rw [hV]; simp
  have v2 : V.cell? ⟨w.heap.size, 2, none⟩ = some (.slice pu e.up.length cu) := by rw [hV]; simp
  have v3 : V.cell? ⟨w.heap.size, 3, none⟩ = some (.slice pa e.nd.length ca) := by rw [hV]; simp
  have HK := kindOf_any ks p c e.u.t V (hl.up hbV) h8
  have HEA : Hid (EA1 V e pu cu pa ca) := he.up hbV
  unfold enV
  clear hl he
  cases hk : kof ks e.u.t with
  | none =>
    rw [hk] at HK
    have HE : Hid (eV (mbf ks e) = .iface 23 (.int .i64 3)) := by show _ = _; rw [mbf_none hk]; rfl
    clear hk
    unfold KofRet at HK
    go_enter Tryz.func40, Tryz.ntmps40
    go_wp2_with fail
    rw [← hV]
    clear hV
    refine HK.mono ?_
    rintro _ w1 ⟨rfl, hb1⟩
    go_wp2
    go_ret
    exact ⟨by rw [HE.out]; rfl, kqt hbV (kqt hb1 kqx)⟩
  | some kd =>
    rw [hk] at HK
    have HM : Hid (mbf ks e = if e.up.all (fun u => hasT u.t kd.up) then wtf kd.ty e.nd else 2) := mbf_some hk
    clear hk
    unfold KofRet at HK
    have hul : e.up.length ≤ 9223372036854775807 := by have h1 := HEA.out.le; have h2 := HEA.out.cm; unfold maxLen at h2; omega
    go_enter Tryz.func40, Tryz.ntmps40
    go_wp2_with fail
    rw [← hV]
    clear hV
    refine HK.mono ?_
    rintro _ w1 ⟨⟨qu, du, qt, dt, rfl, hkv⟩, hb1⟩
    obtain ⟨W, hW⟩ : ∃ W, W = w1.alloc (.cells #[.string kd.nm, .slice qu kd.up.length du, .slice qt kd.ty.length dt] 89) := ⟨_, rfl⟩
    have hbW : Below w1.heap.size w1 W := by rw [hW]; exact kqx
    have hWs : W.heap.size = w1.heap.size + 1 := by rw [hW]; simp
    have y1 : W.cell? ⟨w1.heap.size, 1, none⟩ = some (.slice qu kd.up.length du) := by rw [hW]; simp
    have y2 : W.cell? ⟨w1.heap.size, 2, none⟩ = some (.slice qt kd.ty.length dt) := by rw [hW]; simp
    have hb1W := kqt hb1 hbW
    have x2 := (hb1W.cell (p := ⟨w.heap.size, 2, none⟩) (by show w.heap.size < _; omega)).trans v2
    have x3 := (hb1W.cell (p := ⟨w.heap.size, 3, none⟩) (by show w.heap.size < _; omega)).trans v3
    have HKV : Hid (KdV W kd qu du qt dt) := hkv.up hbW
    have HEW : Hid (EA1 W e pu cu pa ca) := HEA.out.up hb1W
    have hbwW := kqt hbV hb1W
    have hs1 : w.heap.size < w1.heap.size := by have := hb1.size; omega
    rw [hW] at x2
    clear hkv HK hb1W hbW hb1
    go_wp2_with fail
    rw [← hW]
    clear hW x2 v2 v3
    go_loopw [23] (fun i wr => ∃ k : Nat, k ≤ e.up.length ∧ i = .int .i64 k ∧ Hid ((e.up.take k).all (fun u => hasT u.t kd.up) = true) ∧ Below W.heap.size W wr) (fun i _ => e.up.length - (intOf i).toNat)
    case atStart => exact ⟨0, Nat.zero_le _, rfl, rfl, Below.refl _ _⟩
    case round =>
      rename World => wr
      obtain ⟨k, hk, rfl, HF, hbr⟩ := hrel
      by_cases hlt : k < e.up.length
      · have i1 : (k : Int) < (e.up.length : Int) := by omega
        obtain ⟨b, off, rfl, hbl, c0, c1⟩ := (HEW.out.ul.up hbr).at hlt
        have HX : Hid _ := all_step hlt (fun u => hasT u.t kd.up)
        have HY : Hid _ := @all_miss _ _ hlt (fun u => hasT u.t kd.up)
        generalize e.up[k] = x at *
        obtain ⟨V3, hV3⟩ : ∃ V3, V3 = wr.alloc (.cells #[.string x.t, .string x.i] 41) := ⟨_, rfl⟩
        have hb3 : Below wr.heap.size wr V3 := by rw [hV3]; exact kqx
        have z1 := (hb3.cell (p := ⟨w1.heap.size, 1, none⟩) (by have := hbr.size; show w1.heap.size < _; omega)).trans ((hbr.cell (p := ⟨w1.heap.size, 1, none⟩) (by show w1.heap.size < _; omega)).trans y1)
        have hbr3 := kqt hbr hb3
        have HC := containsS_any x.t kd.up qu du V3 (HKV.out.us.up hbr3)
        rw [hV3] at z1
        cases hh : hasT x.t kd.up
        · rw [hh] at HC
          have HE : Hid (eV (mbf ks e) = .iface 23 (.int .i64 2)) := by show _ = _; rw [HM.out, HY.out hh]; rfl
          clear hh HX HY HF HM
          go_wp2_with fail
          rw [← hV3]
          clear hV3
          refine HC.mono ?_
          rintro _ w4 ⟨rfl, rfl⟩
          go_wp2
          go_ret
          exact ⟨by rw [HE.out]; rfl, kqt hbwW hbr3⟩
        · rw [hh] at HC
          have HF2 : Hid ((e.up.take (k + 1)).all (fun u => hasT u.t kd.up) = true) := by show _ = _; rw [HX.out, HF.out]; exact hh
          clear hh HX HY HF
          go_wp2_with fail
          rw [← hV3]
          clear hV3
          refine HC.mono ?_
          rintro _ w4 ⟨rfl, rfl⟩
          go_wp2
          go_roundw
          case rel => exact ⟨k + 1, by omega, by go_num, HF2, hbr3⟩
          case measure => simp [intOf]; omega
      · have i1 : ¬ (k : Int) < (e.up.length : Int) := by omega
        have HE : Hid (mbf ks e = wtf kd.ty e.nd) := by
          show _ = _
          have := HF.out
          rw [List.take_of_length_le (by omega)] at this
          rw [HM.out, if_pos this]
        have z2 := (hbr.cell (p := ⟨w1.heap.size, 2, none⟩) (by show w1.heap.size < _; omega)).trans y2
        have z3 := (hbr.cell (p := ⟨w.heap.size, 3, none⟩) (by show w.heap.size < _; omega)).trans x3
        have HC := wantType_any kd.ty e.nd qt pa dt ca wr (HKV.out.ty.up hbr) (HEW.out.nd.up hbr)
        have HE2 : Hid (eV (mbf ks e) = eV (wtf kd.ty e.nd)) := congrArg eV HE.out
        generalize eV (wtf kd.ty e.nd) = r at HC HE2
        clear HF HM HE
        go_wp2_with fail
        refine HC.mono ?_
        rintro _ w4 ⟨rfl, hb4⟩
        go_wp2
        go_ret
        exact ⟨by rw [HE2.out]; rfl, kqt hbwW (kqt hbr hb4)⟩
theorem esf_step {ks : List Kd} {es : List En} {k : Nat} (h : k < es.length) : esf ks (es.drop k) = orE (mbf ks es[k]) (esf ks (es.drop (k + 1))) := by rw [List.drop_eq_getElem_cons h]; rfl
theorem EV.ea {w : World} {e : En} {pu pa : Option Addr} {cu ca : Nat} (h1 : UL w pu e.up) (h2 : NL w pa e.nd) (a : e.up.length ≤ cu) (b : cu ≤ maxLen) (c : e.nd.length ≤ ca) (d : ca ≤ maxLen) : EA1 w e pu cu pa ca := ⟨h1, a, b, ⟨h2, c, d⟩⟩
set_option maxHeartbeats 4000000 in
/-- Store. -/
theorem sstore_any (s : Sc) (es : List En) (pk pa pe : Option Addr) (ck ca ce : Nat) (w : World) (h : SA w s pk ck pa ca) (he : EL w pe es) (hem : es.length ≤ maxLen) :
    Calls Tryz.prog 16 #[scV s pk ck pa ca, .slice pe es.length ce] w fun e w' => e = .returned (eV (stof s es)) ∧ Below w.heap.size w w' := by
  obtain ⟨V, hV⟩ : ∃ V, V = w.alloc (.cells #[.slice pk s.ks.length ck, .slice pa s.acs.length ca] 38) := ⟨_, rfl⟩
  have hbV : Below w.heap.size w V := by rw [hV]; exact kqx
  have hVs : V.heap.size = w.heap.size + 1 := by rw [hV]; simp
  have v0 : V.cell? ⟨w.heap.size, 0, none⟩ = some (.slice pk s.ks.length ck) := by rw [hV]; simp
  have HSA : Hid (SA V s pk ck pa ca) := h.up hbV
  have HEL : Hid (EL V pe es) := he.up hbV
  have HC := scheck_any s pk pa ck ca V HSA.out
  unfold maxLen at hem
  unfold scV at *
  clear h he
  by_cases h0 : scf s = 0
  · rw [eV_nil h0] at HC
    have h8 : s.ks.length ≤ 8 := by
      rcases scf_ways s with ⟨_, e⟩ | ⟨hk, _⟩
      · omega
      · exact hk
    have HN := fun W (hW : Below V.heap.size V W) => entCheck_any es pe ce W (HEL.out.up hW)
    by_cases h1 : stf es = 0
    · rw [eV_nil h1] at HN
      have HS : Hid (stof s es = esf s.ks es) := by show _ = _; unfold stof; rw [orE_r h0, orE_r h1]
      have h16 : es.length ≤ 16 := (stf_zero h1).few
      clear h0 h1 hem
      go_enter Tryz.func16, Tryz.ntmps16
      go_wp2_with fail
      rw [← hV]
      clear hV
      refine HC.mono ?_
      rintro _ w1 ⟨rfl, hb1⟩
      go_wp2_with fail
      refine (HN _ hb1).mono ?_
      rintro _ w2 ⟨rfl, hb2'⟩
      have hb2 := kqt hb1 hb2'
      clear hb1 hb2' HC HN
      go_wp2_with fail
      go_loopw [22] (fun i wr => ∃ k : Nat, k ≤ es.length ∧ i = .int .i64 k ∧ Hid (esf s.ks es = esf s.ks (es.drop k)) ∧ Below V.heap.size V wr) (fun i _ => es.length - (intOf i).toNat)
      case atStart => exact ⟨0, Nat.zero_le _, rfl, rfl, hb2⟩
      case round =>
        rename World => wr
        obtain ⟨k, hk, rfl, HF, hbr⟩ := hrel
        by_cases hlt : k < es.length
        · have i1 : (k : Int) < (es.length : Int) := by omega
          obtain ⟨b, off, pu, cu, pn, cn, rfl, hbl, _, hUL, hNL, _, _, hu1, hu2, hn1, hn2, c0, c1, c2, c3⟩ := (HEL.out.up hbr).at hlt
          have HX : Hid _ := esf_step (ks := s.ks) hlt
          generalize es[k] = x at *
          obtain ⟨V3, hV3⟩ : ∃ V3, V3 = wr.alloc (.cells #[.string x.u.t, .string x.u.i, .slice pu x.up.length cu, .slice pn x.nd.length cn] 54) := ⟨_, rfl⟩
          have hb3 : Below wr.heap.size wr V3 := by rw [hV3]; exact kqx
          have z0 := (hb3.cell (p := ⟨w.heap.size, 0, none⟩) (by have := hbr.size; show w.heap.size < _; omega)).trans ((hbr.cell (p := ⟨w.heap.size, 0, none⟩) (by show w.heap.size < _; omega)).trans v0)
          have hbr3 := kqt hbr hb3
          have HM := smayBe_any s.ks pk ck x pu cu pn cn V3 (HSA.out.ks.up hbr3) h8 ((EV.ea hUL hNL hu1 hu2 hn1 hn2).up hb3)
          unfold enV at HM
          rw [hV3] at z0
          clear hUL hNL
          by_cases h0 : mbf s.ks x = 0
          · rw [eV_nil h0] at HM
            have HF2 : Hid (esf s.ks es = esf s.ks (es.drop (k + 1))) := by show _ = _; rw [HF.out, HX.out, orE_r h0]
            clear h0 HF HX
            go_wp2_with fail
            rw [← hV3]
            clear hV3
            refine HM.mono ?_
            rintro _ w4 ⟨rfl, hb4⟩
            go_wp2
            go_roundw
            case rel => exact ⟨k + 1, by omega, by go_num, HF2, kqt hbr3 hb4⟩
            case measure => simp [intOf]; omega
          · rw [eV_not h0] at HM
            have HE : Hid (eV (stof s es) = .iface 23 (.int .i64 (mbf s.ks x))) := by show _ = _; rw [HS.out, HF.out, HX.out, orE_l h0, eV_not h0]
            clear h0 HF HX
            generalize mbf s.ks x = n at *
            go_wp2_with fail
            rw [← hV3]
            clear hV3
            refine HM.mono ?_
            rintro _ w4 ⟨rfl, hb4⟩
            go_wp2
            go_ret
            exact ⟨by rw [HE.out]; rfl, kqt hbV (kqt hbr3 hb4)⟩
        · have i1 : ¬ (k : Int) < (es.length : Int) := by omega
          have HE : Hid (eV (stof s es) = .nilIface) := by show _ = _; rw [HS.out, HF.out, List.drop_of_length_le (by omega)]; rfl
          clear HF
          go_wp2
          go_ret
          exact ⟨by rw [HE.out]; rfl, kqt hbV hbr⟩
    · rw [eV_not h1] at HN
      have HE : Hid (eV (stof s es) = .iface 23 (.int .i64 (stf es))) := by show _ = _; unfold stof; rw [orE_r h0, orE_l h1, eV_not h1]
      clear h0 h1
      generalize stf es = n at *
      go_enter Tryz.func16, Tryz.ntmps16
      go_wp2_with fail
      rw [← hV]
      clear hV
      refine HC.mono ?_
      rintro _ w1 ⟨rfl, hb1⟩
      go_wp2_with fail
      refine (HN _ hb1).mono ?_
      rintro _ w2 ⟨rfl, hb2⟩
      go_wp2
      go_ret
      exact ⟨by rw [HE.out]; rfl, kqt hbV (kqt hb1 hb2)⟩
  · rw [eV_not h0] at HC
    have HE : Hid (eV (stof s es) = .iface 23 (.int .i64 (scf s))) := by show _ = _; unfold stof; rw [orE_l h0, eV_not h0]
    clear h0
    generalize scf s = n at *
    go_enter Tryz.func16, Tryz.ntmps16
    go_wp2_with fail
    rw [← hV]
    clear hV
    refine HC.mono ?_
    rintro _ w1 ⟨rfl, hb1⟩
    go_wp2
    go_ret
    exact ⟨by rw [HE.out]; rfl, kqt hbV hb1⟩
theorem asks_none {s : Sc} {q : Rq} (h0 : scf s = 0) (h1 : askf q = 0) (h : aof s.acs q.act = none) : asks s q = 3 := by unfold asks; rw [orE_r h0, orE_r h1, h]
theorem asks_some {s : Sc} {q : Rq} {a : Ac} (h0 : scf s = 0) (h1 : askf q = 0) (h : aof s.acs q.act = some a) : asks s q = if hasT q.who.t a.who && hasT q.what.t a.what then wtf a.cx q.cx else 2 := by unfold asks; rw [orE_r h0, orE_r h1, h]
set_option maxHeartbeats 4000000 in
/-- Asks. -/
theorem sasks_any (s : Sc) (q : Rq) (pk pa pq : Option Addr) (ck ca cq : Nat) (w : World) (h : SA w s pk ck pa ca) (hq : RqArg w q pq cq) :
    Calls Tryz.prog 18 #[scV s pk ck pa ca, reqV q pq cq] w fun e w' => e = .returned (eV (asks s q)) ∧ Below w.heap.size w w' := by
  obtain ⟨V, hV⟩ : ∃ V, V = (w.alloc (.cells #[.slice pk s.ks.length ck, .slice pa s.acs.length ca] 38)).alloc (.cells #[.string q.who.t, .string q.who.i, .string q.act.t, .string q.act.i, .string q.what.t, .string q.what.i, .slice pq q.cx.length cq] 43) := ⟨_, rfl⟩
  have hbV : Below w.heap.size w V := by rw [hV]; exact kqx
  have hVs : V.heap.size = w.heap.size + 2 := by rw [hV]; simp
  have v1 : V.cell? ⟨w.heap.size, 1, none⟩ = some (.slice pa s.acs.length ca) := by rw [hV]; simp
  have r0 : V.cell? ⟨w.heap.size + 1, 0, none⟩ = some (.string q.who.t) := by rw [hV]; simp
  have r1 : V.cell? ⟨w.heap.size + 1, 1, none⟩ = some (.string q.who.i) := by rw [hV]; simp
  have r2 : V.cell? ⟨w.heap.size + 1, 2, none⟩ = some (.string q.act.t) := by rw [hV]; simp
  have r3 : V.cell? ⟨w.heap.size + 1, 3, none⟩ = some (.string q.act.i) := by rw [hV]; simp
  have r4 : V.cell? ⟨w.heap.size + 1, 4, none⟩ = some (.string q.what.t) := by rw [hV]; simp
  have r5 : V.cell? ⟨w.heap.size + 1, 5, none⟩ = some (.string q.what.i) := by rw [hV]; simp
  have r6 : V.cell? ⟨w.heap.size + 1, 6, none⟩ = some (.slice pq q.cx.length cq) := by rw [hV]; simp
  have HR : Hid (∀ W, Below V.heap.size V W → W.cell? ⟨w.heap.size, 1, none⟩ = some (.slice pa s.acs.length ca) ∧ W.cell? ⟨w.heap.size + 1, 0, none⟩ = some (.string q.who.t) ∧ W.cell? ⟨w.heap.size + 1, 1, none⟩ = some (.string q.who.i) ∧ W.cell? ⟨w.heap.size + 1, 2, none⟩ = some (.string q.act.t) ∧ W.cell? ⟨w.heap.size + 1, 3, none⟩ = some (.string q.act.i) ∧ W.cell? ⟨w.heap.size + 1, 4, none⟩ = some (.string q.what.t) ∧ W.cell? ⟨w.heap.size + 1, 5, none⟩ = some (.string q.what.i) ∧ W.cell? ⟨w.heap.size + 1, 6, none⟩ = some (.slice pq q.cx.length cq)) := fun W hW => by
    have k : ∀ o, W.cell? ⟨w.heap.size + 1, o, none⟩ = V.cell? ⟨w.heap.size + 1, o, none⟩ := fun o => hW.cell (p := ⟨w.heap.size + 1, o, none⟩) (by show w.heap.size + 1 < _; omega)
    exact ⟨(hW.cell (p := ⟨w.heap.size, 1, none⟩) (by show w.heap.size < _; omega)).trans v1, (k 0).trans r0, (k 1).trans r1, (k 2).trans r2, (k 3).trans r3, (k 4).trans r4, (k 5).trans r5, (k 6).trans r6⟩
  have HSA : Hid (SA V s pk ck pa ca) := h.up hbV
  have HQA : Hid (RqArg V q pq cq) := ⟨hq.u0, hq.u1, hq.u2, hq.nl.up hbV, hq.le, hq.cm⟩
  have HC := scheck_any s pk pa ck ca V HSA.out
  have HN := fun W (hW : Below V.heap.size V W) => ask_any q pq cq W ⟨HQA.out.u0, HQA.out.u1, HQA.out.u2, HQA.out.nl.up hW, HQA.out.le, HQA.out.cm⟩
  unfold scV reqV at *
  clear h hq r0 r1 r2 r3 r4 r5 r6 v1
  by_cases h0 : scf s = 0
  · rw [eV_nil h0] at HC
    have h8 : s.acs.length ≤ 8 := by
      rcases scf_ways s with ⟨_, e⟩ | ⟨_, hk, _⟩
      · omega
      · exact hk
    by_cases h1 : askf q = 0
    · rw [eV_nil h1] at HN
      have HO := fun W (hW : Below V.heap.size V W) => actOf_any s.acs pa ca q.act W (HSA.out.asl.up hW) h8
      cases hk : aof s.acs q.act with
      | none =>
        have HE : Hid (eV (asks s q) = .iface 23 (.int .i64 3)) := by show _ = _; rw [asks_none h0 h1 hk]; rfl
        rw [hk] at HO
        clear hk h0 h1
        unfold AofRet at HO
        go_enter Tryz.func18, Tryz.ntmps18
        go_wp2_with fail
        rw [← hV]
        clear hV
        refine HC.mono ?_
        rintro _ w1 ⟨rfl, hb1⟩
        obtain ⟨z1, y0, y1, y2, y3, y4, y5, y6⟩ := HR.out _ hb1
        go_wp2_with fail
        refine (HN _ hb1).mono ?_
        rintro _ w2 ⟨rfl, hb2'⟩
        have hb2 := kqt hb1 hb2'
        clear hb1 hb2' z1 y0 y1 y2 y3 y4 y5 y6
        obtain ⟨z1, y0, y1, y2, y3, y4, y5, y6⟩ := HR.out _ hb2
        go_wp2_with fail
        refine (HO _ hb2).mono ?_
        rintro _ w3 ⟨rfl, hb3⟩
        go_wp2
        go_ret
        exact ⟨by rw [HE.out]; rfl, kqt hbV (kqt (kqt hb2 hb3) kqx)⟩
      | some a =>
        have HS : Hid (asks s q = if hasT q.who.t a.who && hasT q.what.t a.what then wtf a.cx q.cx else 2) := asks_some h0 h1 hk
        rw [hk] at HO
        clear hk h0 h1
        unfold AofRet at HO
        go_enter Tryz.func18, Tryz.ntmps18
        go_wp2_with fail
        rw [← hV]
        clear hV
        refine HC.mono ?_
        rintro _ w1 ⟨rfl, hb1⟩
        obtain ⟨z1, y0, y1, y2, y3, y4, y5, y6⟩ := HR.out _ hb1
        go_wp2_with fail
        refine (HN _ hb1).mono ?_
        rintro _ w2 ⟨rfl, hb2'⟩
        have hb2 := kqt hb1 hb2'
        clear hb1 hb2' z1 y0 y1 y2 y3 y4 y5 y6
        obtain ⟨z1, y0, y1, y2, y3, y4, y5, y6⟩ := HR.out _ hb2
        go_wp2_with fail
        refine (HO _ hb2).mono ?_
        rintro _ w3 ⟨⟨p0, c0, p1, c1, pt, ct, rfl, hav⟩, hb3'⟩
        have hb3 := kqt hb2 hb3'
        clear hb2 hb3' z1 y0 y1 y2 y3 y4 y5 y6 HN HO HC
        obtain ⟨W, hW⟩ : ∃ W, W = w3.alloc (.cells #[.string a.id, .slice p0 a.who.length c0, .slice p1 a.what.length c1, .slice pt a.cx.length ct] 92) := ⟨_, rfl⟩
        have hbW : Below w3.heap.size w3 W := by rw [hW]; exact kqx
        have hb4 := kqt hb3 hbW
        obtain ⟨z1, y0, y1, y2, y3, y4, y5, y6⟩ := HR.out _ hb4
        have x1 : W.cell? ⟨w3.heap.size, 1, none⟩ = some (.slice p0 a.who.length c0) := by rw [hW]; simp
        have x2 : W.cell? ⟨w3.heap.size, 2, none⟩ = some (.slice p1 a.what.length c1) := by rw [hW]; simp
        have x3 : W.cell? ⟨w3.heap.size, 3, none⟩ = some (.slice pt a.cx.length ct) := by rw [hW]; simp
        have HAV : Hid (AcV W a p0 c0 p1 c1 pt ct) := hav.up hbW
        have HC1 := containsS_any q.who.t a.who p0 c0 W HAV.out.us
        have HC2 := containsS_any q.what.t a.what p1 c1 W HAV.out.vs
        have HW := wantType_any a.cx q.cx pt pq ct cq W HAV.out.ty ⟨HQA.out.nl.up hb4, HQA.out.le, HQA.out.cm⟩
        have hbf := kqt hbV hb4
        rw [hW] at y0
        clear hav HR
        cases h1 : hasT q.who.t a.who
        · rw [h1] at HC1
          have HE : Hid (eV (asks s q) = .iface 23 (.int .i64 2)) := by show _ = _; rw [HS.out, h1]; rfl
          clear h1 HS
          go_wp2_with fail
          rw [← hW]
          clear hW
          refine HC1.mono ?_
          rintro _ w5 ⟨rfl, rfl⟩
          go_wp2
          go_ret
          exact ⟨by rw [HE.out]; rfl, hbf⟩
        · rw [h1] at HC1
          cases h2 : hasT q.what.t a.what
          · rw [h2] at HC2
            have HE : Hid (eV (asks s q) = .iface 23 (.int .i64 2)) := by show _ = _; rw [HS.out, h1, h2]; rfl
            clear h1 h2 HS
            go_wp2_with fail
            rw [← hW]
            clear hW
            refine HC1.mono ?_
            rintro _ w5 ⟨rfl, rfl⟩
            go_wp2_with fail
            refine HC2.mono ?_
            rintro _ w5 ⟨rfl, rfl⟩
            go_wp2
            go_ret
            exact ⟨by rw [HE.out]; rfl, hbf⟩
          · rw [h2] at HC2
            have HE : Hid (eV (asks s q) = eV (wtf a.cx q.cx)) := by show _ = _; rw [HS.out, h1, h2]; rfl
            generalize eV (wtf a.cx q.cx) = r at HE HW
            clear h1 h2 HS
            go_wp2_with fail
            rw [← hW]
            clear hW
            refine HC1.mono ?_
            rintro _ w5 ⟨rfl, rfl⟩
            go_wp2_with fail
            refine HC2.mono ?_
            rintro _ w5 ⟨rfl, rfl⟩
            go_wp2_with fail
            refine HW.mono ?_
            rintro _ w6 ⟨rfl, hb6⟩
            go_wp2
            go_ret
            exact ⟨by rw [HE.out]; rfl, kqt hbf hb6⟩
    · rw [eV_not h1] at HN
      have HE : Hid (eV (asks s q) = .iface 23 (.int .i64 (askf q))) := by show _ = _; unfold asks; rw [orE_r h0, orE_l h1, eV_not h1]
      clear h0 h1
      generalize askf q = n at *
      go_enter Tryz.func18, Tryz.ntmps18
      go_wp2_with fail
      rw [← hV]
      clear hV
      refine HC.mono ?_
      rintro _ w1 ⟨rfl, hb1⟩
      obtain ⟨z1, y0, y1, y2, y3, y4, y5, y6⟩ := HR.out _ hb1
      go_wp2_with fail
      refine (HN _ hb1).mono ?_
      rintro _ w2 ⟨rfl, hb2⟩
      go_wp2
      go_ret
      exact ⟨by rw [HE.out]; rfl, kqt hbV (kqt hb1 hb2)⟩
  · rw [eV_not h0] at HC
    have HE : Hid (eV (asks s q) = .iface 23 (.int .i64 (scf s))) := by show _ = _; unfold asks; rw [orE_l h0, eV_not h0]
    clear h0
    generalize scf s = n at *
    go_enter Tryz.func18, Tryz.ntmps18
    go_wp2_with fail
    rw [← hV]
    clear hV
    refine HC.mono ?_
    rintro _ w1 ⟨rfl, hb1⟩
    go_wp2
    go_ret
    exact ⟨by rw [HE.out]; rfl, kqt hbV hb1⟩
end Go.Proofs.YtpcikfpldmackaaGreatDoor
namespace Go.Proofs.YtpcikfpldmackaaGreatDoor
open Go.RowKit Go.Maps Go.WideMaps
set_option linter.unusedVariables false
set_option linter.unusedSimpArgs false

def uA : Ui := ⟨⟨#[65]⟩, ⟨#[]⟩⟩
def ndR : Nd := ⟨6, 0, ⟨#[]⟩, ⟨#[]⟩⟩
def es1 : List En := [⟨uA, [], [ndR]⟩]
def sc0 : Sc := ⟨[], []⟩
theorem uA_ok : UOk uA := by unfold UOk maxLen; decide
theorem es1_ups (u : Ui) : upsOf es1 u = [] := by
  unfold upsOf es1
  rw [List.find?_singleton]
  split
  · rename_i h; split at h <;> simp at h; rw [← h]
  · rfl
theorem es1_acyc : ¬ Cyc es1 := by
  rintro ⟨e, he, h⟩
  obtain ⟨x, hx, _⟩ := Abv.steps.1 h
  rw [es1_ups] at hx
  cases hx
theorem es1_good : stf es1 = 0 := sfault_ok (by decide) (by decide) es1_acyc
theorem sc0_good : scf sc0 = 0 := by
  unfold scf sc0
  rw [orE_zero, orE_zero]
  exact ⟨rfl, rfl, rfl⟩
theorem fact_none : stof sc0 es1 = 3 := by
  unfold stof
  rw [orE_r sc0_good, orE_r es1_good]
  rfl
theorem sc0_sa (w : World) : SA w sc0 none 0 none 0 := ⟨.inl rfl, Nat.le_refl _, Nat.zero_le _, .inl rfl, Nat.le_refl _, Nat.zero_le _⟩
theorem es1_lies (v : World) (n : Nat) (hn : v.heap.size = n) : EL ((v.alloc (.cells #[.int .i64 6, .int .i64 0, .string ⟨#[]⟩, .string ⟨#[]⟩] 51)).alloc
      (.cells #[.string ⟨#[65]⟩, .string ⟨#[]⟩, .slice none 0 0, .slice (some ⟨n, 0, none⟩) 1 1] 54)) (some ⟨n + 1, 0, none⟩) es1 := by
  subst hn
  refine .inr ⟨_, _, rfl, by simp, fun i e he => ?_⟩
  cases i with
  | succ i => simp [es1] at he
  | zero =>
    simp only [es1, List.getElem?_cons_zero, Option.some.injEq] at he
    subst he
    refine ⟨none, 0, some ⟨v.heap.size, 0, none⟩, 1, ⟨_, _, _, _, rfl, .inl rfl, ?_, uA_ok, ?_, Nat.le_refl _, Nat.zero_le _, Nat.le_refl _, by unfold maxLen; decide⟩, ?_, ?_, ?_, ?_⟩
    · refine .inr ⟨_, _, rfl, by simp; omega, fun i e he => ?_⟩
      cases i with
      | succ i => simp at he
      | zero =>
        simp only [List.getElem?_cons_zero, Option.some.injEq] at he
        subst he
        refine ⟨?_, ?_, ?_, ?_, by simp [ndR, Nd.wf, maxLen]; exact Nat.zero_le _⟩ <;> (rw [cell_old (by simp), cell_new rfl]; rfl)
    · intro x hx
      cases hx
    · rw [cell_new (by simp)]; rfl
    · rw [cell_new (by simp)]; rfl
    · rw [cell_new (by simp)]; rfl
    · rw [cell_new (by simp)]; rfl
end Go.Proofs.YtpcikfpldmackaaGreatDoor
namespace Go.Proofs.YtpcikfpldmackaaGreatDoor
set_option linter.unusedVariables false

def addU (M : List Ui) (y : Ui) : List Ui := if y ∈ M then M else M ++ [y]
theorem addU_in {M : List Ui} {y : Ui} (h : y ∈ M) : addU M y = M := if_pos h
theorem addU_new {M : List Ui} {y : Ui} (h : y ∉ M) : addU M y = M ++ [y] := if_neg h
theorem addU_mem (M : List Ui) (y : Ui) : y ∈ addU M y := by
  unfold addU
  by_cases h : y ∈ M
  · rw [if_pos h]; exact h
  · rw [if_neg h]; simp
theorem addU_sub {M : List Ui} {y v : Ui} (h : v ∈ M) : v ∈ addU M y := by
  unfold addU
  by_cases k : y ∈ M
  · rw [if_pos k]; exact h
  · rw [if_neg k]; simp [h]
theorem addU_at {M : List Ui} {u y x : Ui} {j : Nat} (h : (u :: M)[j]? = some x) : (u :: addU M y)[j]? = some x := by
  unfold addU
  by_cases k : y ∈ M
  · rw [if_pos k]; exact h
  · rw [if_neg k, ← List.cons_append, List.getElem?_append_left (List.getElem?_eq_some_iff.1 h).1]; exact h

/-- On the way: of the first i all those right above have come. -/
structure UpsI (es : List En) (u : Ui) (s i : Nat) (M : List Ui) : Prop where
  nodup : M.Nodup
  abv : ∀ v ∈ M, Abv es u v
  steps : ∀ v, AbvN es s u v → v ∈ M
  done : ∀ (j : Nat) (x : Ui), j < i → (u :: M)[j]? = some x → ∀ y ∈ upsOf es x, y ∈ M
  cnt : M.length + toCome (allUps es) M ≤ (allUps es).length
theorem UpsI.start (es : List En) (u : Ui) : UpsI es u 0 0 [] :=
  ⟨List.nodup_nil, fun v h => by (cases h), fun v h => h.elim, fun j x h => absurd h (Nat.not_lt_zero _), by simpa using toCome_len _ _⟩
theorem UpsI.add {es : List En} {u : Ui} {s i : Nat} {M : List Ui} (h : UpsI es u s i M) {x y : Ui} (hi : (u :: M)[i]? = some x) (hy : y ∈ upsOf es x) : UpsI es u s i (addU M y) := by
  by_cases k : y ∈ M
  · rw [addU_in k]; exact h
  · have hil := (List.getElem?_eq_some_iff.1 hi).1
    have hab : Abv es u y := by
      rcases List.mem_cons.1 (List.mem_of_getElem? hi) with rfl | hx
      · exact .one hy
      · exact (h.abv x hx).trans (.one hy)
    rw [addU_new k]
    refine ⟨?_, fun v hv => ?_, fun v hv => by simp [h.steps v hv], fun j z hj hz w hw => ?_, ?_⟩
    · rw [List.nodup_append]
      exact ⟨h.nodup, by simp, fun a ha b hb e => by rw [List.mem_singleton.1 hb] at e; rw [e] at ha; exact k ha⟩
    · rcases List.mem_append.1 hv with hv | hv
      · exact h.abv v hv
      · rw [List.mem_singleton.1 hv]; exact hab
    · have hz' : (u :: M)[j]? = some z := by
        rw [← List.cons_append, List.getElem?_append_left (by omega)] at hz; exact hz
      exact List.mem_append_left _ (h.done j z hj hz' w hw)
    · have := toCome_lt (allUps_mem hy) k
      have := h.cnt
      rw [List.length_append, List.length_singleton]
      omega
theorem UpsI.next {es : List En} {u : Ui} {s i : Nat} {M : List Ui} (h : UpsI es u s i M) {x : Ui} (hi : (u :: M)[i]? = some x) (hd : ∀ y ∈ upsOf es x, y ∈ M) : UpsI es u s (i + 1) M := by
  refine ⟨h.nodup, h.abv, h.steps, fun j z hj hz y hy => ?_, h.cnt⟩
  rcases Nat.lt_or_ge j i with hlt | hge
  · exact h.done j z hlt hz y hy
  · obtain rfl : j = i := by omega
    rw [hi] at hz
    cases hz
    exact hd y hy
theorem UpsI.level {es : List En} {u : Ui} {s : Nat} {M0 M : List Ui} (h : UpsI es u s (M0.length + 1) M) (hp : ∀ (j : Nat) (x : Ui), (u :: M0)[j]? = some x → (u :: M)[j]? = some x) (h0 : ∀ v, AbvN es s u v → v ∈ M0) : UpsI es u (s + 1) (M0.length + 1) M := by
  refine ⟨h.nodup, h.abv, fun v hv => ?_, h.done, h.cnt⟩
  obtain ⟨x, hx, hv⟩ := hv
  have hm : x ∈ u :: M0 := by
    rcases hx with rfl | hx
    · simp
    · simp [h0 x hx]
  obtain ⟨j, hj⟩ := List.getElem?_of_mem hm
  have hl := (List.getElem?_eq_some_iff.1 hj).1
  exact h.done j x (by simpa using hl) (hp j x hj) v hv
theorem UpsI.all {es : List En} {u : Ui} {i : Nat} {M : List Ui} (h : UpsI es u es.length i M) (v : Ui) : v ∈ M ↔ Abv es u v :=
  ⟨h.abv v, fun hv => h.steps v ((abv_iff es u v).1 hv)⟩
theorem UpsI.small {es : List En} {u : Ui} {s i : Nat} {M : List Ui} (h : UpsI es u s i M) (hf : Few es) : M.length ≤ 96 := by
  have h1 := h.cnt
  have h2 := allUps_len es hf.ups
  have h3 := hf.few
  omega
theorem uid_cases (x y : Ui) : x = y ∨ (x ≠ y ∧ ¬ x.t.toList = y.t.toList) ∨ (x ≠ y ∧ ∃ i, x = ⟨y.t, i⟩ ∧ ¬ i.toList = y.i.toList) := by
  by_cases h : x = y
  · exact .inl h
  · by_cases ht : x.t = y.t
    · refine .inr (.inr ⟨h, x.i, Ui.ext' ht rfl, fun e => h (Ui.ext' ht (bytes_inj (by simpa only [ByteArray.toList_eq] using e)))⟩)
    · exact .inr (.inl ⟨h, fun e => ht (bytes_inj (by simpa only [ByteArray.toList_eq] using e))⟩)
end Go.Proofs.YtpcikfpldmackaaGreatDoor
namespace Go.Proofs.YtpcikfpldmackaaGreatDoor
open Go.RowKit Go.Maps Go.WideMaps
set_option linter.unusedVariables false
set_option linter.unusedSimpArgs false

theorem belD {B : Nat} {a w : World} (h : Below B a w) (n : Nat) : Below B a (w.drewN n) := ⟨h.os, h.tape, h.output, h.size, h.block⟩

set_option maxRecDepth 100000 in
set_option maxHeartbeats 2000000 in
theorem with_any (u y : Ui) (M : List Ui) (base : Nat) (v : Value) (w : World) (hown : OU w base v (u :: M)) (hb : base ≤ w.heap.size) (hl : M.length ≤ 1000) :
    Calls Tryz.prog 117 #[v, .agg #[.string y.t, .string y.i]] w fun e w' => ∃ v', e = .returned v' ∧ OU w' base v' (u :: addU M y) ∧ Below base w w' := by
  obtain ⟨q, c, rfl, hUL, hc1, hc2, hq⟩ := hown.slice
  have HO : Hid (OU w base _ _) := hown
  rcases hUL with hU | ⟨g, off, rfl, hg, hcells⟩
  · cases hU
  have HC : Hid (∀ _, _) := hcells
  have hlen : (u :: M).length = M.length + 1 := rfl
  rw [hlen] at hc1
  clear hcells hq hown
  rw [hlen] at HO ⊢
  go_enter Tryz.func117, Tryz.ntmps117
  go_wp2_with fail
  have hbx := (Below.refl w.heap.size w).alloc (Nat.le_refl _) (.cells #[.string y.t, .string y.i] 41)
  go_loopw [5] (fun i wr => ∃ k : Nat, k ≤ M.length ∧ i = .int .i64 (k + 1 : Nat) ∧ Hid (Below (w.alloc (.cells #[.string y.t, .string y.i] 41)).heap.size (w.alloc (.cells #[.string y.t, .string y.i] 41)) wr) ∧ Hid (y ∉ M.take k)) (fun i _ => M.length + 1 - (intOf i).toNat)
  case atStart => exact ⟨0, Nat.zero_le _, rfl, Below.refl _ _, by simp [Hid]⟩
  case round =>
    obtain ⟨k, hk, rfl, HB, HN⟩ := hrel
    have hbw : Below w.heap.size w wr := hbx.trans (HB.out.mono hbx.size)
    have y0 : wr.cell? ⟨w.heap.size, 0, none⟩ = some (.string y.t) := (HB.out.cell (p := ⟨w.heap.size, 0, none⟩) (by simp)).trans (by simp)
    have y1 : wr.cell? ⟨w.heap.size, 1, none⟩ = some (.string y.i) := (HB.out.cell (p := ⟨w.heap.size, 1, none⟩) (by simp)).trans (by simp)
    by_cases hlt : k < M.length
    · have i1 : (((k + 1 : Nat) : Int)) < ((M.length + 1 : Nat) : Int) := by omega
      obtain ⟨x0, x1⟩ := HC.out (k + 1) M[k] (by simp [hlt])
      have HD : Hid (M[k] ∈ M) := List.getElem_mem hlt
      have HT : Hid (M.take (k + 1) = M.take k ++ [M[k]]) := List.take_succ_eq_append_getElem hlt
      generalize M[k] = x at x0 x1 HD HT
      replace x0 : wr.cell? ⟨g, off + (k + 1) * 2, none⟩ = some (.string x.t) := (hbw.cell (p := ⟨g, off + (k + 1) * 2, none⟩) hg).trans x0
      replace x1 : wr.cell? ⟨g, off + (k + 1) * 2 + 1, none⟩ = some (.string x.i) := (hbw.cell (p := ⟨g, off + (k + 1) * 2 + 1, none⟩) hg).trans x1
      have HBW : Hid (Below w.heap.size w wr) := hbw
      clear hbw
      rcases uid_cases x y with rfl | ⟨hne, ht⟩ | ⟨hne, i, rfl, hi⟩
      · go_wp2_with fail
        go_quiet (fail)
        go_wp2_with fail
        go_ret
        exact ⟨_, rfl, by rw [addU_in HD.out]; exact HO.out.below (belD HBW.out _), (belD HBW.out _).mono hb⟩
      · have HN2 : Hid (y ∉ M.take (k + 1)) := by
          show _ ∉ _
          rw [HT.out]
          intro q
          rcases List.mem_append.1 q with q | q
          · exact HN.out q
          · exact hne (List.mem_singleton.1 q).symm
        clear hne
        go_wp2_with fail
        go_quiet (fail)
        go_wp2_with fail
        go_roundw
        case rel => exact ⟨k + 1, by omega, by go_num, belD HB.out _, HN2⟩
        case measure => simp [intOf]; omega
      · have HN2 : Hid (y ∉ M.take (k + 1)) := by
          show _ ∉ _
          rw [HT.out]
          intro q
          rcases List.mem_append.1 q with q | q
          · exact HN.out q
          · exact hne (List.mem_singleton.1 q).symm
        clear hne
        simp only at x0 x1
        go_wp2_with fail
        go_quiet (fail)
        go_wp2_with fail
        go_roundw
        case rel => exact ⟨k + 1, by omega, by go_num, belD HB.out _, HN2⟩
        case measure => simp [intOf]; omega
    · obtain rfl : k = M.length := by omega
      have i1 : ¬ (((M.length + 1 : Nat) : Int)) < ((M.length + 1 : Nat) : Int) := by omega
      have HN2 : Hid (y ∉ M) := by have h := HN.out; rw [List.take_length] at h; exact h
      have hOU : OU wr base _ _ := HO.out.below hbw
      have hbx2 := (Below.refl wr.heap.size wr).alloc (Nat.le_refl _) (.cells #[.string y.t, .string y.i] 41)
      have HBW : Hid (Below w.heap.size w wr) := hbw
      have hbz := hbw.size
      clear hbw
      go_wp2_with (at_builtin; refine append_uid _ rfl (.tmp 19) (.tmp 21) rfl base _ _ rfl (hOU.below hbx2) [y] 1 rfl wr.heap.size 0 1 (UL.one wr y) rfl (by simp; omega) (by simp; omega) ?_; intro v' w' h1 h2 h3)
      go_ret
      exact ⟨v', rfl, by rw [addU_new HN2.out]; exact h1, (HBW.out.mono hb).trans ((hbx2.mono (by omega)).trans h3)⟩

theorem UL.tail {w : World} {g off : Nat} {u : Ui} {M : List Ui} (h : UL w (some ⟨g, off, none⟩) (u :: M)) : UL w (some ⟨g, off + 2, none⟩) M := by
  rcases h with h | ⟨b, o, e, hb, hc⟩
  · cases h
  · simp at e
    obtain ⟨rfl, rfl⟩ := e
    refine .inr ⟨g, off + 2, rfl, hb, fun i x hx => ?_⟩
    have := hc (i + 1) x (by simpa using hx)
    rw [show off + (i + 1) * 2 = off + 2 + i * 2 by omega] at this
    exact this
theorem up_in {es : List En} (hq : Uniq es) {e : En} (he : e ∈ es) {y : Ui} (hy : y ∈ e.up) : y ∈ upsOf es e.u := by rw [upsOf_of_mem hq he]; exact hy
theorem ups_all {es : List En} {x : Ui} {M : List Ui} (h : ∀ (j : Nat) (e : En), j < es.length → es[j]? = some e → e.u = x → ∀ y ∈ e.up, y ∈ M) : ∀ y ∈ upsOf es x, y ∈ M := by
  intro y hy
  obtain ⟨e, he, h1, h2⟩ := upsOf_mem hy
  obtain ⟨j, hj⟩ := List.getElem?_of_mem he
  exact h j e (List.getElem?_eq_some_iff.1 hj).1 hj h1 y (by rw [h2]; exact hy)

set_option maxRecDepth 100000 in
set_option maxHeartbeats 8000000 in
theorem ups_any (es : List En) (p : Option Addr) (c : Nat) (u : Ui) (n : Nat) (w : World) (hl : EL w p es) (hf : Few es) (hn : n ≤ 16) :
    Calls Tryz.prog 103 #[.slice p es.length c, .agg #[.string u.t, .string u.i], .int .i64 n] w fun e w' => ∃ q c' M, e = .returned (.slice q M.length c') ∧ UL w' q M ∧ M.length ≤ c' ∧ c' ≤ maxLen ∧ (∃ i, UpsI es u n i M) ∧ Below w.heap.size w w' := by
  have HL : Hid (EL w p es) := hl
  have HF : Hid (Few es) := hf
  have he16 := hf.few
  clear hl hf
  have hbx := (Below.refl w.heap.size w).alloc (Nat.le_refl _) (.cells #[.string u.t, .string u.i] 41)
  have HBX : Hid (Below w.heap.size w _) := hbx.alloc (by simp) (.cells #[.string u.t, .string u.i] 41)
  clear hbx
  go_enter Tryz.func103, Tryz.ntmps103
  go_wp2_with fail
  go_loopw [7, 8, 9] (fun v f sv wr => ∃ (s frm : Nat) (M : List Ui), s ≤ n ∧ sv = .int .i64 s ∧ f = .int .i64 frm ∧ frm ≤ M.length + 1 ∧ Hid (OU wr w.heap.size v (u :: M)) ∧ Hid (UpsI es u s frm M) ∧ Hid (Below w.heap.size w wr)) (fun _ _ sv _ => n - (intOf sv).toNat)
  case atStart => exact ⟨0, 0, [], Nat.zero_le _, rfl, rfl, Nat.zero_le _, OU.two w u, UpsI.start es u, HBX⟩
  case round =>
    obtain ⟨s, frm, M, hs, rfl, rfl, hfr, HO, HI, HB⟩ := hrel
    by_cases hlt : s < n
    · have i1 : (s : Int) < (n : Int) := by omega
      obtain ⟨q, cq, rfl, hUL, hq1, hq2, hq3⟩ := HO.out.slice
      have hM := HI.out.small HF.out
      have hlen : (u :: M).length = M.length + 1 := rfl
      have hq3' : ∃ g, q = some ⟨g, 0, none⟩ ∧ w.heap.size ≤ g ∧ g < wr.heap.size := by
        rcases hq3 with ⟨h, _⟩ | h
        · cases h
        · exact h
      obtain ⟨g, rfl, hg1, hg2⟩ := hq3'
      rw [hlen] at HO hq1
      have H0 : Hid (∀ v, AbvN es s u v → v ∈ M) := HI.out.steps
      clear hUL hq3
      rw [hlen]
      go_wp2_with fail
      go_loopw [7, 11] (fun v iv wr => ∃ (i : Nat) (N : List Ui), i ≤ M.length + 1 ∧ iv = .int .i64 i ∧ Hid (OU wr w.heap.size v (u :: N)) ∧ Hid (UpsI es u s i N) ∧ Hid (∀ (j : Nat) (x : Ui), (u :: M)[j]? = some x → (u :: N)[j]? = some x) ∧ Hid (Below w.heap.size w wr)) (fun _ iv _ => M.length + 1 - (intOf iv).toNat)
      case atStart => exact ⟨frm, M, hfr, rfl, HO, HI, fun _ _ h => h, HB⟩
      case round =>
        obtain ⟨i, N, hi, rfl, HO, HI, HP, HB⟩ := hrel
        by_cases hlt2 : i < M.length + 1
        · have i2 : (i : Int) < (M.length : Int) + 1 := by omega
          have HX : Hid (∃ x, (u :: N)[i]? = some x) := ⟨_, HP.out i _ (List.getElem?_eq_getElem (by simpa using hlt2))⟩
          obtain ⟨x, hx⟩ := HX.out
          have HXA : Hid ((u :: N)[i]? = some x) := hx
          clear HX hx
          go_wp2_with fail
          go_loopw [7, 12] (fun v kv wr => ∃ (k : Nat) (N : List Ui), k ≤ es.length ∧ kv = .int .i64 k ∧ Hid (OU wr w.heap.size v (u :: N)) ∧ Hid (UpsI es u s i N) ∧ Hid (∀ (j : Nat) (x : Ui), (u :: M)[j]? = some x → (u :: N)[j]? = some x) ∧ Hid ((u :: N)[i]? = some x) ∧ Hid (∀ (j : Nat) (e : En), j < k → es[j]? = some e → e.u = x → ∀ y ∈ e.up, y ∈ N) ∧ Hid (Below w.heap.size w wr)) (fun _ kv _ => es.length - (intOf kv).toNat)
          case atStart => exact ⟨0, N, Nat.zero_le _, rfl, HO, HI, HP, HXA, fun j e h => absurd h (Nat.not_lt_zero _), HB⟩
          case round =>
            obtain ⟨k, N, hk, rfl, HO, HI, HP, HXA, HE, HB⟩ := hrel
            by_cases hlt3 : k < es.length
            · have i3 : (k : Int) < (es.length : Int) := by omega
              obtain ⟨b, off, pu, cu, pa, ca, rfl, hbl, _, hUL, _, _, _, hu1, hu2, _, _, g0, g1, g2, _⟩ := HL.out.at hlt3
              have HQ : Hid (∀ w', Below w.heap.size w w' → ∀ o, w'.cell? ⟨b, o, none⟩ = w.cell? ⟨b, o, none⟩) := fun w' k o => k.cell (p := ⟨b, o, none⟩) hbl
              have HME : Hid (es[k] ∈ es) := List.getElem_mem hlt3
              have HGE : Hid (es[k]? = some es[k]) := List.getElem?_eq_getElem hlt3
              replace hUL : Hid (UL _ _ _) := hUL
              unfold maxLen at hu2
              replace g0 : Hid (_ = _) := g0
              replace g1 : Hid (_ = _) := g1
              replace g2 : Hid (_ = _) := g2
              generalize es[k] = e at *
              have c0 := (HQ.out _ HB.out _).trans g0.out
              have c1 := (HQ.out _ HB.out _).trans g1.out
              obtain ⟨q, cq, rfl, hUO, hq1, hq2, hq3⟩ := HO.out.slice
              rcases hUO with hU | ⟨g, o2, rfl, hg, hcells⟩
              · cases hU
              obtain ⟨x0, x1⟩ := hcells i x HXA.out
              have hil : i < N.length + 1 := by have := (List.getElem?_eq_some_iff.1 HXA.out).1; simpa using this
              have hN := HI.out.small HF.out
              have hlenN : (u :: N).length = N.length + 1 := rfl
              rw [hlenN] at HO hq1
              have i4 : (i : Int) < (N.length : Int) + 1 := by omega
              clear hcells hq3
              rw [hlenN]
              rcases uid_cases e.u x with heq | ⟨hne, ht⟩ | ⟨hne, ii, heq, ht⟩
              · subst heq
                go_wp2_with fail
                go_quiet (fail)
                go_wp2_with fail
                go_loopw [7, 13] (fun v pv wr => ∃ (r : Nat) (N : List Ui), r ≤ e.up.length ∧ pv = .int .i64 r ∧ Hid (OU wr w.heap.size v (u :: N)) ∧ Hid (UpsI es u s i N) ∧ Hid (∀ (j : Nat) (x : Ui), (u :: M)[j]? = some x → (u :: N)[j]? = some x) ∧ Hid ((u :: N)[i]? = some e.u) ∧ Hid (∀ (j : Nat) (e' : En), j < k → es[j]? = some e' → e'.u = e.u → ∀ y ∈ e'.up, y ∈ N) ∧ Hid (∀ y ∈ e.up.take r, y ∈ N) ∧ Hid (Below w.heap.size w wr)) (fun _ pv _ => e.up.length - (intOf pv).toNat)
                case atStart => exact ⟨0, N, Nat.zero_le _, rfl, HO.out.below (belD (Below.refl _ _) _), HI, HP, HXA, HE, fun y hy => (by simp at hy), belD HB.out _⟩
                case round =>
                  obtain ⟨r, N, hr, rfl, HO, HI, HP, HXA, HE, HR, HB⟩ := hrel
                  have c2 := (HQ.out _ HB.out _).trans g2.out
                  by_cases hlt4 : r < e.up.length
                  · have i5 : (r : Int) < (e.up.length : Int) := by omega
                    obtain ⟨b2, o3, rfl, hb2, y0, y1⟩ := (hUL.out.up HB.out).at hlt4
                    have HY : Hid (e.up[r] ∈ upsOf es e.u) := up_in HF.out.uniq HME.out (List.getElem_mem hlt4)
                    have HT : Hid (∀ z ∈ e.up.take (r + 1), z ∈ e.up.take r ∨ z = e.up[r]) := fun z hz => take_mem hlt4 hz
                    generalize e.up[r] = y at y0 y1 HY HT
                    have hN := HI.out.small HF.out
                    go_wp2_with fail
                    refine (with_any u y N w.heap.size _ _ HO.out HB.out.size (by omega)).mono ?_
                    rintro er w1 ⟨v', rfl, hO1, hb1⟩
                    go_wp2_with fail
                    go_roundw
                    case rel =>
                      refine ⟨r + 1, addU N y, by omega, by go_num, hO1, HI.out.add HXA.out HY.out, fun j z hz => addU_at (HP.out j z hz), addU_at HXA.out, fun j e' hj he' hx' z hz => addU_sub (HE.out j e' hj he' hx' z hz), fun z hz => ?_, HB.out.trans hb1⟩
                      rcases HT.out z hz with h | rfl
                      · exact addU_sub (HR.out z h)
                      · exact addU_mem _ _
                    case measure => simp [intOf]; omega
                  · obtain rfl : r = e.up.length := by omega
                    have i5 : ¬ (e.up.length : Int) < (e.up.length : Int) := by omega
                    have HE2 : Hid (∀ (j : Nat) (e' : En), j < k + 1 → es[j]? = some e' → e'.u = e.u → ∀ y ∈ e'.up, y ∈ N) := by
                      intro j e' hj he' hx' z hz
                      rcases Nat.lt_or_ge j k with h | h
                      · exact HE.out j e' h he' hx' z hz
                      · obtain rfl : j = k := by omega
                        rw [HGE.out] at he'
                        cases he'
                        exact HR.out z (by rw [List.take_length]; exact hz)
                    go_wp2_with fail
                    go_roundw
                    case rel => exact ⟨k + 1, N, by omega, by go_num, HO, HI, HP, HXA, HE2, HB⟩
                    case measure => simp [intOf]; omega
              · have HE2 : Hid (∀ (j : Nat) (e : En), j < k + 1 → es[j]? = some e → e.u = x → ∀ y ∈ e.up, y ∈ N) := by
                  intro j e' hj he' hx'
                  rcases Nat.lt_or_ge j k with h | h
                  · exact HE.out j e' h he' hx'
                  · obtain rfl : j = k := by omega
                    rw [HGE.out] at he'
                    cases he'
                    exact absurd hx' hne
                clear hne
                go_wp2_with fail
                go_quiet (fail)
                go_wp2_with fail
                go_roundw
                case rel => exact ⟨k + 1, N, by omega, by go_num, HO.out.below (belD (Below.refl _ _) _), HI, HP, HXA, HE2, belD HB.out _⟩
                case measure => simp [intOf]; omega
              · have HE2 : Hid (∀ (j : Nat) (e : En), j < k + 1 → es[j]? = some e → e.u = x → ∀ y ∈ e.up, y ∈ N) := by
                  intro j e' hj he' hx'
                  rcases Nat.lt_or_ge j k with h | h
                  · exact HE.out j e' h he' hx'
                  · obtain rfl : j = k := by omega
                    rw [HGE.out] at he'
                    cases he'
                    exact absurd hx' hne
                rw [heq] at c0 c1
                simp only at c0 c1
                clear hne heq
                go_wp2_with fail
                go_quiet (fail)
                go_wp2_with fail
                go_roundw
                case rel => exact ⟨k + 1, N, by omega, by go_num, HO.out.below (belD (Below.refl _ _) _), HI, HP, HXA, HE2, belD HB.out _⟩
                case measure => simp [intOf]; omega
            · obtain rfl : k = es.length := by omega
              have i3 : ¬ (es.length : Int) < (es.length : Int) := by omega
              have HI2 : Hid (UpsI es u s (i + 1) N) := HI.out.next HXA.out (ups_all HE.out)
              go_wp2_with fail
              go_roundw
              case rel => exact ⟨i + 1, N, by omega, by go_num, HO, HI2, HP, HB⟩
              case measure => simp [intOf]; omega
        · obtain rfl : i = M.length + 1 := by omega
          have i2 : ¬ (M.length : Int) + 1 < (M.length : Int) + 1 := by omega
          have HI2 : Hid (UpsI es u (s + 1) (M.length + 1) N) := HI.out.level HP.out H0.out
          have hNl : M.length ≤ N.length := by
            have := (List.getElem?_eq_some_iff.1 (HP.out M.length _ (List.getElem?_eq_getElem (by simp)))).1
            simp at this; omega
          go_wp2_with fail
          go_roundw
          case rel => exact ⟨s + 1, M.length + 1, N, by omega, by go_num, rfl, by omega, HO, HI2, HB⟩
          case measure => simp [intOf]; omega
    · obtain rfl : s = n := by omega
      have i1 : ¬ (s : Int) < (s : Int) := by omega
      obtain ⟨q, cq, rfl, hUL, hq1, hq2, hq3⟩ := HO.out.slice
      have hM := HI.out.small HF.out
      have hlen : (u :: M).length = M.length + 1 := rfl
      have hq3' : ∃ g, q = some ⟨g, 0, none⟩ ∧ w.heap.size ≤ g ∧ g < wr.heap.size := by
        rcases hq3 with ⟨h, _⟩ | h
        · cases h
        · exact h
      obtain ⟨g, rfl, hg1, hg2⟩ := hq3'
      rw [hlen] at HO hq1
      have HUL : Hid (UL _ _ _) := hUL.tail
      unfold maxLen at hq2
      clear hUL hq3
      rw [hlen]
      have j1 : ¬ (M.length : Int) + 1 < 1 := by omega
      have j2 : ¬ (cq : Int) < (M.length : Int) + 1 := by omega
      by_cases hcq : cq = 1
      · obtain rfl : M = [] := List.eq_nil_of_length_eq_zero (by omega)
        subst hcq
        go_wp2_with fail
        go_ret
        exact ⟨_, 0, [], rfl, .inl rfl, Nat.zero_le _, Nat.zero_le _, ⟨_, HI.out⟩, HB.out⟩
      · have j3 : ¬ (cq : Int) = 1 := by omega
        have j4 : ¬ cq - 1 = 0 := by omega
        go_wp2_with fail
        all_goals first
          | (go_ret; exact ⟨some ⟨g, 2, none⟩, cq - 1, M, rfl, by simpa using HUL.out, by omega, by unfold maxLen; omega, ⟨_, HI.out⟩, HB.out⟩)
          | (exfalso; omega)

def OverTold (es : List En) (u y : Ui) (e : Ending) : Prop := ∃ r, e = .returned (.bool r) ∧ (r = true ↔ Abv es u y)
set_option maxRecDepth 100000 in
set_option maxHeartbeats 2000000 in
theorem over_any (es : List En) (p : Option Addr) (c : Nat) (u y : Ui) (w : World) (hl : EL w p es) (hf : Few es) :
    Calls Tryz.prog 80 #[.slice p es.length c, .agg #[.string u.t, .string u.i], .agg #[.string y.t, .string y.i], .int .i64 es.length] w fun e w' => OverTold es u y e ∧ Below w.heap.size w w' := by
  have he16 := hf.few
  have hbx : Below w.heap.size w ((w.alloc (.cells #[.string u.t, .string u.i] 41)).alloc (.cells #[.string y.t, .string y.i] 41)) := ((Below.refl _ _).alloc (Nat.le_refl _) _).alloc (by simp) _
  have HL : Hid (EL _ p es) := hl.up hbx
  have HF : Hid (Few es) := hf
  clear hl hf
  go_enter Tryz.func80, Tryz.ntmps80
  go_wp2_with fail
  refine (ups_any es p c u es.length _ HL.out HF.out he16).mono ?_
  rintro e w1 ⟨q, c', M, rfl, hUL, hc1, hc2, ⟨i, hI⟩, hb1⟩
  have hM := hI.small HF.out
  have HA : Hid (∀ v, v ∈ M ↔ Abv es u v) := hI.all
  have HU : Hid (UL w1 q M) := hUL
  have y0 : w1.cell? ⟨w.heap.size + 1, 0, none⟩ = some (.string y.t) := (hb1.cell (p := ⟨w.heap.size + 1, 0, none⟩) (by simp)).trans (by simp)
  have y1 : w1.cell? ⟨w.heap.size + 1, 1, none⟩ = some (.string y.i) := (hb1.cell (p := ⟨w.heap.size + 1, 1, none⟩) (by simp)).trans (by simp)
  have HB1 : Hid (Below w.heap.size w w1) := hbx.trans (hb1.mono hbx.size)
  clear hI hUL hb1
  go_wp2_with fail
  go_loopw [10] (fun iv wr => ∃ k n : Nat, k ≤ M.length ∧ iv = .int .i64 k ∧ wr = w1.drewN n ∧ Hid (y ∉ M.take k)) (fun iv _ => M.length - (intOf iv).toNat)
  case atStart => exact ⟨0, 0, Nat.zero_le _, rfl, rfl, by simp [Hid]⟩
  case round =>
    obtain ⟨k, n, hk, rfl, rfl, HN⟩ := hrel
    by_cases hlt : k < M.length
    · have i1 : (k : Int) < (M.length : Int) := by omega
      obtain ⟨b, off, rfl, hbl, x0, x1⟩ := HU.out.at hlt
      have HD : Hid (M[k] ∈ M) := List.getElem_mem hlt
      have HT : Hid (M.take (k + 1) = M.take k ++ [M[k]]) := List.take_succ_eq_append_getElem hlt
      generalize M[k] = x at x0 x1 HD HT
      rcases uid_cases x y with rfl | ⟨hne, ht⟩ | ⟨hne, ii, rfl, ht⟩
      · go_wp2_with fail
        go_quiet (fail)
        go_wp2_with fail
        go_ret
        exact ⟨⟨true, rfl, ⟨fun _ => (HA.out x).1 HD.out, fun _ => rfl⟩⟩, belD (belD HB1.out _) _⟩
      · have HN2 : Hid (y ∉ M.take (k + 1)) := by
          show _ ∉ _
          rw [HT.out]
          intro q
          rcases List.mem_append.1 q with q | q
          · exact HN.out q
          · exact hne (List.mem_singleton.1 q).symm
        clear hne
        go_wp2_with fail
        go_quiet (fail)
        go_wp2_with fail
        go_roundw
        case rel => exact ⟨k + 1, _, by omega, by go_num, rfl, HN2⟩
        case measure => simp [intOf]; omega
      · have HN2 : Hid (y ∉ M.take (k + 1)) := by
          show _ ∉ _
          rw [HT.out]
          intro q
          rcases List.mem_append.1 q with q | q
          · exact HN.out q
          · exact hne (List.mem_singleton.1 q).symm
        clear hne
        simp only at x0 x1
        go_wp2_with fail
        go_quiet (fail)
        go_wp2_with fail
        go_roundw
        case rel => exact ⟨k + 1, _, by omega, by go_num, rfl, HN2⟩
        case measure => simp [intOf]; omega
    · obtain rfl : k = M.length := by omega
      have i1 : ¬ (M.length : Int) < (M.length : Int) := by omega
      have HN2 : Hid (y ∉ M) := by have h := HN.out; rw [List.take_length] at h; exact h
      go_wp2_with fail
      go_ret
      exact ⟨⟨false, rfl, ⟨fun h => (by cases h), fun h => absurd ((HA.out y).2 h) HN2.out⟩⟩, belD HB1.out _⟩

end Go.Proofs.YtpcikfpldmackaaGreatDoor
namespace Go.Proofs.YtpcikfpldmackaaGreatDoor
open Go.RowKit Go.Maps Go.WideMaps
set_option linter.unusedVariables false
set_option linter.unusedSimpArgs false

theorem uidF_any (u : Ui) (w : World) (h : UOk u) : Calls Tryz.prog 78 #[.agg #[.string u.t, .string u.i]] w fun e w' => e = .returned (.int .i64 (uf u)) ∧ Below w.heap.size w w' := uidFault_any u.t u.i w h.1 h.2

theorem upf_bad {seen : List Ui} {x : Ui} {r : List Ui} (h : uf x ≠ 0) : upf seen (x :: r) = uf x := by unfold upf; rw [if_neg h]
theorem upf_twice {seen : List Ui} {x : Ui} {r : List Ui} (h : uf x = 0) (k : x ∈ seen) : upf seen (x :: r) = 6 := by unfold upf; rw [if_pos h, if_pos k]
theorem upf_next {seen : List Ui} {x : Ui} {r : List Ui} (h : uf x = 0) (k : x ∉ seen) : upf seen (x :: r) = upf (seen ++ [x]) r := by conv => lhs; unfold upf; rw [if_pos h, if_neg k]

set_option maxRecDepth 100000 in
set_option maxHeartbeats 8000000 in
theorem entityFault_any (e : En) (pu : Option Addr) (cu : Nat) (pa : Option Addr) (ca : Nat) (w : World) (hUL : UL w pu e.up) (hNL : NL w pa e.nd) (hou : ∀ x ∈ e.up, UOk x) (hn1 : e.nd.length ≤ ca) (hn2 : ca ≤ maxLen) :
    Calls Tryz.prog 79 #[.agg #[.string e.u.t, .string e.u.i, .slice pu e.up.length cu, .slice pa e.nd.length ca]] w fun er w' => er = .returned (.int .i64 (efault e)) ∧ Below w.heap.size w w' := by
  have hbx := (Below.refl w.heap.size w).alloc (Nat.le_refl _) (.cells #[.string e.u.t, .string e.u.i, .slice pu e.up.length cu, .slice pa e.nd.length ca] 54)
  have hq : ∀ w', Below (w.alloc (.cells #[.string e.u.t, .string e.u.i, .slice pu e.up.length cu, .slice pa e.nd.length ca] 54)).heap.size (w.alloc (.cells #[.string e.u.t, .string e.u.i, .slice pu e.up.length cu, .slice pa e.nd.length ca] 54)) w' → w'.cell? ⟨w.heap.size, 2, none⟩ = some (.slice pu e.up.length cu) ∧ w'.cell? ⟨w.heap.size, 3, none⟩ = some (.slice pa e.nd.length ca) ∧ Below w.heap.size w w' := fun w' k =>
    ⟨(k.cell (p := ⟨w.heap.size, 2, none⟩) (by simp)).trans (by simp), (k.cell (p := ⟨w.heap.size, 3, none⟩) (by simp)).trans (by simp), hbx.trans (k.mono hbx.size)⟩
  have HQ : Hid (∀ _, _) := hq
  have HBX : Hid (Below w.heap.size w _) := hbx
  clear hq hbx
  by_cases h6 : 6 < e.up.length
  · have h' : (6 : Int) < (e.up.length : Int) := by omega
    have HE : Hid (efault e = 4) := by
      show _ = _
      have : ffup e.up = 4 := if_pos h6
      unfold efault; rw [this]; rfl
    go_enter Tryz.func79, Tryz.ntmps79
    go_wp2_with fail
    go_ret
    exact ⟨by rw [HE.out]; rfl, HBX.out⟩
  · have h' : ¬ (6 : Int) < (e.up.length : Int) := by omega
    have HU : Hid (UL w pu e.up) := hUL
    have HN : Hid (NL w pa e.nd) := hNL
    have HO : Hid (∀ x ∈ e.up, UOk x) := hou
    have HF : Hid (ffup e.up = upf [] e.up) := if_neg h6
    have HE : Hid (efault e = if ffup e.up = 0 then afault e.nd else ffup e.up) := rfl
    clear hUL hNL hou
    generalize hl : e.up = l at *
    generalize hv : e.nd = v at *
    clear hl hv
    generalize hZ : upf [] l = Z at HF
    have HZ : Hid (upf (l.take 0) (l.drop 0) = Z) := hZ
    clear hZ
    go_enter Tryz.func79, Tryz.ntmps79
    go_wp2_with fail
    go_loopw [3] (fun iv wr => ∃ i : Nat, i ≤ l.length ∧ iv = .int .i64 i ∧ Hid (upf (l.take i) (l.drop i) = Z) ∧ Hid (Below (w.alloc (.cells #[.string e.u.t, .string e.u.i, .slice pu l.length cu, .slice pa v.length ca] 54)).heap.size (w.alloc (.cells #[.string e.u.t, .string e.u.i, .slice pu l.length cu, .slice pa v.length ca] 54)) wr)) (fun iv _ => l.length - (intOf iv).toNat)
    case atStart => exact ⟨0, Nat.zero_le _, rfl, HZ, Below.refl _ _⟩
    case round =>
      obtain ⟨i, hi, rfl, HR, HB⟩ := hrel
      obtain ⟨e2, e3, hbw⟩ := HQ.out _ HB.out
      by_cases hlt : i < l.length
      · have i1 : (i : Int) < (l.length : Int) := by omega
        obtain ⟨b, off, rfl, hbl, g0, g1⟩ := HU.out.at hlt
        have HG : Hid (∀ w', Below w.heap.size w w' → w'.cell? ⟨b, off + i * 2, none⟩ = some (.string l[i].t) ∧ w'.cell? ⟨b, off + i * 2 + 1, none⟩ = some (.string l[i].i)) := fun w' k => ⟨(k.cell (p := ⟨b, off + i * 2, none⟩) hbl).trans g0, (k.cell (p := ⟨b, off + i * 2 + 1, none⟩) hbl).trans g1⟩
        obtain ⟨x0, x1⟩ := HG.out _ hbw
        have hox := HO.out _ (List.getElem_mem hlt)
        have HD : Hid (l.drop i = l[i] :: l.drop (i + 1)) := List.drop_eq_getElem_cons hlt
        have HT : Hid (l.take (i + 1) = l.take i ++ [l[i]]) := List.take_succ_eq_append_getElem hlt
        generalize l[i] = x at *
        clear hbw g0 g1
        by_cases h0 : uf x = 0
        · have HX0 : Hid (uf x = 0) := h0
          have h0' : (uf x != 0) = false := by simp [h0]
          clear h0
          go_wp2_with fail
          refine (uidF_any x _ hox).mono ?_
          rintro er w1 ⟨rfl, hb1⟩
          replace HB : Hid (Below _ _ w1) := HB.out.trans (hb1.mono HB.out.size)
          clear hb1 e2 e3 x0 x1
          rw [HX0.out]
          go_wp2_with fail
          go_loopw [5] (fun jv wr => ∃ j : Nat, j ≤ i ∧ jv = .int .i64 j ∧ Hid (x ∉ l.take j) ∧ Hid (Below (w.alloc (.cells #[.string e.u.t, .string e.u.i, .slice (some ⟨b, off, none⟩) l.length cu, .slice pa v.length ca] 54)).heap.size (w.alloc (.cells #[.string e.u.t, .string e.u.i, .slice (some ⟨b, off, none⟩) l.length cu, .slice pa v.length ca] 54)) wr)) (fun jv _ => i - (intOf jv).toNat)
          case atStart => exact ⟨0, Nat.zero_le _, rfl, by simp [Hid], HB⟩
          case round =>
            obtain ⟨j, hj, rfl, HNI, HB⟩ := hrel
            obtain ⟨e2, e3, hbw⟩ := HQ.out _ HB.out
            by_cases hlt2 : j < i
            · have i2 : (j : Int) < (i : Int) := by omega
              have i3 : (j : Int) < (l.length : Int) := by omega
              obtain ⟨x0, x1⟩ := HG.out _ hbw
              obtain ⟨b', off', hpe, hbl', y0, y1⟩ := (HU.out.up hbw).at (show j < l.length by omega)
              simp at hpe
              obtain ⟨rfl, rfl⟩ := hpe
              have HM : Hid (l[j] ∈ l.take i) := List.mem_take_iff_getElem.2 ⟨j, by omega, rfl⟩
              have HT2 : Hid (l.take (j + 1) = l.take j ++ [l[j]]) := List.take_succ_eq_append_getElem (by omega)
              generalize l[j]'(by omega) = y at *
              clear hbw
              rcases uid_cases y x with rfl | ⟨hne, ht⟩ | ⟨hne, ii, rfl, ht⟩
              · have HRZ : Hid (6 = Z) := by
                  have h := HR.out
                  rw [HD.out, upf_twice HX0.out HM.out] at h
                  exact h
                go_wp2_with fail
                go_quiet (fail)
                go_wp2_with fail
                go_ret
                refine ⟨by rw [HE.out, HF.out, ← HRZ.out]; rfl, (HQ.out _ (belD HB.out _)).2.2⟩
              · have HN2 : Hid (x ∉ l.take (j + 1)) := by
                  show _ ∉ _
                  rw [HT2.out]
                  intro q
                  rcases List.mem_append.1 q with q | q
                  · exact HNI.out q
                  · exact hne (List.mem_singleton.1 q).symm
                clear hne
                go_wp2_with fail
                go_quiet (fail)
                go_wp2_with fail
                go_roundw
                case rel => exact ⟨j + 1, by omega, by go_num, HN2, belD HB.out _⟩
                case measure => simp [intOf]; omega
              · have HN2 : Hid (x ∉ l.take (j + 1)) := by
                  show _ ∉ _
                  rw [HT2.out]
                  intro q
                  rcases List.mem_append.1 q with q | q
                  · exact HNI.out q
                  · exact hne (List.mem_singleton.1 q).symm
                clear hne
                simp only at y0 y1
                go_wp2_with fail
                go_quiet (fail)
                go_wp2_with fail
                go_roundw
                case rel => exact ⟨j + 1, by omega, by go_num, HN2, belD HB.out _⟩
                case measure => simp [intOf]; omega
            · obtain rfl : j = i := by omega
              have i2 : ¬ (j : Int) < (j : Int) := by omega
              have HRZ : Hid (upf (l.take (j + 1)) (l.drop (j + 1)) = Z) := by
                have h := HR.out
                rw [HD.out, upf_next HX0.out HNI.out] at h
                show _ = _
                rw [HT.out]
                exact h
              clear hbw
              go_wp2_with fail
              go_roundw
              case rel => exact ⟨j + 1, by omega, by go_num, HRZ, HB⟩
              case measure => simp [intOf]; omega
        · have HX0 : Hid (uf x ≠ 0) := h0
          have h0' : (uf x != 0) = true := by simp [h0]
          have HRZ : Hid (uf x = Z) := by
            have h := HR.out
            rw [HD.out, upf_bad h0] at h
            exact h
          clear h0
          go_wp2_with fail
          refine (uidF_any x _ hox).mono ?_
          rintro er w1 ⟨rfl, hb1⟩
          replace HB : Hid (Below _ _ w1) := HB.out.trans (hb1.mono HB.out.size)
          go_wp2_with fail
          go_ret
          refine ⟨?_, (HQ.out _ HB.out).2.2⟩
          rw [HE.out, HF.out, if_neg (by rw [← HRZ.out]; exact HX0.out), ← HRZ.out]
          rfl
      · obtain rfl : i = l.length := by omega
        have i1 : ¬ (l.length : Int) < (l.length : Int) := by omega
        have HZ0 : Hid (Z = 0) := by have h := HR.out; rw [List.drop_length] at h; exact h.symm
        have HE2 : Hid (efault e = afault v) := by show _ = _; rw [HE.out, HF.out, if_pos HZ0.out]
        have HBW : Hid (Below w.heap.size w _) := hbw
        clear hbw
        by_cases hv0 : vfault v = 0
        · cases v with
          | nil => exact absurd hv0 vfault_nil
          | cons y r =>
            have hv0' : (vfault (y :: r) == 0) = true := by simp [hv0]
            have HV0 : Hid (vfault (y :: r) = 0) := hv0
            have hl1 : (0 : Int) < ((r.length + 1 : Nat) : Int) := by omega
            obtain ⟨b, off, rfl, hbl, c0, _⟩ := HN.out.at (i := 0) (by simp)
            have HC : Hid (∀ w', Below w.heap.size w w' → w'.cell? ⟨b, off, none⟩ = some (.int .i64 y.op)) := fun w' k => (k.cell (p := ⟨b, off, none⟩) hbl).trans (by simpa using c0)
            have HA : Hid (afault (y :: r) = if y.op = 6 then 0 else 2) := by show _ = _; unfold afault; rw [if_pos hv0]
            clear hv0 c0 hv0'
            by_cases hy6 : y.op = 6
            · have hy6' : (y.op != 6) = false := by simp [hy6]
              have HA2 : Hid (efault e = 0) := by show _ = _; rw [HE2.out, HA.out, if_pos hy6]
              clear hy6
              go_wp2_with fail
              refine (valueFault_any (y :: r) _ ca _ (HN.out.up HBW.out) hn1 hn2).mono ?_
              rintro er w1 ⟨rfl, hb1⟩
              replace HB : Hid (Below _ _ w1) := HB.out.trans (hb1.mono HB.out.size)
              obtain ⟨f2, f3, hbw1⟩ := HQ.out _ HB.out
              have hc0 := HC.out _ hbw1
              have HBW1 : Hid (Below w.heap.size w w1) := hbw1
              clear hb1 hbw1 e2 e3
              rw [HV0.out]
              go_wp2_with fail
              go_ret
              exact ⟨by rw [HA2.out]; rfl, HBW1.out⟩
            · have hy6' : (y.op != 6) = true := by simp [hy6]
              have HA2 : Hid (efault e = 2) := by show _ = _; rw [HE2.out, HA.out, if_neg hy6]
              clear hy6
              go_wp2_with fail
              refine (valueFault_any (y :: r) _ ca _ (HN.out.up HBW.out) hn1 hn2).mono ?_
              rintro er w1 ⟨rfl, hb1⟩
              replace HB : Hid (Below _ _ w1) := HB.out.trans (hb1.mono HB.out.size)
              obtain ⟨f2, f3, hbw1⟩ := HQ.out _ HB.out
              have hc0 := HC.out _ hbw1
              have HBW1 : Hid (Below w.heap.size w w1) := hbw1
              clear hb1 hbw1 e2 e3
              rw [HV0.out]
              go_wp2_with fail
              go_ret
              exact ⟨by rw [HA2.out]; rfl, HBW1.out⟩
        · have hv0' : (vfault v == 0) = false := by simp [hv0]
          have HA2 : Hid (efault e = vfault v) := by show _ = _; rw [HE2.out]; exact if_neg hv0
          clear hv0
          go_wp2_with fail
          refine (valueFault_any v _ ca _ (HN.out.up HBW.out) hn1 hn2).mono ?_
          rintro er w1 ⟨rfl, hb1⟩
          have HBW1 : Hid (Below w.heap.size w w1) := HBW.out.trans (hb1.mono HBW.out.size)
          go_wp2_with fail
          go_ret
          exact ⟨by rw [HA2.out]; rfl, HBW1.out⟩
end Go.Proofs.YtpcikfpldmackaaGreatDoor
namespace Go.Proofs.YtpcikfpldmackaaGreatDoor
open Go.RowKit Go.Maps Go.WideMaps
set_option linter.unusedVariables false
set_option linter.unusedSimpArgs false

theorem lfault_bad {seen : List Ui} {x : En} {r : List En} (h : uf x.u ≠ 0) : lfault seen (x :: r) = uf x.u := by unfold lfault; rw [if_neg h]
theorem lfault_twice {seen : List Ui} {x : En} {r : List En} (h : uf x.u = 0) (k : x.u ∈ seen) : lfault seen (x :: r) = 6 := by unfold lfault; rw [if_pos h, if_pos k]
theorem lfault_ent {seen : List Ui} {x : En} {r : List En} (h : uf x.u = 0) (k : x.u ∉ seen) (j : efault x ≠ 0) : lfault seen (x :: r) = efault x := by unfold lfault; rw [if_pos h, if_neg k, if_neg j]
theorem lfault_next {seen : List Ui} {x : En} {r : List En} (h : uf x.u = 0) (k : x.u ∉ seen) (j : efault x = 0) : lfault seen (x :: r) = lfault (seen ++ [x.u]) r := by conv => lhs; unfold lfault; rw [if_pos h, if_neg k, if_pos j]

open Classical in
noncomputable def abvB (es : List En) (u y : Ui) : Bool := decide (Abv es u y)
open Classical in
theorem abvB_iff (es : List En) (u y : Ui) : abvB es u y = true ↔ Abv es u y := by unfold abvB; rw [decide_eq_true_iff]
theorem overB_any (es : List En) (p : Option Addr) (c : Nat) (u y : Ui) (w : World) (hl : EL w p es) (hf : Few es) :
    Calls Tryz.prog 80 #[.slice p es.length c, .agg #[.string u.t, .string u.i], .agg #[.string y.t, .string y.i], .int .i64 es.length] w fun e w' => e = .returned (.bool (abvB es u y)) ∧ Below w.heap.size w w' := by
  refine (over_any es p c u y w hl hf).mono ?_
  rintro e w' ⟨⟨r, rfl, hr⟩, hb⟩
  refine ⟨?_, hb⟩
  have : r = abvB es u y := by rw [Bool.eq_iff_iff, hr, abvB_iff]
  rw [this]

set_option maxRecDepth 100000 in
set_option maxHeartbeats 8000000 in
theorem storeFault_any (es : List En) (p : Option Addr) (c : Nat) (w : World) (hl : EL w p es) :
    Calls Tryz.prog 41 #[.slice p es.length c] w fun er w' => er = .returned (.int .i64 (stf es)) ∧ Below w.heap.size w w' := by
  by_cases h16 : 16 < es.length
  · have h' : (16 : Int) < (es.length : Int) := by omega
    have HF : Hid (stf es = 4) := sfault_full h16
    go_enter Tryz.func41, Tryz.ntmps41
    go_wp2_with fail
    go_ret
    exact ⟨by rw [HF.out]; rfl, Below.refl _ _⟩
  · have h' : ¬ (16 : Int) < (es.length : Int) := by omega
    have HL : Hid (EL w p es) := hl
    have HB0 : Hid (lfault [] es ≠ 0 → stf es = lfault [] es) := sfault_list h16
    have HN : Hid (lfault [] es = 0 → Few es) := few_of h16
    have HO : Hid (lfault [] es = 0 → ¬ Cyc es → stf es = 0) := sfault_ok h16
    have HY : Hid (lfault [] es = 0 → Cyc es → stf es = 7) := sfault_cyc h16
    generalize hZ : lfault [] es = Z at HB0 HN HO HY
    have HZ : Hid (lfault ((es.take 0).map (·.u)) (es.drop 0) = Z) := hZ
    clear hl hZ
    go_enter Tryz.func41, Tryz.ntmps41
    go_wp2_with fail
    go_loopw [3] (fun iv wr => ∃ i : Nat, i ≤ es.length ∧ iv = .int .i64 i ∧ Hid (lfault ((es.take i).map (·.u)) (es.drop i) = Z) ∧ Hid (Below w.heap.size w wr)) (fun iv _ => es.length - (intOf iv).toNat)
    case atStart => exact ⟨0, Nat.zero_le _, rfl, HZ, Below.refl _ _⟩
    case round =>
      obtain ⟨i, hi, rfl, HR, HB⟩ := hrel
      by_cases hlt : i < es.length
      · have i1 : (i : Int) < (es.length : Int) := by omega
        obtain ⟨b, off, pu, cu, pa, ca, rfl, hbl, _, hUL, hNL, hou, hoU, hu1, hu2, hn1, hn2, g0, g1, g2, g3⟩ := HL.out.at hlt
        have HG : Hid (∀ w', Below w.heap.size w w' → w'.cell? ⟨b, off + i * 4, none⟩ = some (.string es[i].u.t) ∧ w'.cell? ⟨b, off + i * 4 + 1, none⟩ = some (.string es[i].u.i) ∧ w'.cell? ⟨b, off + i * 4 + 2, none⟩ = some (.slice pu es[i].up.length cu) ∧ w'.cell? ⟨b, off + i * 4 + 3, none⟩ = some (.slice pa es[i].nd.length ca)) := fun w' k =>
          ⟨(k.cell (p := ⟨b, off + i * 4, none⟩) hbl).trans g0, (k.cell (p := ⟨b, off + i * 4 + 1, none⟩) hbl).trans g1, (k.cell (p := ⟨b, off + i * 4 + 2, none⟩) hbl).trans g2, (k.cell (p := ⟨b, off + i * 4 + 3, none⟩) hbl).trans g3⟩
        obtain ⟨x0, x1, x2, x3⟩ := HG.out _ HB.out
        have HD : Hid (es.drop i = es[i] :: es.drop (i + 1)) := List.drop_eq_getElem_cons hlt
        have HT : Hid (es.take (i + 1) = es.take i ++ [es[i]]) := List.take_succ_eq_append_getElem hlt
        replace hUL : Hid (UL _ _ _) := hUL
        replace hNL : Hid (NL _ _ _) := hNL
        replace hoU : Hid (∀ _, _) := hoU
        generalize es[i] = x at *
        clear g0 g1 g2 g3
        by_cases h0 : uf x.u = 0
        · have HX0 : Hid (uf x.u = 0) := h0
          clear h0
          go_wp2_with fail
          refine (uidF_any x.u _ hou).mono ?_
          rintro er w1 ⟨rfl, hb1⟩
          replace HB : Hid (Below w.heap.size w w1) := HB.out.trans (hb1.mono HB.out.size)
          clear hb1 x0 x1 x2 x3
          rw [HX0.out]
          go_wp2_with fail
          go_loopw [4, 5] (fun ev jv wr => ∃ (j : Nat) (z : Int), j ≤ i ∧ jv = .int .i64 j ∧ ev = .int .i64 z ∧ ((z = 0 ∧ Hid (∀ y ∈ es.take j, y.u ≠ x.u)) ∨ (z = 6 ∧ Hid (∃ y ∈ es.take i, y.u = x.u))) ∧ Hid (Below w.heap.size w wr)) (fun ev jv _ => i - (intOf jv).toNat)
          case atStart => exact ⟨0, 0, Nat.zero_le _, rfl, rfl, .inl ⟨rfl, fun y hy => (by simp at hy)⟩, HB⟩
          case round =>
            obtain ⟨j, z, hj, rfl, rfl, hz, HB⟩ := hrel
            rcases hz with ⟨rfl, HNI⟩ | ⟨rfl, HIN⟩
            · by_cases hlt2 : j < i
              · have i2 : (j : Int) < (i : Int) := by omega
                have i3 : (j : Int) < (es.length : Int) := by omega
                obtain ⟨x0, x1, _, _⟩ := HG.out _ HB.out
                obtain ⟨b', off', pu', cu', pa', ca', hpe, hbl', _, _, _, _, _, _, _, _, _, y0, y1, _, _⟩ := (HL.out.up HB.out).at (show j < es.length by omega)
                simp at hpe
                obtain ⟨rfl, rfl⟩ := hpe
                have HM : Hid (es[j] ∈ es.take i) := List.mem_take_iff_getElem.2 ⟨j, by omega, rfl⟩
                have HT2 : Hid (es.take (j + 1) = es.take j ++ [es[j]]) := List.take_succ_eq_append_getElem (by omega)
                generalize es[j]'(by omega) = y at y0 y1 HM HT2
                rcases uid_cases y.u x.u with heq | ⟨hne, ht⟩ | ⟨hne, ii, heq, ht⟩
                · rw [heq] at y0 y1
                  have HIN : Hid (∃ y ∈ es.take i, y.u = x.u) := ⟨y, HM.out, heq⟩
                  clear heq
                  go_wp2_with fail
                  go_quiet (fail)
                  go_wp2_with fail
                  go_roundw
                  case rel => exact ⟨j + 1, 6, by omega, by go_num, rfl, .inr ⟨rfl, HIN⟩, belD HB.out _⟩
                  case measure => simp [intOf]; omega
                · have HN2 : Hid (∀ y ∈ es.take (j + 1), y.u ≠ x.u) := by
                    intro z hz
                    rw [HT2.out] at hz
                    rcases List.mem_append.1 hz with q | q
                    · exact HNI.out z q
                    · rw [List.mem_singleton.1 q]; exact hne
                  clear hne
                  go_wp2_with fail
                  go_quiet (fail)
                  go_wp2_with fail
                  go_roundw
                  case rel => exact ⟨j + 1, 0, by omega, by go_num, rfl, .inl ⟨rfl, HN2⟩, belD HB.out _⟩
                  case measure => simp [intOf]; omega
                · have HN2 : Hid (∀ y ∈ es.take (j + 1), y.u ≠ x.u) := by
                    intro z hz
                    rw [HT2.out] at hz
                    rcases List.mem_append.1 hz with q | q
                    · exact HNI.out z q
                    · rw [List.mem_singleton.1 q]; exact hne
                  rw [heq] at y0 y1
                  simp only at y0 y1
                  clear hne heq
                  go_wp2_with fail
                  go_quiet (fail)
                  go_wp2_with fail
                  go_roundw
                  case rel => exact ⟨j + 1, 0, by omega, by go_num, rfl, .inl ⟨rfl, HN2⟩, belD HB.out _⟩
                  case measure => simp [intOf]; omega
              · obtain rfl : j = i := by omega
                have i2 : ¬ (j : Int) < (j : Int) := by omega
                have HNM : Hid (x.u ∉ (es.take j).map (·.u)) := by
                  intro q
                  obtain ⟨y, hy, e⟩ := List.mem_map.1 q
                  exact HNI.out y hy e
                obtain ⟨x0, x1, x2, x3⟩ := HG.out _ HB.out
                by_cases hef : efault x = 0
                · have HEF : Hid (efault x = 0) := hef
                  have HRZ : Hid (lfault ((es.take (j + 1)).map (·.u)) (es.drop (j + 1)) = Z) := by
                    have h := HR.out
                    rw [HD.out, lfault_next HX0.out HNM.out hef] at h
                    show _ = _
                    rw [HT.out, List.map_append]
                    exact h
                  clear hef
                  go_wp2_with fail
                  refine (entityFault_any x pu cu pa ca _ (hUL.out.up HB.out) (hNL.out.up HB.out) hoU.out hn1 hn2).mono ?_
                  rintro er w2 ⟨rfl, hb2⟩
                  replace HB : Hid (Below w.heap.size w w2) := HB.out.trans (hb2.mono HB.out.size)
                  clear hb2 x0 x1 x2 x3
                  rw [HEF.out]
                  go_wp2_with fail
                  go_roundw
                  case rel => exact ⟨j + 1, by omega, by go_num, HRZ, HB⟩
                  case measure => simp [intOf]; omega
                · have hef' : (efault x != 0) = true := by simp [hef]
                  have HEF : Hid (efault x ≠ 0) := hef
                  have HRZ : Hid (efault x = Z) := by
                    have h := HR.out
                    rw [HD.out, lfault_ent HX0.out HNM.out hef] at h
                    exact h
                  clear hef
                  go_wp2_with fail
                  refine (entityFault_any x pu cu pa ca _ (hUL.out.up HB.out) (hNL.out.up HB.out) hoU.out hn1 hn2).mono ?_
                  rintro er w2 ⟨rfl, hb2⟩
                  replace HB : Hid (Below w.heap.size w w2) := HB.out.trans (hb2.mono HB.out.size)
                  go_wp2_with fail
                  go_ret
                  have hz : Z ≠ 0 := by rw [← HRZ.out]; exact HEF.out
                  exact ⟨by rw [HB0.out hz, ← HRZ.out]; rfl, HB.out⟩
            · have HRZ : Hid (6 = Z) := by
                have h := HR.out
                obtain ⟨y, hy, e⟩ := HIN.out
                rw [HD.out, lfault_twice HX0.out (List.mem_map.2 ⟨y, hy, e⟩)] at h
                exact h
              have hz : Hid (Z ≠ 0) := by show Z ≠ 0; rw [← HRZ.out]; decide
              by_cases hlt2 : j < i
              · have i2 : (j : Int) < (i : Int) := by omega
                go_wp2_with fail
                go_ret
                exact ⟨by rw [HB0.out hz.out, ← HRZ.out]; rfl, HB.out⟩
              · have i2 : ¬ (j : Int) < (i : Int) := by omega
                go_wp2_with fail
                go_ret
                exact ⟨by rw [HB0.out hz.out, ← HRZ.out]; rfl, HB.out⟩
        · have HX0 : Hid (uf x.u ≠ 0) := h0
          have h0' : (uf x.u == 0) = false := by simp [h0]
          have h0'' : (uf x.u != 0) = true := by simp [h0]
          have HRZ : Hid (uf x.u = Z) := by
            have h := HR.out
            rw [HD.out, lfault_bad h0] at h
            exact h
          clear h0
          go_wp2_with fail
          refine (uidF_any x.u _ hou).mono ?_
          rintro er w1 ⟨rfl, hb1⟩
          replace HB : Hid (Below w.heap.size w w1) := HB.out.trans (hb1.mono HB.out.size)
          clear hb1 x0 x1 x2 x3
          go_wp2_with fail
          go_loopw [4, 5] (fun ev jv wr => ev = .int .i64 (uf x.u) ∧ jv = .int .i64 0 ∧ Hid (Below w.heap.size w wr)) (fun _ _ _ => 0)
          case atStart => exact ⟨rfl, rfl, HB⟩
          case round =>
            obtain ⟨rfl, rfl, HB⟩ := hrel
            have hz : Z ≠ 0 := by rw [← HRZ.out]; exact HX0.out
            have HZN : Hid (Z ≠ 0) := hz
            clear hz
            by_cases hi0 : 0 < i
            · have i2 : (0 : Int) < (i : Int) := by omega
              go_wp2_with fail
              go_ret
              exact ⟨by rw [HB0.out HZN.out, ← HRZ.out]; rfl, HB.out⟩
            · have i2 : ¬ (0 : Int) < (i : Int) := by omega
              go_wp2_with fail
              go_ret
              exact ⟨by rw [HB0.out HZN.out, ← HRZ.out]; rfl, HB.out⟩
      · obtain rfl : i = es.length := by omega
        have i1 : ¬ (es.length : Int) < (es.length : Int) := by omega
        have HZ0 : Hid (Z = 0) := by have h := HR.out; rw [List.drop_length] at h; exact h.symm
        have HF : Hid (Few es) := HN.out HZ0.out
        go_wp2_with fail
        go_loopw [6] (fun kv wr => ∃ k : Nat, k ≤ es.length ∧ kv = .int .i64 k ∧ Hid (∀ y ∈ es.take k, ¬ Abv es y.u y.u) ∧ Hid (Below w.heap.size w wr)) (fun kv _ => es.length - (intOf kv).toNat)
        case atStart => exact ⟨0, Nat.zero_le _, rfl, fun y hy => (by simp at hy), HB⟩
        case round =>
          obtain ⟨k, hk, rfl, HA, HB⟩ := hrel
          by_cases hlt2 : k < es.length
          · have i2 : (k : Int) < (es.length : Int) := by omega
            obtain ⟨b, off, pu, cu, pa, ca, rfl, hbl, _, _, _, hou, _, _, _, _, _, g0, g1, _, _⟩ := (HL.out.up HB.out).at hlt2
            have HM : Hid (es[k] ∈ es) := List.getElem_mem hlt2
            have HT : Hid (es.take (k + 1) = es.take k ++ [es[k]]) := List.take_succ_eq_append_getElem hlt2
            generalize es[k] = x at *
            have HAB : Hid (abvB es x.u x.u = true ↔ Abv es x.u x.u) := abvB_iff es x.u x.u
            have hz0 : ∀ q : BW wr.heap.size wr, q.at_.cell? ⟨b, off + k * 4, none⟩ = some (.string x.u.t) := fun q => (q.bel.cell (p := ⟨b, off + k * 4, none⟩) hbl).trans g0
            have hz1 : ∀ q : BW wr.heap.size wr, q.at_.cell? ⟨b, off + k * 4 + 1, none⟩ = some (.string x.u.i) := fun q => (q.bel.cell (p := ⟨b, off + k * 4 + 1, none⟩) hbl).trans g1
            have hcall : ∀ q : BW wr.heap.size wr, Calls Tryz.prog 80 #[.slice (some ⟨b, off, none⟩) es.length c, .agg #[.string x.u.t, .string x.u.i], .agg #[.string x.u.t, .string x.u.i], .int .i64 es.length] q.at_ (fun e w'' => e = .returned (.bool (abvB es x.u x.u)) ∧ ∃ p' : BW wr.heap.size wr, w'' = p'.at_) := fun q => Calls.bel q (overB_any es _ c x.u x.u q.at_ ((HL.out.up HB.out).up q.bel) HF.out)
            generalize abvB es x.u x.u = r at hcall HAB
            go_wp2_with fail
            refine wp_region_bel (by kernel_rfl) (by kernel_rfl) ?_
            repeat (go_big_quiet_step (exact hcall _))
            refine wpQuiet_nil ?_
            rintro _ ⟨q, rfl⟩
            have HB5 : Hid (Below w.heap.size w q.at_) := HB.out.trans (q.bel.mono HB.out.size)
            clear hcall hz0 hz1
            cases r
            · have HA2 : Hid (∀ y ∈ es.take (k + 1), ¬ Abv es y.u y.u) := by
                intro z hz
                rw [HT.out] at hz
                rcases List.mem_append.1 hz with q | q
                · exact HA.out z q
                · rw [List.mem_singleton.1 q]
                  intro hab
                  have := HAB.out.2 hab
                  cases this
              clear HAB
              go_wp2_with fail
              go_roundw
              case rel => exact ⟨k + 1, by omega, by go_num, HA2, HB5⟩
              case measure => simp [intOf]; omega
            · have HCY : Hid (stf es = 7) := HY.out HZ0.out ⟨x, HM.out, HAB.out.1 rfl⟩
              clear HAB
              go_wp2_with fail
              go_ret
              exact ⟨by rw [HCY.out]; rfl, HB5.out⟩
          · obtain rfl : k = es.length := by omega
            have i2 : ¬ (es.length : Int) < (es.length : Int) := by omega
            have HCY : Hid (stf es = 0) := HO.out HZ0.out (fun ⟨e, he, h⟩ => HA.out e (by rw [List.take_length]; exact he) h)
            go_wp2_with fail
            go_ret
            exact ⟨by rw [HCY.out]; rfl, HB.out⟩
end Go.Proofs.YtpcikfpldmackaaGreatDoor
