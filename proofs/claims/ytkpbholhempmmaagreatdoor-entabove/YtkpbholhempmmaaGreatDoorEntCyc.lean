/- Package ent's above and hasCycle: by walks of their own texts. -/
import Derived.Test.YtkpbholhempmmaaGreatDoorClimb
import Derived.Deep.RegionWith
namespace Go.Proofs.YtkpbholhempmmaaGreatDoor
open Go.RowKit Go.Maps Go.WideMaps
set_option linter.unusedVariables false
set_option linter.unusedSimpArgs false

/-- All that stand above some entity. -/
def allUps (es : List En) : List Ui := es.flatMap (·.up)
theorem allUps_mem {es : List En} {u x : Ui} (h : x ∈ upsOf es u) : x ∈ allUps es := by
  obtain ⟨e, he, _, h2⟩ := upsOf_mem h
  exact List.mem_flatMap.2 ⟨e, he, by rw [h2]; exact h⟩
theorem allUps_len : ∀ (es : List En), (∀ e ∈ es, e.up.length ≤ 6) → (allUps es).length ≤ 6 * es.length
  | [], _ => by simp [allUps]
  | e :: r, h => by
    have h1 := h e (by simp)
    have h2 := allUps_len r (fun x hx => h x (by simp [hx]))
    unfold allUps at h2 ⊢
    rw [List.flatMap_cons, List.length_append, List.length_cons]
    omega
theorem toCome_len (U L : List Ui) : toCome U L ≤ U.length := List.length_filter_le _ _

/-- A store whose entities are all different, and few. -/
structure Few (es : List En) : Prop where
  few : es.length ≤ 16
  uniq : Uniq es
  ups : ∀ e ∈ es, e.up.length ≤ 6

set_option maxRecDepth 100000 in
set_option maxHeartbeats 1000000 in
theorem above_any (es : List En) (w0 : World) (sb : Nat) (hf : Few es) (u : Ui) (w : World) (hu : UOk u) (hm : EMap w0 w sb es) (hb : Below w0.heap.size w0 w) :
    Calls Tryz.prog 21 #[.map (some sb), .agg #[.string u.t, .string u.i]] w fun e w' => ∃ fb M, e = .returned (.map (some fb)) ∧ USet w' fb M ∧ (∀ v, v ∈ M ↔ Abv es u v) ∧ Below w.heap.size w w' ∧ M.length ≤ 96 := by
  have hlt := hm.lt
  have hn : toCome (allUps es) [] ≤ 96 := Nat.le_trans (toCome_len _ _) (Nat.le_trans (allUps_len es hf.ups) (by have := hf.few; omega))
  have h96 : toCome (allUps es) [] ≤ 96 := hn
  have hbs := hb.size
  have HF : Hid (Few es) := hf
  have HM : Hid (EMap w0 w sb es) := hm
  clear hf hm
  have hmm := @run_makeMap Tryz.prog
  go_enter Tryz.func21, Tryz.ntmps21
  go_wp2_with fail
  have hb1 : Below w.heap.size w ((w.alloc (.cells #[.string u.t, .string u.i] 24)).alloc (.map #[] 0)) := ((Below.refl _ _).alloc (Nat.le_refl _) _).alloc (by simp) _
  have hs1 : USet ((w.alloc (.cells #[.string u.t, .string u.i] 24)).alloc (.map #[] 0)) (w.heap.size + 1) [] := by simpa using USet.made (w.alloc (.cells #[.string u.t, .string u.i] 24))
  refine (climb_any es w0 sb (w.heap.size + 1) (allUps es) (fun u x hx => allUps_mem hx) HF.out.uniq (by omega) (by omega) _ [] u _ hu (HM.out.up hb1) hs1 (hb.trans (hb1.mono hb.size)) rfl (by simp; omega)).mono ?_
  rintro e w1 ⟨rfl, M, hcl, hset, hg, hcnt⟩
  have hcnt2 : M.length ≤ 96 := by simp at hcnt; omega
  clear hcnt
  go_wp2_with fail
  go_ret
  refine ⟨w.heap.size + 1, M, rfl, hset, fun v => ⟨fun hv => ?_, fun hv => ?_⟩, ?_, hcnt2⟩
  · rcases hcl.frm v hv with h | h
    · cases h
    · exact h
  · exact abv_closed hcl.ups (fun v hv => hcl.closed v hv (by simp)) hv
  · exact hb1.grown hg (by simp; omega) (fun j hj => by cases hj; omega)

theorem EMap.uidOf {w0 w : World} {b : Nat} {es : List En} {D : DataW Value} (h2 : ∀ kl, Maps.has D kl = true → ∃ e ∈ es, kl = klit e.u) (h3 : ∀ e ∈ es, UOk e.u) {u : Ui} (hu : UOk u) (h : Maps.has D (klit u) = true) : ∃ e ∈ es, e.u = u := by
  obtain ⟨e, he, hk⟩ := h2 _ h
  exact ⟨e, he, (klit_inj hu (h3 e he) hk).symm⟩

set_option maxRecDepth 100000 in
set_option maxHeartbeats 4000000 in
theorem hasCycle_any (es : List En) (w0 : World) (sb : Nat) (hf : Few es) (w : World) (hm : EMap w0 w sb es) (hb : Below w0.heap.size w0 w) :
    Calls Tryz.prog 33 #[.map (some sb)] w fun e w' => ∃ c, e = .returned (.bool c) ∧ (c = true ↔ Cyc es) ∧ Below w.heap.size w w' := by
  have HM : Hid (EMap w0 w sb es) := hm
  obtain ⟨D, h1, h2, h3⟩ := hm
  have H2 : Hid (∀ _, _) := h2
  have H3 : Hid (∀ _, _) := h3
  have hsb := h1.lt
  clear h2 h3
  go_enter Tryz.func33, Tryz.ntmps33
  go_wp2_with (first
    | (at_range; refine wpList_range_own _ rfl _ 51 rfl 24 33 uid_law Tryz.underlying51 _ sb es.length D rfl h1 ?_; intro w1 hrg0 hg0 hs0)
    | go_in)
  go_frame
  go_loopw [3] (fun _ wr => ∃ (left : Lit → Bool) (cnt : Nat), wr.ranges Tryz.prog 24 heldE sb w.heap.size es.length D left cnt ∧ w.grownBy wr none ∧ Hid (∀ e ∈ es, left (klit e.u) = true ∨ ¬ Abv es e.u e.u) ∧ Hid (∀ kl, left kl = true → Maps.has D kl = true)) (fun _ wr => wr.rangeLeft sb w.heap.size)
  case atStart => exact ⟨_, _, hrg0, hg0, fun e he => .inl (H3.out e he).1, fun kl h => h⟩
  case round =>
    obtain ⟨left, cnt, hrg, hgr, HI, HLH⟩ := hrel
    go_wp2_with (first
      | (at_next; refine wpList_next_ranges _ rfl _ rfl 24 uid_law heldE (fun x : Ui => .agg #[.string x.t, .string x.i]) id (fun key kl hk => by obtain ⟨x, hx, _⟩ := keyOf_uid_inv hk; exact ⟨x, hx⟩) (fun v _ _ => ⟨v, rfl⟩) sb w.heap.size es.length D left cnt rfl hrg ?_ ?_)
      | go_in)
    · intro hc0 hl0
      go_wp2_with fail
      go_ret
      refine ⟨false, rfl, ⟨fun q => (by cases q), fun ⟨e, he, hc⟩ => ?_⟩, ⟨hgr.os, hgr.tape, hgr.output, hgr.size, fun i hi => hgr.block i hi (by simp)⟩⟩
      rcases HI.out e he with h | h
      · rw [hl0] at h; cases h
      · exact absurd hc h
    · intro x c kl yd yp w2 cnt2 hkey hlk hv hat hrg2 hlt hg2 hs2 hen
      obtain ⟨x', ex, hxok, rfl⟩ := keyOf_uid_inv hkey
      obtain rfl : x = x' := uV_inj ex
      have hgr2 : w.grownBy w2 none := hgr.andThen hg2 (fun j hj => by cases hj; exact .inl (Nat.le_refl _))
      have HG2 : Hid (w.grownBy w2 none) := hgr2
      have HM2 : Hid (EMap w0 w2 sb es) := HM.out.kept hgr2 (by simp)
      have HB2 : Hid (Below w0.heap.size w0 w2) := hb.grown hgr2 hb.size (fun j hj => by cases hj)
      have HLK : Hid (_ = _) := hlk
      clear hs2 hgr2 ex hkey hv hat hlk
      go_wp2_with fail
      go_region_with (first
        | (go_at_call 21
           refine (above_any es w0 sb hf x _ hxok ?_ ?_).mono ?_
           · exact HM2.out.up (by repeat (first | exact Below.refl _ _ | exact (Below.refl _ _).alloc (Nat.le_refl _) _ | apply Below.drew))
           · exact HB2.out.trans (Below.mono (by repeat (first | exact Below.refl _ _ | exact (Below.refl _ _).alloc (Nat.le_refl _) _ | apply Below.drew)) HB2.out.size)
           rintro e w3 ⟨fb, M, rfl, hset, hM, hb3, hM96⟩
           have hx0 : w3.cell? ⟨w2.heap.size, 0, none⟩ = some (.string x.t) := (hb3.cell (p := ⟨w2.heap.size, 0, none⟩) (by simp)).trans (by simp)
           have hx1 : w3.cell? ⟨w2.heap.size, 1, none⟩ = some (.string x.i) := (hb3.cell (p := ⟨w2.heap.size, 1, none⟩) (by simp)).trans (by simp))
        | (go_at_call 24
           refine (has_any fb M x _ hset hxok).mono ?_
           rintro e w4 ⟨rfl, hb4⟩
           generalize hdd : decide (x ∈ M) = d))
      all_goals
        have hb34 : Below w2.heap.size w2 w4 := (Below.trans (by repeat (first | exact Below.refl _ _ | exact (Below.refl _ _).alloc (Nat.le_refl _) _ | apply Below.drew)) (hb3.mono (by simp))).trans (hb4.mono (by have := hb3.size; simp at this; omega))
        have HDD : Hid (_ = _) := hdd
        have HMM : Hid (∀ _, _) := hM
        clear hdd hM
        cases d
        · have HI2 : Hid (∀ e ∈ es, (left (klit e.u) && !(klit e.u).sameKey (klit x)) = true ∨ ¬ Abv es e.u e.u) := by
            intro e he
            by_cases hex : e.u = x
            · right
              intro hab
              rw [hex] at hab
              have := (HMM.out x).2 hab
              have h0 := HDD.out
              rw [decide_eq_true this] at h0
              cases h0
            · rcases HI.out e he with h | h
              · left
                rw [h, sameKey_ne (fun q => hex (klit_inj (H3.out e he).2.1 hxok q))]
                rfl
              · exact .inr h
          go_wp2_with fail
          go_roundw
          case rel => exact ⟨_, cnt2, hrg2.kept (gb_of hb34) (by simp) (by simp), HG2.out.andThen (gb_of hb34) (fun j hj => by cases hj), HI2, fun kl hk => HLH.out kl (by simp at hk; exact hk.1)⟩
          case measure => rw [(hrg2.kept (gb_of hb34) (by simp) (by simp)).left_eq, hrg.left_eq]; exact hlt
        · go_wp2_with fail
          go_ret
          have h34 := HG2.out.andThen (gb_of hb34) (fun j hj => by cases hj)
          refine ⟨true, rfl, ⟨fun _ => ?_, fun _ => rfl⟩, ⟨h34.os, h34.tape, h34.output, h34.size, fun i hi => h34.block i hi (by simp)⟩⟩
          obtain ⟨e, he, hk⟩ := H2.out _ (HLH.out _ HLK.out)
          have hex : x = e.u := klit_inj hxok (H3.out e he).2.1 hk
          have hx := (HMM.out x).1 (of_decide_eq_true HDD.out)
          exact ⟨e, he, by rw [← hex]; exact hx⟩
end Go.Proofs.YtkpbholhempmmaaGreatDoor
