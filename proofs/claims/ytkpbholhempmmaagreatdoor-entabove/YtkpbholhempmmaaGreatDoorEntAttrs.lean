/- Package ent's Attrs: by a walk of its own text. -/
import Derived.Test.YtkpbholhempmmaaGreatDoorEntStore
import Derived.Test.YtkpbholhempmmaaGreatDoorNClone
namespace Go.Proofs.YtkpbholhempmmaaGreatDoor
open Go.RowKit Go.Maps Go.WideMaps
set_option linter.unusedVariables false
set_option linter.unusedSimpArgs false

theorem sfault_list0 {es : List En} (h : sfault es = 0) : lfault [] es = 0 := by
  unfold sfault at h
  by_cases h1 : 16 < es.length
  · rw [if_pos h1] at h; cases h
  · rw [if_neg h1] at h
    by_cases h2 : lfault [] es = 0
    · exact h2
    · rw [if_neg h2] at h; exact h
theorem good_nodes {es : List En} (h : sfault es = 0) {e : En} (he : e ∈ es) : e.nd ≠ [] ∧ e.nd.length ≤ 200 := by
  have h1 := (efault_zero ((lfault_zero _ _ (sfault_list0 h)).1 e he).2.2).2
  have h2 : vfault e.nd = 0 := by
    unfold afault at h1
    by_cases h2 : vfault e.nd = 0
    · exact h2
    · rw [if_neg h2] at h1; exact absurd h1 h2
  refine ⟨fun e0 => vfault_nil (by rw [e0] at h2; exact h2), ?_⟩
  unfold vfault at h2
  by_cases h3 : 200 < e.nd.length
  · rw [if_pos h3] at h2; cases h2
  · omega


set_option maxRecDepth 100000 in
theorem EMap.found {w0 w : World} {b : Nat} {es : List En} (h : EMap w0 w b es) {e : En} (he : e ∈ es) :
    ∃ (pu : Option Addr) (cu : Nat) (pa : Option Addr) (ca : Nat), (Instr.lookup 51 (.map (some b)) (.agg #[.string e.u.t, .string e.u.i]) true).run Tryz.prog w = .ok (.tuple #[.agg #[.string e.u.t, .string e.u.i, .slice pu e.up.length cu, .slice pa e.nd.length ca], .bool true]) w ∧ NL w0 pa e.nd := by
  obtain ⟨D, h1, h2, h3⟩ := h
  obtain ⟨hh, hu, y, hy, hat⟩ := h3 e he
  obtain ⟨v, ps, hrun, hv⟩ := h1.look_ok uid_law Tryz.underlying51 (zeroEnt w) (zd := .held _) (zp := []) rfl (keyOf_uid hu)
  unfold heldE at hv
  simp only [Option.some.injEq, Prod.mk.injEq] at hv
  rw [hat] at hv
  obtain ⟨pu, cu, pa, ca, rfl, k1, k2, _⟩ := hy
  obtain ⟨e1, _⟩ := hv
  injection e1 with e1
  subst e1
  rw [hh] at hrun
  exact ⟨pu, cu, pa, ca, hrun, k2⟩
set_option maxRecDepth 100000 in
theorem EMap.lost {w0 w : World} {b : Nat} {es : List En} (h : EMap w0 w b es) {u : Ui} (hu : UOk u) (hn : ∀ e ∈ es, e.u ≠ u) :
    (Instr.lookup 51 (.map (some b)) (.agg #[.string u.t, .string u.i]) true).run Tryz.prog w = .ok (.tuple #[.agg #[.string ⟨#[]⟩, .string ⟨#[]⟩, .slice none 0 0, .slice none 0 0], .bool false]) w := by
  obtain ⟨D, h1, h2, h3⟩ := h
  obtain ⟨v, ps, hrun, hv⟩ := h1.look_ok uid_law Tryz.underlying51 (zeroEnt w) (zd := .held _) (zp := []) rfl (keyOf_uid hu)
  have hno := EMap.hasNot (w0 := w0) (w := w) (b := b) h2 (fun e he => (h3 e he).2.1) hu hn
  unfold heldE at hv
  simp only [Option.some.injEq, Prod.mk.injEq] at hv
  rw [atKey_of_not_has hno] at hv
  obtain ⟨e1, _⟩ := hv
  injection e1 with e1
  subst e1
  rw [hno] at hrun
  exact hrun

set_option maxRecDepth 100000 in
set_option maxHeartbeats 2000000 in
theorem attrs_found (es : List En) (p : Option Addr) (c : Nat) (x : En) (w : World) (hl : EL w p es) (hx : x ∈ es) (hux : UOk x.u) (h0 : sfault es = 0) :
    Calls Tryz.prog 12 #[.slice p es.length c, .agg #[.string x.u.t, .string x.u.i]] w fun e w' => (∃ q c', e = .returned (.tuple #[.slice q x.nd.length c', .nilIface]) ∧ NL w' q x.nd) ∧ Below w.heap.size w w' := by
  have hbx : Below w.heap.size w (w.alloc (.cells #[.string x.u.t, .string x.u.i] 24)) := (Below.refl _ _).alloc (Nat.le_refl _) _
  have HL : Hid (EL _ p es) := hl.up hbx
  have HX : Hid (x ∈ es) := hx
  have H0 : Hid (sfault es = 0) := h0
  clear hl hx h0
  go_enter Tryz.func12, Tryz.ntmps12
  go_wp2_with fail
  refine (storeOf_any es p c _ HL.out).mono ?_
  rintro e w1 ⟨⟨_, sb, rfl, hm⟩ | ⟨h0, _⟩, hb1⟩
  · have a0 : w1.cell? ⟨w.heap.size, 0, none⟩ = some (.string x.u.t) := (hb1.cell (p := ⟨w.heap.size, 0, none⟩) (by simp)).trans (by simp)
    have a1 : w1.cell? ⟨w.heap.size, 1, none⟩ = some (.string x.u.i) := (hb1.cell (p := ⟨w.heap.size, 1, none⟩) (by simp)).trans (by simp)
    obtain ⟨pu, cu, pa, ca, hrun, hNL⟩ := hm.found HX.out
    obtain ⟨hne, h200⟩ := good_nodes H0.out HX.out
    have hNL1 := hNL.up hb1
    rcases hNL1 with hN | ⟨b, off, rfl, hbl, hcells⟩
    · exact absurd hN hne
    have HNL : Hid (NL w1 (some ⟨b, off, none⟩) x.nd) := .inr ⟨b, off, rfl, hbl, hcells⟩
    have HB1 : Hid (Below w.heap.size w w1) := hbx.trans (hb1.mono hbx.size)
    clear hm hNL hcells hb1 hbx hne
    go_wp2_with fail
    refine (cloneN_fn x.nd b off ca _ (HNL.out.up ((Below.refl _ _).alloc (Nat.le_refl _) _)) (by omega)).mono ?_
    rintro e w2 ⟨⟨q, c', rfl, hq, _, _⟩, hb2⟩
    have HQ : Hid (NL w2 q x.nd) := hq
    have HB2 : Hid (Below w.heap.size w w2) := HB1.out.trans ((((Below.refl w1.heap.size w1).alloc (Nat.le_refl _) _).trans (hb2.mono (by simp))).mono HB1.out.size)
    clear hq hb2 hrun
    go_wp2_with fail
    go_ret2
    exact ⟨⟨q, c', rfl, HQ.out⟩, HB2.out⟩
  · exact absurd H0.out h0

set_option maxRecDepth 100000 in
set_option maxHeartbeats 2000000 in
theorem attrs_lost (es : List En) (p : Option Addr) (c : Nat) (a : Ui) (w : World) (hl : EL w p es) (hn : ∀ e ∈ es, e.u ≠ a) (ha : UOk a) (h0 : sfault es = 0) :
    Calls Tryz.prog 12 #[.slice p es.length c, .agg #[.string a.t, .string a.i]] w fun e w' => e = .returned (.tuple #[.slice none 0 0, eV 8]) ∧ Below w.heap.size w w' := by
  have hbx : Below w.heap.size w (w.alloc (.cells #[.string a.t, .string a.i] 24)) := (Below.refl _ _).alloc (Nat.le_refl _) _
  have HL : Hid (EL _ p es) := hl.up hbx
  have HN : Hid (∀ _, _) := hn
  have H0 : Hid (sfault es = 0) := h0
  clear hl hn h0
  go_enter Tryz.func12, Tryz.ntmps12
  go_wp2_with fail
  refine (storeOf_any es p c _ HL.out).mono ?_
  rintro e w1 ⟨⟨_, sb, rfl, hm⟩ | ⟨h0, _⟩, hb1⟩
  · have a0 : w1.cell? ⟨w.heap.size, 0, none⟩ = some (.string a.t) := (hb1.cell (p := ⟨w.heap.size, 0, none⟩) (by simp)).trans (by simp)
    have a1 : w1.cell? ⟨w.heap.size, 1, none⟩ = some (.string a.i) := (hb1.cell (p := ⟨w.heap.size, 1, none⟩) (by simp)).trans (by simp)
    have hrun := hm.lost ha HN.out
    have HB1 : Hid (Below w.heap.size w w1) := hbx.trans (hb1.mono hbx.size)
    clear hm hb1 hbx
    go_wp2_with fail
    go_ret2
    exact ⟨rfl, HB1.out.alloc HB1.out.size _⟩
  · exact absurd H0.out h0

set_option maxRecDepth 100000 in
set_option maxHeartbeats 2000000 in
theorem attrs_err (es : List En) (p : Option Addr) (c : Nat) (a : Ui) (w : World) (hl : EL w p es) (h0 : sfault es ≠ 0) :
    Calls Tryz.prog 12 #[.slice p es.length c, .agg #[.string a.t, .string a.i]] w fun e w' => e = .returned (.tuple #[.slice none 0 0, eV (sfault es)]) ∧ Below w.heap.size w w' := by
  have hbx : Below w.heap.size w (w.alloc (.cells #[.string a.t, .string a.i] 24)) := (Below.refl _ _).alloc (Nat.le_refl _) _
  have HL : Hid (EL _ p es) := hl.up hbx
  have H0 : Hid (sfault es ≠ 0) := h0
  have HE : Hid (eV (sfault es) = .iface 25 (.int .i64 (sfault es))) := eV_not h0
  clear hl h0
  go_enter Tryz.func12, Tryz.ntmps12
  go_wp2_with fail
  refine (storeOf_any es p c _ HL.out).mono ?_
  rintro e w1 ⟨⟨h0, _⟩ | ⟨h0, rfl⟩, hb1⟩
  · exact absurd h0 H0.out
  · rw [HE.out]
    clear h0
    go_wp2_with fail
    go_ret2
    exact ⟨by rw [HE.out]; rfl, hbx.trans (hb1.mono hbx.size)⟩
end Go.Proofs.YtkpbholhempmmaaGreatDoor
