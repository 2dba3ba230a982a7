/- Package ent's In: by a walk of its own text. -/
import Derived.Test.YtkpbholhempmmaaGreatDoorEntStore
import Derived.Laws.StructEq
import Derived.BigQuiet
import Derived.Deep.QuietTactic
namespace Go.Proofs.YtkpbholhempmmaaGreatDoor
open Go.RowKit Go.Maps Go.WideMaps
set_option linter.unusedVariables false
set_option linter.unusedSimpArgs false

/-- What In tells. -/
def InTold (es : List En) (a b : Ui) (e : Ending) : Prop :=
  (sfault es = 0 ∧ ∃ r, e = .returned (.tuple #[.bool r, .nilIface]) ∧ (r = true ↔ Inn es a b)) ∨ (sfault es ≠ 0 ∧ e = .returned (.tuple #[.bool false, eV (sfault es)]))

theorem belN {B : Nat} {a w : World} (h : Below B a w) (n : Nat) : Below B a (w.drewN n) := ⟨h.os, h.tape, h.output, h.size, h.block⟩
theorem toList_ne {a b : ByteArray} (h : a ≠ b) : ¬ a.toList = b.toList := fun e => h (bytes_inj (by simpa only [ByteArray.toList_eq] using e))

set_option maxRecDepth 100000 in
set_option maxHeartbeats 4000000 in
theorem in_any (es : List En) (p : Option Addr) (c : Nat) (a b : Ui) (w : World) (hl : EL w p es) (ha : UOk a) (hb : UOk b) :
    Calls Tryz.prog 11 #[.slice p es.length c, .agg #[.string a.t, .string a.i], .agg #[.string b.t, .string b.i]] w fun e w' => InTold es a b e ∧ Below w.heap.size w w' := by
  have hbx : Below w.heap.size w ((w.alloc (.cells #[.string a.t, .string a.i] 24)).alloc (.cells #[.string b.t, .string b.i] 24)) := ((Below.refl _ _).alloc (Nat.le_refl _) _).alloc (by simp) _
  have HL : Hid (EL _ p es) := hl.up hbx
  clear hl
  go_enter Tryz.func11, Tryz.ntmps11
  go_wp2_with fail
  refine (storeOf_any es p c _ HL.out).mono ?_
  rintro e w1 ⟨⟨h0, sb, rfl, hm⟩ | ⟨h0, rfl⟩, hb1⟩
  · have hc : ∀ o, w1.cell? ⟨w.heap.size, o, none⟩ = _ := fun o => hb1.cell (p := ⟨w.heap.size, o, none⟩) (by simp; omega)
    have hd : ∀ o, w1.cell? ⟨w.heap.size + 1, o, none⟩ = _ := fun o => hb1.cell (p := ⟨w.heap.size + 1, o, none⟩) (by simp)
    have a0 : w1.cell? ⟨w.heap.size, 0, none⟩ = some (.string a.t) := by rw [hc]; simp
    have a1 : w1.cell? ⟨w.heap.size, 1, none⟩ = some (.string a.i) := by rw [hc]; simp
    have b0 : w1.cell? ⟨w.heap.size + 1, 0, none⟩ = some (.string b.t) := by rw [hd]; simp
    have b1 : w1.cell? ⟨w.heap.size + 1, 1, none⟩ = some (.string b.i) := by rw [hd]; simp
    have hw1 : w.heap.size + 1 < w1.heap.size := by have := hb1.size; simp at this; omega
    have HG : Hid (Good es) := sfault_zero h0
    have HF : Hid (Few es) := ⟨HG.out.few, HG.out.uniq, fun e he => (HG.out.ups e he).1⟩
    have HS0 : Hid (sfault es = 0) := h0
    have HM : Hid (EMap _ w1 sb es) := hm
    have HB1 : Hid (Below w.heap.size w w1) := hbx.trans (hb1.mono hbx.size)
    clear hc hd h0 hm
    by_cases hab : a = b
    · subst hab
      go_wp2_with fail
      go_quiet (fail)
      go_wp2_with fail
      go_ret2
      exact ⟨.inl ⟨HS0.out, true, rfl, ⟨fun _ => .inl rfl, fun _ => rfl⟩⟩, belN HB1.out _⟩
    · have HAB : Hid (a ≠ b) := hab
      by_cases ht : a.t = b.t
      · have hi : ¬ a.i.toList = b.i.toList := toList_ne (fun q => hab (Ui.ext' ht q))
        rw [← ht] at b0
        have HBO : Hid (UOk ⟨a.t, b.i⟩) := ⟨ha.1, hb.2⟩
        have HBB : Hid ((⟨a.t, b.i⟩ : Ui) = b) := Ui.ext' ht rfl
        clear hab ht
        go_wp2_with fail
        go_region_with (first
          | (go_at_call 21
             refine (above_any es _ sb HF.out a w1.drew ha (HM.out.up (Below.refl _ _).drew) hb1.drew).mono ?_
             rintro e w2 ⟨fb, M, rfl, hset, hM, hb2, hM96⟩
             have c0 : w2.cell? ⟨w.heap.size + 1, 0, none⟩ = some (.string a.t) := (hb2.cell (p := ⟨w.heap.size + 1, 0, none⟩) hw1).trans b0
             have c1 : w2.cell? ⟨w.heap.size + 1, 1, none⟩ = some (.string b.i) := (hb2.cell (p := ⟨w.heap.size + 1, 1, none⟩) hw1).trans b1)
          | (go_at_call 24
             refine (has_any fb M ⟨a.t, b.i⟩ _ hset HBO.out).mono ?_
             rintro e w3 ⟨rfl, hb3⟩
             have HMM : Hid (∀ _, _) := hM
             clear hM))
        all_goals
          go_wp2_with fail
          go_ret2
          refine ⟨.inl ⟨HS0.out, _, rfl, ?_⟩, HB1.out.trans (((Below.refl w1.heap.size w1).drew.trans (hb2.trans (hb3.mono hb2.size))).mono HB1.out.size)⟩
          rw [decide_eq_true_iff, HMM.out, HBB.out]
          exact ⟨fun h => .inr h, fun h => h.elim (fun q => absurd q HAB.out) id⟩
      · have hi : ¬ a.t.toList = b.t.toList := toList_ne ht
        have HBO : Hid (UOk ⟨b.t, b.i⟩) := hb
        have HBB : Hid ((⟨b.t, b.i⟩ : Ui) = b) := rfl
        clear hab ht
        go_wp2_with fail
        go_region_with (first
          | (go_at_call 21
             refine (above_any es _ sb HF.out a w1.drew ha (HM.out.up (Below.refl _ _).drew) hb1.drew).mono ?_
             rintro e w2 ⟨fb, M, rfl, hset, hM, hb2, hM96⟩
             have c0 : w2.cell? ⟨w.heap.size + 1, 0, none⟩ = some (.string b.t) := (hb2.cell (p := ⟨w.heap.size + 1, 0, none⟩) hw1).trans b0
             have c1 : w2.cell? ⟨w.heap.size + 1, 1, none⟩ = some (.string b.i) := (hb2.cell (p := ⟨w.heap.size + 1, 1, none⟩) hw1).trans b1)
          | (go_at_call 24
             refine (has_any fb M ⟨b.t, b.i⟩ _ hset HBO.out).mono ?_
             rintro e w3 ⟨rfl, hb3⟩
             have HMM : Hid (∀ _, _) := hM
             clear hM))
        all_goals
          go_wp2_with fail
          go_ret2
          refine ⟨.inl ⟨HS0.out, _, rfl, ?_⟩, HB1.out.trans (((Below.refl w1.heap.size w1).drew.trans (hb2.trans (hb3.mono hb2.size))).mono HB1.out.size)⟩
          rw [decide_eq_true_iff, HMM.out]
          exact ⟨fun h => .inr h, fun h => h.elim (fun q => absurd q HAB.out) id⟩
  · have HE : Hid (eV (sfault es) = .iface 25 (.int .i64 (sfault es))) := eV_not h0
    have HN : Hid (sfault es ≠ 0) := h0
    clear h0
    rw [HE.out]
    go_wp2_with fail
    go_ret2
    exact ⟨.inr ⟨HN.out, by rw [HE.out]; rfl⟩, hbx.trans (hb1.mono hbx.size)⟩
end Go.Proofs.YtkpbholhempmmaaGreatDoor
