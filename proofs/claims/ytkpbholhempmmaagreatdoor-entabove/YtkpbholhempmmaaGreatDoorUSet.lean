/- Package ent's sets of uids (has, put) and what it tells of those right above an entity: by walks of their own texts. -/
import Derived.Test.YtkpbholhempmmaaGreatDoorUMap
import Derived.Test.YtkpbholhempmmaaGreatDoorWrite
import Derived.Maps.OwnOps
namespace Go.Proofs.YtkpbholhempmmaaGreatDoor
open Go.RowKit Go.Maps Go.WideMaps
set_option linter.unusedVariables false
set_option linter.unusedSimpArgs false

theorem gb_of {w w' : World} (h : Below w.heap.size w w') : w.grownBy w' none := ⟨h.os, h.tape, h.output, h.size, fun i hi _ => h.block i hi⟩
theorem USet.up {w w' : World} {b : Nat} {L : List Ui} (h : USet w b L) (k : Below w.heap.size w w') : USet w' b L := h.kept (gb_of k) (by simp)
theorem EMap.up {w0 w w' : World} {b : Nat} {es : List En} (h : EMap w0 w b es) (k : Below w.heap.size w w') : EMap w0 w' b es := h.kept (gb_of k) (by simp)
theorem zeroUnit (w : World) : (zeroValue 60).run Tryz.prog w = .ok (.agg #[]) w := by kernel_rfl

set_option maxHeartbeats 1000000 in
theorem has_any (b : Nat) (L : List Ui) (u : Ui) (w : World) (hs : USet w b L) (hu : UOk u) :
    Calls Tryz.prog 24 #[.map (some b), .agg #[.string u.t, .string u.i]] w fun e w' => e = .returned (.bool (decide (u ∈ L))) ∧ Below w.heap.size w w' := by
  obtain ⟨D, h1, h2, _⟩ := hs
  have HD : Hid (Maps.has D (klit u) = decide (u ∈ L)) := by
    show _ = _
    rw [Bool.eq_iff_iff, h2 u hu, decide_eq_true_iff]
  have hown := h1.alloc (.cells #[.string u.t, .string u.i] 24)
  have hkey : keyOf Tryz.prog 24 (.agg #[.string u.t, .string u.i]) = some (klit u) := keyOf_uid hu
  go_enter Tryz.func24, Tryz.ntmps24
  go_wp2_with (at_lookup; refine wpList_lookup_own_unit _ rfl _ _ 59 rfl 24 60 uid_law Tryz.underlying59 (zeroUnit _) b L.length D rfl hown _ _ rfl hkey ?_)
  go_ret
  exact ⟨by rw [HD.out]; rfl, ((Below.refl _ _).alloc (Nat.le_refl _) _).alloc (by simp) _⟩

/-- What put tells. -/
def pfault (L : List Ui) (u : Ui) : Int := if uf u = 0 then (if u ∈ L then 6 else 0) else uf u

set_option maxHeartbeats 1000000 in
theorem put_err (b : Nat) (L : List Ui) (u : Ui) (w : World) (hs : USet w b L) (hu : UOk u) (hp : pfault L u ≠ 0) :
    Calls Tryz.prog 30 #[.map (some b), .agg #[.string u.t, .string u.i]] w fun e w' => e = .returned (eV (pfault L u)) ∧ Below w.heap.size w w' := by
  by_cases h0 : uf u = 0
  · have HE : Hid (eV (ufault u.t.data.toList u.i.data.toList) = .nilIface) := eV_nil h0
    have hm : u ∈ L := by
      unfold pfault at hp
      rw [if_pos h0] at hp
      by_cases h : u ∈ L
      · exact h
      · rw [if_neg h] at hp; exact absurd rfl hp
    have HP : Hid (pfault L u = 6) := by show _ = _; unfold pfault; rw [if_pos h0, if_pos hm]
    have HM : Hid (decide (u ∈ L) = true) := decide_eq_true hm
    clear h0 hm hp
    go_enter Tryz.func30, Tryz.ntmps30
    go_wp2_with fail
    refine (write_any u.t u.i _ hu.1 hu.2).mono ?_
    rintro e w1 ⟨q, rfl, hb1⟩
    rw [HE.out]
    have hb : Below w.heap.size w w1 := ((Below.refl _ _).alloc (Nat.le_refl _) _).trans (hb1.mono (by simp))
    have hc1 : ∀ o, w1.cell? ⟨w.heap.size, o, none⟩ = _ := fun o => hb1.cell (p := ⟨w.heap.size, o, none⟩) (by simp)
    go_wp2_with fail
    refine (has_any b L u _ (hs.up hb) hu).mono ?_
    rintro e w2 ⟨rfl, hb2⟩
    rw [HM.out]
    go_wp2_with fail
    go_ret
    exact ⟨by rw [HP.out]; rfl, hb.trans (hb2.mono hb.size)⟩
  · have HE : Hid (eV (ufault u.t.data.toList u.i.data.toList) = .iface 25 (.int .i64 (uf u))) := eV_not h0
    have HP : Hid (eV (pfault L u) = .iface 25 (.int .i64 (uf u))) := by
      show _ = _
      unfold pfault; rw [if_neg h0]; exact eV_not h0
    clear h0 hp
    go_enter Tryz.func30, Tryz.ntmps30
    go_wp2_with fail
    refine (write_any u.t u.i _ hu.1 hu.2).mono ?_
    rintro e w1 ⟨q, rfl, hb1⟩
    rw [HE.out]
    have hb : Below w.heap.size w w1 := ((Below.refl _ _).alloc (Nat.le_refl _) _).trans (hb1.mono (by simp))
    go_wp2_with fail
    go_ret
    exact ⟨by rw [HP.out]; rfl, hb⟩

set_option maxHeartbeats 1000000 in
theorem put_ok (b : Nat) (L : List Ui) (u : Ui) (w : World) (hs : USet w b L) (hu : UOk u) (hp : pfault L u = 0) (hl : L.length < 1000) :
    Calls Tryz.prog 30 #[.map (some b), .agg #[.string u.t, .string u.i]] w fun e w' => e = .returned .nilIface ∧ USet w' b (L ++ [u]) ∧ w.grownBy w' (some b) := by
  have h0 : uf u = 0 := by
    by_cases h0 : uf u = 0
    · exact h0
    · unfold pfault at hp; rw [if_neg h0] at hp; exact absurd hp h0
  have hm : u ∉ L := fun h => by unfold pfault at hp; rw [if_pos h0, if_pos h] at hp; cases hp
  have HE : Hid (eV (ufault u.t.data.toList u.i.data.toList) = .nilIface) := eV_nil h0
  have HM : Hid (decide (u ∈ L) = false) := decide_eq_false hm
  have HN : Hid (u ∉ L) := hm
  have HS : Hid (USet w b L) := hs
  have hkey : keyOf Tryz.prog 24 (.agg #[.string u.t, .string u.i]) = some (klit u) := keyOf_uid hu
  clear h0 hm hp hs
  go_enter Tryz.func30, Tryz.ntmps30
  go_wp2_with fail
  refine (write_any u.t u.i _ hu.1 hu.2).mono ?_
  rintro e w1 ⟨q, rfl, hb1⟩
  rw [HE.out]
  have hb : Below w.heap.size w w1 := ((Below.refl _ _).alloc (Nat.le_refl _) _).trans (hb1.mono (by simp))
  have hc1 : ∀ o, w1.cell? ⟨w.heap.size, o, none⟩ = _ := fun o => hb1.cell (p := ⟨w.heap.size, o, none⟩) (by simp)
  go_wp2_with fail
  refine (has_any b L u _ (HS.out.up hb) hu).mono ?_
  rintro e w2 ⟨rfl, hb2⟩
  rw [HM.out]
  have hbb : Below w.heap.size w w2 := hb.trans (hb2.mono hb.size)
  have hz1 : w.heap.size < w1.heap.size := by have := hb1.size; simp at this; omega
  have hc2 : ∀ o, w2.cell? ⟨w.heap.size, o, none⟩ = _ := fun o => (hb2.cell (p := ⟨w.heap.size, o, none⟩) hz1).trans (hc1 o)
  have HS2 := HS.out.up hbb
  obtain ⟨D, h1, h2, h3, h4, h5, h6⟩ := HS2
  have HT : Hid (_ ∧ _) := USet.put (d := .agg []) h1.isMap (h1.tidy uid_law) h2 h3 h4 h5 h6 hu HN.out
  clear h2 h3 h4 h5 h6
  go_wp2_with (at_mapUpdate; refine wpList_mapUpdate_own _ rfl _ _ _ 59 rfl 24 60 uid_law Tryz.underlying59 _ b L.length D rfl h1 (by unfold maxLen; omega) _ _ (klit u) rfl rfl hkey (.agg []) [] unitElem_mk ?_; intro w3 hown3 hg3)
  go_ret
  refine ⟨rfl, ⟨_, by simpa using hown3, HT.out⟩, ((gb_of hbb).but _).trans hg3⟩

set_option maxHeartbeats 1000000 in
theorem checkUp_any (l : List Ui) (p : Option Addr) (c : Nat) (w : World) (hl : UL w p l) (hc : l.length ≤ c) (hcm : c ≤ maxLen) (hu : ∀ x ∈ l, UOk x) :
    Calls Tryz.prog 31 #[.slice p l.length c] w fun e w' => e = .returned (eV (ffup l)) ∧ Below w.heap.size w w' := by
  by_cases h6 : 6 < l.length
  · have h' : (6 : Int) < (l.length : Int) := by omega
    have HF : Hid (ffup l = 4) := if_pos h6
    go_enter Tryz.func31, Tryz.ntmps31
    go_wp2_with fail
    go_ret
    exact ⟨by rw [HF.out]; rfl, Below.refl _ _⟩
  · have h' : ¬ (6 : Int) < (l.length : Int) := by omega
    have HF : Hid (ffup l = upf [] l) := if_neg h6
    have HU : Hid (∀ x ∈ l, UOk x) := hu
    have HL : Hid (UL w p l) := hl
    clear hu hl
    have hmm := @run_makeMap Tryz.prog
    go_enter Tryz.func31, Tryz.ntmps31
    go_wp2_with fail
    go_loopw [14] (fun i wr => ∃ k : Nat, k ≤ l.length ∧ i = .int .i64 k ∧ USet wr w.heap.size (l.take k) ∧ Below w.heap.size w wr ∧ Hid (upf [] l = upf (l.take k) (l.drop k))) (fun i _ => l.length - (intOf i).toNat)
    case atStart => exact ⟨0, Nat.zero_le _, rfl, by simpa using USet.made w, (Below.refl _ _).alloc (Nat.le_refl _) _, by simp [Hid]⟩
    case round =>
      obtain ⟨k, hk, rfl, hset, hnx, HR⟩ := hrel
      by_cases hlt : k < l.length
      · have i1 : (k : Int) < (l.length : Int) := by omega
        obtain ⟨b, off, rfl, hbl, hc0, hc1⟩ := (HL.out.up hnx).at hlt
        have hou := HU.out _ (List.getElem_mem hlt)
        have HD : Hid (l.drop k = l[k] :: l.drop (k + 1)) := List.drop_eq_getElem_cons hlt
        have HT : Hid (l.take (k + 1) = l.take k ++ [l[k]]) := List.take_succ_eq_append_getElem hlt
        generalize l[k] = u at hc0 hc1 hou HD HT
        by_cases hp : pfault (l.take k) u = 0
        · have HR2 : Hid (upf [] l = upf (l.take (k + 1)) (l.drop (k + 1))) := by
            show _ = _
            rw [HR.out, HD.out, HT.out]
            unfold pfault at hp
            by_cases h0 : uf u = 0
            · rw [if_pos h0] at hp
              by_cases hm : u ∈ l.take k
              · rw [if_pos hm] at hp; cases hp
              · conv => lhs; unfold upf
                rw [if_pos h0, if_neg hm]
            · rw [if_neg h0] at hp; exact absurd hp h0
          have HP : Hid (_ = _) := hp
          clear hp
          go_wp2_with fail
          refine (put_ok w.heap.size (l.take k) u _ (hset.up ((Below.refl _ _).alloc (Nat.le_refl _) _)) hou HP.out (by rw [List.length_take]; omega)).mono ?_
          rintro e w1 ⟨rfl, hset1, hg1⟩
          go_wp2_with fail
          go_roundw
          case rel => exact ⟨k + 1, by omega, by go_num, by rw [HT.out]; exact hset1, (hnx.alloc hnx.size _).grown hg1 (by simp; have := hnx.size; omega) (fun j hj => by cases hj; exact Nat.le_refl _), HR2⟩
          case measure => simp [intOf]; omega
        · have HR2 : Hid (upf [] l = pfault (l.take k) u) := by
            show _ = _
            rw [HR.out, HD.out]
            unfold pfault upf at *
            by_cases h0 : uf u = 0
            · rw [if_pos h0] at hp ⊢
              by_cases hm : u ∈ l.take k
              · rw [if_pos hm, if_pos h0, if_pos hm]
              · rw [if_neg hm] at hp; exact absurd rfl hp
            · rw [if_neg h0, if_neg h0]
          have HE : Hid (eV (pfault (l.take k) u) = .iface 25 (.int .i64 (pfault (l.take k) u))) := eV_not hp
          have HP : Hid (_ ≠ _) := hp
          clear hp
          go_wp2_with fail
          refine (put_err w.heap.size (l.take k) u _ (hset.up ((Below.refl _ _).alloc (Nat.le_refl _) _)) hou HP.out).mono ?_
          rintro e w1 ⟨rfl, hb1⟩
          rw [HE.out]
          go_wp2_with fail
          go_ret
          exact ⟨by rw [HF.out, HR2.out, HE.out]; rfl, (hnx.alloc hnx.size _).trans (hb1.mono (by simp; have := hnx.size; omega))⟩
      · obtain rfl : k = l.length := by omega
        have i1 : ¬ (l.length : Int) < (l.length : Int) := by omega
        have HR2 : Hid (upf [] l = 0) := by show _ = _; rw [HR.out, List.drop_length]; rfl
        go_wp2_with fail
        go_ret
        exact ⟨by rw [HF.out, HR2.out]; rfl, hnx⟩
end Go.Proofs.YtkpbholhempmmaaGreatDoor
