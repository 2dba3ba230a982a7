/- Package tree's Put: by a walk of its own text. -/
import Derived.Test.YtglhjhbhijekjaaGreatDoorG14
import Derived.Test.YtglhjhbhijekjaaGreatDoorG13
namespace Go.Proofs.YtglhjhbhijekjaaGreatDoor
open Go.RowKit
set_option linter.unusedVariables false

/-- What is wrong with e, with v, or with what would be made of them. -/
def pfault (e V : List Nd) (s : ByteArray) : Int := if xfault e = 0 then (if xfault V = 0 then (if 200 < (putE s V e).length then 4 else 0) else xfault V) else xfault e
theorem pfault_zero {e V : List Nd} {s : ByteArray} (h : pfault e V s = 0) : xfault e = 0 ∧ xfault V = 0 ∧ (putE s V e).length ≤ 200 := by
  unfold pfault at h
  by_cases h1 : xfault e = 0
  · rw [if_pos h1] at h
    by_cases h2 : xfault V = 0
    · rw [if_pos h2] at h
      by_cases h3 : 200 < (putE s V e).length
      · rw [if_pos h3] at h; cases h
      · exact ⟨h1, h2, by omega⟩
    · rw [if_neg h2] at h; exact absurd h h2
  · rw [if_neg h1] at h; exact absurd h h1

theorem take_snocN {e : List Nd} {k : Nat} (h : k < e.length) : e.take (k + 1) = e.take k ++ [e[k]] := List.take_succ_eq_append_getElem h
theorem put_next {e V : List Nd} {s : ByteArray} {k : Nat} (h : k < e.length) : putE s V (e.take (k + 1)) = putE s V (e.take k) ++ rep s V e[k] := by
  rw [take_snocN h, putE_append, putE_cons, putE_nil, List.append_nil]
theorem put_part (e V : List Nd) (s : ByteArray) (k : Nat) : (putE s V (e.take k)).length ≤ (putE s V e).length := by
  have := putE_le s V (a := e.take k) (b := e.drop k)
  rw [List.take_append_drop] at this
  exact this
theorem ON.nil (w : World) (base : Nat) : ON w base (.slice none 0 0) [] := ⟨World.ownsRow_nil _ _ _ _, fun x hx => by cases hx⟩

/-- How Put ends where both are expressions. -/
def PutRet (base : Nat) (w' : World) (L : List Nd) (e' : Ending) : Prop :=
  200 < L.length ∧ e' = .returned (.tuple #[.slice none 0 0, eV 4]) ∨ L.length ≤ 200 ∧ ∃ v, e' = .returned (.tuple #[v, .nilIface]) ∧ ON w' base v L

set_option maxRecDepth 100000 in
set_option maxHeartbeats 2000000 in
theorem tput_both (e V : List Nd) (p q : Option Addr) (c c2 : Nat) (s : ByteArray) (w : World) (he : NL w p e) (hV : NL w q V) (h1 : xfault e = 0) (h2 : xfault V = 0) :
    Calls Tryz.prog 20 #[.slice p e.length c, .string s, .slice q V.length c2] w fun e' w' => PutRet w.heap.size w' (putE s V e) e' ∧ Below w.heap.size w w' := by
  have hel := (xfault_zero h1).1
  have hVl := (xfault_zero h2).1
  have hVne : V ≠ [] := fun h => by
    have := (xfault_zero h2).2
    rw [h] at this; cases this
  obtain ⟨b2, o2, rfl, hb2, hVc⟩ : ∃ b2 o2, q = some ⟨b2, o2, none⟩ ∧ b2 < w.heap.size ∧ NL w (some ⟨b2, o2, none⟩) V := by
    rcases hV with h | ⟨b2, o2, h3, h4, h5⟩
    · exact absurd h hVne
    · exact ⟨b2, o2, h3, h4, .inr ⟨b2, o2, rfl, h4, h5⟩⟩
  have hc1 := fun w1 (hb : Below w.heap.size w w1) => tcheck_any e p c w1 (he.up hb) (by unfold maxLen; omega)
  have hc2 := fun w1 (hb : Below w.heap.size w w1) => tcheck_any V (some ⟨b2, o2, none⟩) c2 w1 (hVc.up hb) (by unfold maxLen; omega)
  rw [eV_nil h1] at hc1
  rw [eV_nil h2] at hc2
  go_enter Tryz.func20, Tryz.ntmps20
  go_wp2_with fail
  refine (hc1 _ (Below.refl _ _)).mono ?_
  rintro e0 w1 ⟨rfl, k1⟩
  go_wp2_with fail
  refine (hc2 _ k1).mono ?_
  rintro e0 w2 ⟨rfl, k2'⟩
  have k2 := k1.trans (k2'.mono k1.size)
  clear k2' k1 hc1 hc2
  go_wp2
  go_loopw [10, 25] (fun ov i wr => ∃ k : Nat, k ≤ e.length ∧ i = .int .i64 k ∧ ON wr w.heap.size ov (putE s V (e.take k)) ∧ (putE s V (e.take k)).length ≤ 200 ∧ Below w.heap.size w wr) (fun _ i _ => e.length - (intOf i).toNat)
  case atStart => exact ⟨0, Nat.zero_le _, rfl, ON.nil _ _, Nat.zero_le _, k2⟩
  case round =>
    obtain ⟨k, hk, rfl, hon, hsz, hb⟩ := hrel
    have her := he.up hb
    by_cases hlt : k < e.length
    · have i1 : (k : Int) < (e.length : Int) := by omega
      have HP : Hid (_ = _) := put_next (V := V) (s := s) hlt
      have HQ : Hid (_ ≤ _) := put_part e V s (k + 1)
      obtain ⟨b, off, rfl, hbw, x0, x1, x2, x3, xw⟩ := her.at hlt
      generalize e[k] = x at *
      have HNE : Hid (putE s V (e.take (k + 1)) ≠ []) := by
        show _ ≠ _
        rw [HP.out]
        cases hs : isV s x
        · rw [rep_no hs]; simp
        · rw [rep_yes hs]; intro h; exact hVne (List.append_eq_nil_iff.1 h).2
      have HRL : Hid ((rep s V x).length ≤ 200) := by
        show _ ≤ _
        cases hs : isV s x
        · rw [rep_no hs]; simp
        · rw [rep_yes hs]; exact hVl
      generalize hL0 : putE s V (e.take k) = L0 at *
      generalize hL1 : putE s V (e.take (k + 1)) = L1 at *
      have HL1 : Hid (_ = _) := hL1
      have HB2 : Hid (∀ o1 o2, Below wr.heap.size wr ((wr.alloc o1).alloc o2)) := fun o1 o2 => ((Below.refl _ _).alloc (Nat.le_refl _) o1).alloc (by simp) o2
      have HB1 : Hid (∀ o1, Below wr.heap.size wr (wr.alloc o1)) := fun o1 => (Below.refl _ _).alloc (Nat.le_refl _) o1
      have HON : Hid (ON wr w.heap.size u10 L0) := hon
      have HVR : Hid (NL wr (some ⟨b2, o2, none⟩) V) := hVc.up hb
      have hbs := hb.size
      clear hon hL0 hL1
      cases hs : isV s x
      · rw [rep_no hs] at HP
        have hone : (x.op == 8) = false ∨ ((x.op == 8) = true ∧ (x.s.toList == s.toList) = false) := by
          unfold isV at hs
          rw [ByteArray.toList_eq, ByteArray.toList_eq]
          cases h8 : (x.op == 8)
          · exact .inl rfl
          · rw [h8, Bool.true_and] at hs; exact .inr ⟨rfl, hs⟩
        clear hs
        by_cases hfull : 200 < L1.length
        · have i3 : (200 : Int) < (L1.length : Int) := by omega
          rcases hone with h8 | ⟨h8, hse⟩
          all_goals
            go_wp2_with (at_builtin; refine append_nodes _ rfl (.tmp 41) (.tmp 43) rfl w.heap.size u10 L0 rfl (HON.out.below (HB2.out _ _)) [x] 1 rfl (wr.heap.size + 1) 0 1 (NL.single _ _ x xw (by simp)) rfl (by simp; omega) (by simp; omega) ?_; intro v1 w3 hon1 hk1; have hon2 : ON w3 w.heap.size v1 L1 := by rw [HP.out]; exact hon1
                         obtain ⟨g1, cap1, rfl, hg1, hg2, hg3, hg4, hg5, _⟩ := hon2.slice HNE.out; have hb3 := hb.trans (((HB2.out _ _).mono hbs).trans hk1.bel); clear hon1 hon2 hg5)
            go_ret2
            exact ⟨.inl ⟨by have := HQ.out; omega, rfl⟩, hb3⟩
        · have i3 : ¬ (200 : Int) < (L1.length : Int) := by omega
          rcases hone with h8 | ⟨h8, hse⟩
          all_goals
            go_wp2_with (at_builtin; refine append_nodes _ rfl (.tmp 41) (.tmp 43) rfl w.heap.size u10 L0 rfl (HON.out.below (HB2.out _ _)) [x] 1 rfl (wr.heap.size + 1) 0 1 (NL.single _ _ x xw (by simp)) rfl (by simp; omega) (by simp; omega) ?_; intro v1 w3 hon1 hk1; have hon2 : ON w3 w.heap.size v1 L1 := by rw [HP.out]; exact hon1
                         have HO2 : Hid (ON w3 w.heap.size v1 L1) := hon2
                         obtain ⟨g1, cap1, rfl, hg1, hg2, hg3, hg4, hg5, _⟩ := hon2.slice HNE.out; have hb3 := hb.trans (((HB2.out _ _).mono hbs).trans hk1.bel); clear hon1 hon2 hg5)
            go_roundw
            case rel => exact ⟨k + 1, by omega, by go_num, by rw [HL1.out]; exact HO2.out, by rw [HL1.out]; omega, hb3⟩
            case measure => simp [intOf]; omega
      · rw [rep_yes hs] at HP
        have hone : (x.op == 8) = true ∧ (x.s.toList == s.toList) = true := by
          unfold isV at hs
          rw [ByteArray.toList_eq, ByteArray.toList_eq]
          simpa using hs
        obtain ⟨h8, hse⟩ := hone
        clear hs
        by_cases hfull : 200 < L1.length
        · have i3 : (200 : Int) < (L1.length : Int) := by omega
          go_wp2_with (at_builtin; refine append_nodes _ rfl (.tmp 38) (.tmp 39) rfl w.heap.size u10 L0 rfl (HON.out.below (HB1.out _)) V V.length rfl b2 o2 c2 (HVR.out.up (HB1.out _)) rfl (by omega) (by simp; omega) ?_; intro v1 w3 hon1 hk1; have hon2 : ON w3 w.heap.size v1 L1 := by rw [HP.out]; exact hon1
                       obtain ⟨g1, cap1, rfl, hg1, hg2, hg3, hg4, hg5, _⟩ := hon2.slice HNE.out; have hb3 := hb.trans (((HB1.out _).mono hbs).trans hk1.bel); clear hon1 hon2 hg5)
          go_ret2
          exact ⟨.inl ⟨by have := HQ.out; omega, rfl⟩, hb3⟩
        · have i3 : ¬ (200 : Int) < (L1.length : Int) := by omega
          go_wp2_with (at_builtin; refine append_nodes _ rfl (.tmp 38) (.tmp 39) rfl w.heap.size u10 L0 rfl (HON.out.below (HB1.out _)) V V.length rfl b2 o2 c2 (HVR.out.up (HB1.out _)) rfl (by omega) (by simp; omega) ?_; intro v1 w3 hon1 hk1; have hon2 : ON w3 w.heap.size v1 L1 := by rw [HP.out]; exact hon1
                       have HO2 : Hid (ON w3 w.heap.size v1 L1) := hon2
                       obtain ⟨g1, cap1, rfl, hg1, hg2, hg3, hg4, hg5, _⟩ := hon2.slice HNE.out; have hb3 := hb.trans (((HB1.out _).mono hbs).trans hk1.bel); clear hon1 hon2 hg5)
          go_roundw
          case rel => exact ⟨k + 1, by omega, by go_num, by rw [HL1.out]; exact HO2.out, by rw [HL1.out]; omega, hb3⟩
          case measure => simp [intOf]; omega
    · have i1 : ¬ (k : Int) < (e.length : Int) := by omega
      rw [List.take_of_length_le (by omega)] at hon hsz
      have HON : Hid (ON wr w.heap.size u10 (putE s V e)) := hon
      clear hon
      go_wp2
      go_ret2
      exact ⟨.inr ⟨hsz, _, rfl, HON.out⟩, hb⟩

theorem ON.lies {w : World} {base : Nat} {v : Value} {L : List Nd} (h : ON w base v L) : ∃ q c, v = .slice q L.length c ∧ NL w q L ∧ L.length ≤ c ∧ c ≤ maxLen := by
  obtain ⟨q, c, e, hnt, h1, h2⟩ := NL.of_row h.2 h.1
  exact ⟨q, c, e, hnt.1, h1, h2⟩
/-- What Put tells of all there is. -/
theorem tput_ok (e V : List Nd) (p q : Option Addr) (c c2 : Nat) (s : ByteArray) (w : World) (he : NL w p e) (hV : NL w q V) (h : pfault e V s = 0) :
    Calls Tryz.prog 20 #[.slice p e.length c, .string s, .slice q V.length c2] w fun e' w' => ∃ g d, e' = .returned (.tuple #[.slice g (putE s V e).length d, .nilIface]) ∧ NL w' g (putE s V e) ∧ (putE s V e).length ≤ d ∧ d ≤ maxLen ∧ Below w.heap.size w w' := by
  obtain ⟨h1, h2, h3⟩ := pfault_zero h
  refine (tput_both e V p q c c2 s w he hV h1 h2).mono ?_
  rintro e' w' ⟨hr, hb⟩
  rcases hr with ⟨hr, _⟩ | ⟨_, v, rfl, hon⟩
  · omega
  · obtain ⟨g, d, rfl, h4, h5, h6⟩ := hon.lies
    exact ⟨g, d, rfl, h4, h5, h6, hb⟩
theorem tput_bad (e V : List Nd) (p q : Option Addr) (c c2 : Nat) (s : ByteArray) (w : World) (he : NL w p e) (hV : NL w q V) (hel : e.length ≤ maxLen) (hVl : V.length ≤ maxLen) (h : pfault e V s ≠ 0) :
    Calls Tryz.prog 20 #[.slice p e.length c, .string s, .slice q V.length c2] w fun e' w' => e' = .returned (.tuple #[.slice none 0 0, eV (pfault e V s)]) ∧ Below w.heap.size w w' := by
  by_cases h1 : xfault e = 0
  · by_cases h2 : xfault V = 0
    · refine (tput_both e V p q c c2 s w he hV h1 h2).mono ?_
      rintro e' w' ⟨hr, hb⟩
      unfold pfault at h ⊢
      rw [if_pos h1, if_pos h2] at h ⊢
      rcases hr with ⟨hr, rfl⟩ | ⟨hr, _⟩
      · rw [if_pos hr]; exact ⟨rfl, hb⟩
      · rw [if_neg (by omega)] at h; exact absurd rfl h
    · have HF : Hid (pfault e V s = xfault V) := by show _ = _; unfold pfault; rw [if_pos h1, if_neg h2]
      rw [HF.out]
      have hc1 := fun w1 (hb : Below w.heap.size w w1) => tcheck_any e p c w1 (he.up hb) hel
      have hc2 := fun w1 (hb : Below w.heap.size w w1) => tcheck_any V q c2 w1 (hV.up hb) hVl
      rw [eV_nil h1] at hc1
      rw [eV_not h2] at hc2
      rw [eV_not h2]
      go_enter Tryz.func20, Tryz.ntmps20
      go_wp2_with fail
      refine (hc1 _ (Below.refl _ _)).mono ?_
      rintro e0 w1 ⟨rfl, k1⟩
      go_wp2_with fail
      refine (hc2 _ k1).mono ?_
      rintro e0 w2 ⟨rfl, k2'⟩
      go_wp2
      go_ret2
      exact ⟨rfl, k1.trans (k2'.mono k1.size)⟩
  · have HF : Hid (pfault e V s = xfault e) := by show _ = _; unfold pfault; rw [if_neg h1]
    rw [HF.out]
    have hc1 := tcheck_any e p c w he hel
    rw [eV_not h1] at hc1 ⊢
    go_enter Tryz.func20, Tryz.ntmps20
    go_wp2_with fail
    refine hc1.mono ?_
    rintro e0 w1 ⟨rfl, k1⟩
    go_wp2
    go_ret2
    exact ⟨rfl, k1⟩
end Go.Proofs.YtglhjhbhijekjaaGreatDoor
