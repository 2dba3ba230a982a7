/- The document's Put: by a walk of its own text. -/
import Derived.Test.YtnpneglipogehaaDoorTreeRc
import Derived.Test.YtnpneglipogehaaDoorTreePut
namespace Go.Proofs.YtnpneglipogehaaDoor
open Go.RowKit
set_option linter.unusedVariables false

/-- How the document's Put ends where both are expressions. -/
def RPutRet (base : Nat) (w' : World) (L : List Nd) (e' : Ending) : Prop :=
  200 < L.length ∧ e' = .returned (.tuple #[.slice none 0 0, .int .i64 4]) ∨ L.length ≤ 200 ∧ ∃ v, e' = .returned (.tuple #[v, .int .i64 0]) ∧ ON w' base v L
theorem cnt_yes {e : List Nd} {s : ByteArray} {k : Nat} (h : k < e.length) (hs : isV s e[k] = true) : cntV s (e.take (k + 1)) = cntV s (e.take k) + 1 := by
  unfold cntV
  rw [List.take_succ_eq_append_getElem h, List.countP_append, List.countP_singleton, hs, if_pos rfl]
theorem cnt_no {e : List Nd} {s : ByteArray} {k : Nat} (h : k < e.length) (hs : isV s e[k] = false) : cntV s (e.take (k + 1)) = cntV s (e.take k) := by
  unfold cntV
  rw [List.take_succ_eq_append_getElem h, List.countP_append, List.countP_singleton, hs, if_neg (by simp), Nat.add_zero]

set_option maxRecDepth 100000 in
set_option maxHeartbeats 2000000 in
theorem rput_both (e V : List Nd) (p q : Option Addr) (c c2 : Nat) (s : ByteArray) (w : World) (he : NL w p e) (hV : NL w q V) (h1 : xfault e = 0) (h2 : xfault V = 0) :
    Calls Tryd.prog 4 #[.slice p e.length c, .string s, .slice q V.length c2] w fun e' w' => RPutRet w.heap.size w' (putE s V e) e' ∧ Below w.heap.size w w' := by
  have hel := (xfault_zero h1).1
  have hVl := (xfault_zero h2).1
  have hVne : V ≠ [] := fun h => by
    have := (xfault_zero h2).2
    rw [h] at this; cases this
  obtain ⟨b2, o2, rfl, hb2, hVc⟩ : ∃ b2 o2, q = some ⟨b2, o2, none⟩ ∧ b2 < w.heap.size ∧ NL w (some ⟨b2, o2, none⟩) V := by
    rcases hV with h | ⟨b2, o2, h3, h4, h5⟩
    · exact absurd h hVne
    · exact ⟨b2, o2, h3, h4, .inr ⟨b2, o2, rfl, h4, h5⟩⟩
  have hc1 := fun w1 (hb : Below w.heap.size w w1) => refFault_any e p c w1 (he.up hb) (by unfold maxLen; omega)
  have hc2 := fun w1 (hb : Below w.heap.size w w1) => refFault_any V (some ⟨b2, o2, none⟩) c2 w1 (hVc.up hb) (by unfold maxLen; omega)
  rw [h1] at hc1
  rw [h2] at hc2
  have hcl : cntV s e ≤ 200 := Nat.le_trans List.countP_le_length hel
  have hplen := putE_length s V e
  obtain ⟨m, hm⟩ : ∃ m, cntV s e * V.length = m := ⟨_, rfl⟩
  have hml : m ≤ 40000 := by rw [← hm]; exact Nat.mul_le_mul hcl hVl
  have hmi : (cntV s e : Int) * (V.length : Int) = (m : Int) := by rw [← hm]; simp
  rw [hm] at hplen
  have hcle : cntV s e ≤ e.length := List.countP_le_length
  have HCL : Hid ((putE s V e).length + cntV s e = e.length + m) := hplen
  clear hplen hm
  go_enter Tryd.func4, Tryd.ntmps4
  go_wp2_with fail
  refine (hc1 _ (Below.refl _ _)).mono ?_
  rintro e0 w1 ⟨rfl, k1⟩
  go_wp2_with fail
  refine (hc2 _ k1).mono ?_
  rintro e0 w2 ⟨rfl, k2'⟩
  have k2 := k1.trans (k2'.mono k1.size)
  clear k2' k1 hc1 hc2
  have he2 := he.up k2
  go_wp2
  go_loopw [9, 10] (fun sn i wr => ∃ k : Nat, k ≤ e.length ∧ i = .int .i64 k ∧ sn = .int .i64 (cntV s (e.take k)) ∧ wr = w2) (fun _ i _ => e.length - (intOf i).toNat)
  case atStart => exact ⟨0, Nat.zero_le _, rfl, rfl, rfl⟩
  case round =>
    obtain ⟨k, hk, rfl, rfl, rfl⟩ := hrel
    by_cases hlt : k < e.length
    · have i1 : (k : Int) < (e.length : Int) := by omega
      have hck : cntV s (e.take k) ≤ 200 := Nat.le_trans List.countP_le_length (by simp; omega)
      obtain ⟨b, off, rfl, hbw, x0, x1, x2, x3, xw⟩ := he2.at hlt
      cases hs : isV s e[k]
      · have HN : Hid (_ = _) := cnt_no hlt hs
        have hone : (e[k].op == 8) = false ∨ ((e[k].op == 8) = true ∧ (e[k].s.toList == s.toList) = false) := by
          unfold isV at hs
          rw [ByteArray.toList_eq, ByteArray.toList_eq]
          cases h8 : (e[k].op == 8)
          · exact .inl rfl
          · rw [h8, Bool.true_and] at hs; exact .inr ⟨rfl, hs⟩
        generalize e[k] = x at *
        generalize cntV s (e.take k) = zk at *
        clear hs
        rcases hone with h8 | ⟨h8, hse⟩
        all_goals
          go_wp2
          go_roundw
          case rel => exact ⟨k + 1, by omega, by go_num, by rw [HN.out], trivial⟩
          case measure => simp [intOf]; omega
      · have HN : Hid (_ = _) := cnt_yes hlt hs
        have hone : (e[k].op == 8) = true ∧ (e[k].s.toList == s.toList) = true := by
          unfold isV at hs
          rw [ByteArray.toList_eq, ByteArray.toList_eq]
          simpa using hs
        obtain ⟨h8, hse⟩ := hone
        generalize e[k] = x at *
        generalize cntV s (e.take k) = zk at *
        clear hs
        go_wp2
        go_roundw
        case rel => exact ⟨k + 1, by omega, by go_num, by rw [HN.out]; go_num, trivial⟩
        case measure => simp [intOf]; omega
    · obtain rfl : k = e.length := by omega
      rw [List.take_length]
      have i1 : ¬ (e.length : Int) < (e.length : Int) := by omega
      generalize cntV s e = cn at *
      by_cases hfull : 200 < (putE s V e).length
      · have i4 : (200 : Int) < (e.length : Int) - (cn : Int) + (m : Int) := by have := HCL.out; omega
        go_wp2
        go_ret2
        exact ⟨.inl ⟨hfull, rfl⟩, k2⟩
      · have i4 : ¬ (200 : Int) < (e.length : Int) - (cn : Int) + (m : Int) := by have := HCL.out; omega
        have HFU : Hid (¬ 200 < (putE s V e).length) := hfull
        clear hfull
        go_wp2
        go_loopw [11, 12] (fun ov i wz => ∃ k : Nat, k ≤ e.length ∧ i = .int .i64 k ∧ ON wz w.heap.size ov (putE s V (e.take k)) ∧ Below w.heap.size w wz) (fun _ i _ => e.length - (intOf i).toNat)
        case atStart => exact ⟨0, Nat.zero_le _, rfl, ON.nil _ _, k2⟩
        case round =>
          obtain ⟨k, hk, rfl, hon, hb⟩ := hrel
          have her := he.up hb
          have hsz : (putE s V (e.take k)).length ≤ 200 := by
            have := put_part e V s k
            have := HFU.out
            omega
          by_cases hlt : k < e.length
          · have i5 : (k : Int) < (e.length : Int) := by omega
            have HP : Hid (_ = _) := put_next (V := V) (s := s) hlt
            obtain ⟨b, off, hpe, hbw, x0, x1, x2, x3, xw⟩ := her.at hlt
            subst hpe
            generalize e[k] = x at *
            generalize hL0 : putE s V (e.take k) = L0 at *
            have HB1 : Hid (∀ o1, Below wr.heap.size wr (wr.alloc o1)) := fun o1 => (Below.refl _ _).alloc (Nat.le_refl _) o1
            have HON : Hid (ON wr w.heap.size u11 L0) := hon
            have HVR : Hid (NL wr (some ⟨b2, o2, none⟩) V) := hVc.up hb
            have hbs := hb.size
            clear hon hL0
            cases hs : isV s x
            · rw [rep_no hs] at HP
              have hone : (x.op == 8) = false ∨ ((x.op == 8) = true ∧ (x.s.toList == s.toList) = false) := by
                unfold isV at hs
                rw [ByteArray.toList_eq, ByteArray.toList_eq]
                cases h8 : (x.op == 8)
                · exact .inl rfl
                · rw [h8, Bool.true_and] at hs; exact .inr ⟨rfl, hs⟩
              clear hs
              rcases hone with h8 | ⟨h8, hse⟩
              all_goals
                go_wp2_with (at_builtin; refine append_nodes _ rfl (.tmp 79) (.tmp 84) rfl w.heap.size u11 L0 rfl (HON.out.below (HB1.out _)) [x] 1 rfl wr.heap.size 0 1 (NL.single _ _ x xw rfl) rfl (by simp; omega) (by simp; omega) ?_; intro v1 w3 hon1 hk1; have HO2 : Hid (ON w3 w.heap.size v1 (L0 ++ [x])) := hon1
                             have hb3 := hb.trans (((HB1.out _).mono hbs).trans hk1.bel); clear hon1)
                go_roundw
                case rel => exact ⟨k + 1, by omega, by go_num, by rw [HP.out]; exact HO2.out, hb3⟩
                case measure => simp [intOf]; omega
            · rw [rep_yes hs] at HP
              have hone : (x.op == 8) = true ∧ (x.s.toList == s.toList) = true := by
                unfold isV at hs
                rw [ByteArray.toList_eq, ByteArray.toList_eq]
                simpa using hs
              obtain ⟨h8, hse⟩ := hone
              clear hs
              go_wp2_with (at_builtin; refine append_nodes _ rfl (.tmp 76) (.tmp 77) rfl w.heap.size u11 L0 rfl HON.out V V.length rfl b2 o2 c2 HVR.out rfl (by omega) (by omega) ?_; intro v1 w3 hon1 hk1; have HO2 : Hid (ON w3 w.heap.size v1 (L0 ++ V)) := hon1
                           have hb3 := hb.trans hk1.bel; clear hon1)
              go_roundw
              case rel => exact ⟨k + 1, by omega, by go_num, by rw [HP.out]; exact HO2.out, hb3⟩
              case measure => simp [intOf]; omega
          · have i5 : ¬ (k : Int) < (e.length : Int) := by omega
            rw [List.take_of_length_le (by omega)] at hon hsz
            have HON : Hid (ON wr w.heap.size u11 (putE s V e)) := hon
            clear hon
            go_wp2
            go_ret2
            exact ⟨.inr ⟨hsz, _, rfl, HON.out⟩, hb⟩

/-- What the document's Put tells of all there is. -/
theorem rput_ok (e V : List Nd) (p q : Option Addr) (c c2 : Nat) (s : ByteArray) (w : World) (he : NL w p e) (hV : NL w q V) (h : pfault e V s = 0) :
    Calls Tryd.prog 4 #[.slice p e.length c, .string s, .slice q V.length c2] w fun e' w' => ∃ g d, e' = .returned (.tuple #[.slice g (putE s V e).length d, .int .i64 0]) ∧ NL w' g (putE s V e) ∧ (putE s V e).length ≤ d ∧ d ≤ maxLen ∧ Below w.heap.size w w' := by
  obtain ⟨h1, h2, h3⟩ := pfault_zero h
  refine (rput_both e V p q c c2 s w he hV h1 h2).mono ?_
  rintro e' w' ⟨hr, hb⟩
  rcases hr with ⟨hr, _⟩ | ⟨_, v, rfl, hon⟩
  · omega
  · obtain ⟨g, d, rfl, h4, h5, h6⟩ := hon.lies
    exact ⟨g, d, rfl, h4, h5, h6, hb⟩
theorem rput_bad (e V : List Nd) (p q : Option Addr) (c c2 : Nat) (s : ByteArray) (w : World) (he : NL w p e) (hV : NL w q V) (hel : e.length ≤ maxLen) (hVl : V.length ≤ maxLen) (h : pfault e V s ≠ 0) :
    Calls Tryd.prog 4 #[.slice p e.length c, .string s, .slice q V.length c2] w fun e' w' => e' = .returned (.tuple #[.slice none 0 0, .int .i64 (pfault e V s)]) ∧ Below w.heap.size w w' := by
  by_cases h1 : xfault e = 0
  · by_cases h2 : xfault V = 0
    · refine (rput_both e V p q c c2 s w he hV h1 h2).mono ?_
      rintro e' w' ⟨hr, hb⟩
      unfold pfault at h ⊢
      rw [if_pos h1, if_pos h2] at h ⊢
      rcases hr with ⟨hr, rfl⟩ | ⟨hr, _⟩
      · rw [if_pos hr]; exact ⟨rfl, hb⟩
      · rw [if_neg (by omega)] at h; exact absurd rfl h
    · have HF : Hid (pfault e V s = xfault V) := by show _ = _; unfold pfault; rw [if_pos h1, if_neg h2]
      rw [HF.out]
      have hc1 := fun w1 (hb : Below w.heap.size w w1) => refFault_any e p c w1 (he.up hb) hel
      have hc2 := fun w1 (hb : Below w.heap.size w w1) => refFault_any V q c2 w1 (hV.up hb) hVl
      rw [h1] at hc1
      have hne : (xfault V != 0) = true := by simpa using h2
      clear HF h h2
      generalize xfault V = xv at *
      go_enter Tryd.func4, Tryd.ntmps4
      go_wp2_with fail
      refine (hc1 _ (Below.refl _ _)).mono ?_
      rintro e0 w1 ⟨rfl, k1⟩
      go_wp2_with fail
      refine (hc2 _ k1).mono ?_
      rintro e0 w2 ⟨rfl, k2'⟩
      go_wp2
      go_ret2
      exact ⟨rfl, k1.trans (k2'.mono k1.size)⟩
  · have HF : Hid (pfault e V s = xfault e) := by show _ = _; unfold pfault; rw [if_neg h1]
    rw [HF.out]
    have hc1 := refFault_any e p c w he hel
    have hne : (xfault e != 0) = true := by simpa using h1
    have hne2 : (xfault e == 0) = false := by simpa using h1
    clear HF h h1
    generalize xfault e = xe at *
    go_enter Tryd.func4, Tryd.ntmps4
    go_wp2_with fail
    refine hc1.mono ?_
    rintro e0 w1 ⟨rfl, k1⟩
    go_wp2
    go_ret2
    exact ⟨rfl, k1⟩
end Go.Proofs.YtnpneglipogehaaDoor
