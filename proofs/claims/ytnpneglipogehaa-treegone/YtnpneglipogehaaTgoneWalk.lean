/- TreeGone: the walk of the statement's own function. -/
import Derived.Test.YtnpneglipogehaaTreeLit
namespace Go.Proofs.Ytnpneglipogehaa
open Go.RowKit
set_option linter.unusedVariables false

theorem num_fn (n : Int) (w : World) :
    Calls Try.prog 9 #[.int .i64 n] w fun e w' => e = .returned (.agg #[.int .i64 2, .int .i64 n, .string ⟨#[]⟩, .string ⟨#[]⟩]) ∧ Below w.heap.size w w' := by
  go_enter Try.func9, Try.ntmps9
  go_wp2
  refine bodyPost_ret (v := .agg #[.int .i64 2, .int .i64 n, .string ⟨#[]⟩, .string ⟨#[]⟩]) (by simp [results, Try.results9, go_sem]) rfl ⟨rfl, ?_⟩
  exact (Below.refl _ _).alloc (Nat.le_refl _) _
theorem fact_gone (g g2 : Nat) (w : World) (hN : NL w (some ⟨g, 0, none⟩) [nA]) (hM : NL w (some ⟨g2, 0, none⟩) [n5]) :
    Calls Try.prog 7 #[.slice (some ⟨g, 0, none⟩) 1 1, .string ⟨#[97]⟩, .slice (some ⟨g2, 0, none⟩) 1 1] w fun e w' => (∃ q c, e = .returned (.tuple #[.slice q 1 c, .nilIface]) ∧ NL w' q [n5]) ∧ Below w.heap.size w w' := by
  have h : pfault [nA] [n5] tA = 0 := by decide
  have e : putE tA [n5] [nA] = [n5] := by rfl
  refine (tput_ok [nA] [n5] (some ⟨g, 0, none⟩) (some ⟨g2, 0, none⟩) 1 1 tA w hN hM h).mono ?_
  rintro e' w' ⟨q, c, rfl, h1, _, _, hb⟩
  rw [e] at h1 ⊢
  exact ⟨⟨q, c, rfl, h1⟩, hb⟩

theorem ne_lists {a b : ByteArray} (h : a ≠ b) : (a.toList == b.toList) = false := by
  rw [beq_eq_false_iff_ne]
  intro e
  exact h (bytes_inj (by simpa only [ByteArray.toList_eq] using e))

set_option maxRecDepth 100000 in
set_option maxHeartbeats 1000000 in
theorem treeGone_any (e V : List Nd) (p q : Option Addr) (c c2 : Nat) (s : ByteArray) (w : World) (he : NL w p e) (hel : e.length ≤ maxLen) (hV : NL w q V) (hVl : V.length ≤ maxLen) :
    Calls Try.prog 3 #[.slice p e.length c, .string s, .slice q V.length c2] w fun e' w' => e' = .returned (.bool true) ∧ Below w.heap.size w w' := by
  go_enter Try.func3, Try.ntmps3
  go_wp2_with fail
  refine (name_fn _ _).mono ?_
  rintro e0 w1 ⟨rfl, k1⟩
  go_wp2_with fail
  refine (num_fn _ _).mono ?_
  rintro e0 w2 ⟨rfl, k2'⟩
  have hN := (lit_one w1 8 0 ⟨#[97]⟩ ⟨#[]⟩ (small_wf (by decide) (by decide) (by decide))).up k2'
  have k2 := bt (bta k1 _) k2'
  clear k1 k2'
  go_wp2_with fail
  refine (fact_gone w1.heap.size w2.heap.size _ (hN.up ((Below.refl _ _).alloc (Nat.le_refl _) _)) (lit_one w2 2 5 ⟨#[]⟩ ⟨#[]⟩ (small_wf (by decide) (by decide) (by decide)))).mono ?_
  rintro e0 w3 ⟨⟨q3, d3, rfl, hx3⟩, k3'⟩
  have k3 := bt (bta k2 _) k3'
  clear k2 k3' hN
  go_wp2_with fail
  refine (num_fn _ _).mono ?_
  rintro e0 w4 ⟨rfl, k4'⟩
  have k4 := bt k3 k4'
  have hx4 := hx3.up k4'
  clear k3 k4' hx3
  have hsm := sameNodes_any [n5] [n5] q3 (some ⟨w4.heap.size, 0, none⟩) d3 1 _ (hx4.up ((Below.refl _ _).alloc (Nat.le_refl _) _)) (lit_one w4 2 5 ⟨#[]⟩ ⟨#[]⟩ (small_wf (by decide) (by decide) (by decide))) (by unfold maxLen; decide) (by unfold maxLen; decide)
  rw [(sameNd_iff _ _).2 rfl] at hsm
  have HSM : Hid (Calls Try.prog 10 #[.slice q3 1 d3, .slice (some ⟨w4.heap.size, 0, none⟩) 1 1] _ _) := hsm
  clear hsm hx4
  go_wp2_with fail
  refine HSM.out.mono ?_
  rintro e0 w5 ⟨rfl, n5, rfl⟩
  have k5 := btn (bta k4 (.cells #[.int .i64 2, .int .i64 5, .string ⟨#[]⟩, .string ⟨#[]⟩] 28)) n5
  clear k4 HSM
  generalize (w4.alloc (.cells #[.int .i64 2, .int .i64 5, .string ⟨#[]⟩, .string ⟨#[]⟩] 28)).drewN n5 = w5 at *
  by_cases h1 : pfault e V s = 0
  · have B1 := tput_ok e V p q c c2 s w5 (he.up k5) (hV.up k5) h1
    obtain ⟨f1, f2, f3⟩ := pfault_zero h1
    have hel2 := (xfault_zero f1).1
    have hfx : xfault (putE s V e) = 0 := put_isEx f1 f2 f3
    have HMP : Hid (∀ z, z ∈ nms (putE s V e) ↔ (z ∈ nms e ∧ z ≠ s) ∨ (s ∈ nms e ∧ z ∈ nms V)) := fun z => by
      rw [mem_nms, mem_nms, mem_nms, mem_nms]; exact mem_put
    have HNO : Hid (s ∉ nms e → putE s V e = e) := fun h => putE_none (not_vars.1 (fun h2 => h (mem_nms.2 h2)))
    generalize putE s V e = X at *
    go_wp2_with fail
    refine B1.mono ?_
    rintro e0 w6 ⟨g6, d6, rfl, hx6, hd6, hd6', k6'⟩
    have k6 := bt k5 k6'
    clear k5 k6' B1
    have B2 := tvars_ok e p c w6 (he.up k6) f1
    go_wp2_with fail
    refine B2.mono ?_
    rintro e0 w7 ⟨⟨g7, d7, rfl, t7, l7, l7'⟩, k7'⟩
    have k7 := bt k6 k7'
    have hx7 := hx6.up k7'
    clear k6 k7' B2 hx6
    have B3 := tvars_ok X g6 d6 w7 hx7 hfx
    go_wp2_with fail
    refine B3.mono ?_
    rintro e0 w8 ⟨⟨g8, d8, rfl, t8, l8, l8'⟩, k8'⟩
    have k8 := bt k7 k8'
    have hx8 := hx7.up k8'
    have t7 := t7.up k8'
    clear k7 k8' B3 hx7
    have B4 := tvars_ok V q c2 w8 (hV.up k8) f2
    go_wp2_with fail
    refine B4.mono ?_
    rintro e0 w9 ⟨⟨g9, d9, rfl, t9, l9, l9'⟩, k9'⟩
    have k9 := bt k8 k9'
    have hx9 := hx8.up k9'
    have t7 := t7.up k9'
    have t8 := t8.up k9'
    clear k8 k9' B4 hx8
    have B5 := tcheck_any X g6 d6 w9 hx9 (Nat.le_trans hd6 hd6')
    rw [eV_nil hfx] at B5
    go_wp2_with fail
    refine B5.mono ?_
    rintro e0 w10 ⟨rfl, k10'⟩
    have k10 := bt k9 k10'
    have hx10 := hx9.up k10'
    have t7 := t7.up k10'
    have t8 := t8.up k10'
    have t9 := t9.up k10'
    clear k9 k10' B5 hx9
    have B6 := among_any s (nms e) g7 d7 w10 t7 (Nat.le_trans l7 l7')
    have hn1 := nms_length e
    have hn2 := nms_length X
    generalize nms e = had at *
    generalize nms X = has at *
    generalize nms V = more at *
    have hhad : had.length ≤ maxLen := Nat.le_trans l7 l7'
    have hhas : has.length ≤ maxLen := Nat.le_trans l8 l8'
    have hmore : more.length ≤ maxLen := Nat.le_trans l9 l9'
    cases ham : amg s had
    · have hX : X = e := HNO.out (fun h => by rw [amg_iff.2 h] at ham; cases ham)
      rw [ham] at B6
      have B7 := sameNodes_any X e g6 p d6 c w10 hx10 (he.up k10) (Nat.le_trans hd6 hd6') hel
      rw [(sameNd_iff X e).2 hX] at B7
      clear HNO HMP hX
      go_wp2_with fail
      refine B6.mono ?_
      rintro e0 w11 ⟨rfl, rfl⟩
      go_wp2_with fail
      refine B7.mono ?_
      rintro e0 w12 ⟨rfl, n12, rfl⟩
      have k12 := btn k10 n12
      go_wp2
      go_ret
      exact ⟨rfl, k12⟩
    · have hsin := amg_iff.1 ham
      rw [ham] at B6
      have HM1 : Hid (∀ z, z ∈ has → ((amg z had = true ∧ z ≠ s) ∨ amg z more = true)) := fun z hz => by
        rcases (HMP.out z).1 hz with ⟨h1, h2⟩ | ⟨_, h2⟩
        · exact .inl ⟨amg_iff.2 h1, h2⟩
        · exact .inr (amg_iff.2 h2)
      have HM2 : Hid (∀ z, z ∈ had → z ≠ s → amg z has = true) := fun z hz hne => amg_iff.2 ((HMP.out z).2 (.inl ⟨hz, hne⟩))
      have A1 := fun z => among_any z had g7 d7 w10 t7 hhad
      have A2 := fun z => among_any z more g9 d9 w10 t9 hmore
      have A3 := fun z => among_any z has g8 d8 w10 t8 hhas
      unfold maxLen at hhad hhas
      clear HMP HNO ham hsin
      go_wp2_with fail
      refine B6.mono ?_
      rintro e0 w11 ⟨rfl, rfl⟩
      clear B6
      go_wp2
      go_loopw [20] (fun i wr => ∃ k : Nat, k ≤ has.length ∧ i = .int .i64 k ∧ wr = w11) (fun i _ => has.length - (intOf i).toNat)
      case atStart => exact ⟨0, Nat.zero_le _, rfl, rfl⟩
      case round =>
        obtain ⟨k, hk, rfl, rfl⟩ := hrel
        by_cases hlt : k < has.length
        · have i1 : (k : Int) < (has.length : Int) := by omega
          obtain ⟨b, off, rfl, hbw, x0⟩ := t8.at hlt
          have hz := HM1.out has[k] (List.getElem_mem _)
          generalize has[k] = z at *
          have C1 := A1 z
          have C2 := A2 z
          by_cases hzs : z = s
          · subst hzs
            have h9 : amg z more = true := by
              rcases hz with ⟨_, h⟩ | h
              · exact absurd rfl h
              · exact h
            rw [h9] at C2
            clear hz h9 A1 A2
            generalize amg z had = o1 at *
            cases o1
            all_goals
              go_wp2_with fail
              refine C1.mono ?_
              rintro e0 wz ⟨rfl, rfl⟩
              go_wp2_with fail
              refine C2.mono ?_
              rintro e0 wz ⟨rfl, rfl⟩
              go_wp2
              go_roundw
              case rel => exact ⟨k + 1, by omega, by go_num, trivial⟩
              case measure => simp [intOf]; omega
          · have hne := ne_lists hzs
            generalize amg z had = o1 at *
            generalize amg z more = o2 at *
            clear A1 A2 hzs
            cases o1 <;> cases o2
            · exfalso; rcases hz with ⟨h, _⟩ | h <;> cases h
            all_goals
              clear hz
              go_wp2_with fail
              refine C1.mono ?_
              rintro e0 wz ⟨rfl, rfl⟩
              go_wp2_with fail
              refine C2.mono ?_
              rintro e0 wz ⟨rfl, rfl⟩
              go_wp2
              go_roundw
              case rel => exact ⟨k + 1, by omega, by go_num, trivial⟩
              case measure => simp [intOf]; omega
        · have i1 : ¬ (k : Int) < (has.length : Int) := by omega
          clear A1 A2 HM1
          go_wp2
          go_loopw [23] (fun i wz => ∃ k : Nat, k ≤ had.length ∧ i = .int .i64 k ∧ wz = wr) (fun i _ => had.length - (intOf i).toNat)
          case atStart => exact ⟨0, Nat.zero_le _, rfl, rfl⟩
          case round =>
            obtain ⟨k2, hk2, rfl, rfl⟩ := hrel
            by_cases hlt2 : k2 < had.length
            · have i2 : (k2 : Int) < (had.length : Int) := by omega
              obtain ⟨b, off, rfl, hbw, x0⟩ := t7.at hlt2
              have hz := HM2.out had[k2] (List.getElem_mem _)
              generalize had[k2] = z at *
              have C1 := A3 z
              by_cases hzs : z = s
              · subst hzs
                clear hz A3
                generalize amg z has = o1 at *
                cases o1
                all_goals
                  go_wp2_with fail
                  refine C1.mono ?_
                  rintro e0 wz ⟨rfl, rfl⟩
                  go_wp2
                  go_roundw
                  case rel => exact ⟨k2 + 1, by omega, by go_num, trivial⟩
                  case measure => simp [intOf]; omega
              · have hne := ne_lists hzs
                rw [hz hzs] at C1
                clear A3 hzs hz
                go_wp2_with fail
                refine C1.mono ?_
                rintro e0 wz ⟨rfl, rfl⟩
                go_wp2
                go_roundw
                case rel => exact ⟨k2 + 1, by omega, by go_num, trivial⟩
                case measure => simp [intOf]; omega
            · have i2 : ¬ (k2 : Int) < (had.length : Int) := by omega
              go_wp2
              go_ret
              exact ⟨rfl, k10⟩
  · have B1 := tput_bad e V p q c c2 s w5 (he.up k5) (hV.up k5) hel hVl h1
    rw [eV_not h1] at B1
    go_wp2_with fail
    refine B1.mono ?_
    rintro e0 w6 ⟨rfl, k6'⟩
    have k6 := bt k5 k6'
    go_wp2
    go_ret
    exact ⟨rfl, k6⟩
end Go.Proofs.Ytnpneglipogehaa
