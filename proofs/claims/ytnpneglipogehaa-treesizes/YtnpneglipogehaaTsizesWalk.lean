/- TreeSizes: the walk of the statement's own function. -/
import Derived.Test.YtnpneglipogehaaTreeLit
import Derived.Test.YtnpneglipogehaaTreeRp
namespace Go.Proofs.Ytnpneglipogehaa
open Go.RowKit
set_option linter.unusedVariables false

theorem place_ok {v r : List Nd} {f k : Nat} (h : pastE f (v.drop k) = some r) : ∃ hk : k < v.length, v[k].op ≠ 7 := by
  obtain ⟨g, x, m, _, e, h7, _⟩ := pastE_cons h
  have hk : k < v.length := by
    have := congrArg List.length e
    simp at this
    omega
  refine ⟨hk, ?_⟩
  rw [List.drop_eq_getElem_cons hk] at e
  injection e with e1 e2
  rw [e1]; exact h7
theorem tend_at (v : List Nd) (p : Option Addr) (c k : Nat) (w : World) (hv : NL w p v) (hl : v.length ≤ maxLen) (h : xfault v = 0) (r : List Nd) (hr : pastE (v.length + 1) (v.drop k) = some r) :
    Calls Try.prog 14 #[.slice p v.length c, .int .i64 k] w fun e w' => e = .returned (.tuple #[.int .i64 ((v.length - r.length : Nat) : Int), .nilIface]) ∧ Below w.heap.size w w' := by
  obtain ⟨hk, h7⟩ := place_ok hr
  exact tend_ok v p c k w hv hl h hk h7 r hr
theorem tend_some (v : List Nd) (p : Option Addr) (c k : Nat) (w : World) (hv : NL w p v) (hl : v.length ≤ maxLen) (h : xfault v = 0) :
    Calls Try.prog 14 #[.slice p v.length c, .int .i64 k] w fun e w' => ∃ (n : Int) (ev : Value), e = .returned (.tuple #[.int .i64 n, ev]) ∧ Below w.heap.size w w' := by
  by_cases hk : k < v.length
  · by_cases h7 : v[k].op = 7
    · refine (tend_field v p c k w hv hl h hk h7).mono ?_
      rintro e w' ⟨rfl, hb⟩
      exact ⟨_, _, rfl, hb⟩
    · obtain ⟨r, hr⟩ := ex_at h hk h7
      refine (tend_ok v p c k w hv hl h hk h7 r hr).mono ?_
      rintro e w' ⟨rfl, hb⟩
      exact ⟨_, _, rfl, hb⟩
  · refine (tend_none v p c k w hv hl h (.inr (by omega))).mono ?_
    rintro e w' ⟨rfl, hb⟩
    exact ⟨_, _, rfl, hb⟩

/-- So many nodes, once k of them have been looked at. -/
def szP (e V : List Nd) (s : ByteArray) (k : Nat) : Nat := e.length + cntV s (e.take k) * (V.length - 1)
theorem szP_zero (e V : List Nd) (s : ByteArray) : szP e V s 0 = e.length := by unfold szP cntV; simp
theorem szP_yes {e V : List Nd} {s : ByteArray} {k : Nat} (h : k < e.length) (hs : isV s e[k] = true) : szP e V s (k + 1) = szP e V s k + (V.length - 1) := by
  unfold szP cntV
  rw [List.take_succ_eq_append_getElem h, List.countP_append, List.countP_singleton, hs, if_pos rfl, Nat.add_mul]; omega
theorem szP_no {e V : List Nd} {s : ByteArray} {k : Nat} (h : k < e.length) (hs : isV s e[k] = false) : szP e V s (k + 1) = szP e V s k := by
  unfold szP cntV
  rw [List.take_succ_eq_append_getElem h, List.countP_append, List.countP_singleton, hs, if_neg (by simp), Nat.add_zero]
theorem szP_all {e V : List Nd} {s : ByteArray} (hV : V ≠ []) : szP e V s e.length = (putE s V e).length := by
  have h := putE_length s V e
  unfold szP
  rw [List.take_length]
  obtain ⟨n, hn⟩ : ∃ n, V.length = n + 1 := ⟨V.length - 1, by
    have : V.length ≠ 0 := fun h => hV (List.eq_nil_of_length_eq_zero h)
    omega⟩
  rw [hn] at h ⊢
  rw [Nat.mul_succ] at h
  simp only [Nat.add_sub_cancel]
  omega
theorem szP_small {e V : List Nd} {s : ByteArray} (h1 : e.length ≤ 200) (h2 : V.length ≤ 200) (k : Nat) : szP e V s k ≤ 100000 := by
  unfold szP
  have h3 : cntV s (e.take k) ≤ 200 := Nat.le_trans List.countP_le_length (by simp; omega)
  have := Nat.mul_le_mul h3 (show V.length - 1 ≤ 200 by omega)
  omega

theorem fact_sizes (g g2 : Nat) (w : World) (hN : NL w (some ⟨g, 0, none⟩) [nEq, nA, nA]) (hM : NL w (some ⟨g2, 0, none⟩) [nNot, nB]) :
    Calls Try.prog 7 #[.slice (some ⟨g, 0, none⟩) 3 3, .string ⟨#[97]⟩, .slice (some ⟨g2, 0, none⟩) 2 2] w fun e w' => (∃ q c, e = .returned (.tuple #[.slice q 5 c, .nilIface])) ∧ Below w.heap.size w w' := by
  have h : pfault [nEq, nA, nA] [nNot, nB] tA = 0 := by decide
  have e : (putE tA [nNot, nB] [nEq, nA, nA]).length = 5 := by rfl
  refine (tput_ok [nEq, nA, nA] [nNot, nB] (some ⟨g, 0, none⟩) (some ⟨g2, 0, none⟩) 3 2 tA w hN hM h).mono ?_
  rintro e' w' ⟨q, c, rfl, _, _, _, hb⟩
  rw [e]
  exact ⟨⟨q, c, rfl⟩, hb⟩

set_option maxRecDepth 100000 in
set_option maxHeartbeats 2000000 in
theorem treeSizes_any (e V : List Nd) (p q : Option Addr) (c c2 : Nat) (s : ByteArray) (w : World) (he : NL w p e) (hel : e.length ≤ maxLen) (hV : NL w q V) (hVl : V.length ≤ maxLen) :
    Calls Try.prog 4 #[.slice p e.length c, .string s, .slice q V.length c2] w fun e' w' => e' = .returned (.bool true) ∧ Below w.heap.size w w' := by
  go_enter Try.func4, Try.ntmps4
  go_wp2_with fail
  refine (name_fn _ _).mono ?_
  rintro e0 w1 ⟨rfl, k1⟩
  go_wp2_with fail
  refine (name_fn _ _).mono ?_
  rintro e0 w2 ⟨rfl, k2'⟩
  have k2 := bt k1 k2'
  clear k1 k2'
  go_wp2_with fail
  refine (name_fn _ _).mono ?_
  rintro e0 w3 ⟨rfl, k3'⟩
  have hN := (lit_three w2 14 0 8 0 8 0 ⟨#[]⟩ ⟨#[]⟩ ⟨#[97]⟩ ⟨#[]⟩ ⟨#[97]⟩ ⟨#[]⟩ (small_wf (by decide) (by decide) (by decide)) (small_wf (by decide) (by decide) (by decide)) (small_wf (by decide) (by decide) (by decide))).up k3'
  have k3 := bt (bta k2 _) k3'
  clear k2 k3'
  go_wp2_with fail
  refine (fact_sizes w2.heap.size w3.heap.size _ (hN.up ((Below.refl _ _).alloc (Nat.le_refl _) _)) (lit_two w3 9 0 8 0 ⟨#[]⟩ ⟨#[]⟩ ⟨#[98]⟩ ⟨#[]⟩ (small_wf (by decide) (by decide) (by decide)) (small_wf (by decide) (by decide) (by decide)))).mono ?_
  rintro e0 w4 ⟨⟨q4, d4, rfl⟩, k4'⟩
  have k4 := bt (bta k3 _) k4'
  clear k3 k4' hN
  by_cases h1 : pfault e V s = 0
  · have B1 := tput_ok e V p q c c2 s w4 (he.up k4) (hV.up k4) h1
    obtain ⟨f1, f2, f3⟩ := pfault_zero h1
    obtain ⟨hel2, hpast⟩ := xfault_zero f1
    have hVl2 := (xfault_zero f2).1
    have hVne : V ≠ [] := fun h => by
      have := (xfault_zero f2).2
      rw [h] at this; cases this
    have hVpos : 1 ≤ V.length := by
      have : V.length ≠ 0 := fun h => hVne (List.eq_nil_of_length_eq_zero h)
      omega
    have HSZ : Hid (szP e V s e.length = (putE s V e).length) := szP_all hVne
    generalize (putE s V e).length = nx at *
    go_wp2_with fail
    refine B1.mono ?_
    rintro e0 w5 ⟨g5, d5, rfl, _, _, _, k5'⟩
    have k5 := bt k4 k5'
    clear k4 k5' B1
    have her := he.up k5
    go_wp2
    go_loopw [11, 12] (fun sn i wr => ∃ k : Nat, k ≤ e.length ∧ i = .int .i64 k ∧ sn = .int .i64 (szP e V s k) ∧ wr = w5) (fun _ i _ => e.length - (intOf i).toNat)
    case atStart => exact ⟨0, Nat.zero_le _, rfl, by rw [szP_zero], rfl⟩
    case round =>
      obtain ⟨k, hk, rfl, rfl, rfl⟩ := hrel
      have hsm := szP_small (s := s) hel2 hVl2 k
      by_cases hlt : k < e.length
      · have i1 : (k : Int) < (e.length : Int) := by omega
        obtain ⟨b, off, rfl, hbw, x0, x1, x2, x3, xw⟩ := her.at hlt
        cases hs : isV s e[k]
        · have HN : Hid (_ = _) := szP_no (V := V) hlt hs
          have hone : (e[k].op == 8) = false ∨ ((e[k].op == 8) = true ∧ (e[k].s.toList == s.toList) = false) := by
            unfold isV at hs
            rw [ByteArray.toList_eq, ByteArray.toList_eq]
            cases h8 : (e[k].op == 8)
            · exact .inl rfl
            · rw [h8, Bool.true_and] at hs; exact .inr ⟨rfl, hs⟩
          generalize e[k] = x at *
          generalize szP e V s k = zk at *
          clear hs
          rcases hone with h8 | ⟨h8, hse⟩
          all_goals
            go_wp2
            go_roundw
            case rel => exact ⟨k + 1, by omega, by go_num, by rw [HN.out], trivial⟩
            case measure => simp [intOf]; omega
        · have HN : Hid (_ = _) := szP_yes (V := V) hlt hs
          have hone : (e[k].op == 8) = true ∧ (e[k].s.toList == s.toList) = true := by
            unfold isV at hs
            rw [ByteArray.toList_eq, ByteArray.toList_eq]
            simpa using hs
          obtain ⟨h8, hse⟩ := hone
          generalize e[k] = x at *
          generalize szP e V s k = zk at *
          clear hs
          go_wp2
          go_roundw
          case rel => exact ⟨k + 1, by omega, by go_num, by rw [HN.out]; go_num, trivial⟩
          case measure => simp [intOf]; omega
      · obtain rfl : k = e.length := by omega
        have i1 : ¬ (e.length : Int) < (e.length : Int) := by omega
        rw [HSZ.out]
        have B2 := tend_at e p c 0 wr her hel f1 [] (by rw [List.drop_zero]; exact hpast)
        rw [List.length_nil, Nat.sub_zero] at B2
        have B2' : Calls Try.prog 14 #[.slice p e.length c, .int .i64 0] wr _ := B2
        clear B2 hsm
        obtain ⟨hk0, _⟩ := place_ok (k := 0) (v := e) (by rw [List.drop_zero]; exact hpast)
        obtain ⟨b, off, rfl, hbw, x0, x1, x2, x3, xw⟩ := her.at hk0
        have hcons := List.drop_eq_getElem_cons hk0
        rw [List.drop_zero] at hcons
        have HC : Hid (_ = _) := hcons
        have i0 : (0 : Int) < (e.length : Int) := by omega
        clear hcons
        generalize e[0] = x at *
        rw [Nat.zero_mul, Nat.add_zero] at x0 x1 x2 x3
        have cells := fun w' (k : Below wr.heap.size wr w') o => (k.cell (p := ⟨b, o, none⟩) hbw)
        go_wp2_with fail
        refine B2'.mono ?_
        rintro e0 w6 ⟨rfl, k6'⟩
        have k6 := bt k5 k6'
        have y0 := (cells _ k6' off).trans x0
        have y1 := (cells _ k6' (off + 1)).trans x1
        have y2 := (cells _ k6' (off + 2)).trans x2
        have y3 := (cells _ k6' (off + 3)).trans x3
        have her6 := her.up k6'
        have hbw6 := Nat.lt_of_lt_of_le hbw k6'.size
        clear x0 x1 x2 x3 cells k6' B2' her k5
        have B3 := fun w' => refPrt_any x w'
        by_cases hp2 : prt x = 2
        · rw [hp2] at B3
          go_wp2_with fail
          refine (B3 _).mono ?_
          rintro e0 w7 ⟨rfl, k7'⟩
          have k7 := bt k6 k7'
          have z0 := (k7'.cell (p := ⟨b, off, none⟩) hbw6).trans y0
          have her7 := her6.up k7'
          have hbw7 := Nat.lt_of_lt_of_le hbw6 k7'.size
          clear y0 y1 y2 y3 her6 k6 k7' B3
          by_cases h56 : x.op = 5 ∨ x.op = 6
          · have B4 := tend_some e (some ⟨b, off, none⟩) c 1 w7 her7 hel f1
            have B4' : Calls Try.prog 14 #[.slice (some ⟨b, off, none⟩) e.length c, .int .i64 1] w7 _ := B4
            clear B4
            go_wp2_with fail
            refine B4'.mono ?_
            rintro e0 w8 ⟨n8, ev8, rfl, k8'⟩
            have k8 := bt k7 k8'
            have v0 := (k8'.cell (p := ⟨b, off, none⟩) hbw7).trans z0
            by_cases h5 : x.op = 5
            · have e5 : (x.op == 5) = true := by simpa using h5
              clear h56 h5
              go_wp2
              go_ret
              exact ⟨rfl, k8⟩
            · have e5 : (x.op == 5) = false := by simpa using h5
              have e6 : (x.op == 6) = true := by simp; omega
              clear h56 h5
              go_wp2
              go_ret
              exact ⟨rfl, k8⟩
          · have e5 : (x.op == 5) = false := by simp; omega
            have e6 : (x.op == 6) = false := by simp; omega
            have hfx : xfault (x :: e.drop 1) = 0 := by rw [← HC.out]; exact f1
            obtain ⟨m, m1, m2, m3, m4⟩ := ex_two hfx (by omega) (by omega) hp2
            rw [← HC.out] at m1 m2
            have hml : m.length < e.length - 1 := by simpa using m3
            have B4 := tend_at e (some ⟨b, off, none⟩) c 1 w7 her7 hel f1 m m1
            have B4' : Calls Try.prog 14 #[.slice (some ⟨b, off, none⟩) e.length c, .int .i64 1] w7 _ := B4
            have B5 := fun w8 (k : Below w7.heap.size w7 w8) => tend_at e (some ⟨b, off, none⟩) c (e.length - m.length) w8 (her7.up k) hel f1 [] (by rw [tail_drop m4]; exact m2)
            rw [List.length_nil, Nat.sub_zero] at B5
            clear B4 h56 hfx m1 m2 m3 m4 hp2
            generalize e.length - m.length = en at *
            go_wp2_with fail
            refine B4'.mono ?_
            rintro e0 w8 ⟨rfl, k8'⟩
            have k8 := bt k7 k8'
            have v0 := (k8'.cell (p := ⟨b, off, none⟩) hbw7).trans z0
            have B6 := B5 _ k8'
            clear B5 B4' z0 k7 k8'
            go_wp2_with fail
            refine B6.mono ?_
            rintro e0 w9 ⟨rfl, k9'⟩
            have k9 := bt k8 k9'
            go_wp2
            go_ret
            exact ⟨rfl, k9⟩
        · have hp3 : (prt x != 2) = true := by simpa using hp2
          generalize prt x = pr at *
          go_wp2_with fail
          refine (B3 _).mono ?_
          rintro e0 w7 ⟨rfl, k7'⟩
          have k7 := bt k6 k7'
          clear hp2
          go_wp2
          go_ret
          exact ⟨rfl, k7⟩
  · have B1 := tput_bad e V p q c c2 s w4 (he.up k4) (hV.up k4) hel hVl h1
    rw [eV_not h1] at B1
    go_wp2_with fail
    refine B1.mono ?_
    rintro e0 w5 ⟨rfl, k5'⟩
    have k5 := bt k4 k5'
    go_wp2
    go_ret
    exact ⟨rfl, k5⟩
end Go.Proofs.Ytnpneglipogehaa
