/- The document's with, Ups, Over: by walks of their own texts. -/
import Derived.Test.YtkpbholhempmmaaGreatDoorUpsL
import Derived.Test.YtkpbholhempmmaaGreatDoorURow
import Derived.Laws.StructEq
import Derived.BigQuiet
import Derived.Deep.QuietTactic
namespace Go.Proofs.YtkpbholhempmmaaGreatDoor
open Go.RowKit Go.Maps Go.WideMaps
set_option linter.unusedVariables false
set_option linter.unusedSimpArgs false

theorem belD {B : Nat} {a w : World} (h : Below B a w) (n : Nat) : Below B a (w.drewN n) := ⟨h.os, h.tape, h.output, h.size, h.block⟩

set_option maxRecDepth 100000 in
set_option maxHeartbeats 2000000 in
theorem with_any (u y : Ui) (M : List Ui) (base : Nat) (v : Value) (w : World) (hown : OU w base v (u :: M)) (hb : base ≤ w.heap.size) (hl : M.length ≤ 1000) :
    Calls Tryz.prog 17 #[v, .agg #[.string y.t, .string y.i]] w fun e w' => ∃ v', e = .returned v' ∧ OU w' base v' (u :: addU M y) ∧ Below base w w' := by
  obtain ⟨q, c, rfl, hUL, hc1, hc2, hq⟩ := hown.slice
  have HO : Hid (OU w base _ _) := hown
  rcases hUL with hU | ⟨g, off, rfl, hg, hcells⟩
  · cases hU
  have HC : Hid (∀ _, _) := hcells
  have hlen : (u :: M).length = M.length + 1 := rfl
  rw [hlen] at hc1
  clear hcells hq hown
  rw [hlen] at HO ⊢
  go_enter Tryz.func17, Tryz.ntmps17
  go_wp2_with fail
  have hbx := (Below.refl w.heap.size w).alloc (Nat.le_refl _) (.cells #[.string y.t, .string y.i] 24)
  go_loopw [5] (fun i wr => ∃ k : Nat, k ≤ M.length ∧ i = .int .i64 (k + 1 : Nat) ∧ Hid (Below (w.alloc (.cells #[.string y.t, .string y.i] 24)).heap.size (w.alloc (.cells #[.string y.t, .string y.i] 24)) wr) ∧ Hid (y ∉ M.take k)) (fun i _ => M.length + 1 - (intOf i).toNat)
  case atStart => exact ⟨0, Nat.zero_le _, rfl, Below.refl _ _, by simp [Hid]⟩
  case round =>
    obtain ⟨k, hk, rfl, HB, HN⟩ := hrel
    have hbw : Below w.heap.size w wr := hbx.trans (HB.out.mono hbx.size)
    have y0 : wr.cell? ⟨w.heap.size, 0, none⟩ = some (.string y.t) := (HB.out.cell (p := ⟨w.heap.size, 0, none⟩) (by simp)).trans (by simp)
    have y1 : wr.cell? ⟨w.heap.size, 1, none⟩ = some (.string y.i) := (HB.out.cell (p := ⟨w.heap.size, 1, none⟩) (by simp)).trans (by simp)
    by_cases hlt : k < M.length
    · have i1 : (((k + 1 : Nat) : Int)) < ((M.length + 1 : Nat) : Int) := by omega
      obtain ⟨x0, x1⟩ := HC.out (k + 1) M[k] (by simp [hlt])
      have HD : Hid (M[k] ∈ M) := List.getElem_mem hlt
      have HT : Hid (M.take (k + 1) = M.take k ++ [M[k]]) := List.take_succ_eq_append_getElem hlt
      generalize M[k] = x at x0 x1 HD HT
      replace x0 : wr.cell? ⟨g, off + (k + 1) * 2, none⟩ = some (.string x.t) := (hbw.cell (p := ⟨g, off + (k + 1) * 2, none⟩) hg).trans x0
      replace x1 : wr.cell? ⟨g, off + (k + 1) * 2 + 1, none⟩ = some (.string x.i) := (hbw.cell (p := ⟨g, off + (k + 1) * 2 + 1, none⟩) hg).trans x1
      have HBW : Hid (Below w.heap.size w wr) := hbw
      clear hbw
      rcases uid_cases x y with rfl | ⟨hne, ht⟩ | ⟨hne, i, rfl, hi⟩
      · go_wp2_with fail
        go_quiet (fail)
        go_wp2_with fail
        go_ret
        exact ⟨_, rfl, by rw [addU_in HD.out]; exact HO.out.below (belD HBW.out _), (belD HBW.out _).mono hb⟩
      · have HN2 : Hid (y ∉ M.take (k + 1)) := by
          show _ ∉ _
          rw [HT.out]
          intro q
          rcases List.mem_append.1 q with q | q
          · exact HN.out q
          · exact hne (List.mem_singleton.1 q).symm
        clear hne
        go_wp2_with fail
        go_quiet (fail)
        go_wp2_with fail
        go_roundw
        case rel => exact ⟨k + 1, by omega, by go_num, belD HB.out _, HN2⟩
        case measure => simp [intOf]; omega
      · have HN2 : Hid (y ∉ M.take (k + 1)) := by
          show _ ∉ _
          rw [HT.out]
          intro q
          rcases List.mem_append.1 q with q | q
          · exact HN.out q
          · exact hne (List.mem_singleton.1 q).symm
        clear hne
        simp only at x0 x1
        go_wp2_with fail
        go_quiet (fail)
        go_wp2_with fail
        go_roundw
        case rel => exact ⟨k + 1, by omega, by go_num, belD HB.out _, HN2⟩
        case measure => simp [intOf]; omega
    · obtain rfl : k = M.length := by omega
      have i1 : ¬ (((M.length + 1 : Nat) : Int)) < ((M.length + 1 : Nat) : Int) := by omega
      have HN2 : Hid (y ∉ M) := by have h := HN.out; rw [List.take_length] at h; exact h
      have hOU : OU wr base _ _ := HO.out.below hbw
      have hbx2 := (Below.refl wr.heap.size wr).alloc (Nat.le_refl _) (.cells #[.string y.t, .string y.i] 24)
      have HBW : Hid (Below w.heap.size w wr) := hbw
      have hbz := hbw.size
      clear hbw
      go_wp2_with (at_builtin; refine append_uid _ rfl (.tmp 19) (.tmp 21) rfl base _ _ rfl (hOU.below hbx2) [y] 1 rfl wr.heap.size 0 1 (UL.one wr y) rfl (by simp; omega) (by simp; omega) ?_; intro v' w' h1 h2 h3)
      go_ret
      exact ⟨v', rfl, by rw [addU_new HN2.out]; exact h1, (HBW.out.mono hb).trans ((hbx2.mono (by omega)).trans h3)⟩

theorem UL.tail {w : World} {g off : Nat} {u : Ui} {M : List Ui} (h : UL w (some ⟨g, off, none⟩) (u :: M)) : UL w (some ⟨g, off + 2, none⟩) M := by
  rcases h with h | ⟨b, o, e, hb, hc⟩
  · cases h
  · simp at e
    obtain ⟨rfl, rfl⟩ := e
    refine .inr ⟨g, off + 2, rfl, hb, fun i x hx => ?_⟩
    have := hc (i + 1) x (by simpa using hx)
    rw [show off + (i + 1) * 2 = off + 2 + i * 2 by omega] at this
    exact this
theorem up_in {es : List En} (hq : Uniq es) {e : En} (he : e ∈ es) {y : Ui} (hy : y ∈ e.up) : y ∈ upsOf es e.u := by rw [upsOf_of_mem hq he]; exact hy
theorem ups_all {es : List En} {x : Ui} {M : List Ui} (h : ∀ (j : Nat) (e : En), j < es.length → es[j]? = some e → e.u = x → ∀ y ∈ e.up, y ∈ M) : ∀ y ∈ upsOf es x, y ∈ M := by
  intro y hy
  obtain ⟨e, he, h1, h2⟩ := upsOf_mem hy
  obtain ⟨j, hj⟩ := List.getElem?_of_mem he
  exact h j e (List.getElem?_eq_some_iff.1 hj).1 hj h1 y (by rw [h2]; exact hy)

set_option maxRecDepth 100000 in
set_option maxHeartbeats 8000000 in
theorem ups_any (es : List En) (p : Option Addr) (c : Nat) (u : Ui) (n : Nat) (w : World) (hl : EL w p es) (hf : Few es) (hn : n ≤ 16) :
    Calls Tryz.prog 6 #[.slice p es.length c, .agg #[.string u.t, .string u.i], .int .i64 n] w fun e w' => ∃ q c' M, e = .returned (.slice q M.length c') ∧ UL w' q M ∧ M.length ≤ c' ∧ c' ≤ maxLen ∧ (∃ i, UpsI es u n i M) ∧ Below w.heap.size w w' := by
  have HL : Hid (EL w p es) := hl
  have HF : Hid (Few es) := hf
  have he16 := hf.few
  clear hl hf
  have hbx := (Below.refl w.heap.size w).alloc (Nat.le_refl _) (.cells #[.string u.t, .string u.i] 24)
  have HBX : Hid (Below w.heap.size w _) := hbx.alloc (by simp) (.cells #[.string u.t, .string u.i] 24)
  clear hbx
  go_enter Tryz.func6, Tryz.ntmps6
  go_wp2_with fail
  go_loopw [7, 8, 9] (fun v f sv wr => ∃ (s frm : Nat) (M : List Ui), s ≤ n ∧ sv = .int .i64 s ∧ f = .int .i64 frm ∧ frm ≤ M.length + 1 ∧ Hid (OU wr w.heap.size v (u :: M)) ∧ Hid (UpsI es u s frm M) ∧ Hid (Below w.heap.size w wr)) (fun _ _ sv _ => n - (intOf sv).toNat)
  case atStart => exact ⟨0, 0, [], Nat.zero_le _, rfl, rfl, Nat.zero_le _, OU.two w u, UpsI.start es u, HBX⟩
  case round =>
    obtain ⟨s, frm, M, hs, rfl, rfl, hfr, HO, HI, HB⟩ := hrel
    by_cases hlt : s < n
    · have i1 : (s : Int) < (n : Int) := by omega
      obtain ⟨q, cq, rfl, hUL, hq1, hq2, hq3⟩ := HO.out.slice
      have hM := HI.out.small HF.out
      have hlen : (u :: M).length = M.length + 1 := rfl
      have hq3' : ∃ g, q = some ⟨g, 0, none⟩ ∧ w.heap.size ≤ g ∧ g < wr.heap.size := by
        rcases hq3 with ⟨h, _⟩ | h
        · cases h
        · exact h
      obtain ⟨g, rfl, hg1, hg2⟩ := hq3'
      rw [hlen] at HO hq1
      have H0 : Hid (∀ v, AbvN es s u v → v ∈ M) := HI.out.steps
      clear hUL hq3
      rw [hlen]
      go_wp2_with fail
      go_loopw [7, 11] (fun v iv wr => ∃ (i : Nat) (N : List Ui), i ≤ M.length + 1 ∧ iv = .int .i64 i ∧ Hid (OU wr w.heap.size v (u :: N)) ∧ Hid (UpsI es u s i N) ∧ Hid (∀ (j : Nat) (x : Ui), (u :: M)[j]? = some x → (u :: N)[j]? = some x) ∧ Hid (Below w.heap.size w wr)) (fun _ iv _ => M.length + 1 - (intOf iv).toNat)
      case atStart => exact ⟨frm, M, hfr, rfl, HO, HI, fun _ _ h => h, HB⟩
      case round =>
        obtain ⟨i, N, hi, rfl, HO, HI, HP, HB⟩ := hrel
        by_cases hlt2 : i < M.length + 1
        · have i2 : (i : Int) < (M.length : Int) + 1 := by omega
          have HX : Hid (∃ x, (u :: N)[i]? = some x) := ⟨_, HP.out i _ (List.getElem?_eq_getElem (by simpa using hlt2))⟩
          obtain ⟨x, hx⟩ := HX.out
          have HXA : Hid ((u :: N)[i]? = some x) := hx
          clear HX hx
          go_wp2_with fail
          go_loopw [7, 12] (fun v kv wr => ∃ (k : Nat) (N : List Ui), k ≤ es.length ∧ kv = .int .i64 k ∧ Hid (OU wr w.heap.size v (u :: N)) ∧ Hid (UpsI es u s i N) ∧ Hid (∀ (j : Nat) (x : Ui), (u :: M)[j]? = some x → (u :: N)[j]? = some x) ∧ Hid ((u :: N)[i]? = some x) ∧ Hid (∀ (j : Nat) (e : En), j < k → es[j]? = some e → e.u = x → ∀ y ∈ e.up, y ∈ N) ∧ Hid (Below w.heap.size w wr)) (fun _ kv _ => es.length - (intOf kv).toNat)
          case atStart => exact ⟨0, N, Nat.zero_le _, rfl, HO, HI, HP, HXA, fun j e h => absurd h (Nat.not_lt_zero _), HB⟩
          case round =>
            obtain ⟨k, N, hk, rfl, HO, HI, HP, HXA, HE, HB⟩ := hrel
            by_cases hlt3 : k < es.length
            · have i3 : (k : Int) < (es.length : Int) := by omega
              obtain ⟨b, off, pu, cu, pa, ca, rfl, hbl, _, hUL, _, _, _, hu1, hu2, _, _, g0, g1, g2, _⟩ := HL.out.at hlt3
              have HQ : Hid (∀ w', Below w.heap.size w w' → ∀ o, w'.cell? ⟨b, o, none⟩ = w.cell? ⟨b, o, none⟩) := fun w' k o => k.cell (p := ⟨b, o, none⟩) hbl
              have HME : Hid (es[k] ∈ es) := List.getElem_mem hlt3
              have HGE : Hid (es[k]? = some es[k]) := List.getElem?_eq_getElem hlt3
              replace hUL : Hid (UL _ _ _) := hUL
              unfold maxLen at hu2
              replace g0 : Hid (_ = _) := g0
              replace g1 : Hid (_ = _) := g1
              replace g2 : Hid (_ = _) := g2
              generalize es[k] = e at *
              have c0 := (HQ.out _ HB.out _).trans g0.out
              have c1 := (HQ.out _ HB.out _).trans g1.out
              obtain ⟨q, cq, rfl, hUO, hq1, hq2, hq3⟩ := HO.out.slice
              rcases hUO with hU | ⟨g, o2, rfl, hg, hcells⟩
              · cases hU
              obtain ⟨x0, x1⟩ := hcells i x HXA.out
              have hil : i < N.length + 1 := by have := (List.getElem?_eq_some_iff.1 HXA.out).1; simpa using this
              have hN := HI.out.small HF.out
              have hlenN : (u :: N).length = N.length + 1 := rfl
              rw [hlenN] at HO hq1
              have i4 : (i : Int) < (N.length : Int) + 1 := by omega
              clear hcells hq3
              rw [hlenN]
              rcases uid_cases e.u x with heq | ⟨hne, ht⟩ | ⟨hne, ii, heq, ht⟩
              · subst heq
                go_wp2_with fail
                go_quiet (fail)
                go_wp2_with fail
                go_loopw [7, 13] (fun v pv wr => ∃ (r : Nat) (N : List Ui), r ≤ e.up.length ∧ pv = .int .i64 r ∧ Hid (OU wr w.heap.size v (u :: N)) ∧ Hid (UpsI es u s i N) ∧ Hid (∀ (j : Nat) (x : Ui), (u :: M)[j]? = some x → (u :: N)[j]? = some x) ∧ Hid ((u :: N)[i]? = some e.u) ∧ Hid (∀ (j : Nat) (e' : En), j < k → es[j]? = some e' → e'.u = e.u → ∀ y ∈ e'.up, y ∈ N) ∧ Hid (∀ y ∈ e.up.take r, y ∈ N) ∧ Hid (Below w.heap.size w wr)) (fun _ pv _ => e.up.length - (intOf pv).toNat)
                case atStart => exact ⟨0, N, Nat.zero_le _, rfl, HO.out.below (belD (Below.refl _ _) _), HI, HP, HXA, HE, fun y hy => (by simp at hy), belD HB.out _⟩
                case round =>
                  obtain ⟨r, N, hr, rfl, HO, HI, HP, HXA, HE, HR, HB⟩ := hrel
                  have c2 := (HQ.out _ HB.out _).trans g2.out
                  by_cases hlt4 : r < e.up.length
                  · have i5 : (r : Int) < (e.up.length : Int) := by omega
                    obtain ⟨b2, o3, rfl, hb2, y0, y1⟩ := (hUL.out.up HB.out).at hlt4
                    have HY : Hid (e.up[r] ∈ upsOf es e.u) := up_in HF.out.uniq HME.out (List.getElem_mem hlt4)
                    have HT : Hid (∀ z ∈ e.up.take (r + 1), z ∈ e.up.take r ∨ z = e.up[r]) := fun z hz => take_mem hlt4 hz
                    generalize e.up[r] = y at y0 y1 HY HT
                    have hN := HI.out.small HF.out
                    go_wp2_with fail
                    refine (with_any u y N w.heap.size _ _ HO.out HB.out.size (by omega)).mono ?_
                    rintro er w1 ⟨v', rfl, hO1, hb1⟩
                    go_wp2_with fail
                    go_roundw
                    case rel =>
                      refine ⟨r + 1, addU N y, by omega, by go_num, hO1, HI.out.add HXA.out HY.out, fun j z hz => addU_at (HP.out j z hz), addU_at HXA.out, fun j e' hj he' hx' z hz => addU_sub (HE.out j e' hj he' hx' z hz), fun z hz => ?_, HB.out.trans hb1⟩
                      rcases HT.out z hz with h | rfl
                      · exact addU_sub (HR.out z h)
                      · exact addU_mem _ _
                    case measure => simp [intOf]; omega
                  · obtain rfl : r = e.up.length := by omega
                    have i5 : ¬ (e.up.length : Int) < (e.up.length : Int) := by omega
                    have HE2 : Hid (∀ (j : Nat) (e' : En), j < k + 1 → es[j]? = some e' → e'.u = e.u → ∀ y ∈ e'.up, y ∈ N) := by
                      intro j e' hj he' hx' z hz
                      rcases Nat.lt_or_ge j k with h | h
                      · exact HE.out j e' h he' hx' z hz
                      · obtain rfl : j = k := by omega
                        rw [HGE.out] at he'
                        cases he'
                        exact HR.out z (by rw [List.take_length]; exact hz)
                    go_wp2_with fail
                    go_roundw
                    case rel => exact ⟨k + 1, N, by omega, by go_num, HO, HI, HP, HXA, HE2, HB⟩
                    case measure => simp [intOf]; omega
              · have HE2 : Hid (∀ (j : Nat) (e : En), j < k + 1 → es[j]? = some e → e.u = x → ∀ y ∈ e.up, y ∈ N) := by
                  intro j e' hj he' hx'
                  rcases Nat.lt_or_ge j k with h | h
                  · exact HE.out j e' h he' hx'
                  · obtain rfl : j = k := by omega
                    rw [HGE.out] at he'
                    cases he'
                    exact absurd hx' hne
                clear hne
                go_wp2_with fail
                go_quiet (fail)
                go_wp2_with fail
                go_roundw
                case rel => exact ⟨k + 1, N, by omega, by go_num, HO.out.below (belD (Below.refl _ _) _), HI, HP, HXA, HE2, belD HB.out _⟩
                case measure => simp [intOf]; omega
              · have HE2 : Hid (∀ (j : Nat) (e : En), j < k + 1 → es[j]? = some e → e.u = x → ∀ y ∈ e.up, y ∈ N) := by
                  intro j e' hj he' hx'
                  rcases Nat.lt_or_ge j k with h | h
                  · exact HE.out j e' h he' hx'
                  · obtain rfl : j = k := by omega
                    rw [HGE.out] at he'
                    cases he'
                    exact absurd hx' hne
                rw [heq] at c0 c1
                simp only at c0 c1
                clear hne heq
                go_wp2_with fail
                go_quiet (fail)
                go_wp2_with fail
                go_roundw
                case rel => exact ⟨k + 1, N, by omega, by go_num, HO.out.below (belD (Below.refl _ _) _), HI, HP, HXA, HE2, belD HB.out _⟩
                case measure => simp [intOf]; omega
            · obtain rfl : k = es.length := by omega
              have i3 : ¬ (es.length : Int) < (es.length : Int) := by omega
              have HI2 : Hid (UpsI es u s (i + 1) N) := HI.out.next HXA.out (ups_all HE.out)
              go_wp2_with fail
              go_roundw
              case rel => exact ⟨i + 1, N, by omega, by go_num, HO, HI2, HP, HB⟩
              case measure => simp [intOf]; omega
        · obtain rfl : i = M.length + 1 := by omega
          have i2 : ¬ (M.length : Int) + 1 < (M.length : Int) + 1 := by omega
          have HI2 : Hid (UpsI es u (s + 1) (M.length + 1) N) := HI.out.level HP.out H0.out
          have hNl : M.length ≤ N.length := by
            have := (List.getElem?_eq_some_iff.1 (HP.out M.length _ (List.getElem?_eq_getElem (by simp)))).1
            simp at this; omega
          go_wp2_with fail
          go_roundw
          case rel => exact ⟨s + 1, M.length + 1, N, by omega, by go_num, rfl, by omega, HO, HI2, HB⟩
          case measure => simp [intOf]; omega
    · obtain rfl : s = n := by omega
      have i1 : ¬ (s : Int) < (s : Int) := by omega
      obtain ⟨q, cq, rfl, hUL, hq1, hq2, hq3⟩ := HO.out.slice
      have hM := HI.out.small HF.out
      have hlen : (u :: M).length = M.length + 1 := rfl
      have hq3' : ∃ g, q = some ⟨g, 0, none⟩ ∧ w.heap.size ≤ g ∧ g < wr.heap.size := by
        rcases hq3 with ⟨h, _⟩ | h
        · cases h
        · exact h
      obtain ⟨g, rfl, hg1, hg2⟩ := hq3'
      rw [hlen] at HO hq1
      have HUL : Hid (UL _ _ _) := hUL.tail
      unfold maxLen at hq2
      clear hUL hq3
      rw [hlen]
      have j1 : ¬ (M.length : Int) + 1 < 1 := by omega
      have j2 : ¬ (cq : Int) < (M.length : Int) + 1 := by omega
      by_cases hcq : cq = 1
      · obtain rfl : M = [] := List.eq_nil_of_length_eq_zero (by omega)
        subst hcq
        go_wp2_with fail
        go_ret
        exact ⟨_, 0, [], rfl, .inl rfl, Nat.zero_le _, Nat.zero_le _, ⟨_, HI.out⟩, HB.out⟩
      · have j3 : ¬ (cq : Int) = 1 := by omega
        have j4 : ¬ cq - 1 = 0 := by omega
        go_wp2_with fail
        all_goals first
          | (go_ret; exact ⟨some ⟨g, 2, none⟩, cq - 1, M, rfl, by simpa using HUL.out, by omega, by unfold maxLen; omega, ⟨_, HI.out⟩, HB.out⟩)
          | (exfalso; omega)

def OverTold (es : List En) (u y : Ui) (e : Ending) : Prop := ∃ r, e = .returned (.bool r) ∧ (r = true ↔ Abv es u y)
set_option maxRecDepth 100000 in
set_option maxHeartbeats 2000000 in
theorem over_any (es : List En) (p : Option Addr) (c : Nat) (u y : Ui) (w : World) (hl : EL w p es) (hf : Few es) :
    Calls Tryz.prog 7 #[.slice p es.length c, .agg #[.string u.t, .string u.i], .agg #[.string y.t, .string y.i], .int .i64 es.length] w fun e w' => OverTold es u y e ∧ Below w.heap.size w w' := by
  have he16 := hf.few
  have hbx : Below w.heap.size w ((w.alloc (.cells #[.string u.t, .string u.i] 24)).alloc (.cells #[.string y.t, .string y.i] 24)) := ((Below.refl _ _).alloc (Nat.le_refl _) _).alloc (by simp) _
  have HL : Hid (EL _ p es) := hl.up hbx
  have HF : Hid (Few es) := hf
  clear hl hf
  go_enter Tryz.func7, Tryz.ntmps7
  go_wp2_with fail
  refine (ups_any es p c u es.length _ HL.out HF.out he16).mono ?_
  rintro e w1 ⟨q, c', M, rfl, hUL, hc1, hc2, ⟨i, hI⟩, hb1⟩
  have hM := hI.small HF.out
  have HA : Hid (∀ v, v ∈ M ↔ Abv es u v) := hI.all
  have HU : Hid (UL w1 q M) := hUL
  have y0 : w1.cell? ⟨w.heap.size + 1, 0, none⟩ = some (.string y.t) := (hb1.cell (p := ⟨w.heap.size + 1, 0, none⟩) (by simp)).trans (by simp)
  have y1 : w1.cell? ⟨w.heap.size + 1, 1, none⟩ = some (.string y.i) := (hb1.cell (p := ⟨w.heap.size + 1, 1, none⟩) (by simp)).trans (by simp)
  have HB1 : Hid (Below w.heap.size w w1) := hbx.trans (hb1.mono hbx.size)
  clear hI hUL hb1
  go_wp2_with fail
  go_loopw [10] (fun iv wr => ∃ k n : Nat, k ≤ M.length ∧ iv = .int .i64 k ∧ wr = w1.drewN n ∧ Hid (y ∉ M.take k)) (fun iv _ => M.length - (intOf iv).toNat)
  case atStart => exact ⟨0, 0, Nat.zero_le _, rfl, rfl, by simp [Hid]⟩
  case round =>
    obtain ⟨k, n, hk, rfl, rfl, HN⟩ := hrel
    by_cases hlt : k < M.length
    · have i1 : (k : Int) < (M.length : Int) := by omega
      obtain ⟨b, off, rfl, hbl, x0, x1⟩ := HU.out.at hlt
      have HD : Hid (M[k] ∈ M) := List.getElem_mem hlt
      have HT : Hid (M.take (k + 1) = M.take k ++ [M[k]]) := List.take_succ_eq_append_getElem hlt
      generalize M[k] = x at x0 x1 HD HT
      rcases uid_cases x y with rfl | ⟨hne, ht⟩ | ⟨hne, ii, rfl, ht⟩
      · go_wp2_with fail
        go_quiet (fail)
        go_wp2_with fail
        go_ret
        exact ⟨⟨true, rfl, ⟨fun _ => (HA.out x).1 HD.out, fun _ => rfl⟩⟩, belD (belD HB1.out _) _⟩
      · have HN2 : Hid (y ∉ M.take (k + 1)) := by
          show _ ∉ _
          rw [HT.out]
          intro q
          rcases List.mem_append.1 q with q | q
          · exact HN.out q
          · exact hne (List.mem_singleton.1 q).symm
        clear hne
        go_wp2_with fail
        go_quiet (fail)
        go_wp2_with fail
        go_roundw
        case rel => exact ⟨k + 1, _, by omega, by go_num, rfl, HN2⟩
        case measure => simp [intOf]; omega
      · have HN2 : Hid (y ∉ M.take (k + 1)) := by
          show _ ∉ _
          rw [HT.out]
          intro q
          rcases List.mem_append.1 q with q | q
          · exact HN.out q
          · exact hne (List.mem_singleton.1 q).symm
        clear hne
        simp only at x0 x1
        go_wp2_with fail
        go_quiet (fail)
        go_wp2_with fail
        go_roundw
        case rel => exact ⟨k + 1, _, by omega, by go_num, rfl, HN2⟩
        case measure => simp [intOf]; omega
    · obtain rfl : k = M.length := by omega
      have i1 : ¬ (M.length : Int) < (M.length : Int) := by omega
      have HN2 : Hid (y ∉ M) := by have h := HN.out; rw [List.take_length] at h; exact h
      go_wp2_with fail
      go_ret
      exact ⟨⟨false, rfl, ⟨fun h => (by cases h), fun h => absurd ((HA.out y).2 h) HN2.out⟩⟩, belD HB1.out _⟩

end Go.Proofs.YtkpbholhempmmaaGreatDoor
