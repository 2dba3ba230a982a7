/- SchemaWider: the walk of the statement's own function. -/
import Derived.Test.YtpcikfpldmackaaDoorG21
import Derived.Test.YtpcikfpldmackaaDoorG22
import Derived.Test.YtpcikfpldmackaaDoorG15
import Derived.Test.YtpcikfpldmackaaDoorG17
namespace Go.Proofs.YtpcikfpldmackaaDoor
open Go.RowKit
set_option linter.unusedVariables false
set_option linter.unusedSimpArgs false
set_option maxRecDepth 100000

/-- The fact's call. -/
theorem fact_store (V : World) (n : Nat) (hn : V.heap.size = n) :
    Calls Tryd.prog 13 #[.agg #[.slice none 0 0, .slice none 0 0], .slice (some ⟨n + 1, 0, none⟩) 1 1] ((V.alloc (.cells #[.int .i64 6, .int .i64 0, .string ⟨#[]⟩, .string ⟨#[]⟩] 48)).alloc
      (.cells #[.string ⟨#[65]⟩, .string ⟨#[]⟩, .slice none 0 0, .slice (some ⟨n, 0, none⟩) 1 1] 51)) fun e w' => e = .returned (.iface 23 (.int .i64 3)) ∧ Below V.heap.size V w' := by
  refine (sstore_any sc0 es1 none none (some ⟨n + 1, 0, none⟩) 0 0 1 _ (sc0_sa _) (es1_lies V n hn) (by unfold maxLen es1; simp)).mono ?_
  rintro e w' ⟨rfl, hb⟩
  refine ⟨by rw [fact_none]; rfl, kqt ?_ hb⟩
  exact kqx
theorem w7_facts {w : World} {B : Nat} {a b : Value} {T : TypeId} (h : w.heap[B]? = some (.cells #[a, b] T)) : (∀ j, w.frozen? ⟨B, j, none⟩ = false) ∧ w.cell? ⟨B, 0, none⟩ = some a ∧ w.cell? ⟨B, 1, none⟩ = some b := by
  refine ⟨fun j => ?_, ?_, ?_⟩ <;> simp [World.frozen?, World.cell?, h]
/-- Behind the store of the row. -/
theorem okk_after {w4 w6 w7 : World} {xs : List KkA} {q7 : Option Addr} {c7 K : Nat} {t : List Nd} {pt : Option Addr} {ct : Nat} {b : Value} {T : TypeId} {a : Value} (hO7 : OKk w7 (w4.heap.size + 1) (.slice q7 xs.length c7) xs) (hB7 : w7.heap[w4.heap.size]? = some (.cells #[a, b] T))
    (hb46 : Below w4.heap.size w4 w6) (hb7 : Below w4.heap.size w6 w7) (hs : w4.heap.size + 1 ≤ w7.heap.size) (hK : K < xs.length) (hX : ∀ y ∈ xs, ∀ w', Below w4.heap.size w4 w' → KdV w' y.k y.p1 y.c1 y.p2 y.c2) (hT : ∀ w', Below w4.heap.size w4 w' → AK w' t pt ct) :
    ∃ g cap, Value.slice q7 xs.length c7 = .slice (some ⟨g, 0, none⟩) xs.length cap ∧ g < w7.heap.size ∧ w4.heap.size + 1 ≤ g ∧ xs.length ≤ cap ∧ cap ≤ maxLen ∧ (w7.setCell ⟨w4.heap.size, 0, none⟩ (.slice q7 xs.length c7)).frozen? ⟨g, K * 3 + 2, none⟩ = false ∧ (w7.setCell ⟨w4.heap.size, 0, none⟩ (.slice q7 xs.length c7)).cell? ⟨g, K * 3 + 2, none⟩ = some (.slice xs[K].p2 xs[K].k.ty.length xs[K].c2) ∧
      ∀ w', w' = (w7.setCell ⟨w4.heap.size, 0, none⟩ (.slice q7 xs.length c7)).setCell ⟨g, K * 3 + 2, none⟩ (.slice pt t.length ct) → KdL w' (some ⟨g, 0, none⟩) ((xs.map (·.k)).modify K (·.put t)) ∧ Below w4.heap.size w4 w' ∧ w'.cell? ⟨w4.heap.size, 0, none⟩ = some (.slice q7 xs.length c7) ∧ w'.cell? ⟨w4.heap.size, 1, none⟩ = some b := by
  obtain ⟨w8, h8⟩ : ∃ w8, w8 = w7.setCell ⟨w4.heap.size, 0, none⟩ (.slice q7 xs.length c7) := ⟨_, rfl⟩
  rw [← h8]
  have k8 : Keep (fun a => a = w4.heap.size) w7 w8 := by rw [h8]; exact keep_set w7 _ _ _
  have hb8 : Below w4.heap.size w7 w8 := k8.below (by omega) (fun a e => by omega)
  have hb48 : Below w4.heap.size w4 w8 := (hb46.trans hb7).trans hb8
  have hO8 : OKk w8 (w4.heap.size + 1) (.slice q7 xs.length c7) xs := by
    refine ⟨ownP_agree hO7.row (fun g hg hl => k8.block g hl (fun e => by have := hO7.own g hg; omega)), fun y hy => hX y hy w8 hb48⟩
  have hB8 : w8.heap[w4.heap.size]? = some (.cells #[.slice q7 xs.length c7, b] T) := by rw [h8, heap_setCell_same w7 _ 0 _ _ _ hB7]; rfl
  have hsz : w4.heap.size + 1 ≤ w8.heap.size := by have := hb8.size; omega
  obtain ⟨g, cap, e1, hgl, hgb, hc1, hc2, hfr, hcg, hput⟩ := okk_put hO8 hK (t := t) (pt := pt) (ct := ct) (fun y hy w' hb => hX y hy w' (hb48.trans (hb.mono (by omega)))) (fun w' hb => hT w' (hb48.trans (hb.mono (by omega))))
  refine ⟨g, cap, e1, ?_, hgb, hc1, hc2, hfr, hcg, fun w' hw => ?_⟩
  · have := k8.size
    rw [h8] at hgl
    simpa using hgl
  · obtain ⟨h1, h2⟩ := hput w' hw
    have hB9 := (h2.block w4.heap.size (Nat.lt_succ_self _)).trans hB8
    obtain ⟨_, g0, g1⟩ := w7_facts hB9
    exact ⟨h1, hb48.trans (h2.mono (by omega)), g0, g1⟩
set_option maxHeartbeats 4000000 in
theorem swider_walk (s : Sc) (es : List En) (k : Int) (t : List Nd) (pk pa pe pt : Option Addr) (ck ca ce ct : Nat) (w : World) (hL : ErrVar w) (h : SA w s pk ck pa ca) (hp0 : pk = none → ck = 0) (he : EL w pe es) (hem : es.length ≤ maxLen) (ht : AK w t pt ct) :
    Calls Tryd.prog 5 #[scV s pk ck pa ca, .slice pe es.length ce, .int .i64 k, .slice pt t.length ct] w fun e w' => e = .returned (.bool true) ∧ Below w.heap.size w w' := by
  obtain ⟨V, hV⟩ : ∃ V, V = w.alloc (.cells #[.slice pk s.ks.length ck, .slice pa s.acs.length ca] 37) := ⟨_, rfl⟩
  have hbV : Below w.heap.size w V := by rw [hV]; exact kqx
  have hVs : V.heap.size = w.heap.size + 1 := by rw [hV]; simp
  have v0 : V.cell? ⟨w.heap.size, 0, none⟩ = some (.slice pk s.ks.length ck) := by rw [hV]; simp
  have v1 : V.cell? ⟨w.heap.size, 1, none⟩ = some (.slice pa s.acs.length ca) := by rw [hV]; simp
  have HSA : Hid (SA V s pk ck pa ca) := h.up hbV
  have HEL : Hid (EL V pe es) := he.up hbV
  have HTK : Hid (AK V t pt ct) := ht.up hbV
  have HER : Hid (ErrVar V) := ev_up hL hbV
  have HF := fact_store V (w.heap.size + 1) hVs
  have HP0 : Hid (pk = none → ck = 0) := hp0
  unfold scV
  clear h he ht hL hp0
  go_enter Tryd.func5, Tryd.ntmps5
  go_wp2_with fail
  rw [← hV]
  clear hV
  refine HF.mono ?_
  rintro _ w1 ⟨rfl, hb1⟩
  go_wp2_with fail
  refine (same_errno 3 3 w1 (ev_up HER.out hb1)).mono ?_
  rintro _ w2 ⟨rfl, hb2'⟩
  have hb2 := kqt hb1 hb2'
  clear hb1 hb2' HF
  rw [show ((3 : Int) == 3) = true from rfl]
  have x0 := (hb2.cell (p := ⟨w.heap.size, 0, none⟩) (by show w.heap.size < _; omega)).trans v0
  have x1 := (hb2.cell (p := ⟨w.heap.size, 1, none⟩) (by show w.heap.size < _; omega)).trans v1
  have HC := sstore_any s es pk pa pe ck ca ce w2 (HSA.out.up hb2) (HEL.out.up hb2) hem
  unfold scV at HC
  by_cases h0 : stof s es = 0
  · rw [eV_nil h0] at HC
    have HS0 : Hid (stof s es = 0) := h0
    clear h0
    go_wp2_with fail
    refine HC.mono ?_
    rintro _ w3 ⟨rfl, hb3'⟩
    have hb3 := kqt hb2 hb3'
    clear hb2 hb3' HC x0 x1
    have x0 := (hb3.cell (p := ⟨w.heap.size, 0, none⟩) (by show w.heap.size < _; omega)).trans v0
    have x1 := (hb3.cell (p := ⟨w.heap.size, 1, none⟩) (by show w.heap.size < _; omega)).trans v1
    by_cases hk0 : k < 0
    · go_wp2
      go_ret
      exact ⟨rfl, kqt hbV hb3⟩
    have i0 : ¬ k < 0 := hk0
    by_cases hk1 : (s.ks.length : Int) ≤ k
    · go_wp2
      go_ret
      exact ⟨rfl, kqt hbV hb3⟩
    have i1 : ¬ (s.ks.length : Int) ≤ k := hk1
    obtain ⟨K, rfl⟩ : ∃ K : Nat, k = (K : Int) := ⟨k.toNat, by omega⟩
    have hK : K < s.ks.length := by omega
    have i2 : (K : Int) < (s.ks.length : Int) := by omega
    clear i0 i1 hk0 hk1
    obtain ⟨bk, ok, pu, cu, qt, dt, rfl, hbk, hkv, c0, c1, c2⟩ := HSA.out.ks.at hK
    replace c2 := (hb3.cell (p := ⟨bk, ok + K * 3 + 2, none⟩) hbk).trans c2
    have HKV : Hid (KdV V s.ks[K] pu cu qt dt) := hkv
    clear hkv c0 c1
    rcases below_ways s.ks[K].ty t with ⟨x, y, kx, ly, la, lb, hx, hy⟩ | hbe
    · have HB := AK.below (HKV.out.ty.up hb3) (HTK.out.up hb3) la lb hx hy
      rw [← blB_of hx hy] at HB
      have HBF : Hid (bfault s.ks[K].ty t = 0) := by
        show _ = _
        unfold bfault
        rw [if_pos (kfault_ok la hx)]
        exact kfault_ok lb hy
      clear la lb hx hy
      cases hbl : blB s.ks[K].ty t
      · rw [hbl] at HB
        clear hbl HBF
        generalize hty : s.ks[K].ty = ty at *
        clear hty
        go_wp2_with fail
        refine HB.mono ?_
        rintro _ w4 ⟨rfl, hb4⟩
        go_wp2
        go_ret
        exact ⟨rfl, kqt hbV (kqt hb3 hb4)⟩
      · rw [hbl] at HB
        have HBL : Hid (blB s.ks[K].ty t = true) := hbl
        clear hbl
        obtain ⟨ty, hty⟩ : ∃ ty, ty = s.ks[K].ty := ⟨_, rfl⟩
        have HTY : Hid (ty = s.ks[K].ty) := hty
        rw [← hty] at c2 HB HBF HBL
        clear hty
        go_wp2_with fail
        refine HB.mono ?_
        rintro _ w4 ⟨rfl, hb4'⟩
        have hb4 := kqt hb3 hb4'
        clear hb3 hb4' HB x0 x1 c2
        have x0 := (hb4.cell (p := ⟨w.heap.size, 0, none⟩) (by show w.heap.size < _; omega)).trans v0
        have x1 := (hb4.cell (p := ⟨w.heap.size, 1, none⟩) (by show w.heap.size < _; omega)).trans v1
        have hs4 : w.heap.size < w4.heap.size := by have := hb4.size; omega
        obtain ⟨xs, hxs, hxl⟩ := (HSA.out.ks.up hb4).parts
        have hxn : s.ks.length = xs.length := by rw [← hxs, List.length_map]
        have h8 : xs.length ≤ 8 := by
          rw [← hxn]
          have h1 := HS0.out
          unfold stof at h1
          rw [orE_zero] at h1
          rcases scf_ways s with ⟨_, e⟩ | ⟨hk, _⟩
          · rw [e] at h1; exact absurd h1.1 (by decide)
          · exact hk
        obtain ⟨W6, hW6⟩ : ∃ W6, W6 = (w4.alloc (.cells #[.slice none 0 0, .slice pa s.acs.length ca] 37)).alloc (.cells #[] 57) := ⟨_, rfl⟩
        have hb46 : Below w4.heap.size w4 W6 := by rw [hW6]; exact kqx
        have hs6 : W6.heap.size = w4.heap.size + 2 := by rw [hW6]; simp
        have hO6 : OKk W6 (w4.heap.size + 1) (.slice (some ⟨w4.heap.size + 1, 0, none⟩) 0 0) [] := by
          have := OKk.none (w4.alloc (.cells #[.slice none 0 0, .slice pa s.acs.length ca] 37)) (w4.heap.size + 1) (by simp)
          rw [hW6]
          simpa using this
        have hB6 : W6.heap[w4.heap.size]? = some (.cells #[.slice none 0 0, .slice pa s.acs.length ca] 37) := by
          rw [hW6, (MapKept.heap_alloc _ _).2 _ (by simp)]
          exact (MapKept.heap_alloc w4 _).1
        have HX : Hid (∀ y ∈ xs, ∀ w', Below w4.heap.size w4 w' → KdV w' y.k y.p1 y.c1 y.p2 y.c2) := fun y hy w' hb => (hxl.parts y hy).up hb
        have hHX : ∀ y ∈ xs, ∀ w', Below (w4.heap.size + 1) W6 w' → KdV w' y.k y.p1 y.c1 y.p2 y.c2 := fun y hy w' hb => HX.out y hy w' (hb46.trans (hb.mono (by omega)))
        have HXS : Hid (xs.map (·.k) = s.ks) := hxs
        have hxl6 := hxl.up hb46
        have HN : Hid (s.ks.length = xs.length) := hxn
        clear hxs hxl hxn
        have HB6 : Hid (W6.heap[w4.heap.size]? = _) := hB6
        have j2 : (K : Int) < (xs.length : Int) := by have := HN.out; omega
        have HKX : Hid (K < xs.length) := by show _ < _; omega
        clear hB6
        go_wp2_with (at_builtin; rw [← hW6]; refine append_kinds W6 rfl (.tmp 58) (.tmp 60) rfl (w4.heap.size + 1) _ [] rfl hO6 (fun y hy => (by cases hy)) xs s.ks.length HN.out.symm (some ⟨bk, ok, none⟩) ck hxl6 hHX (fun h => by cases h) rfl (by simp; omega) (by omega) ?_; intro v7 w7 hO7 hb7; rw [List.nil_append] at hO7; obtain ⟨q7, c7, rfl, _, hl7, hc7⟩ := hO7.slice; have hB7 := (hb7.block w4.heap.size (Nat.lt_succ_self _)).trans HB6.out; obtain ⟨f7, d0, d1⟩ := w7_facts hB7; have HO8 := okk_after hO7 hB7 hb46 (hb7.mono (by omega)) (by have := hb7.size; omega) HKX.out HX.out (fun w' hb => HTK.out.up (kqt hb4 hb)) (q7 := q7) (c7 := c7); obtain ⟨g, cap, e7, hgl, hgb, hcl, hcm, hfr, hcg, hput⟩ := HO8; injection e7 with e7 _ e8; subst e7 e8; clear hO7 hxl6 hHX hO6 hW6)
        obtain ⟨W9, hW9⟩ : ∃ W9, W9 = (w7.setCell ⟨w4.heap.size, 0, none⟩ (.slice (some ⟨g, 0, none⟩) xs.length c7)).setCell ⟨g, K * 3 + 2, none⟩ (.slice pt t.length ct) := ⟨_, rfl⟩
        obtain ⟨hKL, hb49, y0, y1⟩ := hput W9 hW9
        rw [← hW9]
        rw [HXS.out] at hKL
        have hbV9 : Below V.heap.size V W9 := kqt hb4 hb49
        have hs9 : w4.heap.size < W9.heap.size := lt_of_cell y0
        have hSA9 : SA W9 ⟨s.ks.modify K (·.put t), s.acs⟩ (some ⟨g, 0, none⟩) c7 pa ca := ⟨hKL, by rw [List.length_modify, HN.out]; exact hcl, hcm, HSA.out.asl.up hbV9, HSA.out.al, HSA.out.am⟩
        have HSA9 : Hid (SA W9 _ (some ⟨g, 0, none⟩) c7 pa ca) := hSA9
        have hln : (s.ks.modify K (·.put t)).length = xs.length := by rw [List.length_modify]; exact HN.out
        have HC := scheck_any _ _ pa c7 ca W9 hSA9
        have HKF : Hid (kfault t = 0) := bfault_right HBF.out
        have hbf := HBF.out
        have hbl := HBL.out
        rw [HTY.out] at hbf hbl
        have HW : Hid (scf ⟨s.ks.modify K (·.put t), s.acs⟩ = 0 → stof ⟨s.ks.modify K (·.put t), s.acs⟩ es = 0) := fun h => stof_wider hK HS0.out hbf hbl h
        have HR : Hid (rcf t = 0 → scf ⟨s.ks.modify K (·.put t), s.acs⟩ = 0) := fun h => scf_wider (by have h1 := HS0.out; unfold stof at h1; rw [orE_zero] at h1; exact h1.1) h
        have HST := fun W (hW : Below W9.heap.size W9 W) => sstore_any ⟨s.ks.modify K (·.put t), s.acs⟩ es _ pa pe c7 ca ce W (HSA9.out.up hW) ((HEL.out.up hbV9).up hW) hem
        unfold scV at HC HST
        rw [hln] at HC HST
        clear hput hW9 hKL hSA9 hfr hcg f7 d0 d1 hB7 hbf hbl x0 x1 v0 v1 hb7 hs6 hb46 j2 i2
        by_cases h0 : scf ⟨s.ks.modify K (·.put t), s.acs⟩ = 0
        · rw [eV_nil h0] at HC
          rw [eV_nil (HW.out h0)] at HST
          clear h0 HW HR
          go_wp2_with fail
          refine HC.mono ?_
          rintro _ w10 ⟨rfl, hb10⟩
          have z0 := (hb10.cell (p := ⟨w4.heap.size, 0, none⟩) hs9).trans y0
          have z1 := (hb10.cell (p := ⟨w4.heap.size, 1, none⟩) hs9).trans y1
          go_wp2_with fail
          refine (HST _ hb10).mono ?_
          rintro _ w11 ⟨rfl, hb11⟩
          go_wp2
          go_ret
          exact ⟨rfl, kqt hbV (kqt hbV9 (kqt hb10 hb11))⟩
        · rw [eV_not h0] at HC
          have ht46 : ¬ opE t = 0 := fun e => h0 (HR.out (by unfold rcf; rw [orE_r HKF.out]; exact e))
          have htl : 0 < t.length := by
            obtain ⟨_, x, k, hk⟩ := kfault_zero HKF.out
            rw [hk.2]; simp
          rw [opE_at htl] at ht46
          obtain ⟨b, off, e1, hbw, x0, _⟩ := (HTK.out.up hbV9).nl.at htl
          simp only [Nat.zero_mul, Nat.add_zero] at x0
          have i1 : (0 : Int) < (t.length : Int) := by omega
          generalize hy : t[0] = z at *
          have e6 : (z.op != 46) = true := by
            cases e : (z.op != 46)
            · exact absurd (if_pos (by simpa using e)) ht46
            · rfl
          clear h0 HW HR HST ht46 hy
          subst e1
          generalize scf ⟨s.ks.modify K (·.put t), s.acs⟩ = n at *
          go_wp2_with fail
          refine HC.mono ?_
          rintro _ w10 ⟨rfl, hb10⟩
          have z0 := (hb10.cell (p := ⟨b, off, none⟩) hbw).trans x0
          go_wp2
          go_ret
          exact ⟨rfl, kqt hbV (kqt hbV9 hb10)⟩
    · have HB := AK.below_err (HKV.out.ty.up hb3) (HTK.out.up hb3) hbe
      generalize bfault s.ks[K].ty t = n at *
      generalize hty : s.ks[K].ty = ty at *
      clear hty
      go_wp2_with fail
      refine HB.mono ?_
      rintro _ w4 ⟨rfl, hb4⟩
      go_wp2
      go_ret
      exact ⟨rfl, kqt hbV (kqt hb3 hb4)⟩
  · rw [eV_not h0] at HC
    clear h0
    generalize stof s es = n at *
    go_wp2_with fail
    refine HC.mono ?_
    rintro _ w3 ⟨rfl, hb3⟩
    go_wp2
    go_ret
    exact ⟨rfl, kqt hbV (kqt hb2 hb3)⟩
end Go.Proofs.YtpcikfpldmackaaDoor
