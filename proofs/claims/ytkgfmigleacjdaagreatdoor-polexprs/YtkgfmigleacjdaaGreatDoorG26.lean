/- The document's PolicyExpr: by a walk of its own text. -/
import Derived.Test.YtkgfmigleacjdaaGreatDoorG24
import Derived.Test.YtkgfmigleacjdaaGreatDoorG23
import Derived.Deep.RegionHeld
namespace Go.Proofs.YtkgfmigleacjdaaGreatDoor
open Go.RowKit
set_option linter.unusedVariables false
set_option linter.unusedSimpArgs false
set_option maxRecDepth 100000

theorem TRow.lit3 {W : World} {B base : Nat} (hB : B = W.heap.size) (h0 : base ≤ W.heap.size) {a b e : List Nd} {p q r : Option Addr} {c d f n m k : Nat} (ha : AK0 W a p c) (hb : AK0 W b q d) (he : AK0 W e r f) (hna : a ≠ []) (hnb : b ≠ []) (hne : e ≠ []) (hn : a.length = n) (hm : b.length = m) (hk : e.length = k) : TRow (W.alloc (.cells #[.slice p n c, .slice q m d, .slice r k f] 29)) base (.slice (some ⟨B, 0, none⟩) 3 3) [a, b, e] := by
  subst hB hn hm hk
  refine ⟨[.slice p a.length c, .slice q b.length d, .slice r e.length f], ⟨rfl, .inr ⟨W.heap.size, 3, _, rfl, h0, heap_alloc_new _ _, Nat.le_refl _, by unfold maxLen; omega, rfl, rfl⟩⟩, fun i u L hu hL => ?_⟩
  have hs : (W.alloc (.cells #[.slice p a.length c, .slice q b.length d, .slice r e.length f] 29)).heap.size = W.heap.size + 1 := by simp
  have hi : i = 0 ∨ i = 1 ∨ i = 2 := by have := (List.getElem?_eq_some_iff.1 hL).1; simp at this; omega
  have hown : ∀ {x : Nat}, x < W.heap.size → (Value.slice (some (⟨W.heap.size, 0, none⟩ : Addr)) 3 3).ownBlock ≠ some x := fun {x} hx e => by simp only [Value.ownBlock, Option.some.injEq] at e; omega
  rcases hi with rfl | rfl | rfl
  · simp only [List.getElem?_cons_zero, Option.some.injEq] at hu hL
    subst hu hL
    exact ⟨p, c, rfl, ha.up kqx, fun b' o e => ⟨by have := ha.lt hna e; omega, hown (ha.lt hna e)⟩⟩
  · simp only [List.getElem?_cons_succ, List.getElem?_cons_zero, Option.some.injEq] at hu hL
    subst hu hL
    exact ⟨q, d, rfl, hb.up kqx, fun b' o e => ⟨by have := hb.lt hnb e; omega, hown (hb.lt hnb e)⟩⟩
  · simp only [List.getElem?_cons_succ, List.getElem?_cons_zero, Option.some.injEq] at hu hL
    subst hu hL
    exact ⟨r, f, rfl, he.up kqx, fun b' o e => ⟨by have := he.lt hne e; omega, hown (he.lt hne e)⟩⟩
theorem scOk_op {b : Bool} {s : Sco} (h : scOk b s = true) : 0 ≤ s.op ∧ s.op ≤ 6 := by
  obtain ⟨op, ty, ⟨ut, ui⟩⟩ := s
  rw [scOk_as] at h
  show 0 ≤ op ∧ op ≤ 6
  by_cases h0 : op = 0
  · omega
  by_cases h1 : op = 1 ∨ op = 2
  · omega
  by_cases h3 : op = 3
  · omega
  by_cases h4 : op = 4
  · omega
  by_cases h5 : op = 5 ∨ op = 6
  · omega
  rw [if_neg h0, if_neg h1, if_neg h3, if_neg h4, if_neg h5] at h
  cases h
/-- Not, about the nodes of a condition. -/
theorem glNot (ex : List Nd) (pe : Option Addr) (ce : Nat) (W : World) (h : AK0 W ex pe ce) (hne : ex ≠ []) (hl : ex.length ≤ 200) {n : Nat} (hn : n = ex.length) :
    Calls Tryz.prog 27 #[.agg #[.int .i64 9, .int .i64 0, .string ⟨#[]⟩, .string ⟨#[]⟩], .slice pe n ce, .slice none 0 0] W fun e w' => KRetF W w' (nO 9 :: ex) e ∧ Below W.heap.size W w' := by
  subst hn
  obtain ⟨b, o, hp, _⟩ := h.nl.addr hne
  have := glued_any (nO 9) nO_wf ex [] pe none ce 0 W h.nl (.inl rfl) (.inr ⟨b, o, hp⟩) (.inl ⟨rfl, rfl, rfl⟩) (by omega) (by simp)
  rw [List.append_nil] at this
  exact this
/-- What the document's PolicyExpr tells. -/
def PxRet (w' : World) (p : Po) (e : Ending) : Prop := match exprL p with
  | .ok L => ∃ q c, e = .returned (.tuple #[.slice q L.length c, .int .i64 0]) ∧ AK0 w' L q c
  | .error n => e = .returned (.tuple #[.slice none 0 0, .int .i64 n])
set_option maxHeartbeats 3000000 in
theorem policyExpr_any (p : Po) (pc : Option Addr) (cc : Nat) (w : World) (h : PoA w p pc cc) :
    Calls Tryz.prog 9 #[poV p pc cc] w fun e w' => PxRet w' p e ∧ Below w.heap.size w w' := by
  obtain ⟨V, hV⟩ : ∃ V, V = w.alloc (.cells (poC p pc cc) 28) := ⟨_, rfl⟩
  have hbV : Below w.heap.size w V := by rw [hV]; exact kqx
  have HBk : Hid (∀ w', Below V.heap.size V w' → Blk w' w.heap.size (poC p pc cc) 28) := fun w' hk => by
    have hb : Blk V w.heap.size (poC p pc cc) 28 := by rw [hV]; exact Blk.new w _ _ rfl
    exact hb.up hk
  have HC := policyFault_any p pc cc V (h.up hbV)
  have HPA : Hid (PoA w p pc cc) := h
  have HX := po_cells (HBk.out V (Below.refl _ _))
  obtain ⟨x0, x1, x2, x3, x4, x5, x6, x7, x8, x9, x10, x11, x12, x13, x14⟩ := HX
  clear h
  unfold poC at hV
  by_cases hn : pof p = 0
  · rw [hn] at HC
    have HN : Hid (pof p = 0) := hn
    obtain ⟨h1, h2, h3, h4, h5, h6⟩ := pof_ways hn
    have H1 := fun W => scopeExpr_any p.who sPrin W HPA.out.who (by decide) (scOk_op h2)
    have H2 := fun W => scopeExpr_any p.act sAct W HPA.out.act (by decide) (scOk_op h3)
    have H3 := fun W => scopeExpr_any p.what sRes W HPA.out.what (by decide) (scOk_op h4)
    have HCS : Hid (p.cs.length ≤ 4 ∧ ∀ c ∈ p.cs, xfault c.ex = 0) := ⟨h5, fun c hc => (cdf_zero (csf_zero h6 c hc)).1⟩
    clear h1 h2 h3 h4 h5 h6 hn
    obtain ⟨L1, hL1⟩ : ∃ L, L = scE sPrin p.who := ⟨_, rfl⟩
    obtain ⟨L2, hL2⟩ : ∃ L, L = scE sAct p.act := ⟨_, rfl⟩
    obtain ⟨L3, hL3⟩ : ∃ L, L = scE sRes p.what := ⟨_, rfl⟩
    have HLL : Hid (poP p = [L1, L2, L3] ++ p.cs.map cdE) := by show _ = _; rw [hL1, hL2, hL3]; rfl
    have HLn : Hid ((L1 ≠ [] ∧ L1.length ≤ 6) ∧ (L2 ≠ [] ∧ L2.length ≤ 6) ∧ L3 ≠ [] ∧ L3.length ≤ 6) := by
      rw [hL1, hL2, hL3]
      exact ⟨⟨scE_ne _ _, (scE_len _ _).1⟩, ⟨scE_ne _ _, (scE_len _ _).1⟩, scE_ne _ _, (scE_len _ _).1⟩
    rw [← hL1] at H1
    rw [← hL2] at H2
    rw [← hL3] at H3
    clear hL1 hL2 hL3
    unfold poV at *
    go_enter Tryz.func9, Tryz.ntmps9
    go_wp2_with fail
    rw [← hV]
    refine HC.mono ?_
    rintro _ w2 ⟨rfl, hb2⟩
    have hb02 := kqt hbV hb2
    clear hV HC x0 x1 x2 x3 x4 x5 x6 x7 x8 x9 x10 x11 x12 x13 x14
    have HS : Hid (∀ w', Below w2.heap.size w2 w' → w'.cell? ⟨w.heap.size, 2, none⟩ = some (.int .i64 p.who.op) ∧ w'.cell? ⟨w.heap.size, 3, none⟩ = some (.string p.who.ty) ∧ w'.cell? ⟨w.heap.size, 4, none⟩ = some (.string p.who.u.t) ∧ w'.cell? ⟨w.heap.size, 5, none⟩ = some (.string p.who.u.i) ∧ w'.cell? ⟨w.heap.size, 6, none⟩ = some (.int .i64 p.act.op) ∧ w'.cell? ⟨w.heap.size, 7, none⟩ = some (.string p.act.ty) ∧ w'.cell? ⟨w.heap.size, 8, none⟩ = some (.string p.act.u.t) ∧ w'.cell? ⟨w.heap.size, 9, none⟩ = some (.string p.act.u.i) ∧ w'.cell? ⟨w.heap.size, 10, none⟩ = some (.int .i64 p.what.op) ∧ w'.cell? ⟨w.heap.size, 11, none⟩ = some (.string p.what.ty) ∧ w'.cell? ⟨w.heap.size, 12, none⟩ = some (.string p.what.u.t) ∧ w'.cell? ⟨w.heap.size, 13, none⟩ = some (.string p.what.u.i)) := fun w' hk => by
      obtain ⟨x0, x1, x2, x3, x4, x5, x6, x7, x8, x9, x10, x11, x12, x13, x14⟩ := po_cells (HBk.out w' (kqt hb2 hk))
      exact ⟨x2, x3, x4, x5, x6, x7, x8, x9, x10, x11, x12, x13⟩
    have HPC : Hid (∀ w', Below w2.heap.size w2 w' → w'.cell? ⟨w.heap.size, 14, none⟩ = some (.slice pc p.cs.length cc)) := fun w' hk => by
      obtain ⟨x0, x1, x2, x3, x4, x5, x6, x7, x8, x9, x10, x11, x12, x13, x14⟩ := po_cells (HBk.out w' (kqt hb2 hk))
      exact x14
    clear HBk hbV hb2
    go_wp2_with fail
    go_region_held (fun w' => w'.cell? ⟨w.heap.size, 2, none⟩ = some (.int .i64 p.who.op) ∧ w'.cell? ⟨w.heap.size, 3, none⟩ = some (.string p.who.ty) ∧ w'.cell? ⟨w.heap.size, 4, none⟩ = some (.string p.who.u.t) ∧ w'.cell? ⟨w.heap.size, 5, none⟩ = some (.string p.who.u.i) ∧ w'.cell? ⟨w.heap.size, 6, none⟩ = some (.int .i64 p.act.op) ∧ w'.cell? ⟨w.heap.size, 7, none⟩ = some (.string p.act.ty) ∧ w'.cell? ⟨w.heap.size, 8, none⟩ = some (.string p.act.u.t) ∧ w'.cell? ⟨w.heap.size, 9, none⟩ = some (.string p.act.u.i) ∧ w'.cell? ⟨w.heap.size, 10, none⟩ = some (.int .i64 p.what.op) ∧ w'.cell? ⟨w.heap.size, 11, none⟩ = some (.string p.what.ty) ∧ w'.cell? ⟨w.heap.size, 12, none⟩ = some (.string p.what.u.t) ∧ w'.cell? ⟨w.heap.size, 13, none⟩ = some (.string p.what.u.i)) (first | exact HS.out _ hb5 | exact HS.out _ hb4 | exact HS.out _ hb3 | exact HS.out _ (kqt hb5 kqx) | exact HS.out _ (kqt hb4 kqx) | exact HS.out _ (kqt hb3 kqx) | exact HS.out _ kqx) (first
      | (go_at_call 26
         have hz := hb4
         refine (H3 _).mono ?_
         rintro _ w5 ⟨⟨q5, c5, rfl, hA5, hn5⟩, hb5'⟩
         have hb5 : Below w2.heap.size w2 w5 := kqt hb4 hb5')
      | (go_at_call 26
         have hz := hb3
         refine (H2 _).mono ?_
         rintro _ w4 ⟨⟨q4, c4, rfl, hA4, hn4⟩, hb4'⟩
         have hb4 : Below w2.heap.size w2 w4 := kqt hb3 hb4')
      | (go_at_call 26
         refine (H1 _).mono ?_
         rintro _ w3 ⟨⟨q3, c3, rfl, hA3, hn3⟩, hb3'⟩
         have hb3 : Below w2.heap.size w2 w3 := kqt kqx hb3'))
    have h05 : Below w.heap.size w w5 := kqt hb02 hb5
    have h0b : w.heap.size ≤ w2.heap.size := hb02.size
    obtain ⟨V5, hV5⟩ : ∃ V5, V5 = w5.alloc (.cells #[.slice q3 L1.length c3, .slice q4 L2.length c4, .slice q5 L3.length c5] 29) := ⟨_, rfl⟩
    have HT0 : Hid (TRow V5 w2.heap.size (.slice (some ⟨w5.heap.size, 0, none⟩) 3 3) [L1, L2, L3]) := by
      rw [hV5]
      exact TRow.lit3 rfl hb5.size ((hA3.up hb4').up hb5') (hA4.up hb5') hA5 HLn.out.1.1 HLn.out.2.1.1 HLn.out.2.2.1 rfl rfl rfl
    have h0r : Below w.heap.size w V5 := by rw [hV5]; exact kqt h05 kqx
    have h2r : Below w2.heap.size w2 V5 := by rw [hV5]; exact kqt hb5 kqx
    rw [← hV5]
    clear hV5 hA3 hA4 hA5 hn3 hn4 hn5 hb3 hb4 hb5 hb3' hb4' hb5' H1 H2 H3 hb02 h05 HS
    generalize w5.heap.size = B5 at *
    have x14 := HPC.out V5 h2r
    go_wp2
    go_loopw [5, 6] (fun pv i wr => ∃ k : Nat, k ≤ p.cs.length ∧ i = .int .i64 k ∧ TRow wr w2.heap.size pv ([L1, L2, L3] ++ (p.cs.take k).map cdE) ∧ Below w2.heap.size V5 wr) (fun _ i _ => p.cs.length - (intOf i).toNat)
    case atStart => exact ⟨0, Nat.zero_le _, rfl, by simpa using HT0.out, Below.refl _ _⟩
    case round =>
      obtain ⟨k, hk2, rfl, hT, hb⟩ := hrel
      have h04 : Below w.heap.size w wr := h0r.trans (hb.mono h0b)
      have x14 := HPC.out wr (h2r.trans hb)
      by_cases hlt : k < p.cs.length
      · have i2 : (k : Int) < (p.cs.length : Int) := by omega
        obtain ⟨bb, off, pe, ce, hpc, hbb, hak, z0', z1'⟩ := HPA.out.cl.at hlt
        have z0 := (h04.cell (p := ⟨bb, off + k * 2, none⟩) hbb).trans z0'
        have z1 := (h04.cell (p := ⟨bb, off + k * 2 + 1, none⟩) hbb).trans z1'
        have hbb4 : bb < wr.heap.size := Nat.lt_of_lt_of_le hbb h04.size
        have HXF : Hid (xfault p.cs[k].ex = 0) := HCS.out.2 _ (List.getElem_mem hlt)
        have HAk : Hid (∀ W, Below w.heap.size w W → AK0 W p.cs[k].ex pe ce) := fun W hW => ⟨(hak.up hW).nl, (hak.up hW).le, (hak.up hW).cm⟩
        have HPE : Hid (∀ b o, pe = some ⟨b, o, none⟩ → b < w.heap.size) := fun b o e => AK0.lt (c := ce) ⟨hak.nl, hak.le, hak.cm⟩ (ex_ne HXF.out) e
        have HNX : Hid ([L1, L2, L3] ++ (p.cs.take (k + 1)).map cdE = ([L1, L2, L3] ++ (p.cs.take k).map cdE) ++ [cdE p.cs[k]]) := by show _ = _; rw [cdE_next hlt, List.append_assoc]
        have HLm : Hid (([L1, L2, L3] ++ (p.cs.take k).map cdE).length = 3 + k) := by show _ = _; rw [List.length_append, List.length_map, List.length_take]; simp; omega
        subst hpc
        obtain ⟨qt, ct, hqt, _⟩ := hT.slice
        rw [HLm.out] at hqt
        subst hqt
        have HT4 : Hid (TRow wr w2.heap.size (.slice qt (3 + k) ct) ([L1, L2, L3] ++ (p.cs.take k).map cdE)) := hT
        clear hT z0' z1' hak
        generalize [L1, L2, L3] ++ (p.cs.take k).map cdE = M at *
        generalize p.cs[k] = c at *
        have hkk : k ≤ 4 := by have := HCS.out.1; omega
        obtain ⟨un, ex⟩ := c
        simp only at z0 z1 HAk HXF HPE
        obtain ⟨ne, hne⟩ : ∃ n, n = ex.length := ⟨_, rfl⟩
        have HNE : Hid (ne = ex.length) := hne
        rw [← hne] at z1
        clear hne
        cases un
        · go_wp2_with (first | (at_builtin; refine Hid.out ?_))
          show wpList _ _ _ _ _ _
          refine append_rowT wr rfl (.tmp 48) (.tmp 50) rfl w2.heap.size (.slice qt (3 + k) ct) M rfl HT4.out ex pe ce (HAk.out wr h04) (fun b o e => ⟨Nat.lt_of_lt_of_le (HPE.out b o e) h04.size, fun e2 => by
              have h1 := HT4.out.own e2
              have h2 := HPE.out b o e
              omega⟩) rfl (by rw [HLm.out]; omega) (h2r.trans hb).size HNE.out.symm ?_
          intro v8 w8 hT8 hK8
          have hb8 : Below w2.heap.size V5 w8 := hb.trans (hK8.below (h2r.trans hb).size (fun b e => (HT4.out.own e).2))
          have HC : Hid (M ++ [ex] = [L1, L2, L3] ++ (p.cs.take (k + 1)).map cdE) := by show _ = _; rw [HNX.out]; rfl
          rw [HC.out] at hT8
          obtain ⟨q8, c8, rfl, _⟩ := hT8.slice
          have HT8 : Hid (TRow w8 w2.heap.size (.slice q8 ([L1, L2, L3] ++ (p.cs.take (k + 1)).map cdE).length c8) ([L1, L2, L3] ++ (p.cs.take (k + 1)).map cdE)) := hT8
          generalize ([L1, L2, L3] ++ (p.cs.take (k + 1)).map cdE).length = n8 at *
          clear hT8 HT4 hK8
          go_wp2
          go_roundw
          case rel => exact ⟨k + 1, by omega, by go_num, HT8.out, hb8⟩
          case measure => simp [intOf]; omega
        · have HG := glNot ex pe ce wr (HAk.out wr h04) (ex_ne HXF.out) (xfault_zero HXF.out).1 HNE.out
          go_wp2_with fail
          refine HG.mono ?_
          rintro _ w6 ⟨⟨q6, c6, rfl, hA6, hn6⟩, hb6⟩
          obtain ⟨n6, hn6'⟩ : ∃ n, n = (nO 9 :: ex).length := ⟨_, rfl⟩
          have HN6 : Hid (n6 = (nO 9 :: ex).length) := hn6'
          rw [← hn6']
          have HA6 : Hid (AK0 w6 (nO 9 :: ex) q6 c6) := hA6
          have HT6 : Hid (TRow w6 w2.heap.size (.slice qt (3 + k) ct) M) := HT4.out.up hb6
          have HF6 : Hid (∀ b o, q6 = some ⟨b, o, none⟩ → wr.heap.size ≤ b) := hn6
          have h26 : w2.heap.size ≤ w6.heap.size := Nat.le_trans (h2r.trans hb).size hb6.size
          clear hn6' hA6 hn6 HG
          go_wp2_with (first | (at_builtin; refine Hid.out ?_))
          show wpList _ _ _ _ _ _
          refine append_rowT w6 rfl (.tmp 48) (.tmp 50) rfl w2.heap.size (.slice qt (3 + k) ct) M rfl HT6.out (nO 9 :: ex) q6 c6 HA6.out (fun b o e => ⟨HA6.out.lt (by simp) e, fun e2 => by
              have h1 := HT4.out.own e2
              have h2 := HF6.out b o e
              omega⟩) rfl (by rw [HLm.out]; omega) h26 HN6.out.symm ?_
          intro v8 w8 hT8 hK8
          have hb8 : Below w2.heap.size V5 w8 := (hb.trans (hb6.mono (h2r.trans hb).size)).trans (hK8.below h26 (fun b e => (HT6.out.own e).2))
          have HC : Hid (M ++ [nO 9 :: ex] = [L1, L2, L3] ++ (p.cs.take (k + 1)).map cdE) := by show _ = _; rw [HNX.out]; rfl
          rw [HC.out] at hT8
          obtain ⟨q8, c8, rfl, _⟩ := hT8.slice
          have HT8 : Hid (TRow w8 w2.heap.size (.slice q8 ([L1, L2, L3] ++ (p.cs.take (k + 1)).map cdE).length c8) ([L1, L2, L3] ++ (p.cs.take (k + 1)).map cdE)) := hT8
          generalize ([L1, L2, L3] ++ (p.cs.take (k + 1)).map cdE).length = n8 at *
          clear hT8 HT4 hK8
          go_wp2
          go_roundw
          case rel => exact ⟨k + 1, by omega, by go_num, HT8.out, hb8⟩
          case measure => simp [intOf]; omega
      · have i2 : ¬ (k : Int) < (p.cs.length : Int) := by omega
        have e9 : [L1, L2, L3] ++ (p.cs.take k).map cdE = poP p := by rw [List.take_of_length_le (by omega)]; exact HLL.out.symm
        rw [e9] at hT
        obtain ⟨l, hl⟩ : ∃ l, l = poP p := ⟨_, rfl⟩
        rw [← hl] at hT
        obtain ⟨qt, ct, hqt, hLL⟩ := hT.slice
        have hln : l.length = 3 + p.cs.length := by rw [hl]; exact poP_len p
        have hl1 : 0 < l.length := by omega
        obtain ⟨bt, ot, _, _, hqt2, hbt, _⟩ := hLL.at hl1
        subst hqt hqt2
        have HEL : Hid (∀ w', Below wr.heap.size wr w' → ∀ i (hi : i < l.length), ∃ q c, w'.cell? ⟨bt, ot + i, none⟩ = some (.slice q l[i].length c) ∧ AK0 w' l[i] q c) := fun w' hk i hi => by
          obtain ⟨b', o', q', c', e, _, g1, g2, g3, g4⟩ := (hLL.up hk).at hi
          cases e
          exact ⟨q', c', g1, g2, g3, g4⟩
        have HLB : Hid (∀ x ∈ l, x ≠ [] ∧ x.length ≤ 201) := fun x hx => by
          rw [hl] at hx
          unfold poP at hx
          simp only [List.mem_cons, List.mem_map] at hx
          rcases hx with rfl | rfl | rfl | ⟨c, hc, rfl⟩
          · exact ⟨scE_ne _ _, by have := (scE_len sPrin p.who).1; omega⟩
          · exact ⟨scE_ne _ _, by have := (scE_len sAct p.act).1; omega⟩
          · exact ⟨scE_ne _ _, by have := (scE_len sRes p.what).1; omega⟩
          · exact ⟨cdE_ne (HCS.out.2 c hc), (cdE_len c (HCS.out.2 c hc)).1⟩
        have hl7 : l.length ≤ 7 := by have := HCS.out.1; omega
        obtain ⟨N, hN⟩ : ∃ N, N = l.length := ⟨_, rfl⟩
        have HEX : Hid (poE p = List.replicate (N - 1) (nO 11) ++ (l.take N).flatten) := by
          show _ = _
          unfold poE andsL
          rw [hN, List.take_length, hl, poP_len]
          congr 2
          omega
        have HFL : Hid (∀ k, ((l.take k).flatten).length ≤ 1407) := fun k => by
          have h1 := flatten_len (l.take k) 201 (fun x hx => (HLB.out x (List.mem_of_mem_take hx)).2)
          have h2 : (l.take k).length ≤ 7 := by rw [List.length_take]; omega
          have h3 : (l.take k).length * 201 ≤ 7 * 201 := Nat.mul_le_mul_right _ h2
          omega
        have HFN : Hid (∀ k (hk : k < l.length), (l.take (k + 1)).flatten = (l.take k).flatten ++ l[k]) := fun k hk => by
          rw [List.take_succ_eq_append_getElem hk, List.flatten_append]
          simp
        have HNl : Hid (N = l.length) := hN
        rw [← hN] at hl1 hl7 ⊢
        have hN3 : 3 ≤ N := by omega
        have h0w : Below w.heap.size w wr := h04
        clear hT hLL hb h04 e9 hl hln hN HPC HT0 h0r h2r HLL HLn
        rename World => wP
        go_wp2
        go_loopw [8, 9] (fun ov i wq => ∃ k q c, k + 1 ≤ N ∧ i = .int .i64 ((k + 1 : Nat)) ∧ ov = .slice q k c ∧ ON wq wP.heap.size (.slice q k c) (List.replicate k (nO 11)) ∧ Below wP.heap.size wP wq) (fun _ i _ => N - (intOf i).toNat)
        case atStart => exact ⟨0, none, 0, by omega, rfl, rfl, ON.emptyK _ _, Below.refl _ _⟩
        case round =>
          obtain ⟨k, q, c, hk3, rfl, rfl, hO, hb⟩ := hrel
          by_cases hlt : k + 1 < N
          · have i3 : ((k + 1 : Nat) : Int) < (N : Int) := by omega
            have HO : Hid (ON (wr.alloc (.cells #[.int .i64 11, .int .i64 0, .string ⟨#[]⟩, .string ⟨#[]⟩] 59)) wP.heap.size (.slice q k c) (List.replicate k (nO 11))) := hO.below kqx
            have HNL : Hid (NL (wr.alloc (.cells #[.int .i64 11, .int .i64 0, .string ⟨#[]⟩, .string ⟨#[]⟩] 59)) (some ⟨wr.heap.size, 0, none⟩) [nO 11]) := NL.lit wr [nO 11] _ (all_wf nO_wf all_wf0) rfl (by simp)
            have HBA : Hid (Below wP.heap.size wP (wr.alloc (.cells #[.int .i64 11, .int .i64 0, .string ⟨#[]⟩, .string ⟨#[]⟩] 59))) := kqt hb kqx
            have HR1 : Hid (List.replicate k (nO 11) ++ [nO 11] = List.replicate (k + 1) (nO 11)) := by show _ = _; rw [List.replicate_succ']
            clear hO
            go_wp2_with (first | (at_builtin; refine Hid.out ?_))
            show wpList _ _ _ _ _ _
            refine append_nodesZ _ rfl (.tmp 58) (.tmp 60) rfl wP.heap.size (.slice q k c) (List.replicate k (nO 11)) rfl HO.out [nO 11] 1 rfl (some ⟨wr.heap.size, 0, none⟩) 1 HNL.out (.inr ⟨_, _, rfl⟩) rfl (by simp; omega) HBA.out.size ?_
            intro q8 n8 c8 w8 hO8 hb8
            have hb8' : Below wP.heap.size wP w8 := HBA.out.trans hb8
            obtain ⟨q9, c9, e9⟩ := hO8.any
            rw [HR1.out] at hO8 e9
            cases e9
            have HO8 : Hid (ON w8 wP.heap.size (.slice q8 (k + 1) c8) (List.replicate (k + 1) (nO 11))) := by show ON _ _ _ _; simpa using hO8
            rw [List.length_replicate]
            clear hO8 HO HNL HBA hb8
            go_wp2
            go_roundw
            case rel => exact ⟨k + 1, q8, c8, by omega, by go_num, rfl, HO8.out, hb8'⟩
            case measure => simp [intOf]; omega
          · have i3 : ¬ ((k + 1 : Nat) : Int) < (N : Int) := by omega
            obtain rfl : k = N - 1 := by omega
            obtain ⟨nq, hnq⟩ : ∃ n, n = N - 1 := ⟨_, rfl⟩
            have HO : Hid (ON wr wP.heap.size (.slice q nq c) (List.replicate (N - 1) (nO 11) ++ (l.take 0).flatten) ∧ nq = (List.replicate (N - 1) (nO 11) ++ (l.take 0).flatten).length) := by
              refine ⟨?_, by simp [hnq]⟩
              rw [hnq]; simpa using hO
            have HW : Hid (Below wP.heap.size wP wr) := hb
            rw [← hnq]
            rw [← hnq] at i3
            clear hO hb hk3 hnq
            rename World => wQ
            go_wp2
            go_loopw [8, 10] (fun ov i wq => ∃ k n q c, k ≤ N ∧ i = .int .i64 (k : Nat) ∧ ov = .slice q n c ∧ Hid (ON wq wP.heap.size (.slice q n c) (List.replicate (N - 1) (nO 11) ++ (l.take k).flatten) ∧ n = (List.replicate (N - 1) (nO 11) ++ (l.take k).flatten).length) ∧ Below wP.heap.size wP wq) (fun _ i _ => N - (intOf i).toNat)
            case atStart => exact ⟨0, nq, q, c, by omega, rfl, rfl, HO.out, HW.out⟩
            case round =>
              obtain ⟨k, n, q, c, hk4, rfl, rfl, HON, hb⟩ := hrel
              by_cases hlt : k < N
              · have i4 : (k : Int) < (N : Int) := by omega
                have hkl : k < l.length := by have := HNl.out; omega
                obtain ⟨qp, cp, zp, hAp⟩ := HEL.out wr hb k hkl
                have HP := HLB.out _ (List.getElem_mem (l := l) (n := k) hkl)
                have HF := HFN.out k hkl
                have HF1 := HFL.out k
                have hbtw : bt < wr.heap.size := Nat.lt_of_lt_of_le hbt hb.size
                generalize l[k]'hkl = P at *
                have HAP : Hid (AK0 wr P qp cp ∧ P ≠ [] ∧ P.length ≤ 201) := ⟨hAp, HP⟩
                have HFF : Hid ((l.take (k + 1)).flatten = (l.take k).flatten ++ P) := HF
                obtain ⟨bp, op, rfl, _⟩ := hAp.nl.addr HP.1
                obtain ⟨np, hnp⟩ : ∃ n, n = P.length := ⟨_, rfl⟩
                have HNP : Hid (np = P.length) := hnp
                rw [← hnp] at zp
                clear hAp HP HF hnp
                have HF2 : Hid (((l.take k).flatten).length ≤ 1407) := HF1
                clear HF1
                go_wp2_with (first | (at_builtin; refine Hid.out ?_))
                show wpList _ _ _ _ _ _
                refine append_nodesZ wr rfl (.tmp 68) (.tmp 72) rfl wP.heap.size (.slice q n c) (List.replicate (N - 1) (nO 11) ++ (l.take k).flatten) rfl HON.out.1 P np HNP.out.symm (some ⟨bp, op, none⟩) cp HAP.out.1.nl (.inr ⟨_, _, rfl⟩) rfl (by have := HAP.out.2.2; have := HF2.out; rw [List.length_append, List.length_replicate]; omega) hb.size ?_
                intro q8 n8 c8 w8 hO8 hb8
                have hb8' : Below wP.heap.size wP w8 := hb.trans hb8
                obtain ⟨q9, c9, e9⟩ := hO8.any
                have HO8 : Hid (ON w8 wP.heap.size (.slice q8 n8 c8) (List.replicate (N - 1) (nO 11) ++ (l.take (k + 1)).flatten) ∧ n8 = (List.replicate (N - 1) (nO 11) ++ (l.take (k + 1)).flatten).length) := by
                  rw [HFF.out, ← List.append_assoc]
                  refine ⟨hO8, ?_⟩
                  injection e9
                clear hO8 HON e9 hb8
                go_wp2
                go_roundw
                case rel => exact ⟨k + 1, n8, q8, c8, by omega, by go_num, rfl, HO8, hb8'⟩
                case measure => simp [intOf]; omega
              · have i4 : ¬ (k : Int) < (N : Int) := by omega
                obtain rfl : k = N := by omega
                have HE0 : Hid (ON wr wP.heap.size (.slice q n c) (poE p) ∧ n = (poE p).length) := by rw [HEX.out]; exact HON.out
                have h0e := kqt h0w hb
                clear HON hb
                by_cases h200 : 200 < n
                · have i5 : (200 : Int) < (n : Int) := by omega
                  have HE : Hid (exprL p = .error 4) := by show _ = _; unfold exprL; rw [if_pos HN.out, if_neg (by have := HE0.out.2; omega)]
                  go_wp2
                  go_ret2
                  exact ⟨by unfold PxRet; rw [HE.out]; rfl, h0e⟩
                · have i5 : ¬ (200 : Int) < (n : Int) := by omega
                  have HE : Hid (exprL p = .ok (poE p)) := by show _ = _; unfold exprL; rw [if_pos HN.out, if_pos (by have := HE0.out.2; omega)]
                  go_wp2
                  go_ret2
                  refine ⟨?_, h0e⟩
                  unfold PxRet
                  rw [HE.out]
                  obtain ⟨hO, rfl⟩ := HE0.out
                  exact ⟨q, c, rfl, hO.nl, hO.cap.1, hO.cap.2⟩
  · have HE : Hid (exprL p = .error (pof p)) := by show _ = _; unfold exprL; rw [if_neg hn]
    unfold PxRet
    rw [HE.out]
    generalize pof p = n at *
    unfold poV at *
    clear HPA HBk HE
    go_enter Tryz.func9, Tryz.ntmps9
    go_wp2_with fail
    rw [← hV]
    refine HC.mono ?_
    rintro _ w1 ⟨rfl, hb1⟩
    clear hV
    go_wp2
    go_ret2
    exact ⟨rfl, kqt hbV hb1⟩
end Go.Proofs.YtkgfmigleacjdaaGreatDoor
