/- slices.CompactFunc at pieces with like.bothWild: the walk. -/
import Derived.Test.YtilpgiapjijmmaaDoorPCompact
namespace Go.Proofs.YtilpgiapjijmmaaDoor
open Go.RowKit
set_option linter.unusedVariables false
set_option linter.unusedSimpArgs false

theorem pret_of {ps dk : List Pc} {kk g cap : Nat} {w : World} (hb : PL w (some ⟨g, 0, none⟩) (dk.take kk)) (he : dk.take kk = pcpn ps ps.length) (hl : kk ≤ dk.length) : PRet ps g cap (.returned (.slice (some ⟨g, 0, none⟩) kk cap)) w := by
  rw [cpn_all] at he
  have : (pcp false ps).length = kk := by rw [← he, List.length_take]; omega
  exact ⟨by rw [this], by rw [← he]; exact hb⟩

set_option maxRecDepth 100000 in
set_option maxHeartbeats 4000000 in
theorem compactP_any (ps : List Pc) (g cap : Nat) (w : World) (hb : PB w g ps) (hcap : ps.length ≤ cap) (hcm : cap ≤ maxLen) (h60 : ps.length ≤ 1000) :
    Calls Tryd.prog 22 #[.slice (some ⟨g, 0, none⟩) ps.length cap, .func (.func 23) #[] #[]] w fun e w' => PRet ps g cap e w' ∧ Below g w w' := by
  unfold maxLen at hcm
  have HP : Hid (PB w g ps) := hb
  have hgl := hb.lt
  clear hb
  by_cases h2 : ps.length < 2
  · have i1 : (ps.length : Int) < 2 := by omega
    go_enter Tryd.func22, Tryd.ntmps22
    go_wp2
    go_ret
    exact ⟨pret_of (HP.out.row ps.length) (by rw [pcpn_same ps _ (Nat.le_refl _) (fun j h1 h3 h4 => by omega)]) (Nat.le_refl _), Below.refl _ _⟩
  · have i1 : ¬ (ps.length : Int) < 2 := by omega
    go_enter Tryd.func22, Tryd.ntmps22
    go_wp2
    go_loopw [5] (fun s5 wr => ∃ k : Nat, 1 ≤ k ∧ k ≤ ps.length ∧ s5 = .int .i64 k ∧ Hid (Below w.heap.size w wr) ∧ Hid (∀ j, 0 < j → (hj : j < k) → (hl : j < ps.length) → (ps[j].1 && (ps[j - 1]'(by omega)).1) = false)) (fun i _ => ps.length - (intOf i).toNat)
    case atStart => exact ⟨1, Nat.le_refl _, by omega, rfl, Below.refl _ _, fun j h1 h3 h4 => by omega⟩
    case round =>
      obtain ⟨k, hk1, hk, rfl, HB, HA⟩ := hrel
      have hwz := HB.out.size
      by_cases hlt : k < ps.length
      · have j1 : (k : Int) < (ps.length : Int) := by omega
        have j2 : (1 : Int) ≤ (k : Int) := by omega
        have hlt0 : k - 1 < ps.length := by omega
        have HQ : Hid (∀ v, Below w.heap.size w v → PB v g ps) := fun v h => HP.out.up h hgl
        have hcells := fun q : BW wr.heap.size wr => (HQ.out q.at_ (HB.out.trans (q.bel.mono hwz))).at (i := k) (List.getElem?_eq_getElem hlt)
        have hcells0 := fun q : BW wr.heap.size wr => (HQ.out q.at_ (HB.out.trans (q.bel.mono hwz))).at (i := k - 1) (List.getElem?_eq_getElem hlt0)
        have c1 := fun q => (hcells q).1
        have c2 := fun q => (hcells q).2
        have d1 := fun q => (hcells0 q).1
        have d2 := fun q => (hcells0 q).2
        have hcall : ∀ q : BW wr.heap.size wr, Calls Tryd.prog 23 #[.agg #[.bool ps[k].1, .int .u8 (ps[k].2.toNat : Int)], .agg #[.bool ps[k - 1].1, .int .u8 (ps[k - 1].2.toNat : Int)]] q.at_ (fun e w'' => e = .returned (.bool (ps[k].1 && ps[k - 1].1)) ∧ ∃ p' : BW wr.heap.size wr, w'' = p'.at_) := fun q => Calls.bel q (bothWild_any ps[k] ps[k - 1] q.at_)
        have HX : Hid (∀ b, (ps[k].1 && ps[k - 1].1) = b → (b = false → ∀ j, 0 < j → (hj : j < k + 1) → (hl : j < ps.length) → (ps[j].1 && (ps[j - 1]'(by omega)).1) = false) ∧ (b = true → PInv ps ps (k + 1) k)) := fun b hb => by
          refine ⟨fun hf j h1 h3 h4 => ?_, fun ht => ⟨rfl, by omega, by omega, ?_, fun _ _ => rfl⟩⟩
          · by_cases e : j = k
            · subst e; rw [hb, hf]
            · exact HA.out j h1 (by omega) h4
          · rw [pcpn, getD_at hlt, getD_at hlt0, hb, ht, decide_eq_true (by omega), pcpn_same ps k hk HA.out]; rfl
        clear hcells hcells0
        generalize ps[k] = x at c1 c2 hcall HX
        generalize ps[k - 1] = y at d1 d2 hcall HX
        generalize hbb : (x.1 && y.1) = bb at hcall
        have HXB := HX.out bb hbb
        have HX2 : Hid (_ ∧ _) := HXB
        clear HXB HX hbb
        cases bb
        · go_wp2_with fail
          refine wp_region_bel (by kernel_rfl) (by kernel_rfl) ?_
          repeat (go_big_quiet_step (exact hcall _))
          refine wpQuiet_nil ?_
          rintro _ ⟨q, rfl⟩
          have HB2 : Hid (Below w.heap.size w q.at_) := HB.out.trans (q.bel.mono hwz)
          clear c1 c2 d1 d2 hcall
          go_wp2_with fail
          go_roundw
          case rel => exact ⟨k + 1, by omega, by omega, by go_num, HB2, HX2.out.1 trivial⟩
          case measure => simp [intOf]; omega
        · have hck : ¬ cap = k := by omega
          have j3 : (k : Int) ≤ (ps.length : Int) := by omega
          go_wp2_with fail
          refine wp_region_bel (by kernel_rfl) (by kernel_rfl) ?_
          repeat (go_big_quiet_step (exact hcall _))
          refine wpQuiet_nil ?_
          rintro _ ⟨q, rfl⟩
          have HB2 : Hid (Below w.heap.size w q.at_) := HB.out.trans (q.bel.mono hwz)
          have HI0 : Hid (PInv ps ps (k + 1) k) := HX2.out.2 trivial
          clear c1 c2 d1 d2 hcall HX2
          go_wp2_with fail
          generalize q.at_ = wo at HB2
          clear q
          have HP0 : Hid (PB wo g ps) := HQ.out _ HB2.out
          have HBG : Hid (Below g w wo) := HB2.out.mono (by omega)
          clear HQ HB2 HB hwz
          go_loopw [5, 7] (fun s5 s7 wq => ∃ (kk k2 : Nat) (dk : List Pc), s5 = .int .i64 kk ∧ s7 = .int .i64 k2 ∧ 1 ≤ k2 ∧ k + k2 ≤ ps.length ∧ Hid (PB wq g dk) ∧ Hid (PInv ps dk (k + k2) kk) ∧ Hid (Below g w wq)) (fun _ i _ => ps.length - (intOf i).toNat)
          case atStart => exact ⟨k, 1, ps, rfl, rfl, Nat.le_refl _, by omega, HP0, HI0, HBG⟩
          case round =>
            obtain ⟨kk, k2, dk, rfl, rfl, hk21, hk2, HPK, HI, HB⟩ := hrel
            have hds := HI.out.size
            have hkk := HI.out.lt
            have hgr := HPK.out.lt
            by_cases hlt2 : k + k2 < ps.length
            · have m1 : (k2 : Int) < ((ps.length - k : Nat) : Int) := by omega
              have m0 : (1 : Int) ≤ (k2 : Int) := by omega
              have m2 : (kk : Int) < (ps.length : Int) := by omega
              have hp1 : k + (k2 - 1) < ps.length := by omega
              have HQ2 : Hid (∀ v, Below wr.heap.size wr v → PB v g dk) := fun v h => HPK.out.up h hgr
              have e1 : dk[k + k2]? = some ps[k + k2] := by rw [HI.out.high _ (by omega)]; exact List.getElem?_eq_getElem hlt2
              have e0 : dk[k + (k2 - 1)]? = some ps[k + (k2 - 1)] := by rw [HI.out.high _ (by omega)]; exact List.getElem?_eq_getElem hp1
              have hcl := fun q : BW wr.heap.size wr => (HQ2.out q.at_ q.bel).at e1
              have hcl0 := fun q : BW wr.heap.size wr => (HQ2.out q.at_ q.bel).at e0
              rw [show (k + k2) * 2 = k * 2 + k2 * 2 by omega] at hcl
              rw [show (k + (k2 - 1)) * 2 = k * 2 + (k2 - 1) * 2 by omega] at hcl0
              have c1 := fun q => (hcl q).1
              have c2 := fun q => (hcl q).2
              have d1 := fun q => (hcl0 q).1
              have d2 := fun q => (hcl0 q).2
              have hcall : ∀ q : BW wr.heap.size wr, Calls Tryd.prog 23 #[.agg #[.bool ps[k + k2].1, .int .u8 (ps[k + k2].2.toNat : Int)], .agg #[.bool ps[k + (k2 - 1)].1, .int .u8 (ps[k + (k2 - 1)].2.toNat : Int)]] q.at_ (fun e w'' => e = .returned (.bool (ps[k + k2].1 && ps[k + (k2 - 1)].1)) ∧ ∃ p' : BW wr.heap.size wr, w'' = p'.at_) := fun q => Calls.bel q (bothWild_any ps[k + k2] ps[k + (k2 - 1)] q.at_)
              have HX : Hid (∀ b, (ps[k + k2].1 && ps[k + (k2 - 1)].1) = b → (b = false → PInv ps (dk.set kk ps[k + k2]) (k + (k2 + 1)) (kk + 1)) ∧ (b = true → PInv ps dk (k + (k2 + 1)) kk)) := fun b hb => by
                have hidx : ps[k + (k2 - 1)] = ps[k + k2 - 1]'(by omega) := by congr 1; omega
                refine ⟨fun hf => ?_, fun ht => ?_⟩
                · exact HI.out.keep hlt2 (by omega) (by rw [← hidx, hb, hf])
                · exact HI.out.skip hlt2 (by omega) (by rw [← hidx, hb, ht])
              have HPUT : Hid (∀ v, Below wr.heap.size wr v → PB ((v.setCell ⟨g, kk * 2, none⟩ (.bool ps[k + k2].1)).setCell ⟨g, kk * 2 + 1, none⟩ (.int .u8 (ps[k + k2].2.toNat : Int))) g (dk.set kk ps[k + k2])) := fun v h => (HQ2.out v h).put kk (by omega) _
              have HOLD : Hid (∀ v, Below wr.heap.size wr v → (∃ u, v.cell? ⟨g, kk * 2, none⟩ = some u) ∧ (∃ u, v.cell? ⟨g, kk * 2 + 1, none⟩ = some u) ∧ v.frozen? ⟨g, kk * 2, none⟩ = false ∧ v.frozen? ⟨g, kk * 2 + 1, none⟩ = false) := fun v h =>
                ⟨Option.isSome_iff_exists.1 ((HQ2.out v h).there (by omega)), Option.isSome_iff_exists.1 ((HQ2.out v h).there (by omega)), (HQ2.out v h).free _, (HQ2.out v h).free _⟩
              clear hcl hcl0 e1 e0
              generalize ps[k + k2] = x at c1 c2 hcall HX HPUT
              generalize ps[k + (k2 - 1)] = y at d1 d2 hcall HX
              generalize hbb : (x.1 && y.1) = bb at hcall
              have HXB := HX.out bb hbb
              have HX2 : Hid (_ ∧ _) := HXB
              clear HXB HX hbb
              cases bb
              · go_wp2_with fail
                refine wp_region_bel (by kernel_rfl) (by kernel_rfl) ?_
                repeat (go_big_quiet_step (exact hcall _))
                refine wpQuiet_nil ?_
                rintro _ ⟨q, rfl⟩
                have x1 := c1 q
                have x2 := c2 q
                obtain ⟨⟨u0, o0⟩, ⟨u1, o1⟩, f0, f1⟩ := HOLD.out q.at_ q.bel
                have HB2 : Hid (Below g w q.at_) := HB.out.trans (q.bel.mono (by omega))
                have HP2 : Hid (PB _ _ _) := HPUT.out q.at_ q.bel
                have HI2 : Hid (PInv ps (dk.set kk x) (k + (k2 + 1)) (kk + 1)) := HX2.out.1 trivial
                clear c1 c2 d1 d2 hcall HX2 HPUT HOLD HQ2
                go_wp2_with fail
                go_roundw
                case rel => exact ⟨kk + 1, k2 + 1, _, by go_num, by go_num, by omega, by omega, HP2, HI2, (HB2.out.setCell (Nat.le_refl _) _).setCell (Nat.le_refl _) _⟩
                case measure => simp [intOf]; omega
              · go_wp2_with fail
                refine wp_region_bel (by kernel_rfl) (by kernel_rfl) ?_
                repeat (go_big_quiet_step (exact hcall _))
                refine wpQuiet_nil ?_
                rintro _ ⟨q, rfl⟩
                have HB2 : Hid (Below g w q.at_) := HB.out.trans (q.bel.mono (by omega))
                have HP2 : Hid (PB q.at_ g dk) := HQ2.out q.at_ q.bel
                have HI2 : Hid (PInv ps dk (k + (k2 + 1)) kk) := HX2.out.2 trivial
                clear c1 c2 d1 d2 hcall HX2 HPUT HOLD HQ2
                go_wp2_with fail
                go_roundw
                case rel => exact ⟨kk, k2 + 1, dk, rfl, by go_num, by omega, by omega, HP2, HI2, HB2⟩
                case measure => simp [intOf]; omega
            · have hend : k + k2 = ps.length := by omega
              have hclr : ∀ ty, (Builtin.clear_ #[38] ty #[.slice (some ⟨g, kk * 2, none⟩) (ps.length - kk) (cap - kk)]).run Tryd.prog wr = .ok (.tuple #[]) (wr.setCells g (kk * 2) (zs (ps.length - kk))) :=
                fun ty => run_clear_pieces wr ty g (kk * 2) _ _ (by omega) (fun j hj => HPK.out.there (by omega)) (fun j hj => HPK.out.free _)
              have m1 : ¬ (k2 : Int) < ((ps.length - k : Nat) : Int) := by omega
              have m3 : (kk : Int) ≤ (ps.length : Int) := by omega
              have m4 : ¬ cap = kk := by omega
              have m5 : (kk : Int) ≤ (cap : Int) := by omega
              have HEN : Hid (k + k2 = ps.length) := hend
              clear hend
              go_wp2_with fail
              go_ret
              refine ⟨pret_of (dk := dk) ?_ (by rw [← HEN.out]; exact HI.out.low) (by omega), HB.out.trans (below_zs g _ _ _)⟩
              rcases HPK.out.row kk with e | ⟨b, o, e, hb, h⟩
              · exact .inl e
              · cases e
                refine .inr ⟨g, 0, rfl, Nat.lt_of_lt_of_le hb (below_zs g _ _ _).size, fun i x hx => ?_⟩
                have hi : i < kk := by
                  have := (List.getElem?_eq_some_iff.1 hx).1
                  rw [List.length_take] at this
                  omega
                rw [World.cell?_setCells_out g _ _ _ _ (fun _ _ => .inl (by show 0 + i * 2 < kk * 2; omega)), World.cell?_setCells_out g _ _ _ _ (fun _ _ => .inl (by show 0 + i * 2 + 1 < kk * 2; omega))]
                exact h i x hx
      · have j1 : ¬ (k : Int) < (ps.length : Int) := by omega
        obtain rfl : k = ps.length := by omega
        go_wp2
        go_ret
        exact ⟨pret_of ((HP.out.up HB.out hgl).row ps.length) (by rw [pcpn_same ps _ (Nat.le_refl _) HA.out]) (Nat.le_refl _), HB.out.mono (by omega)⟩
end Go.Proofs.YtilpgiapjijmmaaDoor
