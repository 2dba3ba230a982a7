/- SchemaParts: the walk of the statement's own function. -/
import Derived.Test.YtpcikfpldmackaaDoorSwiderWalk
import Derived.Test.YtpcikfpldmackaaDoorG22
import Derived.Test.YtpcikfpldmackaaDoorG23
import Derived.Deep.RegionHeld
namespace Go.Proofs.YtpcikfpldmackaaDoor
open Go.RowKit
set_option linter.unusedVariables false
set_option linter.unusedSimpArgs false
set_option maxRecDepth 100000

/-- One entity of a list. -/
theorem EL.sub {w : World} {b off : Nat} {es : List En} (h : EL w (some ⟨b, off, none⟩) es) {i : Nat} (hi : i < es.length) : EL w (some ⟨b, off + i * 4, none⟩) [es[i]] := by
  rcases h with h | ⟨b', off', h1, h2, h3⟩
  · rw [h] at hi; simp at hi
  · cases h1
    refine .inr ⟨b, off + i * 4, rfl, h2, fun j e he => ?_⟩
    cases j with
    | succ j => simp at he
    | zero =>
      simp only [List.getElem?_cons_zero, Option.some.injEq] at he
      subst he
      have := h3 i es[i] (List.getElem?_eq_getElem hi)
      simpa only [Nat.zero_mul, Nat.add_zero] using this
theorem kac_one {w : World} {B : Nat} {a : Ac} {p1 p2 p3 : Option Addr} {c1 c2 c3 : Nat} (h : Blk w B #[.string a.id, .slice p1 a.who.length c1, .slice p2 a.what.length c2, .slice p3 a.cx.length c3] 45) : KaC w (some ⟨B, 0, none⟩) [⟨a, p1, c1, p2, c2, p3, c3⟩] := by
  refine .inr ⟨B, 0, rfl, h.lt, fun j u hu => ?_⟩
  rw [Nat.zero_add, h.cell j]
  simpa [kacl] using hu
set_option maxHeartbeats 4000000 in
theorem sparts_walk (s : Sc) (es : List En) (q : Rq) (a : Ac) (pk pa pe pq p1 p2 p3 : Option Addr) (ck ca ce cq c1 c2 c3 : Nat) (w : World) (hL : ErrVar w) (h : SA w s pk ck pa ca) (hp0 : pa = none → ca = 0) (he : EL w pe es) (hel : es.length ≤ ce) (hem : ce ≤ maxLen) (hq : RqArg w q pq cq) (ha : AcV w a p1 c1 p2 c2 p3 c3) :
    Calls Tryd.prog 4 #[scV s pk ck pa ca, .slice pe es.length ce, reqV q pq cq, acV a p1 c1 p2 c2 p3 c3] w fun e w' => e = .returned (.bool true) ∧ Below w.heap.size w w' := by
  obtain ⟨V, hV⟩ : ∃ V, V = ((w.alloc (.cells #[.slice pk s.ks.length ck, .slice pa s.acs.length ca] 37)).alloc (.cells #[.string q.who.t, .string q.who.i, .string q.act.t, .string q.act.i, .string q.what.t, .string q.what.i, .slice pq q.cx.length cq] 42)).alloc (.cells #[.string a.id, .slice p1 a.who.length c1, .slice p2 a.what.length c2, .slice p3 a.cx.length c3] 45) := ⟨_, rfl⟩
  have hbV : Below w.heap.size w V := by rw [hV]; exact kqx
  have hVs : V.heap.size = w.heap.size + 3 := by rw [hV]; simp
  have HB0 : Hid (Blk V w.heap.size #[.slice pk s.ks.length ck, .slice pa s.acs.length ca] 37) := by rw [hV]; exact ((Blk.new w _ _ rfl).up kqx).up kqx
  have HB1 : Hid (Blk V (w.heap.size + 1) #[.string q.who.t, .string q.who.i, .string q.act.t, .string q.act.i, .string q.what.t, .string q.what.i, .slice pq q.cx.length cq] 42) := by rw [hV]; exact (Blk.new (w.alloc (.cells #[.slice pk s.ks.length ck, .slice pa s.acs.length ca] 37)) _ _ (by simp)).up kqx
  have HB2 : Hid (Blk V (w.heap.size + 1 + 1) #[.string a.id, .slice p1 a.who.length c1, .slice p2 a.what.length c2, .slice p3 a.cx.length c3] 45) := by rw [hV]; refine Blk.new _ _ _ ?_; simp
  have HSA : Hid (SA V s pk ck pa ca) := h.up hbV
  have HEL : Hid (EL V pe es) := he.up hbV
  have HRQ : Hid (RqArg V q pq cq) := ⟨hq.u0, hq.u1, hq.u2, hq.nl.up hbV, hq.le, hq.cm⟩
  have HAC : Hid (AcV V a p1 c1 p2 c2 p3 c3) := ha.up hbV
  have HER : Hid (ErrVar V) := ev_up hL hbV
  have HF := fact_store V (w.heap.size + 3) hVs
  have HP0 : Hid (pa = none → ca = 0) := hp0
  have HEM : Hid (es.length ≤ ce ∧ ce ≤ maxLen) := ⟨hel, hem⟩
  unfold scV reqV acV
  clear h he hq ha hL hp0 hel hem
  go_enter Tryd.func4, Tryd.ntmps4
  go_wp2_with fail
  rw [← hV]
  clear hV
  refine HF.mono ?_
  rintro _ w1 ⟨rfl, hb1⟩
  go_wp2_with fail
  refine (same_errno 3 3 w1 (ev_up HER.out hb1)).mono ?_
  rintro _ w2 ⟨rfl, hb2'⟩
  have hb2 := kqt hb1 hb2'
  clear hb1 hb2' HF
  rw [show ((3 : Int) == 3) = true from rfl]
  have x0 : w2.cell? ⟨w.heap.size, 0, none⟩ = some (.slice pk s.ks.length ck) := (HB0.out.up hb2).cell 0
  have x1 : w2.cell? ⟨w.heap.size, 1, none⟩ = some (.slice pa s.acs.length ca) := (HB0.out.up hb2).cell 1
  have HC := scheck_any s pk pa ck ca w2 (HSA.out.up hb2)
  unfold scV at HC
  by_cases h0 : scf s = 0
  · rw [eV_nil h0] at HC
    have HS0 : Hid (scf s = 0) := h0
    clear h0
    go_wp2_with fail
    refine HC.mono ?_
    rintro _ w3 ⟨rfl, hb3'⟩
    have hb3 := kqt hb2 hb3'
    clear hb2 hb3' HC x0 x1
    have HN := entCheck_any es pe ce w3 (HEL.out.up hb3)
    by_cases h1 : stf es = 0
    · rw [eV_nil h1] at HN
      have HS1 : Hid (stf es = 0) := h1
      have h16 : es.length ≤ 16 := (stf_zero h1).few
      clear h1
      go_wp2_with fail
      refine HN.mono ?_
      rintro _ w4 ⟨rfl, hb4'⟩
      have hb4 := kqt hb3 hb4'
      clear hb3 hb4' HN
      go_wp2_with fail
      go_loopw [10, 11] (fun al i wr => ∃ k : Nat, k ≤ es.length ∧ i = .int .i64 k ∧ ∃ b : Bool, al = .bool b ∧ Hid (b = true ↔ ∀ e ∈ es.take k, stof s [e] = 0) ∧ Below V.heap.size V wr) (fun _ i _ => es.length - (intOf i).toNat)
      case atStart => exact ⟨0, Nat.zero_le _, rfl, true, rfl, by simp [Hid], hb4⟩
      case round =>
        rename World => wr
        obtain ⟨k, hk, rfl, bb, rfl, HD, hbr⟩ := hrel
        by_cases hlt : k < es.length
        · have i1 : (k : Int) < (es.length : Int) := by omega
          have i2 : (k : Int) + 1 ≤ (ce : Int) := by have := HEM.out.1; omega
          have i3 : ¬ (k : Int) + 1 < (k : Int) := by omega
          obtain ⟨eb, eo, hpe⟩ : ∃ eb eo, pe = some ⟨eb, eo, none⟩ := by
            rcases HEL.out with h | ⟨b, off, h1, _⟩
            · rw [h] at hlt; simp at hlt
            · exact ⟨b, off, h1⟩
          subst hpe
          have i4 : IntKind.i64.wrap ((k : Int) + 1) = (k : Int) + 1 := IntWalk.i64_in _ (by omega)
          have i6 : ¬ ce = k := by have := HEM.out.1; omega
          have i5 : (0 : Int) ≤ (k : Int) + 1 := by omega
          have hcem : ce ≤ 9223372036854775807 := by have := HEM.out.2; unfold maxLen at this; exact this
          have hB := HB0.out.up hbr
          have y0 : wr.cell? ⟨w.heap.size, 0, none⟩ = some (.slice pk s.ks.length ck) := hB.cell 0
          have y1 : wr.cell? ⟨w.heap.size, 1, none⟩ = some (.slice pa s.acs.length ca) := hB.cell 1
          have HST := fun W (hW : Below V.heap.size V W) => sstore_any s [es[k]] pk pa (some ⟨eb, eo + k * 4, none⟩) ck ca (ce - k) W (HSA.out.up hW) ((HEL.out.up hW).sub hlt) (by unfold maxLen; simp)
          unfold scV at HST
          simp only [List.length_singleton] at HST
          have HD2 : Hid ((bb = true ∧ stof s [es[k]] = 0) ↔ ∀ e ∈ es.take (k + 1), stof s [e] = 0) := by
            show _ ↔ _
            rw [HD.out, List.take_succ_eq_append_getElem hlt]
            simp only [List.mem_append, List.mem_singleton]
            constructor
            · rintro ⟨h1, h2⟩ e (h | rfl)
              · exact h1 e h
              · exact h2
            · intro h
              exact ⟨fun e he => h e (.inl he), h _ (.inr rfl)⟩
          clear HD
          generalize stof s [es[k]] = n at *
          by_cases hn : n = 0
          · rw [eV_nil hn] at HST
            have HD3 : Hid (bb = true ↔ ∀ e ∈ es.take (k + 1), stof s [e] = 0) := by show _ ↔ _; rw [← HD2.out]; exact ⟨fun h => ⟨h, hn⟩, fun h => h.1⟩
            clear HD2 hn
            go_wp2_with fail
            go_region_held (fun w' => w'.cell? ⟨w.heap.size, 0, none⟩ = some (.slice pk s.ks.length ck) ∧ w'.cell? ⟨w.heap.size, 1, none⟩ = some (.slice pa s.acs.length ca)) (first | exact ⟨y0, y1⟩ | exact ⟨(HB0.out.up hbs).cell 0, (HB0.out.up hbs).cell 1⟩) (first
              | (go_at_call 13
                 refine (HST _ (kqt hbr kqx)).mono ?_
                 rintro _ w5 ⟨rfl, hb5⟩
                 have hbs : Below V.heap.size V w5 := kqt (kqt hbr kqx) hb5))
            go_wp2
            go_roundw
            case rel => exact ⟨k + 1, by omega, by go_num, bb, rfl, HD3, hbs⟩
            case measure => simp [intOf]; omega
          · rw [eV_not hn] at HST
            have HD3 : Hid (false = true ↔ ∀ e ∈ es.take (k + 1), stof s [e] = 0) := by show _ ↔ _; rw [← HD2.out]; exact ⟨fun h => absurd h (by simp), fun h => absurd h.2 hn⟩
            clear HD2 hn
            go_wp2_with fail
            go_region_held (fun w' => w'.cell? ⟨w.heap.size, 0, none⟩ = some (.slice pk s.ks.length ck) ∧ w'.cell? ⟨w.heap.size, 1, none⟩ = some (.slice pa s.acs.length ca)) (first | exact ⟨y0, y1⟩ | exact ⟨(HB0.out.up hbs).cell 0, (HB0.out.up hbs).cell 1⟩) (first
              | (go_at_call 13
                 refine (HST _ (kqt hbr kqx)).mono ?_
                 rintro _ w5 ⟨rfl, hb5⟩
                 have hbs : Below V.heap.size V w5 := kqt (kqt hbr kqx) hb5))
            go_wp2
            go_roundw
            case rel => exact ⟨k + 1, by omega, by go_num, false, rfl, HD3, hbs⟩
            case measure => simp [intOf]; omega
        · have i1 : ¬ (k : Int) < (es.length : Int) := by omega
          have y0 : wr.cell? ⟨w.heap.size, 0, none⟩ = some (.slice pk s.ks.length ck) := (HB0.out.up hbr).cell 0
          have y1 : wr.cell? ⟨w.heap.size, 1, none⟩ = some (.slice pa s.acs.length ca) := (HB0.out.up hbr).cell 1
          have HST := sstore_any s es pk pa pe ck ca ce wr (HSA.out.up hbr) (HEL.out.up hbr) (Nat.le_trans HEM.out.1 HEM.out.2)
          unfold scV at HST
          have hal : bb = true ↔ stof s es = 0 := by
            have := HD.out
            rw [List.take_of_length_le (by omega)] at this
            rw [this]
            exact (stof_parts HS0.out HS1.out).symm
          clear HD
          by_cases hn : stof s es = 0
          · obtain rfl := hal.2 hn
            rw [eV_nil hn] at HST
            clear hn hal
            go_wp2_with fail
            refine HST.mono ?_
            rintro _ w5 ⟨rfl, hb5'⟩
            have hb5 := kqt hbr hb5'
            clear hbr hb5' y0 y1 HST
            have y0 : w5.cell? ⟨w.heap.size, 0, none⟩ = some (.slice pk s.ks.length ck) := (HB0.out.up hb5).cell 0
            have hs5 : V.heap.size ≤ w5.heap.size := hb5.size
            obtain ⟨xs, hxs, hxl⟩ := HSA.out.asl.parts
            have HXM : Hid (xs.map (·.k) = s.acs) := hxs
            have HXN : Hid (xs.length = s.acs.length) := by show _ = _; rw [← hxs, List.length_map]
            have HX8 : Hid (xs.length ≤ 8) := by
              show _ ≤ _
              rw [HXN.out]
              rcases scf_ways s with ⟨_, e⟩ | ⟨_, hk, _⟩
              · rw [e] at HS0; exact absurd HS0.out (by decide)
              · exact hk
            have HXP : Hid (∀ x ∈ xs, ∀ w', Below V.heap.size V w' → AcV w' x.k x.p1 x.c1 x.p2 x.c2 x.p3 x.c3) := fun x hx w' hb => (hxl.parts x hx).up hb
            have HXC : Hid (∀ w', Below V.heap.size V w' → KaC w' pa xs) := fun w' hb => KaC.up hxl.lies hb
            have HS : Hid (∀ w', Below V.heap.size V w' → w'.cell? ⟨w.heap.size, 1, none⟩ = some (.slice pa s.acs.length ca) ∧ w'.cell? ⟨w.heap.size + 1 + 1, 0, none⟩ = some (.string a.id) ∧ w'.cell? ⟨w.heap.size + 1 + 1, 1, none⟩ = some (.slice p1 a.who.length c1) ∧ w'.cell? ⟨w.heap.size + 1 + 1, 2, none⟩ = some (.slice p2 a.what.length c2) ∧ w'.cell? ⟨w.heap.size + 1 + 1, 3, none⟩ = some (.slice p3 a.cx.length c3)) := fun w' hb => ⟨(HB0.out.up hb).cell 1, (HB2.out.up hb).cell 0, (HB2.out.up hb).cell 1, (HB2.out.up hb).cell 2, (HB2.out.up hb).cell 3⟩
            clear hxs hxl
            obtain ⟨W6, hW6'⟩ : ∃ W6, W6 = w5.alloc (.cells #[.slice pk s.ks.length ck, .slice none 0 0] 37) := ⟨_, rfl⟩
            have hb56 : Below w5.heap.size w5 W6 := by rw [hW6']; exact kqx
            have hs6 : W6.heap.size = w5.heap.size + 1 := by rw [hW6']; simp
            have hW6 : Blk W6 w5.heap.size #[.slice pk s.ks.length ck, .slice none 0 0] 37 := by rw [hW6']; exact Blk.new w5 _ _ rfl
            obtain ⟨Z0, hZ0⟩ : ∃ Z0, Z0 = W6.drew := ⟨_, rfl⟩
            have hb6Z0 : Below W6.heap.size W6 Z0 := by rw [hZ0]; exact kqx
            have hsZ0 : Z0.heap.size = w5.heap.size + 1 := by rw [hZ0]; exact hs6
            have hbVZ0 : Below V.heap.size V Z0 := kqt hb5 (kqt hb56 hb6Z0)
            go_wp2_with fail
            rw [← hW6']
            clear hW6' y0
            refine wp_region_held_drew (S := fun w' => w'.cell? ⟨w.heap.size, 1, none⟩ = some (.slice pa s.acs.length ca) ∧ w'.cell? ⟨w.heap.size + 1 + 1, 0, none⟩ = some (.string a.id) ∧ w'.cell? ⟨w.heap.size + 1 + 1, 1, none⟩ = some (.slice p1 a.who.length c1) ∧ w'.cell? ⟨w.heap.size + 1 + 1, 2, none⟩ = some (.slice p2 a.what.length c2) ∧ w'.cell? ⟨w.heap.size + 1 + 1, 3, none⟩ = some (.slice p3 a.cx.length c3)) (by kernel_rfl) (by rw [← hZ0]; exact HS.out _ hbVZ0) (fun hHeld => ?_)
            rw [← hZ0] at hHeld ⊢
            clear hZ0
            refine wpAnyH_take (i := 1) (v := ?_) rfl (by kernel_rfl) (by kernel_rfl) (by kernel_rfl) (fun _ _ _ h => h) (Or.inl ⟨by rfl, ?_⟩) (by assumption) ?_
            rotate_left
            · intro w hSw
              go_simp
              all_goals with_reducible rfl
            try simp only [Act.put, List.setIfInBounds_toArray, List.set_cons_zero, List.set_cons_succ]
            refine wpAnyH_take (i := 2) (v := ?_) rfl (by kernel_rfl) (by kernel_rfl) (by kernel_rfl) (fun _ _ _ h => h) (Or.inl ⟨by rfl, ?_⟩) (by assumption) ?_
            rotate_left
            · intro w hSw
              go_simp
              all_goals with_reducible rfl
            try simp only [Act.put, List.setIfInBounds_toArray, List.set_cons_zero, List.set_cons_succ]
            refine wpAnyH_take (i := 4) (v := ?_) rfl (by kernel_rfl) (by kernel_rfl) (by kernel_rfl) (fun _ _ _ h => h) (Or.inl ⟨by rfl, ?_⟩) (by assumption) ?_
            rotate_left
            · intro w hSw
              go_simp
              all_goals with_reducible rfl
            try simp only [Act.put, List.setIfInBounds_toArray, List.set_cons_zero, List.set_cons_succ]
            refine wpAnyH_ready (rs := [0, 5]) (by kernel_rfl) (by simp) ?_
            refine AllReadyH.cons rfl (fun K hK => ?_) (AllReadyH.cons rfl (fun K hK => ?_) (AllReadyH.nil))
            · go_simp
              obtain ⟨Za, hZa⟩ : ∃ Za, Za = Z0.alloc (.cells #[] 45) := ⟨_, rfl⟩
              have hbZa : Below Z0.heap.size Z0 Za := by rw [hZa]; exact kqx
              have hbVZa := kqt hbVZ0 hbZa
              have hsZa : Za.heap.size = Z0.heap.size + 1 := by rw [hZa]; simp
              have hrZa : Za.ownsRow (w5.heap.size + 1) 45 4 (.slice (some ⟨w5.heap.size + 1, 0, none⟩) 0 0) ([] : List KaA).length (kacl []) := by have := World.ownsRow_made (base := w5.heap.size + 1) (e := 45) (size := 4) Z0 #[] 0 (by omega) (Nat.zero_le _) (by simp); rw [hZa]; simp only [hsZ0, hsZ0] at this; exact this
              rw [← hZa]
              clear hZa
              refine hK.out _ _ (HS.out _ hbVZa) (fun hHeld => ?_)
              clear hK K
              try simp only [Act.put, List.setIfInBounds_toArray, List.set_cons_zero, List.set_cons_succ]
              refine wpAnyH_ready (rs := [3, 5]) (by kernel_rfl) (by simp) ?_
              refine AllReadyH.cons rfl (fun K hK => ?_) (AllReadyH.cons rfl (fun K hK => ?_) (AllReadyH.nil))
              · rw [if_pos (by rfl)]
                refine wp_append_acts Za (.tmp 52) (.tmp 54) rfl (w5.heap.size + 1) (.slice (some ⟨w5.heap.size + 1, 0, none⟩) 0 0) [] rfl hrZa xs s.acs.length HXN.out pa ca (HXC.out _ hbVZa) HP0.out rfl (by simp; have := HX8.out; omega) (by omega) ?_
                intro vZb Zb hrZb hgZb _
                rw [List.nil_append] at hrZb
                have hb5Zb : Below (w5.heap.size + 1) Za Zb := grown_below hgZb (fun g hg => (World.ownsRow.lt hrZa g hg).1) (by omega)
                have hbVZb : Below V.heap.size V Zb := hbVZa.trans (hb5Zb.mono (by omega))
                have hsZb : Za.heap.size ≤ Zb.heap.size := hgZb.size

                obtain ⟨qZb, cZb, hvZb⟩ := ownP_slice hrZb
                subst hvZb
                refine hK.out _ _ (HS.out _ hbVZb) (fun hHeld => ?_)
                clear hK K
                try simp only [Act.put, List.setIfInBounds_toArray, List.set_cons_zero, List.set_cons_succ]
                refine wpAnyH_ready (rs := [5]) (by kernel_rfl) (by simp) ?_
                refine AllReadyH.cons rfl (fun K hK => ?_) (AllReadyH.nil)
                go_simp
                obtain ⟨Zc, hZc⟩ : ∃ Zc, Zc = Zb.alloc (.cells #[.string a.id, .slice p1 a.who.length c1, .slice p2 a.what.length c2, .slice p3 a.cx.length c3] 45) := ⟨_, rfl⟩
                have hbZc : Below Zb.heap.size Zb Zc := by rw [hZc]; exact kqx
                have hbVZc := kqt hbVZb hbZc
                have hsZc : Zc.heap.size = Zb.heap.size + 1 := by rw [hZc]; simp
                have hAZc : Blk Zc (Zb.heap.size) #[.string a.id, .slice p1 a.who.length c1, .slice p2 a.what.length c2, .slice p3 a.cx.length c3] 45 := by rw [hZc]; exact Blk.new Zb _ _ (by omega)
                have hrZc := ownP_agree (w' := Zc) hrZb (fun g _ hl => hbZc.block g hl)
                rw [← hZc]
                clear hZc
                refine hK.out _ _ (HS.out _ hbVZc) (fun hHeld => ?_)
                clear hK K
                try simp only [Act.put, List.setIfInBounds_toArray, List.set_cons_zero, List.set_cons_succ]
                refine wpAnyH_ready (rs := [6]) (by kernel_rfl) (by simp) ?_
                refine AllReadyH.cons rfl (fun K hK => ?_) (AllReadyH.nil)
                rw [if_pos (by rfl)]
                refine wp_append_acts Zc (.tmp 55) (.tmp 57) rfl (w5.heap.size + 1) _ xs rfl hrZc [⟨a, p1, c1, p2, c2, p3, c3⟩] 1 rfl (some ⟨Zb.heap.size, 0, none⟩) 1 (kac_one hAZc) (fun h => by cases h) rfl (by simp; have := HX8.out; omega) (by omega) ?_
                intro vZd Zd hrZd hgZd _
                have hb5Zd : Below (w5.heap.size + 1) Zc Zd := grown_below hgZd (fun g hg => (World.ownsRow.lt hrZc g hg).1) (by omega)
                have hbVZd : Below V.heap.size V Zd := hbVZc.trans (hb5Zd.mono (by omega))
                have hsZd : Zc.heap.size ≤ Zd.heap.size := hgZd.size
                obtain ⟨qZd, cZd, hvZd⟩ := ownP_slice hrZd
                subst hvZd
                obtain ⟨M, hM⟩ : ∃ M, M = (xs ++ [(⟨a, p1, c1, p2, c2, p3, c3⟩ : KaA)]).length := ⟨_, rfl⟩
                rw [← hM] at hrZd ⊢
                have HM : Hid (M = _) := hM
                clear hM
                refine hK.out _ _ (HS.out _ hbVZd) (fun hHeld => ?_)
                clear hK K
                try simp only [Act.put, List.setIfInBounds_toArray, List.set_cons_zero, List.set_cons_succ]
                have hWZ0 := hW6.up hb6Z0
                have hWZa := hWZ0.up hbZa
                have hWZb := hWZa.low hb5Zb (Nat.lt_succ_self _)
                have hWZc := hWZb.up hbZc
                have hWZd := hWZc.low hb5Zd (Nat.lt_succ_self _)
                refine wpAnyH_take (i := 7) (v := ?_) rfl (by kernel_rfl) (by kernel_rfl) (by kernel_rfl) (fun _ _ _ h => h) (Or.inl ⟨by rfl, ?_⟩) (by assumption) ?_
                rotate_left
                · intro w hSw
                  go_simp
                  all_goals with_reducible rfl
                try simp only [Act.put, List.setIfInBounds_toArray, List.set_cons_zero, List.set_cons_succ]
                have e1 : Zd.cell? ⟨w5.heap.size, 1, none⟩ = some (.slice none 0 0) := hWZd.cell 1
                have e2 := hWZd.free 1
                obtain ⟨Ze, hZe⟩ : ∃ Ze, Ze = Zd.setCell ⟨w5.heap.size, 1, none⟩ (.slice qZd M cZd) := ⟨_, rfl⟩
                obtain ⟨hWe, hKe⟩ := hWZd.set hZe
                have hbVZe : Below V.heap.size V Ze := hbVZd.trans (hKe.below (by omega) (fun a e => by omega))
                have hrZe : Ze.ownsRow (w5.heap.size + 1) 45 4 (.slice qZd M cZd) M (kacl (xs ++ [⟨a, p1, c1, p2, c2, p3, c3⟩])) := ownP_agree hrZd (fun g hg hl => hKe.block g hl (fun e => by have := (World.ownsRow.lt hrZd g hg).1; omega))
                refine wpAnyH_ready (rs := [8]) (by kernel_rfl) (by simp) ?_
                refine AllReadyH.cons rfl (fun K hK => ?_) (AllReadyH.nil)
                go_simp
                rw [← hZe]
                refine hK.out _ _ (HS.out _ hbVZe) (fun hHeld => ?_)
                clear hK K hZe e1 e2
                refine wpAnyH_done (by kernel_rfl) ?_ _
                clear hHeld
                have hM := HM.out
                rw [hM] at hrZe
                obtain ⟨qe, ce', he1, hAL, hAl, hAm⟩ := acts_of_row hrZe (fun x hx => by
                  rcases List.mem_append.1 hx with hx | hx
                  · exact HXP.out x hx Ze hbVZe
                  · rw [List.mem_singleton.1 hx]; exact HAC.out.up hbVZe)
                rw [← hM] at he1 hAl
                injection he1 with e1 _ e2
                subst e1 e2
                rw [List.map_append, HXM.out] at hAL
                have hML : (s.acs ++ [a]).length = M := by rw [hM, List.length_append, List.length_append, HXN.out]; rfl
                have hSAe : SA Ze ⟨s.ks, s.acs ++ [a]⟩ pk ck qZd cZd := ⟨HSA.out.ks.up hbVZe, HSA.out.kl, HSA.out.km, hAL, by rw [hML]; exact hAl, hAm⟩
                have HSE : Hid (SA Ze ⟨s.ks, s.acs ++ [a]⟩ pk ck qZd cZd) := hSAe
                have HWE : Hid (Blk Ze w5.heap.size #[.slice pk s.ks.length ck, .slice qZd M cZd] 37) := hWe
                have HC := scheck_any _ _ _ _ _ Ze hSAe
                have HAS := fun W (hW : Below V.heap.size V W) => sasks_any s q pk pa pq ck ca cq W (HSA.out.up hW) ⟨HRQ.out.u0, HRQ.out.u1, HRQ.out.u2, HRQ.out.nl.up hW, HRQ.out.le, HRQ.out.cm⟩
                have HAM := fun W (hW : Below V.heap.size V W) (hE : Below Ze.heap.size Ze W) => sasks_any ⟨s.ks, s.acs ++ [a]⟩ q pk qZd pq ck cZd cq W (HSE.out.up hE) ⟨HRQ.out.u0, HRQ.out.u1, HRQ.out.u2, HRQ.out.nl.up hW, HRQ.out.le, HRQ.out.cm⟩
                unfold scV at HC HAS HAM
                unfold reqV at HAS HAM
                rw [hML] at HC HAM
                have HMO : Hid (asks s q = 0 → scf ⟨s.ks, s.acs ++ [a]⟩ = 0 → asks ⟨s.ks, s.acs ++ [a]⟩ q = 0) := fun h1 h2 => asks_more h1 h2
                clear hAL hAl hAm hSAe hrZe hM hML hWe hKe HX8 HXN HXC HXP HXM HS
                have z0 : Ze.cell? ⟨w5.heap.size, 0, none⟩ = some (.slice pk s.ks.length ck) := HWE.out.cell 0
                have z1 : Ze.cell? ⟨w5.heap.size, 1, none⟩ = some (.slice qZd M cZd) := HWE.out.cell 1
                by_cases h0 : scf ⟨s.ks, s.acs ++ [a]⟩ = 0
                · rw [eV_nil h0] at HC
                  go_wp2_with fail
                  refine HC.mono ?_
                  rintro _ w7 ⟨rfl, hb7⟩
                  have hb07 := kqt hbVZe hb7
                  have r0 : w7.cell? ⟨w.heap.size, 0, none⟩ = some (.slice pk s.ks.length ck) := (HB0.out.up hb07).cell 0
                  have r1 : w7.cell? ⟨w.heap.size, 1, none⟩ = some (.slice pa s.acs.length ca) := (HB0.out.up hb07).cell 1
                  have t0 : w7.cell? ⟨w.heap.size + 1, 0, none⟩ = some (.string q.who.t) := (HB1.out.up hb07).cell 0
                  have t1 : w7.cell? ⟨w.heap.size + 1, 1, none⟩ = some (.string q.who.i) := (HB1.out.up hb07).cell 1
                  have t2 : w7.cell? ⟨w.heap.size + 1, 2, none⟩ = some (.string q.act.t) := (HB1.out.up hb07).cell 2
                  have t3 : w7.cell? ⟨w.heap.size + 1, 3, none⟩ = some (.string q.act.i) := (HB1.out.up hb07).cell 3
                  have t4 : w7.cell? ⟨w.heap.size + 1, 4, none⟩ = some (.string q.what.t) := (HB1.out.up hb07).cell 4
                  have t5 : w7.cell? ⟨w.heap.size + 1, 5, none⟩ = some (.string q.what.i) := (HB1.out.up hb07).cell 5
                  have t6 : w7.cell? ⟨w.heap.size + 1, 6, none⟩ = some (.slice pq q.cx.length cq) := (HB1.out.up hb07).cell 6
                  by_cases h1 : asks s q = 0
                  · rw [eV_nil h1] at HAS
                    rw [eV_nil (HMO.out h1 h0)] at HAM
                    clear h0 h1 HMO HC z0 z1
                    go_wp2_with fail
                    refine (HAS _ hb07).mono ?_
                    rintro _ w8 ⟨rfl, hb8⟩
                    have hbe8 := kqt hb7 hb8
                    have hb08 := kqt hb07 hb8
                    clear r0 r1 t0 t1 t2 t3 t4 t5 t6
                    have z0 : w8.cell? ⟨w5.heap.size, 0, none⟩ = some (.slice pk s.ks.length ck) := (HWE.out.up hbe8).cell 0
                    have z1 : w8.cell? ⟨w5.heap.size, 1, none⟩ = some (.slice qZd M cZd) := (HWE.out.up hbe8).cell 1
                    have t0 : w8.cell? ⟨w.heap.size + 1, 0, none⟩ = some (.string q.who.t) := (HB1.out.up hb08).cell 0
                    have t1 : w8.cell? ⟨w.heap.size + 1, 1, none⟩ = some (.string q.who.i) := (HB1.out.up hb08).cell 1
                    have t2 : w8.cell? ⟨w.heap.size + 1, 2, none⟩ = some (.string q.act.t) := (HB1.out.up hb08).cell 2
                    have t3 : w8.cell? ⟨w.heap.size + 1, 3, none⟩ = some (.string q.act.i) := (HB1.out.up hb08).cell 3
                    have t4 : w8.cell? ⟨w.heap.size + 1, 4, none⟩ = some (.string q.what.t) := (HB1.out.up hb08).cell 4
                    have t5 : w8.cell? ⟨w.heap.size + 1, 5, none⟩ = some (.string q.what.i) := (HB1.out.up hb08).cell 5
                    have t6 : w8.cell? ⟨w.heap.size + 1, 6, none⟩ = some (.slice pq q.cx.length cq) := (HB1.out.up hb08).cell 6
                    go_wp2_with fail
                    refine (HAM _ hb08 hbe8).mono ?_
                    rintro _ w9 ⟨rfl, hb9⟩
                    go_wp2
                    go_ret
                    exact ⟨rfl, kqt hbV (kqt hb08 hb9)⟩
                  · rw [eV_not h1] at HAS
                    clear h0 h1 HMO HC z0 z1 HAM
                    generalize asks s q = n at *
                    go_wp2_with fail
                    refine (HAS _ hb07).mono ?_
                    rintro _ w8 ⟨rfl, hb8⟩
                    go_wp2
                    go_ret
                    exact ⟨rfl, kqt hbV (kqt hb07 hb8)⟩
                · rw [eV_not h0] at HC
                  clear h0 HMO HAS HAM
                  generalize scf ⟨s.ks, s.acs ++ [a]⟩ = n at *
                  go_wp2_with fail
                  refine HC.mono ?_
                  rintro _ w7 ⟨rfl, hb7⟩
                  go_wp2
                  go_ret
                  exact ⟨rfl, kqt hbV (kqt hbVZe hb7)⟩
              · go_simp
                obtain ⟨Zb, hZb⟩ : ∃ Zb, Zb = Za.alloc (.cells #[.string a.id, .slice p1 a.who.length c1, .slice p2 a.what.length c2, .slice p3 a.cx.length c3] 45) := ⟨_, rfl⟩
                have hbZb : Below Za.heap.size Za Zb := by rw [hZb]; exact kqx
                have hbVZb := kqt hbVZa hbZb
                have hsZb : Zb.heap.size = Za.heap.size + 1 := by rw [hZb]; simp
                have hAZb : Blk Zb (w5.heap.size + 1 + 1) #[.string a.id, .slice p1 a.who.length c1, .slice p2 a.what.length c2, .slice p3 a.cx.length c3] 45 := by rw [hZb]; exact Blk.new Za _ _ (by omega)
                have hrZb := ownP_agree (w' := Zb) hrZa (fun g _ hl => hbZb.block g hl)
                rw [← hZb]
                clear hZb
                refine hK.out _ _ (HS.out _ hbVZb) (fun hHeld => ?_)
                clear hK K
                try simp only [Act.put, List.setIfInBounds_toArray, List.set_cons_zero, List.set_cons_succ]
                refine wpAnyH_ready (rs := [3]) (by kernel_rfl) (by simp) ?_
                refine AllReadyH.cons rfl (fun K hK => ?_) (AllReadyH.nil)
                rw [if_pos (by rfl)]
                refine wp_append_acts Zb (.tmp 52) (.tmp 54) rfl (w5.heap.size + 1) (.slice (some ⟨w5.heap.size + 1, 0, none⟩) 0 0) [] rfl hrZb xs s.acs.length HXN.out pa ca (HXC.out _ hbVZb) HP0.out rfl (by simp; have := HX8.out; omega) (by omega) ?_
                intro vZc Zc hrZc hgZc _
                rw [List.nil_append] at hrZc
                have hb5Zc : Below (w5.heap.size + 1) Zb Zc := grown_below hgZc (fun g hg => (World.ownsRow.lt hrZb g hg).1) (by omega)
                have hbVZc : Below V.heap.size V Zc := hbVZb.trans (hb5Zc.mono (by omega))
                have hsZc : Zb.heap.size ≤ Zc.heap.size := hgZc.size
                have hAZc := hAZb.grown hgZc (fun e => by simp only [Value.ownBlock, Option.some.injEq] at e; omega)
                obtain ⟨qZc, cZc, hvZc⟩ := ownP_slice hrZc
                subst hvZc
                refine hK.out _ _ (HS.out _ hbVZc) (fun hHeld => ?_)
                clear hK K
                try simp only [Act.put, List.setIfInBounds_toArray, List.set_cons_zero, List.set_cons_succ]
                refine wpAnyH_ready (rs := [6]) (by kernel_rfl) (by simp) ?_
                refine AllReadyH.cons rfl (fun K hK => ?_) (AllReadyH.nil)
                rw [if_pos (by rfl)]
                refine wp_append_acts Zc (.tmp 55) (.tmp 57) rfl (w5.heap.size + 1) _ xs rfl hrZc [⟨a, p1, c1, p2, c2, p3, c3⟩] 1 rfl (some ⟨w5.heap.size + 1 + 1, 0, none⟩) 1 (kac_one hAZc) (fun h => by cases h) rfl (by simp; have := HX8.out; omega) (by omega) ?_
                intro vZd Zd hrZd hgZd _
                have hb5Zd : Below (w5.heap.size + 1) Zc Zd := grown_below hgZd (fun g hg => (World.ownsRow.lt hrZc g hg).1) (by omega)
                have hbVZd : Below V.heap.size V Zd := hbVZc.trans (hb5Zd.mono (by omega))
                have hsZd : Zc.heap.size ≤ Zd.heap.size := hgZd.size
                obtain ⟨qZd, cZd, hvZd⟩ := ownP_slice hrZd
                subst hvZd
                obtain ⟨M, hM⟩ : ∃ M, M = (xs ++ [(⟨a, p1, c1, p2, c2, p3, c3⟩ : KaA)]).length := ⟨_, rfl⟩
                rw [← hM] at hrZd ⊢
                have HM : Hid (M = _) := hM
                clear hM
                refine hK.out _ _ (HS.out _ hbVZd) (fun hHeld => ?_)
                clear hK K
                try simp only [Act.put, List.setIfInBounds_toArray, List.set_cons_zero, List.set_cons_succ]
                have hWZ0 := hW6.up hb6Z0
                have hWZa := hWZ0.up hbZa
                have hWZb := hWZa.up hbZb
                have hWZc := hWZb.low hb5Zc (Nat.lt_succ_self _)
                have hWZd := hWZc.low hb5Zd (Nat.lt_succ_self _)
                refine wpAnyH_take (i := 7) (v := ?_) rfl (by kernel_rfl) (by kernel_rfl) (by kernel_rfl) (fun _ _ _ h => h) (Or.inl ⟨by rfl, ?_⟩) (by assumption) ?_
                rotate_left
                · intro w hSw
                  go_simp
                  all_goals with_reducible rfl
                try simp only [Act.put, List.setIfInBounds_toArray, List.set_cons_zero, List.set_cons_succ]
                have e1 : Zd.cell? ⟨w5.heap.size, 1, none⟩ = some (.slice none 0 0) := hWZd.cell 1
                have e2 := hWZd.free 1
                obtain ⟨Ze, hZe⟩ : ∃ Ze, Ze = Zd.setCell ⟨w5.heap.size, 1, none⟩ (.slice qZd M cZd) := ⟨_, rfl⟩
                obtain ⟨hWe, hKe⟩ := hWZd.set hZe
                have hbVZe : Below V.heap.size V Ze := hbVZd.trans (hKe.below (by omega) (fun a e => by omega))
                have hrZe : Ze.ownsRow (w5.heap.size + 1) 45 4 (.slice qZd M cZd) M (kacl (xs ++ [⟨a, p1, c1, p2, c2, p3, c3⟩])) := ownP_agree hrZd (fun g hg hl => hKe.block g hl (fun e => by have := (World.ownsRow.lt hrZd g hg).1; omega))
                refine wpAnyH_ready (rs := [8]) (by kernel_rfl) (by simp) ?_
                refine AllReadyH.cons rfl (fun K hK => ?_) (AllReadyH.nil)
                go_simp
                rw [← hZe]
                refine hK.out _ _ (HS.out _ hbVZe) (fun hHeld => ?_)
                clear hK K hZe e1 e2
                refine wpAnyH_done (by kernel_rfl) ?_ _
                clear hHeld
                have hM := HM.out
                rw [hM] at hrZe
                obtain ⟨qe, ce', he1, hAL, hAl, hAm⟩ := acts_of_row hrZe (fun x hx => by
                  rcases List.mem_append.1 hx with hx | hx
                  · exact HXP.out x hx Ze hbVZe
                  · rw [List.mem_singleton.1 hx]; exact HAC.out.up hbVZe)
                rw [← hM] at he1 hAl
                injection he1 with e1 _ e2
                subst e1 e2
                rw [List.map_append, HXM.out] at hAL
                have hML : (s.acs ++ [a]).length = M := by rw [hM, List.length_append, List.length_append, HXN.out]; rfl
                have hSAe : SA Ze ⟨s.ks, s.acs ++ [a]⟩ pk ck qZd cZd := ⟨HSA.out.ks.up hbVZe, HSA.out.kl, HSA.out.km, hAL, by rw [hML]; exact hAl, hAm⟩
                have HSE : Hid (SA Ze ⟨s.ks, s.acs ++ [a]⟩ pk ck qZd cZd) := hSAe
                have HWE : Hid (Blk Ze w5.heap.size #[.slice pk s.ks.length ck, .slice qZd M cZd] 37) := hWe
                have HC := scheck_any _ _ _ _ _ Ze hSAe
                have HAS := fun W (hW : Below V.heap.size V W) => sasks_any s q pk pa pq ck ca cq W (HSA.out.up hW) ⟨HRQ.out.u0, HRQ.out.u1, HRQ.out.u2, HRQ.out.nl.up hW, HRQ.out.le, HRQ.out.cm⟩
                have HAM := fun W (hW : Below V.heap.size V W) (hE : Below Ze.heap.size Ze W) => sasks_any ⟨s.ks, s.acs ++ [a]⟩ q pk qZd pq ck cZd cq W (HSE.out.up hE) ⟨HRQ.out.u0, HRQ.out.u1, HRQ.out.u2, HRQ.out.nl.up hW, HRQ.out.le, HRQ.out.cm⟩
                unfold scV at HC HAS HAM
                unfold reqV at HAS HAM
                rw [hML] at HC HAM
                have HMO : Hid (asks s q = 0 → scf ⟨s.ks, s.acs ++ [a]⟩ = 0 → asks ⟨s.ks, s.acs ++ [a]⟩ q = 0) := fun h1 h2 => asks_more h1 h2
                clear hAL hAl hAm hSAe hrZe hM hML hWe hKe HX8 HXN HXC HXP HXM HS
                have z0 : Ze.cell? ⟨w5.heap.size, 0, none⟩ = some (.slice pk s.ks.length ck) := HWE.out.cell 0
                have z1 : Ze.cell? ⟨w5.heap.size, 1, none⟩ = some (.slice qZd M cZd) := HWE.out.cell 1
                by_cases h0 : scf ⟨s.ks, s.acs ++ [a]⟩ = 0
                · rw [eV_nil h0] at HC
                  go_wp2_with fail
                  refine HC.mono ?_
                  rintro _ w7 ⟨rfl, hb7⟩
                  have hb07 := kqt hbVZe hb7
                  have r0 : w7.cell? ⟨w.heap.size, 0, none⟩ = some (.slice pk s.ks.length ck) := (HB0.out.up hb07).cell 0
                  have r1 : w7.cell? ⟨w.heap.size, 1, none⟩ = some (.slice pa s.acs.length ca) := (HB0.out.up hb07).cell 1
                  have t0 : w7.cell? ⟨w.heap.size + 1, 0, none⟩ = some (.string q.who.t) := (HB1.out.up hb07).cell 0
                  have t1 : w7.cell? ⟨w.heap.size + 1, 1, none⟩ = some (.string q.who.i) := (HB1.out.up hb07).cell 1
                  have t2 : w7.cell? ⟨w.heap.size + 1, 2, none⟩ = some (.string q.act.t) := (HB1.out.up hb07).cell 2
                  have t3 : w7.cell? ⟨w.heap.size + 1, 3, none⟩ = some (.string q.act.i) := (HB1.out.up hb07).cell 3
                  have t4 : w7.cell? ⟨w.heap.size + 1, 4, none⟩ = some (.string q.what.t) := (HB1.out.up hb07).cell 4
                  have t5 : w7.cell? ⟨w.heap.size + 1, 5, none⟩ = some (.string q.what.i) := (HB1.out.up hb07).cell 5
                  have t6 : w7.cell? ⟨w.heap.size + 1, 6, none⟩ = some (.slice pq q.cx.length cq) := (HB1.out.up hb07).cell 6
                  by_cases h1 : asks s q = 0
                  · rw [eV_nil h1] at HAS
                    rw [eV_nil (HMO.out h1 h0)] at HAM
                    clear h0 h1 HMO HC z0 z1
                    go_wp2_with fail
                    refine (HAS _ hb07).mono ?_
                    rintro _ w8 ⟨rfl, hb8⟩
                    have hbe8 := kqt hb7 hb8
                    have hb08 := kqt hb07 hb8
                    clear r0 r1 t0 t1 t2 t3 t4 t5 t6
                    have z0 : w8.cell? ⟨w5.heap.size, 0, none⟩ = some (.slice pk s.ks.length ck) := (HWE.out.up hbe8).cell 0
                    have z1 : w8.cell? ⟨w5.heap.size, 1, none⟩ = some (.slice qZd M cZd) := (HWE.out.up hbe8).cell 1
                    have t0 : w8.cell? ⟨w.heap.size + 1, 0, none⟩ = some (.string q.who.t) := (HB1.out.up hb08).cell 0
                    have t1 : w8.cell? ⟨w.heap.size + 1, 1, none⟩ = some (.string q.who.i) := (HB1.out.up hb08).cell 1
                    have t2 : w8.cell? ⟨w.heap.size + 1, 2, none⟩ = some (.string q.act.t) := (HB1.out.up hb08).cell 2
                    have t3 : w8.cell? ⟨w.heap.size + 1, 3, none⟩ = some (.string q.act.i) := (HB1.out.up hb08).cell 3
                    have t4 : w8.cell? ⟨w.heap.size + 1, 4, none⟩ = some (.string q.what.t) := (HB1.out.up hb08).cell 4
                    have t5 : w8.cell? ⟨w.heap.size + 1, 5, none⟩ = some (.string q.what.i) := (HB1.out.up hb08).cell 5
                    have t6 : w8.cell? ⟨w.heap.size + 1, 6, none⟩ = some (.slice pq q.cx.length cq) := (HB1.out.up hb08).cell 6
                    go_wp2_with fail
                    refine (HAM _ hb08 hbe8).mono ?_
                    rintro _ w9 ⟨rfl, hb9⟩
                    go_wp2
                    go_ret
                    exact ⟨rfl, kqt hbV (kqt hb08 hb9)⟩
                  · rw [eV_not h1] at HAS
                    clear h0 h1 HMO HC z0 z1 HAM
                    generalize asks s q = n at *
                    go_wp2_with fail
                    refine (HAS _ hb07).mono ?_
                    rintro _ w8 ⟨rfl, hb8⟩
                    go_wp2
                    go_ret
                    exact ⟨rfl, kqt hbV (kqt hb07 hb8)⟩
                · rw [eV_not h0] at HC
                  clear h0 HMO HAS HAM
                  generalize scf ⟨s.ks, s.acs ++ [a]⟩ = n at *
                  go_wp2_with fail
                  refine HC.mono ?_
                  rintro _ w7 ⟨rfl, hb7⟩
                  go_wp2
                  go_ret
                  exact ⟨rfl, kqt hbV (kqt hbVZe hb7)⟩
            · go_simp
              obtain ⟨Za, hZa⟩ : ∃ Za, Za = Z0.alloc (.cells #[.string a.id, .slice p1 a.who.length c1, .slice p2 a.what.length c2, .slice p3 a.cx.length c3] 45) := ⟨_, rfl⟩
              have hbZa : Below Z0.heap.size Z0 Za := by rw [hZa]; exact kqx
              have hbVZa := kqt hbVZ0 hbZa
              have hsZa : Za.heap.size = Z0.heap.size + 1 := by rw [hZa]; simp
              have hAZa : Blk Za (w5.heap.size + 1) #[.string a.id, .slice p1 a.who.length c1, .slice p2 a.what.length c2, .slice p3 a.cx.length c3] 45 := by rw [hZa]; exact Blk.new Z0 _ _ (by omega)
              rw [← hZa]
              clear hZa
              refine hK.out _ _ (HS.out _ hbVZa) (fun hHeld => ?_)
              clear hK K
              try simp only [Act.put, List.setIfInBounds_toArray, List.set_cons_zero, List.set_cons_succ]
              refine wpAnyH_ready (rs := [0]) (by kernel_rfl) (by simp) ?_
              refine AllReadyH.cons rfl (fun K hK => ?_) (AllReadyH.nil)
              go_simp
              obtain ⟨Zb, hZb⟩ : ∃ Zb, Zb = Za.alloc (.cells #[] 45) := ⟨_, rfl⟩
              have hbZb : Below Za.heap.size Za Zb := by rw [hZb]; exact kqx
              have hbVZb := kqt hbVZa hbZb
              have hsZb : Zb.heap.size = Za.heap.size + 1 := by rw [hZb]; simp
              have hrZb : Zb.ownsRow (w5.heap.size + 1) 45 4 (.slice (some ⟨w5.heap.size + 1 + 1, 0, none⟩) 0 0) ([] : List KaA).length (kacl []) := by have := World.ownsRow_made (base := w5.heap.size + 1) (e := 45) (size := 4) Za #[] 0 (by omega) (Nat.zero_le _) (by simp); rw [hZb]; simp only [hsZa, hsZ0] at this; exact this
              have hAZb := hAZa.up hbZb
              rw [← hZb]
              clear hZb
              refine hK.out _ _ (HS.out _ hbVZb) (fun hHeld => ?_)
              clear hK K
              try simp only [Act.put, List.setIfInBounds_toArray, List.set_cons_zero, List.set_cons_succ]
              refine wpAnyH_ready (rs := [3]) (by kernel_rfl) (by simp) ?_
              refine AllReadyH.cons rfl (fun K hK => ?_) (AllReadyH.nil)
              rw [if_pos (by rfl)]
              refine wp_append_acts Zb (.tmp 52) (.tmp 54) rfl (w5.heap.size + 1) (.slice (some ⟨w5.heap.size + 1 + 1, 0, none⟩) 0 0) [] rfl hrZb xs s.acs.length HXN.out pa ca (HXC.out _ hbVZb) HP0.out rfl (by simp; have := HX8.out; omega) (by omega) ?_
              intro vZc Zc hrZc hgZc _
              rw [List.nil_append] at hrZc
              have hb5Zc : Below (w5.heap.size + 1) Zb Zc := grown_below hgZc (fun g hg => (World.ownsRow.lt hrZb g hg).1) (by omega)
              have hbVZc : Below V.heap.size V Zc := hbVZb.trans (hb5Zc.mono (by omega))
              have hsZc : Zb.heap.size ≤ Zc.heap.size := hgZc.size
              have hAZc := hAZb.grown hgZc (fun e => by simp only [Value.ownBlock, Option.some.injEq] at e; omega)
              obtain ⟨qZc, cZc, hvZc⟩ := ownP_slice hrZc
              subst hvZc
              refine hK.out _ _ (HS.out _ hbVZc) (fun hHeld => ?_)
              clear hK K
              try simp only [Act.put, List.setIfInBounds_toArray, List.set_cons_zero, List.set_cons_succ]
              refine wpAnyH_ready (rs := [6]) (by kernel_rfl) (by simp) ?_
              refine AllReadyH.cons rfl (fun K hK => ?_) (AllReadyH.nil)
              rw [if_pos (by rfl)]
              refine wp_append_acts Zc (.tmp 55) (.tmp 57) rfl (w5.heap.size + 1) _ xs rfl hrZc [⟨a, p1, c1, p2, c2, p3, c3⟩] 1 rfl (some ⟨w5.heap.size + 1, 0, none⟩) 1 (kac_one hAZc) (fun h => by cases h) rfl (by simp; have := HX8.out; omega) (by omega) ?_
              intro vZd Zd hrZd hgZd _
              have hb5Zd : Below (w5.heap.size + 1) Zc Zd := grown_below hgZd (fun g hg => (World.ownsRow.lt hrZc g hg).1) (by omega)
              have hbVZd : Below V.heap.size V Zd := hbVZc.trans (hb5Zd.mono (by omega))
              have hsZd : Zc.heap.size ≤ Zd.heap.size := hgZd.size
              obtain ⟨qZd, cZd, hvZd⟩ := ownP_slice hrZd
              subst hvZd
              obtain ⟨M, hM⟩ : ∃ M, M = (xs ++ [(⟨a, p1, c1, p2, c2, p3, c3⟩ : KaA)]).length := ⟨_, rfl⟩
              rw [← hM] at hrZd ⊢
              have HM : Hid (M = _) := hM
              clear hM
              refine hK.out _ _ (HS.out _ hbVZd) (fun hHeld => ?_)
              clear hK K
              try simp only [Act.put, List.setIfInBounds_toArray, List.set_cons_zero, List.set_cons_succ]
              have hWZ0 := hW6.up hb6Z0
              have hWZa := hWZ0.up hbZa
              have hWZb := hWZa.up hbZb
              have hWZc := hWZb.low hb5Zc (Nat.lt_succ_self _)
              have hWZd := hWZc.low hb5Zd (Nat.lt_succ_self _)
              refine wpAnyH_take (i := 7) (v := ?_) rfl (by kernel_rfl) (by kernel_rfl) (by kernel_rfl) (fun _ _ _ h => h) (Or.inl ⟨by rfl, ?_⟩) (by assumption) ?_
              rotate_left
              · intro w hSw
                go_simp
                all_goals with_reducible rfl
              try simp only [Act.put, List.setIfInBounds_toArray, List.set_cons_zero, List.set_cons_succ]
              have e1 : Zd.cell? ⟨w5.heap.size, 1, none⟩ = some (.slice none 0 0) := hWZd.cell 1
              have e2 := hWZd.free 1
              obtain ⟨Ze, hZe⟩ : ∃ Ze, Ze = Zd.setCell ⟨w5.heap.size, 1, none⟩ (.slice qZd M cZd) := ⟨_, rfl⟩
              obtain ⟨hWe, hKe⟩ := hWZd.set hZe
              have hbVZe : Below V.heap.size V Ze := hbVZd.trans (hKe.below (by omega) (fun a e => by omega))
              have hrZe : Ze.ownsRow (w5.heap.size + 1) 45 4 (.slice qZd M cZd) M (kacl (xs ++ [⟨a, p1, c1, p2, c2, p3, c3⟩])) := ownP_agree hrZd (fun g hg hl => hKe.block g hl (fun e => by have := (World.ownsRow.lt hrZd g hg).1; omega))
              refine wpAnyH_ready (rs := [8]) (by kernel_rfl) (by simp) ?_
              refine AllReadyH.cons rfl (fun K hK => ?_) (AllReadyH.nil)
              go_simp
              rw [← hZe]
              refine hK.out _ _ (HS.out _ hbVZe) (fun hHeld => ?_)
              clear hK K hZe e1 e2
              refine wpAnyH_done (by kernel_rfl) ?_ _
              clear hHeld
              have hM := HM.out
              rw [hM] at hrZe
              obtain ⟨qe, ce', he1, hAL, hAl, hAm⟩ := acts_of_row hrZe (fun x hx => by
                rcases List.mem_append.1 hx with hx | hx
                · exact HXP.out x hx Ze hbVZe
                · rw [List.mem_singleton.1 hx]; exact HAC.out.up hbVZe)
              rw [← hM] at he1 hAl
              injection he1 with e1 _ e2
              subst e1 e2
              rw [List.map_append, HXM.out] at hAL
              have hML : (s.acs ++ [a]).length = M := by rw [hM, List.length_append, List.length_append, HXN.out]; rfl
              have hSAe : SA Ze ⟨s.ks, s.acs ++ [a]⟩ pk ck qZd cZd := ⟨HSA.out.ks.up hbVZe, HSA.out.kl, HSA.out.km, hAL, by rw [hML]; exact hAl, hAm⟩
              have HSE : Hid (SA Ze ⟨s.ks, s.acs ++ [a]⟩ pk ck qZd cZd) := hSAe
              have HWE : Hid (Blk Ze w5.heap.size #[.slice pk s.ks.length ck, .slice qZd M cZd] 37) := hWe
              have HC := scheck_any _ _ _ _ _ Ze hSAe
              have HAS := fun W (hW : Below V.heap.size V W) => sasks_any s q pk pa pq ck ca cq W (HSA.out.up hW) ⟨HRQ.out.u0, HRQ.out.u1, HRQ.out.u2, HRQ.out.nl.up hW, HRQ.out.le, HRQ.out.cm⟩
              have HAM := fun W (hW : Below V.heap.size V W) (hE : Below Ze.heap.size Ze W) => sasks_any ⟨s.ks, s.acs ++ [a]⟩ q pk qZd pq ck cZd cq W (HSE.out.up hE) ⟨HRQ.out.u0, HRQ.out.u1, HRQ.out.u2, HRQ.out.nl.up hW, HRQ.out.le, HRQ.out.cm⟩
              unfold scV at HC HAS HAM
              unfold reqV at HAS HAM
              rw [hML] at HC HAM
              have HMO : Hid (asks s q = 0 → scf ⟨s.ks, s.acs ++ [a]⟩ = 0 → asks ⟨s.ks, s.acs ++ [a]⟩ q = 0) := fun h1 h2 => asks_more h1 h2
              clear hAL hAl hAm hSAe hrZe hM hML hWe hKe HX8 HXN HXC HXP HXM HS
              have z0 : Ze.cell? ⟨w5.heap.size, 0, none⟩ = some (.slice pk s.ks.length ck) := HWE.out.cell 0
              have z1 : Ze.cell? ⟨w5.heap.size, 1, none⟩ = some (.slice qZd M cZd) := HWE.out.cell 1
              by_cases h0 : scf ⟨s.ks, s.acs ++ [a]⟩ = 0
              · rw [eV_nil h0] at HC
                go_wp2_with fail
                refine HC.mono ?_
                rintro _ w7 ⟨rfl, hb7⟩
                have hb07 := kqt hbVZe hb7
                have r0 : w7.cell? ⟨w.heap.size, 0, none⟩ = some (.slice pk s.ks.length ck) := (HB0.out.up hb07).cell 0
                have r1 : w7.cell? ⟨w.heap.size, 1, none⟩ = some (.slice pa s.acs.length ca) := (HB0.out.up hb07).cell 1
                have t0 : w7.cell? ⟨w.heap.size + 1, 0, none⟩ = some (.string q.who.t) := (HB1.out.up hb07).cell 0
                have t1 : w7.cell? ⟨w.heap.size + 1, 1, none⟩ = some (.string q.who.i) := (HB1.out.up hb07).cell 1
                have t2 : w7.cell? ⟨w.heap.size + 1, 2, none⟩ = some (.string q.act.t) := (HB1.out.up hb07).cell 2
                have t3 : w7.cell? ⟨w.heap.size + 1, 3, none⟩ = some (.string q.act.i) := (HB1.out.up hb07).cell 3
                have t4 : w7.cell? ⟨w.heap.size + 1, 4, none⟩ = some (.string q.what.t) := (HB1.out.up hb07).cell 4
                have t5 : w7.cell? ⟨w.heap.size + 1, 5, none⟩ = some (.string q.what.i) := (HB1.out.up hb07).cell 5
                have t6 : w7.cell? ⟨w.heap.size + 1, 6, none⟩ = some (.slice pq q.cx.length cq) := (HB1.out.up hb07).cell 6
                by_cases h1 : asks s q = 0
                · rw [eV_nil h1] at HAS
                  rw [eV_nil (HMO.out h1 h0)] at HAM
                  clear h0 h1 HMO HC z0 z1
                  go_wp2_with fail
                  refine (HAS _ hb07).mono ?_
                  rintro _ w8 ⟨rfl, hb8⟩
                  have hbe8 := kqt hb7 hb8
                  have hb08 := kqt hb07 hb8
                  clear r0 r1 t0 t1 t2 t3 t4 t5 t6
                  have z0 : w8.cell? ⟨w5.heap.size, 0, none⟩ = some (.slice pk s.ks.length ck) := (HWE.out.up hbe8).cell 0
                  have z1 : w8.cell? ⟨w5.heap.size, 1, none⟩ = some (.slice qZd M cZd) := (HWE.out.up hbe8).cell 1
                  have t0 : w8.cell? ⟨w.heap.size + 1, 0, none⟩ = some (.string q.who.t) := (HB1.out.up hb08).cell 0
                  have t1 : w8.cell? ⟨w.heap.size + 1, 1, none⟩ = some (.string q.who.i) := (HB1.out.up hb08).cell 1
                  have t2 : w8.cell? ⟨w.heap.size + 1, 2, none⟩ = some (.string q.act.t) := (HB1.out.up hb08).cell 2
                  have t3 : w8.cell? ⟨w.heap.size + 1, 3, none⟩ = some (.string q.act.i) := (HB1.out.up hb08).cell 3
                  have t4 : w8.cell? ⟨w.heap.size + 1, 4, none⟩ = some (.string q.what.t) := (HB1.out.up hb08).cell 4
                  have t5 : w8.cell? ⟨w.heap.size + 1, 5, none⟩ = some (.string q.what.i) := (HB1.out.up hb08).cell 5
                  have t6 : w8.cell? ⟨w.heap.size + 1, 6, none⟩ = some (.slice pq q.cx.length cq) := (HB1.out.up hb08).cell 6
                  go_wp2_with fail
                  refine (HAM _ hb08 hbe8).mono ?_
                  rintro _ w9 ⟨rfl, hb9⟩
                  go_wp2
                  go_ret
                  exact ⟨rfl, kqt hbV (kqt hb08 hb9)⟩
                · rw [eV_not h1] at HAS
                  clear h0 h1 HMO HC z0 z1 HAM
                  generalize asks s q = n at *
                  go_wp2_with fail
                  refine (HAS _ hb07).mono ?_
                  rintro _ w8 ⟨rfl, hb8⟩
                  go_wp2
                  go_ret
                  exact ⟨rfl, kqt hbV (kqt hb07 hb8)⟩
              · rw [eV_not h0] at HC
                clear h0 HMO HAS HAM
                generalize scf ⟨s.ks, s.acs ++ [a]⟩ = n at *
                go_wp2_with fail
                refine HC.mono ?_
                rintro _ w7 ⟨rfl, hb7⟩
                go_wp2
                go_ret
                exact ⟨rfl, kqt hbV (kqt hbVZe hb7)⟩
          · obtain rfl : bb = false := by
              cases bb
              · rfl
              · exact absurd (hal.1 rfl) hn
            rw [eV_not hn] at HST
            clear hn hal
            generalize stof s es = n at *
            go_wp2_with fail
            refine HST.mono ?_
            rintro _ w5 ⟨rfl, hb5'⟩
            have hb5 := kqt hbr hb5'
            clear hbr hb5' y0 y1 HST
            have y0 : w5.cell? ⟨w.heap.size, 0, none⟩ = some (.slice pk s.ks.length ck) := (HB0.out.up hb5).cell 0
            have hs5 : V.heap.size ≤ w5.heap.size := hb5.size
            obtain ⟨xs, hxs, hxl⟩ := HSA.out.asl.parts
            have HXM : Hid (xs.map (·.k) = s.acs) := hxs
            have HXN : Hid (xs.length = s.acs.length) := by show _ = _; rw [← hxs, List.length_map]
            have HX8 : Hid (xs.length ≤ 8) := by
              show _ ≤ _
              rw [HXN.out]
              rcases scf_ways s with ⟨_, e⟩ | ⟨_, hk, _⟩
              · rw [e] at HS0; exact absurd HS0.out (by decide)
              · exact hk
            have HXP : Hid (∀ x ∈ xs, ∀ w', Below V.heap.size V w' → AcV w' x.k x.p1 x.c1 x.p2 x.c2 x.p3 x.c3) := fun x hx w' hb => (hxl.parts x hx).up hb
            have HXC : Hid (∀ w', Below V.heap.size V w' → KaC w' pa xs) := fun w' hb => KaC.up hxl.lies hb
            have HS : Hid (∀ w', Below V.heap.size V w' → w'.cell? ⟨w.heap.size, 1, none⟩ = some (.slice pa s.acs.length ca) ∧ w'.cell? ⟨w.heap.size + 1 + 1, 0, none⟩ = some (.string a.id) ∧ w'.cell? ⟨w.heap.size + 1 + 1, 1, none⟩ = some (.slice p1 a.who.length c1) ∧ w'.cell? ⟨w.heap.size + 1 + 1, 2, none⟩ = some (.slice p2 a.what.length c2) ∧ w'.cell? ⟨w.heap.size + 1 + 1, 3, none⟩ = some (.slice p3 a.cx.length c3)) := fun w' hb => ⟨(HB0.out.up hb).cell 1, (HB2.out.up hb).cell 0, (HB2.out.up hb).cell 1, (HB2.out.up hb).cell 2, (HB2.out.up hb).cell 3⟩
            clear hxs hxl
            obtain ⟨W6, hW6'⟩ : ∃ W6, W6 = w5.alloc (.cells #[.slice pk s.ks.length ck, .slice none 0 0] 37) := ⟨_, rfl⟩
            have hb56 : Below w5.heap.size w5 W6 := by rw [hW6']; exact kqx
            have hs6 : W6.heap.size = w5.heap.size + 1 := by rw [hW6']; simp
            have hW6 : Blk W6 w5.heap.size #[.slice pk s.ks.length ck, .slice none 0 0] 37 := by rw [hW6']; exact Blk.new w5 _ _ rfl
            obtain ⟨Z0, hZ0⟩ : ∃ Z0, Z0 = W6.drew := ⟨_, rfl⟩
            have hb6Z0 : Below W6.heap.size W6 Z0 := by rw [hZ0]; exact kqx
            have hsZ0 : Z0.heap.size = w5.heap.size + 1 := by rw [hZ0]; exact hs6
            have hbVZ0 : Below V.heap.size V Z0 := kqt hb5 (kqt hb56 hb6Z0)
            go_wp2_with fail
            rw [← hW6']
            clear hW6' y0
            refine wp_region_held_drew (S := fun w' => w'.cell? ⟨w.heap.size, 1, none⟩ = some (.slice pa s.acs.length ca) ∧ w'.cell? ⟨w.heap.size + 1 + 1, 0, none⟩ = some (.string a.id) ∧ w'.cell? ⟨w.heap.size + 1 + 1, 1, none⟩ = some (.slice p1 a.who.length c1) ∧ w'.cell? ⟨w.heap.size + 1 + 1, 2, none⟩ = some (.slice p2 a.what.length c2) ∧ w'.cell? ⟨w.heap.size + 1 + 1, 3, none⟩ = some (.slice p3 a.cx.length c3)) (by kernel_rfl) (by rw [← hZ0]; exact HS.out _ hbVZ0) (fun hHeld => ?_)
            rw [← hZ0] at hHeld ⊢
            clear hZ0
            refine wpAnyH_take (i := 1) (v := ?_) rfl (by kernel_rfl) (by kernel_rfl) (by kernel_rfl) (fun _ _ _ h => h) (Or.inl ⟨by rfl, ?_⟩) (by assumption) ?_
            rotate_left
            · intro w hSw
              go_simp
              all_goals with_reducible rfl
            try simp only [Act.put, List.setIfInBounds_toArray, List.set_cons_zero, List.set_cons_succ]
            refine wpAnyH_take (i := 2) (v := ?_) rfl (by kernel_rfl) (by kernel_rfl) (by kernel_rfl) (fun _ _ _ h => h) (Or.inl ⟨by rfl, ?_⟩) (by assumption) ?_
            rotate_left
            · intro w hSw
              go_simp
              all_goals with_reducible rfl
            try simp only [Act.put, List.setIfInBounds_toArray, List.set_cons_zero, List.set_cons_succ]
            refine wpAnyH_take (i := 4) (v := ?_) rfl (by kernel_rfl) (by kernel_rfl) (by kernel_rfl) (fun _ _ _ h => h) (Or.inl ⟨by rfl, ?_⟩) (by assumption) ?_
            rotate_left
            · intro w hSw
              go_simp
              all_goals with_reducible rfl
            try simp only [Act.put, List.setIfInBounds_toArray, List.set_cons_zero, List.set_cons_succ]
            refine wpAnyH_ready (rs := [0, 5]) (by kernel_rfl) (by simp) ?_
            refine AllReadyH.cons rfl (fun K hK => ?_) (AllReadyH.cons rfl (fun K hK => ?_) (AllReadyH.nil))
            · go_simp
              obtain ⟨Za, hZa⟩ : ∃ Za, Za = Z0.alloc (.cells #[] 45) := ⟨_, rfl⟩
              have hbZa : Below Z0.heap.size Z0 Za := by rw [hZa]; exact kqx
              have hbVZa := kqt hbVZ0 hbZa
              have hsZa : Za.heap.size = Z0.heap.size + 1 := by rw [hZa]; simp
              have hrZa : Za.ownsRow (w5.heap.size + 1) 45 4 (.slice (some ⟨w5.heap.size + 1, 0, none⟩) 0 0) ([] : List KaA).length (kacl []) := by have := World.ownsRow_made (base := w5.heap.size + 1) (e := 45) (size := 4) Z0 #[] 0 (by omega) (Nat.zero_le _) (by simp); rw [hZa]; simp only [hsZ0, hsZ0] at this; exact this
              rw [← hZa]
              clear hZa
              refine hK.out _ _ (HS.out _ hbVZa) (fun hHeld => ?_)
              clear hK K
              try simp only [Act.put, List.setIfInBounds_toArray, List.set_cons_zero, List.set_cons_succ]
              refine wpAnyH_ready (rs := [3, 5]) (by kernel_rfl) (by simp) ?_
              refine AllReadyH.cons rfl (fun K hK => ?_) (AllReadyH.cons rfl (fun K hK => ?_) (AllReadyH.nil))
              · rw [if_pos (by rfl)]
                refine wp_append_acts Za (.tmp 52) (.tmp 54) rfl (w5.heap.size + 1) (.slice (some ⟨w5.heap.size + 1, 0, none⟩) 0 0) [] rfl hrZa xs s.acs.length HXN.out pa ca (HXC.out _ hbVZa) HP0.out rfl (by simp; have := HX8.out; omega) (by omega) ?_
                intro vZb Zb hrZb hgZb _
                rw [List.nil_append] at hrZb
                have hb5Zb : Below (w5.heap.size + 1) Za Zb := grown_below hgZb (fun g hg => (World.ownsRow.lt hrZa g hg).1) (by omega)
                have hbVZb : Below V.heap.size V Zb := hbVZa.trans (hb5Zb.mono (by omega))
                have hsZb : Za.heap.size ≤ Zb.heap.size := hgZb.size

                obtain ⟨qZb, cZb, hvZb⟩ := ownP_slice hrZb
                subst hvZb
                refine hK.out _ _ (HS.out _ hbVZb) (fun hHeld => ?_)
                clear hK K
                try simp only [Act.put, List.setIfInBounds_toArray, List.set_cons_zero, List.set_cons_succ]
                refine wpAnyH_ready (rs := [5]) (by kernel_rfl) (by simp) ?_
                refine AllReadyH.cons rfl (fun K hK => ?_) (AllReadyH.nil)
                go_simp
                obtain ⟨Zc, hZc⟩ : ∃ Zc, Zc = Zb.alloc (.cells #[.string a.id, .slice p1 a.who.length c1, .slice p2 a.what.length c2, .slice p3 a.cx.length c3] 45) := ⟨_, rfl⟩
                have hbZc : Below Zb.heap.size Zb Zc := by rw [hZc]; exact kqx
                have hbVZc := kqt hbVZb hbZc
                have hsZc : Zc.heap.size = Zb.heap.size + 1 := by rw [hZc]; simp
                have hAZc : Blk Zc (Zb.heap.size) #[.string a.id, .slice p1 a.who.length c1, .slice p2 a.what.length c2, .slice p3 a.cx.length c3] 45 := by rw [hZc]; exact Blk.new Zb _ _ (by omega)
                have hrZc := ownP_agree (w' := Zc) hrZb (fun g _ hl => hbZc.block g hl)
                rw [← hZc]
                clear hZc
                refine hK.out _ _ (HS.out _ hbVZc) (fun hHeld => ?_)
                clear hK K
                try simp only [Act.put, List.setIfInBounds_toArray, List.set_cons_zero, List.set_cons_succ]
                refine wpAnyH_ready (rs := [6]) (by kernel_rfl) (by simp) ?_
                refine AllReadyH.cons rfl (fun K hK => ?_) (AllReadyH.nil)
                rw [if_pos (by rfl)]
                refine wp_append_acts Zc (.tmp 55) (.tmp 57) rfl (w5.heap.size + 1) _ xs rfl hrZc [⟨a, p1, c1, p2, c2, p3, c3⟩] 1 rfl (some ⟨Zb.heap.size, 0, none⟩) 1 (kac_one hAZc) (fun h => by cases h) rfl (by simp; have := HX8.out; omega) (by omega) ?_
                intro vZd Zd hrZd hgZd _
                have hb5Zd : Below (w5.heap.size + 1) Zc Zd := grown_below hgZd (fun g hg => (World.ownsRow.lt hrZc g hg).1) (by omega)
                have hbVZd : Below V.heap.size V Zd := hbVZc.trans (hb5Zd.mono (by omega))
                have hsZd : Zc.heap.size ≤ Zd.heap.size := hgZd.size
                obtain ⟨qZd, cZd, hvZd⟩ := ownP_slice hrZd
                subst hvZd
                obtain ⟨M, hM⟩ : ∃ M, M = (xs ++ [(⟨a, p1, c1, p2, c2, p3, c3⟩ : KaA)]).length := ⟨_, rfl⟩
                rw [← hM] at hrZd ⊢
                have HM : Hid (M = _) := hM
                clear hM
                refine hK.out _ _ (HS.out _ hbVZd) (fun hHeld => ?_)
                clear hK K
                try simp only [Act.put, List.setIfInBounds_toArray, List.set_cons_zero, List.set_cons_succ]
                have hWZ0 := hW6.up hb6Z0
                have hWZa := hWZ0.up hbZa
                have hWZb := hWZa.low hb5Zb (Nat.lt_succ_self _)
                have hWZc := hWZb.up hbZc
                have hWZd := hWZc.low hb5Zd (Nat.lt_succ_self _)
                refine wpAnyH_take (i := 7) (v := ?_) rfl (by kernel_rfl) (by kernel_rfl) (by kernel_rfl) (fun _ _ _ h => h) (Or.inl ⟨by rfl, ?_⟩) (by assumption) ?_
                rotate_left
                · intro w hSw
                  go_simp
                  all_goals with_reducible rfl
                try simp only [Act.put, List.setIfInBounds_toArray, List.set_cons_zero, List.set_cons_succ]
                have e1 : Zd.cell? ⟨w5.heap.size, 1, none⟩ = some (.slice none 0 0) := hWZd.cell 1
                have e2 := hWZd.free 1
                obtain ⟨Ze, hZe⟩ : ∃ Ze, Ze = Zd.setCell ⟨w5.heap.size, 1, none⟩ (.slice qZd M cZd) := ⟨_, rfl⟩
                obtain ⟨hWe, hKe⟩ := hWZd.set hZe
                have hbVZe : Below V.heap.size V Ze := hbVZd.trans (hKe.below (by omega) (fun a e => by omega))
                have hrZe : Ze.ownsRow (w5.heap.size + 1) 45 4 (.slice qZd M cZd) M (kacl (xs ++ [⟨a, p1, c1, p2, c2, p3, c3⟩])) := ownP_agree hrZd (fun g hg hl => hKe.block g hl (fun e => by have := (World.ownsRow.lt hrZd g hg).1; omega))
                refine wpAnyH_ready (rs := [8]) (by kernel_rfl) (by simp) ?_
                refine AllReadyH.cons rfl (fun K hK => ?_) (AllReadyH.nil)
                go_simp
                rw [← hZe]
                refine hK.out _ _ (HS.out _ hbVZe) (fun hHeld => ?_)
                clear hK K hZe e1 e2
                refine wpAnyH_done (by kernel_rfl) ?_ _
                clear hHeld
                have hM := HM.out
                rw [hM] at hrZe
                obtain ⟨qe, ce', he1, hAL, hAl, hAm⟩ := acts_of_row hrZe (fun x hx => by
                  rcases List.mem_append.1 hx with hx | hx
                  · exact HXP.out x hx Ze hbVZe
                  · rw [List.mem_singleton.1 hx]; exact HAC.out.up hbVZe)
                rw [← hM] at he1 hAl
                injection he1 with e1 _ e2
                subst e1 e2
                rw [List.map_append, HXM.out] at hAL
                have hML : (s.acs ++ [a]).length = M := by rw [hM, List.length_append, List.length_append, HXN.out]; rfl
                have hSAe : SA Ze ⟨s.ks, s.acs ++ [a]⟩ pk ck qZd cZd := ⟨HSA.out.ks.up hbVZe, HSA.out.kl, HSA.out.km, hAL, by rw [hML]; exact hAl, hAm⟩
                have HSE : Hid (SA Ze ⟨s.ks, s.acs ++ [a]⟩ pk ck qZd cZd) := hSAe
                have HWE : Hid (Blk Ze w5.heap.size #[.slice pk s.ks.length ck, .slice qZd M cZd] 37) := hWe
                have HC := scheck_any _ _ _ _ _ Ze hSAe
                have HAS := fun W (hW : Below V.heap.size V W) => sasks_any s q pk pa pq ck ca cq W (HSA.out.up hW) ⟨HRQ.out.u0, HRQ.out.u1, HRQ.out.u2, HRQ.out.nl.up hW, HRQ.out.le, HRQ.out.cm⟩
                have HAM := fun W (hW : Below V.heap.size V W) (hE : Below Ze.heap.size Ze W) => sasks_any ⟨s.ks, s.acs ++ [a]⟩ q pk qZd pq ck cZd cq W (HSE.out.up hE) ⟨HRQ.out.u0, HRQ.out.u1, HRQ.out.u2, HRQ.out.nl.up hW, HRQ.out.le, HRQ.out.cm⟩
                unfold scV at HC HAS HAM
                unfold reqV at HAS HAM
                rw [hML] at HC HAM
                have HMO : Hid (asks s q = 0 → scf ⟨s.ks, s.acs ++ [a]⟩ = 0 → asks ⟨s.ks, s.acs ++ [a]⟩ q = 0) := fun h1 h2 => asks_more h1 h2
                clear hAL hAl hAm hSAe hrZe hM hML hWe hKe HX8 HXN HXC HXP HXM HS
                have z0 : Ze.cell? ⟨w5.heap.size, 0, none⟩ = some (.slice pk s.ks.length ck) := HWE.out.cell 0
                have z1 : Ze.cell? ⟨w5.heap.size, 1, none⟩ = some (.slice qZd M cZd) := HWE.out.cell 1
                by_cases h0 : scf ⟨s.ks, s.acs ++ [a]⟩ = 0
                · rw [eV_nil h0] at HC
                  go_wp2_with fail
                  refine HC.mono ?_
                  rintro _ w7 ⟨rfl, hb7⟩
                  have hb07 := kqt hbVZe hb7
                  have r0 : w7.cell? ⟨w.heap.size, 0, none⟩ = some (.slice pk s.ks.length ck) := (HB0.out.up hb07).cell 0
                  have r1 : w7.cell? ⟨w.heap.size, 1, none⟩ = some (.slice pa s.acs.length ca) := (HB0.out.up hb07).cell 1
                  have t0 : w7.cell? ⟨w.heap.size + 1, 0, none⟩ = some (.string q.who.t) := (HB1.out.up hb07).cell 0
                  have t1 : w7.cell? ⟨w.heap.size + 1, 1, none⟩ = some (.string q.who.i) := (HB1.out.up hb07).cell 1
                  have t2 : w7.cell? ⟨w.heap.size + 1, 2, none⟩ = some (.string q.act.t) := (HB1.out.up hb07).cell 2
                  have t3 : w7.cell? ⟨w.heap.size + 1, 3, none⟩ = some (.string q.act.i) := (HB1.out.up hb07).cell 3
                  have t4 : w7.cell? ⟨w.heap.size + 1, 4, none⟩ = some (.string q.what.t) := (HB1.out.up hb07).cell 4
                  have t5 : w7.cell? ⟨w.heap.size + 1, 5, none⟩ = some (.string q.what.i) := (HB1.out.up hb07).cell 5
                  have t6 : w7.cell? ⟨w.heap.size + 1, 6, none⟩ = some (.slice pq q.cx.length cq) := (HB1.out.up hb07).cell 6
                  by_cases h1 : asks s q = 0
                  · rw [eV_nil h1] at HAS
                    rw [eV_nil (HMO.out h1 h0)] at HAM
                    clear h0 h1 HMO HC z0 z1
                    go_wp2_with fail
                    refine (HAS _ hb07).mono ?_
                    rintro _ w8 ⟨rfl, hb8⟩
                    have hbe8 := kqt hb7 hb8
                    have hb08 := kqt hb07 hb8
                    clear r0 r1 t0 t1 t2 t3 t4 t5 t6
                    have z0 : w8.cell? ⟨w5.heap.size, 0, none⟩ = some (.slice pk s.ks.length ck) := (HWE.out.up hbe8).cell 0
                    have z1 : w8.cell? ⟨w5.heap.size, 1, none⟩ = some (.slice qZd M cZd) := (HWE.out.up hbe8).cell 1
                    have t0 : w8.cell? ⟨w.heap.size + 1, 0, none⟩ = some (.string q.who.t) := (HB1.out.up hb08).cell 0
                    have t1 : w8.cell? ⟨w.heap.size + 1, 1, none⟩ = some (.string q.who.i) := (HB1.out.up hb08).cell 1
                    have t2 : w8.cell? ⟨w.heap.size + 1, 2, none⟩ = some (.string q.act.t) := (HB1.out.up hb08).cell 2
                    have t3 : w8.cell? ⟨w.heap.size + 1, 3, none⟩ = some (.string q.act.i) := (HB1.out.up hb08).cell 3
                    have t4 : w8.cell? ⟨w.heap.size + 1, 4, none⟩ = some (.string q.what.t) := (HB1.out.up hb08).cell 4
                    have t5 : w8.cell? ⟨w.heap.size + 1, 5, none⟩ = some (.string q.what.i) := (HB1.out.up hb08).cell 5
                    have t6 : w8.cell? ⟨w.heap.size + 1, 6, none⟩ = some (.slice pq q.cx.length cq) := (HB1.out.up hb08).cell 6
                    go_wp2_with fail
                    refine (HAM _ hb08 hbe8).mono ?_
                    rintro _ w9 ⟨rfl, hb9⟩
                    go_wp2
                    go_ret
                    exact ⟨rfl, kqt hbV (kqt hb08 hb9)⟩
                  · rw [eV_not h1] at HAS
                    clear h0 h1 HMO HC z0 z1 HAM
                    generalize asks s q = n at *
                    go_wp2_with fail
                    refine (HAS _ hb07).mono ?_
                    rintro _ w8 ⟨rfl, hb8⟩
                    go_wp2
                    go_ret
                    exact ⟨rfl, kqt hbV (kqt hb07 hb8)⟩
                · rw [eV_not h0] at HC
                  clear h0 HMO HAS HAM
                  generalize scf ⟨s.ks, s.acs ++ [a]⟩ = n at *
                  go_wp2_with fail
                  refine HC.mono ?_
                  rintro _ w7 ⟨rfl, hb7⟩
                  go_wp2
                  go_ret
                  exact ⟨rfl, kqt hbV (kqt hbVZe hb7)⟩
              · go_simp
                obtain ⟨Zb, hZb⟩ : ∃ Zb, Zb = Za.alloc (.cells #[.string a.id, .slice p1 a.who.length c1, .slice p2 a.what.length c2, .slice p3 a.cx.length c3] 45) := ⟨_, rfl⟩
                have hbZb : Below Za.heap.size Za Zb := by rw [hZb]; exact kqx
                have hbVZb := kqt hbVZa hbZb
                have hsZb : Zb.heap.size = Za.heap.size + 1 := by rw [hZb]; simp
                have hAZb : Blk Zb (w5.heap.size + 1 + 1) #[.string a.id, .slice p1 a.who.length c1, .slice p2 a.what.length c2, .slice p3 a.cx.length c3] 45 := by rw [hZb]; exact Blk.new Za _ _ (by omega)
                have hrZb := ownP_agree (w' := Zb) hrZa (fun g _ hl => hbZb.block g hl)
                rw [← hZb]
                clear hZb
                refine hK.out _ _ (HS.out _ hbVZb) (fun hHeld => ?_)
                clear hK K
                try simp only [Act.put, List.setIfInBounds_toArray, List.set_cons_zero, List.set_cons_succ]
                refine wpAnyH_ready (rs := [3]) (by kernel_rfl) (by simp) ?_
                refine AllReadyH.cons rfl (fun K hK => ?_) (AllReadyH.nil)
                rw [if_pos (by rfl)]
                refine wp_append_acts Zb (.tmp 52) (.tmp 54) rfl (w5.heap.size + 1) (.slice (some ⟨w5.heap.size + 1, 0, none⟩) 0 0) [] rfl hrZb xs s.acs.length HXN.out pa ca (HXC.out _ hbVZb) HP0.out rfl (by simp; have := HX8.out; omega) (by omega) ?_
                intro vZc Zc hrZc hgZc _
                rw [List.nil_append] at hrZc
                have hb5Zc : Below (w5.heap.size + 1) Zb Zc := grown_below hgZc (fun g hg => (World.ownsRow.lt hrZb g hg).1) (by omega)
                have hbVZc : Below V.heap.size V Zc := hbVZb.trans (hb5Zc.mono (by omega))
                have hsZc : Zb.heap.size ≤ Zc.heap.size := hgZc.size
                have hAZc := hAZb.grown hgZc (fun e => by simp only [Value.ownBlock, Option.some.injEq] at e; omega)
                obtain ⟨qZc, cZc, hvZc⟩ := ownP_slice hrZc
                subst hvZc
                refine hK.out _ _ (HS.out _ hbVZc) (fun hHeld => ?_)
                clear hK K
                try simp only [Act.put, List.setIfInBounds_toArray, List.set_cons_zero, List.set_cons_succ]
                refine wpAnyH_ready (rs := [6]) (by kernel_rfl) (by simp) ?_
                refine AllReadyH.cons rfl (fun K hK => ?_) (AllReadyH.nil)
                rw [if_pos (by rfl)]
                refine wp_append_acts Zc (.tmp 55) (.tmp 57) rfl (w5.heap.size + 1) _ xs rfl hrZc [⟨a, p1, c1, p2, c2, p3, c3⟩] 1 rfl (some ⟨w5.heap.size + 1 + 1, 0, none⟩) 1 (kac_one hAZc) (fun h => by cases h) rfl (by simp; have := HX8.out; omega) (by omega) ?_
                intro vZd Zd hrZd hgZd _
                have hb5Zd : Below (w5.heap.size + 1) Zc Zd := grown_below hgZd (fun g hg => (World.ownsRow.lt hrZc g hg).1) (by omega)
                have hbVZd : Below V.heap.size V Zd := hbVZc.trans (hb5Zd.mono (by omega))
                have hsZd : Zc.heap.size ≤ Zd.heap.size := hgZd.size
                obtain ⟨qZd, cZd, hvZd⟩ := ownP_slice hrZd
                subst hvZd
                obtain ⟨M, hM⟩ : ∃ M, M = (xs ++ [(⟨a, p1, c1, p2, c2, p3, c3⟩ : KaA)]).length := ⟨_, rfl⟩
                rw [← hM] at hrZd ⊢
                have HM : Hid (M = _) := hM
                clear hM
                refine hK.out _ _ (HS.out _ hbVZd) (fun hHeld => ?_)
                clear hK K
                try simp only [Act.put, List.setIfInBounds_toArray, List.set_cons_zero, List.set_cons_succ]
                have hWZ0 := hW6.up hb6Z0
                have hWZa := hWZ0.up hbZa
                have hWZb := hWZa.up hbZb
                have hWZc := hWZb.low hb5Zc (Nat.lt_succ_self _)
                have hWZd := hWZc.low hb5Zd (Nat.lt_succ_self _)
                refine wpAnyH_take (i := 7) (v := ?_) rfl (by kernel_rfl) (by kernel_rfl) (by kernel_rfl) (fun _ _ _ h => h) (Or.inl ⟨by rfl, ?_⟩) (by assumption) ?_
                rotate_left
                · intro w hSw
                  go_simp
                  all_goals with_reducible rfl
                try simp only [Act.put, List.setIfInBounds_toArray, List.set_cons_zero, List.set_cons_succ]
                have e1 : Zd.cell? ⟨w5.heap.size, 1, none⟩ = some (.slice none 0 0) := hWZd.cell 1
                have e2 := hWZd.free 1
                obtain ⟨Ze, hZe⟩ : ∃ Ze, Ze = Zd.setCell ⟨w5.heap.size, 1, none⟩ (.slice qZd M cZd) := ⟨_, rfl⟩
                obtain ⟨hWe, hKe⟩ := hWZd.set hZe
                have hbVZe : Below V.heap.size V Ze := hbVZd.trans (hKe.below (by omega) (fun a e => by omega))
                have hrZe : Ze.ownsRow (w5.heap.size + 1) 45 4 (.slice qZd M cZd) M (kacl (xs ++ [⟨a, p1, c1, p2, c2, p3, c3⟩])) := ownP_agree hrZd (fun g hg hl => hKe.block g hl (fun e => by have := (World.ownsRow.lt hrZd g hg).1; omega))
                refine wpAnyH_ready (rs := [8]) (by kernel_rfl) (by simp) ?_
                refine AllReadyH.cons rfl (fun K hK => ?_) (AllReadyH.nil)
                go_simp
                rw [← hZe]
                refine hK.out _ _ (HS.out _ hbVZe) (fun hHeld => ?_)
                clear hK K hZe e1 e2
                refine wpAnyH_done (by kernel_rfl) ?_ _
                clear hHeld
                have hM := HM.out
                rw [hM] at hrZe
                obtain ⟨qe, ce', he1, hAL, hAl, hAm⟩ := acts_of_row hrZe (fun x hx => by
                  rcases List.mem_append.1 hx with hx | hx
                  · exact HXP.out x hx Ze hbVZe
                  · rw [List.mem_singleton.1 hx]; exact HAC.out.up hbVZe)
                rw [← hM] at he1 hAl
                injection he1 with e1 _ e2
                subst e1 e2
                rw [List.map_append, HXM.out] at hAL
                have hML : (s.acs ++ [a]).length = M := by rw [hM, List.length_append, List.length_append, HXN.out]; rfl
                have hSAe : SA Ze ⟨s.ks, s.acs ++ [a]⟩ pk ck qZd cZd := ⟨HSA.out.ks.up hbVZe, HSA.out.kl, HSA.out.km, hAL, by rw [hML]; exact hAl, hAm⟩
                have HSE : Hid (SA Ze ⟨s.ks, s.acs ++ [a]⟩ pk ck qZd cZd) := hSAe
                have HWE : Hid (Blk Ze w5.heap.size #[.slice pk s.ks.length ck, .slice qZd M cZd] 37) := hWe
                have HC := scheck_any _ _ _ _ _ Ze hSAe
                have HAS := fun W (hW : Below V.heap.size V W) => sasks_any s q pk pa pq ck ca cq W (HSA.out.up hW) ⟨HRQ.out.u0, HRQ.out.u1, HRQ.out.u2, HRQ.out.nl.up hW, HRQ.out.le, HRQ.out.cm⟩
                have HAM := fun W (hW : Below V.heap.size V W) (hE : Below Ze.heap.size Ze W) => sasks_any ⟨s.ks, s.acs ++ [a]⟩ q pk qZd pq ck cZd cq W (HSE.out.up hE) ⟨HRQ.out.u0, HRQ.out.u1, HRQ.out.u2, HRQ.out.nl.up hW, HRQ.out.le, HRQ.out.cm⟩
                unfold scV at HC HAS HAM
                unfold reqV at HAS HAM
                rw [hML] at HC HAM
                have HMO : Hid (asks s q = 0 → scf ⟨s.ks, s.acs ++ [a]⟩ = 0 → asks ⟨s.ks, s.acs ++ [a]⟩ q = 0) := fun h1 h2 => asks_more h1 h2
                clear hAL hAl hAm hSAe hrZe hM hML hWe hKe HX8 HXN HXC HXP HXM HS
                have z0 : Ze.cell? ⟨w5.heap.size, 0, none⟩ = some (.slice pk s.ks.length ck) := HWE.out.cell 0
                have z1 : Ze.cell? ⟨w5.heap.size, 1, none⟩ = some (.slice qZd M cZd) := HWE.out.cell 1
                by_cases h0 : scf ⟨s.ks, s.acs ++ [a]⟩ = 0
                · rw [eV_nil h0] at HC
                  go_wp2_with fail
                  refine HC.mono ?_
                  rintro _ w7 ⟨rfl, hb7⟩
                  have hb07 := kqt hbVZe hb7
                  have r0 : w7.cell? ⟨w.heap.size, 0, none⟩ = some (.slice pk s.ks.length ck) := (HB0.out.up hb07).cell 0
                  have r1 : w7.cell? ⟨w.heap.size, 1, none⟩ = some (.slice pa s.acs.length ca) := (HB0.out.up hb07).cell 1
                  have t0 : w7.cell? ⟨w.heap.size + 1, 0, none⟩ = some (.string q.who.t) := (HB1.out.up hb07).cell 0
                  have t1 : w7.cell? ⟨w.heap.size + 1, 1, none⟩ = some (.string q.who.i) := (HB1.out.up hb07).cell 1
                  have t2 : w7.cell? ⟨w.heap.size + 1, 2, none⟩ = some (.string q.act.t) := (HB1.out.up hb07).cell 2
                  have t3 : w7.cell? ⟨w.heap.size + 1, 3, none⟩ = some (.string q.act.i) := (HB1.out.up hb07).cell 3
                  have t4 : w7.cell? ⟨w.heap.size + 1, 4, none⟩ = some (.string q.what.t) := (HB1.out.up hb07).cell 4
                  have t5 : w7.cell? ⟨w.heap.size + 1, 5, none⟩ = some (.string q.what.i) := (HB1.out.up hb07).cell 5
                  have t6 : w7.cell? ⟨w.heap.size + 1, 6, none⟩ = some (.slice pq q.cx.length cq) := (HB1.out.up hb07).cell 6
                  by_cases h1 : asks s q = 0
                  · rw [eV_nil h1] at HAS
                    rw [eV_nil (HMO.out h1 h0)] at HAM
                    clear h0 h1 HMO HC z0 z1
                    go_wp2_with fail
                    refine (HAS _ hb07).mono ?_
                    rintro _ w8 ⟨rfl, hb8⟩
                    have hbe8 := kqt hb7 hb8
                    have hb08 := kqt hb07 hb8
                    clear r0 r1 t0 t1 t2 t3 t4 t5 t6
                    have z0 : w8.cell? ⟨w5.heap.size, 0, none⟩ = some (.slice pk s.ks.length ck) := (HWE.out.up hbe8).cell 0
                    have z1 : w8.cell? ⟨w5.heap.size, 1, none⟩ = some (.slice qZd M cZd) := (HWE.out.up hbe8).cell 1
                    have t0 : w8.cell? ⟨w.heap.size + 1, 0, none⟩ = some (.string q.who.t) := (HB1.out.up hb08).cell 0
                    have t1 : w8.cell? ⟨w.heap.size + 1, 1, none⟩ = some (.string q.who.i) := (HB1.out.up hb08).cell 1
                    have t2 : w8.cell? ⟨w.heap.size + 1, 2, none⟩ = some (.string q.act.t) := (HB1.out.up hb08).cell 2
                    have t3 : w8.cell? ⟨w.heap.size + 1, 3, none⟩ = some (.string q.act.i) := (HB1.out.up hb08).cell 3
                    have t4 : w8.cell? ⟨w.heap.size + 1, 4, none⟩ = some (.string q.what.t) := (HB1.out.up hb08).cell 4
                    have t5 : w8.cell? ⟨w.heap.size + 1, 5, none⟩ = some (.string q.what.i) := (HB1.out.up hb08).cell 5
                    have t6 : w8.cell? ⟨w.heap.size + 1, 6, none⟩ = some (.slice pq q.cx.length cq) := (HB1.out.up hb08).cell 6
                    go_wp2_with fail
                    refine (HAM _ hb08 hbe8).mono ?_
                    rintro _ w9 ⟨rfl, hb9⟩
                    go_wp2
                    go_ret
                    exact ⟨rfl, kqt hbV (kqt hb08 hb9)⟩
                  · rw [eV_not h1] at HAS
                    clear h0 h1 HMO HC z0 z1 HAM
                    generalize asks s q = n at *
                    go_wp2_with fail
                    refine (HAS _ hb07).mono ?_
                    rintro _ w8 ⟨rfl, hb8⟩
                    go_wp2
                    go_ret
                    exact ⟨rfl, kqt hbV (kqt hb07 hb8)⟩
                · rw [eV_not h0] at HC
                  clear h0 HMO HAS HAM
                  generalize scf ⟨s.ks, s.acs ++ [a]⟩ = n at *
                  go_wp2_with fail
                  refine HC.mono ?_
                  rintro _ w7 ⟨rfl, hb7⟩
                  go_wp2
                  go_ret
                  exact ⟨rfl, kqt hbV (kqt hbVZe hb7)⟩
            · go_simp
              obtain ⟨Za, hZa⟩ : ∃ Za, Za = Z0.alloc (.cells #[.string a.id, .slice p1 a.who.length c1, .slice p2 a.what.length c2, .slice p3 a.cx.length c3] 45) := ⟨_, rfl⟩
              have hbZa : Below Z0.heap.size Z0 Za := by rw [hZa]; exact kqx
              have hbVZa := kqt hbVZ0 hbZa
              have hsZa : Za.heap.size = Z0.heap.size + 1 := by rw [hZa]; simp
              have hAZa : Blk Za (w5.heap.size + 1) #[.string a.id, .slice p1 a.who.length c1, .slice p2 a.what.length c2, .slice p3 a.cx.length c3] 45 := by rw [hZa]; exact Blk.new Z0 _ _ (by omega)
              rw [← hZa]
              clear hZa
              refine hK.out _ _ (HS.out _ hbVZa) (fun hHeld => ?_)
              clear hK K
              try simp only [Act.put, List.setIfInBounds_toArray, List.set_cons_zero, List.set_cons_succ]
              refine wpAnyH_ready (rs := [0]) (by kernel_rfl) (by simp) ?_
              refine AllReadyH.cons rfl (fun K hK => ?_) (AllReadyH.nil)
              go_simp
              obtain ⟨Zb, hZb⟩ : ∃ Zb, Zb = Za.alloc (.cells #[] 45) := ⟨_, rfl⟩
              have hbZb : Below Za.heap.size Za Zb := by rw [hZb]; exact kqx
              have hbVZb := kqt hbVZa hbZb
              have hsZb : Zb.heap.size = Za.heap.size + 1 := by rw [hZb]; simp
              have hrZb : Zb.ownsRow (w5.heap.size + 1) 45 4 (.slice (some ⟨w5.heap.size + 1 + 1, 0, none⟩) 0 0) ([] : List KaA).length (kacl []) := by have := World.ownsRow_made (base := w5.heap.size + 1) (e := 45) (size := 4) Za #[] 0 (by omega) (Nat.zero_le _) (by simp); rw [hZb]; simp only [hsZa, hsZ0] at this; exact this
              have hAZb := hAZa.up hbZb
              rw [← hZb]
              clear hZb
              refine hK.out _ _ (HS.out _ hbVZb) (fun hHeld => ?_)
              clear hK K
              try simp only [Act.put, List.setIfInBounds_toArray, List.set_cons_zero, List.set_cons_succ]
              refine wpAnyH_ready (rs := [3]) (by kernel_rfl) (by simp) ?_
              refine AllReadyH.cons rfl (fun K hK => ?_) (AllReadyH.nil)
              rw [if_pos (by rfl)]
              refine wp_append_acts Zb (.tmp 52) (.tmp 54) rfl (w5.heap.size + 1) (.slice (some ⟨w5.heap.size + 1 + 1, 0, none⟩) 0 0) [] rfl hrZb xs s.acs.length HXN.out pa ca (HXC.out _ hbVZb) HP0.out rfl (by simp; have := HX8.out; omega) (by omega) ?_
              intro vZc Zc hrZc hgZc _
              rw [List.nil_append] at hrZc
              have hb5Zc : Below (w5.heap.size + 1) Zb Zc := grown_below hgZc (fun g hg => (World.ownsRow.lt hrZb g hg).1) (by omega)
              have hbVZc : Below V.heap.size V Zc := hbVZb.trans (hb5Zc.mono (by omega))
              have hsZc : Zb.heap.size ≤ Zc.heap.size := hgZc.size
              have hAZc := hAZb.grown hgZc (fun e => by simp only [Value.ownBlock, Option.some.injEq] at e; omega)
              obtain ⟨qZc, cZc, hvZc⟩ := ownP_slice hrZc
              subst hvZc
              refine hK.out _ _ (HS.out _ hbVZc) (fun hHeld => ?_)
              clear hK K
              try simp only [Act.put, List.setIfInBounds_toArray, List.set_cons_zero, List.set_cons_succ]
              refine wpAnyH_ready (rs := [6]) (by kernel_rfl) (by simp) ?_
              refine AllReadyH.cons rfl (fun K hK => ?_) (AllReadyH.nil)
              rw [if_pos (by rfl)]
              refine wp_append_acts Zc (.tmp 55) (.tmp 57) rfl (w5.heap.size + 1) _ xs rfl hrZc [⟨a, p1, c1, p2, c2, p3, c3⟩] 1 rfl (some ⟨w5.heap.size + 1, 0, none⟩) 1 (kac_one hAZc) (fun h => by cases h) rfl (by simp; have := HX8.out; omega) (by omega) ?_
              intro vZd Zd hrZd hgZd _
              have hb5Zd : Below (w5.heap.size + 1) Zc Zd := grown_below hgZd (fun g hg => (World.ownsRow.lt hrZc g hg).1) (by omega)
              have hbVZd : Below V.heap.size V Zd := hbVZc.trans (hb5Zd.mono (by omega))
              have hsZd : Zc.heap.size ≤ Zd.heap.size := hgZd.size
              obtain ⟨qZd, cZd, hvZd⟩ := ownP_slice hrZd
              subst hvZd
              obtain ⟨M, hM⟩ : ∃ M, M = (xs ++ [(⟨a, p1, c1, p2, c2, p3, c3⟩ : KaA)]).length := ⟨_, rfl⟩
              rw [← hM] at hrZd ⊢
              have HM : Hid (M = _) := hM
              clear hM
              refine hK.out _ _ (HS.out _ hbVZd) (fun hHeld => ?_)
              clear hK K
              try simp only [Act.put, List.setIfInBounds_toArray, List.set_cons_zero, List.set_cons_succ]
              have hWZ0 := hW6.up hb6Z0
              have hWZa := hWZ0.up hbZa
              have hWZb := hWZa.up hbZb
              have hWZc := hWZb.low hb5Zc (Nat.lt_succ_self _)
              have hWZd := hWZc.low hb5Zd (Nat.lt_succ_self _)
              refine wpAnyH_take (i := 7) (v := ?_) rfl (by kernel_rfl) (by kernel_rfl) (by kernel_rfl) (fun _ _ _ h => h) (Or.inl ⟨by rfl, ?_⟩) (by assumption) ?_
              rotate_left
              · intro w hSw
                go_simp
                all_goals with_reducible rfl
              try simp only [Act.put, List.setIfInBounds_toArray, List.set_cons_zero, List.set_cons_succ]
              have e1 : Zd.cell? ⟨w5.heap.size, 1, none⟩ = some (.slice none 0 0) := hWZd.cell 1
              have e2 := hWZd.free 1
              obtain ⟨Ze, hZe⟩ : ∃ Ze, Ze = Zd.setCell ⟨w5.heap.size, 1, none⟩ (.slice qZd M cZd) := ⟨_, rfl⟩
              obtain ⟨hWe, hKe⟩ := hWZd.set hZe
              have hbVZe : Below V.heap.size V Ze := hbVZd.trans (hKe.below (by omega) (fun a e => by omega))
              have hrZe : Ze.ownsRow (w5.heap.size + 1) 45 4 (.slice qZd M cZd) M (kacl (xs ++ [⟨a, p1, c1, p2, c2, p3, c3⟩])) := ownP_agree hrZd (fun g hg hl => hKe.block g hl (fun e => by have := (World.ownsRow.lt hrZd g hg).1; omega))
              refine wpAnyH_ready (rs := [8]) (by kernel_rfl) (by simp) ?_
              refine AllReadyH.cons rfl (fun K hK => ?_) (AllReadyH.nil)
              go_simp
              rw [← hZe]
              refine hK.out _ _ (HS.out _ hbVZe) (fun hHeld => ?_)
              clear hK K hZe e1 e2
              refine wpAnyH_done (by kernel_rfl) ?_ _
              clear hHeld
              have hM := HM.out
              rw [hM] at hrZe
              obtain ⟨qe, ce', he1, hAL, hAl, hAm⟩ := acts_of_row hrZe (fun x hx => by
                rcases List.mem_append.1 hx with hx | hx
                · exact HXP.out x hx Ze hbVZe
                · rw [List.mem_singleton.1 hx]; exact HAC.out.up hbVZe)
              rw [← hM] at he1 hAl
              injection he1 with e1 _ e2
              subst e1 e2
              rw [List.map_append, HXM.out] at hAL
              have hML : (s.acs ++ [a]).length = M := by rw [hM, List.length_append, List.length_append, HXN.out]; rfl
              have hSAe : SA Ze ⟨s.ks, s.acs ++ [a]⟩ pk ck qZd cZd := ⟨HSA.out.ks.up hbVZe, HSA.out.kl, HSA.out.km, hAL, by rw [hML]; exact hAl, hAm⟩
              have HSE : Hid (SA Ze ⟨s.ks, s.acs ++ [a]⟩ pk ck qZd cZd) := hSAe
              have HWE : Hid (Blk Ze w5.heap.size #[.slice pk s.ks.length ck, .slice qZd M cZd] 37) := hWe
              have HC := scheck_any _ _ _ _ _ Ze hSAe
              have HAS := fun W (hW : Below V.heap.size V W) => sasks_any s q pk pa pq ck ca cq W (HSA.out.up hW) ⟨HRQ.out.u0, HRQ.out.u1, HRQ.out.u2, HRQ.out.nl.up hW, HRQ.out.le, HRQ.out.cm⟩
              have HAM := fun W (hW : Below V.heap.size V W) (hE : Below Ze.heap.size Ze W) => sasks_any ⟨s.ks, s.acs ++ [a]⟩ q pk qZd pq ck cZd cq W (HSE.out.up hE) ⟨HRQ.out.u0, HRQ.out.u1, HRQ.out.u2, HRQ.out.nl.up hW, HRQ.out.le, HRQ.out.cm⟩
              unfold scV at HC HAS HAM
              unfold reqV at HAS HAM
              rw [hML] at HC HAM
              have HMO : Hid (asks s q = 0 → scf ⟨s.ks, s.acs ++ [a]⟩ = 0 → asks ⟨s.ks, s.acs ++ [a]⟩ q = 0) := fun h1 h2 => asks_more h1 h2
              clear hAL hAl hAm hSAe hrZe hM hML hWe hKe HX8 HXN HXC HXP HXM HS
              have z0 : Ze.cell? ⟨w5.heap.size, 0, none⟩ = some (.slice pk s.ks.length ck) := HWE.out.cell 0
              have z1 : Ze.cell? ⟨w5.heap.size, 1, none⟩ = some (.slice qZd M cZd) := HWE.out.cell 1
              by_cases h0 : scf ⟨s.ks, s.acs ++ [a]⟩ = 0
              · rw [eV_nil h0] at HC
                go_wp2_with fail
                refine HC.mono ?_
                rintro _ w7 ⟨rfl, hb7⟩
                have hb07 := kqt hbVZe hb7
                have r0 : w7.cell? ⟨w.heap.size, 0, none⟩ = some (.slice pk s.ks.length ck) := (HB0.out.up hb07).cell 0
                have r1 : w7.cell? ⟨w.heap.size, 1, none⟩ = some (.slice pa s.acs.length ca) := (HB0.out.up hb07).cell 1
                have t0 : w7.cell? ⟨w.heap.size + 1, 0, none⟩ = some (.string q.who.t) := (HB1.out.up hb07).cell 0
                have t1 : w7.cell? ⟨w.heap.size + 1, 1, none⟩ = some (.string q.who.i) := (HB1.out.up hb07).cell 1
                have t2 : w7.cell? ⟨w.heap.size + 1, 2, none⟩ = some (.string q.act.t) := (HB1.out.up hb07).cell 2
                have t3 : w7.cell? ⟨w.heap.size + 1, 3, none⟩ = some (.string q.act.i) := (HB1.out.up hb07).cell 3
                have t4 : w7.cell? ⟨w.heap.size + 1, 4, none⟩ = some (.string q.what.t) := (HB1.out.up hb07).cell 4
                have t5 : w7.cell? ⟨w.heap.size + 1, 5, none⟩ = some (.string q.what.i) := (HB1.out.up hb07).cell 5
                have t6 : w7.cell? ⟨w.heap.size + 1, 6, none⟩ = some (.slice pq q.cx.length cq) := (HB1.out.up hb07).cell 6
                by_cases h1 : asks s q = 0
                · rw [eV_nil h1] at HAS
                  rw [eV_nil (HMO.out h1 h0)] at HAM
                  clear h0 h1 HMO HC z0 z1
                  go_wp2_with fail
                  refine (HAS _ hb07).mono ?_
                  rintro _ w8 ⟨rfl, hb8⟩
                  have hbe8 := kqt hb7 hb8
                  have hb08 := kqt hb07 hb8
                  clear r0 r1 t0 t1 t2 t3 t4 t5 t6
                  have z0 : w8.cell? ⟨w5.heap.size, 0, none⟩ = some (.slice pk s.ks.length ck) := (HWE.out.up hbe8).cell 0
                  have z1 : w8.cell? ⟨w5.heap.size, 1, none⟩ = some (.slice qZd M cZd) := (HWE.out.up hbe8).cell 1
                  have t0 : w8.cell? ⟨w.heap.size + 1, 0, none⟩ = some (.string q.who.t) := (HB1.out.up hb08).cell 0
                  have t1 : w8.cell? ⟨w.heap.size + 1, 1, none⟩ = some (.string q.who.i) := (HB1.out.up hb08).cell 1
                  have t2 : w8.cell? ⟨w.heap.size + 1, 2, none⟩ = some (.string q.act.t) := (HB1.out.up hb08).cell 2
                  have t3 : w8.cell? ⟨w.heap.size + 1, 3, none⟩ = some (.string q.act.i) := (HB1.out.up hb08).cell 3
                  have t4 : w8.cell? ⟨w.heap.size + 1, 4, none⟩ = some (.string q.what.t) := (HB1.out.up hb08).cell 4
                  have t5 : w8.cell? ⟨w.heap.size + 1, 5, none⟩ = some (.string q.what.i) := (HB1.out.up hb08).cell 5
                  have t6 : w8.cell? ⟨w.heap.size + 1, 6, none⟩ = some (.slice pq q.cx.length cq) := (HB1.out.up hb08).cell 6
                  go_wp2_with fail
                  refine (HAM _ hb08 hbe8).mono ?_
                  rintro _ w9 ⟨rfl, hb9⟩
                  go_wp2
                  go_ret
                  exact ⟨rfl, kqt hbV (kqt hb08 hb9)⟩
                · rw [eV_not h1] at HAS
                  clear h0 h1 HMO HC z0 z1 HAM
                  generalize asks s q = n at *
                  go_wp2_with fail
                  refine (HAS _ hb07).mono ?_
                  rintro _ w8 ⟨rfl, hb8⟩
                  go_wp2
                  go_ret
                  exact ⟨rfl, kqt hbV (kqt hb07 hb8)⟩
              · rw [eV_not h0] at HC
                clear h0 HMO HAS HAM
                generalize scf ⟨s.ks, s.acs ++ [a]⟩ = n at *
                go_wp2_with fail
                refine HC.mono ?_
                rintro _ w7 ⟨rfl, hb7⟩
                go_wp2
                go_ret
                exact ⟨rfl, kqt hbV (kqt hbVZe hb7)⟩
    · rw [eV_not h1] at HN
      clear h1
      generalize stf es = n at *
      go_wp2_with fail
      refine HN.mono ?_
      rintro _ w5 ⟨rfl, hb5'⟩
      have hb5 := kqt hb3 hb5'
      clear hb3 hb5' HN
      have y0 : w5.cell? ⟨w.heap.size, 0, none⟩ = some (.slice pk s.ks.length ck) := (HB0.out.up hb5).cell 0
      have hs5 : V.heap.size ≤ w5.heap.size := hb5.size
      obtain ⟨xs, hxs, hxl⟩ := HSA.out.asl.parts
      have HXM : Hid (xs.map (·.k) = s.acs) := hxs
      have HXN : Hid (xs.length = s.acs.length) := by show _ = _; rw [← hxs, List.length_map]
      have HX8 : Hid (xs.length ≤ 8) := by
        show _ ≤ _
        rw [HXN.out]
        rcases scf_ways s with ⟨_, e⟩ | ⟨_, hk, _⟩
        · rw [e] at HS0; exact absurd HS0.out (by decide)
        · exact hk
      have HXP : Hid (∀ x ∈ xs, ∀ w', Below V.heap.size V w' → AcV w' x.k x.p1 x.c1 x.p2 x.c2 x.p3 x.c3) := fun x hx w' hb => (hxl.parts x hx).up hb
      have HXC : Hid (∀ w', Below V.heap.size V w' → KaC w' pa xs) := fun w' hb => KaC.up hxl.lies hb
      have HS : Hid (∀ w', Below V.heap.size V w' → w'.cell? ⟨w.heap.size, 1, none⟩ = some (.slice pa s.acs.length ca) ∧ w'.cell? ⟨w.heap.size + 1 + 1, 0, none⟩ = some (.string a.id) ∧ w'.cell? ⟨w.heap.size + 1 + 1, 1, none⟩ = some (.slice p1 a.who.length c1) ∧ w'.cell? ⟨w.heap.size + 1 + 1, 2, none⟩ = some (.slice p2 a.what.length c2) ∧ w'.cell? ⟨w.heap.size + 1 + 1, 3, none⟩ = some (.slice p3 a.cx.length c3)) := fun w' hb => ⟨(HB0.out.up hb).cell 1, (HB2.out.up hb).cell 0, (HB2.out.up hb).cell 1, (HB2.out.up hb).cell 2, (HB2.out.up hb).cell 3⟩
      clear hxs hxl
      obtain ⟨W6, hW6'⟩ : ∃ W6, W6 = w5.alloc (.cells #[.slice pk s.ks.length ck, .slice none 0 0] 37) := ⟨_, rfl⟩
      have hb56 : Below w5.heap.size w5 W6 := by rw [hW6']; exact kqx
      have hs6 : W6.heap.size = w5.heap.size + 1 := by rw [hW6']; simp
      have hW6 : Blk W6 w5.heap.size #[.slice pk s.ks.length ck, .slice none 0 0] 37 := by rw [hW6']; exact Blk.new w5 _ _ rfl
      obtain ⟨Z0, hZ0⟩ : ∃ Z0, Z0 = W6.drew := ⟨_, rfl⟩
      have hb6Z0 : Below W6.heap.size W6 Z0 := by rw [hZ0]; exact kqx
      have hsZ0 : Z0.heap.size = w5.heap.size + 1 := by rw [hZ0]; exact hs6
      have hbVZ0 : Below V.heap.size V Z0 := kqt hb5 (kqt hb56 hb6Z0)
      go_wp2_with fail
      rw [← hW6']
      clear hW6' y0
      refine wp_region_held_drew (S := fun w' => w'.cell? ⟨w.heap.size, 1, none⟩ = some (.slice pa s.acs.length ca) ∧ w'.cell? ⟨w.heap.size + 1 + 1, 0, none⟩ = some (.string a.id) ∧ w'.cell? ⟨w.heap.size + 1 + 1, 1, none⟩ = some (.slice p1 a.who.length c1) ∧ w'.cell? ⟨w.heap.size + 1 + 1, 2, none⟩ = some (.slice p2 a.what.length c2) ∧ w'.cell? ⟨w.heap.size + 1 + 1, 3, none⟩ = some (.slice p3 a.cx.length c3)) (by kernel_rfl) (by rw [← hZ0]; exact HS.out _ hbVZ0) (fun hHeld => ?_)
      rw [← hZ0] at hHeld ⊢
      clear hZ0
      refine wpAnyH_take (i := 1) (v := ?_) rfl (by kernel_rfl) (by kernel_rfl) (by kernel_rfl) (fun _ _ _ h => h) (Or.inl ⟨by rfl, ?_⟩) (by assumption) ?_
      rotate_left
      · intro w hSw
        go_simp
        all_goals with_reducible rfl
      try simp only [Act.put, List.setIfInBounds_toArray, List.set_cons_zero, List.set_cons_succ]
      refine wpAnyH_take (i := 2) (v := ?_) rfl (by kernel_rfl) (by kernel_rfl) (by kernel_rfl) (fun _ _ _ h => h) (Or.inl ⟨by rfl, ?_⟩) (by assumption) ?_
      rotate_left
      · intro w hSw
        go_simp
        all_goals with_reducible rfl
      try simp only [Act.put, List.setIfInBounds_toArray, List.set_cons_zero, List.set_cons_succ]
      refine wpAnyH_take (i := 4) (v := ?_) rfl (by kernel_rfl) (by kernel_rfl) (by kernel_rfl) (fun _ _ _ h => h) (Or.inl ⟨by rfl, ?_⟩) (by assumption) ?_
      rotate_left
      · intro w hSw
        go_simp
        all_goals with_reducible rfl
      try simp only [Act.put, List.setIfInBounds_toArray, List.set_cons_zero, List.set_cons_succ]
      refine wpAnyH_ready (rs := [0, 5]) (by kernel_rfl) (by simp) ?_
      refine AllReadyH.cons rfl (fun K hK => ?_) (AllReadyH.cons rfl (fun K hK => ?_) (AllReadyH.nil))
      · go_simp
        obtain ⟨Za, hZa⟩ : ∃ Za, Za = Z0.alloc (.cells #[] 45) := ⟨_, rfl⟩
        have hbZa : Below Z0.heap.size Z0 Za := by rw [hZa]; exact kqx
        have hbVZa := kqt hbVZ0 hbZa
        have hsZa : Za.heap.size = Z0.heap.size + 1 := by rw [hZa]; simp
        have hrZa : Za.ownsRow (w5.heap.size + 1) 45 4 (.slice (some ⟨w5.heap.size + 1, 0, none⟩) 0 0) ([] : List KaA).length (kacl []) := by have := World.ownsRow_made (base := w5.heap.size + 1) (e := 45) (size := 4) Z0 #[] 0 (by omega) (Nat.zero_le _) (by simp); rw [hZa]; simp only [hsZ0, hsZ0] at this; exact this
        rw [← hZa]
        clear hZa
        refine hK.out _ _ (HS.out _ hbVZa) (fun hHeld => ?_)
        clear hK K
        try simp only [Act.put, List.setIfInBounds_toArray, List.set_cons_zero, List.set_cons_succ]
        refine wpAnyH_ready (rs := [3, 5]) (by kernel_rfl) (by simp) ?_
        refine AllReadyH.cons rfl (fun K hK => ?_) (AllReadyH.cons rfl (fun K hK => ?_) (AllReadyH.nil))
        · rw [if_pos (by rfl)]
          refine wp_append_acts Za (.tmp 52) (.tmp 54) rfl (w5.heap.size + 1) (.slice (some ⟨w5.heap.size + 1, 0, none⟩) 0 0) [] rfl hrZa xs s.acs.length HXN.out pa ca (HXC.out _ hbVZa) HP0.out rfl (by simp; have := HX8.out; omega) (by omega) ?_
          intro vZb Zb hrZb hgZb _
          rw [List.nil_append] at hrZb
          have hb5Zb : Below (w5.heap.size + 1) Za Zb := grown_below hgZb (fun g hg => (World.ownsRow.lt hrZa g hg).1) (by omega)
          have hbVZb : Below V.heap.size V Zb := hbVZa.trans (hb5Zb.mono (by omega))
          have hsZb : Za.heap.size ≤ Zb.heap.size := hgZb.size

          obtain ⟨qZb, cZb, hvZb⟩ := ownP_slice hrZb
          subst hvZb
          refine hK.out _ _ (HS.out _ hbVZb) (fun hHeld => ?_)
          clear hK K
          try simp only [Act.put, List.setIfInBounds_toArray, List.set_cons_zero, List.set_cons_succ]
          refine wpAnyH_ready (rs := [5]) (by kernel_rfl) (by simp) ?_
          refine AllReadyH.cons rfl (fun K hK => ?_) (AllReadyH.nil)
          go_simp
          obtain ⟨Zc, hZc⟩ : ∃ Zc, Zc = Zb.alloc (.cells #[.string a.id, .slice p1 a.who.length c1, .slice p2 a.what.length c2, .slice p3 a.cx.length c3] 45) := ⟨_, rfl⟩
          have hbZc : Below Zb.heap.size Zb Zc := by rw [hZc]; exact kqx
          have hbVZc := kqt hbVZb hbZc
          have hsZc : Zc.heap.size = Zb.heap.size + 1 := by rw [hZc]; simp
          have hAZc : Blk Zc (Zb.heap.size) #[.string a.id, .slice p1 a.who.length c1, .slice p2 a.what.length c2, .slice p3 a.cx.length c3] 45 := by rw [hZc]; exact Blk.new Zb _ _ (by omega)
          have hrZc := ownP_agree (w' := Zc) hrZb (fun g _ hl => hbZc.block g hl)
          rw [← hZc]
          clear hZc
          refine hK.out _ _ (HS.out _ hbVZc) (fun hHeld => ?_)
          clear hK K
          try simp only [Act.put, List.setIfInBounds_toArray, List.set_cons_zero, List.set_cons_succ]
          refine wpAnyH_ready (rs := [6]) (by kernel_rfl) (by simp) ?_
          refine AllReadyH.cons rfl (fun K hK => ?_) (AllReadyH.nil)
          rw [if_pos (by rfl)]
          refine wp_append_acts Zc (.tmp 55) (.tmp 57) rfl (w5.heap.size + 1) _ xs rfl hrZc [⟨a, p1, c1, p2, c2, p3, c3⟩] 1 rfl (some ⟨Zb.heap.size, 0, none⟩) 1 (kac_one hAZc) (fun h => by cases h) rfl (by simp; have := HX8.out; omega) (by omega) ?_
          intro vZd Zd hrZd hgZd _
          have hb5Zd : Below (w5.heap.size + 1) Zc Zd := grown_below hgZd (fun g hg => (World.ownsRow.lt hrZc g hg).1) (by omega)
          have hbVZd : Below V.heap.size V Zd := hbVZc.trans (hb5Zd.mono (by omega))
          have hsZd : Zc.heap.size ≤ Zd.heap.size := hgZd.size
          obtain ⟨qZd, cZd, hvZd⟩ := ownP_slice hrZd
          subst hvZd
          obtain ⟨M, hM⟩ : ∃ M, M = (xs ++ [(⟨a, p1, c1, p2, c2, p3, c3⟩ : KaA)]).length := ⟨_, rfl⟩
          rw [← hM] at hrZd ⊢
          have HM : Hid (M = _) := hM
          clear hM
          refine hK.out _ _ (HS.out _ hbVZd) (fun hHeld => ?_)
          clear hK K
          try simp only [Act.put, List.setIfInBounds_toArray, List.set_cons_zero, List.set_cons_succ]
          have hWZ0 := hW6.up hb6Z0
          have hWZa := hWZ0.up hbZa
          have hWZb := hWZa.low hb5Zb (Nat.lt_succ_self _)
          have hWZc := hWZb.up hbZc
          have hWZd := hWZc.low hb5Zd (Nat.lt_succ_self _)
          refine wpAnyH_take (i := 7) (v := ?_) rfl (by kernel_rfl) (by kernel_rfl) (by kernel_rfl) (fun _ _ _ h => h) (Or.inl ⟨by rfl, ?_⟩) (by assumption) ?_
          rotate_left
          · intro w hSw
            go_simp
            all_goals with_reducible rfl
          try simp only [Act.put, List.setIfInBounds_toArray, List.set_cons_zero, List.set_cons_succ]
          have e1 : Zd.cell? ⟨w5.heap.size, 1, none⟩ = some (.slice none 0 0) := hWZd.cell 1
          have e2 := hWZd.free 1
          obtain ⟨Ze, hZe⟩ : ∃ Ze, Ze = Zd.setCell ⟨w5.heap.size, 1, none⟩ (.slice qZd M cZd) := ⟨_, rfl⟩
          obtain ⟨hWe, hKe⟩ := hWZd.set hZe
          have hbVZe : Below V.heap.size V Ze := hbVZd.trans (hKe.below (by omega) (fun a e => by omega))
          have hrZe : Ze.ownsRow (w5.heap.size + 1) 45 4 (.slice qZd M cZd) M (kacl (xs ++ [⟨a, p1, c1, p2, c2, p3, c3⟩])) := ownP_agree hrZd (fun g hg hl => hKe.block g hl (fun e => by have := (World.ownsRow.lt hrZd g hg).1; omega))
          refine wpAnyH_ready (rs := [8]) (by kernel_rfl) (by simp) ?_
          refine AllReadyH.cons rfl (fun K hK => ?_) (AllReadyH.nil)
          go_simp
          rw [← hZe]
          refine hK.out _ _ (HS.out _ hbVZe) (fun hHeld => ?_)
          clear hK K hZe e1 e2
          refine wpAnyH_done (by kernel_rfl) ?_ _
          clear hHeld
          have hM := HM.out
          rw [hM] at hrZe
          obtain ⟨qe, ce', he1, hAL, hAl, hAm⟩ := acts_of_row hrZe (fun x hx => by
            rcases List.mem_append.1 hx with hx | hx
            · exact HXP.out x hx Ze hbVZe
            · rw [List.mem_singleton.1 hx]; exact HAC.out.up hbVZe)
          rw [← hM] at he1 hAl
          injection he1 with e1 _ e2
          subst e1 e2
          rw [List.map_append, HXM.out] at hAL
          have hML : (s.acs ++ [a]).length = M := by rw [hM, List.length_append, List.length_append, HXN.out]; rfl
          have hSAe : SA Ze ⟨s.ks, s.acs ++ [a]⟩ pk ck qZd cZd := ⟨HSA.out.ks.up hbVZe, HSA.out.kl, HSA.out.km, hAL, by rw [hML]; exact hAl, hAm⟩
          have HSE : Hid (SA Ze ⟨s.ks, s.acs ++ [a]⟩ pk ck qZd cZd) := hSAe
          have HWE : Hid (Blk Ze w5.heap.size #[.slice pk s.ks.length ck, .slice qZd M cZd] 37) := hWe
          have HC := scheck_any _ _ _ _ _ Ze hSAe
          have HAS := fun W (hW : Below V.heap.size V W) => sasks_any s q pk pa pq ck ca cq W (HSA.out.up hW) ⟨HRQ.out.u0, HRQ.out.u1, HRQ.out.u2, HRQ.out.nl.up hW, HRQ.out.le, HRQ.out.cm⟩
          have HAM := fun W (hW : Below V.heap.size V W) (hE : Below Ze.heap.size Ze W) => sasks_any ⟨s.ks, s.acs ++ [a]⟩ q pk qZd pq ck cZd cq W (HSE.out.up hE) ⟨HRQ.out.u0, HRQ.out.u1, HRQ.out.u2, HRQ.out.nl.up hW, HRQ.out.le, HRQ.out.cm⟩
          unfold scV at HC HAS HAM
          unfold reqV at HAS HAM
          rw [hML] at HC HAM
          have HMO : Hid (asks s q = 0 → scf ⟨s.ks, s.acs ++ [a]⟩ = 0 → asks ⟨s.ks, s.acs ++ [a]⟩ q = 0) := fun h1 h2 => asks_more h1 h2
          clear hAL hAl hAm hSAe hrZe hM hML hWe hKe HX8 HXN HXC HXP HXM HS
          have z0 : Ze.cell? ⟨w5.heap.size, 0, none⟩ = some (.slice pk s.ks.length ck) := HWE.out.cell 0
          have z1 : Ze.cell? ⟨w5.heap.size, 1, none⟩ = some (.slice qZd M cZd) := HWE.out.cell 1
          by_cases h0 : scf ⟨s.ks, s.acs ++ [a]⟩ = 0
          · rw [eV_nil h0] at HC
            go_wp2_with fail
            refine HC.mono ?_
            rintro _ w7 ⟨rfl, hb7⟩
            have hb07 := kqt hbVZe hb7
            have r0 : w7.cell? ⟨w.heap.size, 0, none⟩ = some (.slice pk s.ks.length ck) := (HB0.out.up hb07).cell 0
            have r1 : w7.cell? ⟨w.heap.size, 1, none⟩ = some (.slice pa s.acs.length ca) := (HB0.out.up hb07).cell 1
            have t0 : w7.cell? ⟨w.heap.size + 1, 0, none⟩ = some (.string q.who.t) := (HB1.out.up hb07).cell 0
            have t1 : w7.cell? ⟨w.heap.size + 1, 1, none⟩ = some (.string q.who.i) := (HB1.out.up hb07).cell 1
            have t2 : w7.cell? ⟨w.heap.size + 1, 2, none⟩ = some (.string q.act.t) := (HB1.out.up hb07).cell 2
            have t3 : w7.cell? ⟨w.heap.size + 1, 3, none⟩ = some (.string q.act.i) := (HB1.out.up hb07).cell 3
            have t4 : w7.cell? ⟨w.heap.size + 1, 4, none⟩ = some (.string q.what.t) := (HB1.out.up hb07).cell 4
            have t5 : w7.cell? ⟨w.heap.size + 1, 5, none⟩ = some (.string q.what.i) := (HB1.out.up hb07).cell 5
            have t6 : w7.cell? ⟨w.heap.size + 1, 6, none⟩ = some (.slice pq q.cx.length cq) := (HB1.out.up hb07).cell 6
            by_cases h1 : asks s q = 0
            · rw [eV_nil h1] at HAS
              rw [eV_nil (HMO.out h1 h0)] at HAM
              clear h0 h1 HMO HC z0 z1
              go_wp2_with fail
              refine (HAS _ hb07).mono ?_
              rintro _ w8 ⟨rfl, hb8⟩
              have hbe8 := kqt hb7 hb8
              have hb08 := kqt hb07 hb8
              clear r0 r1 t0 t1 t2 t3 t4 t5 t6
              have z0 : w8.cell? ⟨w5.heap.size, 0, none⟩ = some (.slice pk s.ks.length ck) := (HWE.out.up hbe8).cell 0
              have z1 : w8.cell? ⟨w5.heap.size, 1, none⟩ = some (.slice qZd M cZd) := (HWE.out.up hbe8).cell 1
              have t0 : w8.cell? ⟨w.heap.size + 1, 0, none⟩ = some (.string q.who.t) := (HB1.out.up hb08).cell 0
              have t1 : w8.cell? ⟨w.heap.size + 1, 1, none⟩ = some (.string q.who.i) := (HB1.out.up hb08).cell 1
              have t2 : w8.cell? ⟨w.heap.size + 1, 2, none⟩ = some (.string q.act.t) := (HB1.out.up hb08).cell 2
              have t3 : w8.cell? ⟨w.heap.size + 1, 3, none⟩ = some (.string q.act.i) := (HB1.out.up hb08).cell 3
              have t4 : w8.cell? ⟨w.heap.size + 1, 4, none⟩ = some (.string q.what.t) := (HB1.out.up hb08).cell 4
              have t5 : w8.cell? ⟨w.heap.size + 1, 5, none⟩ = some (.string q.what.i) := (HB1.out.up hb08).cell 5
              have t6 : w8.cell? ⟨w.heap.size + 1, 6, none⟩ = some (.slice pq q.cx.length cq) := (HB1.out.up hb08).cell 6
              go_wp2_with fail
              refine (HAM _ hb08 hbe8).mono ?_
              rintro _ w9 ⟨rfl, hb9⟩
              go_wp2
              go_ret
              exact ⟨rfl, kqt hbV (kqt hb08 hb9)⟩
            · rw [eV_not h1] at HAS
              clear h0 h1 HMO HC z0 z1 HAM
              generalize asks s q = n at *
              go_wp2_with fail
              refine (HAS _ hb07).mono ?_
              rintro _ w8 ⟨rfl, hb8⟩
              go_wp2
              go_ret
              exact ⟨rfl, kqt hbV (kqt hb07 hb8)⟩
          · rw [eV_not h0] at HC
            clear h0 HMO HAS HAM
            generalize scf ⟨s.ks, s.acs ++ [a]⟩ = n at *
            go_wp2_with fail
            refine HC.mono ?_
            rintro _ w7 ⟨rfl, hb7⟩
            go_wp2
            go_ret
            exact ⟨rfl, kqt hbV (kqt hbVZe hb7)⟩
        · go_simp
          obtain ⟨Zb, hZb⟩ : ∃ Zb, Zb = Za.alloc (.cells #[.string a.id, .slice p1 a.who.length c1, .slice p2 a.what.length c2, .slice p3 a.cx.length c3] 45) := ⟨_, rfl⟩
          have hbZb : Below Za.heap.size Za Zb := by rw [hZb]; exact kqx
          have hbVZb := kqt hbVZa hbZb
          have hsZb : Zb.heap.size = Za.heap.size + 1 := by rw [hZb]; simp
          have hAZb : Blk Zb (w5.heap.size + 1 + 1) #[.string a.id, .slice p1 a.who.length c1, .slice p2 a.what.length c2, .slice p3 a.cx.length c3] 45 := by rw [hZb]; exact Blk.new Za _ _ (by omega)
          have hrZb := ownP_agree (w' := Zb) hrZa (fun g _ hl => hbZb.block g hl)
          rw [← hZb]
          clear hZb
          refine hK.out _ _ (HS.out _ hbVZb) (fun hHeld => ?_)
          clear hK K
          try simp only [Act.put, List.setIfInBounds_toArray, List.set_cons_zero, List.set_cons_succ]
          refine wpAnyH_ready (rs := [3]) (by kernel_rfl) (by simp) ?_
          refine AllReadyH.cons rfl (fun K hK => ?_) (AllReadyH.nil)
          rw [if_pos (by rfl)]
          refine wp_append_acts Zb (.tmp 52) (.tmp 54) rfl (w5.heap.size + 1) (.slice (some ⟨w5.heap.size + 1, 0, none⟩) 0 0) [] rfl hrZb xs s.acs.length HXN.out pa ca (HXC.out _ hbVZb) HP0.out rfl (by simp; have := HX8.out; omega) (by omega) ?_
          intro vZc Zc hrZc hgZc _
          rw [List.nil_append] at hrZc
          have hb5Zc : Below (w5.heap.size + 1) Zb Zc := grown_below hgZc (fun g hg => (World.ownsRow.lt hrZb g hg).1) (by omega)
          have hbVZc : Below V.heap.size V Zc := hbVZb.trans (hb5Zc.mono (by omega))
          have hsZc : Zb.heap.size ≤ Zc.heap.size := hgZc.size
          have hAZc := hAZb.grown hgZc (fun e => by simp only [Value.ownBlock, Option.some.injEq] at e; omega)
          obtain ⟨qZc, cZc, hvZc⟩ := ownP_slice hrZc
          subst hvZc
          refine hK.out _ _ (HS.out _ hbVZc) (fun hHeld => ?_)
          clear hK K
          try simp only [Act.put, List.setIfInBounds_toArray, List.set_cons_zero, List.set_cons_succ]
          refine wpAnyH_ready (rs := [6]) (by kernel_rfl) (by simp) ?_
          refine AllReadyH.cons rfl (fun K hK => ?_) (AllReadyH.nil)
          rw [if_pos (by rfl)]
          refine wp_append_acts Zc (.tmp 55) (.tmp 57) rfl (w5.heap.size + 1) _ xs rfl hrZc [⟨a, p1, c1, p2, c2, p3, c3⟩] 1 rfl (some ⟨w5.heap.size + 1 + 1, 0, none⟩) 1 (kac_one hAZc) (fun h => by cases h) rfl (by simp; have := HX8.out; omega) (by omega) ?_
          intro vZd Zd hrZd hgZd _
          have hb5Zd : Below (w5.heap.size + 1) Zc Zd := grown_below hgZd (fun g hg => (World.ownsRow.lt hrZc g hg).1) (by omega)
          have hbVZd : Below V.heap.size V Zd := hbVZc.trans (hb5Zd.mono (by omega))
          have hsZd : Zc.heap.size ≤ Zd.heap.size := hgZd.size
          obtain ⟨qZd, cZd, hvZd⟩ := ownP_slice hrZd
          subst hvZd
          obtain ⟨M, hM⟩ : ∃ M, M = (xs ++ [(⟨a, p1, c1, p2, c2, p3, c3⟩ : KaA)]).length := ⟨_, rfl⟩
          rw [← hM] at hrZd ⊢
          have HM : Hid (M = _) := hM
          clear hM
          refine hK.out _ _ (HS.out _ hbVZd) (fun hHeld => ?_)
          clear hK K
          try simp only [Act.put, List.setIfInBounds_toArray, List.set_cons_zero, List.set_cons_succ]
          have hWZ0 := hW6.up hb6Z0
          have hWZa := hWZ0.up hbZa
          have hWZb := hWZa.up hbZb
          have hWZc := hWZb.low hb5Zc (Nat.lt_succ_self _)
          have hWZd := hWZc.low hb5Zd (Nat.lt_succ_self _)
          refine wpAnyH_take (i := 7) (v := ?_) rfl (by kernel_rfl) (by kernel_rfl) (by kernel_rfl) (fun _ _ _ h => h) (Or.inl ⟨by rfl, ?_⟩) (by assumption) ?_
          rotate_left
          · intro w hSw
            go_simp
            all_goals with_reducible rfl
          try simp only [Act.put, List.setIfInBounds_toArray, List.set_cons_zero, List.set_cons_succ]
          have e1 : Zd.cell? ⟨w5.heap.size, 1, none⟩ = some (.slice none 0 0) := hWZd.cell 1
          have e2 := hWZd.free 1
          obtain ⟨Ze, hZe⟩ : ∃ Ze, Ze = Zd.setCell ⟨w5.heap.size, 1, none⟩ (.slice qZd M cZd) := ⟨_, rfl⟩
          obtain ⟨hWe, hKe⟩ := hWZd.set hZe
          have hbVZe : Below V.heap.size V Ze := hbVZd.trans (hKe.below (by omega) (fun a e => by omega))
          have hrZe : Ze.ownsRow (w5.heap.size + 1) 45 4 (.slice qZd M cZd) M (kacl (xs ++ [⟨a, p1, c1, p2, c2, p3, c3⟩])) := ownP_agree hrZd (fun g hg hl => hKe.block g hl (fun e => by have := (World.ownsRow.lt hrZd g hg).1; omega))
          refine wpAnyH_ready (rs := [8]) (by kernel_rfl) (by simp) ?_
          refine AllReadyH.cons rfl (fun K hK => ?_) (AllReadyH.nil)
          go_simp
          rw [← hZe]
          refine hK.out _ _ (HS.out _ hbVZe) (fun hHeld => ?_)
          clear hK K hZe e1 e2
          refine wpAnyH_done (by kernel_rfl) ?_ _
          clear hHeld
          have hM := HM.out
          rw [hM] at hrZe
          obtain ⟨qe, ce', he1, hAL, hAl, hAm⟩ := acts_of_row hrZe (fun x hx => by
            rcases List.mem_append.1 hx with hx | hx
            · exact HXP.out x hx Ze hbVZe
            · rw [List.mem_singleton.1 hx]; exact HAC.out.up hbVZe)
          rw [← hM] at he1 hAl
          injection he1 with e1 _ e2
          subst e1 e2
          rw [List.map_append, HXM.out] at hAL
          have hML : (s.acs ++ [a]).length = M := by rw [hM, List.length_append, List.length_append, HXN.out]; rfl
          have hSAe : SA Ze ⟨s.ks, s.acs ++ [a]⟩ pk ck qZd cZd := ⟨HSA.out.ks.up hbVZe, HSA.out.kl, HSA.out.km, hAL, by rw [hML]; exact hAl, hAm⟩
          have HSE : Hid (SA Ze ⟨s.ks, s.acs ++ [a]⟩ pk ck qZd cZd) := hSAe
          have HWE : Hid (Blk Ze w5.heap.size #[.slice pk s.ks.length ck, .slice qZd M cZd] 37) := hWe
          have HC := scheck_any _ _ _ _ _ Ze hSAe
          have HAS := fun W (hW : Below V.heap.size V W) => sasks_any s q pk pa pq ck ca cq W (HSA.out.up hW) ⟨HRQ.out.u0, HRQ.out.u1, HRQ.out.u2, HRQ.out.nl.up hW, HRQ.out.le, HRQ.out.cm⟩
          have HAM := fun W (hW : Below V.heap.size V W) (hE : Below Ze.heap.size Ze W) => sasks_any ⟨s.ks, s.acs ++ [a]⟩ q pk qZd pq ck cZd cq W (HSE.out.up hE) ⟨HRQ.out.u0, HRQ.out.u1, HRQ.out.u2, HRQ.out.nl.up hW, HRQ.out.le, HRQ.out.cm⟩
          unfold scV at HC HAS HAM
          unfold reqV at HAS HAM
          rw [hML] at HC HAM
          have HMO : Hid (asks s q = 0 → scf ⟨s.ks, s.acs ++ [a]⟩ = 0 → asks ⟨s.ks, s.acs ++ [a]⟩ q = 0) := fun h1 h2 => asks_more h1 h2
          clear hAL hAl hAm hSAe hrZe hM hML hWe hKe HX8 HXN HXC HXP HXM HS
          have z0 : Ze.cell? ⟨w5.heap.size, 0, none⟩ = some (.slice pk s.ks.length ck) := HWE.out.cell 0
          have z1 : Ze.cell? ⟨w5.heap.size, 1, none⟩ = some (.slice qZd M cZd) := HWE.out.cell 1
          by_cases h0 : scf ⟨s.ks, s.acs ++ [a]⟩ = 0
          · rw [eV_nil h0] at HC
            go_wp2_with fail
            refine HC.mono ?_
            rintro _ w7 ⟨rfl, hb7⟩
            have hb07 := kqt hbVZe hb7
            have r0 : w7.cell? ⟨w.heap.size, 0, none⟩ = some (.slice pk s.ks.length ck) := (HB0.out.up hb07).cell 0
            have r1 : w7.cell? ⟨w.heap.size, 1, none⟩ = some (.slice pa s.acs.length ca) := (HB0.out.up hb07).cell 1
            have t0 : w7.cell? ⟨w.heap.size + 1, 0, none⟩ = some (.string q.who.t) := (HB1.out.up hb07).cell 0
            have t1 : w7.cell? ⟨w.heap.size + 1, 1, none⟩ = some (.string q.who.i) := (HB1.out.up hb07).cell 1
            have t2 : w7.cell? ⟨w.heap.size + 1, 2, none⟩ = some (.string q.act.t) := (HB1.out.up hb07).cell 2
            have t3 : w7.cell? ⟨w.heap.size + 1, 3, none⟩ = some (.string q.act.i) := (HB1.out.up hb07).cell 3
            have t4 : w7.cell? ⟨w.heap.size + 1, 4, none⟩ = some (.string q.what.t) := (HB1.out.up hb07).cell 4
            have t5 : w7.cell? ⟨w.heap.size + 1, 5, none⟩ = some (.string q.what.i) := (HB1.out.up hb07).cell 5
            have t6 : w7.cell? ⟨w.heap.size + 1, 6, none⟩ = some (.slice pq q.cx.length cq) := (HB1.out.up hb07).cell 6
            by_cases h1 : asks s q = 0
            · rw [eV_nil h1] at HAS
              rw [eV_nil (HMO.out h1 h0)] at HAM
              clear h0 h1 HMO HC z0 z1
              go_wp2_with fail
              refine (HAS _ hb07).mono ?_
              rintro _ w8 ⟨rfl, hb8⟩
              have hbe8 := kqt hb7 hb8
              have hb08 := kqt hb07 hb8
              clear r0 r1 t0 t1 t2 t3 t4 t5 t6
              have z0 : w8.cell? ⟨w5.heap.size, 0, none⟩ = some (.slice pk s.ks.length ck) := (HWE.out.up hbe8).cell 0
              have z1 : w8.cell? ⟨w5.heap.size, 1, none⟩ = some (.slice qZd M cZd) := (HWE.out.up hbe8).cell 1
              have t0 : w8.cell? ⟨w.heap.size + 1, 0, none⟩ = some (.string q.who.t) := (HB1.out.up hb08).cell 0
              have t1 : w8.cell? ⟨w.heap.size + 1, 1, none⟩ = some (.string q.who.i) := (HB1.out.up hb08).cell 1
              have t2 : w8.cell? ⟨w.heap.size + 1, 2, none⟩ = some (.string q.act.t) := (HB1.out.up hb08).cell 2
              have t3 : w8.cell? ⟨w.heap.size + 1, 3, none⟩ = some (.string q.act.i) := (HB1.out.up hb08).cell 3
              have t4 : w8.cell? ⟨w.heap.size + 1, 4, none⟩ = some (.string q.what.t) := (HB1.out.up hb08).cell 4
              have t5 : w8.cell? ⟨w.heap.size + 1, 5, none⟩ = some (.string q.what.i) := (HB1.out.up hb08).cell 5
              have t6 : w8.cell? ⟨w.heap.size + 1, 6, none⟩ = some (.slice pq q.cx.length cq) := (HB1.out.up hb08).cell 6
              go_wp2_with fail
              refine (HAM _ hb08 hbe8).mono ?_
              rintro _ w9 ⟨rfl, hb9⟩
              go_wp2
              go_ret
              exact ⟨rfl, kqt hbV (kqt hb08 hb9)⟩
            · rw [eV_not h1] at HAS
              clear h0 h1 HMO HC z0 z1 HAM
              generalize asks s q = n at *
              go_wp2_with fail
              refine (HAS _ hb07).mono ?_
              rintro _ w8 ⟨rfl, hb8⟩
              go_wp2
              go_ret
              exact ⟨rfl, kqt hbV (kqt hb07 hb8)⟩
          · rw [eV_not h0] at HC
            clear h0 HMO HAS HAM
            generalize scf ⟨s.ks, s.acs ++ [a]⟩ = n at *
            go_wp2_with fail
            refine HC.mono ?_
            rintro _ w7 ⟨rfl, hb7⟩
            go_wp2
            go_ret
            exact ⟨rfl, kqt hbV (kqt hbVZe hb7)⟩
      · go_simp
        obtain ⟨Za, hZa⟩ : ∃ Za, Za = Z0.alloc (.cells #[.string a.id, .slice p1 a.who.length c1, .slice p2 a.what.length c2, .slice p3 a.cx.length c3] 45) := ⟨_, rfl⟩
        have hbZa : Below Z0.heap.size Z0 Za := by rw [hZa]; exact kqx
        have hbVZa := kqt hbVZ0 hbZa
        have hsZa : Za.heap.size = Z0.heap.size + 1 := by rw [hZa]; simp
        have hAZa : Blk Za (w5.heap.size + 1) #[.string a.id, .slice p1 a.who.length c1, .slice p2 a.what.length c2, .slice p3 a.cx.length c3] 45 := by rw [hZa]; exact Blk.new Z0 _ _ (by omega)
        rw [← hZa]
        clear hZa
        refine hK.out _ _ (HS.out _ hbVZa) (fun hHeld => ?_)
        clear hK K
        try simp only [Act.put, List.setIfInBounds_toArray, List.set_cons_zero, List.set_cons_succ]
        refine wpAnyH_ready (rs := [0]) (by kernel_rfl) (by simp) ?_
        refine AllReadyH.cons rfl (fun K hK => ?_) (AllReadyH.nil)
        go_simp
        obtain ⟨Zb, hZb⟩ : ∃ Zb, Zb = Za.alloc (.cells #[] 45) := ⟨_, rfl⟩
        have hbZb : Below Za.heap.size Za Zb := by rw [hZb]; exact kqx
        have hbVZb := kqt hbVZa hbZb
        have hsZb : Zb.heap.size = Za.heap.size + 1 := by rw [hZb]; simp
        have hrZb : Zb.ownsRow (w5.heap.size + 1) 45 4 (.slice (some ⟨w5.heap.size + 1 + 1, 0, none⟩) 0 0) ([] : List KaA).length (kacl []) := by have := World.ownsRow_made (base := w5.heap.size + 1) (e := 45) (size := 4) Za #[] 0 (by omega) (Nat.zero_le _) (by simp); rw [hZb]; simp only [hsZa, hsZ0] at this; exact this
        have hAZb := hAZa.up hbZb
        rw [← hZb]
        clear hZb
        refine hK.out _ _ (HS.out _ hbVZb) (fun hHeld => ?_)
        clear hK K
        try simp only [Act.put, List.setIfInBounds_toArray, List.set_cons_zero, List.set_cons_succ]
        refine wpAnyH_ready (rs := [3]) (by kernel_rfl) (by simp) ?_
        refine AllReadyH.cons rfl (fun K hK => ?_) (AllReadyH.nil)
        rw [if_pos (by rfl)]
        refine wp_append_acts Zb (.tmp 52) (.tmp 54) rfl (w5.heap.size + 1) (.slice (some ⟨w5.heap.size + 1 + 1, 0, none⟩) 0 0) [] rfl hrZb xs s.acs.length HXN.out pa ca (HXC.out _ hbVZb) HP0.out rfl (by simp; have := HX8.out; omega) (by omega) ?_
        intro vZc Zc hrZc hgZc _
        rw [List.nil_append] at hrZc
        have hb5Zc : Below (w5.heap.size + 1) Zb Zc := grown_below hgZc (fun g hg => (World.ownsRow.lt hrZb g hg).1) (by omega)
        have hbVZc : Below V.heap.size V Zc := hbVZb.trans (hb5Zc.mono (by omega))
        have hsZc : Zb.heap.size ≤ Zc.heap.size := hgZc.size
        have hAZc := hAZb.grown hgZc (fun e => by simp only [Value.ownBlock, Option.some.injEq] at e; omega)
        obtain ⟨qZc, cZc, hvZc⟩ := ownP_slice hrZc
        subst hvZc
        refine hK.out _ _ (HS.out _ hbVZc) (fun hHeld => ?_)
        clear hK K
        try simp only [Act.put, List.setIfInBounds_toArray, List.set_cons_zero, List.set_cons_succ]
        refine wpAnyH_ready (rs := [6]) (by kernel_rfl) (by simp) ?_
        refine AllReadyH.cons rfl (fun K hK => ?_) (AllReadyH.nil)
        rw [if_pos (by rfl)]
        refine wp_append_acts Zc (.tmp 55) (.tmp 57) rfl (w5.heap.size + 1) _ xs rfl hrZc [⟨a, p1, c1, p2, c2, p3, c3⟩] 1 rfl (some ⟨w5.heap.size + 1, 0, none⟩) 1 (kac_one hAZc) (fun h => by cases h) rfl (by simp; have := HX8.out; omega) (by omega) ?_
        intro vZd Zd hrZd hgZd _
        have hb5Zd : Below (w5.heap.size + 1) Zc Zd := grown_below hgZd (fun g hg => (World.ownsRow.lt hrZc g hg).1) (by omega)
        have hbVZd : Below V.heap.size V Zd := hbVZc.trans (hb5Zd.mono (by omega))
        have hsZd : Zc.heap.size ≤ Zd.heap.size := hgZd.size
        obtain ⟨qZd, cZd, hvZd⟩ := ownP_slice hrZd
        subst hvZd
        obtain ⟨M, hM⟩ : ∃ M, M = (xs ++ [(⟨a, p1, c1, p2, c2, p3, c3⟩ : KaA)]).length := ⟨_, rfl⟩
        rw [← hM] at hrZd ⊢
        have HM : Hid (M = _) := hM
        clear hM
        refine hK.out _ _ (HS.out _ hbVZd) (fun hHeld => ?_)
        clear hK K
        try simp only [Act.put, List.setIfInBounds_toArray, List.set_cons_zero, List.set_cons_succ]
        have hWZ0 := hW6.up hb6Z0
        have hWZa := hWZ0.up hbZa
        have hWZb := hWZa.up hbZb
        have hWZc := hWZb.low hb5Zc (Nat.lt_succ_self _)
        have hWZd := hWZc.low hb5Zd (Nat.lt_succ_self _)
        refine wpAnyH_take (i := 7) (v := ?_) rfl (by kernel_rfl) (by kernel_rfl) (by kernel_rfl) (fun _ _ _ h => h) (Or.inl ⟨by rfl, ?_⟩) (by assumption) ?_
        rotate_left
        · intro w hSw
          go_simp
          all_goals with_reducible rfl
        try simp only [Act.put, List.setIfInBounds_toArray, List.set_cons_zero, List.set_cons_succ]
        have e1 : Zd.cell? ⟨w5.heap.size, 1, none⟩ = some (.slice none 0 0) := hWZd.cell 1
        have e2 := hWZd.free 1
        obtain ⟨Ze, hZe⟩ : ∃ Ze, Ze = Zd.setCell ⟨w5.heap.size, 1, none⟩ (.slice qZd M cZd) := ⟨_, rfl⟩
        obtain ⟨hWe, hKe⟩ := hWZd.set hZe
        have hbVZe : Below V.heap.size V Ze := hbVZd.trans (hKe.below (by omega) (fun a e => by omega))
        have hrZe : Ze.ownsRow (w5.heap.size + 1) 45 4 (.slice qZd M cZd) M (kacl (xs ++ [⟨a, p1, c1, p2, c2, p3, c3⟩])) := ownP_agree hrZd (fun g hg hl => hKe.block g hl (fun e => by have := (World.ownsRow.lt hrZd g hg).1; omega))
        refine wpAnyH_ready (rs := [8]) (by kernel_rfl) (by simp) ?_
        refine AllReadyH.cons rfl (fun K hK => ?_) (AllReadyH.nil)
        go_simp
        rw [← hZe]
        refine hK.out _ _ (HS.out _ hbVZe) (fun hHeld => ?_)
        clear hK K hZe e1 e2
        refine wpAnyH_done (by kernel_rfl) ?_ _
        clear hHeld
        have hM := HM.out
        rw [hM] at hrZe
        obtain ⟨qe, ce', he1, hAL, hAl, hAm⟩ := acts_of_row hrZe (fun x hx => by
          rcases List.mem_append.1 hx with hx | hx
          · exact HXP.out x hx Ze hbVZe
          · rw [List.mem_singleton.1 hx]; exact HAC.out.up hbVZe)
        rw [← hM] at he1 hAl
        injection he1 with e1 _ e2
        subst e1 e2
        rw [List.map_append, HXM.out] at hAL
        have hML : (s.acs ++ [a]).length = M := by rw [hM, List.length_append, List.length_append, HXN.out]; rfl
        have hSAe : SA Ze ⟨s.ks, s.acs ++ [a]⟩ pk ck qZd cZd := ⟨HSA.out.ks.up hbVZe, HSA.out.kl, HSA.out.km, hAL, by rw [hML]; exact hAl, hAm⟩
        have HSE : Hid (SA Ze ⟨s.ks, s.acs ++ [a]⟩ pk ck qZd cZd) := hSAe
        have HWE : Hid (Blk Ze w5.heap.size #[.slice pk s.ks.length ck, .slice qZd M cZd] 37) := hWe
        have HC := scheck_any _ _ _ _ _ Ze hSAe
        have HAS := fun W (hW : Below V.heap.size V W) => sasks_any s q pk pa pq ck ca cq W (HSA.out.up hW) ⟨HRQ.out.u0, HRQ.out.u1, HRQ.out.u2, HRQ.out.nl.up hW, HRQ.out.le, HRQ.out.cm⟩
        have HAM := fun W (hW : Below V.heap.size V W) (hE : Below Ze.heap.size Ze W) => sasks_any ⟨s.ks, s.acs ++ [a]⟩ q pk qZd pq ck cZd cq W (HSE.out.up hE) ⟨HRQ.out.u0, HRQ.out.u1, HRQ.out.u2, HRQ.out.nl.up hW, HRQ.out.le, HRQ.out.cm⟩
        unfold scV at HC HAS HAM
        unfold reqV at HAS HAM
        rw [hML] at HC HAM
        have HMO : Hid (asks s q = 0 → scf ⟨s.ks, s.acs ++ [a]⟩ = 0 → asks ⟨s.ks, s.acs ++ [a]⟩ q = 0) := fun h1 h2 => asks_more h1 h2
        clear hAL hAl hAm hSAe hrZe hM hML hWe hKe HX8 HXN HXC HXP HXM HS
        have z0 : Ze.cell? ⟨w5.heap.size, 0, none⟩ = some (.slice pk s.ks.length ck) := HWE.out.cell 0
        have z1 : Ze.cell? ⟨w5.heap.size, 1, none⟩ = some (.slice qZd M cZd) := HWE.out.cell 1
        by_cases h0 : scf ⟨s.ks, s.acs ++ [a]⟩ = 0
        · rw [eV_nil h0] at HC
          go_wp2_with fail
          refine HC.mono ?_
          rintro _ w7 ⟨rfl, hb7⟩
          have hb07 := kqt hbVZe hb7
          have r0 : w7.cell? ⟨w.heap.size, 0, none⟩ = some (.slice pk s.ks.length ck) := (HB0.out.up hb07).cell 0
          have r1 : w7.cell? ⟨w.heap.size, 1, none⟩ = some (.slice pa s.acs.length ca) := (HB0.out.up hb07).cell 1
          have t0 : w7.cell? ⟨w.heap.size + 1, 0, none⟩ = some (.string q.who.t) := (HB1.out.up hb07).cell 0
          have t1 : w7.cell? ⟨w.heap.size + 1, 1, none⟩ = some (.string q.who.i) := (HB1.out.up hb07).cell 1
          have t2 : w7.cell? ⟨w.heap.size + 1, 2, none⟩ = some (.string q.act.t) := (HB1.out.up hb07).cell 2
          have t3 : w7.cell? ⟨w.heap.size + 1, 3, none⟩ = some (.string q.act.i) := (HB1.out.up hb07).cell 3
          have t4 : w7.cell? ⟨w.heap.size + 1, 4, none⟩ = some (.string q.what.t) := (HB1.out.up hb07).cell 4
          have t5 : w7.cell? ⟨w.heap.size + 1, 5, none⟩ = some (.string q.what.i) := (HB1.out.up hb07).cell 5
          have t6 : w7.cell? ⟨w.heap.size + 1, 6, none⟩ = some (.slice pq q.cx.length cq) := (HB1.out.up hb07).cell 6
          by_cases h1 : asks s q = 0
          · rw [eV_nil h1] at HAS
            rw [eV_nil (HMO.out h1 h0)] at HAM
            clear h0 h1 HMO HC z0 z1
            go_wp2_with fail
            refine (HAS _ hb07).mono ?_
            rintro _ w8 ⟨rfl, hb8⟩
            have hbe8 := kqt hb7 hb8
            have hb08 := kqt hb07 hb8
            clear r0 r1 t0 t1 t2 t3 t4 t5 t6
            have z0 : w8.cell? ⟨w5.heap.size, 0, none⟩ = some (.slice pk s.ks.length ck) := (HWE.out.up hbe8).cell 0
            have z1 : w8.cell? ⟨w5.heap.size, 1, none⟩ = some (.slice qZd M cZd) := (HWE.out.up hbe8).cell 1
            have t0 : w8.cell? ⟨w.heap.size + 1, 0, none⟩ = some (.string q.who.t) := (HB1.out.up hb08).cell 0
            have t1 : w8.cell? ⟨w.heap.size + 1, 1, none⟩ = some (.string q.who.i) := (HB1.out.up hb08).cell 1
            have t2 : w8.cell? ⟨w.heap.size + 1, 2, none⟩ = some (.string q.act.t) := (HB1.out.up hb08).cell 2
            have t3 : w8.cell? ⟨w.heap.size + 1, 3, none⟩ = some (.string q.act.i) := (HB1.out.up hb08).cell 3
            have t4 : w8.cell? ⟨w.heap.size + 1, 4, none⟩ = some (.string q.what.t) := (HB1.out.up hb08).cell 4
            have t5 : w8.cell? ⟨w.heap.size + 1, 5, none⟩ = some (.string q.what.i) := (HB1.out.up hb08).cell 5
            have t6 : w8.cell? ⟨w.heap.size + 1, 6, none⟩ = some (.slice pq q.cx.length cq) := (HB1.out.up hb08).cell 6
            go_wp2_with fail
            refine (HAM _ hb08 hbe8).mono ?_
            rintro _ w9 ⟨rfl, hb9⟩
            go_wp2
            go_ret
            exact ⟨rfl, kqt hbV (kqt hb08 hb9)⟩
          · rw [eV_not h1] at HAS
            clear h0 h1 HMO HC z0 z1 HAM
            generalize asks s q = n at *
            go_wp2_with fail
            refine (HAS _ hb07).mono ?_
            rintro _ w8 ⟨rfl, hb8⟩
            go_wp2
            go_ret
            exact ⟨rfl, kqt hbV (kqt hb07 hb8)⟩
        · rw [eV_not h0] at HC
          clear h0 HMO HAS HAM
          generalize scf ⟨s.ks, s.acs ++ [a]⟩ = n at *
          go_wp2_with fail
          refine HC.mono ?_
          rintro _ w7 ⟨rfl, hb7⟩
          go_wp2
          go_ret
          exact ⟨rfl, kqt hbV (kqt hbVZe hb7)⟩
  · rw [eV_not h0] at HC
    clear h0
    generalize scf s = n at *
    go_wp2_with fail
    refine HC.mono ?_
    rintro _ w3 ⟨rfl, hb3⟩
    go_wp2
    go_ret
    exact ⟨rfl, kqt hbV (kqt hb2 hb3)⟩
end Go.Proofs.YtpcikfpldmackaaDoor
