/- EvalBelow: the walk of the statement's own function. -/
import Derived.Test.YtglhjhbhijekjabGreatDoorEsetsWalk
import Derived.Test.YtglhjhbhijekjabGreatDoorG17
import Derived.Test.YtglhjhbhijekjabGreatDoorG22
import Derived.Test.YtglhjhbhijekjabGreatDoorG38
namespace Go.Proofs.YtglhjhbhijekjabGreatDoor
open Go.RowKit
set_option linter.unusedVariables false
set_option maxRecDepth 100000

/-- A uid in a block of its own. -/
structure UB (w : World) (B : Nat) (u : Ui) : Prop where
  blk : w.heap[B]? = some (.cells #[.string u.t, .string u.i] 24 (0, 0))
theorem UB.lt {w : World} {B : Nat} {u : Ui} (h : UB w B u) : B < w.heap.size := (Array.getElem?_eq_some_iff.1 h.blk).1
theorem UB.up {w w' : World} {B : Nat} {u : Ui} (h : UB w B u) (hb : Below w.heap.size w w') : UB w' B u := ⟨(hb.block B h.lt).trans h.blk⟩
theorem UB.cells {w : World} {B : Nat} {u : Ui} (h : UB w B u) : w.cell? ⟨B, 0, none⟩ = some (.string u.t) ∧ w.cell? ⟨B, 1, none⟩ = some (.string u.i) := by
  have := h.blk
  simp [World.cell?, this]
theorem QU.cells {w : World} {B : Nat} {q : Rq} {pq : Option Addr} {cq : Nat} {C : Nat} {u : Ui} (h : QB w B q pq cq) (k : UB w C u) :
    w.cell? ⟨B, 0, none⟩ = some (.string q.who.t) ∧ w.cell? ⟨B, 1, none⟩ = some (.string q.who.i) ∧ w.cell? ⟨B, 2, none⟩ = some (.string q.act.t) ∧ w.cell? ⟨B, 3, none⟩ = some (.string q.act.i) ∧ w.cell? ⟨B, 4, none⟩ = some (.string q.what.t) ∧ w.cell? ⟨B, 5, none⟩ = some (.string q.what.i) ∧ w.cell? ⟨B, 6, none⟩ = some (.slice pq q.cx.length cq) ∧ w.cell? ⟨C, 0, none⟩ = some (.string u.t) ∧ w.cell? ⟨C, 1, none⟩ = some (.string u.i) := by
  obtain ⟨h0, h1, h2, h3, h4, h5, h6⟩ := h.cells
  exact ⟨h0, h1, h2, h3, h4, h5, h6, k.cells⟩
theorem uidB_any (u : Ui) (w : World) (h : UOk u) : Calls Tryz.prog 13 #[.agg #[.string u.t, .string u.i]] w fun e w' => e = .returned (.int .i64 (uf u)) ∧ Below w.heap.size w w' := uidFault_any u.t u.i w h.1 h.2
theorem inn_any (es : List En) (p : Option Addr) (c : Nat) (a b : Ui) (w : World) (hl : EL w p es) (ha : UOk a) (hb : UOk b) (hs : stf es = 0) :
    Calls Tryz.prog 15 #[.slice p es.length c, .agg #[.string a.t, .string a.i], .agg #[.string b.t, .string b.i]] w fun e w' => ∃ r : Bool, e = .returned (.tuple #[.bool r, .nilIface]) ∧ (r = true ↔ Inn es a b) ∧ Below w.heap.size w w' := by
  refine (in_any es p c a b w hl ha hb).mono ?_
  rintro e w' ⟨h, hb⟩
  rcases h with ⟨_, r, h1, h2⟩ | ⟨h, _⟩
  · exact ⟨r, h1, h2, hb⟩
  · exact absurd hs h
theorem take_more {us : List Ui} {k : Nat} (h : k < us.length) : us.take (k + 1) = us.take k ++ [us[k]] := List.take_succ_eq_append_getElem h
set_option maxHeartbeats 4000000 in
theorem ebelow_walk (es : List En) (ps : Option Addr) (cs : Nat) (q : Rq) (pq : Option Addr) (cq : Nat) (u : Ui) (us : List Ui) (pt : Option Addr) (ct : Nat) (w : World)
    (ha : EvArg w es ps q pq cq) (hu : UOk u) (ht : UL w pt us) (hto : ∀ x ∈ us, UOk x) (htl : us.length ≤ maxLen) :
    Calls Tryz.prog 4 #[.slice ps es.length cs, reqV q pq cq, .agg #[.string u.t, .string u.i], .slice pt us.length ct] w fun e w' => e = .returned (.bool true) ∧ Below w.heap.size w w' := by
  obtain ⟨W, hW⟩ : ∃ W, W = (w.alloc (.cells #[.string q.who.t, .string q.who.i, .string q.act.t, .string q.act.i, .string q.what.t, .string q.what.i, .slice pq q.cx.length cq] 27)).alloc (.cells #[.string u.t, .string u.i] 24) := ⟨_, rfl⟩
  have hb_0 : Below w.heap.size w W := by rw [hW]; exact ((Below.refl _ _).alloc (Nat.le_refl _) _).alloc (by simp) _
  have hq_0 : QB W w.heap.size q pq cq := by rw [hW]; exact (QB.new w q pq cq).up ((Below.refl _ _).alloc (Nat.le_refl _) _)
  have hu_0 : UB W (w.heap.size + 1) u := by rw [hW]; exact ⟨new_at (by simp)⟩
  have ha_0 := ha.up hb_0
  have ht_0 := ht.up hb_0
  have hml : (us.length : Int) ≤ 9223372036854775807 := by unfold maxLen at htl; omega
  clear ha ht
  have HE := fun w1 hl1 => entCheck_any es ps cs w1 hl1
  have HA := fun w1 h1 => ask_any q pq cq w1 h1
  have HU := fun w1 => uidB_any u w1 hu
  unfold reqV at HA ⊢
  by_cases h20 : us.length ≤ 20
  · have i0 : ¬ (20 : Int) < (us.length : Int) := by omega
    by_cases k1 : stf es = 0
    · rw [eV_nil k1] at HE
      by_cases k2 : askf q = 0
      · rw [eV_nil k2] at HA
        by_cases k3 : uf u = 0
        · rw [k3] at HU
          have HLAW : Hid (∀ (h : ∀ t ∈ us, uf t = 0) (b : Bool), (b = true ↔ ∃ t ∈ us, Inn es u t) → valueL es q (oN 20 :: (uN u ++ sN (us.map uN))) = .ok (tN b)) := fun h b hb => by
            classical
            rw [below_law k1 k2 k3 h h20]
            congr 2
            rw [Bool.eq_iff_iff, hb, decide_eq_true_iff]
          have HIN := fun w1 hl1 (b : Ui) (hb : UOk b) => inn_any es ps cs u b w1 hl1 hu hb k1
          have HK3 : Hid (uf u = 0) := k3
          clear k1 k2 k3
          go_enter Tryz.func4, Tryz.ntmps4
          obtain ⟨x0, x1, x2, x3, x4, x5, x6⟩ := hq_0.cells
          obtain ⟨y0, y1⟩ := hu_0.cells
          go_wp2_with fail
          rw [← hW]
          clear hW
          refine (lfact_any _ ha_0.er).mono ?_
          rintro _ w1 ⟨rfl, hbb⟩
          have hb_1 := qbt hb_0 hbb
          have hq_1 := hq_0.up hbb
          have hu_1 := hu_0.up hbb
          have ha_1 := ha_0.up hbb
          have ht_1 := ht_0.up hbb
          clear x0 x1 x2 x3 x4 x5 x6 y0 y1 hbb hb_0 hq_0 hu_0 ha_0 ht_0
          obtain ⟨x0, x1, x2, x3, x4, x5, x6⟩ := hq_1.cells
          obtain ⟨y0, y1⟩ := hu_1.cells
          go_wp2_with fail
          refine (HE _ ha_1.el).mono ?_
          rintro _ w2 ⟨rfl, hbb⟩
          have hb_2 := qbt hb_1 hbb
          have hq_2 := hq_1.up hbb
          have hu_2 := hu_1.up hbb
          have ha_2 := ha_1.up hbb
          have ht_2 := ht_1.up hbb
          clear x0 x1 x2 x3 x4 x5 x6 y0 y1 hbb hb_1 hq_1 hu_1 ha_1 ht_1
          obtain ⟨x0, x1, x2, x3, x4, x5, x6⟩ := hq_2.cells
          obtain ⟨y0, y1⟩ := hu_2.cells
          go_wp2_with fail
          refine (HA _ ha_2.rq).mono ?_
          rintro _ w3 ⟨rfl, hbb⟩
          have hb_3 := qbt hb_2 hbb
          have hq_3 := hq_2.up hbb
          have hu_3 := hu_2.up hbb
          have ha_3 := ha_2.up hbb
          have ht_3 := ht_2.up hbb
          clear x0 x1 x2 x3 x4 x5 x6 y0 y1 hbb hb_2 hq_2 hu_2 ha_2 ht_2
          obtain ⟨x0, x1, x2, x3, x4, x5, x6⟩ := hq_3.cells
          obtain ⟨y0, y1⟩ := hu_3.cells
          go_wp2_with fail
          refine (HU _).mono ?_
          rintro _ w4 ⟨rfl, hbb⟩
          have hb_4 := qbt hb_3 hbb
          have hq_4 := hq_3.up hbb
          have hu_4 := hu_3.up hbb
          have ha_4 := ha_3.up hbb
          have ht_4 := ht_3.up hbb
          clear x0 x1 x2 x3 x4 x5 x6 y0 y1 hbb hb_3 hq_3 hu_3 ha_3 ht_3
          go_wp2_with fail
          have hbL : Below w4.heap.size w4 (w4.alloc (.cells #[.int .i64 5, .int .i64 us.length, .string ⟨#[]⟩, .string ⟨#[]⟩] 34)) := (Below.refl _ _).alloc (Nat.le_refl _) _
          go_loopw [10, 11, 12] (fun sv wv i wr => ∃ (k : Nat) (wt : Bool), k ≤ us.length ∧ i = .int .i64 k ∧ wv = .bool wt ∧ ON wr w4.heap.size sv (sx us.length :: ((us.take k).map uN).flatten) ∧ Hid (wt = true ↔ ∃ t ∈ us.take k, Inn es u t) ∧ Hid (∀ t ∈ us.take k, uf t = 0) ∧ Below w4.heap.size w4 wr) (fun _ _ i _ => us.length - (intOf i).toNat)
          case atStart => exact ⟨0, false, Nat.zero_le _, rfl, rfl, ON.lit1 w4 (sx us.length) (sx_wf hml), by simp [Hid], by simp [Hid], hbL⟩
          case round =>
            rename World => wr
            obtain ⟨k, wt, hk, rfl, rfl, hon, HW, HZ, hbr⟩ := hrel
            have hqr := hq_4.up hbr
            have hur := hu_4.up hbr
            have har := ha_4.up hbr
            obtain ⟨x0, x1, x2, x3, x4, x5, x6⟩ := hqr.cells
            obtain ⟨y0, y1⟩ := hur.cells
            by_cases hlt : k < us.length
            · have i1 : (k : Int) < (us.length : Int) := by omega
              obtain ⟨bt, ot, rfl, hbt, s0, s1⟩ := ht_4.at hlt
              have hok := hto us[k] (List.getElem_mem hlt)
              have HTM : Hid (us.take (k + 1) = us.take k ++ [us[k]]) := take_more hlt
              have HUT := fun w1 => uidB_any us[k] w1 hok
              have HIT := fun w1 hl1 => HIN w1 hl1 us[k] hok
              have HENT := fun w1 (hz : uf us[k] = 0) => refEntOf_any w1 us[k] hz
              generalize us[k] = t at *
              obtain ⟨tt, ti⟩ := t
              dsimp only at s0 s1 HUT HIT HENT
              have t0 := (hbr.cell (p := ⟨bt, ot + k * 2, none⟩) hbt).trans s0
              have t1 := (hbr.cell (p := ⟨bt, ot + k * 2 + 1, none⟩) hbt).trans s1
              by_cases hz : uf ⟨tt, ti⟩ = 0
              · rw [hz] at HUT
                have HE1 := fun w1 => HENT w1 hz
                have HO : Hid (ON wr w4.heap.size u10 (sx us.length :: ((us.take k).map uN).flatten)) := hon
                have HT2 : Hid (((us.take (k + 1)).map uN).flatten = ((us.take k).map uN).flatten ++ uN ⟨tt, ti⟩) := by show _ = _; rw [HTM.out]; simp
                have hfl : ((us.take k).map uN).flatten.length ≤ 20 := by
                  rw [flat_ones (fun v hv => by obtain ⟨x, _, rfl⟩ := List.mem_map.1 hv; rfl)]
                  simp
                  omega
                clear hon HENT
                go_wp2_with fail
                refine (HUT _).mono ?_
                rintro _ w5 ⟨rfl, hb5⟩
                have hq5 := hqr.up hb5
                have hu5 := hur.up hb5
                have ha5 := har.up hb5
                have hb45 := qbt hbr hb5
                have t05 := (hb45.cell (p := ⟨bt, ot + k * 2, none⟩) hbt).trans s0
                have t15 := (hb45.cell (p := ⟨bt, ot + k * 2 + 1, none⟩) hbt).trans s1
                have HO5 : Hid (ON w5 _ _ _) := HO.out.below hb5
                clear x0 x1 x2 x3 x4 x5 x6 y0 y1 t0 t1 hqr hur har
                go_wp2_with fail
                refine (HE1 _).mono ?_
                rintro _ w6 ⟨⟨qe, de, rfl, he⟩, hb6⟩
                obtain ⟨be, oe, rfl⟩ := nl_some he.nl he.is.ne
                have hq6 := hq5.up hb6
                have hu6 := hu5.up hb6
                have ha6 := ha5.up hb6
                have hb46 := qbt hb45 hb6
                have HO6 : Hid (ON w6 _ _ _) := HO5.out.below hb6
                have hs6 : w4.heap.size ≤ w6.heap.size := Nat.le_trans hbr.size (Nat.le_trans hb5.size hb6.size)
                have hnl6 := he.nl
                clear t05 t15 hq5 hu5 ha5
                go_wp2_with (first
                  | (at_builtin
                     refine append_nodes w6 rfl (.tmp 55) (.tmp 60) rfl w4.heap.size u10 _ rfl HO6.out (uN ⟨tt, ti⟩) 1 rfl be oe de hnl6 rfl (by rw [List.length_cons]; show _ + 1 + 1 ≤ _; omega) hs6 ?_
                     intro v7 w7 ho7 hk7
                     have hb47 : Below w4.heap.size w4 w7 := hb46.trans hk7.bel
                     have t07 := (hb47.cell (p := ⟨bt, ot + k * 2, none⟩) hbt).trans s0
                     have t17 := (hb47.cell (p := ⟨bt, ot + k * 2 + 1, none⟩) hbt).trans s1
                     obtain ⟨x0, x1, x2, x3, x4, x5, x6⟩ := (hq_4.up hb47).cells
                     obtain ⟨y0, y1⟩ := (hu_4.up hb47).cells
                     have hbd : Below w7.heap.size w7 w7.drew := (Below.refl _ _).drew))
                go_region_with (go_at_call 15; refine (HIT _ ((ha_4.up hb47).up hbd).el).mono ?_; rintro _ w8 ⟨rr, rfl, hrr, hb8⟩)
                all_goals
                  have hb48 : Below w4.heap.size w4 w8 := qbt hb47 (qbt hbd hb8)
                  have HON : Hid (ON w8 w4.heap.size v7 (sx us.length :: ((us.take (k + 1)).map uN).flatten)) := by
                    show ON _ _ _ _
                    rw [HT2.out]
                    exact (ho7.below (qbt hbd hb8))
                  have HZ2 : Hid (∀ t ∈ us.take (k + 1), uf t = 0) := by
                    intro t ht
                    rw [HTM.out] at ht
                    rcases List.mem_append.1 ht with ht | ht
                    · exact HZ.out t ht
                    · simp only [List.mem_singleton] at ht; subst ht; exact hz
                  have HRR : Hid (rr = true ↔ Inn es u ⟨tt, ti⟩) := hrr
                  clear hrr
                  cases rr with
                  | true =>
                    have HW2 : Hid (true = true ↔ ∃ t ∈ us.take (k + 1), Inn es u t) := by
                      show _ ↔ _
                      rw [HTM.out]
                      exact ⟨fun _ => ⟨_, List.mem_append_right _ (List.mem_singleton.2 rfl), HRR.out.1 rfl⟩, fun _ => rfl⟩
                    clear HW HZ hz HRR
                    go_wp2_with fail
                    go_roundw
                    case rel => exact ⟨k + 1, true, by omega, by go_num, rfl, HON.out, HW2, HZ2, hb48⟩
                    case measure => simp [intOf]; omega
                  | false =>
                    have HW2 : Hid (wt = true ↔ ∃ t ∈ us.take (k + 1), Inn es u t) := by
                      show _ ↔ _
                      rw [HTM.out, HW.out]
                      constructor
                      · rintro ⟨t, h1, h2⟩; exact ⟨t, List.mem_append_left _ h1, h2⟩
                      · rintro ⟨t, h1, h2⟩
                        rcases List.mem_append.1 h1 with h1 | h1
                        · exact ⟨t, h1, h2⟩
                        · simp only [List.mem_singleton] at h1; subst h1; exact absurd (HRR.out.2 h2) (by decide)
                    clear HW HZ hz HRR
                    go_wp2_with fail
                    go_roundw
                    case rel => exact ⟨k + 1, wt, by omega, by go_num, rfl, HON.out, HW2, HZ2, hb48⟩
                    case measure => simp [intOf]; omega
              · have n0 : (uf ⟨tt, ti⟩ != 0) = true := by simpa using hz
                clear hz HENT HIT
                generalize uf (⟨tt, ti⟩ : Ui) = n at HUT n0
                go_wp2_with fail
                refine (HUT _).mono ?_
                rintro _ w5 ⟨rfl, hb5⟩
                go_wp2_with fail
                go_ret
                exact ⟨rfl, qbt hb_4 (qbt hbr hb5)⟩
            · have i1 : ¬ (k : Int) < (us.length : Int) := by omega
              obtain rfl : k = us.length := by omega
              have HZ2 : Hid (∀ t ∈ us, uf t = 0) := fun t ht => HZ.out t (by rw [List.take_length]; exact ht)
              have HW2 : Hid (wt = true ↔ ∃ t ∈ us, Inn es u t) := by have := HW.out; rw [List.take_length] at this; exact this
              have HV : Hid (_ = _) := HLAW.out HZ2.out wt HW2.out
              rw [List.take_length] at hon
              clear HW HZ HW2 HLAW
              have hn64 : N64 (sN (us.map uN)) := sx_64 (flat_N64 (fun v hv => by obtain ⟨t, ht, rfl⟩ := List.mem_map.1 hv; exact (uN_is (HZ2.out t ht)).num))
              have hsl : (sN (us.map uN)).length = us.length + 1 := by show (_ :: (us.map uN).flatten).length = _; rw [List.length_cons, flat_ones (fun v hv => by obtain ⟨x, _, rfl⟩ := List.mem_map.1 hv; rfl), List.length_map]
              obtain ⟨g9, c9, rfl, hS_9⟩ := on_arg hon (L' := sN (us.map uN)) (n := us.length + 1) (by unfold sN sx; rw [List.length_map]) hsl hn64 (by simp [sN])
              have hSne : Hid (sN (us.map uN) ≠ []) := by simp [Hid, sN]
              clear hon hn64 hsl HZ2
              have hq_9 := hqr
              have hU_9 := hur
              have ha_9 := har
              have hb_9 := qbt hb_4 hbr
              clear hqr har hur hbr y0 y1 x0 x1 x2 x3 x4 x5 x6
              generalize sN (us.map uN) = SS at *
              go_wp2_with fail
              go_region_held (fun w' => w'.cell? ⟨w.heap.size, 0, none⟩ = some (.string q.who.t) ∧ w'.cell? ⟨w.heap.size, 1, none⟩ = some (.string q.who.i) ∧ w'.cell? ⟨w.heap.size, 2, none⟩ = some (.string q.act.t) ∧ w'.cell? ⟨w.heap.size, 3, none⟩ = some (.string q.act.i) ∧ w'.cell? ⟨w.heap.size, 4, none⟩ = some (.string q.what.t) ∧ w'.cell? ⟨w.heap.size, 5, none⟩ = some (.string q.what.i) ∧ w'.cell? ⟨w.heap.size, 6, none⟩ = some (.slice pq q.cx.length cq) ∧ w'.cell? ⟨w.heap.size + 1, 0, none⟩ = some (.string u.t) ∧ w'.cell? ⟨w.heap.size + 1, 1, none⟩ = some (.string u.i)) (first | exact QU.cells (QB.up hq_12 (by repeat (first | exact Below.refl _ _ | apply qbA | apply qbD))) (UB.up hU_12 (by repeat (first | exact Below.refl _ _ | apply qbA | apply qbD))) | exact QU.cells (QB.up hq_11 (by repeat (first | exact Below.refl _ _ | apply qbA | apply qbD))) (UB.up hU_11 (by repeat (first | exact Below.refl _ _ | apply qbA | apply qbD))) | exact QU.cells (QB.up hq_10 (by repeat (first | exact Below.refl _ _ | apply qbA | apply qbD))) (UB.up hU_10 (by repeat (first | exact Below.refl _ _ | apply qbA | apply qbD))) | exact QU.cells (QB.up hq_9 (by repeat (first | exact Below.refl _ _ | apply qbA | apply qbD))) (UB.up hU_9 (by repeat (first | exact Below.refl _ _ | apply qbA | apply qbD)))) (first
                | (go_at_call 14
                   refine (refEntOf_any _ u HK3.out).mono ?_
                   rintro _ w10 ⟨⟨zq, zc, rfl, zl⟩, hbb_10⟩
                   have hbk_10 : Below wr.heap.size wr w10 := qbt (by repeat (first | exact Below.refl _ _ | apply qbA | apply qbD)) hbb_10
                   have hb_10 := qbt hb_9 hbk_10
                   have hq_10 := hq_9.up hbk_10
                   have hU_10 := hU_9.up hbk_10
                   have ha_10 := ha_9.up hbk_10
                   have hS_10 := hS_9.up hbk_10
                   have zu_10 := (VArg.l zl)
                   clear hb_9 hq_9 hU_9 ha_9 hS_9)
                | (go_at_call 8
                   refine (op2_at 20 (by decide) zu_10 (by simp [uN]) (by omega) hS_10 hSne.out (by omega) (by first | exact LL2 (LArg.up zu_10 (by repeat (first | exact Below.refl _ _ | apply qbA | apply qbD))) (LArg.up hS_10 (by repeat (first | exact Below.refl _ _ | apply qbA | apply qbD))) (by simp) | ((first | refine LL.up ?_ ((Below.refl _ _).alloc (Nat.le_refl _) _) | refine LL.up ?_ (Below.refl _ _).drew); exact LL2 (LArg.up zu_10 (by repeat (first | exact Below.refl _ _ | apply qbA | apply qbD))) (LArg.up hS_10 (by repeat (first | exact Below.refl _ _ | apply qbA | apply qbD))) (by simp)) | ((first | refine LL.up ?_ ((Below.refl _ _).alloc (Nat.le_refl _) _) | refine LL.up ?_ (Below.refl _ _).drew); (first | refine LL.up ?_ ((Below.refl _ _).alloc (Nat.le_refl _) _) | refine LL.up ?_ (Below.refl _ _).drew); exact LL2 (LArg.up zu_10 (by repeat (first | exact Below.refl _ _ | apply qbA | apply qbD))) (LArg.up hS_10 (by repeat (first | exact Below.refl _ _ | apply qbA | apply qbD))) (by simp)) | ((first | refine LL.up ?_ ((Below.refl _ _).alloc (Nat.le_refl _) _) | refine LL.up ?_ (Below.refl _ _).drew); (first | refine LL.up ?_ ((Below.refl _ _).alloc (Nat.le_refl _) _) | refine LL.up ?_ (Below.refl _ _).drew); (first | refine LL.up ?_ ((Below.refl _ _).alloc (Nat.le_refl _) _) | refine LL.up ?_ (Below.refl _ _).drew); exact LL2 (LArg.up zu_10 (by repeat (first | exact Below.refl _ _ | apply qbA | apply qbD))) (LArg.up hS_10 (by repeat (first | exact Below.refl _ _ | apply qbA | apply qbD))) (by simp)))).mono ?_
                   rintro _ w11 ⟨⟨t1q, t1c, rfl, t1l⟩, hbb_11⟩
                   have hbk_11 : Below w10.heap.size w10 w11 := qbt (by repeat (first | exact Below.refl _ _ | apply qbA | apply qbD)) hbb_11
                   have hb_11 := qbt hb_10 hbk_11
                   have hq_11 := hq_10.up hbk_11
                   have hU_11 := hU_10.up hbk_11
                   have ha_11 := ha_10.up hbk_11
                   have hS_11 := hS_10.up hbk_11
                   have zu_11 := zu_10.up hbk_11
                   have t1_11 := t1l
                   clear hb_10 hq_10 hU_10 ha_10 hS_10 zu_10)
                | (go_at_call 6
                   refine (evalue_arg cs _ (EvArg.up ha_11 (by repeat (first | exact Below.refl _ _ | apply qbA | apply qbD))) (LArg.up t1_11 (by repeat (first | exact Below.refl _ _ | apply qbA | apply qbD))) HV.out).mono ?_
                   rintro _ w12 ⟨⟨r4v, r4f, rfl, r4l⟩, hbb_12⟩
                   have hbk_12 : Below w11.heap.size w11 w12 := qbt (by repeat (first | exact Below.refl _ _ | apply qbA | apply qbD)) hbb_12
                   have hb_12 := qbt hb_11 hbk_12
                   have hq_12 := hq_11.up hbk_12
                   have hU_12 := hU_11.up hbk_12
                   have ha_12 := ha_11.up hbk_12
                   have hS_12 := hS_11.up hbk_12
                   have zu_12 := zu_11.up hbk_12
                   have t1_12 := t1_11.up hbk_12
                   have r4_12 := r4l
                   clear hb_11 hq_11 hU_11 ha_11 hS_11 zu_11 t1_11))
              all_goals
                clear hU_12 hS_12 zu_12 t1_12
                obtain ⟨q4, c4, rfl, rfl, h4⟩ := r4_12
                have h4_12 := h4
                clear h4
                obtain ⟨x0, x1, x2, x3, x4, x5, x6⟩ := hq_12.cells
                go_wp2_with fail
                refine (refTruth_any _ wt).mono ?_
                rintro _ w13 ⟨⟨qt, cu, rfl, htl⟩, hbb⟩
                clear x0 x1 x2 x3 x4 x5 x6
                have hb_13 := qbt hb_12 hbb
                have hq_13 := hq_12.up hbb
                have ha_13 := ha_12.up hbb
                have h4_13 := h4_12.up hbb
                clear hbb hb_12 hq_12 ha_12 h4_12
                have ht_13 := htl
                clear htl
                obtain ⟨x0, x1, x2, x3, x4, x5, x6⟩ := hq_13.cells
                go_wp2_with fail
                refine (sameO (a := tN wt) rfl c4 cu _ h4_13.nl ht_13.nl (by cases wt <;> decide)).mono ?_
                rintro _ w14 ⟨rfl, hbb⟩
                clear x0 x1 x2 x3 x4 x5 x6
                have hb_14 := qbt hb_13 hbb
                have hq_14 := hq_13.up hbb
                have ha_14 := ha_13.up hbb
                have h4_14 := h4_13.up hbb
                have ht_14 := ht_13.up hbb
                clear hbb hb_13 hq_13 ha_13 h4_13 ht_13
                obtain ⟨x0, x1, x2, x3, x4, x5, x6⟩ := hq_14.cells
                go_wp2_with fail
                go_ret
                exact ⟨rfl, hb_14⟩
        · have n0 : (uf u != 0) = true := by simpa using k3
          clear k1 k2 k3
          generalize uf u = n at HU n0
          go_enter Tryz.func4, Tryz.ntmps4
          obtain ⟨x0, x1, x2, x3, x4, x5, x6⟩ := hq_0.cells
          obtain ⟨y0, y1⟩ := hu_0.cells
          go_wp2_with fail
          rw [← hW]
          clear hW
          refine (lfact_any _ ha_0.er).mono ?_
          rintro _ w1 ⟨rfl, hbb⟩
          have hb_1 := qbt hb_0 hbb
          have hq_1 := hq_0.up hbb
          have hu_1 := hu_0.up hbb
          have ha_1 := ha_0.up hbb
          clear x0 x1 x2 x3 x4 x5 x6 y0 y1 hbb hb_0 hq_0 hu_0 ha_0
          obtain ⟨x0, x1, x2, x3, x4, x5, x6⟩ := hq_1.cells
          obtain ⟨y0, y1⟩ := hu_1.cells
          go_wp2_with fail
          refine (HE _ ha_1.el).mono ?_
          rintro _ w2 ⟨rfl, hbb⟩
          have hb_2 := qbt hb_1 hbb
          have hq_2 := hq_1.up hbb
          have hu_2 := hu_1.up hbb
          have ha_2 := ha_1.up hbb
          clear x0 x1 x2 x3 x4 x5 x6 y0 y1 hbb hb_1 hq_1 hu_1 ha_1
          obtain ⟨x0, x1, x2, x3, x4, x5, x6⟩ := hq_2.cells
          obtain ⟨y0, y1⟩ := hu_2.cells
          go_wp2_with fail
          refine (HA _ ha_2.rq).mono ?_
          rintro _ w3 ⟨rfl, hbb⟩
          have hb_3 := qbt hb_2 hbb
          have hq_3 := hq_2.up hbb
          have hu_3 := hu_2.up hbb
          have ha_3 := ha_2.up hbb
          clear x0 x1 x2 x3 x4 x5 x6 y0 y1 hbb hb_2 hq_2 hu_2 ha_2
          obtain ⟨x0, x1, x2, x3, x4, x5, x6⟩ := hq_3.cells
          obtain ⟨y0, y1⟩ := hu_3.cells
          go_wp2_with fail
          refine (HU _).mono ?_
          rintro _ w4 ⟨rfl, hbb⟩
          have hb_4 := qbt hb_3 hbb
          have hq_4 := hq_3.up hbb
          have hu_4 := hu_3.up hbb
          have ha_4 := ha_3.up hbb
          clear x0 x1 x2 x3 x4 x5 x6 y0 y1 hbb hb_3 hq_3 hu_3 ha_3
          obtain ⟨x0, x1, x2, x3, x4, x5, x6⟩ := hq_4.cells
          obtain ⟨y0, y1⟩ := hu_4.cells
          go_wp2_with fail
          go_ret
          exact ⟨rfl, hb_4⟩
      · rw [eV_not k2] at HA
        clear k1 k2
        generalize askf q = n at HA
        go_enter Tryz.func4, Tryz.ntmps4
        obtain ⟨x0, x1, x2, x3, x4, x5, x6⟩ := hq_0.cells
        obtain ⟨y0, y1⟩ := hu_0.cells
        go_wp2_with fail
        rw [← hW]
        clear hW
        refine (lfact_any _ ha_0.er).mono ?_
        rintro _ w1 ⟨rfl, hbb⟩
        have hb_1 := qbt hb_0 hbb
        have hq_1 := hq_0.up hbb
        have hu_1 := hu_0.up hbb
        have ha_1 := ha_0.up hbb
        clear x0 x1 x2 x3 x4 x5 x6 y0 y1 hbb hb_0 hq_0 hu_0 ha_0
        obtain ⟨x0, x1, x2, x3, x4, x5, x6⟩ := hq_1.cells
        obtain ⟨y0, y1⟩ := hu_1.cells
        go_wp2_with fail
        refine (HE _ ha_1.el).mono ?_
        rintro _ w2 ⟨rfl, hbb⟩
        have hb_2 := qbt hb_1 hbb
        have hq_2 := hq_1.up hbb
        have hu_2 := hu_1.up hbb
        have ha_2 := ha_1.up hbb
        clear x0 x1 x2 x3 x4 x5 x6 y0 y1 hbb hb_1 hq_1 hu_1 ha_1
        obtain ⟨x0, x1, x2, x3, x4, x5, x6⟩ := hq_2.cells
        obtain ⟨y0, y1⟩ := hu_2.cells
        go_wp2_with fail
        refine (HA _ ha_2.rq).mono ?_
        rintro _ w3 ⟨rfl, hbb⟩
        have hb_3 := qbt hb_2 hbb
        have hq_3 := hq_2.up hbb
        have hu_3 := hu_2.up hbb
        have ha_3 := ha_2.up hbb
        clear x0 x1 x2 x3 x4 x5 x6 y0 y1 hbb hb_2 hq_2 hu_2 ha_2
        obtain ⟨x0, x1, x2, x3, x4, x5, x6⟩ := hq_3.cells
        obtain ⟨y0, y1⟩ := hu_3.cells
        go_wp2_with fail
        go_ret
        exact ⟨rfl, hb_3⟩
    · rw [eV_not k1] at HE
      clear k1
      generalize stf es = n at HE
      go_enter Tryz.func4, Tryz.ntmps4
      obtain ⟨x0, x1, x2, x3, x4, x5, x6⟩ := hq_0.cells
      obtain ⟨y0, y1⟩ := hu_0.cells
      go_wp2_with fail
      rw [← hW]
      clear hW
      refine (lfact_any _ ha_0.er).mono ?_
      rintro _ w1 ⟨rfl, hbb⟩
      have hb_1 := qbt hb_0 hbb
      have hq_1 := hq_0.up hbb
      have hu_1 := hu_0.up hbb
      have ha_1 := ha_0.up hbb
      clear x0 x1 x2 x3 x4 x5 x6 y0 y1 hbb hb_0 hq_0 hu_0 ha_0
      obtain ⟨x0, x1, x2, x3, x4, x5, x6⟩ := hq_1.cells
      obtain ⟨y0, y1⟩ := hu_1.cells
      go_wp2_with fail
      refine (HE _ ha_1.el).mono ?_
      rintro _ w2 ⟨rfl, hbb⟩
      have hb_2 := qbt hb_1 hbb
      have hq_2 := hq_1.up hbb
      have hu_2 := hu_1.up hbb
      have ha_2 := ha_1.up hbb
      clear x0 x1 x2 x3 x4 x5 x6 y0 y1 hbb hb_1 hq_1 hu_1 ha_1
      obtain ⟨x0, x1, x2, x3, x4, x5, x6⟩ := hq_2.cells
      obtain ⟨y0, y1⟩ := hu_2.cells
      go_wp2_with fail
      go_ret
      exact ⟨rfl, hb_2⟩
  · have i0 : (20 : Int) < (us.length : Int) := by omega
    go_enter Tryz.func4, Tryz.ntmps4
    obtain ⟨x0, x1, x2, x3, x4, x5, x6⟩ := hq_0.cells
    obtain ⟨y0, y1⟩ := hu_0.cells
    go_wp2_with fail
    rw [← hW]
    clear hW
    refine (lfact_any _ ha_0.er).mono ?_
    rintro _ w1 ⟨rfl, hbb⟩
    have hb_1 := qbt hb_0 hbb
    have hq_1 := hq_0.up hbb
    have hu_1 := hu_0.up hbb
    have ha_1 := ha_0.up hbb
    clear x0 x1 x2 x3 x4 x5 x6 y0 y1 hbb hb_0 hq_0 hu_0 ha_0
    obtain ⟨x0, x1, x2, x3, x4, x5, x6⟩ := hq_1.cells
    obtain ⟨y0, y1⟩ := hu_1.cells
    go_wp2_with fail
    go_ret
    exact ⟨rfl, hb_1⟩
end Go.Proofs.YtglhjhbhijekjabGreatDoor
