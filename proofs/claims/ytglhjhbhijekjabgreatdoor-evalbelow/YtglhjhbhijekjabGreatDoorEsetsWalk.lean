/- EvalSets: the walk of the statement's own function. -/
import Derived.Test.YtglhjhbhijekjabGreatDoorG41
import Derived.Test.YtglhjhbhijekjabGreatDoorG22
namespace Go.Proofs.YtglhjhbhijekjabGreatDoor
open Go.RowKit
set_option linter.unusedVariables false
set_option maxRecDepth 100000

def sx (k : Int) : Nd := ⟨5, k, ⟨#[]⟩, ⟨#[]⟩⟩
theorem sx_wf {k : Int} (h : k ≤ 9223372036854775807) : (sx k).wf := ⟨Nat.zero_le _, Nat.zero_le _, h⟩
theorem sx_64 {k : Int} {a : List Nd} (h : N64 a) : N64 (sx k :: a) := fun x hx he => by
  rcases List.mem_cons.1 hx with rfl | hx
  · exact absurd he (by decide : ¬ (5 : Int) = 2)
  · exact h x hx he
theorem nl_some {w : World} {p : Option Addr} {a : List Nd} (h : NL w p a) (hne : a ≠ []) : ∃ b off, p = some ⟨b, off, none⟩ := by
  rcases h with h | ⟨b, off, h, _⟩
  · exact absurd h hne
  · exact ⟨b, off, h⟩
theorem sN2 (a b : List Nd) : sN [a, b] = sx 2 :: (a ++ b) := by unfold sN sx; simp
theorem sN3 (a b : List Nd) : sN [b, a, b] = sx 3 :: (b ++ (a ++ b)) := by unfold sN sx; simp
theorem on_slice {w : World} {base : Nat} {v : Value} {L : List Nd} {n : Nat} (h : ON w base v L) (hn : L.length = n) (hne : L ≠ []) : ∃ g cap, v = .slice (some ⟨g, 0, none⟩) n cap := by
  subst hn
  obtain ⟨g, cap, rfl, _⟩ := h.slice hne
  exact ⟨g, cap, rfl⟩
theorem on_arg {w : World} {base : Nat} {v : Value} {L L' : List Nd} {n : Nat} (h : ON w base v L) (e : L = L') (hn : L'.length = n) (h64 : N64 L') (hne : L' ≠ [] := by simp) : ∃ g cap, v = .slice (some ⟨g, 0, none⟩) n cap ∧ LArg w L' n (some ⟨g, 0, none⟩) cap := by
  subst e hn
  obtain ⟨g, cap, rfl, _, _, h3, h4, h5, _⟩ := h.slice hne
  exact ⟨g, cap, rfl, rfl, h5, h3, h4, h64⟩
set_option maxHeartbeats 4000000 in
theorem esets_walk (es : List En) (ps : Option Addr) (cs : Nat) (q : Rq) (pq : Option Addr) (cq : Nat) (a : List Nd) (pa : Option Addr) (ca : Nat) (b : List Nd) (pb : Option Addr) (cb : Nat) (w : World)
    (ha : EvArg w es ps q pq cq) (hA : LArg w a a.length pa ca) (hB : LArg w b b.length pb cb) :
    Calls Tryz.prog 3 #[.slice ps es.length cs, reqV q pq cq, .slice pa a.length ca, .slice pb b.length cb] w fun e w' => e = .returned (.bool true) ∧ Below w.heap.size w w' := by
  obtain ⟨RA, hRA⟩ : ∃ R, valueL es q a = R := ⟨_, rfl⟩
  obtain ⟨RB, hRB⟩ : ∃ R, valueL es q b = R := ⟨_, rfl⟩
  obtain ⟨W, hW⟩ : ∃ W, W = w.alloc (.cells #[.string q.who.t, .string q.who.i, .string q.act.t, .string q.act.i, .string q.what.t, .string q.what.i, .slice pq q.cx.length cq] 27) := ⟨_, rfl⟩
  have hb_0 : Below w.heap.size w W := by rw [hW]; exact (Below.refl _ _).alloc (Nat.le_refl _) _
  have hq_0 : QB W w.heap.size q pq cq := by rw [hW]; exact QB.new w q pq cq
  have ha_0 := ha.up hb_0
  have hA_0 := hA.up hb_0
  have hB_0 := hB.up hb_0
  clear ha hA hB
  unfold reqV
  go_enter Tryz.func3, Tryz.ntmps3
  obtain ⟨x0, x1, x2, x3, x4, x5, x6⟩ := hq_0.cells
  go_wp2_with fail
  rw [← hW]
  refine (lfact_any _ ha_0.er).mono ?_
  rintro _ w1 ⟨rfl, hbb⟩
  clear x0 x1 x2 x3 x4 x5 x6
  have hb_1 := qbt hb_0 hbb
  have hq_1 := hq_0.up hbb
  have ha_1 := ha_0.up hbb
  have hA_1 := hA_0.up hbb
  have hB_1 := hB_0.up hbb
  clear hbb hb_0 hq_0 ha_0 hA_0 hB_0
  obtain ⟨x0, x1, x2, x3, x4, x5, x6⟩ := hq_1.cells
  go_wp2_with fail
  refine (evalue_arg cs _ ha_1 hA_1 hRA).mono ?_
  rintro _ w2 ⟨⟨v1, f1, rfl, r1⟩, hbb⟩
  clear x0 x1 x2 x3 x4 x5 x6
  have hb_2 := qbt hb_1 hbb
  have hq_2 := hq_1.up hbb
  have ha_2 := ha_1.up hbb
  have hA_2 := hA_1.up hbb
  have hB_2 := hB_1.up hbb
  clear hbb hb_1 hq_1 ha_1 hA_1 hB_1
  cases RA with
  | error n =>
    obtain ⟨rfl, rfl⟩ := r1
    clear hRA
    obtain ⟨x0, x1, x2, x3, x4, x5, x6⟩ := hq_2.cells
    go_wp2_with fail
    refine (evalue_arg cs _ ha_2 hB_2 hRB).mono ?_
    rintro _ w3 ⟨⟨v2, f2, rfl, r2⟩, hbb⟩
    clear x0 x1 x2 x3 x4 x5 x6
    have hb_3 := qbt hb_2 hbb
    have hq_3 := hq_2.up hbb
    have ha_3 := ha_2.up hbb
    have hA_3 := hA_2.up hbb
    have hB_3 := hB_2.up hbb
    clear hbb hb_2 hq_2 ha_2 hA_2 hB_2
    cases RB with
    | error m =>
      obtain ⟨rfl, rfl⟩ := r2
      clear hRB
      obtain ⟨x0, x1, x2, x3, x4, x5, x6⟩ := hq_3.cells
      go_wp2_with fail
      go_ret
      exact ⟨rfl, hb_3⟩
    | ok v =>
      obtain ⟨q2, c2, rfl, rfl, h2⟩ := r2
      clear hRB h2
      obtain ⟨x0, x1, x2, x3, x4, x5, x6⟩ := hq_3.cells
      go_wp2_with fail
      go_ret
      exact ⟨rfl, hb_3⟩
  | ok va =>
    obtain ⟨q1, c1, rfl, rfl, h1⟩ := r1
    have HVA : Hid (IsV va) := h1.is
    clear h1
    obtain ⟨x0, x1, x2, x3, x4, x5, x6⟩ := hq_2.cells
    go_wp2_with fail
    refine (evalue_arg cs _ ha_2 hB_2 hRB).mono ?_
    rintro _ w3 ⟨⟨v2, f2, rfl, r2⟩, hbb⟩
    clear x0 x1 x2 x3 x4 x5 x6
    have hb_3 := qbt hb_2 hbb
    have hq_3 := hq_2.up hbb
    have ha_3 := ha_2.up hbb
    have hA_3 := hA_2.up hbb
    have hB_3 := hB_2.up hbb
    clear hbb hb_2 hq_2 ha_2 hA_2 hB_2
    cases RB with
    | error m =>
      obtain ⟨rfl, rfl⟩ := r2
      clear hRA hRB
      obtain ⟨x0, x1, x2, x3, x4, x5, x6⟩ := hq_3.cells
      go_wp2_with fail
      go_ret
      exact ⟨rfl, hb_3⟩
    | ok vb =>
      obtain ⟨q2, c2, rfl, rfl, h2⟩ := r2
      have HVB : Hid (IsV vb) := h2.is
      clear h2
      obtain ⟨z1, z2, za, ea⟩ := valueL_ok hRA
      obtain ⟨_, _, zb, eb⟩ := valueL_ok hRB
      clear hRA hRB
      by_cases hl : 2 * (a.length + b.length) + 1 ≤ 200
      · have i0 : ¬ (200 : Int) < 2 * ((a.length : Int) + (b.length : Int)) + 1 := by omega
        have i1 : (a.length : Int) ≤ 200 := by omega
        have i2 : (b.length : Int) ≤ 200 := by omega
        obtain ⟨x1, x2, e1, e2⟩ := sets_same za zb hl ea eb
        obtain ⟨RS, hRS⟩ : ∃ R, setE [va, vb] = R := ⟨_, rfl⟩
        have HV1 : Hid (valueL es q (sN [a, b]) = RS) := by show _ = _; rw [valueL_ex x1, if_pos z1, if_pos z2, e1, hRS]
        have HV2 : Hid (valueL es q (sN [b, a, b]) = RS) := by show _ = _; rw [valueL_ex x2, if_pos z1, if_pos z2, e2, hRS]
        have HNB : b ≠ [] := fun e => by rw [e] at zb; cases zb
        have HNA : a ≠ [] := fun e => by rw [e] at za; cases za
        have hbl : 1 ≤ b.length := List.length_pos_iff.2 HNB
        have HV3 : Hid (∀ s, RS = .ok s → valueL es q (oN 25 :: (sN [a, b] ++ a)) = .ok (tN true)) := fun s hs => by obtain ⟨k1, k2⟩ := sets_has za zb hl ea eb HVA.out HVB.out (hRS.trans hs) hbl; rw [valueL_ex k1, if_pos z1, if_pos z2, k2]
        have HL : Hid (2 * (a.length + b.length) + 1 ≤ 200) := hl
        have HAN : Hid (a ≠ []) := HNA
        have HBN : Hid (b ≠ []) := HNB
        clear x1 x2 e1 e2 hRS z1 z2 za zb ea eb hl HNA HNB hbl HVA HVB
        obtain ⟨ba, oa, rfl⟩ := nl_some hA_3.nl HAN.out
        obtain ⟨bb, ob, rfl⟩ := nl_some hB_3.nl HBN.out
        have HN : Hid (∀ k : Int, N64 (sx k :: (a ++ b)) ∧ N64 (sx k :: (b ++ (a ++ b)))) := fun k => ⟨sx_64 (hA_3.num.append hB_3.num), sx_64 (hB_3.num.append (hA_3.num.append hB_3.num))⟩
        obtain ⟨x0, x1, x2, x3, x4, x5, x6⟩ := hq_3.cells
        have hl_a : Below w3.heap.size w3 (w3.alloc (.cells #[.int .i64 5, .int .i64 2, .string ⟨#[]⟩, .string ⟨#[]⟩] 34)) := (Below.refl _ _).alloc (Nat.le_refl _) _
        have hna := (hA_3.nl).up hl_a
        go_wp2_with (first
          | (at_builtin; refine append_nodes _ rfl (.tmp 56) (.tmp 57) rfl w3.heap.size (.slice (some ⟨w3.heap.size, 0, none⟩) 1 1) [sx 2] rfl (ON.lit1 w3 (sx 2) (sx_wf (by decide))) a a.length rfl ba oa ca hna rfl (by have := HL.out; simp; omega) (by first | exact Nat.le_refl _ | (simp; done) | (simp; omega) | omega) ?_
             intro v4 u4 ho4 hk4
             have hu4 : Below w3.heap.size w3 u4 := hl_a.trans hk4.bel
             have hnb := (hB_3.nl).up hu4
             have hs4 : w3.heap.size ≤ u4.heap.size := hu4.size)
          | (at_builtin; refine append_nodes u4 rfl (.tmp 58) (.tmp 59) rfl w3.heap.size v4 ([sx 2] ++ a) rfl ho4 b b.length rfl bb ob cb hnb rfl (by have := HL.out; simp; omega) (by first | exact Nat.le_refl _ | (simp; done) | (simp; omega) | omega) ?_
             intro v5 u5 ho5 hk5
             have hu5 : Below w3.heap.size w3 u5 := hu4.trans hk5.bel
             obtain ⟨g5, cap5, rfl, l5⟩ := on_arg ho5 (L' := sx 2 :: (a ++ b)) (n := a.length + b.length + 1) (by simp) (by simp) (HN.out 2).1
             obtain ⟨y0, y1, y2, y3, y4, y5, y6⟩ := (hq_3.up hu5).cells
             have hl_b : Below u5.heap.size u5 (u5.alloc (.cells #[.int .i64 5, .int .i64 3, .string ⟨#[]⟩, .string ⟨#[]⟩] 34)) := (Below.refl _ _).alloc (Nat.le_refl _) _
             have hnb2 := ((hB_3.nl).up hu5).up hl_b)
          | (at_builtin; refine append_nodes _ rfl (.tmp 62) (.tmp 63) rfl u5.heap.size (.slice (some ⟨u5.heap.size, 0, none⟩) 1 1) [sx 3] rfl (ON.lit1 u5 (sx 3) (sx_wf (by decide))) b b.length rfl bb ob cb hnb2 rfl (by have := HL.out; simp; omega) (by first | exact Nat.le_refl _ | (simp; done) | (simp; omega) | omega) ?_
             intro v6 u6 ho6 hk6
             have hu6 : Below u5.heap.size u5 u6 := hl_b.trans hk6.bel
             have hna2 := ((hA_3.nl).up hu5).up hu6
             have hs6 : u5.heap.size ≤ u6.heap.size := hu6.size)
          | (at_builtin; refine append_nodes u6 rfl (.tmp 64) (.tmp 65) rfl u5.heap.size v6 ([sx 3] ++ b) rfl ho6 a a.length rfl ba oa ca hna2 rfl (by have := HL.out; simp; omega) (by first | exact Nat.le_refl _ | (simp; done) | (simp; omega) | omega) ?_
             intro v7 u7 ho7 hk7
             have hu7 : Below u5.heap.size u5 u7 := hu6.trans hk7.bel
             have hs7 : u5.heap.size ≤ u7.heap.size := hu7.size
             have hnb3 := ((hB_3.nl).up hu5).up hu7
             obtain ⟨g7, cap7, rfl⟩ := on_slice ho7 (n := b.length + a.length + 1) (by simp) (by simp))
          | (at_builtin; refine append_nodes u7 rfl (.tmp 67) (.tmp 68) rfl u5.heap.size (.slice (some ⟨g7, 0, none⟩) (b.length + a.length + 1) cap7) ([sx 3] ++ b ++ a) rfl ho7 b b.length rfl bb ob cb hnb3 rfl (by have := HL.out; simp; omega) (by first | exact Nat.le_refl _ | (simp; done) | (simp; omega) | omega) ?_
             intro v8 w4 ho8 hk8
             have hu8 : Below u5.heap.size u5 w4 := hu7.trans hk8.bel
             obtain ⟨g8, cap8, rfl, l8⟩ := on_arg ho8 (L' := sx 3 :: (b ++ (a ++ b))) (n := b.length + (a.length + b.length) + 1) (by simp) (by simp) (HN.out 3).2
             have hbb : Below w3.heap.size w3 w4 := qbt hu5 hu8
             obtain ⟨z0, z1, z2, z3, z4, z5, z6⟩ := (hq_3.up hbb).cells))
        clear x0 x1 x2 x3 x4 x5 x6 y0 y1 y2 y3 y4 y5 y6 z0 z1 z2 z3 z4 z5 z6
        have hb_4 := qbt hb_3 hbb
        have hq_4 := hq_3.up hbb
        have ha_4 := ha_3.up hbb
        have hA_4 := hA_3.up hbb
        have hO_4 := l5.up hu8
        have hT_4 := l8
        clear hl_a hna hk4 hu4 hnb hs4 ho4 ho5 hk5 hu5 l5 hl_b hnb2 ho6 hk6 hu6 hna2 hs6 ho7 hk7 hu7 hs7 hnb3 ho8 hk8 hu8 l8 hbb hb_3 hq_3 ha_3 hA_3 hB_3
        rw [sN2] at HV1
        rw [sN3] at HV2
        obtain ⟨x0, x1, x2, x3, x4, x5, x6⟩ := hq_4.cells
        go_wp2_with fail
        refine (evalue_arg cs _ ha_4 hO_4 HV1.out).mono ?_
        rintro _ w5 ⟨⟨r1v, r1f, rfl, r1l⟩, hbb⟩
        clear x0 x1 x2 x3 x4 x5 x6
        have hb_5 := qbt hb_4 hbb
        have hq_5 := hq_4.up hbb
        have ha_5 := ha_4.up hbb
        have hA_5 := hA_4.up hbb
        have hO_5 := hO_4.up hbb
        have hT_5 := hT_4.up hbb
        clear hbb hb_4 hq_4 ha_4 hA_4 hO_4 hT_4
        have r1_5 := r1l
        clear r1l
        obtain ⟨x0, x1, x2, x3, x4, x5, x6⟩ := hq_5.cells
        go_wp2_with fail
        refine (evalue_arg cs _ ha_5 hT_5 HV2.out).mono ?_
        rintro _ w6 ⟨⟨r2v, r2f, rfl, r2l⟩, hbb⟩
        clear x0 x1 x2 x3 x4 x5 x6
        have hb_6 := qbt hb_5 hbb
        have hq_6 := hq_5.up hbb
        have ha_6 := ha_5.up hbb
        have hA_6 := hA_5.up hbb
        have hO_6 := hO_5.up hbb
        have hT_6 := hT_5.up hbb
        have r1_6 := r1_5.up hbb
        clear hbb hb_5 hq_5 ha_5 hA_5 hO_5 hT_5 r1_5
        have r2_6 := r2l
        clear r2l
        obtain ⟨x0, x1, x2, x3, x4, x5, x6⟩ := hq_6.cells
        go_wp2_with fail
        refine (same_ans _ r1_6 r2_6 ha_6.er).mono ?_
        rintro _ w7 ⟨rfl, hbb⟩
        clear x0 x1 x2 x3 x4 x5 x6
        have hb_7 := qbt hb_6 hbb
        have hq_7 := hq_6.up hbb
        have ha_7 := ha_6.up hbb
        have hA_7 := hA_6.up hbb
        have hO_7 := hO_6.up hbb
        have hT_7 := hT_6.up hbb
        have r1_7 := r1_6.up hbb
        have r2_7 := r2_6.up hbb
        clear hbb hb_6 hq_6 ha_6 hA_6 hO_6 hT_6 r1_6 r2_6
        clear hT_7 r2_7
        cases RS with
        | error m =>
          obtain ⟨rfl, rfl⟩ := r1_7
          obtain ⟨x0, x1, x2, x3, x4, x5, x6⟩ := hq_7.cells
          go_wp2_with fail
          go_ret
          exact ⟨rfl, hb_7⟩
        | ok vs =>
          obtain ⟨q9, c9, rfl, rfl, _⟩ := r1_7
          have HR : Hid (_ = _) := HV3.out vs rfl
          rw [sN2] at HR
          clear HV1 HV2 HV3
          go_wp2_with fail
          go_region_held (fun w' => w'.cell? ⟨w.heap.size, 0, none⟩ = some (.string q.who.t) ∧ w'.cell? ⟨w.heap.size, 1, none⟩ = some (.string q.who.i) ∧ w'.cell? ⟨w.heap.size, 2, none⟩ = some (.string q.act.t) ∧ w'.cell? ⟨w.heap.size, 3, none⟩ = some (.string q.act.i) ∧ w'.cell? ⟨w.heap.size, 4, none⟩ = some (.string q.what.t) ∧ w'.cell? ⟨w.heap.size, 5, none⟩ = some (.string q.what.i) ∧ w'.cell? ⟨w.heap.size, 6, none⟩ = some (.slice pq q.cx.length cq)) (first | exact QB.cells (QB.up hq_9 (by repeat (first | exact Below.refl _ _ | apply qbA | apply qbD))) | exact QB.cells (QB.up hq_8 (by repeat (first | exact Below.refl _ _ | apply qbA | apply qbD))) | exact QB.cells (QB.up hq_7 (by repeat (first | exact Below.refl _ _ | apply qbA | apply qbD)))) (first
            | (go_at_call 8
               refine (op2_at 25 (by decide) hO_7 (by simp) (by have := HL.out; omega) hA_7 HAN.out (by have := HL.out; omega) (by first | exact LL2 (LArg.up hO_7 (by repeat (first | exact Below.refl _ _ | apply qbA | apply qbD))) (LArg.up hA_7 (by repeat (first | exact Below.refl _ _ | apply qbA | apply qbD))) (by simp) | ((first | refine LL.up ?_ ((Below.refl _ _).alloc (Nat.le_refl _) _) | refine LL.up ?_ (Below.refl _ _).drew); exact LL2 (LArg.up hO_7 (by repeat (first | exact Below.refl _ _ | apply qbA | apply qbD))) (LArg.up hA_7 (by repeat (first | exact Below.refl _ _ | apply qbA | apply qbD))) (by simp)) | ((first | refine LL.up ?_ ((Below.refl _ _).alloc (Nat.le_refl _) _) | refine LL.up ?_ (Below.refl _ _).drew); (first | refine LL.up ?_ ((Below.refl _ _).alloc (Nat.le_refl _) _) | refine LL.up ?_ (Below.refl _ _).drew); exact LL2 (LArg.up hO_7 (by repeat (first | exact Below.refl _ _ | apply qbA | apply qbD))) (LArg.up hA_7 (by repeat (first | exact Below.refl _ _ | apply qbA | apply qbD))) (by simp)) | ((first | refine LL.up ?_ ((Below.refl _ _).alloc (Nat.le_refl _) _) | refine LL.up ?_ (Below.refl _ _).drew); (first | refine LL.up ?_ ((Below.refl _ _).alloc (Nat.le_refl _) _) | refine LL.up ?_ (Below.refl _ _).drew); (first | refine LL.up ?_ ((Below.refl _ _).alloc (Nat.le_refl _) _) | refine LL.up ?_ (Below.refl _ _).drew); exact LL2 (LArg.up hO_7 (by repeat (first | exact Below.refl _ _ | apply qbA | apply qbD))) (LArg.up hA_7 (by repeat (first | exact Below.refl _ _ | apply qbA | apply qbD))) (by simp)))).mono ?_
               rintro _ w8 ⟨⟨t1q, t1c, rfl, t1l⟩, hbb_8⟩
               have hbk_8 : Below w7.heap.size w7 w8 := qbt (by repeat (first | exact Below.refl _ _ | apply qbA | apply qbD)) hbb_8
               have hb_8 := qbt hb_7 hbk_8
               have hq_8 := hq_7.up hbk_8
               have ha_8 := ha_7.up hbk_8
               have hA_8 := hA_7.up hbk_8
               have hO_8 := hO_7.up hbk_8
               have t1_8 := t1l
               clear hb_7 hq_7 ha_7 hA_7 hO_7)
            | (go_at_call 6
               refine (evalue_arg cs _ (EvArg.up ha_8 (by repeat (first | exact Below.refl _ _ | apply qbA | apply qbD))) (LArg.up t1_8 (by repeat (first | exact Below.refl _ _ | apply qbA | apply qbD))) HR.out).mono ?_
               rintro _ w9 ⟨⟨r4v, r4f, rfl, r4l⟩, hbb_9⟩
               have hbk_9 : Below w8.heap.size w8 w9 := qbt (by repeat (first | exact Below.refl _ _ | apply qbA | apply qbD)) hbb_9
               have hb_9 := qbt hb_8 hbk_9
               have hq_9 := hq_8.up hbk_9
               have ha_9 := ha_8.up hbk_9
               have hA_9 := hA_8.up hbk_9
               have hO_9 := hO_8.up hbk_9
               have t1_9 := t1_8.up hbk_9
               have r4_9 := r4l
               clear hb_8 hq_8 ha_8 hA_8 hO_8 t1_8))
          all_goals
            clear hA_9 hO_9 t1_9
            obtain ⟨q4, c4, rfl, rfl, h4⟩ := r4_9
            have h4_9 := h4
            clear h4
            obtain ⟨x0, x1, x2, x3, x4, x5, x6⟩ := hq_9.cells
            go_wp2_with fail
            refine (refTruth_any _ true).mono ?_
            rintro _ w10 ⟨⟨qt, ct, rfl, htl⟩, hbb⟩
            clear x0 x1 x2 x3 x4 x5 x6
            have hb_10 := qbt hb_9 hbb
            have hq_10 := hq_9.up hbb
            have ha_10 := ha_9.up hbb
            have h4_10 := h4_9.up hbb
            clear hbb hb_9 hq_9 ha_9 h4_9
            have ht_10 := htl
            clear htl
            obtain ⟨x0, x1, x2, x3, x4, x5, x6⟩ := hq_10.cells
            go_wp2_with fail
            refine (sameO (a := tN true) rfl c4 ct _ h4_10.nl ht_10.nl (by decide)).mono ?_
            rintro _ w11 ⟨rfl, hbb⟩
            clear x0 x1 x2 x3 x4 x5 x6
            have hb_11 := qbt hb_10 hbb
            have hq_11 := hq_10.up hbb
            have ha_11 := ha_10.up hbb
            have h4_11 := h4_10.up hbb
            have ht_11 := ht_10.up hbb
            clear hbb hb_10 hq_10 ha_10 h4_10 ht_10
            obtain ⟨x0, x1, x2, x3, x4, x5, x6⟩ := hq_11.cells
            go_wp2_with fail
            go_ret
            exact ⟨rfl, hb_11⟩
      · have i0 : (200 : Int) < 2 * ((a.length : Int) + (b.length : Int)) + 1 := by omega
        have i1 : (a.length : Int) ≤ 200 := by have := (xfault_zero za).1; omega
        have i2 : (b.length : Int) ≤ 200 := by have := (xfault_zero zb).1; omega
        clear z1 z2 za zb ea eb hl
        obtain ⟨x0, x1, x2, x3, x4, x5, x6⟩ := hq_3.cells
        go_wp2_with fail
        go_ret
        exact ⟨rfl, hb_3⟩
end Go.Proofs.YtglhjhbhijekjabGreatDoor
