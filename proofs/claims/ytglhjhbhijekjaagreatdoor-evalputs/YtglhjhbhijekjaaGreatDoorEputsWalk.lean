/- EvalPuts: the walk of the statement's own function. -/
import Derived.Test.YtglhjhbhijekjaaGreatDoorG39
import Derived.Test.YtglhjhbhijekjaaGreatDoorTreePut
import Derived.Test.YtglhjhbhijekjaaGreatDoorVrT
namespace Go.Proofs.YtglhjhbhijekjaaGreatDoor
open Go.RowKit
set_option linter.unusedVariables false
set_option maxRecDepth 100000

def nAt : Nat → ByteArray
  | 0 => wPrin | 1 => wAct | 2 => wRes | _ => wCtx
def vAt (q : Rq) : Nat → List Nd
  | 0 => uN q.who | 1 => uN q.act | 2 => uN q.what | _ => q.cx
theorem nAt_is (q : Rq) : ∀ k, k < 4 → varE q (nAt k) = .ok (vAt q k)
  | 0, _ => rfl
  | 1, _ => rfl
  | 2, _ => rfl
  | 3, _ => rfl
theorem put_n64 {s : ByteArray} {V e : List Nd} (hV : N64 V) (he : N64 e) : N64 (putE s V e) := by
  intro x hx
  unfold putE at hx
  obtain ⟨y, hy, hx⟩ := List.mem_flatMap.1 hx
  cases hs : isV s y with
  | true => rw [rep_yes hs] at hx; exact hV x hx
  | false => rw [rep_no hs] at hx; simp only [List.mem_singleton] at hx; subst hx; exact he x hy
theorem puts_law {es : List En} {q : Rq} {e : List Nd} (k1 : stf es = 0) (k2 : askf q = 0) (k3 : xfault e = 0) (hc : N64 q.cx) (he : N64 e) {k : Nat} (hk : k < 4) :
    (pfault e (vAt q k) (nAt k) = 0 → valueL es q (putE (nAt k) (vAt q k) e) = valueL es q e) ∧ N64 (putE (nAt k) (vAt q k) e) := by
  obtain ⟨u0, u1, u2, u3⟩ := askf_zero k2
  have hv : IsV (vAt q k) := by
    match k, hk with
    | 0, _ => exact uN_is u0
    | 1, _ => exact uN_is u1
    | 2, _ => exact uN_is u2
    | 3, _ => exact ⟨(afault_zero u3).1, hc⟩
  refine ⟨fun h => ?_, put_n64 hv.num he⟩
  obtain ⟨_, h2, h3⟩ := pfault_zero h
  exact value_same (put_isEx k3 h2 h3) k3 (ev0_put hv.val (nAt_is q k hk) k3 h3)
theorem v4 (q : Rq) : ∀ {k : Nat} (h : k < 4), ([uN q.who, uN q.act, uN q.what, q.cx] : List (List Nd))[k]'(by simpa using h) = vAt q k
  | 0, _ => rfl
  | 1, _ => rfl
  | 2, _ => rfl
  | 3, _ => rfl
theorem LL4 {w : World} {a b d f : List Nd} {n n2 n3 n4 : Nat} {q q2 q3 q4 : Option Addr} {c c2 c3 c4 : Nat} (h : LArg w a n q c) (k : LArg w b n2 q2 c2) (l : LArg w d n3 q3 c3) (m : LArg w f n4 q4 c4) {T : TypeId} {N : Nat} (hN : w.heap.size = N) : LL (w.alloc (.cells #[.slice q n c, .slice q2 n2 c2, .slice q3 n3 c3, .slice q4 n4 c4] T)) (some ⟨N, 0, none⟩) [a, b, d, f] := by
  obtain ⟨rfl, hnl, h3, h4, h5⟩ := h
  obtain ⟨rfl, hnl2, k3, k4, k5⟩ := k
  obtain ⟨rfl, hnl3, l3, l4, l5⟩ := l
  obtain ⟨rfl, hnl4, m3, m4, m5⟩ := m
  subst hN
  exact LL.layO w T [.slice q a.length c, .slice q2 b.length c2, .slice q3 d.length c3, .slice q4 f.length c4] [a, b, d, f] rfl (fun i u v hu hv => by
    match i, hu, hv with
    | 0, hu, hv => simp at hu hv; subst hu hv; exact ⟨q, c, rfl, hnl, h3, h4⟩
    | 1, hu, hv => simp at hu hv; subst hu hv; exact ⟨q2, c2, rfl, hnl2, k3, k4⟩
    | 2, hu, hv => simp at hu hv; subst hu hv; exact ⟨q3, c3, rfl, hnl3, l3, l4⟩
    | 3, hu, hv => simp at hu hv; subst hu hv; exact ⟨q4, c4, rfl, hnl4, m3, m4⟩)
/-- The names that a statement goes through, in a block of their own. -/
structure SB (w : World) (B : Nat) : Prop where
  blk : w.heap[B]? = some (.cells #[.string wPrin, .string wAct, .string wRes, .string wCtx] 9 (0, 0))
theorem SB.lt {w : World} {B : Nat} (h : SB w B) : B < w.heap.size := (Array.getElem?_eq_some_iff.1 h.blk).1
theorem SB.up {w w' : World} {B : Nat} (h : SB w B) (hb : Below w.heap.size w w') : SB w' B := ⟨(hb.block B h.lt).trans h.blk⟩
theorem SB.at {w : World} {B : Nat} (h : SB w B) {k : Nat} (hk : k < 4) : w.cell? ⟨B, k, none⟩ = some (.string (nAt k)) := by
  have := h.blk
  match k, hk with
  | 0, _ => simp [World.cell?, this]; rfl
  | 1, _ => simp [World.cell?, this]; rfl
  | 2, _ => simp [World.cell?, this]; rfl
  | 3, _ => simp [World.cell?, this]; rfl
set_option maxHeartbeats 4000000 in
theorem eputs_walk (es : List En) (ps : Option Addr) (cs : Nat) (q : Rq) (pq : Option Addr) (cq : Nat) (e : List Nd) (pe : Option Addr) (ce : Nat) (w : World)
    (ha : EvArg w es ps q pq cq) (he : LArg w e e.length pe ce) :
    Calls Tryz.prog 6 #[.slice ps es.length cs, reqV q pq cq, .slice pe e.length ce] w fun e w' => e = .returned (.bool true) ∧ Below w.heap.size w w' := by
  obtain ⟨W, hW⟩ : ∃ W, W = w.alloc (.cells #[.string q.who.t, .string q.who.i, .string q.act.t, .string q.act.i, .string q.what.t, .string q.what.i, .slice pq q.cx.length cq] 26) := ⟨_, rfl⟩
  have hb_0 : Below w.heap.size w W := by rw [hW]; exact (Below.refl _ _).alloc (Nat.le_refl _) _
  have hq_0 : QB W w.heap.size q pq cq := by rw [hW]; exact QB.new w q pq cq
  have ha_0 := ha.up hb_0
  have he_0 := he.up hb_0
  clear ha he
  unfold reqV
  go_enter Tryz.func6, Tryz.ntmps6
  obtain ⟨x0, x1, x2, x3, x4, x5, x6⟩ := hq_0.cells
  go_wp2_with fail
  rw [← hW]
  refine (lfact_any _ ha_0.er).mono ?_
  rintro _ w1 ⟨rfl, hbb⟩
  clear x0 x1 x2 x3 x4 x5 x6
  have hb_1 := qbt hb_0 hbb
  have hq_1 := hq_0.up hbb
  have ha_1 := ha_0.up hbb
  have he_1 := he_0.up hbb
  clear hbb hb_0 hq_0 ha_0 he_0
  have HE := fun w1 hl1 => entCheck_any es ps cs w1 hl1
  have HA := fun w1 h1 => ask_any q pq cq w1 h1
  unfold reqV at HA
  have HT := fun w1 h1 => tcheck_arg (a := e) (n := e.length) (p := pe) (c := ce) w1 h1
  by_cases k1 : stf es = 0
  · rw [eV_nil k1] at HE
    by_cases k2 : askf q = 0
    · rw [eV_nil k2] at HA
      by_cases k3 : xfault e = 0
      · rw [eV_nil k3] at HT
        obtain ⟨u0, u1, u2, u3⟩ := askf_zero k2
        have HPUT : Hid (∀ k, k < 4 → (pfault e (vAt q k) (nAt k) = 0 → valueL es q (putE (nAt k) (vAt q k) e) = valueL es q e) ∧ N64 (putE (nAt k) (vAt q k) e)) := fun k hk => puts_law k1 k2 k3 ha_1.cxN he_1.num hk
        have hle : e.length ≤ 200 := (xfault_zero k3).1
        clear k1 k2 k3 u3
        obtain ⟨x0, x1, x2, x3, x4, x5, x6⟩ := hq_1.cells
        go_wp2_with fail
        refine (HE _ ha_1.el).mono ?_
        rintro _ w2 ⟨rfl, hbb⟩
        clear x0 x1 x2 x3 x4 x5 x6
        have hb_2 := qbt hb_1 hbb
        have hq_2 := hq_1.up hbb
        have ha_2 := ha_1.up hbb
        have he_2 := he_1.up hbb
        clear hbb hb_1 hq_1 ha_1 he_1
        obtain ⟨x0, x1, x2, x3, x4, x5, x6⟩ := hq_2.cells
        go_wp2_with fail
        refine (HA _ ha_2.rq).mono ?_
        rintro _ w3 ⟨rfl, hbb⟩
        clear x0 x1 x2 x3 x4 x5 x6
        have hb_3 := qbt hb_2 hbb
        have hq_3 := hq_2.up hbb
        have ha_3 := ha_2.up hbb
        have he_3 := he_2.up hbb
        clear hbb hb_2 hq_2 ha_2 he_2
        obtain ⟨x0, x1, x2, x3, x4, x5, x6⟩ := hq_3.cells
        go_wp2_with fail
        refine (HT _ he_3).mono ?_
        rintro _ w4 ⟨rfl, hbb⟩
        clear x0 x1 x2 x3 x4 x5 x6
        have hb_4 := qbt hb_3 hbb
        have hq_4 := hq_3.up hbb
        have ha_4 := ha_3.up hbb
        have he_4 := he_3.up hbb
        clear hbb hb_3 hq_3 ha_3 he_3
        obtain ⟨x0, x1, x2, x3, x4, x5, x6⟩ := hq_4.cells
        go_wp2_with fail
        refine (evalue_arg cs _ ha_4 he_4 rfl).mono ?_
        rintro _ w5 ⟨⟨r1v, r1f, rfl, r1l⟩, hbb⟩
        clear x0 x1 x2 x3 x4 x5 x6
        have hb_5 := qbt hb_4 hbb
        have hq_5 := hq_4.up hbb
        have ha_5 := ha_4.up hbb
        have he_5 := he_4.up hbb
        clear hbb hb_4 hq_4 ha_4 he_4
        have r1_5 := r1l
        clear r1l
        obtain ⟨w6, hw6⟩ : ∃ V, V = w5.alloc (.cells #[.string wPrin, .string wAct, .string wRes, .string wCtx] 9) := ⟨_, rfl⟩
        have hbb : Below w5.heap.size w5 w6 := by rw [hw6]; exact (Below.refl _ _).alloc (Nat.le_refl _) _
        have hb_6 := qbt hb_5 hbb
        have hq_6 := hq_5.up hbb
        have ha_6 := ha_5.up hbb
        have he_6 := he_5.up hbb
        have r1_6 := r1_5.up hbb
        have hs_6 : SB w6 w5.heap.size := by rw [hw6]; exact ⟨new_at rfl⟩
        clear hbb hb_5 hq_5 ha_5 he_5 r1_5
        unfold wPrin wAct wRes wCtx at hw6
        go_wp2_with fail
        rw [← hw6]
        clear hw6
        go_region_held (fun w' => w'.cell? ⟨w.heap.size, 0, none⟩ = some (.string q.who.t) ∧ w'.cell? ⟨w.heap.size, 1, none⟩ = some (.string q.who.i) ∧ w'.cell? ⟨w.heap.size, 2, none⟩ = some (.string q.act.t) ∧ w'.cell? ⟨w.heap.size, 3, none⟩ = some (.string q.act.i) ∧ w'.cell? ⟨w.heap.size, 4, none⟩ = some (.string q.what.t) ∧ w'.cell? ⟨w.heap.size, 5, none⟩ = some (.string q.what.i) ∧ w'.cell? ⟨w.heap.size, 6, none⟩ = some (.slice pq q.cx.length cq)) (first | exact QB.cells (QB.up hq_9 (by repeat (first | exact Below.refl _ _ | apply qbA | apply qbD))) | exact QB.cells (QB.up hq_8 (by repeat (first | exact Below.refl _ _ | apply qbA | apply qbD))) | exact QB.cells (QB.up hq_7 (by repeat (first | exact Below.refl _ _ | apply qbA | apply qbD))) | exact QB.cells (QB.up hq_6 (by repeat (first | exact Below.refl _ _ | apply qbA | apply qbD)))) (first
          | (go_at_call 19
             refine (refEntOf_any _ q.who u0).mono ?_
             rintro _ w7 ⟨⟨u0q, u0c, rfl, u0l⟩, hbb_7⟩
             have hbk_7 : Below w6.heap.size w6 w7 := qbt (by repeat (first | exact Below.refl _ _ | apply qbA | apply qbD)) hbb_7
             have hb_7 := qbt hb_6 hbk_7
             have hq_7 := hq_6.up hbk_7
             have ha_7 := ha_6.up hbk_7
             have he_7 := he_6.up hbk_7
             have r1_7 := r1_6.up hbk_7
             have hs_7 := hs_6.up hbk_7
             have zu0_7 := u0l
             clear hb_6 hq_6 ha_6 he_6 r1_6 hs_6)
          | (go_at_call 19
             refine (refEntOf_any _ q.act u1).mono ?_
             rintro _ w8 ⟨⟨u1q, u1c, rfl, u1l⟩, hbb_8⟩
             have hbk_8 : Below w7.heap.size w7 w8 := qbt (by repeat (first | exact Below.refl _ _ | apply qbA | apply qbD)) hbb_8
             have hb_8 := qbt hb_7 hbk_8
             have hq_8 := hq_7.up hbk_8
             have ha_8 := ha_7.up hbk_8
             have he_8 := he_7.up hbk_8
             have r1_8 := r1_7.up hbk_8
             have hs_8 := hs_7.up hbk_8
             have zu0_8 := zu0_7.up hbk_8
             have zu1_8 := u1l
             clear hb_7 hq_7 ha_7 he_7 r1_7 hs_7 zu0_7)
          | (go_at_call 19
             refine (refEntOf_any _ q.what u2).mono ?_
             rintro _ w9 ⟨⟨u2q, u2c, rfl, u2l⟩, hbb_9⟩
             have hbk_9 : Below w8.heap.size w8 w9 := qbt (by repeat (first | exact Below.refl _ _ | apply qbA | apply qbD)) hbb_9
             have hb_9 := qbt hb_8 hbk_9
             have hq_9 := hq_8.up hbk_9
             have ha_9 := ha_8.up hbk_9
             have he_9 := he_8.up hbk_9
             have r1_9 := r1_8.up hbk_9
             have hs_9 := hs_8.up hbk_9
             have zu0_9 := zu0_8.up hbk_9
             have zu1_9 := zu1_8.up hbk_9
             have zu2_9 := u2l
             clear hb_8 hq_8 ha_8 he_8 r1_8 hs_8 zu0_8 zu1_8))
        all_goals
          obtain ⟨w10, hw10⟩ : ∃ V, V = w9.alloc (.cells #[.slice u0q 1 u0c, .slice u1q 1 u1c, .slice u2q 1 u2c, .slice pq q.cx.length cq] 24) := ⟨_, rfl⟩
          have hbb : Below w9.heap.size w9 w10 := by rw [hw10]; exact (Below.refl _ _).alloc (Nat.le_refl _) _
          have hb_10 := qbt hb_9 hbb
          have hq_10 := hq_9.up hbb
          have ha_10 := ha_9.up hbb
          have he_10 := he_9.up hbb
          have r1_10 := r1_9.up hbb
          have hs_10 := hs_9.up hbb
          have zu0_10 := zu0_9.up hbb
          have zu1_10 := zu1_9.up hbb
          have zu2_10 := zu2_9.up hbb
          have hl_10 : LL w10 (some ⟨w9.heap.size, 0, none⟩) [uN q.who, uN q.act, uN q.what, q.cx] := by rw [hw10]; exact LL4 zu0_9.l zu1_9.l zu2_9.l ⟨rfl, ha_9.rq.nl, ha_9.rq.le, ha_9.rq.cm, ha_9.cxN⟩ rfl
          clear hbb hb_9 hq_9 ha_9 he_9 r1_9 hs_9 zu0_9 zu1_9 zu2_9
          obtain ⟨x0, x1, x2, x3, x4, x5, x6⟩ := hq_10.cells
          go_wp2_with fail
          rw [← hw10]
          clear hw10 x0 x1 x2 x3 x4 x5 x6
          go_loopw [12] (fun i wr => ∃ k : Nat, k ≤ 4 ∧ i = .int .i64 k ∧ QB wr w.heap.size q pq cq ∧ EvArg wr es ps q pq cq ∧ LArg wr e e.length pe ce ∧ Ans wr (valueL es q e) r1v r1f ∧ SB wr w5.heap.size ∧ LL wr (some ⟨w9.heap.size, 0, none⟩) [uN q.who, uN q.act, uN q.what, q.cx] ∧ Below w.heap.size w wr) (fun i _ => 4 - (intOf i).toNat)
          case atStart => exact ⟨0, Nat.zero_le _, rfl, hq_10, ha_10, he_10, r1_10, hs_10, hl_10, hb_10⟩
          case round =>
            rename World => wr
            obtain ⟨k, hk, rfl, hq, ha, he, r1, hs, hl, hb⟩ := hrel
            by_cases hlt : k < 4
            · have i1 : (k : Int) < 4 := by omega
              obtain ⟨x0, x1, x2, x3, x4, x5, x6⟩ := hq.cells
              have z0 := hs.at hlt
              obtain ⟨bb, oo, qv, cv, hp, _, y0, ynl, yle, ycm⟩ := hl.at (i := k) (by simpa using hlt)
              cases hp
              have ev : ([uN q.who, uN q.act, uN q.what, q.cx] : List (List Nd))[k]'(by simpa using hlt) = vAt q k := v4 q hlt
              rw [ev] at y0 ynl yle
              rw [Nat.zero_add] at y0
              obtain ⟨HP1, HP2⟩ := HPUT.out k hlt
              have HQ : Hid (QB _ _ _ _ _) := hq
              clear ev
              generalize hV : vAt q k = V at *
              generalize hS : nAt k = S at *
              clear hV hS
              have hbd : Below wr.heap.size wr wr.drew := (Below.refl _ _).drew
              by_cases hpf : pfault e V S = 0
              · have HPT := fun w1 (h1 : Below wr.heap.size wr w1) => tput_ok e V pe qv ce cv S w1 (he.nl.up h1) (ynl.up h1) hpf
                have HR : Hid (_ = _) := HP1 hpf
                have HN : Hid (N64 _) := HP2
                clear HP1 HP2 hpf
                generalize putE S V e = X at *
                go_wp2_with fail
                go_region_with (go_at_call 20; refine (HPT _ hbd).mono ?_; rintro _ w1 ⟨g, d, rfl, gnl, gle, gdm, hb1⟩; have hbx : Below wr.heap.size wr w1 := qbt hbd hb1; obtain ⟨x0', x1', x2', x3', x4', x5', x6'⟩ := (HQ.out.up hbx).cells)
                all_goals
                  go_wp2_with fail
                  refine (evalue_arg cs _ (ha.up hbx) (LArg.mk rfl gnl gle gdm HN.out : LArg _ X X.length _ _) HR.out).mono ?_
                  rintro _ w2 ⟨⟨r2v, r2f, rfl, r2⟩, hb2⟩
                  go_wp2_with fail
                  refine (same_ans _ ((r1.up hbx).up hb2) r2 ((ha.up hbx).up hb2).er).mono ?_
                  rintro _ w3 ⟨rfl, hb3⟩
                  have hbz := qbt (qbt hbx hb2) hb3
                  go_wp2_with fail
                  go_roundw
                  case rel => exact ⟨k + 1, by omega, by go_num, HQ.out.up hbz, ha.up hbz, he.up hbz, r1.up hbz, hs.up hbz, hl.up hbz, qbt hb hbz⟩
                  case measure => simp [intOf]; omega
              · have HPT := fun w1 (h1 : Below wr.heap.size wr w1) => tput_bad e V pe qv ce cv S w1 (he.nl.up h1) (ynl.up h1) (by unfold maxLen; omega) (Nat.le_trans yle ycm) hpf
                rw [eV_not hpf] at HPT
                clear HP1 HP2 hpf
                generalize pfault e V S = n3 at *
                go_wp2_with fail
                go_region_with (go_at_call 20; refine (HPT _ hbd).mono ?_; rintro _ w1 ⟨rfl, hb1⟩; have hbz : Below wr.heap.size wr w1 := qbt hbd hb1)
                all_goals
                  go_wp2_with fail
                  go_roundw
                  case rel => exact ⟨k + 1, by omega, by go_num, HQ.out.up hbz, ha.up hbz, he.up hbz, r1.up hbz, hs.up hbz, hl.up hbz, qbt hb hbz⟩
                  case measure => simp [intOf]; omega
            · have i1 : ¬ (k : Int) < 4 := by omega
              obtain ⟨x0, x1, x2, x3, x4, x5, x6⟩ := hq.cells
              go_wp2_with fail
              go_ret
              exact ⟨rfl, hb⟩
      · rw [eV_not k3] at HT
        clear k1 k2 k3
        generalize xfault e = n3 at *
        obtain ⟨x0, x1, x2, x3, x4, x5, x6⟩ := hq_1.cells
        go_wp2_with fail
        refine (HE _ ha_1.el).mono ?_
        rintro _ w2 ⟨rfl, hbb⟩
        clear x0 x1 x2 x3 x4 x5 x6
        have hb_2 := qbt hb_1 hbb
        have hq_2 := hq_1.up hbb
        have ha_2 := ha_1.up hbb
        have he_2 := he_1.up hbb
        clear hbb hb_1 hq_1 ha_1 he_1
        obtain ⟨x0, x1, x2, x3, x4, x5, x6⟩ := hq_2.cells
        go_wp2_with fail
        refine (HA _ ha_2.rq).mono ?_
        rintro _ w3 ⟨rfl, hbb⟩
        clear x0 x1 x2 x3 x4 x5 x6
        have hb_3 := qbt hb_2 hbb
        have hq_3 := hq_2.up hbb
        have ha_3 := ha_2.up hbb
        have he_3 := he_2.up hbb
        clear hbb hb_2 hq_2 ha_2 he_2
        obtain ⟨x0, x1, x2, x3, x4, x5, x6⟩ := hq_3.cells
        go_wp2_with fail
        refine (HT _ he_3).mono ?_
        rintro _ w4 ⟨rfl, hbb⟩
        clear x0 x1 x2 x3 x4 x5 x6
        have hb_4 := qbt hb_3 hbb
        have hq_4 := hq_3.up hbb
        have ha_4 := ha_3.up hbb
        have he_4 := he_3.up hbb
        clear hbb hb_3 hq_3 ha_3 he_3
        obtain ⟨x0, x1, x2, x3, x4, x5, x6⟩ := hq_4.cells
        go_wp2_with fail
        go_ret
        exact ⟨rfl, hb_4⟩
    · rw [eV_not k2] at HA
      clear k1 k2
      generalize askf q = n3 at *
      obtain ⟨x0, x1, x2, x3, x4, x5, x6⟩ := hq_1.cells
      go_wp2_with fail
      refine (HE _ ha_1.el).mono ?_
      rintro _ w2 ⟨rfl, hbb⟩
      clear x0 x1 x2 x3 x4 x5 x6
      have hb_2 := qbt hb_1 hbb
      have hq_2 := hq_1.up hbb
      have ha_2 := ha_1.up hbb
      have he_2 := he_1.up hbb
      clear hbb hb_1 hq_1 ha_1 he_1
      obtain ⟨x0, x1, x2, x3, x4, x5, x6⟩ := hq_2.cells
      go_wp2_with fail
      refine (HA _ ha_2.rq).mono ?_
      rintro _ w3 ⟨rfl, hbb⟩
      clear x0 x1 x2 x3 x4 x5 x6
      have hb_3 := qbt hb_2 hbb
      have hq_3 := hq_2.up hbb
      have ha_3 := ha_2.up hbb
      have he_3 := he_2.up hbb
      clear hbb hb_2 hq_2 ha_2 he_2
      obtain ⟨x0, x1, x2, x3, x4, x5, x6⟩ := hq_3.cells
      go_wp2_with fail
      go_ret
      exact ⟨rfl, hb_3⟩
  · rw [eV_not k1] at HE
    clear k1
    generalize stf es = n3 at *
    obtain ⟨x0, x1, x2, x3, x4, x5, x6⟩ := hq_1.cells
    go_wp2_with fail
    refine (HE _ ha_1.el).mono ?_
    rintro _ w2 ⟨rfl, hbb⟩
    clear x0 x1 x2 x3 x4 x5 x6
    have hb_2 := qbt hb_1 hbb
    have hq_2 := hq_1.up hbb
    have ha_2 := ha_1.up hbb
    have he_2 := he_1.up hbb
    clear hbb hb_1 hq_1 ha_1 he_1
    obtain ⟨x0, x1, x2, x3, x4, x5, x6⟩ := hq_2.cells
    go_wp2_with fail
    go_ret
    exact ⟨rfl, hb_2⟩
end Go.Proofs.YtglhjhbhijekjaaGreatDoor
