/- Package kinds: first, by a walk of its own text. -/
import Derived.Test.YtjbjheeigdblkabKiP
import Derived.Test.YtjbjheeigdblkabPast
namespace Go.Proofs.Ytjbjheeigdblkab
open Go.RowKit
set_option linter.unusedVariables false
set_option maxRecDepth 100000

/-- What first tells: the part that the nodes begin with, and what stands behind it; or that it is not there. -/
def FRet (w0 w w' : World) (v : List Nd) (en : Ending) : Prop :=
  (∃ (x : Nd) (k : Tp) (z : List Nd) (u : Value) (q : Option Addr) (c' : Nat), arK (.cons x k .nil) ∧ x.wf ∧ v = x :: (k.flat ++ z) ∧ en = .returned (.tuple #[partV x u, .slice q z.length c', .bool true]) ∧ VK w' k u (fun a => w.heap.size ≤ a) ∧ NL w0 q z ∧ z.length ≤ c' ∧ c' ≤ maxLen) ∨
  ((∀ x k z, arK (.cons x k .nil) → v ≠ x :: (k.flat ++ z)) ∧ en = .returned (.tuple #[partV zN (.slice none 0 0), .slice none 0 0, .bool false]))
def FirstK (v : List Nd) : Prop := ∀ (w0 w : World) (n : Nat) (p : Option Addr) (c : Nat), Below w0.heap.size w0 w → NL w0 p v → n = v.length → n ≤ c → c ≤ maxLen → n ≤ 1000 →
  Calls Try.prog 11 #[.slice p n c] w fun en w' => FRet w0 w w' v en ∧ Below w.heap.size w w'
/-- A part that is missing is missing in the whole. -/
theorem miss_whole {x : Nd} {t u : List Nd} {done : Tp} (ht : t = done.flat ++ u) (hd : arK done) (hl : done.len < (cntK x).toNat) (h : ∀ y k z, arK (.cons y k .nil) → u ≠ y :: (k.flat ++ z)) : ∀ y k z, arK (.cons y k .nil) → x :: t ≠ y :: (k.flat ++ z) := by
  intro y k z hk e
  simp only [List.cons.injEq] at e
  obtain ⟨rfl, e⟩ := e
  obtain ⟨h1, h2, _⟩ := hk
  obtain ⟨a, b, rfl, h4⟩ := tp_split k done.len (by omega)
  rw [tp_app_len] at h1
  rw [arK_app] at h2
  rw [ht, tp_app_flat, List.append_assoc] at e
  obtain ⟨rfl, e2⟩ := tp_flat_inj done a u _ hd h2.1 h4.symm e
  cases b with
  | nil => simp [Tp.len] at h1; omega
  | cons y ky r =>
    obtain ⟨k1, k2, k3⟩ := h2.2
    exact h y ky (r.flat ++ z) ⟨k1, k2, trivial⟩ (by rw [e2]; simp [Tp.flat])
/-- The contract where the part is there, and where it is not. -/
theorem FirstK.yes {v : List Nd} (h : FirstK v) {x : Nd} {k : Tp} {z : List Nd} (hk : arK (.cons x k .nil)) (hv : v = x :: (k.flat ++ z)) {w0 w : World} {n : Nat} {p : Option Addr} {c : Nat} (h1 : Below w0.heap.size w0 w) (h2 : NL w0 p v) (h3 : n = v.length) (h4 : n ≤ c) (h5 : c ≤ maxLen) (h6 : n ≤ 1000) :
    Calls Try.prog 11 #[.slice p n c] w fun en w' => (∃ (u : Value) (q : Option Addr) (c' : Nat), en = .returned (.tuple #[partV x u, .slice q z.length c', .bool true]) ∧ x.wf ∧ VK w' k u (fun a => w.heap.size ≤ a) ∧ NL w0 q z ∧ z.length ≤ c' ∧ c' ≤ maxLen) ∧ Below w.heap.size w w' := by
  refine (h w0 w n p c h1 h2 h3 h4 h5 h6).mono ?_
  rintro en w' ⟨⟨x', k', z', u, q, c', g1, g2, g3, g4, g5, g6, g7, g8⟩ | ⟨g1, g2⟩, hb⟩
  · rw [hv] at g3
    have := tp_flat_inj (.cons x k .nil) (.cons x' k' .nil) z z' hk g1 rfl (by simpa [Tp.flat] using g3)
    obtain ⟨e1, rfl⟩ := this
    cases e1
    exact ⟨⟨u, q, c', g4, g2, g5, g6, g7, g8⟩, hb⟩
  · exact absurd hv (g1 x k z hk)
theorem FirstK.no {v : List Nd} (h : FirstK v) (hv : ∀ x k z, arK (.cons x k .nil) → v ≠ x :: (k.flat ++ z)) {w0 w : World} {n : Nat} {p : Option Addr} {c : Nat} (h1 : Below w0.heap.size w0 w) (h2 : NL w0 p v) (h3 : n = v.length) (h4 : n ≤ c) (h5 : c ≤ maxLen) (h6 : n ≤ 1000) :
    Calls Try.prog 11 #[.slice p n c] w fun en w' => en = .returned (.tuple #[partV zN (.slice none 0 0), .slice none 0 0, .bool false]) ∧ Below w.heap.size w w' := by
  refine (h w0 w n p c h1 h2 h3 h4 h5 h6).mono ?_
  rintro en w' ⟨⟨x', k', z', u, q, c', g1, g2, g3, g4, g5, g6, g7, g8⟩ | ⟨g1, g2⟩, hb⟩
  · exact absurd g3 (hv x' k' z' g1)
  · exact ⟨g2, hb⟩
theorem first_nil : FirstK [] := by
  intro w0 w n p c hb0 hv hn hnc hcm hn9
  subst hn
  have hb3 : ∀ o1, Below w.heap.size w (w.alloc o1) := fun o1 => (Below.refl _ _).alloc (Nat.le_refl _) _
  go_enter Try.func11, Try.ntmps11
  go_wp2
  exact bodyPost_ret (v := .tuple #[.agg #[.int .i64 0, .int .i64 0, .string ⟨#[]⟩, .string ⟨#[]⟩, .slice none 0 0], .slice none 0 0, .bool false]) (by simp [results, Try.results11, go_sem]) rfl ⟨.inr ⟨fun x k z _ e => absurd e (by simp), rfl⟩, hb3 _⟩
set_option maxHeartbeats 4000000 in
theorem firstK_step (x : Nd) (t : List Nd) (ih : ∀ u, u.length ≤ t.length → FirstK u) : FirstK (x :: t) := by
  intro w0 w n p c hb0 hv hn hnc hcm hn9
  obtain ⟨b, off, rfl, hbw0, x0, x1, x2, x3, xw⟩ := hv.head
  replace x0 := (hb0.cell (p := ⟨b, off, none⟩) hbw0).trans x0
  replace x1 := (hb0.cell (p := ⟨b, off + 1, none⟩) hbw0).trans x1
  replace x2 := (hb0.cell (p := ⟨b, off + 2, none⟩) hbw0).trans x2
  replace x3 := (hb0.cell (p := ⟨b, off + 3, none⟩) hbw0).trans x3
  have hbw : b < w.heap.size := Nat.lt_of_lt_of_le hbw0 hb0.size
  simp only [List.length_cons] at hn
  obtain ⟨pr, hpr, hnr⟩ : ∃ pr, (if c = 1 then some (⟨b, off, none⟩ : Addr) else some ⟨b, off + 4, none⟩) = some ⟨b, pr, none⟩ ∧ NL w0 (some ⟨b, pr, none⟩) t := by
    by_cases h : c = 1
    · exact ⟨off, if_pos h, .inl (List.eq_nil_of_length_eq_zero (by omega))⟩
    · exact ⟨off + 4, if_neg h, hv.tail⟩
  have i0 : ((n : Int) == 0) = false := by rw [beq_eq_false_iff_ne]; omega
  have i00 : (0 : Int) < (n : Int) := by omega
  have i1 : (1 : Int) ≤ (n : Int) := by omega
  have HC := fun w1 v => countK_any x v w1
  obtain ⟨C, hC⟩ : ∃ C, C = cntK x := ⟨_, rfl⟩
  have HCx : Hid (C = cntK x) := hC
  rw [← hC] at HC
  clear hC
  have HIH : Hid (∀ u, u.length ≤ t.length → FirstK u) := ih
  have HN : Hid (n = t.length + 1) := hn
  have hpr2 : (c = 1 ∧ pr = off) ∨ (¬ c = 1 ∧ pr = off + 4) := by
    by_cases h : c = 1
    · rw [if_pos h] at hpr; exact .inl ⟨h, by simpa using hpr.symm⟩
    · rw [if_neg h] at hpr; exact .inr ⟨h, by simpa using hpr.symm⟩
  clear ih hn hv hpr
  unfold partV at *
  obtain ⟨W, hW⟩ : ∃ W, W = ((w.alloc (.cells #[.int .i64 0, .int .i64 0, .string ⟨#[]⟩, .string ⟨#[]⟩, .slice none 0 0] 37)).alloc (.cells #[.int .i64 x.op, .int .i64 x.n, .string x.s, .string x.t, .slice none 0 0] 37)).drew := ⟨_, rfl⟩
  have hb_0 : Below w.heap.size w W := by rw [hW]; exact (((Below.refl _ _).alloc (Nat.le_refl _) _).alloc (by simp) _).drew
  have hr_0 : PBk W w.heap.size zN (.slice none 0 0) := by rw [hW]; exact ((PBk.new w zN _ rfl).up ((Below.refl _ _).alloc (Nat.le_refl _) _)).up (Below.refl _ _).drew
  have hp_0 : PBk W (w.heap.size + 1) x (.slice none 0 0) := by rw [hW]; exact (PBk.new _ x _ (by simp)).up (Below.refl _ _).drew
  have hWs : W.heap.size = w.heap.size + 2 := by rw [hW]; simp [World.drew]
  have HB0 : Hid (Below w0.heap.size w0 w) := hb0
  clear hb0
  rcases hpr2 with ⟨hc1, rfl⟩ | ⟨hc1, rfl⟩
  all_goals
    go_enter Try.func11, Try.ntmps11
    go_wp2
    go_region
    go_wp2_with fail
    rw [← hW]
    refine (HC _ _).mono ?_
    rintro _ w1 ⟨rfl, hbb⟩
    have hb_1 : Below w.heap.size w w1 := hb_0.trans (hbb.mono (by omega))
    have hr_1 := hr_0.up hbb
    have hp_1 := hp_0.up hbb
    have hs_1 : w.heap.size + 2 ≤ w1.heap.size := by have := hbb.size; omega
    clear hW hb_0 hr_0 hp_0 hbb HC x0 x1 x2 x3
    go_wp2_with fail
    go_loopw [6, 22] (fun rv i wr => ∃ (done : Tp) (u : List Nd) (q : Option Addr) (m c' : Nat) (qv : Option Addr) (cv : Nat) (ld : List Value) (Sd : Nat → Prop), Hid (t = done.flat ++ u) ∧ Hid (arK done) ∧ Hid (done.len ≤ (cntK x).toNat) ∧ i = .int .i64 (done.len : Int) ∧ rv = .slice q m c' ∧ Hid (m = u.length) ∧ Hid (NL w0 q u) ∧ m ≤ c' ∧ c' ≤ maxLen ∧ PBk wr (w.heap.size + 1) x (.slice qv done.len cv) ∧ PBk wr w.heap.size zN (.slice none 0 0) ∧ Hid (wr.ownsRow 0 37 5 (.slice qv done.len cv) done.len ld) ∧ Hid (RK wr done ld Sd) ∧ Hid (∀ a, Sd a → w.heap.size + 2 ≤ a ∧ a < wr.heap.size) ∧ Hid (∀ g, (Value.slice qv done.len cv).ownBlock = some g → w.heap.size + 2 ≤ g ∧ ¬ Sd g) ∧ Below w.heap.size w wr ∧ w.heap.size + 2 ≤ wr.heap.size) (fun _ i _ => C.toNat - (intOf i).toNat)
    case atStart => exact ⟨.nil, t, _, _, _, none, 0, [], fun _ => False, rfl, trivial, Nat.zero_le _, rfl, rfl, (by have := HN.out; show _ = _; omega), hnr, by omega, by omega, hp_1, hr_1, ⟨rfl, .inl ⟨rfl, rfl⟩⟩, rfl, (fun a h => h.elim), (fun g h => by simp [Value.ownBlock] at h), hb_1, hs_1⟩
    case round =>
      rename World => w3
      obtain ⟨done, u, q, m, c', qv, cv, ld, Sd, HD, HA, HLn, rfl, rfl, HM, hn_3, hmc, hcm', hp_3, hr_3, HO, HT, HS, HG, hb_3, hs_3⟩ := hrel
      by_cases j1 : (done.len : Int) < C
      · have hdl : done.len ≤ 1000 := by
          have h1 := tp_len_flat done
          have h2 := HD.out
          have h3 := HN.out
          rw [h2, List.length_append] at h3
          omega
        have hm9 : m ≤ 1000 := by
          have h2 := HD.out
          have h3 := HN.out
          have h4 := HM.out
          rw [h2, List.length_append] at h3
          omega
        have hb03 : Below w0.heap.size w0 w3 := HB0.out.trans (hb_3.mono HB0.out.size)
        have hul : u.length ≤ t.length := by have h2 := HD.out; rw [h2, List.length_append]; omega
        by_cases hex : ∃ y ky z, arK (.cons y ky .nil) ∧ u = y :: (ky.flat ++ z)
        · obtain ⟨y, ky, z, hky, hu⟩ := hex
          have hC : ∀ W4, Below w3.heap.size w3 W4 → _ := fun W4 h4 => (HIH.out u hul).yes hky hu (hb03.trans (h4.mono hb03.size)) hn_3.out HM.out hmc hcm' hm9
          have hC1 := hC w3 (Below.refl _ _)
          clear hC
          have HDn : Hid (t = (done.app (.cons y ky .nil)).flat ++ z) := by show _ = _; rw [tp_app_flat, HD.out, hu]; simp [Tp.flat]
          have HAn : Hid (arK (done.app (.cons y ky .nil))) := arK_app.2 ⟨HA.out, hky⟩
          have HLn2 : Hid (done.len + 1 ≤ (cntK x).toNat) := by have := HCx.out; show _ ≤ _; omega
          have hal : (done.app (.cons y ky .nil)).len = done.len + 1 := by rw [tp_app_len]; rfl
          have HAL : Hid ((done.app (.cons y ky .nil)).len = done.len + 1) := hal
          have hdl2 : done.len + 1 ≤ 1000000 := by omega
          clear hal hu hky hul
          go_wp2_with fail
          refine hC1.mono ?_
          rintro _ w5 ⟨⟨v5, q5, c5, rfl, hyw, hu_5, hn_5, hle5, hcm5⟩, hb5⟩
          obtain ⟨qu, cu, rfl, _⟩ := hu_5.slice
          obtain ⟨V6, hV6⟩ : ∃ V6, V6 = w5.alloc (.cells #[.int .i64 y.op, .int .i64 y.n, .string y.s, .string y.t, .slice qu ky.len cu] 37) := ⟨_, rfl⟩
          have hb56 : Below w5.heap.size w5 V6 := by rw [hV6]; exact kqx
          have hVs : V6.heap.size = w5.heap.size + 1 := by rw [hV6]; simp
          have hy_6 : PBk V6 w5.heap.size y (.slice qu ky.len cu) := by rw [hV6]; exact PBk.new w5 y _ rfl
          have hb36 : Below w3.heap.size w3 V6 := kqt hb5 hb56
          have hs35 : w3.heap.size ≤ w5.heap.size := hb5.size
          have hp_5 := hp_3.up hb5
          have hp_6 := hp_3.up hb36
          have hr_6 := hr_3.up hb36
          have hO6 : V6.ownsRow 0 37 5 (.slice qv done.len cv) done.len ld := ownP_agree HO.out (fun g hg hl => hb36.block g hl)
          have HT6 : Hid (RK V6 done ld Sd) := HT.out.up hb36
          have HU6 : Hid (VK V6 ky (.slice qu ky.len cu) (fun a => w3.heap.size ≤ a ∧ a < w5.heap.size)) := (hu_5.real.sub (fun a h => h)).up hb56
          have hb6 : Below w.heap.size w V6 := hb_3.trans (hb36.mono hb_3.size)
          have HGL : Hid (∀ g, (Value.slice qv done.len cv).ownBlock = some g → g < w3.heap.size) := fun g hg => (ownP_lt HO.out hg).1
          have HN5 : Hid (NL w0 q5 z) := hn_5
          obtain ⟨y0, y1, y2, y3, y4⟩ := hy_6.cells
          obtain ⟨b0, b1, b2, b3, b4⟩ := hp_6.cells
          rw [hV6] at b4
          have hne : ¬ w.heap.size + 1 = w5.heap.size := by omega
          clear hC1 hu_5 hn_5 hb5 hb56 hp_5
          unfold partV
          obtain ⟨m5, hm5⟩ : ∃ m5, m5 = z.length := ⟨_, rfl⟩
          have HM5 : Hid (m5 = z.length) := hm5
          rw [← hm5] at hle5 ⊢
          clear hm5
          go_wp2_with (first | (at_builtin; rw [← hV6]; refine append_partK V6 rfl (.tmp 34) (.tmp 36) rfl (.slice qv done.len cv) done.len ld rfl hO6 y (.slice qu ky.len cu) rfl (by rw [hVs]; rfl) hdl2 ?_; intro v7 w7 hO7 hg7 hat7; obtain ⟨q7, c7, rfl⟩ := ownP_slice hO7; have hp_7 : PBk w7 (w.heap.size + 1) x (.slice qv done.len cv) := ⟨(hg7.block _ hp_6.lt (fun e => by have := (HG.out _ e.symm).1; omega)).trans hp_6.blk⟩; obtain ⟨d0, d1, d2, d3, d4⟩ := hp_7.cells; have fd := hp_7.free; clear b0 b1 b2 b3 b4 y0 y1 y2 y3 y4))
          obtain ⟨V8, hV8⟩ : ∃ V8, V8 = w7.setCell ⟨w.heap.size + 1, 4, none⟩ (.slice q7 (done.len + 1) c7) := ⟨_, rfl⟩
          rw [← hV8]
          obtain ⟨hp_8, hK8⟩ := hp_7.put4 hV8
          have hr_8 : PBk V8 w.heap.size zN (.slice none 0 0) := ⟨(hK8.block _ (Nat.lt_of_lt_of_le hr_6.lt hg7.size) (by omega)).trans ((hg7.block _ hr_6.lt (fun e => by have := (HG.out _ e.symm).1; omega)).trans hr_6.blk)⟩
          have hold : ∀ a, a < V6.heap.size → w.heap.size + 2 ≤ a → (Value.slice qv done.len cv).ownBlock ≠ some a → V8.heap[a]? = V6.heap[a]? := fun a h1 h2 h3 => (hK8.block a (Nat.lt_of_lt_of_le h1 hg7.size) (by omega)).trans (hg7.block a h1 (fun e => h3 e.symm))
          have hO8 : V8.ownsRow 0 37 5 (.slice q7 (done.len + 1) c7) (done.len + 1) (ld ++ pcl y (.slice qu ky.len cu)) := ownP_agree hO7 (fun g hg hl => hK8.block g hl (fun e => by
            rcases hat7 g hg with h | h
            · have := (HG.out g h).1; omega
            · omega))
          have hT8 : RK V8 (done.app (.cons y ky .nil)) (ld ++ pcl y (.slice qu ky.len cu)) (fun a => Sd a ∨ (w3.heap.size ≤ a ∧ a < w5.heap.size)) := by
            refine RK.join ((HT6.out.agree (fun a ha hl => hold a hl (HS.out a ha).1 (fun e => (HG.out a e).2 ha))).sub (fun a h => .inl h)) (RK.one hyw ((HU6.out.agree (fun a ha hl => hold a hl (by omega) (fun e => by have := HGL.out a e; omega))).sub (fun a h => .inr h)))
          have hb8 : Below w.heap.size w V8 := by
            refine hb6.trans ?_
            have h1 : Below w.heap.size V6 w7 := ⟨hg7.os, hg7.tape, hg7.output, hg7.size, fun a ha => hg7.block a (by omega) (fun e => by have := (HG.out a e.symm).1; omega)⟩
            exact h1.trans (hK8.below (by have := hg7.size; omega) (fun a e => by omega))
          have hs8 : V6.heap.size ≤ V8.heap.size := Nat.le_trans hg7.size hK8.size
          go_roundw
          case rel =>
            refine ⟨done.app (.cons y ky .nil), z, q5, m5, c5, q7, c7, ld ++ pcl y (.slice qu ky.len cu), (fun a => Sd a ∨ (w3.heap.size ≤ a ∧ a < w5.heap.size)), HDn, HAn, (by show _ ≤ _; rw [HAL.out]; exact HLn2.out), by rw [HAL.out]; go_num, rfl, HM5, HN5, hle5, hcm5, by rw [HAL.out]; exact hp_8, hr_8, by rw [HAL.out]; exact hO8, hT8, ?_, ?_, hb8, by omega⟩
            · intro a ha
              rcases ha with ha | ha
              · have := HS.out a ha; omega
              · omega
            · intro g hg
              rw [HAL.out] at hg
              rcases hat7 g hg with h | h
              · have h1 := HG.out g h
                have h2 := HGL.out g h
                exact ⟨h1.1, fun e => e.elim h1.2 (by omega)⟩
              · exact ⟨by omega, fun e => e.elim (fun e => by have := (HS.out g e).2; omega) (by omega)⟩
          case measure => simp [intOf]; omega
        · have hno : ∀ y ky z, arK (.cons y ky .nil) → u ≠ y :: (ky.flat ++ z) := fun y ky z h e => hex ⟨y, ky, z, h, e⟩
          have HW : Hid (∀ y ky z, arK (.cons y ky .nil) → x :: t ≠ y :: (ky.flat ++ z)) := miss_whole HD.out HA.out (by have := HCx.out; omega) hno
          have hC1 := (HIH.out u hul).no hno hb03 hn_3.out HM.out hmc hcm' hm9
          clear hex hno
          obtain ⟨r0, r1, r2, r3, r4⟩ := hr_3.cells
          go_wp2_with fail
          refine hC1.mono ?_
          rintro _ w5 ⟨rfl, hb5⟩
          obtain ⟨V6, hV6⟩ : ∃ V6, V6 = w5.alloc (.cells #[.int .i64 0, .int .i64 0, .string ⟨#[]⟩, .string ⟨#[]⟩, .slice none 0 0] 37) := ⟨_, rfl⟩
          have hb36 : Below w3.heap.size w3 V6 := by rw [hV6]; exact kqA hb5
          have hr_6 := hr_3.up hb36
          obtain ⟨s0, s1, s2, s3, s4⟩ := hr_6.cells
          have fr := hr_6.free
          rw [hV6] at s0 s1 s2 s3 s4 fr
          unfold partV zN
          go_wp2
          rw [← hV6]
          obtain ⟨V, hV⟩ : ∃ V, V = ((((V6.setCell ⟨w.heap.size, 0, none⟩ (.int .i64 zN.op)).setCell ⟨w.heap.size, 1, none⟩ (.int .i64 zN.n)).setCell ⟨w.heap.size, 2, none⟩ (.string zN.s)).setCell ⟨w.heap.size, 3, none⟩ (.string zN.t)).setCell ⟨w.heap.size, 4, none⟩ (.slice none 0 0) := ⟨_, rfl⟩
          obtain ⟨hPV, hKV⟩ := hr_6.put hV
          obtain ⟨t0, t1, t2, t3, t4⟩ := hPV.cells
          have hbV : Below w.heap.size V6 V := hKV.below (by have := hr_6.lt; omega) (fun a e => by rw [e]; exact Nat.le_refl _)
          have hbf : Below w.heap.size w V := (hb_3.trans (hb36.mono hb_3.size)).trans hbV
          unfold zN at hV t0 t1 t2 t3
          dsimp only at hV t0 t1 t2 t3
          rw [← hV]
          exact bodyPost_ret (v := .tuple #[.agg #[.int .i64 0, .int .i64 0, .string ⟨#[]⟩, .string ⟨#[]⟩, .slice none 0 0], .slice none 0 0, .bool false]) (by simp [results, Try.results11, go_sem, t0, t1, t2, t3, t4]) rfl ⟨.inr ⟨HW.out, rfl⟩, hbf⟩
      · have hm : m = u.length := HM.out
        subst hm
        have HLe : Hid ((cntK x).toNat = done.len) := by have := HLn.out; have := HCx.out; show _ = _; omega
        obtain ⟨p0, p1, p2, p3, p4⟩ := hp_3.cells
        obtain ⟨r0, r1, r2, r3, r4⟩ := hr_3.cells
        have f0 := hr_3.free
        go_wp2
        obtain ⟨V, hV⟩ : ∃ V, V = ((((w3.setCell ⟨w.heap.size, 0, none⟩ (.int .i64 x.op)).setCell ⟨w.heap.size, 1, none⟩ (.int .i64 x.n)).setCell ⟨w.heap.size, 2, none⟩ (.string x.s)).setCell ⟨w.heap.size, 3, none⟩ (.string x.t)).setCell ⟨w.heap.size, 4, none⟩ (.slice qv done.len cv) := ⟨_, rfl⟩
        rw [← hV]
        obtain ⟨hPV, hKV⟩ := hr_3.put hV
        obtain ⟨t0, t1, t2, t3, t4⟩ := hPV.cells
        have hbV : Below w.heap.size w3 V := hKV.below (by omega) (fun a e => by rw [e]; exact Nat.le_refl _)
        refine bodyPost_ret (v := .tuple #[.agg #[.int .i64 x.op, .int .i64 x.n, .string x.s, .string x.t, .slice qv done.len cv], .slice q u.length c', .bool true]) (by simp [results, Try.results11, go_sem, t0, t1, t2, t3, t4]) rfl ⟨.inl ⟨x, done, u, _, _, _, ⟨HLe.out, HA.out, trivial⟩, xw, by rw [← HD.out], rfl, ⟨ld, ?_, ?_, ?_⟩, hn_3.out, hmc, hcm'⟩, hb_3.trans hbV⟩
        · exact ownP_agree HO.out (fun g hg hl => hKV.block g hl (fun e => by have := (HG.out g hg).1; omega))
        · exact fun g hg => by have := (HG.out g hg).1; omega
        · exact (HT.out.agree (fun a ha hl => hKV.block a hl (fun e => by have := (HS.out a ha).1; omega))).sub (fun a ha => by have := (HS.out a ha).1; omega)
theorem firstK_any : ∀ (N : Nat) (v : List Nd), v.length < N → FirstK v
  | 0, v, h => by omega
  | N + 1, [], h => first_nil
  | N + 1, x :: t, h => firstK_step x t (fun u hu => firstK_any N u (by simp only [List.length_cons] at h; omega))
theorem firstK (v : List Nd) : FirstK v := firstK_any (v.length + 1) v (Nat.lt_succ_self _)
end Go.Proofs.Ytjbjheeigdblkab
