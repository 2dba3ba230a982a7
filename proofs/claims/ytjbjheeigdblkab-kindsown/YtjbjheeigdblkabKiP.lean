/- Package kinds: count, onto, fit, by walks of their own texts. -/
import Derived.Test.YtjbjheeigdblkabKiM
namespace Go.Proofs.Ytjbjheeigdblkab
open Go.RowKit
set_option linter.unusedVariables false
set_option maxRecDepth 100000

set_option maxHeartbeats 2000000 in
theorem countK_any (x : Nd) (v : Value) (w : World) :
    Calls Try.prog 20 #[partV x v] w fun e w' => e = .returned (.int .i64 (cntK x)) ∧ Below w.heap.size w w' := by
  obtain ⟨xo, xn, xs, xt⟩ := x
  unfold partV cntK
  dsimp only
  by_cases hd : xo = 5 ∨ xo = 6 ∨ xo = 46 ∨ xo = 7 ∨ xo = 45 ∨ xo = 47
  · rcases hd with rfl | rfl | rfl | rfl | rfl | rfl
    all_goals
      go_enter Try.func20, Try.ntmps20
      go_wp2
      go_ret
      exact ⟨rfl, (Below.refl _ _).alloc (Nat.le_refl _) _⟩
  · have hr : (if xo = 5 ∨ xo = 6 ∨ xo = 46 then xn else if xo = 7 ∨ xo = 45 ∨ xo = 47 then (1 : Int) else 0) = 0 := by
      rw [if_neg (by omega), if_neg (by omega)]
    rw [hr]
    have e1 : (xo == 5) = false := by rw [beq_eq_false_iff_ne]; omega
    have e2 : (xo == 6) = false := by rw [beq_eq_false_iff_ne]; omega
    have e3 : (xo == 46) = false := by rw [beq_eq_false_iff_ne]; omega
    have e4 : (xo == 7) = false := by rw [beq_eq_false_iff_ne]; omega
    have e5 : (xo == 45) = false := by rw [beq_eq_false_iff_ne]; omega
    have e6 : (xo == 47) = false := by rw [beq_eq_false_iff_ne]; omega
    clear hd hr
    go_enter Try.func20, Try.ntmps20
    go_wp2
    go_ret
    exact ⟨rfl, (Below.refl _ _).alloc (Nat.le_refl _) _⟩
/-- What onto does. -/
def OntoK (x : Nd) (k : Tp) : Prop := ∀ (w : World) (v : Value) (S : Nat → Prop) (base : Nat) (ev : Value) (L : List Nd), VK w k v S → (∀ a, S a → a < base) → x.wf → base ≤ w.heap.size → ON w base ev L → L.length + k.flat.length + 1 ≤ 1000000 →
  Calls Try.prog 25 #[partV x v, ev] w fun en w' => (∃ ev', en = .returned ev' ∧ ON w' base ev' (L ++ x :: k.flat)) ∧ Kept base 33 w w'
set_option maxHeartbeats 4000000 in
theorem ontoK_step (x : Nd) (k : Tp) (ih : ∀ y ky, ky.flat.length < k.flat.length → OntoK y ky) : OntoK x k := by
  intro w v S base ev L hv hS hx hbase hO hlen
  obtain ⟨q, c, rfl, hkc, hcm⟩ := hv.slice
  have HV : Hid (VK w k (.slice q k.len c) S) := hv
  have HIH : Hid (∀ y ky, ky.flat.length < k.flat.length → OntoK y ky) := ih
  have HS : Hid (∀ a, S a → a < base) := hS
  have HL : Hid (L.length + k.flat.length + 1 ≤ 1000000) := hlen
  have hkb : k.len ≤ 1000000 := by have := tp_len_flat k; omega
  clear hv ih hS hlen
  obtain ⟨W, hW⟩ : ∃ W, W = w.alloc (.cells #[.int .i64 x.op, .int .i64 x.n, .string x.s, .string x.t, .slice q k.len c] 37) := ⟨_, rfl⟩
  have hbW : Below w.heap.size w W := by rw [hW]; exact (Below.refl _ _).alloc (Nat.le_refl _) _
  have hB_0 : PBk W w.heap.size x (.slice q k.len c) := by rw [hW]; exact PBk.new w x _ rfl
  have hWs : W.heap.size = w.heap.size + 1 := by rw [hW]; simp
  have hO_0 := hO.below hbW
  have hk_0 : Kept base 33 w W := Kept.of_below hbW hbase
  obtain ⟨V, hV⟩ : ∃ V, V = W.alloc (.cells #[.int .i64 x.op, .int .i64 x.n, .string x.s, .string x.t] 33) := ⟨_, rfl⟩
  have hbV : Below W.heap.size W V := by rw [hV]; exact (Below.refl _ _).alloc (Nat.le_refl _) _
  have hNL : NL V (some ⟨w.heap.size + 1, 0, none⟩) [x] := by rw [hV]; exact NL.oneK W _ x hx hWs
  have hO_1 := hO_0.below hbV
  have hB_1 := hB_0.up hbV
  have hk_1 : Kept base 33 w V := hk_0.trans (Kept.of_below hbV (by omega))
  have hbs : base ≤ V.heap.size := Nat.le_trans (by omega) hbV.size
  have hll : L.length + ([x] : List Nd).length ≤ 1099511627776 := by have := HL.out; simp; omega
  obtain ⟨c0, c1, c2, c3, c4⟩ := hB_0.cells
  obtain ⟨eq, ec, rfl⟩ := hO.any
  unfold partV
  go_enter Try.func25, Try.ntmps25
  go_wp2_with (first | (at_builtin; rw [← hW, ← hV]; refine append_nodes V rfl (.tmp 7) (.tmp 10) rfl base (.slice eq L.length ec) L rfl hO_1 [x] 1 rfl (w.heap.size + 1) 0 1 hNL rfl hll hbs ?_; intro v1 w2 hO_2 hk2; have hB_2 := hB_1.kept hk2; obtain ⟨d0, d1, d2, d3, d4⟩ := hB_2.cells))
  go_loopw [1, 15] (fun e i wr => ∃ done todo : Tp, Hid (done.app todo = k) ∧ i = .int .i64 (done.len : Int) ∧ ON wr base e (L ++ x :: done.flat) ∧ Kept base 33 w wr) (fun _ i _ => k.len - (intOf i).toNat)
  case atStart => exact ⟨.nil, k, rfl, rfl, hO_2, hk_1.trans hk2⟩
  case round =>
    rename World => w3
    obtain ⟨done, todo, HD, rfl, hO_3, hk3⟩ := hrel
    cases todo with
    | nil =>
      have hd : done = k := by have := HD.out; rw [tp_app_nil] at this; exact this
      subst hd
      have i1 : ¬ (done.len : Int) < (done.len : Int) := by omega
      obtain ⟨M, hM⟩ : ∃ M, M = L ++ x :: done.flat := ⟨_, rfl⟩
      have HM : Hid (M = L ++ x :: done.flat) := hM
      rw [← hM] at hO_3
      clear hM
      obtain ⟨q3, c3, rfl⟩ := hO_3.any
      go_wp2
      go_ret
      exact ⟨⟨_, rfl, by rw [← HM.out]; exact hO_3⟩, hk3⟩
    | cons y ky r =>
      have hv3 : VK w3 k (.slice q k.len c) S := HV.out.bel hk3.bel HS.out
      have hkl : k.len = done.len + (r.len + 1) := by rw [← HD.out, tp_app_len]; rfl
      have hkf : k.flat.length = done.flat.length + (ky.flat.length + r.flat.length + 1) := by rw [← HD.out, tp_app_flat]; simp [Tp.flat] <;> omega
      have i1 : (done.len : Int) < (k.len : Int) := by omega
      rw [← HD.out] at hv3
      obtain ⟨g, cap, u, hu, hP, hyw, hvk, hSg⟩ := hv3.at
      rw [HD.out, ← hkl] at hu
      cases hu
      obtain ⟨qu, cu, rfl, _⟩ := hvk.slice
      obtain ⟨p0, p1, p2, p3, p4⟩ := hP.cells
      obtain ⟨W4, hW4⟩ : ∃ W4, W4 = w3.alloc (.cells #[.int .i64 y.op, .int .i64 y.n, .string y.s, .string y.t, .slice qu ky.len cu] 37) := ⟨_, rfl⟩
      have hb4 : Below w3.heap.size w3 W4 := by rw [hW4]; exact (Below.refl _ _).alloc (Nat.le_refl _) _
      have hB4 : PBk W4 w3.heap.size y (.slice qu ky.len cu) := by rw [hW4]; exact PBk.new w3 y _ rfl
      have hbs3 : base ≤ w3.heap.size := Nat.le_trans hbase hk3.bel.size
      have hC := HIH.out y ky (by omega) W4 _ S base u1 (L ++ x :: done.flat) (hvk.up hb4) HS.out hyw (Nat.le_trans hbs3 hb4.size) (hO_3.below hb4) (by have := HL.out; simp only [List.length_append, List.length_cons]; omega)
      unfold partV at hC
      obtain ⟨b0, b1, b2, b3, b4⟩ := hB4.cells
      have hk4 : Kept base 33 w W4 := hk3.trans (Kept.of_below hb4 hbs3)
      have HDn : Hid ((done.app (.cons y ky .nil)).app r = k) := by show _ = _; rw [tp_app_assoc, ← HD.out]; rfl
      have HF : Hid (L ++ x :: (done.app (.cons y ky .nil)).flat = L ++ x :: done.flat ++ y :: ky.flat) := by show _ = _; rw [tp_app_flat]; simp [Tp.flat]
      have HKL : Hid (k.len = done.len + (r.len + 1)) := hkl
      clear hv3 hvk hP hkl hkf
      go_wp2_with fail
      rw [← hW4]
      refine hC.mono ?_
      rintro _ w5 ⟨⟨e5, rfl, hO_5⟩, hk5⟩
      go_wp2_with fail
      go_roundw
      case rel => exact ⟨done.app (.cons y ky .nil), r, HDn, by rw [tp_app_len]; simp only [Tp.len]; go_num, by rw [HF.out]; exact hO_5, hk4.trans hk5⟩
      case measure => have := HKL.out; simp [intOf]; omega
theorem ontoK_any : ∀ (N : Nat) (x : Nd) (k : Tp), k.flat.length < N → OntoK x k
  | 0, x, k, h => by omega
  | N + 1, x, k, h => ontoK_step x k (fun y ky hy => ontoK_any N y ky (by omega))
end Go.Proofs.Ytjbjheeigdblkab
