/- Package kinds: mustAll, missesNone, by walks of their own texts. -/
import Derived.Test.YtjbjheeigdblkabKiU
import Derived.Test.YtjbjheeigdblkabKiC
namespace Go.Proofs.Ytjbjheeigdblkab
open Go.RowKit
set_option linter.unusedVariables false
set_option maxRecDepth 100000

theorem musts_cons (k : Tp) (f : Nd) (kf r : Tp) : musts k (.cons f kf r) = ((decide (f.n ≠ 1) || (match k.find f.s with | some (g, _) => decide (g.n = 1) | none => false)) && musts k r) := rfl
set_option maxHeartbeats 4000000 in
theorem mustAll_any (x y : Nd) (k l : Tp) (w : World) (v u : Value) (S : Nat → Prop) (hv : VK w k v S) (hu : VK w l u S) (hk1 : k.flat.length ≤ 1000) (hl1 : l.flat.length ≤ 1000) :
    Calls Try.prog 31 #[partV x v, partV y u] w fun e w' => e = .returned (.bool (musts k l)) ∧ Below w.heap.size w w' := by
  obtain ⟨q, c, rfl, hkc, hcm⟩ := hv.slice
  obtain ⟨q2, c2, rfl, hkc2, hcm2⟩ := hu.slice
  have HV : Hid (VK w k (.slice q k.len c) S) := hv
  have HU : Hid (VK w l (.slice q2 l.len c2) S) := hu
  have HK1 : Hid (k.flat.length ≤ 1000) := hk1
  have hkb : l.len ≤ 1000 := by have := tp_len_flat l; omega
  clear hv hu hk1 hl1
  obtain ⟨W, hW⟩ : ∃ W, W = (w.alloc (.cells #[.int .i64 x.op, .int .i64 x.n, .string x.s, .string x.t, .slice q k.len c] 37)).alloc (.cells #[.int .i64 y.op, .int .i64 y.n, .string y.s, .string y.t, .slice q2 l.len c2] 37) := ⟨_, rfl⟩
  have hb0 : Below w.heap.size w W := by rw [hW]; exact kqx
  have hp_0 : PBk W w.heap.size x (.slice q k.len c) := by rw [hW]; exact (PBk.new w x _ rfl).up kqx
  have hWs : w.heap.size + 2 ≤ W.heap.size := by rw [hW]; simp
  unfold partV
  go_enter Try.func31, Try.ntmps31
  go_wp2
  rw [← hW]
  go_loopw [12] (fun i wr => ∃ (done todo : Tp), Hid (done.app todo = l) ∧ i = .int .i64 (done.len : Int) ∧ Hid (musts k l = musts k todo) ∧ PBk wr w.heap.size x (.slice q k.len c) ∧ Below w.heap.size w wr) (fun i _ => l.len - (intOf i).toNat)
  case atStart => exact ⟨.nil, l, rfl, rfl, rfl, hp_0, hb0⟩
  case round =>
    rename World => w3
    obtain ⟨done, todo, HD, rfl, HF, hp_3, hb3⟩ := hrel
    cases todo with
    | nil =>
      have hd : done = l := by have := HD.out; rw [tp_app_nil] at this; exact this
      subst hd
      have i1 : ¬ (done.len : Int) < (done.len : Int) := by omega
      go_wp2
      go_ret
      exact ⟨retb HF.out.symm, hb3⟩
    | cons f kf r =>
      have hu3 : VK w3 l (.slice q2 l.len c2) S := HU.out.up hb3
      have hkl : l.len = done.len + (r.len + 1) := by rw [← HD.out, tp_app_len]; rfl
      have i1 : (done.len : Int) < (l.len : Int) := by omega
      rw [← HD.out] at hu3
      obtain ⟨g, cap, u, hu, hP, hyw, hvk, hSg⟩ := hu3.at
      rw [HD.out, ← hkl] at hu
      cases hu
      obtain ⟨qu, cu, rfl, _⟩ := hvk.slice
      obtain ⟨p0, p1, p2, p3, p4⟩ := hP.cells
      have HDn : Hid ((done.app (.cons f kf .nil)).app r = l) := by show _ = _; rw [tp_app_assoc, ← HD.out]; rfl
      have HKL : Hid (l.len = done.len + (r.len + 1)) := hkl
      obtain ⟨W4, hW4⟩ : ∃ W4, W4 = w3.alloc (.cells #[.int .i64 f.op, .int .i64 f.n, .string f.s, .string f.t, .slice qu kf.len cu] 37) := ⟨_, rfl⟩
      have hb4 : Below w3.heap.size w3 W4 := by rw [hW4]; exact kqx
      have hB4 : PBk W4 w3.heap.size f (.slice qu kf.len cu) := by rw [hW4]; exact PBk.new w3 f _ rfl
      have hp_4 := hp_3.up hb4
      have hC := field_any x k f.s W4 _ S ((HV.out.up hb3).up hb4) HK1.out
      unfold partV at hC
      obtain ⟨b0, b1, b2, b3, b4⟩ := hp_4.cells
      rw [hW4] at b0 b1 b2 b3 b4
      have HX : Hid (musts k l = ((decide (f.n ≠ 1) || (match k.find f.s with | some (g, _) => decide (g.n = 1) | none => false)) && musts k r)) := by show _ = _; rw [HF.out]; rfl
      clear hu3 hP hkl hvk HF
      obtain ⟨G, hG⟩ : ∃ G : Bool, G = (match k.find f.s with | some (g, _) => decide (g.n = 1) | none => false) := ⟨_, rfl⟩
      rw [← hG] at HX
      have HOwn : ∃ (on : Nd), G = decide (on.n = 1) ∧ Calls Try.prog 38 #[.agg #[.int .i64 x.op, .int .i64 x.n, .string x.s, .string x.t, .slice q k.len c], .string f.s] W4 fun en w' => (∃ qo no co B, en = .returned (.tuple #[.agg #[.int .i64 on.op, .int .i64 on.n, .string on.s, .string on.t, .slice qo no co], .bool B])) ∧ Below W4.heap.size W4 w' := by
        cases hf : k.find f.s with
        | none =>
          rw [hf] at hC hG
          exact ⟨zN, by rw [hG]; rfl, hC.mono (fun en w' h => ⟨⟨none, 0, 0, false, h.1⟩, h.2⟩)⟩
        | some p =>
          obtain ⟨o, ko⟩ := p
          rw [hf] at hC hG
          exact ⟨o, hG, hC.mono (fun en w' h => by obtain ⟨⟨a, b, e, _⟩, h2⟩ := h; exact ⟨⟨a, _, b, true, e⟩, h2⟩)⟩
      obtain ⟨on, hGo, hC2⟩ := HOwn
      clear hC hG
      go_wp2_with fail
      rw [← hW4]
      refine hC2.mono ?_
      rintro _ w5 ⟨⟨qo, no, co, B, rfl⟩, hb5⟩
      obtain ⟨V6, hV6⟩ : ∃ V6, V6 = w5.alloc (.cells #[.int .i64 on.op, .int .i64 on.n, .string on.s, .string on.t, .slice qo no co] 37) := ⟨_, rfl⟩
      have hb6 : Below w3.heap.size w3 V6 := by rw [hV6]; exact kqA (kqt hb4 hb5)
      have hB6 : PBk V6 w3.heap.size f (.slice qu kf.len cu) := by rw [hV6]; exact (hB4.up hb5).up kqx
      obtain ⟨d0, d1, d2, d3, d4⟩ := hB6.cells
      rw [hV6] at d0 d1 d2 d3 d4
      have hb36 : Below w.heap.size w V6 := hb3.trans (hb6.mono hb3.size)
      clear b0 b1 b2 b3 b4 p0 p1 p2 p3 p4
      by_cases hn : f.n = 1
      · by_cases ho : on.n = 1
        · have HF2 : Hid (musts k l = musts k r) := by show _ = _; rw [HX.out, hGo]; simp [ho]
          have e1 : (f.n == 1) = true := by rw [hn]; rfl
          have e2 : (on.n != 1) = false := by rw [ho]; rfl
          clear hGo HX hn ho
          go_wp2_with fail
          rw [← hV6]
          go_roundw
          case rel => exact ⟨done.app (.cons f kf .nil), r, HDn, by rw [tp_app_len]; simp only [Tp.len]; go_num, HF2, hp_3.up hb6, hb36⟩
          case measure => have := HKL.out; simp [intOf]; omega
        · have HF2 : Hid (musts k l = false) := by show _ = _; rw [HX.out, hGo]; simp [ho, hn]
          have e1 : (f.n == 1) = true := by rw [hn]; rfl
          have e2 : (on.n != 1) = true := by simp [ho]
          clear hGo HX hn ho
          go_wp2
          rw [← hV6]
          go_ret
          exact ⟨retb HF2.out.symm, hb36⟩
      · have HF2 : Hid (musts k l = musts k r) := by show _ = _; rw [HX.out]; simp [hn]
        have e1 : (f.n == 1) = false := by simp [hn]
        clear hGo HX hn
        go_wp2_with fail
        rw [← hV6]
        go_roundw
        case rel => exact ⟨done.app (.cons f kf .nil), r, HDn, by rw [tp_app_len]; simp only [Tp.len]; go_num, HF2, hp_3.up hb6, hb36⟩
        case measure => have := HKL.out; simp [intOf]; omega
end Go.Proofs.Ytjbjheeigdblkab
