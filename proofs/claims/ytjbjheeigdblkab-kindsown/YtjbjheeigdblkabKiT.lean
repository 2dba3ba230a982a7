/- Package kinds: areFields, isType, by walks of their own texts. -/
import Derived.Test.YtjbjheeigdblkabKiS
namespace Go.Proofs.Ytjbjheeigdblkab
open Go.RowKit
set_option linter.unusedVariables false
set_option maxRecDepth 100000

set_option maxHeartbeats 4000000 in
theorem areF_step (k : Tp) (ih : ∀ y ky, ky.flat.length < k.flat.length → IsTyK y ky) : AreFK k := by
  intro w v S hv hak hl
  obtain ⟨q, c, rfl, hkc, hcm⟩ := hv.slice
  have HV : Hid (VK w k (.slice q k.len c) S) := hv
  have HIH : Hid (∀ y ky, ky.flat.length < k.flat.length → IsTyK y ky) := ih
  have HA : Hid (arK k) := hak
  have hkb : k.len ≤ 1000 := by have := tp_len_flat k; omega
  have HK : Hid (k.flat.length ≤ 1000) := hl
  clear hv ih hak hl
  go_enter Try.func37, Try.ntmps37
  go_wp2
  go_loopw [3, 8] (fun last i wr => ∃ (done todo : Tp) (l : ByteArray), Hid (done.app todo = k) ∧ i = .int .i64 (done.len : Int) ∧ last = .string l ∧ Hid (isTy (some e0) k = isTy (some l) todo) ∧ Below w.heap.size w wr) (fun _ i _ => k.len - (intOf i).toNat)
  case atStart => exact ⟨.nil, k, _, rfl, rfl, rfl, rfl, Below.refl _ _⟩
  case round =>
    rename World => w3
    obtain ⟨done, todo, l, HD, rfl, rfl, HE, hb3⟩ := hrel
    cases todo with
    | nil =>
      have hd : done = k := by have := HD.out; rw [tp_app_nil] at this; exact this
      subst hd
      have i1 : ¬ (done.len : Int) < (done.len : Int) := by omega
      go_wp2
      go_ret
      exact ⟨retb HE.out.symm, hb3⟩
    | cons y ky r =>
      have hv3 : VK w3 k (.slice q k.len c) S := HV.out.up hb3
      have hkl : k.len = done.len + (r.len + 1) := by rw [← HD.out, tp_app_len]; rfl
      have hkf : k.flat.length = done.flat.length + (ky.flat.length + r.flat.length + 1) := by rw [← HD.out, tp_app_flat]; simp [Tp.flat] <;> omega
      have i1 : (done.len : Int) < (k.len : Int) := by omega
      rw [← HD.out] at hv3
      obtain ⟨g, cap, u, hu, hP, hyw, hvk, hSg⟩ := hv3.at
      rw [HD.out, ← hkl] at hu
      cases hu
      obtain ⟨qu, cu, rfl, _⟩ := hvk.slice
      obtain ⟨hka, hky, hkr⟩ : arK (.cons y ky r) := (arK_app.1 (by rw [HD.out]; exact HA.out)).2
      obtain ⟨p0, p1, p2, p3, p4⟩ := hP.cells
      obtain ⟨W4, hW4⟩ : ∃ W4, W4 = w3.alloc (.cells #[.int .i64 y.op, .int .i64 y.n, .string y.s, .string y.t, .slice qu ky.len cu] 37) := ⟨_, rfl⟩
      have hb4 : Below w3.heap.size w3 W4 := by rw [hW4]; exact kqx
      have hB4 : PBk W4 w3.heap.size y (.slice qu ky.len cu) := by rw [hW4]; exact PBk.new w3 y _ rfl
      have hC := isField_any y ky (fun z kz hz => HIH.out z kz (by omega)) W4 _ S (hvk.up hb4) hyw ⟨hka, hky, trivial⟩ (by have := HK.out; omega)
      unfold partV at hC
      obtain ⟨b0, b1, b2, b3, b4⟩ := hB4.cells
      have HDn : Hid ((done.app (.cons y ky .nil)).app r = k) := by show _ = _; rw [tp_app_assoc, ← HD.out]; rfl
      have HKL : Hid (k.len = done.len + (r.len + 1)) := hkl
      have HX : Hid (isTy (some e0) k = (fldB y ky && (decide (cmpB l y.s < 0) && isTy (some y.s) r))) := by show _ = _; rw [HE.out]; exact ty_flds (fun h => by rw [← hka]; unfold cntK; rw [if_neg (by omega), if_pos (by omega)]; rfl)
      clear hv3 hvk hP hkl hkf hka hky hkr HE
      cases hf : fldB y ky
      · rw [hf] at hC HX
        have HF : Hid (isTy (some e0) k = false) := by show _ = _; rw [HX.out]; rfl
        clear hf HX
        go_wp2_with fail
        rw [← hW4]
        refine hC.mono ?_
        rintro _ w5 ⟨rfl, hb5⟩
        go_wp2
        go_ret
        exact ⟨retb HF.out.symm, hb3.trans ((kqt hb4 hb5).mono hb3.size)⟩
      · rw [hf] at hC HX
        by_cases hlt : cmpB l y.s < 0
        · have HF : Hid (isTy (some e0) k = isTy (some y.s) r) := by show _ = _; rw [HX.out, decide_eq_true hlt]; rfl
          obtain ⟨hl1, hl2⟩ := leqK_no hlt
          clear hf HX hlt
          go_wp2_with fail
          rw [← hW4]
          refine hC.mono ?_
          rintro _ w5 ⟨rfl, hb5⟩
          obtain ⟨d0, d1, d2, d3, d4⟩ := (hB4.up hb5).cells
          clear b0 b1 b2 b3 b4 p0 p1 p2 p3 p4
          have hb35 := hb3.trans ((kqt hb4 hb5).mono hb3.size)
          go_wp2_with fail
          go_roundw
          case rel => exact ⟨done.app (.cons y ky .nil), r, y.s, HDn, by rw [tp_app_len]; simp only [Tp.len]; go_num, rfl, HF, hb35⟩
          case measure => have := HKL.out; simp [intOf]; omega
        · have HF : Hid (isTy (some e0) k = false) := by show _ = _; rw [HX.out, decide_eq_false hlt]; rfl
          have hl := leqK_yes hlt
          clear hf HX hlt
          rcases hl with hl1 | ⟨hl1, hl2⟩
          all_goals
            go_wp2_with fail
            rw [← hW4]
            refine hC.mono ?_
            rintro _ w5 ⟨rfl, hb5⟩
            obtain ⟨d0, d1, d2, d3, d4⟩ := (hB4.up hb5).cells
            clear b0 b1 b2 b3 b4 p0 p1 p2 p3 p4
            go_wp2
            go_ret
            exact ⟨retb HF.out.symm, hb3.trans ((kqt hb4 hb5).mono hb3.size)⟩
theorem isTyK_any : ∀ (N : Nat) (x : Nd) (k : Tp), k.flat.length < N → IsTyK x k
  | 0, x, k, h => by omega
  | N + 1, x, k, h => by
    have ih : ∀ y ky, ky.flat.length < k.flat.length → IsTyK y ky := fun y ky hy => isTyK_any N y ky (by omega)
    obtain ⟨o, n, s, t⟩ := x
    by_cases h1 : o = 41 ∨ o = 42 ∨ o = 43 ∨ o = 48 ∨ o = 49
    · exact isTy_leaf o n s t k h1
    by_cases h4 : o = 44
    · subst h4; exact isTy_ent n s t k
    by_cases h5 : o = 45
    · subst h5; exact isTy_set n s t k ih
    by_cases h6 : o = 46
    · subst h6; exact isTy_rcd n s t k (areF_step k ih)
    · exact isTy_none _ k (by dsimp only; omega)
theorem isTyK (x : Nd) (k : Tp) : IsTyK x k := isTyK_any _ x k (Nat.lt_succ_self _)
end Go.Proofs.Ytjbjheeigdblkab
