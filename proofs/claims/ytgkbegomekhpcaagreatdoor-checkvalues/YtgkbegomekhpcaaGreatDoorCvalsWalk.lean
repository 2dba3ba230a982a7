/- CheckValues: the walk of the statement's own function. -/
import Derived.Test.YtgkbegomekhpcaaGreatDoorC24
import Derived.Test.YtgkbegomekhpcaaGreatDoorC22
import Derived.Test.YtgkbegomekhpcaaGreatDoorC8
namespace Go.Proofs.YtgkbegomekhpcaaGreatDoor
open Go.RowKit
set_option linter.unusedVariables false
set_option linter.unusedSimpArgs false
set_option linter.unusedSectionVars false
set_option maxRecDepth 100000

def blN : Nd := ⟨1, 0, e0, e0⟩
theorem blN_ex : xfault [blN] = 0 := by kernel_rfl
theorem okV_bl : okV none (.cons blN .nil .nil) := by
  refine okV.none_iff.2 ⟨⟨by simp [blN], ?_, .inr (.inr ⟨by simp [blN], by simp [blN], rfl⟩)⟩, okV.nil⟩
  simp [ndOk, blN, e0]
theorem bl_lies (w : World) {B : Nat} (hB : B = w.heap.size) : AK (w.alloc (.cells #[.int .i64 1, .int .i64 0, .string ⟨#[]⟩, .string ⟨#[]⟩] 33)) [blN] (some ⟨B, 0, none⟩) 1 := by
  subst hB
  exact ⟨NL.lit w [blN] _ (fun x hx => by simp only [List.mem_singleton] at hx; subst hx; exact ⟨Nat.zero_le _, Nat.zero_le _, by show (0 : Int) ≤ _; decide⟩) rfl (by simp), by simp, by unfold maxLen; decide⟩
theorem ty_bl (C : CK) : tyR C false [] [] (.cons blN .nil .nil) = .ok (leafT 41) := by
  simp [tyR_cons, tyR_nil, fromT, blN, leafT, fitsT, Tp.app]
theorem h8_of {s : Sc} (h : scf s = 0) : s.acs.length ≤ 8 := by
  rcases scf_ways s with ⟨_, e⟩ | ⟨_, h8, _⟩
  · rw [e] at h; cases h
  · exact h8
/-- What is wrong ahead of all types does not rest on the expression, if there is nothing wrong with that. -/
theorem tpre_zero {s : Sc} {who act what : ByteArray} {e : List Nd} (h : tpre s who act what e = 0) : scf s = 0 ∧ xfault e = 0 ∧ ∃ a, aofC s.acs act = some a ∧ hasT who a.who = true ∧ hasT what a.what = true := by
  unfold tpre at h
  by_cases h1 : scf s = 0
  · rw [if_neg (by simpa using h1)] at h
    by_cases h2 : xfault e = 0
    · rw [if_neg (by simpa using h2)] at h
      cases ha : aofC s.acs act with
      | none => rw [ha] at h; cases h
      | some a =>
        rw [ha] at h
        simp only at h
        cases hb : (hasT who a.who && hasT what a.what)
        · rw [hb] at h; cases h
        · rw [Bool.and_eq_true] at hb
          exact ⟨h1, h2, a, rfl, hb.1, hb.2⟩
    · rw [if_pos h2] at h; exact absurd h h2
  · rw [if_pos h1] at h; exact absurd h h1
section
variable (s : Sc) (who act what : ByteArray) (v : List Nd) (pk pa pv : Option Addr) (ck ca cv : Nat) (w : World) (hL : ErrVar w) (h : SA w s pk ck pa ca) (hv : AK w v pv cv)
include hL h hv
set_option maxHeartbeats 4000000 in
theorem cvals_bad (hb : tpre s who act what [blN] ≠ 0) :
    Calls Tryz.prog 3 #[scV s pk ck pa ca, .string who, .string act, .string what, .slice pv v.length cv] w fun e w' => e = .returned (.bool true) ∧ Below w.heap.size w w' := by
  obtain ⟨V, hV⟩ : ∃ V, V = w.alloc (.cells #[.slice pk s.ks.length ck, .slice pa s.acs.length ca] 25) := ⟨_, rfl⟩
  have hbV : Below w.heap.size w V := by rw [hV]; exact kqx
  have HB : Hid (∀ w', Below V.heap.size V w' → w'.cell? ⟨w.heap.size, 0, none⟩ = some (.slice pk s.ks.length ck) ∧ w'.cell? ⟨w.heap.size, 1, none⟩ = some (.slice pa s.acs.length ca)) := fun w' hk => by
    have hb : Blk V w.heap.size #[.slice pk s.ks.length ck, .slice pa s.acs.length ca] 25 := by rw [hV]; exact Blk.new w _ _ rfl
    exact ⟨(hb.up hk).cell 0, (hb.up hk).cell 1⟩
  have HT := fun W B (hW : Below V.heap.size V W) (hak : AK W [blN] (some ⟨B, 0, none⟩) 1) => typeC_bad s who act what [blN] pk pa (some ⟨B, 0, none⟩) ck ca 1 W ((h.up hbV).up hW) hak h8_of hb
  have HV : Hid (∀ W, Below V.heap.size V W → AK W v pv cv) := fun W hW => (hv.up hbV).up hW
  generalize tpre s who act what [blN] = n at *
  unfold scV at *
  clear h hv hb
  rcases own_ways v with ⟨y, l, z, m, hO⟩ | ⟨k, hE⟩
  · have HO : Hid (OwnsTo v y l z m) := hO
    clear hO
    go_enter Tryz.func3, Tryz.ntmps3
    go_wp2_with fail
    rw [← hV]
    refine (typed_any V).mono ?_
    rintro _ w1 ⟨rfl, hb1⟩
    clear hV
    obtain ⟨x0, x1⟩ := HB.out w1 hb1
    go_wp2_with fail
    refine (HT _ _ ?_ (bl_lies _ rfl)).mono ?_
    · exact kqt hb1 kqx
    rintro _ w2 ⟨rfl, hb2'⟩
    have hb2 : Below V.heap.size V w2 := kqt (kqt hb1 kqx) hb2'
    have HOC := HO.out.calls (HV.out w2 hb2)
    clear HT x0 x1
    go_wp2_with fail
    refine HOC.mono ?_
    rintro _ w3 ⟨⟨q3, c3, rfl, _⟩, hb3⟩
    go_wp2
    go_ret
    exact ⟨rfl, kqt hbV (kqt hb2 hb3)⟩
  · go_enter Tryz.func3, Tryz.ntmps3
    go_wp2_with fail
    rw [← hV]
    refine (typed_any V).mono ?_
    rintro _ w1 ⟨rfl, hb1⟩
    clear hV
    obtain ⟨x0, x1⟩ := HB.out w1 hb1
    go_wp2_with fail
    refine (HT _ _ ?_ (bl_lies _ rfl)).mono ?_
    · exact kqt hb1 kqx
    rintro _ w2 ⟨rfl, hb2'⟩
    have hb2 : Below V.heap.size V w2 := kqt (kqt hb1 kqx) hb2'
    have HOC := hE _ _ _ (HV.out w2 hb2)
    clear HT x0 x1
    go_wp2_with fail
    refine HOC.mono ?_
    rintro _ w3 ⟨rfl, hb3⟩
    go_wp2
    go_ret
    exact ⟨rfl, kqt hbV (kqt hb2 hb3)⟩
set_option maxHeartbeats 6000000 in
theorem cvals_good (hb : tpre s who act what [blN] = 0) :
    Calls Tryz.prog 3 #[scV s pk ck pa ca, .string who, .string act, .string what, .slice pv v.length cv] w fun e w' => e = .returned (.bool true) ∧ Below w.heap.size w w' := by
  obtain ⟨c1, c2, a, ha, hw1, hw2⟩ := tpre_zero hb
  obtain ⟨V, hV⟩ : ∃ V, V = w.alloc (.cells #[.slice pk s.ks.length ck, .slice pa s.acs.length ca] 25) := ⟨_, rfl⟩
  have hbV : Below w.heap.size w V := by rw [hV]; exact kqx
  have HB : Hid (∀ w', Below V.heap.size V w' → w'.cell? ⟨w.heap.size, 0, none⟩ = some (.slice pk s.ks.length ck) ∧ w'.cell? ⟨w.heap.size, 1, none⟩ = some (.slice pa s.acs.length ca)) := fun w' hk => by
    have hb : Blk V w.heap.size #[.slice pk s.ks.length ck, .slice pa s.acs.length ca] 25 := by rw [hV]; exact Blk.new w _ _ rfl
    exact ⟨(hb.up hk).cell 0, (hb.up hk).cell 1⟩
  have HT := fun W B (hW : Below V.heap.size V W) (hak : AK W [blN] (some ⟨B, 0, none⟩) 1) => typeC_ok ckN s who act what blN .nil a pk pa (some ⟨B, 0, none⟩) ck ca 1 W ((h.up hbV).up hW) hak (h8_of c1) c1 blN_ex ha hw1 hw2 (by decide) ⟨rfl, trivial, trivial⟩ (tyOk_val ckN 1 blN .nil (by decide) (by decide) (.inl okV_bl)).1 (leafT 41) (ty_bl ckN) rfl (by decide)
  have HV : Hid (∀ W, Below V.heap.size V W → AK W v pv cv) := fun W hW => (hv.up hbV).up hW
  have HG : Hid (∀ W, Below V.heap.size V W → ErrVar W) := fun W hW => ev_up hL (kqt hbV hW)
  rcases own_ways v with ⟨y, l, z, m, hO⟩ | ⟨k, hE⟩
  · have HO : Hid (OwnsTo v y l z m) := hO
    obtain ⟨lv, hvt, hvz, how, hml⟩ := hO
    have hll : l.flat.length ≤ 199 := by have := lv; rw [hvt.2] at this; simp at this; omega
    have hcl : v.length = l.flat.length + 1 := by rw [hvt.2]; rfl
    have hto := (tyOk_val ckN (l.flat.length + 1) y l (by omega) hll (.inl hvt.1)).1
    have hxv : xfault (y :: l.flat) = 0 := by rw [← hvt.2]; exact value_ex hvz
    have har : arC (.cons y l .nil) := okV.arC hvt.1
    have htf : (ow false (.cons y l .nil)).flat = z :: m.flat := by rw [how]; simp [Tp.flat]
    have htl : (ow false (.cons y l .nil)).len = 1 := by rw [how]; rfl
    rcases (tyV (.cons y l .nil)).1 hvt.1 ckN false [] [] with hrt | hrt
    · have HTV : Hid (∀ W, Below V.heap.size V W → Calls Tryz.prog 8 #[scV s pk ck pa ca, .string who, .string act, .string what, .slice pv v.length cv] W fun en w' => (∃ q c, en = .returned (.tuple #[.slice q (z :: m.flat).length c, .nilIface]) ∧ AK w' (z :: m.flat) q c) ∧ Below W.heap.size W w') := fun W hW => by
        have := typeC_ok ckN s who act what y l a pk pa pv ck ca cv W ((h.up hbV).up hW) (by rw [← hvt.2]; exact HV.out W hW) (h8_of c1) c1 hxv ha hw1 hw2 hll har hto _ hrt htl (by rw [htf]; simp; omega)
        rw [htf] at this
        rw [hcl]
        exact this
      unfold scV at *
      clear h hv hb c1 c2 ha hw1 hw2 lv hvt hvz how hml hll hcl hto hxv har htf htl hrt hL
      obtain ⟨R, hR⟩ : ∃ R, R = z :: m.flat := ⟨_, rfl⟩
      have HRe : Hid (R = z :: m.flat) := hR
      rw [← hR] at HTV
      clear hR
      go_enter Tryz.func3, Tryz.ntmps3
      go_wp2_with fail
      rw [← hV]
      refine (typed_any V).mono ?_
      rintro _ w1 ⟨rfl, hb1⟩
      clear hV
      obtain ⟨x0, x1⟩ := HB.out w1 hb1
      go_wp2_with fail
      refine (HT _ _ ?_ (bl_lies _ rfl)).mono ?_
      · exact kqt hb1 kqx
      rintro _ w2 ⟨⟨q2, c2, rfl, _⟩, hb2'⟩
      have hb2 : Below V.heap.size V w2 := kqt (kqt hb1 kqx) hb2'
      have HOC := HO.out.calls (HV.out w2 hb2)
      rw [← HRe.out] at HOC
      clear HT x0 x1
      go_wp2_with fail
      refine HOC.mono ?_
      rintro _ w3 ⟨⟨q3, c3, rfl, hR3⟩, hb3'⟩
      have hb3 : Below V.heap.size V w3 := kqt hb2 hb3'
      have HR3 : Hid (AK w3 R q3 c3) := hR3
      obtain ⟨x0, x1⟩ := HB.out w3 hb3
      clear hR3 HOC
      go_wp2_with fail
      refine (HTV.out _ hb3).mono ?_
      rintro _ w4 ⟨⟨q4, c4, rfl, hR4⟩, hb4'⟩
      have hb4 : Below V.heap.size V w4 := kqt hb3 hb4'
      have HS := hR4.sameV (HR3.out.up hb4')
      rw [(sameNd_iff _ _).2 rfl] at HS
      clear hR4 x0 x1
      go_wp2_with fail
      refine HS.mono ?_
      rintro _ w5 ⟨rfl, hb5⟩
      go_wp2
      go_ret
      exact ⟨rfl, kqt hbV (kqt hb4 hb5)⟩
    · have HTV : Hid (∀ W, Below V.heap.size V W → Calls Tryz.prog 8 #[scV s pk ck pa ca, .string who, .string act, .string what, .slice pv v.length cv] W fun en w' => en = .returned (.tuple #[.slice none 0 0, .iface 36 (.int .i64 4)]) ∧ Below W.heap.size W w') := fun W hW => by
        have := typeC_err ckN s who act what y l a pk pa pv ck ca cv W ((h.up hbV).up hW) (by rw [← hvt.2]; exact HV.out W hW) (h8_of c1) c1 hxv ha hw1 hw2 hll har hto 4 hrt
        rw [hcl]
        exact this
      unfold scV at *
      clear h hv hb c1 c2 ha hw1 hw2 lv hvt hvz how hml hll hcl hto hxv har htf htl hrt hL
      go_enter Tryz.func3, Tryz.ntmps3
      go_wp2_with fail
      rw [← hV]
      refine (typed_any V).mono ?_
      rintro _ w1 ⟨rfl, hb1⟩
      clear hV
      obtain ⟨x0, x1⟩ := HB.out w1 hb1
      go_wp2_with fail
      refine (HT _ _ ?_ (bl_lies _ rfl)).mono ?_
      · exact kqt hb1 kqx
      rintro _ w2 ⟨⟨q2, c2, rfl, _⟩, hb2'⟩
      have hb2 : Below V.heap.size V w2 := kqt (kqt hb1 kqx) hb2'
      have HOC := HO.out.calls (HV.out w2 hb2)
      clear HT x0 x1
      go_wp2_with fail
      refine HOC.mono ?_
      rintro _ w3 ⟨⟨q3, c3, rfl, hR3⟩, hb3'⟩
      have hb3 : Below V.heap.size V w3 := kqt hb2 hb3'
      obtain ⟨x0, x1⟩ := HB.out w3 hb3
      clear hR3 HOC
      go_wp2_with fail
      refine (HTV.out _ hb3).mono ?_
      rintro _ w4 ⟨rfl, hb4'⟩
      have hb4 : Below V.heap.size V w4 := kqt hb3 hb4'
      have HTE := toldE_any 4 4 w4 (HG.out w4 hb4)
      rw [eV_not (by decide : (4 : Int) ≠ 0)] at HTE
      clear x0 x1
      go_wp2_with fail
      refine HTE.mono ?_
      rintro _ w5 ⟨rfl, hb5⟩
      go_wp2
      go_ret
      exact ⟨rfl, kqt hbV (kqt hb4 hb5)⟩
  · unfold scV at *
    clear h hv hb c1 c2 ha hw1 hw2 hL
    go_enter Tryz.func3, Tryz.ntmps3
    go_wp2_with fail
    rw [← hV]
    refine (typed_any V).mono ?_
    rintro _ w1 ⟨rfl, hb1⟩
    clear hV
    obtain ⟨x0, x1⟩ := HB.out w1 hb1
    go_wp2_with fail
    refine (HT _ _ ?_ (bl_lies _ rfl)).mono ?_
    · exact kqt hb1 kqx
    rintro _ w2 ⟨⟨q2, c2, rfl, _⟩, hb2'⟩
    have hb2 : Below V.heap.size V w2 := kqt (kqt hb1 kqx) hb2'
    have HOC := hE _ _ _ (HV.out w2 hb2)
    clear HT x0 x1
    go_wp2_with fail
    refine HOC.mono ?_
    rintro _ w3 ⟨rfl, hb3⟩
    go_wp2
    go_ret
    exact ⟨rfl, kqt hbV (kqt hb2 hb3)⟩
theorem cvals_walk :
    Calls Tryz.prog 3 #[scV s pk ck pa ca, .string who, .string act, .string what, .slice pv v.length cv] w fun e w' => e = .returned (.bool true) ∧ Below w.heap.size w w' := by
  by_cases hb : tpre s who act what [blN] = 0
  · exact cvals_good s who act what v pk pa pv ck ca cv w hL h hv hb
  · exact cvals_bad s who act what v pk pa pv ck ca cv w hL h hv hb
end
end Go.Proofs.YtgkbegomekhpcaaGreatDoor
