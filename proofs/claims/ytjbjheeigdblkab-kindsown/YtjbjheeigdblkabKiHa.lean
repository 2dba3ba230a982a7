/- Package kinds: Has, by walks of its own text. -/
import Derived.Test.YtjbjheeigdblkabKiO
import Derived.Test.YtjbjheeigdblkabKiZ
namespace Go.Proofs.Ytjbjheeigdblkab
open Go.RowKit
set_option linter.unusedVariables false
set_option linter.unusedSectionVars false
set_option maxRecDepth 100000

/-- The nodes are just this value. -/
def VTy (v : List Nd) (y : Nd) (l : Tp) : Prop := okV none (.cons y l .nil) ∧ v = y :: l.flat
theorem vty_of {v : List Nd} (h : vfault v = 0) : v.length ≤ 200 ∧ ∃ y l, VTy v y l := by
  obtain ⟨y, l, h1, h2, h3⟩ := val_treeK h
  exact ⟨by rw [h2]; simpa using h3, y, l, h1, h2⟩
theorem VTy.uniq {v : List Nd} {x y : Nd} {k l : Tp} (h : VTy v x k) (h2 : VTy v y l) : x = y ∧ k = l := by
  have := tp_flat_inj (.cons x k .nil) (.cons y l .nil) [] [] h.1.ar h2.1.ar rfl (by simp [Tp.flat, ← h.2, ← h2.2])
  cases this.1
  exact ⟨rfl, rfl⟩
/-- What Has tells, by number. -/
noncomputable def hfault (t v : List Nd) : Int := if kfault t = 0 then vfault v else kfault t
section
variable (t v : List Nd) (w : World) (p q : Option Addr) (c d : Nat) (ht : NL w p t) (hv : NL w q v) (hc : t.length ≤ c) (hcm : c ≤ maxLen) (hd : v.length ≤ d) (hdm : d ≤ maxLen)
include ht hv hc hcm hd hdm
set_option maxHeartbeats 2000000 in
theorem khas_err (h : hfault t v ≠ 0) :
    Calls Try.prog 6 #[.slice p t.length c, .slice q v.length d] w fun e w' => e = .returned (.tuple #[.bool false, .iface 48 (.int .i64 (hfault t v))]) ∧ Below w.heap.size w w' := by
  unfold hfault at *
  by_cases h1 : kfault t = 0
  · rw [if_pos h1] at h ⊢
    obtain ⟨h2, x, k, h3⟩ := kfault_zero h1
    have hC := read_ok t w p c ht hc hcm h2 x k h3
    have hV := fun W (hW : Below w.heap.size w W) => vcheck_any v q d W (hv.up hW) hd hdm
    rw [eV_not h] at hV
    generalize vfault v = n at *
    clear ht hv h1 h3
    go_enter Try.func6, Try.ntmps6
    go_wp2_with fail
    refine hC.mono ?_
    rintro _ w1 ⟨⟨q1, c1, rfl, hxw, hu⟩, hb1⟩
    have hV1 := fun o => hV (w1.alloc o) (kqA hb1)
    clear hC hV hu
    go_wp2_with fail
    refine (hV1 _).mono ?_
    rintro _ w2 ⟨rfl, hb2⟩
    go_wp2
    exact bodyPost_ret (v := .tuple #[.bool false, .iface 48 (.int .i64 n)]) (by simp [results, Try.results6, go_sem]) rfl ⟨rfl, kqt (kqA hb1) hb2⟩
  · rw [if_neg h1]
    have hC := read_err t w p c ht hc hcm h1
    generalize kfault t = n at *
    clear ht hv
    go_enter Try.func6, Try.ntmps6
    go_wp2_with fail
    refine hC.mono ?_
    rintro _ w1 ⟨rfl, hb1⟩
    go_wp2
    exact bodyPost_ret (v := .tuple #[.bool false, .iface 48 (.int .i64 n)]) (by simp [results, Try.results6, go_sem]) rfl ⟨rfl, kqA hb1⟩
set_option maxHeartbeats 2000000 in
theorem khas_ok (x y : Nd) (k l : Tp) (hlt : t.length ≤ 200) (hlv : v.length ≤ 200) (hk : KTy t x k) (hl : VTy v y l) (hz : vfault v = 0) :
    Calls Try.prog 6 #[.slice p t.length c, .slice q v.length d] w fun e w' => e = .returned (.tuple #[.bool (hs false (.cons y l .nil) (.cons x k .nil)), .nilIface]) ∧ Below w.heap.size w w' := by
  have hC := read_ok t w p c ht hc hcm hlt x k hk
  have hV := fun W (hW : Below w.heap.size w W) => vcheck_any v q d W (hv.up hW) hd hdm
  rw [eV_nil hz] at hV
  have hF := fun W (hW : Below w.heap.size w W) => (firstK v).yes hl.1.ar (z := []) (by rw [hl.2]; simp) (Below.refl _ W) (hv.up hW) rfl hd hdm (by omega)
  simp only [List.length_nil] at hF
  have hkf : k.flat.length ≤ 1000 := by rw [hk.2] at hlt; simp at hlt; omega
  have hlf : l.flat.length ≤ 1000 := by rw [hl.2] at hlv; simp at hlv; omega
  have HB := fun W v u S h1 h2 => hasK y l x k W v u S h1 h2 (T1.iff.1 hk.1) hl.1 hkf hlf
  generalize hs false (.cons y l .nil) (.cons x k .nil) = R at *
  clear ht hv hk hl hkf hlf hz
  unfold partV at *
  go_enter Try.func6, Try.ntmps6
  go_wp2_with fail
  refine hC.mono ?_
  rintro _ w1 ⟨⟨q1, c1, rfl, hxw, hu⟩, hb1⟩
  obtain ⟨V1, hV1⟩ : ∃ V1, V1 = w1.alloc (.cells #[.int .i64 x.op, .int .i64 x.n, .string x.s, .string x.t, .slice q1 k.len c1] 37) := ⟨_, rfl⟩
  have hb11 : Below w1.heap.size w1 V1 := by rw [hV1]; exact kqx
  have hB1 : PBk V1 w1.heap.size x (.slice q1 k.len c1) := by rw [hV1]; exact PBk.new w1 x _ rfl
  have hbV := kqt hb1 hb11
  clear hC
  go_wp2_with fail
  rw [← hV1]
  refine (hV V1 hbV).mono ?_
  rintro _ w2 ⟨rfl, hb2⟩
  have hb02 := kqt hbV hb2
  clear hV
  go_wp2_with fail
  refine (hF w2 hb02).mono ?_
  rintro _ w3 ⟨⟨u3, q3, c3, rfl, hyw, hv3, _, _, _⟩, hb3⟩
  obtain ⟨qu, cu, rfl, _⟩ := hv3.slice
  obtain ⟨V3, hV3⟩ : ∃ V3, V3 = w3.alloc (.cells #[.int .i64 y.op, .int .i64 y.n, .string y.s, .string y.t, .slice qu l.len cu] 37) := ⟨_, rfl⟩
  have hb33 : Below w3.heap.size w3 V3 := by rw [hV3]; exact kqx
  have hb13 : Below V1.heap.size V1 V3 := kqt hb2 (kqt hb3 hb33)
  have hB3 := hB1.up hb13
  obtain ⟨b0, b1, b2, b3, b4⟩ := hB3.cells
  rw [hV3] at b0 b1 b2 b3 b4
  have hC3 := HB V3 _ _ (fun _ => True) (((hu.up hb11).up hb13).sub (fun _ _ => trivial)) ((hv3.up hb33).sub (fun _ _ => trivial))
  have hb03 := kqt hbV hb13
  clear hF HB hu hv3
  go_wp2_with fail
  rw [← hV3]
  refine hC3.mono ?_
  rintro _ w4 ⟨rfl, hb4⟩
  go_wp2
  exact bodyPost_ret (v := .tuple #[.bool R, .nilIface]) (by simp [results, Try.results6, go_sem]) rfl ⟨rfl, kqt hb03 hb4⟩
end
end Go.Proofs.Ytjbjheeigdblkab
