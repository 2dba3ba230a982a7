/- Package kinds: Own; the statements' use of it. -/
import Derived.Test.YtckjndiepojgfaaGreatDoorG23
import Derived.Test.YtckjndiepojgfaaGreatDoorG18
import Derived.Test.YtckjndiepojgfaaGreatDoorG17
namespace Go.Proofs.YtckjndiepojgfaaGreatDoor
open Go.RowKit
set_option linter.unusedVariables false
set_option linter.unusedSectionVars false
set_option maxRecDepth 100000

section
variable (v : List Nd) (w : World) (q : Option Addr) (d : Nat) (hv : AK w v q d)
include hv
set_option maxHeartbeats 2000000 in
theorem kown_err (h : vfault v ≠ 0) :
    Calls Tryz.prog 14 #[.slice q v.length d] w fun e w' => e = .returned (.tuple #[.slice none 0 0, .iface 23 (.int .i64 (vfault v))]) ∧ Below w.heap.size w w' := by
  have hV := vcheck_any v q d w hv.nl hv.le hv.cm
  rw [eV_not h] at hV
  generalize vfault v = n at *
  clear hv
  go_enter Tryz.func14, Tryz.ntmps14
  go_wp2_with fail
  refine hV.mono ?_
  rintro _ w2 ⟨rfl, hb2⟩
  go_wp2
  exact bodyPost_ret (v := .tuple #[.slice none 0 0, .iface 23 (.int .i64 n)]) (by simp [results, Tryz.results14, go_sem]) rfl ⟨rfl, hb2⟩
set_option maxHeartbeats 2000000 in
theorem kown_ok (y : Nd) (l : Tp) (hlv : v.length ≤ 200) (hl : VTy v y l) (hz : vfault v = 0) :
    Calls Tryz.prog 14 #[.slice q v.length d] w fun e w' => FitRet w' (ow false (.cons y l .nil)).flat e ∧ Below w.heap.size w w' := by
  have hV := vcheck_any v q d w hv.nl hv.le hv.cm
  rw [eV_nil hz] at hV
  have hF := fun W (hW : Below w.heap.size w W) => (firstK v).yes hl.1.ar (z := []) (by rw [hl.2]; simp) (Below.refl _ W) (hv.nl.up hW) rfl hv.le hv.cm (by omega)
  simp only [List.length_nil] at hF
  have hlf : l.flat.length ≤ 300 := by rw [hl.2] at hlv; simp at hlv; omega
  have HB := fun W u S h1 h2 => ownK y l W u S h1 h2 hl.1 hlf
  have HN : Hid ((ow false (.cons y l .nil)).flat.length ≤ 100001) := by
    have := (ow_flat (.cons y l .nil)).1 hl.1
    simp [Tp.flat] at this
    show _ ≤ _
    omega
  generalize ow false (.cons y l .nil) = R at *
  clear hv hl hlf hz
  unfold partV at *
  go_enter Tryz.func14, Tryz.ntmps14
  go_wp2_with fail
  refine hV.mono ?_
  rintro _ w2 ⟨rfl, hb2⟩
  clear hV
  go_wp2_with fail
  refine (hF w2 hb2).mono ?_
  rintro _ w3 ⟨⟨u3, q3, c3, rfl, hyw, hv3, _, _, _⟩, hb3⟩
  obtain ⟨qu, cu, rfl, _⟩ := hv3.slice
  have hbk : ∀ o1, Below w3.heap.size w3 (w3.alloc o1) := fun o1 => kqx
  have HC := fun o1 => HB _ _ _ (hv3.up (hbk o1)) hyw
  clear hF HB hv3
  go_wp2_with fail
  refine (HC _).mono ?_
  rintro _ w4 ⟨⟨xj, kj, qj, cj, hR, rfl, hxj, hvj⟩, hb4⟩
  have HR : Hid (R.flat = xj :: kj.flat) := by show _ = _; rw [hR]; simp [Tp.flat]
  clear hR
  have hF := fit_any xj kj w4 _ _ hvj hxj (by have := HN.out; rw [HR.out] at this; simp at this; omega)
  unfold partV at hF
  clear HC
  go_wp2_with fail
  refine hF.mono ?_
  rintro en w5 ⟨hR5, hb5⟩
  have hb05 := kqt hb2 (kqt hb3 (kqt (hbk _) (kqt hb4 hb5)))
  rcases hR5 with ⟨hL, q5, c5, rfl, hn5, h1, h2⟩ | ⟨hL, rfl⟩
  · have HL : Hid ((xj :: kj.flat).length ≤ 200) := hL
    clear hL
    generalize xj :: kj.flat = L at *
    go_wp2
    exact bodyPost_ret (v := .tuple #[.slice q5 L.length c5, .nilIface]) (by simp [results, Tryz.results14, go_sem]) rfl ⟨by rw [HR.out]; exact .inl ⟨HL.out, q5, c5, rfl, hn5, h1, h2⟩, hb05⟩
  · have HL : Hid (200 < (xj :: kj.flat).length) := hL
    clear hL
    generalize xj :: kj.flat = L at *
    go_wp2
    exact bodyPost_ret (v := .tuple #[.slice none 0 0, .iface 23 (.int .i64 4)]) (by simp [results, Tryz.results14, go_sem]) rfl ⟨by rw [HR.out]; exact .inr ⟨HL.out, rfl⟩, hb05⟩
end
/-- Own has an answer. -/
def OwnsTo (v : List Nd) (y : Nd) (l : Tp) (z : Nd) (m : Tp) : Prop := v.length ≤ 200 ∧ VTy v y l ∧ vfault v = 0 ∧ ow false (.cons y l .nil) = .cons z m .nil ∧ m.flat.length + 1 ≤ 200
theorem OwnsTo.kty {v : List Nd} {y z : Nd} {l m : Tp} (h : OwnsTo v y l z m) : KTy (z :: m.flat) z m ∧ (z :: m.flat).length ≤ 200 := by
  obtain ⟨_, h1, _, h3, h4⟩ := h
  have := (own_ok h1.1).1
  rw [h3] at this
  exact ⟨⟨this, rfl⟩, by simp; omega⟩
theorem OwnsTo.calls {v : List Nd} {y z : Nd} {l m : Tp} (h : OwnsTo v y l z m) {w : World} {q : Option Addr} {d : Nat} (hv : AK w v q d) : Calls Tryz.prog 14 #[.slice q v.length d] w fun e w' => (∃ q' c', e = .returned (.tuple #[.slice q' (z :: m.flat).length c', .nilIface]) ∧ AK w' (z :: m.flat) q' c') ∧ Below w.heap.size w w' := by
  obtain ⟨lv, h1, h2, h3, h4⟩ := h
  have hf : (Tp.cons z m .nil).flat = z :: m.flat := by simp [Tp.flat]
  refine (kown_ok v w q d hv y l lv h1 h2).mono ?_
  rw [h3, hf]
  rintro en w' ⟨⟨_, q', c', rfl, g1, g2, g3⟩ | ⟨g, _⟩, hb⟩
  · exact ⟨⟨q', c', rfl, ⟨g1, g2, g3⟩⟩, hb⟩
  · simp at g; omega
theorem own_ways (v : List Nd) : (∃ y l z m, OwnsTo v y l z m) ∨ ∃ n : Int, ∀ (w : World) (q : Option Addr) (d : Nat), AK w v q d → Calls Tryz.prog 14 #[.slice q v.length d] w fun e w' => e = .returned (.tuple #[.slice none 0 0, .iface 23 (.int .i64 n)]) ∧ Below w.heap.size w w' := by
  by_cases h : vfault v = 0
  · obtain ⟨lv, y, l, hy⟩ := vty_of h
    obtain ⟨z, m, hj, _⟩ := (own_ok hy.1).1.of
    by_cases hs : m.flat.length + 1 ≤ 200
    · exact .inl ⟨y, l, z, m, lv, hy, h, hj, hs⟩
    · refine .inr ⟨4, fun w q d hv => (kown_ok v w q d hv y l lv hy h).mono ?_⟩
      rw [hj]
      rintro en w' ⟨⟨g, _⟩ | ⟨_, g⟩, hb⟩
      · simp [Tp.flat] at g; omega
      · exact ⟨g, hb⟩
  · exact .inr ⟨_, fun w q d hv => kown_err v w q d hv h⟩
end Go.Proofs.YtckjndiepojgfaaGreatDoor
