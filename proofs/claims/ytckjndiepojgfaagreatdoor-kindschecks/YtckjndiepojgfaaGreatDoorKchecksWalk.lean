/- KindsChecks: the walk of the statement's own function (written by gen_kchecks.py). -/
import Derived.Test.YtckjndiepojgfaaGreatDoorG25
import Derived.Test.YtckjndiepojgfaaGreatDoorG19
import Derived.Test.YtckjndiepojgfaaGreatDoorG24
import Derived.Test.YtckjndiepojgfaaGreatDoorG17
import Derived.Test.YtckjndiepojgfaaGreatDoorG11
import Derived.Test.YtckjndiepojgfaaGreatDoorG5
namespace Go.Proofs.YtckjndiepojgfaaGreatDoor
open Go.RowKit
set_option linter.unusedVariables false
set_option linter.unusedSimpArgs false
set_option linter.unusedSectionVars false
set_option maxRecDepth 100000

theorem AK.nothingC (w : World) : AK w [] none 0 := ⟨.inl rfl, Nat.le_refl _, Nat.zero_le _⟩
theorem same_selfC (L : List Nd) : sameNd L L = true := (sameNd_iff L L).2 rfl
theorem AK.sameC {a b : List Nd} {w : World} {p q : Option Addr} {c d : Nat} (ha : AK w a p c) (hb : AK w b q d) : Calls Tryz.prog 15 #[.slice p a.length c, .slice q b.length d] w fun e w' => e = .returned (.bool (sameNd a b)) ∧ Below w.heap.size w w' := by
  refine (sameNodes_any a b p q c d w ha.nl hb.nl (Nat.le_trans ha.le ha.cm) (Nat.le_trans hb.le hb.cm)).mono ?_
  rintro _ _ ⟨rfl, n, rfl⟩
  exact ⟨rfl, ⟨rfl, rfl, rfl, Nat.le_refl _, fun _ _ => rfl⟩⟩
theorem kfault_none : kfault [] = 1 := kfault_bad (by simp) (fun x k h => by have := h.2; cases this)
theorem hasRL {t v : List Nd} {x y : Nd} {k l : Tp} (hk : KTy t x k) (hl : VTy v y l) (hz : vfault v = 0) (lt : t.length ≤ 200) {w : World} {p q : Option Addr} {c d : Nat} (ha : AK w t p c) (hb : AK w v q d) : Calls Tryz.prog 11 #[.slice p t.length c, .slice q v.length d] w fun e w' => e = .returned (.bool (hs false (.cons y l .nil) (.cons x k .nil))) ∧ Below w.heap.size w w' := by
  obtain ⟨h1, rfl⟩ := hk
  obtain ⟨h2, rfl⟩ := hl
  exact hasK_all _ y l (Nat.lt_succ_self _) x k w p c q d ⟨ha.nl, ha.le, ha.cm⟩ ⟨hb.nl, hb.le, hb.cm⟩ h1 h2 hz (by simp at lt; omega)
theorem ownRL {v : List Nd} {y : Nd} {l : Tp} (hl : VTy v y l) (hz : vfault v = 0) {w : World} {q : Option Addr} {d : Nat} (hb : AK w v q d) : Calls Tryz.prog 13 #[.slice q v.length d] w fun e w' => KRet w' (ow false (.cons y l .nil)).flat e ∧ Below w.heap.size w w' := by
  obtain ⟨h2, rfl⟩ := hl
  exact ownRK y l w q d ⟨hb.nl, hb.le, hb.cm⟩ h2 hz
section
variable (t v : List Nd) (p q : Option Addr) (ca cb : Nat) (w : World) (ha : AK w t p ca) (hb : AK w v q cb) (hg : ErrVar w)
include ha hb hg
set_option maxHeartbeats 2000000 in
theorem kck_tb (h1 : kfault t ≠ 0) (h2 : vfault v ≠ 0) :
    Calls Tryz.prog 3 #[.slice p t.length ca, .slice q v.length cb] w fun e w' => e = .returned (.bool true) ∧ Below w.heap.size w w' := by
  have HG : Hid (∀ W, Below w.heap.size w W → ErrVar W) := fun W hW => ev_up hg hW
  have HK1 := fun W (hW : Below w.heap.size w W) => kindFault_any t W p ca (ha.nl.up hW) ha.le ha.cm
  have HCk := fun W (hW : Below w.heap.size w W) => (ha.up hW).check
  have HT1 := fun W (hW : Below w.heap.size w W) => toldE_any (kfault t) (kfault t) W (HG.out W hW)
  have HV := fun W (hW : Below w.heap.size w W) => valueFault_any v q cb W (hb.nl.up hW) hb.le hb.cm
  have HC0 := fun W => (AK.nothingC W).check
  have HT9 := fun W (hW : Below w.heap.size w W) => toldE_any 1 1 W (HG.out W hW)
  have HT0 := fun W (hW : Below w.heap.size w W) => toldE_any 0 0 W (HG.out W hW)
  have HT4 := fun W (hW : Below w.heap.size w W) => toldE_any 4 4 W (HG.out W hW)
  have HN := fun W => (AK.nothingC W).sameC (AK.nothingC W)
  rw [same_selfC] at HN
  rw [kfault_none] at HC0
  rw [beq_self_eq_true] at HT1 HT9 HT0 HT4
  rw [eV_zero] at HT0
  rw [eV_not (by omega : (4 : Int) ≠ 0)] at HT4
  rw [eV_not (by omega : (1 : Int) ≠ 0)] at HC0 HT9
  simp only [List.length_nil] at HC0 HN
  have hh : hfault t v = kfault t := by unfold hfault; rw [if_neg h1]
  have HH := fun W (hW : Below w.heap.size w W) => AK.has_err (ha.up hW) (hb.up hW) (by rw [hh]; exact h1)
  have HTh := fun W (hW : Below w.heap.size w W) => toldE_any (hfault t v) (hfault t v) W (HG.out W hW)
  rw [beq_self_eq_true, hh, eV_not h1] at HTh
  rw [hh] at HH
  rw [eV_not h1] at HCk HT1
  clear hh
  have HOw := fun W (hW : Below w.heap.size w W) => kown_err v W q cb (hb.up hW) h2
  have HT2 := fun W (hW : Below w.heap.size w W) => toldE_any (vfault v) (vfault v) W (HG.out W hW)
  rw [beq_self_eq_true, eV_not h2] at HT2
  have e2 : (vfault v == 0) = false := by rw [beq_eq_false_iff_ne]; exact h2
  generalize vfault v = n2 at *
  have e1 : (kfault t == 0) = false := by rw [beq_eq_false_iff_ne]; exact h1
  generalize kfault t = n1 at *
  clear h1
  clear ha hb hg
  go_enter Tryz.func3, Tryz.ntmps3
  go_wp2_with fail
  refine (HK1 _ (Below.refl _ _)).mono ?_
  rintro _ w1 ⟨rfl, k1'⟩
  have k1 := kqt (Below.refl _ _) k1'
  go_wp2_with fail
  refine (HCk _ k1).mono ?_
  rintro _ w2 ⟨rfl, k2'⟩
  have k2 := kqt k1 k2'
  go_wp2_with fail
  refine (HT1 _ k2).mono ?_
  rintro _ w3 ⟨rfl, k3'⟩
  have k3 := kqt k2 k3'
  go_wp2_with fail
  refine (HH _ k3).mono ?_
  rintro _ w4 ⟨rfl, k4'⟩
  have k4 := kqt k3 k4'
  go_wp2_with fail
  refine (HTh _ k4).mono ?_
  rintro _ w5 ⟨rfl, k5'⟩
  have k5 := kqt k4 k5'
  go_wp2_with fail
  refine (HV _ k5).mono ?_
  rintro _ w6 ⟨rfl, k6'⟩
  have k6 := kqt k5 k6'
  go_wp2_with fail
  refine (HOw _ k6).mono ?_
  rintro _ w7 ⟨rfl, k7'⟩
  have k7 := kqt k6 k7'
  go_wp2_with fail
  refine (HT2 _ k7).mono ?_
  rintro _ w8 ⟨rfl, k8'⟩
  have k8 := kqt k7 k8'
  go_wp2_with fail
  refine (HN _).mono ?_
  rintro _ w9 ⟨rfl, k9'⟩
  have k9 := kqt k8 k9'
  go_wp2_with fail
  refine (HC0 _).mono ?_
  rintro _ w10 ⟨rfl, k10'⟩
  have k10 := kqt k9 k10'
  go_wp2_with fail
  refine (HT9 _ k10).mono ?_
  rintro _ w11 ⟨rfl, k11'⟩
  have k11 := kqt k10 k11'
  go_wp2
  go_ret
  exact ⟨rfl, k11⟩
set_option maxHeartbeats 2000000 in
theorem kck_tf (h1 : kfault t ≠ 0) (y : Nd) (l : Tp) (lv : v.length ≤ 200) (hl : VTy v y l) (hz : vfault v = 0) (hL : 200 < (ow false (.cons y l .nil)).flat.length) :
    Calls Tryz.prog 3 #[.slice p t.length ca, .slice q v.length cb] w fun e w' => e = .returned (.bool true) ∧ Below w.heap.size w w' := by
  have HG : Hid (∀ W, Below w.heap.size w W → ErrVar W) := fun W hW => ev_up hg hW
  have HK1 := fun W (hW : Below w.heap.size w W) => kindFault_any t W p ca (ha.nl.up hW) ha.le ha.cm
  have HCk := fun W (hW : Below w.heap.size w W) => (ha.up hW).check
  have HT1 := fun W (hW : Below w.heap.size w W) => toldE_any (kfault t) (kfault t) W (HG.out W hW)
  have HV := fun W (hW : Below w.heap.size w W) => valueFault_any v q cb W (hb.nl.up hW) hb.le hb.cm
  have HC0 := fun W => (AK.nothingC W).check
  have HT9 := fun W (hW : Below w.heap.size w W) => toldE_any 1 1 W (HG.out W hW)
  have HT0 := fun W (hW : Below w.heap.size w W) => toldE_any 0 0 W (HG.out W hW)
  have HT4 := fun W (hW : Below w.heap.size w W) => toldE_any 4 4 W (HG.out W hW)
  have HN := fun W => (AK.nothingC W).sameC (AK.nothingC W)
  rw [same_selfC] at HN
  rw [kfault_none] at HC0
  rw [beq_self_eq_true] at HT1 HT9 HT0 HT4
  rw [eV_zero] at HT0
  rw [eV_not (by omega : (4 : Int) ≠ 0)] at HT4
  rw [eV_not (by omega : (1 : Int) ≠ 0)] at HC0 HT9
  simp only [List.length_nil] at HC0 HN
  have hh : hfault t v = kfault t := by unfold hfault; rw [if_neg h1]
  have HH := fun W (hW : Below w.heap.size w W) => AK.has_err (ha.up hW) (hb.up hW) (by rw [hh]; exact h1)
  have HTh := fun W (hW : Below w.heap.size w W) => toldE_any (hfault t v) (hfault t v) W (HG.out W hW)
  rw [beq_self_eq_true, hh, eV_not h1] at HTh
  rw [hh] at HH
  rw [eV_not h1] at HCk HT1
  clear hh
  have HOk := fun W (hW : Below w.heap.size w W) => ownRL hl hz (hb.up hW)
  have HOw0 := fun W (hW : Below w.heap.size w W) => kown_ok v W q cb (hb.up hW) y l lv hl hz
  rw [hz] at HV
  generalize (ow false (.cons y l .nil)).flat = L at *
  have HOw : ∀ W, Below w.heap.size w W → Calls Tryz.prog 14 #[.slice q v.length cb] W fun e w' => e = .returned (.tuple #[.slice none 0 0, .iface 23 (.int .i64 4)]) ∧ Below W.heap.size W w' := fun W hW => (HOw0 W hW).mono (by
    rintro en w' ⟨⟨g, _⟩ | ⟨_, g⟩, h⟩
    · omega
    · exact ⟨g, h⟩)
  have i9 : (200 : Int) < (L.length : Int) := by omega
  clear HOw0 hl hz lv
  have e1 : (kfault t == 0) = false := by rw [beq_eq_false_iff_ne]; exact h1
  generalize kfault t = n1 at *
  clear h1
  clear ha hb hg
  go_enter Tryz.func3, Tryz.ntmps3
  go_wp2_with fail
  refine (HK1 _ (Below.refl _ _)).mono ?_
  rintro _ w1 ⟨rfl, k1'⟩
  have k1 := kqt (Below.refl _ _) k1'
  go_wp2_with fail
  refine (HCk _ k1).mono ?_
  rintro _ w2 ⟨rfl, k2'⟩
  have k2 := kqt k1 k2'
  go_wp2_with fail
  refine (HT1 _ k2).mono ?_
  rintro _ w3 ⟨rfl, k3'⟩
  have k3 := kqt k2 k3'
  go_wp2_with fail
  refine (HH _ k3).mono ?_
  rintro _ w4 ⟨rfl, k4'⟩
  have k4 := kqt k3 k4'
  go_wp2_with fail
  refine (HTh _ k4).mono ?_
  rintro _ w5 ⟨rfl, k5'⟩
  have k5 := kqt k4 k5'
  go_wp2_with fail
  refine (HV _ k5).mono ?_
  rintro _ w6 ⟨rfl, k6'⟩
  have k6 := kqt k5 k6'
  go_wp2_with fail
  refine (HOk _ k6).mono ?_
  rintro _ w7 ⟨⟨q8, c8, rfl, hA8⟩, k7'⟩
  have k7 := kqt k6 k7'
  clear hA8
  go_wp2_with fail
  refine (HOw _ k7).mono ?_
  rintro _ w8 ⟨rfl, k8'⟩
  have k8 := kqt k7 k8'
  go_wp2_with fail
  refine (HT4 _ k8).mono ?_
  rintro _ w9 ⟨rfl, k9'⟩
  have k9 := kqt k8 k9'
  go_wp2_with fail
  refine (HN _).mono ?_
  rintro _ w10 ⟨rfl, k10'⟩
  have k10 := kqt k9 k10'
  go_wp2_with fail
  refine (HC0 _).mono ?_
  rintro _ w11 ⟨rfl, k11'⟩
  have k11 := kqt k10 k11'
  go_wp2_with fail
  refine (HT9 _ k11).mono ?_
  rintro _ w12 ⟨rfl, k12'⟩
  have k12 := kqt k11 k12'
  go_wp2
  go_ret
  exact ⟨rfl, k12⟩
set_option maxHeartbeats 2000000 in
theorem kck_ts (h1 : kfault t ≠ 0) (y : Nd) (l : Tp) (lv : v.length ≤ 200) (hl : VTy v y l) (hz : vfault v = 0) (hL : (ow false (.cons y l .nil)).flat.length ≤ 200) :
    Calls Tryz.prog 3 #[.slice p t.length ca, .slice q v.length cb] w fun e w' => e = .returned (.bool true) ∧ Below w.heap.size w w' := by
  have HG : Hid (∀ W, Below w.heap.size w W → ErrVar W) := fun W hW => ev_up hg hW
  have HK1 := fun W (hW : Below w.heap.size w W) => kindFault_any t W p ca (ha.nl.up hW) ha.le ha.cm
  have HCk := fun W (hW : Below w.heap.size w W) => (ha.up hW).check
  have HT1 := fun W (hW : Below w.heap.size w W) => toldE_any (kfault t) (kfault t) W (HG.out W hW)
  have HV := fun W (hW : Below w.heap.size w W) => valueFault_any v q cb W (hb.nl.up hW) hb.le hb.cm
  have HC0 := fun W => (AK.nothingC W).check
  have HT9 := fun W (hW : Below w.heap.size w W) => toldE_any 1 1 W (HG.out W hW)
  have HT0 := fun W (hW : Below w.heap.size w W) => toldE_any 0 0 W (HG.out W hW)
  have HT4 := fun W (hW : Below w.heap.size w W) => toldE_any 4 4 W (HG.out W hW)
  have HN := fun W => (AK.nothingC W).sameC (AK.nothingC W)
  rw [same_selfC] at HN
  rw [kfault_none] at HC0
  rw [beq_self_eq_true] at HT1 HT9 HT0 HT4
  rw [eV_zero] at HT0
  rw [eV_not (by omega : (4 : Int) ≠ 0)] at HT4
  rw [eV_not (by omega : (1 : Int) ≠ 0)] at HC0 HT9
  simp only [List.length_nil] at HC0 HN
  have hh : hfault t v = kfault t := by unfold hfault; rw [if_neg h1]
  have HH := fun W (hW : Below w.heap.size w W) => AK.has_err (ha.up hW) (hb.up hW) (by rw [hh]; exact h1)
  have HTh := fun W (hW : Below w.heap.size w W) => toldE_any (hfault t v) (hfault t v) W (HG.out W hW)
  rw [beq_self_eq_true, hh, eV_not h1] at HTh
  rw [hh] at HH
  rw [eV_not h1] at HCk HT1
  clear hh
  have HOk := fun W (hW : Below w.heap.size w W) => ownRL hl hz (hb.up hW)
  have HOw0 := fun W (hW : Below w.heap.size w W) => kown_ok v W q cb (hb.up hW) y l lv hl hz
  rw [hz] at HV
  generalize (ow false (.cons y l .nil)).flat = L at *
  have HOw : ∀ W, Below w.heap.size w W → Calls Tryz.prog 14 #[.slice q v.length cb] W fun e w' => (∃ q' c', e = .returned (.tuple #[.slice q' L.length c', .nilIface]) ∧ AK w' L q' c') ∧ Below W.heap.size W w' := fun W hW => (HOw0 W hW).mono (by
    rintro en w' ⟨⟨_, q', c', g, g1, g2, g3⟩ | ⟨g, _⟩, h⟩
    · exact ⟨⟨q', c', g, ⟨g1, g2, g3⟩⟩, h⟩
    · omega)
  have i9 : ¬ (200 : Int) < (L.length : Int) := by omega
  clear HOw0 hl hz lv
  have e1 : (kfault t == 0) = false := by rw [beq_eq_false_iff_ne]; exact h1
  generalize kfault t = n1 at *
  clear h1
  clear ha hb hg
  go_enter Tryz.func3, Tryz.ntmps3
  go_wp2_with fail
  refine (HK1 _ (Below.refl _ _)).mono ?_
  rintro _ w1 ⟨rfl, k1'⟩
  have k1 := kqt (Below.refl _ _) k1'
  go_wp2_with fail
  refine (HCk _ k1).mono ?_
  rintro _ w2 ⟨rfl, k2'⟩
  have k2 := kqt k1 k2'
  go_wp2_with fail
  refine (HT1 _ k2).mono ?_
  rintro _ w3 ⟨rfl, k3'⟩
  have k3 := kqt k2 k3'
  go_wp2_with fail
  refine (HH _ k3).mono ?_
  rintro _ w4 ⟨rfl, k4'⟩
  have k4 := kqt k3 k4'
  go_wp2_with fail
  refine (HTh _ k4).mono ?_
  rintro _ w5 ⟨rfl, k5'⟩
  have k5 := kqt k4 k5'
  go_wp2_with fail
  refine (HV _ k5).mono ?_
  rintro _ w6 ⟨rfl, k6'⟩
  have k6 := kqt k5 k6'
  go_wp2_with fail
  refine (HOk _ k6).mono ?_
  rintro _ w7 ⟨⟨q8, c8, rfl, hA8⟩, k7'⟩
  have k7 := kqt k6 k7'
  have HA8 : Hid (AK w7 L q8 c8) := ⟨hA8.nl, hA8.le, hA8.cm⟩
  clear hA8
  go_wp2_with fail
  refine (HOw _ k7).mono ?_
  rintro _ w8 ⟨⟨q9, c9, rfl, hA9⟩, k8'⟩
  have k8 := kqt k7 k8'
  have HA9 : Hid (AK w8 L q9 c9) := hA9
  clear hA9
  go_wp2_with fail
  refine (HT0 _ k8).mono ?_
  rintro _ w9 ⟨rfl, k9'⟩
  have k9 := kqt k8 k9'
  have HS := (HA9.out.up k9').sameC (HA8.out.up (kqt k8' k9'))
  rw [same_selfC] at HS
  go_wp2_with fail
  refine (HS).mono ?_
  rintro _ w10 ⟨rfl, k10'⟩
  have k10 := kqt k9 k10'
  go_wp2_with fail
  refine (HC0 _).mono ?_
  rintro _ w11 ⟨rfl, k11'⟩
  have k11 := kqt k10 k11'
  go_wp2_with fail
  refine (HT9 _ k11).mono ?_
  rintro _ w12 ⟨rfl, k12'⟩
  have k12 := kqt k11 k12'
  go_wp2
  go_ret
  exact ⟨rfl, k12⟩
set_option maxHeartbeats 2000000 in
theorem kck_vb (x : Nd) (k : Tp) (lt : t.length ≤ 200) (hk : KTy t x k) (h2 : vfault v ≠ 0) :
    Calls Tryz.prog 3 #[.slice p t.length ca, .slice q v.length cb] w fun e w' => e = .returned (.bool true) ∧ Below w.heap.size w w' := by
  have HG : Hid (∀ W, Below w.heap.size w W → ErrVar W) := fun W hW => ev_up hg hW
  have HK1 := fun W (hW : Below w.heap.size w W) => kindFault_any t W p ca (ha.nl.up hW) ha.le ha.cm
  have HCk := fun W (hW : Below w.heap.size w W) => (ha.up hW).check
  have HT1 := fun W (hW : Below w.heap.size w W) => toldE_any (kfault t) (kfault t) W (HG.out W hW)
  have HV := fun W (hW : Below w.heap.size w W) => valueFault_any v q cb W (hb.nl.up hW) hb.le hb.cm
  have HC0 := fun W => (AK.nothingC W).check
  have HT9 := fun W (hW : Below w.heap.size w W) => toldE_any 1 1 W (HG.out W hW)
  have HT0 := fun W (hW : Below w.heap.size w W) => toldE_any 0 0 W (HG.out W hW)
  have HT4 := fun W (hW : Below w.heap.size w W) => toldE_any 4 4 W (HG.out W hW)
  have HN := fun W => (AK.nothingC W).sameC (AK.nothingC W)
  rw [same_selfC] at HN
  rw [kfault_none] at HC0
  rw [beq_self_eq_true] at HT1 HT9 HT0 HT4
  rw [eV_zero] at HT0
  rw [eV_not (by omega : (4 : Int) ≠ 0)] at HT4
  rw [eV_not (by omega : (1 : Int) ≠ 0)] at HC0 HT9
  simp only [List.length_nil] at HC0 HN
  rw [kfault_ok lt hk] at HK1 HCk HT1
  rw [eV_zero] at HCk HT1
  have HOw := fun W (hW : Below w.heap.size w W) => kown_err v W q cb (hb.up hW) h2
  have HT2 := fun W (hW : Below w.heap.size w W) => toldE_any (vfault v) (vfault v) W (HG.out W hW)
  rw [beq_self_eq_true, eV_not h2] at HT2
  have hh : hfault t v = vfault v := by unfold hfault; rw [if_pos (kfault_ok lt hk)]
  have HH := fun W (hW : Below w.heap.size w W) => AK.has_err (ha.up hW) (hb.up hW) (by rw [hh]; exact h2)
  rw [hh] at HH
  have HTh := HT2
  clear hh
  have e2 : (vfault v == 0) = false := by rw [beq_eq_false_iff_ne]; exact h2
  generalize vfault v = n2 at *
  clear hk lt
  clear ha hb hg
  go_enter Tryz.func3, Tryz.ntmps3
  go_wp2_with fail
  refine (HK1 _ (Below.refl _ _)).mono ?_
  rintro _ w1 ⟨rfl, k1'⟩
  have k1 := kqt (Below.refl _ _) k1'
  go_wp2_with fail
  refine (HCk _ k1).mono ?_
  rintro _ w2 ⟨rfl, k2'⟩
  have k2 := kqt k1 k2'
  go_wp2_with fail
  refine (HT1 _ k2).mono ?_
  rintro _ w3 ⟨rfl, k3'⟩
  have k3 := kqt k2 k3'
  go_wp2_with fail
  refine (HV _ k3).mono ?_
  rintro _ w4 ⟨rfl, k4'⟩
  have k4 := kqt k3 k4'
  go_wp2_with fail
  refine (HH _ k4).mono ?_
  rintro _ w5 ⟨rfl, k5'⟩
  have k5 := kqt k4 k5'
  go_wp2_with fail
  refine (HTh _ k5).mono ?_
  rintro _ w6 ⟨rfl, k6'⟩
  have k6 := kqt k5 k6'
  go_wp2_with fail
  refine (HV _ k6).mono ?_
  rintro _ w7 ⟨rfl, k7'⟩
  have k7 := kqt k6 k7'
  go_wp2_with fail
  refine (HOw _ k7).mono ?_
  rintro _ w8 ⟨rfl, k8'⟩
  have k8 := kqt k7 k8'
  go_wp2_with fail
  refine (HT2 _ k8).mono ?_
  rintro _ w9 ⟨rfl, k9'⟩
  have k9 := kqt k8 k9'
  go_wp2_with fail
  refine (HN _).mono ?_
  rintro _ w10 ⟨rfl, k10'⟩
  have k10 := kqt k9 k10'
  go_wp2_with fail
  refine (HC0 _).mono ?_
  rintro _ w11 ⟨rfl, k11'⟩
  have k11 := kqt k10 k11'
  go_wp2_with fail
  refine (HT9 _ k11).mono ?_
  rintro _ w12 ⟨rfl, k12'⟩
  have k12 := kqt k11 k12'
  go_wp2
  go_ret
  exact ⟨rfl, k12⟩
set_option maxHeartbeats 2000000 in
theorem kck_of (x : Nd) (k : Tp) (lt : t.length ≤ 200) (hk : KTy t x k) (y : Nd) (l : Tp) (lv : v.length ≤ 200) (hl : VTy v y l) (hz : vfault v = 0) (hL : 200 < (ow false (.cons y l .nil)).flat.length) :
    Calls Tryz.prog 3 #[.slice p t.length ca, .slice q v.length cb] w fun e w' => e = .returned (.bool true) ∧ Below w.heap.size w w' := by
  have HG : Hid (∀ W, Below w.heap.size w W → ErrVar W) := fun W hW => ev_up hg hW
  have HK1 := fun W (hW : Below w.heap.size w W) => kindFault_any t W p ca (ha.nl.up hW) ha.le ha.cm
  have HCk := fun W (hW : Below w.heap.size w W) => (ha.up hW).check
  have HT1 := fun W (hW : Below w.heap.size w W) => toldE_any (kfault t) (kfault t) W (HG.out W hW)
  have HV := fun W (hW : Below w.heap.size w W) => valueFault_any v q cb W (hb.nl.up hW) hb.le hb.cm
  have HC0 := fun W => (AK.nothingC W).check
  have HT9 := fun W (hW : Below w.heap.size w W) => toldE_any 1 1 W (HG.out W hW)
  have HT0 := fun W (hW : Below w.heap.size w W) => toldE_any 0 0 W (HG.out W hW)
  have HT4 := fun W (hW : Below w.heap.size w W) => toldE_any 4 4 W (HG.out W hW)
  have HN := fun W => (AK.nothingC W).sameC (AK.nothingC W)
  rw [same_selfC] at HN
  rw [kfault_none] at HC0
  rw [beq_self_eq_true] at HT1 HT9 HT0 HT4
  rw [eV_zero] at HT0
  rw [eV_not (by omega : (4 : Int) ≠ 0)] at HT4
  rw [eV_not (by omega : (1 : Int) ≠ 0)] at HC0 HT9
  simp only [List.length_nil] at HC0 HN
  rw [kfault_ok lt hk] at HK1 HCk HT1
  rw [eV_zero] at HCk HT1
  have HOk := fun W (hW : Below w.heap.size w W) => ownRL hl hz (hb.up hW)
  have HOw0 := fun W (hW : Below w.heap.size w W) => kown_ok v W q cb (hb.up hW) y l lv hl hz
  rw [hz] at HV
  have HHk := fun W (hW : Below w.heap.size w W) => hasRL hk hl hz lt (ha.up hW) (hb.up hW)
  have HH := fun W (hW : Below w.heap.size w W) => AK.has (ha.up hW) (hb.up hW) lt lv hk hl hz
  generalize hs false (.cons y l .nil) (.cons x k .nil) = bb at *
  have hne : (bb != bb) = false := by cases bb <;> rfl
  generalize (ow false (.cons y l .nil)).flat = L at *
  have HOw : ∀ W, Below w.heap.size w W → Calls Tryz.prog 14 #[.slice q v.length cb] W fun e w' => e = .returned (.tuple #[.slice none 0 0, .iface 23 (.int .i64 4)]) ∧ Below W.heap.size W w' := fun W hW => (HOw0 W hW).mono (by
    rintro en w' ⟨⟨g, _⟩ | ⟨_, g⟩, h⟩
    · omega
    · exact ⟨g, h⟩)
  have i9 : (200 : Int) < (L.length : Int) := by omega
  clear HOw0 hl hz lv
  clear hk lt
  clear ha hb hg
  go_enter Tryz.func3, Tryz.ntmps3
  go_wp2_with fail
  refine (HK1 _ (Below.refl _ _)).mono ?_
  rintro _ w1 ⟨rfl, k1'⟩
  have k1 := kqt (Below.refl _ _) k1'
  go_wp2_with fail
  refine (HCk _ k1).mono ?_
  rintro _ w2 ⟨rfl, k2'⟩
  have k2 := kqt k1 k2'
  go_wp2_with fail
  refine (HT1 _ k2).mono ?_
  rintro _ w3 ⟨rfl, k3'⟩
  have k3 := kqt k2 k3'
  go_wp2_with fail
  refine (HV _ k3).mono ?_
  rintro _ w4 ⟨rfl, k4'⟩
  have k4 := kqt k3 k4'
  go_wp2_with fail
  refine (HHk _ k4).mono ?_
  rintro _ w5 ⟨rfl, k5'⟩
  have k5 := kqt k4 k5'
  go_wp2_with fail
  refine (HH _ k5).mono ?_
  rintro _ w6 ⟨rfl, k6'⟩
  have k6 := kqt k5 k6'
  go_wp2_with fail
  refine (HT0 _ k6).mono ?_
  rintro _ w7 ⟨rfl, k7'⟩
  have k7 := kqt k6 k7'
  go_wp2_with fail
  refine (HV _ k7).mono ?_
  rintro _ w8 ⟨rfl, k8'⟩
  have k8 := kqt k7 k8'
  go_wp2_with fail
  refine (HOk _ k8).mono ?_
  rintro _ w9 ⟨⟨q8, c8, rfl, hA8⟩, k9'⟩
  have k9 := kqt k8 k9'
  clear hA8
  go_wp2_with fail
  refine (HOw _ k9).mono ?_
  rintro _ w10 ⟨rfl, k10'⟩
  have k10 := kqt k9 k10'
  go_wp2_with fail
  refine (HT4 _ k10).mono ?_
  rintro _ w11 ⟨rfl, k11'⟩
  have k11 := kqt k10 k11'
  go_wp2_with fail
  refine (HN _).mono ?_
  rintro _ w12 ⟨rfl, k12'⟩
  have k12 := kqt k11 k12'
  go_wp2_with fail
  refine (HC0 _).mono ?_
  rintro _ w13 ⟨rfl, k13'⟩
  have k13 := kqt k12 k13'
  go_wp2_with fail
  refine (HT9 _ k13).mono ?_
  rintro _ w14 ⟨rfl, k14'⟩
  have k14 := kqt k13 k14'
  go_wp2
  go_ret
  exact ⟨rfl, k14⟩
set_option maxHeartbeats 2000000 in
theorem kck_os (x : Nd) (k : Tp) (lt : t.length ≤ 200) (hk : KTy t x k) (y : Nd) (l : Tp) (lv : v.length ≤ 200) (hl : VTy v y l) (hz : vfault v = 0) (hL : (ow false (.cons y l .nil)).flat.length ≤ 200) :
    Calls Tryz.prog 3 #[.slice p t.length ca, .slice q v.length cb] w fun e w' => e = .returned (.bool true) ∧ Below w.heap.size w w' := by
  have HG : Hid (∀ W, Below w.heap.size w W → ErrVar W) := fun W hW => ev_up hg hW
  have HK1 := fun W (hW : Below w.heap.size w W) => kindFault_any t W p ca (ha.nl.up hW) ha.le ha.cm
  have HCk := fun W (hW : Below w.heap.size w W) => (ha.up hW).check
  have HT1 := fun W (hW : Below w.heap.size w W) => toldE_any (kfault t) (kfault t) W (HG.out W hW)
  have HV := fun W (hW : Below w.heap.size w W) => valueFault_any v q cb W (hb.nl.up hW) hb.le hb.cm
  have HC0 := fun W => (AK.nothingC W).check
  have HT9 := fun W (hW : Below w.heap.size w W) => toldE_any 1 1 W (HG.out W hW)
  have HT0 := fun W (hW : Below w.heap.size w W) => toldE_any 0 0 W (HG.out W hW)
  have HT4 := fun W (hW : Below w.heap.size w W) => toldE_any 4 4 W (HG.out W hW)
  have HN := fun W => (AK.nothingC W).sameC (AK.nothingC W)
  rw [same_selfC] at HN
  rw [kfault_none] at HC0
  rw [beq_self_eq_true] at HT1 HT9 HT0 HT4
  rw [eV_zero] at HT0
  rw [eV_not (by omega : (4 : Int) ≠ 0)] at HT4
  rw [eV_not (by omega : (1 : Int) ≠ 0)] at HC0 HT9
  simp only [List.length_nil] at HC0 HN
  rw [kfault_ok lt hk] at HK1 HCk HT1
  rw [eV_zero] at HCk HT1
  have HOk := fun W (hW : Below w.heap.size w W) => ownRL hl hz (hb.up hW)
  have HOw0 := fun W (hW : Below w.heap.size w W) => kown_ok v W q cb (hb.up hW) y l lv hl hz
  rw [hz] at HV
  have HHk := fun W (hW : Below w.heap.size w W) => hasRL hk hl hz lt (ha.up hW) (hb.up hW)
  have HH := fun W (hW : Below w.heap.size w W) => AK.has (ha.up hW) (hb.up hW) lt lv hk hl hz
  generalize hs false (.cons y l .nil) (.cons x k .nil) = bb at *
  have hne : (bb != bb) = false := by cases bb <;> rfl
  generalize (ow false (.cons y l .nil)).flat = L at *
  have HOw : ∀ W, Below w.heap.size w W → Calls Tryz.prog 14 #[.slice q v.length cb] W fun e w' => (∃ q' c', e = .returned (.tuple #[.slice q' L.length c', .nilIface]) ∧ AK w' L q' c') ∧ Below W.heap.size W w' := fun W hW => (HOw0 W hW).mono (by
    rintro en w' ⟨⟨_, q', c', g, g1, g2, g3⟩ | ⟨g, _⟩, h⟩
    · exact ⟨⟨q', c', g, ⟨g1, g2, g3⟩⟩, h⟩
    · omega)
  have i9 : ¬ (200 : Int) < (L.length : Int) := by omega
  clear HOw0 hl hz lv
  clear hk lt
  clear ha hb hg
  go_enter Tryz.func3, Tryz.ntmps3
  go_wp2_with fail
  refine (HK1 _ (Below.refl _ _)).mono ?_
  rintro _ w1 ⟨rfl, k1'⟩
  have k1 := kqt (Below.refl _ _) k1'
  go_wp2_with fail
  refine (HCk _ k1).mono ?_
  rintro _ w2 ⟨rfl, k2'⟩
  have k2 := kqt k1 k2'
  go_wp2_with fail
  refine (HT1 _ k2).mono ?_
  rintro _ w3 ⟨rfl, k3'⟩
  have k3 := kqt k2 k3'
  go_wp2_with fail
  refine (HV _ k3).mono ?_
  rintro _ w4 ⟨rfl, k4'⟩
  have k4 := kqt k3 k4'
  go_wp2_with fail
  refine (HHk _ k4).mono ?_
  rintro _ w5 ⟨rfl, k5'⟩
  have k5 := kqt k4 k5'
  go_wp2_with fail
  refine (HH _ k5).mono ?_
  rintro _ w6 ⟨rfl, k6'⟩
  have k6 := kqt k5 k6'
  go_wp2_with fail
  refine (HT0 _ k6).mono ?_
  rintro _ w7 ⟨rfl, k7'⟩
  have k7 := kqt k6 k7'
  go_wp2_with fail
  refine (HV _ k7).mono ?_
  rintro _ w8 ⟨rfl, k8'⟩
  have k8 := kqt k7 k8'
  go_wp2_with fail
  refine (HOk _ k8).mono ?_
  rintro _ w9 ⟨⟨q8, c8, rfl, hA8⟩, k9'⟩
  have k9 := kqt k8 k9'
  have HA8 : Hid (AK w9 L q8 c8) := ⟨hA8.nl, hA8.le, hA8.cm⟩
  clear hA8
  go_wp2_with fail
  refine (HOw _ k9).mono ?_
  rintro _ w10 ⟨⟨q9, c9, rfl, hA9⟩, k10'⟩
  have k10 := kqt k9 k10'
  have HA9 : Hid (AK w10 L q9 c9) := hA9
  clear hA9
  go_wp2_with fail
  refine (HT0 _ k10).mono ?_
  rintro _ w11 ⟨rfl, k11'⟩
  have k11 := kqt k10 k11'
  have HS := (HA9.out.up k11').sameC (HA8.out.up (kqt k10' k11'))
  rw [same_selfC] at HS
  go_wp2_with fail
  refine (HS).mono ?_
  rintro _ w12 ⟨rfl, k12'⟩
  have k12 := kqt k11 k12'
  go_wp2_with fail
  refine (HC0 _).mono ?_
  rintro _ w13 ⟨rfl, k13'⟩
  have k13 := kqt k12 k13'
  go_wp2_with fail
  refine (HT9 _ k13).mono ?_
  rintro _ w14 ⟨rfl, k14'⟩
  have k14 := kqt k13 k14'
  go_wp2
  go_ret
  exact ⟨rfl, k14⟩
theorem kchecks_walk :
    Calls Tryz.prog 3 #[.slice p t.length ca, .slice q v.length cb] w fun e w' => e = .returned (.bool true) ∧ Below w.heap.size w w' := by
  by_cases h1 : kfault t = 0
  · obtain ⟨lt, x, k, hk⟩ := kfault_zero h1
    by_cases h2 : vfault v = 0
    · obtain ⟨lv, y, l, hl⟩ := vty_of h2
      by_cases hL : (ow false (.cons y l .nil)).flat.length ≤ 200
      · exact kck_os t v p q ca cb w ha hb hg x k lt hk y l lv hl h2 hL
      · exact kck_of t v p q ca cb w ha hb hg x k lt hk y l lv hl h2 (by omega)
    · exact kck_vb t v p q ca cb w ha hb hg x k lt hk h2
  · by_cases h2 : vfault v = 0
    · obtain ⟨lv, y, l, hl⟩ := vty_of h2
      by_cases hL : (ow false (.cons y l .nil)).flat.length ≤ 200
      · exact kck_ts t v p q ca cb w ha hb hg h1 y l lv hl h2 hL
      · exact kck_tf t v p q ca cb w ha hb hg h1 y l lv hl h2 (by omega)
    · exact kck_tb t v p q ca cb w ha hb hg h1 h2
end
end Go.Proofs.YtckjndiepojgfaaGreatDoor
