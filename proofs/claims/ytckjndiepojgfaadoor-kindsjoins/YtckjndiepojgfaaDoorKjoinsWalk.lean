/- KindsJoins: the walk of the statement's own function. -/
import Derived.Test.YtckjndiepojgfaaDoorG17
import Derived.Test.YtckjndiepojgfaaDoorG15
import Derived.Test.YtckjndiepojgfaaDoorG19
import Derived.Test.YtckjndiepojgfaaDoorG8
namespace Go.Proofs.YtckjndiepojgfaaDoor
open Go.RowKit
set_option linter.unusedVariables false
set_option linter.unusedSimpArgs false
set_option maxRecDepth 100000

theorem AK.nothing (w : World) : AK w [] none 0 := ⟨.inl rfl, Nat.le_refl _, Nat.zero_le _⟩
theorem same_self (L : List Nd) : sameNd L L = true := (sameNd_iff L L).2 rfl
section
variable (a b : List Nd) (p q : Option Addr) (ca cb : Nat) (w : World) (ha : AK w a p ca) (hb : AK w b q cb) (hg : ErrVar w)
include ha hb hg
set_option maxHeartbeats 2000000 in
theorem kjoins_bad (h : bfault a b ≠ 0) :
    Calls Tryd.prog 3 #[.slice p a.length ca, .slice q b.length cb] w fun e w' => e = .returned (.bool true) ∧ Below w.heap.size w w' := by
  have HG : Hid (∀ W, Below w.heap.size w W → ErrVar W) := fun W hW => ev_up hg hW
  have HK1 := kindFault_any a w p ca ha.nl ha.le ha.cm
  have HK2 := fun W (hW : Below w.heap.size w W) => kindFault_any b W q cb (hb.nl.up hW) hb.le hb.cm
  have HB := fun W (hW : Below w.heap.size w W) => AK.below_err (ha.up hW) (hb.up hW) h
  have HJ := fun W (hW : Below w.heap.size w W) => AK.join_err (ha.up hW) (hb.up hW) h
  have HT := fun W (hW : Below w.heap.size w W) => toldE_any (bfault a b) (bfault a b) W (HG.out W hW)
  have HN := fun W => (AK.nothing W).same (AK.nothing W)
  rw [same_self] at HN
  rw [eV_not h] at HT
  rw [show (bfault a b == bfault a b) = true from beq_self_eq_true _] at HT
  have hbf : bfault a b = if kfault a = 0 then kfault b else kfault a := rfl
  generalize bfault a b = n at *
  generalize kfault a = n1 at *
  generalize kfault b = n2 at *
  clear ha hb hg
  have e0' : (n == 0) = false := by rw [beq_eq_false_iff_ne]; exact h
  by_cases h1 : n1 = 0
  · rw [if_pos h1] at hbf
    subst hbf h1
    go_enter Tryd.func3, Tryd.ntmps3
    go_wp2_with fail
    refine HK1.mono ?_
    rintro _ w1 ⟨rfl, k1⟩
    go_wp2_with fail
    refine (HK2 _ k1).mono ?_
    rintro _ w2 ⟨rfl, k2'⟩
    have k2 := kqt k1 k2'
    go_wp2_with fail
    refine (HB _ k2).mono ?_
    rintro _ w3 ⟨rfl, k3'⟩
    have k3 := kqt k2 k3'
    go_wp2_with fail
    refine (HT _ k3).mono ?_
    rintro _ w4 ⟨rfl, k4'⟩
    have k4 := kqt k3 k4'
    go_wp2_with fail
    refine (HJ _ k4).mono ?_
    rintro _ w5 ⟨rfl, k5'⟩
    have k5 := kqt k4 k5'
    go_wp2_with fail
    refine (HT _ k5).mono ?_
    rintro _ w6 ⟨rfl, k6'⟩
    have k6 := kqt k5 k6'
    go_wp2_with fail
    refine (HN _).mono ?_
    rintro _ w7 ⟨rfl, k7'⟩
    have k7 := kqt k6 k7'
    go_wp2
    go_ret
    exact ⟨rfl, k7⟩
  · rw [if_neg h1] at hbf
    subst hbf
    go_enter Tryd.func3, Tryd.ntmps3
    go_wp2_with fail
    refine HK1.mono ?_
    rintro _ w2 ⟨rfl, k2⟩
    go_wp2_with fail
    refine (HB _ k2).mono ?_
    rintro _ w3 ⟨rfl, k3'⟩
    have k3 := kqt k2 k3'
    go_wp2_with fail
    refine (HT _ k3).mono ?_
    rintro _ w4 ⟨rfl, k4'⟩
    have k4 := kqt k3 k4'
    go_wp2_with fail
    refine (HJ _ k4).mono ?_
    rintro _ w5 ⟨rfl, k5'⟩
    have k5 := kqt k4 k5'
    go_wp2_with fail
    refine (HT _ k5).mono ?_
    rintro _ w6 ⟨rfl, k6'⟩
    have k6 := kqt k5 k6'
    go_wp2_with fail
    refine (HN _).mono ?_
    rintro _ w7 ⟨rfl, k7'⟩
    have k7 := kqt k6 k7'
    go_wp2
    go_ret
    exact ⟨rfl, k7⟩
end
set_option maxHeartbeats 2000000 in
theorem kjoins_ok (x y : Nd) (k l : Tp) (p q : Option Addr) (ca cb : Nat) (w : World) (ha : AK w (x :: k.flat) p ca) (hb : AK w (y :: l.flat) q cb) (hg : ErrVar w) (la : (x :: k.flat).length ≤ 200) (lb : (y :: l.flat).length ≤ 200) (h1 : T1 (.cons x k .nil)) (h2 : T1 (.cons y l .nil)) :
    Calls Tryd.prog 3 #[.slice p (k.flat.length + 1) ca, .slice q (l.flat.length + 1) cb] w fun e w' => e = .returned (.bool true) ∧ Below w.heap.size w w' := by
  have HG : Hid (∀ W, Below w.heap.size w W → ErrVar W) := fun W hW => ev_up hg hW
  have y1 : KTy (x :: k.flat) x k := ⟨h1, rfl⟩
  have y2 : KTy (y :: l.flat) y l := ⟨h2, rfl⟩
  have HK1 := kindFault_any _ w p ca ha.nl ha.le ha.cm
  have HK2 := fun W (hW : Below w.heap.size w W) => kindFault_any _ W q cb (hb.nl.up hW) hb.le hb.cm
  rw [kfault_ok la y1] at HK1
  rw [kfault_ok lb y2] at HK2
  have HBK := fun W (hW : Below w.heap.size w W) => belRK_all _ x k (Nat.lt_succ_self _) y l W p ca q cb ⟨ha.nl.up hW, ha.le, ha.cm⟩ ⟨hb.nl.up hW, hb.le, hb.cm⟩ h1 h2 (by simp at la; omega) (by simp at lb; omega)
  have HB := fun W (hW : Below w.heap.size w W) => AK.below (ha.up hW) (hb.up hW) la lb y1 y2
  have HJK := fun W (hW : Below w.heap.size w W) => jnRK x k y l W p ca q cb ⟨ha.nl.up hW, ha.le, ha.cm⟩ ⟨hb.nl.up hW, hb.le, hb.cm⟩ h1 h2 (by simp at la; omega) (by simp at lb; omega)
  have HT0 := fun W (hW : Below w.heap.size w W) => toldE_any 0 0 W (HG.out W hW)
  rw [eV_zero, show ((0 : Int) == 0) = true from rfl] at HT0
  have HT4 := fun W (hW : Below w.heap.size w W) => toldE_any 4 4 W (HG.out W hW)
  rw [eV_not (by omega : (4 : Int) ≠ 0), show ((4 : Int) == 4) = true from rfl] at HT4
  have HN := fun W => (AK.nothing W).same (AK.nothing W)
  rw [same_self] at HN
  have HR1 := fun W (hW : Below w.heap.size w W) => AK.join_full (ha.up hW) (hb.up hW) la lb y1 y2
  have HR2 := fun W (hW : Below w.heap.size w W) => AK.join (ha.up hW) (hb.up hW) la lb y1 y2
  simp only [List.length_cons] at HK1 HK2 HBK HB HJK HR1 HR2
  generalize blw false (.cons x k .nil) (.cons y l .nil) = bb at *
  generalize (jn false (.cons x k .nil) (.cons y l .nil)).flat = L at *
  clear ha hb hg la lb h1 h2 y1 y2
  have hne : (bb != bb) = false := by cases bb <;> rfl
  by_cases hL : 200 < L.length
  · have HR := fun W hW => HR1 W hW hL
    clear HR1 HR2
    have i9 : (200 : Int) < (L.length : Int) := by omega
    go_enter Tryd.func3, Tryd.ntmps3
    go_wp2_with fail
    refine HK1.mono ?_
    rintro _ w1 ⟨rfl, k1⟩
    go_wp2_with fail
    refine (HK2 _ k1).mono ?_
    rintro _ w2 ⟨rfl, k2'⟩
    have k2 := kqt k1 k2'
    go_wp2_with fail
    refine (HBK _ k2).mono ?_
    rintro _ w3 ⟨rfl, k3'⟩
    have k3 := kqt k2 k3'
    go_wp2_with fail
    refine (HB _ k3).mono ?_
    rintro _ w4 ⟨rfl, k4'⟩
    have k4 := kqt k3 k4'
    go_wp2_with fail
    refine (HT0 _ k4).mono ?_
    rintro _ w5 ⟨rfl, k5'⟩
    have k5 := kqt k4 k5'
    go_wp2_with fail
    refine (HJK _ k5).mono ?_
    rintro _ w6 ⟨⟨r6, c6, rfl, hA6, _⟩, k6'⟩
    have k6 := kqt k5 k6'
    clear hA6
    go_wp2_with fail
    refine (HR _ k6).mono ?_
    rintro _ w7 ⟨rfl, k7'⟩
    have k7 := kqt k6 k7'
    go_wp2_with fail
    refine (HT4 _ k7).mono ?_
    rintro _ w8 ⟨rfl, k8'⟩
    have k8 := kqt k7 k8'
    go_wp2_with fail
    refine (HN _).mono ?_
    rintro _ w9 ⟨rfl, k9'⟩
    have k9 := kqt k8 k9'
    go_wp2
    go_ret
    exact ⟨rfl, k9⟩
  · have HR := fun W hW => HR2 W hW (by omega)
    clear HR1 HR2
    have i9 : ¬ (200 : Int) < (L.length : Int) := by omega
    go_enter Tryd.func3, Tryd.ntmps3
    go_wp2_with fail
    refine HK1.mono ?_
    rintro _ w1 ⟨rfl, k1⟩
    go_wp2_with fail
    refine (HK2 _ k1).mono ?_
    rintro _ w2 ⟨rfl, k2'⟩
    have k2 := kqt k1 k2'
    go_wp2_with fail
    refine (HBK _ k2).mono ?_
    rintro _ w3 ⟨rfl, k3'⟩
    have k3 := kqt k2 k3'
    go_wp2_with fail
    refine (HB _ k3).mono ?_
    rintro _ w4 ⟨rfl, k4'⟩
    have k4 := kqt k3 k4'
    go_wp2_with fail
    refine (HT0 _ k4).mono ?_
    rintro _ w5 ⟨rfl, k5'⟩
    have k5 := kqt k4 k5'
    go_wp2_with fail
    refine (HJK _ k5).mono ?_
    rintro _ w6 ⟨⟨r6, c6, rfl, hA6, _⟩, k6'⟩
    have k6 := kqt k5 k6'
    have HA6 : Hid (AK w6 L r6 c6) := ⟨hA6.nl, hA6.le, hA6.cm⟩
    clear hA6
    go_wp2_with fail
    refine (HR _ k6).mono ?_
    rintro _ w7 ⟨⟨r7, c7, rfl, hA7⟩, k7'⟩
    have k7 := kqt k6 k7'
    have HA7 : Hid (AK w7 L r7 c7) := hA7
    clear hA7
    go_wp2_with fail
    refine (HT0 _ k7).mono ?_
    rintro _ w8 ⟨rfl, k8'⟩
    have k8 := kqt k7 k8'
    have HS := (HA7.out.up k8').same (HA6.out.up (kqt k7' k8'))
    rw [same_self] at HS
    go_wp2_with fail
    refine HS.mono ?_
    rintro _ w9 ⟨rfl, k9'⟩
    have k9 := kqt k8 k9'
    go_wp2
    go_ret
    exact ⟨rfl, k9⟩
theorem kjoins_walk (a b : List Nd) (p q : Option Addr) (ca cb : Nat) (w : World) (ha : AK w a p ca) (hb : AK w b q cb) (hg : ErrVar w) :
    Calls Tryd.prog 3 #[.slice p a.length ca, .slice q b.length cb] w fun e w' => e = .returned (.bool true) ∧ Below w.heap.size w w' := by
  by_cases h : bfault a b = 0
  · have h1 : kfault a = 0 := by
      unfold bfault at h
      split at h
      · assumption
      · exact h
    have h2 : kfault b = 0 := by unfold bfault at h; rw [if_pos h1] at h; exact h
    obtain ⟨la, x, k, hx, rfl⟩ := kfault_zero h1
    obtain ⟨lb, y, l, hy, rfl⟩ := kfault_zero h2
    exact kjoins_ok x y k l p q ca cb w ha hb hg la lb hx hy
  · exact kjoins_bad a b p q ca cb w ha hb hg h
end Go.Proofs.YtckjndiepojgfaaDoor
