/- Package eval: ofTwo, by a walk of its own text (written by a script of our own). Package eval: named, skip, by walks of their own texts. Package eval: unless, either, given what value does: by walks of their own texts. Package eval: ofOne, by a walk of its own text: Not, Neg, Has. Package eval: ofOne, by a walk of its own text: Get, where all goes well (written by a script of our own). Package eval: either, given what value does: by a walk of its own text. -/
import Derived.Test.YtglhjhbhijekjaaGreatDoorG25
import Derived.Test.YtglhjhbhijekjaaGreatDoorG26
import Derived.Test.YtglhjhbhijekjaaGreatDoorG29
import Derived.Test.YtglhjhbhijekjaaGreatDoorG4
namespace Go.Proofs.YtglhjhbhijekjaaGreatDoor
open Go.RowKit
set_option linter.unusedVariables false
set_option maxRecDepth 100000

/-- How a value is told, or an error thrown. -/
def VEndE (R : Except Int (List Nd)) (e : Ending) (w' : World) : Prop := match R with | .ok v => VRet v v.length e w' | .error n => e = .panicked (thrownE n)
theorem IsV.fit {a : List Nd} (h : IsV a) (h2 : opV a = 2) : Fit (nV a) := by
  obtain ⟨x, r, rfl, _⟩ := value_head h.val
  exact h.num x List.mem_cons_self h2
theorem isSetV_op (v : List Nd) : isSetV v = true ↔ opV v = 5 := by
  cases v with
  | nil => simp [isSetV, opV]
  | cons x r => simp [isSetV, opV]
section
variable {E : EvEnv} (w : World) (B k : Nat) (a b : List Nd) (n m : Nat) (p q : Option Addr) (c d : Nat)
set_option maxHeartbeats 600000 in
theorem two_eq (ho : E.Ok) (hs : AS E w B k) (h : VArg w a n p c) (g : VArg w b m q d) :
    Calls Tryz.prog 98 #[.pointer (some ⟨B, 0, none⟩), .int .i64 14, .slice p n c, .slice q m d] w fun e w' => VEndE (.ok (tN (decide (lsC a b = 0)))) e w' ∧ Below w.heap.size w w' := by
  have HQ := equalNodes_any a b p q c d w h.nl g.nl (by rw [h.len]; exact Nat.le_trans h.le h.cm) (by rw [g.len]; exact Nat.le_trans g.le g.cm)
  rw [h.len, g.len] at HQ
  have HS : Hid (sameNd a b = decide (lsC a b = 0)) := by
    show _ = _
    rw [Bool.eq_iff_iff, sameNd_iff, decide_eq_true_iff]
    exact (lsC_is.zero a b).symm
  rw [HS.out] at HQ
  clear HS
  generalize decide (lsC a b = 0) = t at *
  go_enter Tryz.func98, Tryz.ntmps98
  go_wp2_with fail
  refine HQ.mono ?_
  rintro e w1 ⟨rfl, nq, rfl⟩
  have hb1 : Below w.heap.size w (w.drewN nq) := qbn (Below.refl _ _) _
  generalize w.drewN nq = w1 at *
  go_wp2_with fail
  refine (truth_any w1 t).mono ?_
  rintro e w9 ⟨⟨q9, c9, rfl, hv9⟩, hb9⟩
  go_wp2
  go_ret
  exact ⟨⟨q9, c9, rfl, hv9⟩, qbt hb1 hb9⟩
set_option maxHeartbeats 600000 in
theorem two_lt (ho : E.Ok) (hs : AS E w B k) (h : VArg w a n p c) (g : VArg w b m q d) (h2 : opV a = 2) (g2 : opV b = 2) :
    Calls Tryz.prog 98 #[.pointer (some ⟨B, 0, none⟩), .int .i64 15, .slice p n c, .slice q m d] w fun e w' => VEndE (.ok (tN (decide (nV a < nV b)))) e w' ∧ Below w.heap.size w w' := by
  have HX := numberOf_ok w a n p c h h2
  have HY := fun w1 (hb : Below w.heap.size w w1) => numberOf_ok w1 b m q d (g.up hb) g2
  generalize nV a = x at *
  generalize nV b = y at *
  go_enter Tryz.func98, Tryz.ntmps98
  go_wp2_with fail
  refine HX.mono ?_
  rintro e w1 ⟨rfl, hb1⟩
  go_wp2_with fail
  refine (HY w1 hb1).mono ?_
  rintro e w2 ⟨rfl, hb2⟩
  go_wp2_with fail
  refine (truth_any w2 (decide (x < y))).mono ?_
  rintro e w9 ⟨⟨q9, c9, rfl, hv9⟩, hb9⟩
  go_wp2
  go_ret
  exact ⟨⟨q9, c9, rfl, hv9⟩, qbt (qbt hb1 hb2) hb9⟩
set_option maxHeartbeats 600000 in
theorem two_lt_bad (ho : E.Ok) (hs : AS E w B k) (h : VArg w a n p c) (g : VArg w b m q d) (hx : ¬ (opV a = 2 ∧ opV b = 2)) :
    Calls Tryz.prog 98 #[.pointer (some ⟨B, 0, none⟩), .int .i64 15, .slice p n c, .slice q m d] w fun e w' => e = .panicked (thrownE 2) ∧ Below w.heap.size w w' := by
  by_cases h2 : opV a = 2
  · have g2 : opV b ≠ 2 := fun e => hx ⟨h2, e⟩
    have HX := numberOf_ok w a n p c h h2
    have HY := fun w1 (hb : Below w.heap.size w w1) => numberOf_bad w1 b m q d (g.up hb) g2
    generalize nV a = x at *
    go_enter Tryz.func98, Tryz.ntmps98
    go_wp2_with fail
    refine HX.mono ?_
    rintro e w1 ⟨rfl, hb1⟩
    go_wp2_with fail
    refine (HY w1 hb1).mono ?_
    rintro e w2 ⟨rfl, hb2⟩
    exact ⟨rfl, rfl, qbt hb1 hb2⟩
  · have HX := numberOf_bad w a n p c h h2
    go_enter Tryz.func98, Tryz.ntmps98
    go_wp2_with fail
    refine HX.mono ?_
    rintro e w1 ⟨rfl, hb1⟩
    exact ⟨rfl, rfl, hb1⟩
set_option maxHeartbeats 600000 in
theorem two_le (ho : E.Ok) (hs : AS E w B k) (h : VArg w a n p c) (g : VArg w b m q d) (h2 : opV a = 2) (g2 : opV b = 2) :
    Calls Tryz.prog 98 #[.pointer (some ⟨B, 0, none⟩), .int .i64 16, .slice p n c, .slice q m d] w fun e w' => VEndE (.ok (tN (decide (nV a ≤ nV b)))) e w' ∧ Below w.heap.size w w' := by
  have HX := numberOf_ok w a n p c h h2
  have HY := fun w1 (hb : Below w.heap.size w w1) => numberOf_ok w1 b m q d (g.up hb) g2
  generalize nV a = x at *
  generalize nV b = y at *
  go_enter Tryz.func98, Tryz.ntmps98
  go_wp2_with fail
  refine HX.mono ?_
  rintro e w1 ⟨rfl, hb1⟩
  go_wp2_with fail
  refine (HY w1 hb1).mono ?_
  rintro e w2 ⟨rfl, hb2⟩
  go_wp2_with fail
  refine (truth_any w2 (decide (x ≤ y))).mono ?_
  rintro e w9 ⟨⟨q9, c9, rfl, hv9⟩, hb9⟩
  go_wp2
  go_ret
  exact ⟨⟨q9, c9, rfl, hv9⟩, qbt (qbt hb1 hb2) hb9⟩
set_option maxHeartbeats 600000 in
theorem two_le_bad (ho : E.Ok) (hs : AS E w B k) (h : VArg w a n p c) (g : VArg w b m q d) (hx : ¬ (opV a = 2 ∧ opV b = 2)) :
    Calls Tryz.prog 98 #[.pointer (some ⟨B, 0, none⟩), .int .i64 16, .slice p n c, .slice q m d] w fun e w' => e = .panicked (thrownE 2) ∧ Below w.heap.size w w' := by
  by_cases h2 : opV a = 2
  · have g2 : opV b ≠ 2 := fun e => hx ⟨h2, e⟩
    have HX := numberOf_ok w a n p c h h2
    have HY := fun w1 (hb : Below w.heap.size w w1) => numberOf_bad w1 b m q d (g.up hb) g2
    generalize nV a = x at *
    go_enter Tryz.func98, Tryz.ntmps98
    go_wp2_with fail
    refine HX.mono ?_
    rintro e w1 ⟨rfl, hb1⟩
    go_wp2_with fail
    refine (HY w1 hb1).mono ?_
    rintro e w2 ⟨rfl, hb2⟩
    exact ⟨rfl, rfl, qbt hb1 hb2⟩
  · have HX := numberOf_bad w a n p c h h2
    go_enter Tryz.func98, Tryz.ntmps98
    go_wp2_with fail
    refine HX.mono ?_
    rintro e w1 ⟨rfl, hb1⟩
    exact ⟨rfl, rfl, hb1⟩
set_option maxHeartbeats 600000 in
theorem two_num (op : Int) (ho : E.Ok) (hs : AS E w B k) (h : VArg w a n p c) (g : VArg w b m q d) (h17 : op = 17 ∨ op = 18 ∨ op = 19) (h2 : opV a = 2) (g2 : opV b = 2) (hf : nmf op (nV a) (nV b) = 0) :
    Calls Tryz.prog 98 #[.pointer (some ⟨B, 0, none⟩), .int .i64 op, .slice p n c, .slice q m d] w fun e w' => VEndE (.ok (mN (nx op (nV a) (nV b)))) e w' ∧ Below w.heap.size w w' := by
  have HX := numberOf_ok w a n p c h h2
  have HY := fun w1 (hb : Below w.heap.size w w1) => numberOf_ok w1 b m q d (g.up hb) g2
  have HD := fun w1 => do_good op (nV a) (nV b) w1 (h.is.fit h2) (g.is.fit g2) hf
  rw [nv_ok hf] at HD
  have HN := nmf_fit hf
  generalize nx op (nV a) (nV b) = z at *
  generalize nV a = x at *
  generalize nV b = y at *
  have k14 : (op == 14) = false := by simp; omega
  have k15 : (op == 15) = false := by simp; omega
  have k16 : (op == 16) = false := by simp; omega
  have k20 : (op == 20) = false := by simp; omega
  have k25 : (op == 25) = false := by simp; omega
  have k26 : (op == 26) = false := by simp; omega
  have k27 : (op == 27) = false := by simp; omega
  clear h17 hf
  go_enter Tryz.func98, Tryz.ntmps98
  go_wp2_with fail
  refine HX.mono ?_
  rintro e w1 ⟨rfl, hb1⟩
  go_wp2_with fail
  refine (HY w1 hb1).mono ?_
  rintro e w2 ⟨rfl, hb2⟩
  go_wp2_with fail
  refine (HD w2).mono ?_
  rintro e w3 ⟨rfl, rfl⟩
  go_wp2_with fail
  refine (sureI_ok _ z).mono ?_
  rintro e w4 ⟨rfl, rfl⟩
  go_wp2_with fail
  refine (number_any _ z HN).mono ?_
  rintro e w9 ⟨⟨q9, c9, rfl, hv9⟩, hb9⟩
  go_wp2
  go_ret
  exact ⟨⟨q9, c9, rfl, hv9⟩, qbt (qbt hb1 hb2) hb9⟩
set_option maxHeartbeats 600000 in
theorem two_num_over (op : Int) (ho : E.Ok) (hs : AS E w B k) (h : VArg w a n p c) (g : VArg w b m q d) (h17 : op = 17 ∨ op = 18 ∨ op = 19) (h2 : opV a = 2) (g2 : opV b = 2) (hf : nmf op (nV a) (nV b) ≠ 0) :
    Calls Tryz.prog 98 #[.pointer (some ⟨B, 0, none⟩), .int .i64 op, .slice p n c, .slice q m d] w fun e w' => e = .panicked (thrownE (nmf op (nV a) (nV b))) ∧ Below w.heap.size w w' := by
  have HX := numberOf_ok w a n p c h h2
  have HY := fun w1 (hb : Below w.heap.size w w1) => numberOf_ok w1 b m q d (g.up hb) g2
  have HD := fun w1 => do_bad op (nV a) (nV b) w1 (h.is.fit h2) (g.is.fit g2) hf
  generalize nmf op (nV a) (nV b) = z at *
  generalize nV a = x at *
  generalize nV b = y at *
  have k14 : (op == 14) = false := by simp; omega
  have k15 : (op == 15) = false := by simp; omega
  have k16 : (op == 16) = false := by simp; omega
  have k20 : (op == 20) = false := by simp; omega
  have k25 : (op == 25) = false := by simp; omega
  have k26 : (op == 26) = false := by simp; omega
  have k27 : (op == 27) = false := by simp; omega
  clear h17 hf
  go_enter Tryz.func98, Tryz.ntmps98
  go_wp2_with fail
  refine HX.mono ?_
  rintro e w1 ⟨rfl, hb1⟩
  go_wp2_with fail
  refine (HY w1 hb1).mono ?_
  rintro e w2 ⟨rfl, hb2⟩
  go_wp2_with fail
  refine (HD w2).mono ?_
  rintro e w3 ⟨rfl, rfl⟩
  go_wp2_with fail
  refine (sureI_bad _ 0 z).mono ?_
  rintro e w4 ⟨rfl, rfl⟩
  exact ⟨rfl, rfl, qbt hb1 hb2⟩
set_option maxHeartbeats 600000 in
theorem two_num_bad (op : Int) (ho : E.Ok) (hs : AS E w B k) (h : VArg w a n p c) (g : VArg w b m q d) (h17 : op = 17 ∨ op = 18 ∨ op = 19) (hx : ¬ (opV a = 2 ∧ opV b = 2)) :
    Calls Tryz.prog 98 #[.pointer (some ⟨B, 0, none⟩), .int .i64 op, .slice p n c, .slice q m d] w fun e w' => e = .panicked (thrownE 2) ∧ Below w.heap.size w w' := by
  have k14 : (op == 14) = false := by simp; omega
  have k15 : (op == 15) = false := by simp; omega
  have k16 : (op == 16) = false := by simp; omega
  have k20 : (op == 20) = false := by simp; omega
  have k25 : (op == 25) = false := by simp; omega
  have k26 : (op == 26) = false := by simp; omega
  have k27 : (op == 27) = false := by simp; omega
  clear h17
  by_cases h2 : opV a = 2
  · have g2 : opV b ≠ 2 := fun e => hx ⟨h2, e⟩
    have HX := numberOf_ok w a n p c h h2
    have HY := fun w1 (hb : Below w.heap.size w w1) => numberOf_bad w1 b m q d (g.up hb) g2
    generalize nV a = x at *
    go_enter Tryz.func98, Tryz.ntmps98
    go_wp2_with fail
    refine HX.mono ?_
    rintro e w1 ⟨rfl, hb1⟩
    go_wp2_with fail
    refine (HY w1 hb1).mono ?_
    rintro e w2 ⟨rfl, hb2⟩
    exact ⟨rfl, rfl, qbt hb1 hb2⟩
  · have HX := numberOf_bad w a n p c h h2
    go_enter Tryz.func98, Tryz.ntmps98
    go_wp2_with fail
    refine HX.mono ?_
    rintro e w1 ⟨rfl, hb1⟩
    exact ⟨rfl, rfl, hb1⟩
set_option maxHeartbeats 600000 in
theorem two_one (ho : E.Ok) (hs : AS E w B k) (h : VArg w a n p c) (g : VArg w b m q d) (h5 : opV a = 5) :
    Calls Tryz.prog 98 #[.pointer (some ⟨B, 0, none⟩), .int .i64 25, .slice p n c, .slice q m d] w fun e w' => VEndE (.ok (tN (inB (setR a) b))) e w' ∧ Below w.heap.size w w' := by
  have HQ : Calls Tryz.prog 146 #[.slice p n c, .slice q m d] w fun e w' => e = .returned (.tuple #[.bool (inB (setR a) b), .nilIface]) ∧ Below w.heap.size w w' := by
    obtain ⟨hl, el⟩ := setR_spec h.is.val h5
    have h1 := h.len
    have h2 := g.len
    have hn := h.nl
    have hle := h.le
    subst h1 h2
    generalize setR a = l at *
    subst el
    exact has_ok l b p q c d w hn hle h.cm g.nl g.le g.cm hl g.is.val
  generalize inB (setR a) b = t at *
  go_enter Tryz.func98, Tryz.ntmps98
  go_wp2_with fail
  refine HQ.mono ?_
  rintro e w1 ⟨rfl, hb1⟩
  go_wp2_with fail
  refine (sureB_ok _ t).mono ?_
  rintro e w2 ⟨rfl, rfl⟩
  go_wp2_with fail
  refine (truth_any w2 t).mono ?_
  rintro e w9 ⟨⟨q9, c9, rfl, hv9⟩, hb9⟩
  go_wp2
  go_ret
  exact ⟨⟨q9, c9, rfl, hv9⟩, qbt hb1 hb9⟩
set_option maxHeartbeats 600000 in
theorem two_one_bad (ho : E.Ok) (hs : AS E w B k) (h : VArg w a n p c) (g : VArg w b m q d) (h5 : opV a ≠ 5) :
    Calls Tryz.prog 98 #[.pointer (some ⟨B, 0, none⟩), .int .i64 25, .slice p n c, .slice q m d] w fun e w' => e = .panicked (thrownE 2) ∧ Below w.heap.size w w' := by
  have hh : hfault a b = 2 := by unfold hfault cfault; rw [if_pos h.is.val, if_pos g.is.val, if_neg (fun e => h5 ((isSetV_op a).1 e))]
  have HQ := has_bad a b p q c d w h.nl (by rw [h.len]; exact h.le) h.cm g.nl (by rw [g.len]; exact g.le) g.cm (by rw [hh]; decide)
  rw [h.len, g.len, hh, eV_not (by decide)] at HQ
  go_enter Tryz.func98, Tryz.ntmps98
  go_wp2_with fail
  refine HQ.mono ?_
  rintro e w1 ⟨rfl, hb1⟩
  go_wp2_with fail
  refine (sureB_bad _ false 2).mono ?_
  rintro e w2 ⟨rfl, rfl⟩
  exact ⟨rfl, rfl, hb1⟩
set_option maxHeartbeats 600000 in
theorem two_all (ho : E.Ok) (hs : AS E w B k) (h : VArg w a n p c) (g : VArg w b m q d) (h5 : opV a = 5) (g5 : opV b = 5) :
    Calls Tryz.prog 98 #[.pointer (some ⟨B, 0, none⟩), .int .i64 26, .slice p n c, .slice q m d] w fun e w' => VEndE (.ok (tN (allB (setR a) (setR b)))) e w' ∧ Below w.heap.size w w' := by
  have HQ : Calls Tryz.prog 147 #[.slice p n c, .slice q m d] w fun e w' => e = .returned (.tuple #[.bool (allB (setR a) (setR b)), .nilIface]) ∧ Below w.heap.size w w' := by
    obtain ⟨hl, el⟩ := setR_spec h.is.val h5
    obtain ⟨gl, er⟩ := setR_spec g.is.val g5
    have h1 := h.len
    have h2 := g.len
    have hn := h.nl
    have hle := h.le
    have gn := g.nl
    have gle := g.le
    subst h1 h2
    generalize setR a = l at *
    generalize setR b = r at *
    subst el er
    exact all_ok l r p q c d w hn hle h.cm gn gle g.cm hl gl
  generalize allB (setR a) (setR b) = t at *
  go_enter Tryz.func98, Tryz.ntmps98
  go_wp2_with fail
  refine HQ.mono ?_
  rintro e w1 ⟨rfl, hb1⟩
  go_wp2_with fail
  refine (sureB_ok _ t).mono ?_
  rintro e w2 ⟨rfl, rfl⟩
  go_wp2_with fail
  refine (truth_any w2 t).mono ?_
  rintro e w9 ⟨⟨q9, c9, rfl, hv9⟩, hb9⟩
  go_wp2
  go_ret
  exact ⟨⟨q9, c9, rfl, hv9⟩, qbt hb1 hb9⟩
set_option maxHeartbeats 600000 in
theorem two_all_bad (ho : E.Ok) (hs : AS E w B k) (h : VArg w a n p c) (g : VArg w b m q d) (hx : ¬ (opV a = 5 ∧ opV b = 5)) :
    Calls Tryz.prog 98 #[.pointer (some ⟨B, 0, none⟩), .int .i64 26, .slice p n c, .slice q m d] w fun e w' => e = .panicked (thrownE 2) ∧ Below w.heap.size w w' := by
  have hh : sfault a b = 2 := by
    unfold sfault
    rw [if_pos h.is.val, if_pos g.is.val, if_neg (fun e => hx ⟨(isSetV_op a).1 e.1, (isSetV_op b).1 e.2⟩)]
  have HQ := all_bad a b p q c d w h.nl (by rw [h.len]; exact h.le) h.cm g.nl (by rw [g.len]; exact g.le) g.cm (by rw [hh]; decide)
  rw [h.len, g.len, hh, eV_not (by decide)] at HQ
  go_enter Tryz.func98, Tryz.ntmps98
  go_wp2_with fail
  refine HQ.mono ?_
  rintro e w1 ⟨rfl, hb1⟩
  go_wp2_with fail
  refine (sureB_bad _ false 2).mono ?_
  rintro e w2 ⟨rfl, rfl⟩
  exact ⟨rfl, rfl, hb1⟩
set_option maxHeartbeats 600000 in
theorem two_any (ho : E.Ok) (hs : AS E w B k) (h : VArg w a n p c) (g : VArg w b m q d) (h5 : opV a = 5) (g5 : opV b = 5) :
    Calls Tryz.prog 98 #[.pointer (some ⟨B, 0, none⟩), .int .i64 27, .slice p n c, .slice q m d] w fun e w' => VEndE (.ok (tN (anyB (setR a) (setR b)))) e w' ∧ Below w.heap.size w w' := by
  have HQ : Calls Tryz.prog 148 #[.slice p n c, .slice q m d] w fun e w' => e = .returned (.tuple #[.bool (anyB (setR a) (setR b)), .nilIface]) ∧ Below w.heap.size w w' := by
    obtain ⟨hl, el⟩ := setR_spec h.is.val h5
    obtain ⟨gl, er⟩ := setR_spec g.is.val g5
    have h1 := h.len
    have h2 := g.len
    have hn := h.nl
    have hle := h.le
    have gn := g.nl
    have gle := g.le
    subst h1 h2
    generalize setR a = l at *
    generalize setR b = r at *
    subst el er
    exact any_ok l r p q c d w hn hle h.cm gn gle g.cm hl gl
  generalize anyB (setR a) (setR b) = t at *
  go_enter Tryz.func98, Tryz.ntmps98
  go_wp2_with fail
  refine HQ.mono ?_
  rintro e w1 ⟨rfl, hb1⟩
  go_wp2_with fail
  refine (sureB_ok _ t).mono ?_
  rintro e w2 ⟨rfl, rfl⟩
  go_wp2_with fail
  refine (truth_any w2 t).mono ?_
  rintro e w9 ⟨⟨q9, c9, rfl, hv9⟩, hb9⟩
  go_wp2
  go_ret
  exact ⟨⟨q9, c9, rfl, hv9⟩, qbt hb1 hb9⟩
set_option maxHeartbeats 600000 in
theorem two_any_bad (ho : E.Ok) (hs : AS E w B k) (h : VArg w a n p c) (g : VArg w b m q d) (hx : ¬ (opV a = 5 ∧ opV b = 5)) :
    Calls Tryz.prog 98 #[.pointer (some ⟨B, 0, none⟩), .int .i64 27, .slice p n c, .slice q m d] w fun e w' => e = .panicked (thrownE 2) ∧ Below w.heap.size w w' := by
  have hh : sfault a b = 2 := by
    unfold sfault
    rw [if_pos h.is.val, if_pos g.is.val, if_neg (fun e => hx ⟨(isSetV_op a).1 e.1, (isSetV_op b).1 e.2⟩)]
  have HQ := any_bad a b p q c d w h.nl (by rw [h.len]; exact h.le) h.cm g.nl (by rw [g.len]; exact g.le) g.cm (by rw [hh]; decide)
  rw [h.len, g.len, hh, eV_not (by decide)] at HQ
  go_enter Tryz.func98, Tryz.ntmps98
  go_wp2_with fail
  refine HQ.mono ?_
  rintro e w1 ⟨rfl, hb1⟩
  go_wp2_with fail
  refine (sureB_bad _ false 2).mono ?_
  rintro e w2 ⟨rfl, rfl⟩
  exact ⟨rfl, rfl, hb1⟩
end
end Go.Proofs.YtglhjhbhijekjaaGreatDoor
namespace Go.Proofs.YtglhjhbhijekjaaGreatDoor
open Go.RowKit
set_option linter.unusedVariables false
set_option maxRecDepth 100000

theorem tl_beq {a : ByteArray} {l : List UInt8} (h : a ≠ ⟨l.toArray⟩) : (a.toList == l) = false := by
  rw [beq_eq_false_iff_ne, ByteArray.toList_eq]
  intro e
  exact h (bytes_inj (by simpa using e))
section
variable {E : EvEnv} (w : World) (B k : Nat)
set_option maxHeartbeats 600000 in
theorem named_any (ho : E.Ok) (hs : AS E w B k) (s : ByteArray) :
    Calls Tryz.prog 94 #[.pointer (some ⟨B, 0, none⟩), .string s] w fun e w' => VEndE (varE E.q s) e w' ∧ Below w.heap.size w w' := by
  obtain ⟨u1, u2, u3, _⟩ := askf_zero ho.env.ask
  have c1 := hs.c1
  have c2 := hs.c2
  have c3 := hs.c3
  have c4 := hs.c4
  have c5 := hs.c5
  have c6 := hs.c6
  have c7 := hs.c7
  unfold varE
  by_cases h1 : s = wPrin
  · rw [if_pos h1]
    subst h1
    unfold wPrin
    go_enter Tryz.func94, Tryz.ntmps94
    go_wp2_with fail
    refine (entity_any w E.q.who u1).mono ?_
    rintro e w1 ⟨⟨q1, d1, rfl, hv⟩, hb1⟩
    go_wp2
    go_ret
    exact ⟨⟨q1, d1, rfl, hv⟩, hb1⟩
  rw [if_neg h1]
  have n1 := tl_beq (l := [112, 114, 105, 110, 99, 105, 112, 97, 108]) h1
  by_cases h2 : s = wAct
  · rw [if_pos h2]
    subst h2
    unfold wAct at n1 ⊢
    go_enter Tryz.func94, Tryz.ntmps94
    go_wp2_with fail
    refine (entity_any w E.q.act u2).mono ?_
    rintro e w1 ⟨⟨q1, d1, rfl, hv⟩, hb1⟩
    go_wp2
    go_ret
    exact ⟨⟨q1, d1, rfl, hv⟩, hb1⟩
  rw [if_neg h2]
  have n2 := tl_beq (l := [97, 99, 116, 105, 111, 110]) h2
  by_cases h3 : s = wRes
  · rw [if_pos h3]
    subst h3
    unfold wRes at n1 n2 ⊢
    go_enter Tryz.func94, Tryz.ntmps94
    go_wp2_with fail
    refine (entity_any w E.q.what u3).mono ?_
    rintro e w1 ⟨⟨q1, d1, rfl, hv⟩, hb1⟩
    go_wp2
    go_ret
    exact ⟨⟨q1, d1, rfl, hv⟩, hb1⟩
  rw [if_neg h3]
  have n3 := tl_beq (l := [114, 101, 115, 111, 117, 114, 99, 101]) h3
  by_cases h4 : s = wCtx
  · rw [if_pos h4]
    subst h4
    unfold wCtx at n1 n2 n3 ⊢
    have hcx := ho.env.ctx.1
    obtain ⟨bq, oq, hpq⟩ : ∃ b o, E.pq = some ⟨b, o, none⟩ := by
      rcases ho.nq with h0 | ⟨b, o, h0, _⟩
      · exact absurd h0 hcx.ne
      · exact ⟨b, o, h0⟩
    have hnq := hs.nq ho
    rw [hpq] at hnq c7
    have HC := cloneN_fn E.q.cx bq oq E.cq w hnq (by have := hcx.len; omega)
    go_enter Tryz.func94, Tryz.ntmps94
    go_wp2_with fail
    refine HC.mono ?_
    rintro e w1 ⟨⟨q1, d1, rfl, hn1, hl1, hm1⟩, hb1⟩
    go_wp2
    go_ret
    exact ⟨⟨q1, d1, rfl, rfl, hn1, hl1, hm1, hcx⟩, hb1⟩
  rw [if_neg h4]
  have n4 := tl_beq (l := [99, 111, 110, 116, 101, 120, 116]) h4
  go_enter Tryz.func94, Tryz.ntmps94
  go_wp2
  exact ⟨rfl, rfl, Below.refl _ _⟩
set_option maxHeartbeats 600000 in
theorem skip_any (ho : E.Ok) (hs : AS E w B k) (r : List Nd) (f : Nat) (hf : f ≤ E.e.length + 1) (hp : pastE f (E.e.drop k) = some r) :
    Calls Tryz.prog 130 #[.pointer (some ⟨B, 0, none⟩)] w fun e w' => e = .returned (.tuple #[]) ∧ AS E w' B (E.e.length - r.length) ∧ BX B w w' := by
  obtain ⟨g, x, m, _, hv, h7, hx, _⟩ := pastE_cons hp
  have hk : k < E.e.length := by
    have := congrArg List.length hv
    simp only [List.length_drop, List.length_cons] at this
    omega
  have hxk : E.e[k] = x := by
    have := congrArg List.head? hv
    rw [List.head?_drop, List.head?_cons, List.getElem?_eq_getElem hk] at this
    exact Option.some.inj this
  have hp2 := pastE_any hp (g := E.e.length + 1) (by rw [List.length_drop]; omega)
  have hl := ho.len
  have hbd : Below w.heap.size w w.drew := (Below.refl _ _).drew
  have hsd := hs.up hbd
  go_enter Tryz.func130, Tryz.ntmps130
  go_wp2_with fail
  have HT := tend_ok E.e E.p E.c k w.drew (hsd.ne ho) (by unfold maxLen; omega) ho.xf hk (by rw [hxk]; exact h7) r hp2
  have c8 := hsd.c8
  have c9 := hsd.c9
  go_region_with (first
    | (go_at_call 162; refine HT.mono ?_; rintro e w1 ⟨rfl, hb1⟩; have hs1 := hsd.up hb1; have d9 := hs1.c9; have f9 := hs1.fz 9)
    | (go_at_call 133; refine (sureI_ok w1 _).mono ?_; rintro e w2 ⟨rfl, hw2⟩; have hw3 := hw2.symm; clear hw2; subst hw3))
  all_goals
    go_wp2
    go_end0
    exact ⟨rfl, hs1.setAt (by omega), ((BX.of_below hbd).up hb1).set 9 _⟩
end
end Go.Proofs.YtglhjhbhijekjaaGreatDoor
namespace Go.Proofs.YtglhjhbhijekjaaGreatDoor
open Go.RowKit
set_option linter.unusedVariables false
set_option maxRecDepth 100000

/-- A value told, or an error thrown; the asker so far on. -/
def VE (E : EvEnv) (B k : Nat) (w : World) (R : Except Int (List Nd)) (en : Ending) (w' : World) : Prop :=
  match R with
  | .ok v => (∃ q c, en = .returned (.slice q v.length c) ∧ VArg w' v v.length q c) ∧ AS E w' B k ∧ BX B w w'
  | .error n => en = .panicked (thrownE n) ∧ BX B w w'
/-- What value does. -/
def ValOk (E : EvEnv) (B f : Nat) : Prop := ∀ (w : World) (k : Nat) (r : List Nd), AS E w B k → pastE f (E.e.drop k) = some r →
  Calls Tryz.prog 57 #[.pointer (some ⟨B, 0, none⟩)] w (VE E B (E.e.length - r.length) w (evE E.es E.q f (E.e.drop k)))
theorem nd_suffix {e r : List Nd} {f k : Nat} (h : pastE f (e.drop k) = some r) : e.drop (e.length - r.length) = r ∧ r.length < e.length - k := by
  have h2 := (pastE_shorter h).1
  rw [List.length_drop] at h2
  obtain ⟨a, ha, _⟩ := pastE_all f _ _ h
  refine ⟨?_, h2⟩
  have hs : e = (e.take k ++ a) ++ r := by rw [List.append_assoc, ← ha, List.take_append_drop]
  have hl := congrArg List.length hs
  rw [List.length_append] at hl
  have e0 : e.length - r.length = (e.take k ++ a).length := by omega
  rw [e0]
  generalize e.take k ++ a = m at *
  rw [hs]
  exact List.drop_left ..
/-- value at a place whose nodes are known. -/
theorem val_at {E : EvEnv} {B f : Nat} (hV : ValOk E B f) (w : World) (k : Nat) (m r : List Nd) (k1 : Nat) (R : Except Int (List Nd)) (hs : AS E w B k) (hm : E.e.drop k = m) (hp : pastE f m = some r) (hk : E.e.length - r.length = k1) (hR : evE E.es E.q f m = R) :
    Calls Tryz.prog 57 #[.pointer (some ⟨B, 0, none⟩)] w (VE E B k1 w R) := by
  subst hm hk hR
  exact hV w k r hs hp
section
variable {E : EvEnv} {B f : Nat} (ho : E.Ok) (hf : f ≤ E.e.length + 1) (hV : ValOk E B f) (w : World) (k : Nat) (m s r : List Nd)
include ho hf hV
set_option maxHeartbeats 1000000 in
theorem unless_any (en : Bool) (hs : AS E w B k) (hm : E.e.drop k = m) (p1 : pastE f m = some s) (p2 : pastE f s = some r) :
    Calls Tryz.prog 95 #[.pointer (some ⟨B, 0, none⟩), .bool en] w (VE E B (E.e.length - r.length) w (lazyE en (evE E.es E.q f m) (evE E.es E.q f s))) := by
  have hm2 : E.e.drop (E.e.length - s.length) = s := (nd_suffix (by rw [hm]; exact p1)).1
  have H1 := val_at hV w k m s _ _ hs hm p1 rfl rfl
  have H2 := fun w1 hs1 => val_at hV w1 _ s r _ _ hs1 hm2 p2 rfl rfl
  have HS := fun w1 (hs1 : AS E w1 B (E.e.length - s.length)) => skip_any w1 B _ ho hs1 r f hf (by rw [hm2]; exact p2)
  cases hA : evE E.es E.q f m with
  | error n =>
    rw [hA] at H1
    have HE : Hid (lazyE en (.error n) (evE E.es E.q f s) = .error n) := rfl
    rw [HE.out]
    go_enter Tryz.func95, Tryz.ntmps95
    go_wp2_with fail
    refine H1.mono ?_
    rintro e w1 ⟨rfl, hb1⟩
    exact ⟨rfl, rfl, hb1⟩
  | ok v =>
    rw [hA] at H1
    by_cases h1 : opV v = 1
    · have HB : Hid (lazyE en (.ok v) (evE E.es E.q f s) = if (nV v == 1) = en then .ok (tN en) else match boolE (evE E.es E.q f s) with | .error n => .error n | .ok u => .ok (tN u)) := by
        show _ = _
        have hb : boolE (.ok v) = .ok (nV v == 1) := by unfold boolE; simp only [h1, if_true]
        unfold lazyE
        rw [hb]
        rfl
      rw [HB.out]
      clear HB
      by_cases ht : (nV v == 1) = en
      · rw [if_pos ht]
        go_enter Tryz.func95, Tryz.ntmps95
        go_wp2_with fail
        refine H1.mono ?_
        rintro e w1 ⟨⟨q1, c1, rfl, hv1⟩, hs1, hb1⟩
        have HI := isTrue_ok w1 v _ q1 c1 hv1 h1
        rw [ht] at HI
        clear H1 ht
        go_wp2_with fail
        refine HI.mono ?_
        rintro e w2 ⟨rfl, hb2⟩
        have hs2 := hs1.up hb2
        have ee : (en == en) = true := by simp
        go_wp2_with fail
        refine (HS w2 hs2).mono ?_
        rintro e w3 ⟨rfl, hs3, hb3⟩
        go_wp2_with fail
        refine (truth_any w3 en).mono ?_
        rintro e w4 ⟨⟨q4, c4, rfl, hv4⟩, hb4⟩
        go_wp2
        go_ret
        exact ⟨⟨q4, c4, rfl, hv4⟩, hs3.up hb4, (((hb1.up hb2).trans hb3).up hb4)⟩
      · rw [if_neg ht]
        have ee : ((nV v == 1) == en) = false := by simpa using ht
        cases hB : evE E.es E.q f s with
        | error n =>
          rw [hB] at H2
          have HE : Hid ((match boolE (.error n) with | .error n => .error n | .ok u => .ok (tN u) : Except Int (List Nd)) = .error n) := rfl
          rw [HE.out]
          go_enter Tryz.func95, Tryz.ntmps95
          go_wp2_with fail
          refine H1.mono ?_
          rintro e w1 ⟨⟨q1, c1, rfl, hv1⟩, hs1, hb1⟩
          have HI := isTrue_ok w1 v _ q1 c1 hv1 h1
          clear H1 ht
          generalize (nV v == 1) = t at *
          go_wp2_with fail
          refine HI.mono ?_
          rintro e w2 ⟨rfl, hb2⟩
          have hs2 := hs1.up hb2
          go_wp2_with fail
          refine (H2 w2 hs2).mono ?_
          rintro e w3 ⟨rfl, hb3⟩
          exact ⟨rfl, rfl, (hb1.up hb2).trans hb3⟩
        | ok u =>
          rw [hB] at H2
          by_cases h2 : opV u = 1
          · have HE : Hid ((match boolE (.ok u) with | .error n => .error n | .ok u => .ok (tN u) : Except Int (List Nd)) = .ok (tN (nV u == 1))) := by
              show _ = _
              unfold boolE
              simp only [h2, if_true]
            rw [HE.out]
            go_enter Tryz.func95, Tryz.ntmps95
            go_wp2_with fail
            refine H1.mono ?_
            rintro e w1 ⟨⟨q1, c1, rfl, hv1⟩, hs1, hb1⟩
            have HI := isTrue_ok w1 v _ q1 c1 hv1 h1
            clear H1 ht
            generalize (nV v == 1) = t at *
            go_wp2_with fail
            refine HI.mono ?_
            rintro e w2 ⟨rfl, hb2⟩
            have hs2 := hs1.up hb2
            go_wp2_with fail
            refine (H2 w2 hs2).mono ?_
            rintro e w3 ⟨⟨q3, c3, rfl, hv3⟩, hs3, hb3⟩
            have HJ := isTrue_ok w3 u _ q3 c3 hv3 h2
            generalize (nV u == 1) = t2 at *
            go_wp2_with fail
            refine HJ.mono ?_
            rintro e w4 ⟨rfl, hb4⟩
            go_wp2_with fail
            refine (truth_any w4 t2).mono ?_
            rintro e w5 ⟨⟨q5, c5, rfl, hv5⟩, hb5⟩
            go_wp2
            go_ret
            exact ⟨⟨q5, c5, rfl, hv5⟩, (hs3.up hb4).up hb5, ((((hb1.up hb2).trans hb3).up hb4).up hb5)⟩
          · have HE : Hid ((match boolE (.ok u) with | .error n => .error n | .ok u => .ok (tN u) : Except Int (List Nd)) = .error 2) := by
              show _ = _
              unfold boolE
              simp only [h2, if_false]
            rw [HE.out]
            go_enter Tryz.func95, Tryz.ntmps95
            go_wp2_with fail
            refine H1.mono ?_
            rintro e w1 ⟨⟨q1, c1, rfl, hv1⟩, hs1, hb1⟩
            have HI := isTrue_ok w1 v _ q1 c1 hv1 h1
            clear H1 ht
            generalize (nV v == 1) = t at *
            go_wp2_with fail
            refine HI.mono ?_
            rintro e w2 ⟨rfl, hb2⟩
            have hs2 := hs1.up hb2
            go_wp2_with fail
            refine (H2 w2 hs2).mono ?_
            rintro e w3 ⟨⟨q3, c3, rfl, hv3⟩, hs3, hb3⟩
            have HJ := isTrue_bad w3 u _ q3 c3 hv3 h2
            go_wp2_with fail
            refine HJ.mono ?_
            rintro e w4 ⟨rfl, hb4⟩
            exact ⟨rfl, rfl, ((hb1.up hb2).trans hb3).up hb4⟩
    · have HE : Hid (lazyE en (.ok v) (evE E.es E.q f s) = .error 2) := by
        show _ = _
        unfold lazyE boolE
        simp only [h1, if_false]
      rw [HE.out]
      go_enter Tryz.func95, Tryz.ntmps95
      go_wp2_with fail
      refine H1.mono ?_
      rintro e w1 ⟨⟨q1, c1, rfl, hv1⟩, hs1, hb1⟩
      have HI := isTrue_bad w1 v _ q1 c1 hv1 h1
      go_wp2_with fail
      refine HI.mono ?_
      rintro e w2 ⟨rfl, hb2⟩
      exact ⟨rfl, rfl, hb1.up hb2⟩
end
end Go.Proofs.YtglhjhbhijekjaaGreatDoor
namespace Go.Proofs.YtglhjhbhijekjaaGreatDoor
open Go.RowKit
set_option linter.unusedVariables false
set_option maxRecDepth 100000

def nodeV (x : Nd) : Value := .agg #[.int .i64 x.op, .int .i64 x.n, .string x.s, .string x.t]
section
variable {E : EvEnv} (w : World) (B k : Nat) (a : List Nd) (n : Nat) (q : Option Addr) (c : Nat) (x : Nd)
set_option maxHeartbeats 600000 in
theorem one_not (h : VArg w a n q c) (hx : x.op = 9) (h1 : opV a = 1) :
    Calls Tryz.prog 97 #[.pointer (some ⟨B, 0, none⟩), nodeV x, .slice q n c] w fun e w' => VEndE (.ok (tN (!(nV a == 1)))) e w' ∧ Below w.heap.size w w' := by
  obtain ⟨op, nn, ss, tt⟩ := x
  unfold nodeV
  dsimp only at hx ⊢
  subst hx
  have hb0 : Below w.heap.size w (w.alloc (.cells #[.int .i64 9, .int .i64 nn, .string ss, .string tt] 53)) := (Below.refl _ _).alloc (Nat.le_refl _) _
  have HI := isTrue_ok _ a n q c (h.up hb0) h1
  generalize (nV a == 1) = t at *
  go_enter Tryz.func97, Tryz.ntmps97
  go_wp2_with fail
  refine HI.mono ?_
  rintro e w1 ⟨rfl, hb1⟩
  go_wp2_with fail
  refine (truth_any w1 (!t)).mono ?_
  rintro e w9 ⟨⟨q9, c9, rfl, hv9⟩, hb9⟩
  go_wp2
  go_ret
  exact ⟨⟨q9, c9, rfl, hv9⟩, qbt (qbt hb0 hb1) hb9⟩
set_option maxHeartbeats 600000 in
theorem one_not_bad (h : VArg w a n q c) (hx : x.op = 9) (h1 : opV a ≠ 1) :
    Calls Tryz.prog 97 #[.pointer (some ⟨B, 0, none⟩), nodeV x, .slice q n c] w fun e w' => e = .panicked (thrownE 2) ∧ Below w.heap.size w w' := by
  obtain ⟨op, nn, ss, tt⟩ := x
  unfold nodeV
  dsimp only at hx ⊢
  subst hx
  have hb0 : Below w.heap.size w (w.alloc (.cells #[.int .i64 9, .int .i64 nn, .string ss, .string tt] 53)) := (Below.refl _ _).alloc (Nat.le_refl _) _
  have HI := isTrue_bad _ a n q c (h.up hb0) h1
  go_enter Tryz.func97, Tryz.ntmps97
  go_wp2_with fail
  refine HI.mono ?_
  rintro e w1 ⟨rfl, hb1⟩
  exact ⟨rfl, rfl, qbt hb0 hb1⟩
set_option maxHeartbeats 600000 in
theorem one_neg (h : VArg w a n q c) (hx : x.op = 10) (h1 : opV a = 2) (hf : Fit (-nV a)) :
    Calls Tryz.prog 97 #[.pointer (some ⟨B, 0, none⟩), nodeV x, .slice q n c] w fun e w' => VEndE (.ok (mN (-nV a))) e w' ∧ Below w.heap.size w w' := by
  obtain ⟨op, nn, ss, tt⟩ := x
  unfold nodeV
  dsimp only at hx ⊢
  subst hx
  have hb0 : Below w.heap.size w (w.alloc (.cells #[.int .i64 10, .int .i64 nn, .string ss, .string tt] 53)) := (Below.refl _ _).alloc (Nat.le_refl _) _
  have HI := numberOf_ok _ a n q c (h.up hb0) h1
  have HN := fun w => neg_good (nV a) w (h.is.fit h1) hf
  have HF : Hid (Fit (-nV a)) := hf
  clear hf
  generalize nV a = t at *
  go_enter Tryz.func97, Tryz.ntmps97
  go_wp2_with fail
  refine HI.mono ?_
  rintro e w1 ⟨rfl, hb1⟩
  go_wp2_with fail
  refine (HN w1).mono ?_
  rintro e w2 ⟨rfl, rfl⟩
  go_wp2_with fail
  refine (sureI_ok _ (-t)).mono ?_
  rintro e w3 ⟨rfl, rfl⟩
  go_wp2_with fail
  refine (number_any _ (-t) HF.out).mono ?_
  rintro e w9 ⟨⟨q9, c9, rfl, hv9⟩, hb9⟩
  go_wp2
  go_ret
  exact ⟨⟨q9, c9, rfl, hv9⟩, qbt (qbt hb0 hb1) hb9⟩
set_option maxHeartbeats 600000 in
theorem one_neg_over (h : VArg w a n q c) (hx : x.op = 10) (h1 : opV a = 2) (hf : ¬ Fit (-nV a)) :
    Calls Tryz.prog 97 #[.pointer (some ⟨B, 0, none⟩), nodeV x, .slice q n c] w fun e w' => e = .panicked (thrownE 5) ∧ Below w.heap.size w w' := by
  obtain ⟨op, nn, ss, tt⟩ := x
  unfold nodeV
  dsimp only at hx ⊢
  subst hx
  have hb0 : Below w.heap.size w (w.alloc (.cells #[.int .i64 10, .int .i64 nn, .string ss, .string tt] 53)) := (Below.refl _ _).alloc (Nat.le_refl _) _
  have HI := numberOf_ok _ a n q c (h.up hb0) h1
  have HN := fun w => neg_over (nV a) w (h.is.fit h1) hf
  clear hf
  generalize nV a = t at *
  go_enter Tryz.func97, Tryz.ntmps97
  go_wp2_with fail
  refine HI.mono ?_
  rintro e w1 ⟨rfl, hb1⟩
  go_wp2_with fail
  refine (HN w1).mono ?_
  rintro e w2 ⟨rfl, rfl⟩
  go_wp2_with fail
  refine (sureI_bad _ 0 5).mono ?_
  rintro e w3 ⟨rfl, rfl⟩
  exact ⟨rfl, rfl, qbt hb0 hb1⟩
set_option maxHeartbeats 600000 in
theorem one_neg_bad (h : VArg w a n q c) (hx : x.op = 10) (h1 : opV a ≠ 2) :
    Calls Tryz.prog 97 #[.pointer (some ⟨B, 0, none⟩), nodeV x, .slice q n c] w fun e w' => e = .panicked (thrownE 2) ∧ Below w.heap.size w w' := by
  obtain ⟨op, nn, ss, tt⟩ := x
  unfold nodeV
  dsimp only at hx ⊢
  subst hx
  have hb0 : Below w.heap.size w (w.alloc (.cells #[.int .i64 10, .int .i64 nn, .string ss, .string tt] 53)) := (Below.refl _ _).alloc (Nat.le_refl _) _
  have HI := numberOf_bad _ a n q c (h.up hb0) h1
  go_enter Tryz.func97, Tryz.ntmps97
  go_wp2_with fail
  refine HI.mono ?_
  rintro e w1 ⟨rfl, hb1⟩
  exact ⟨rfl, rfl, qbt hb0 hb1⟩
set_option maxHeartbeats 600000 in
theorem one_has (ho : E.Ok) (hs : AS E w B k) (h : VArg w a n q c) (hx : x.op = 21) :
    Calls Tryz.prog 97 #[.pointer (some ⟨B, 0, none⟩), nodeV x, .slice q n c] w fun e w' => VEndE (hasE E.es a x.s) e w' ∧ Below w.heap.size w w' := by
  obtain ⟨op, nn, ss, tt⟩ := x
  unfold nodeV
  dsimp only at hx ⊢
  subst hx
  have hb0 : Below w.heap.size w (w.alloc (.cells #[.int .i64 21, .int .i64 nn, .string ss, .string tt] 53)) := (Below.refl _ _).alloc (Nat.le_refl _) _
  have HH := ehas_any _ B k a n q c ho (hs.up hb0) (h.up hb0) ss
  have HE : Hid (hasE E.es a ss = match hasB E.es a ss with | .ok t => .ok (tN t) | .error m => .error m) := by
    show _ = _
    unfold hasE hasB
    cases attE E.es a with
    | ok r => rfl
    | error m => by_cases h8 : m = 8 <;> simp [h8]
  rw [HE.out]
  clear HE
  cases hR : hasB E.es a ss with
  | ok t =>
    rw [hR] at HH
    simp only
    go_enter Tryz.func97, Tryz.ntmps97
    go_wp2_with fail
    refine HH.mono ?_
    rintro e w1 ⟨h1, hb1⟩
    have h1' : e = .returned (.bool t) := h1
    subst h1'
    go_wp2_with fail
    refine (truth_any w1 t).mono ?_
    rintro e w9 ⟨⟨q9, c9, rfl, hv9⟩, hb9⟩
    go_wp2
    go_ret
    exact ⟨⟨q9, c9, rfl, hv9⟩, qbt (qbt hb0 hb1) hb9⟩
  | error m =>
    rw [hR] at HH
    simp only
    go_enter Tryz.func97, Tryz.ntmps97
    go_wp2_with fail
    refine HH.mono ?_
    rintro e w1 ⟨h1, hb1⟩
    have h1' : e = .panicked (thrownE m) := h1
    subst h1'
    exact ⟨rfl, rfl, qbt hb0 hb1⟩
end
end Go.Proofs.YtglhjhbhijekjaaGreatDoor
namespace Go.Proofs.YtglhjhbhijekjaaGreatDoor
open Go.RowKit
set_option linter.unusedVariables false
set_option maxRecDepth 100000

section
variable {E : EvEnv} (w : World) (B k : Nat) (a : List Nd) (n : Nat) (q : Option Addr) (c : Nat) (x : Nd)
set_option maxHeartbeats 8000000 in
theorem one_get (ho : E.Ok) (hs : AS E w B k) (r : List Nd) (hR : attE E.es a = .ok r) (u : List Nd) (hu : fldV r x.s = some u) (h : VArg w a n q c) (hx : x.op = 22) :
    Calls Tryz.prog 97 #[.pointer (some ⟨B, 0, none⟩), nodeV x, .slice q n c] w fun e w' => VEndE (.ok u) e w' ∧ Below w.heap.size w w' := by
  obtain ⟨op, nn, ss, tt⟩ := x
  unfold nodeV
  dsimp only at *
  subst hx
  have hb0 : Below w.heap.size w (w.alloc (.cells #[.int .i64 22, .int .i64 nn, .string ss, .string tt] 53)) := (Below.refl _ _).alloc (Nat.le_refl _) _
  have hz : w.heap.size < (w.alloc (.cells #[.int .i64 22, .int .i64 nn, .string ss, .string tt] 53)).heap.size := by simp
  have m2 : (w.alloc (.cells #[.int .i64 22, .int .i64 nn, .string ss, .string tt] 53)).cell? ⟨w.heap.size, 2, none⟩ = some (.string ss) := by simp
  have h0 := h.up hb0
  have HR := fun w1 (hb : Below w.heap.size w w1) => record_any w1 B k a n q c ho (hs.up hb) (h.up hb)
  rw [hR] at HR
  have HG := fun w1 q1 c1 (hv : VArg w1 r r.length q1 c1) (h6 : opV r = 6) => get_field r r.length q1 c1 ss w1 hv h6
  rw [hu] at HG
  simp only at HG
  clear hR hu hs ho
  go_enter Tryz.func97, Tryz.ntmps97
  go_wp2_with fail
  generalize w.alloc (.cells #[.int .i64 22, .int .i64 nn, .string ss, .string tt] 53) = W at *
  have hbd : Below W.heap.size W W.drew := (Below.refl _ _).drew
  have hd := h0.up hbd
  have hzd : w.heap.size < W.drew.heap.size := hz
  have md : W.drew.cell? ⟨w.heap.size, 2, none⟩ = some (.string ss) := m2
  refine wp_mono (Q := fun e a w' => e = .normal ∧ a.defers = [] ∧ (∃ q3 c3, a.tmps[6]? = some (.slice q3 u.length c3) ∧ VArg w' u u.length q3 c3) ∧ Below w.heap.size w w') ?_ ?_
  rotate_left
  · rintro _ a w5 ⟨rfl, hd, ⟨q3, c3, ht, hv3⟩, hb5⟩
    go_wp2
    have ht2 : a.tmps.getD 6 undef = .slice q3 u.length c3 := by simp [Array.getD_eq_getD_getElem?, ht]
    refine bodyPost_ret (v := .slice q3 u.length c3) (by simp [results, Tryz.results97, go_sem, ht]) hd ⟨⟨q3, c3, rfl, hv3⟩, hb5⟩
  refine wp_region_any (by kernel_rfl) ?_
  refine wpAny_take (i := 0) (v := ?_) rfl (by kernel_rfl) (by kernel_rfl) (by kernel_rfl) (fun _ _ _ h => by cases h.1) (Or.inl ⟨by rfl, ?_⟩) ?_
  rotate_left
  · intro w; go_simp; with_reducible rfl
  refine wpAny_take (i := 1) (v := ?_) rfl (by kernel_rfl) (by kernel_rfl) (by kernel_rfl) (fun _ _ _ h => by cases h.1) (Or.inl ⟨by rfl, ?_⟩) ?_
  rotate_left
  · intro w; go_simp; with_reducible rfl
  refine wpAny_take (i := 6) (v := ?_) rfl (by kernel_rfl) (by kernel_rfl) (by kernel_rfl) (fun _ _ _ h => by cases h.1) (Or.inl ⟨by rfl, ?_⟩) ?_
  rotate_left
  · intro w; go_simp; with_reducible rfl
  refine wpAny_ready (rs := [2, 7]) (by kernel_rfl) (by simp) ?_
  refine AllReady.cons rfl (fun K hK => ?_) ?_
  · go_simp
    refine (HR W.drew (qbt hb0 hbd)).mono ?_
    rintro e w1 ⟨⟨q1, c1, rfl, hv1, h6⟩, hb1⟩
    refine hK _ _ ?_
    clear hK K
    refine wpAny_take (i := 3) (v := ?_) rfl (by kernel_rfl) (by kernel_rfl) (by kernel_rfl) (fun _ _ _ h => by cases h.1) (Or.inl ⟨by rfl, ?_⟩) ?_
    rotate_left
    · intro w; go_simp; with_reducible rfl
    refine wpAny_take (i := 4) (v := ?_) rfl (by kernel_rfl) (by kernel_rfl) (by kernel_rfl) (fun _ _ _ h => by cases h.1) (Or.inl ⟨by rfl, ?_⟩) ?_
    rotate_left
    · intro w; go_simp; with_reducible rfl
    refine wpAny_ready (rs := [5, 7]) (by kernel_rfl) (by simp) ?_
    refine AllReady.cons rfl (fun K hK => ?_) ?_
    · go_simp
      refine (sureN_ok w1 q1 _ c1).mono ?_
      rintro e w2 ⟨rfl, hw2⟩
      have hw3 := hw2.symm
      clear hw2
      subst hw3
      refine hK _ _ ?_
      clear hK K
      refine wpAny_ready (rs := [7]) (by kernel_rfl) (by simp) ?_
      refine AllReady.cons rfl (fun K hK => ?_) AllReady.nil
      have ml : w1.cell? ⟨w.heap.size, 2, none⟩ = some (.string ss) := ((qbt hbd hb1).cell (p := ⟨w.heap.size, 2, none⟩) hz).trans m2
      go_simp
      refine hK _ _ ?_
      clear hK K ml
      refine wpAny_ready (rs := [8]) (by kernel_rfl) (by simp) ?_
      refine AllReady.cons rfl (fun K hK => ?_) AllReady.nil
      go_simp
      refine (HG w1 q1 c1 hv1 h6).mono ?_
      rintro e w3 ⟨⟨q3, c3, rfl, hv3⟩, hb3⟩
      refine hK _ _ ?_
      clear hK K
      refine wpAny_take (i := 9) (v := ?_) rfl (by kernel_rfl) (by kernel_rfl) (by kernel_rfl) (fun _ _ _ h => by cases h.1) (Or.inl ⟨by rfl, ?_⟩) ?_
      rotate_left
      · intro w; go_simp; with_reducible rfl
      refine wpAny_take (i := 10) (v := ?_) rfl (by kernel_rfl) (by kernel_rfl) (by kernel_rfl) (fun _ _ _ h => by cases h.1) (Or.inl ⟨by rfl, ?_⟩) ?_
      rotate_left
      · intro w; go_simp; with_reducible rfl
      refine wpAny_ready (rs := [11]) (by kernel_rfl) (by simp) ?_
      refine AllReady.cons rfl (fun K hK => ?_) AllReady.nil
      go_simp
      refine (sureN_ok w3 q3 _ c3).mono ?_
      rintro e w4 ⟨rfl, hw4⟩
      have hw5 := hw4.symm
      clear hw4
      subst hw5
      refine hK _ _ ?_
      clear hK K
      refine wpAny_take (i := 12) (v := ?_) rfl (by kernel_rfl) (by kernel_rfl) (by kernel_rfl) (fun _ _ _ h => by cases h.1) (Or.inl ⟨by rfl, ?_⟩) ?_
      rotate_left
      · intro w; go_simp; with_reducible rfl
      refine wpAny_done (by kernel_rfl) ?_ _
      exact ⟨rfl, rfl, ⟨q3, c3, rfl, hv3⟩, qbt hb0 (qbt (qbt hbd hb1) hb3)⟩
    refine AllReady.cons rfl (fun K hK => ?_) AllReady.nil
    have ml : w1.cell? ⟨w.heap.size, 2, none⟩ = some (.string ss) := ((qbt hbd hb1).cell (p := ⟨w.heap.size, 2, none⟩) hz).trans m2
    go_simp
    refine hK _ _ ?_
    clear hK K ml
    refine wpAny_ready (rs := [5]) (by kernel_rfl) (by simp) ?_
    refine AllReady.cons rfl (fun K hK => ?_) AllReady.nil
    go_simp
    refine (sureN_ok w1 q1 _ c1).mono ?_
    rintro e w2 ⟨rfl, hw2⟩
    have hw3 := hw2.symm
    clear hw2
    subst hw3
    refine hK _ _ ?_
    clear hK K
    refine wpAny_ready (rs := [8]) (by kernel_rfl) (by simp) ?_
    refine AllReady.cons rfl (fun K hK => ?_) AllReady.nil
    go_simp
    refine (HG w1 q1 c1 hv1 h6).mono ?_
    rintro e w3 ⟨⟨q3, c3, rfl, hv3⟩, hb3⟩
    refine hK _ _ ?_
    clear hK K
    refine wpAny_take (i := 9) (v := ?_) rfl (by kernel_rfl) (by kernel_rfl) (by kernel_rfl) (fun _ _ _ h => by cases h.1) (Or.inl ⟨by rfl, ?_⟩) ?_
    rotate_left
    · intro w; go_simp; with_reducible rfl
    refine wpAny_take (i := 10) (v := ?_) rfl (by kernel_rfl) (by kernel_rfl) (by kernel_rfl) (fun _ _ _ h => by cases h.1) (Or.inl ⟨by rfl, ?_⟩) ?_
    rotate_left
    · intro w; go_simp; with_reducible rfl
    refine wpAny_ready (rs := [11]) (by kernel_rfl) (by simp) ?_
    refine AllReady.cons rfl (fun K hK => ?_) AllReady.nil
    go_simp
    refine (sureN_ok w3 q3 _ c3).mono ?_
    rintro e w4 ⟨rfl, hw4⟩
    have hw5 := hw4.symm
    clear hw4
    subst hw5
    refine hK _ _ ?_
    clear hK K
    refine wpAny_take (i := 12) (v := ?_) rfl (by kernel_rfl) (by kernel_rfl) (by kernel_rfl) (fun _ _ _ h => by cases h.1) (Or.inl ⟨by rfl, ?_⟩) ?_
    rotate_left
    · intro w; go_simp; with_reducible rfl
    refine wpAny_done (by kernel_rfl) ?_ _
    exact ⟨rfl, rfl, ⟨q3, c3, rfl, hv3⟩, qbt hb0 (qbt (qbt hbd hb1) hb3)⟩
  refine AllReady.cons rfl (fun K hK => ?_) AllReady.nil
  have ml : W.drew.cell? ⟨w.heap.size, 2, none⟩ = some (.string ss) := md
  go_simp
  refine hK _ _ ?_
  clear hK K ml
  refine wpAny_ready (rs := [2]) (by kernel_rfl) (by simp) ?_
  refine AllReady.cons rfl (fun K hK => ?_) AllReady.nil
  go_simp
  refine (HR W.drew (qbt hb0 hbd)).mono ?_
  rintro e w1 ⟨⟨q1, c1, rfl, hv1, h6⟩, hb1⟩
  refine hK _ _ ?_
  clear hK K
  refine wpAny_take (i := 3) (v := ?_) rfl (by kernel_rfl) (by kernel_rfl) (by kernel_rfl) (fun _ _ _ h => by cases h.1) (Or.inl ⟨by rfl, ?_⟩) ?_
  rotate_left
  · intro w; go_simp; with_reducible rfl
  refine wpAny_take (i := 4) (v := ?_) rfl (by kernel_rfl) (by kernel_rfl) (by kernel_rfl) (fun _ _ _ h => by cases h.1) (Or.inl ⟨by rfl, ?_⟩) ?_
  rotate_left
  · intro w; go_simp; with_reducible rfl
  refine wpAny_ready (rs := [5]) (by kernel_rfl) (by simp) ?_
  refine AllReady.cons rfl (fun K hK => ?_) AllReady.nil
  go_simp
  refine (sureN_ok w1 q1 _ c1).mono ?_
  rintro e w2 ⟨rfl, hw2⟩
  have hw3 := hw2.symm
  clear hw2
  subst hw3
  refine hK _ _ ?_
  clear hK K
  refine wpAny_ready (rs := [8]) (by kernel_rfl) (by simp) ?_
  refine AllReady.cons rfl (fun K hK => ?_) AllReady.nil
  go_simp
  refine (HG w1 q1 c1 hv1 h6).mono ?_
  rintro e w3 ⟨⟨q3, c3, rfl, hv3⟩, hb3⟩
  refine hK _ _ ?_
  clear hK K
  refine wpAny_take (i := 9) (v := ?_) rfl (by kernel_rfl) (by kernel_rfl) (by kernel_rfl) (fun _ _ _ h => by cases h.1) (Or.inl ⟨by rfl, ?_⟩) ?_
  rotate_left
  · intro w; go_simp; with_reducible rfl
  refine wpAny_take (i := 10) (v := ?_) rfl (by kernel_rfl) (by kernel_rfl) (by kernel_rfl) (fun _ _ _ h => by cases h.1) (Or.inl ⟨by rfl, ?_⟩) ?_
  rotate_left
  · intro w; go_simp; with_reducible rfl
  refine wpAny_ready (rs := [11]) (by kernel_rfl) (by simp) ?_
  refine AllReady.cons rfl (fun K hK => ?_) AllReady.nil
  go_simp
  refine (sureN_ok w3 q3 _ c3).mono ?_
  rintro e w4 ⟨rfl, hw4⟩
  have hw5 := hw4.symm
  clear hw4
  subst hw5
  refine hK _ _ ?_
  clear hK K
  refine wpAny_take (i := 12) (v := ?_) rfl (by kernel_rfl) (by kernel_rfl) (by kernel_rfl) (fun _ _ _ h => by cases h.1) (Or.inl ⟨by rfl, ?_⟩) ?_
  rotate_left
  · intro w; go_simp; with_reducible rfl
  refine wpAny_done (by kernel_rfl) ?_ _
  exact ⟨rfl, rfl, ⟨q3, c3, rfl, hv3⟩, qbt hb0 (qbt (qbt hbd hb1) hb3)⟩
end
end Go.Proofs.YtglhjhbhijekjaaGreatDoor
namespace Go.Proofs.YtglhjhbhijekjaaGreatDoor
open Go.RowKit
set_option linter.unusedVariables false
set_option maxRecDepth 100000

section
variable {E : EvEnv} {B f : Nat} (ho : E.Ok) (hf : f ≤ E.e.length + 1) (hV : ValOk E B f) (w : World) (k : Nat) (m s t r : List Nd)
include ho hf hV
set_option maxHeartbeats 1000000 in
theorem either_any (hs : AS E w B k) (hm : E.e.drop k = m) (p1 : pastE f m = some s) (p2 : pastE f s = some t) (p3 : pastE f t = some r) :
    Calls Tryz.prog 96 #[.pointer (some ⟨B, 0, none⟩)] w (VE E B (E.e.length - r.length) w (ifE (evE E.es E.q f m) (evE E.es E.q f s) (evE E.es E.q f t))) := by
  have hm2 : E.e.drop (E.e.length - s.length) = s := (nd_suffix (by rw [hm]; exact p1)).1
  have hm3 : E.e.drop (E.e.length - t.length) = t := (nd_suffix (k := E.e.length - s.length) (by rw [hm2]; exact p2)).1
  have H1 := val_at hV w k m s _ _ hs hm p1 rfl rfl
  have H2 := fun w1 hs1 => val_at hV w1 _ s t _ _ hs1 hm2 p2 rfl rfl
  have H3 := fun w1 hs1 => val_at hV w1 _ t r _ _ hs1 hm3 p3 rfl rfl
  have HS2 := fun w1 (hs1 : AS E w1 B (E.e.length - s.length)) => skip_any w1 B _ ho hs1 t f hf (by rw [hm2]; exact p2)
  have HS3 := fun w1 (hs1 : AS E w1 B (E.e.length - t.length)) => skip_any w1 B _ ho hs1 r f hf (by rw [hm3]; exact p3)
  cases hA : evE E.es E.q f m with
  | error n =>
    rw [hA] at H1
    have HE : Hid (ifE (.error n) (evE E.es E.q f s) (evE E.es E.q f t) = .error n) := rfl
    rw [HE.out]
    go_enter Tryz.func96, Tryz.ntmps96
    go_wp2_with fail
    refine H1.mono ?_
    rintro e w1 ⟨rfl, hb1⟩
    exact ⟨rfl, rfl, hb1⟩
  | ok v =>
    rw [hA] at H1
    by_cases h1 : opV v = 1
    · have hb : boolE (.ok v) = .ok (nV v == 1) := by unfold boolE; simp only [h1, if_true]
      by_cases ht : (nV v == 1) = true
      · have HE : Hid (ifE (.ok v) (evE E.es E.q f s) (evE E.es E.q f t) = evE E.es E.q f s) := by
          show _ = _
          unfold ifE
          rw [hb]
          simp only [ht, if_true]
        rw [HE.out]
        clear HE hb
        cases hB : evE E.es E.q f s with
        | error n =>
          rw [hB] at H2
          go_enter Tryz.func96, Tryz.ntmps96
          go_wp2_with fail
          refine H1.mono ?_
          rintro e w1 ⟨⟨q1, c1, rfl, hv1⟩, hs1, hb1⟩
          have HI := isTrue_ok w1 v _ q1 c1 hv1 h1
          rw [ht] at HI
          clear H1 ht
          go_wp2_with fail
          refine HI.mono ?_
          rintro e w2 ⟨rfl, hb2⟩
          have hs2 := hs1.up hb2
          go_wp2_with fail
          refine (H2 w2 hs2).mono ?_
          rintro e w3 ⟨rfl, hb3⟩
          exact ⟨rfl, rfl, (hb1.up hb2).trans hb3⟩
        | ok u =>
          rw [hB] at H2
          go_enter Tryz.func96, Tryz.ntmps96
          go_wp2_with fail
          refine H1.mono ?_
          rintro e w1 ⟨⟨q1, c1, rfl, hv1⟩, hs1, hb1⟩
          have HI := isTrue_ok w1 v _ q1 c1 hv1 h1
          rw [ht] at HI
          clear H1 ht
          go_wp2_with fail
          refine HI.mono ?_
          rintro e w2 ⟨rfl, hb2⟩
          have hs2 := hs1.up hb2
          go_wp2_with fail
          refine (H2 w2 hs2).mono ?_
          rintro e w3 ⟨⟨q3, c3, rfl, hv3⟩, hs3, hb3⟩
          go_wp2_with fail
          refine (HS3 w3 hs3).mono ?_
          rintro e w4 ⟨rfl, hs4, hb4⟩
          have hv4 := hv3.bx hs3 hb4
          go_wp2
          go_ret
          exact ⟨⟨q3, c3, rfl, hv4⟩, hs4, ((hb1.up hb2).trans hb3).trans hb4⟩
      · have ht' : (nV v == 1) = false := by simpa using ht
        have HE : Hid (ifE (.ok v) (evE E.es E.q f s) (evE E.es E.q f t) = evE E.es E.q f t) := by
          show _ = _
          unfold ifE
          rw [hb]
          simp only [ht']
          rfl
        rw [HE.out]
        clear HE hb ht
        cases hB : evE E.es E.q f t with
        | error n =>
          rw [hB] at H3
          go_enter Tryz.func96, Tryz.ntmps96
          go_wp2_with fail
          refine H1.mono ?_
          rintro e w1 ⟨⟨q1, c1, rfl, hv1⟩, hs1, hb1⟩
          have HI := isTrue_ok w1 v _ q1 c1 hv1 h1
          rw [ht'] at HI
          clear H1 ht'
          go_wp2_with fail
          refine HI.mono ?_
          rintro e w2 ⟨rfl, hb2⟩
          have hs2 := hs1.up hb2
          go_wp2_with fail
          refine (HS2 w2 hs2).mono ?_
          rintro e w3 ⟨rfl, hs3, hb3⟩
          go_wp2_with fail
          refine (H3 w3 hs3).mono ?_
          rintro e w4 ⟨rfl, hb4⟩
          exact ⟨rfl, rfl, ((hb1.up hb2).trans hb3).trans hb4⟩
        | ok u =>
          rw [hB] at H3
          go_enter Tryz.func96, Tryz.ntmps96
          go_wp2_with fail
          refine H1.mono ?_
          rintro e w1 ⟨⟨q1, c1, rfl, hv1⟩, hs1, hb1⟩
          have HI := isTrue_ok w1 v _ q1 c1 hv1 h1
          rw [ht'] at HI
          clear H1 ht'
          go_wp2_with fail
          refine HI.mono ?_
          rintro e w2 ⟨rfl, hb2⟩
          have hs2 := hs1.up hb2
          go_wp2_with fail
          refine (HS2 w2 hs2).mono ?_
          rintro e w3 ⟨rfl, hs3, hb3⟩
          go_wp2_with fail
          refine (H3 w3 hs3).mono ?_
          rintro e w4 ⟨⟨q4, c4, rfl, hv4⟩, hs4, hb4⟩
          go_wp2
          go_ret
          exact ⟨⟨q4, c4, rfl, hv4⟩, hs4, ((hb1.up hb2).trans hb3).trans hb4⟩
    · have HE : Hid (ifE (.ok v) (evE E.es E.q f s) (evE E.es E.q f t) = .error 2) := by
        show _ = _
        have hb : boolE (.ok v) = .error 2 := by unfold boolE; simp only [h1, if_false]
        unfold ifE
        rw [hb]
      rw [HE.out]
      go_enter Tryz.func96, Tryz.ntmps96
      go_wp2_with fail
      refine H1.mono ?_
      rintro e w1 ⟨⟨q1, c1, rfl, hv1⟩, hs1, hb1⟩
      have HI := isTrue_bad w1 v _ q1 c1 hv1 h1
      go_wp2_with fail
      refine HI.mono ?_
      rintro e w2 ⟨rfl, hb2⟩
      exact ⟨rfl, rfl, hb1.up hb2⟩
end
end Go.Proofs.YtglhjhbhijekjaaGreatDoor
