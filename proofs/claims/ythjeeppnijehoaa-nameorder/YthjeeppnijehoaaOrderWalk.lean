/- NameOrder: the walk of the statement's own function. -/
import Derived.Test.YthjeeppnijehoaaOrd
namespace Go.Proofs.Ythjeeppnijehoaa
open Go.RowKit
set_option linter.unusedVariables false

theorem bcell {W w1 : World} (hb : Below W.heap.size W w1) : ∀ b o, b < W.heap.size → w1.cell? ⟨b, o, none⟩ = W.cell? ⟨b, o, none⟩ :=
  fun b o h => hb.cell (p := ⟨b, o, none⟩) h
theorem bt {W w1 w2 : World} (h : Below W.heap.size W w1) (k : Below w1.heap.size w1 w2) : Below W.heap.size W w2 := h.trans (k.mono h.size)

theorem hide {p : Prop} (h : p) : Hid p := h
theorem unhide {p : Prop} (h : Hid p) : p := h
theorem same_lists {x : Int} {a1 a2 b1 b2 : ByteArray} (h : x = 0 ↔ a1.data.toList = b1.data.toList ∧ a2.data.toList = b2.data.toList) : x = 0 ↔ a1.toList = b1.toList ∧ a2.toList = b2.toList := by
  simpa only [ByteArray.toList_eq] using h

theorem base3 {w w' : World} {o1 o2 o3 : Obj} (h : Below (((w.alloc o1).alloc o2).alloc o3).heap.size (((w.alloc o1).alloc o2).alloc o3) w') : Below w.heap.size w w' :=
  ((((Below.refl _ _).alloc (Nat.le_refl _) _).alloc (by simp) _).alloc (by simp; omega) _).trans (h.mono (by simp; omega))

theorem fact_one : uc [65] [98] [65] [97] = 1 := by decide

set_option maxHeartbeats 2000000 in
theorem order_walk (a1 a2 b1 b2 c1 c2 : ByteArray) (w : World) (ha1 : a1.size ≤ maxLen) (ha2 : a2.size ≤ maxLen) (hb1 : b1.size ≤ maxLen) (hb2 : b2.size ≤ maxLen) :
    Calls Try.prog 5 #[.agg #[.string a1, .string a2], .agg #[.string b1, .string b2], .agg #[.string c1, .string c2]] w fun e w' => e = .returned (.bool true) ∧ Below w.heap.size w w' := by
  have hf := fact_one
  have hba := uc_neg b1.data.toList b2.data.toList a1.data.toList a2.data.toList
  have hz := uc_zero a1.data.toList a2.data.toList b1.data.toList b2.data.toList
  have hr := uc_range a1.data.toList a2.data.toList b1.data.toList b2.data.toList
  have ht := uc_trans a1.data.toList a2.data.toList b1.data.toList b2.data.toList c1.data.toList c2.data.toList
  generalize gx : uc a1.data.toList a2.data.toList b1.data.toList b2.data.toList = x at hba hz hr ht
  generalize gy : uc b1.data.toList b2.data.toList a1.data.toList a2.data.toList = y at hba
  generalize gu : uc b1.data.toList b2.data.toList c1.data.toList c2.data.toList = u at ht
  generalize gv : uc a1.data.toList a2.data.toList c1.data.toList c2.data.toList = v at ht
  have Gx : Hid (_ = _) := gx
  have Gy : Hid (_ = _) := gy
  have Gu : Hid (_ = _) := gu
  have Gv : Hid (_ = _) := gv
  have Hz : Hid (_ ↔ _) := hz
  have Hba : Hid (_ = _) := hba
  clear gx gy gu gv hz hba
  go_enter Try.func5, Try.ntmps5
  go_wp2_with fail
  refine (nameCompare_any _ _ _ _ _).mono ?_
  rintro e w1 ⟨rfl, k1⟩
  have hc1 := bcell k1
  go_wp2_with fail
  refine (nameCompare_any _ _ _ _ _).mono ?_
  rintro e w2 ⟨rfl, k2'⟩
  have k2 := bt k1 k2'
  have hc2 := bcell k2
  clear hc1 k1 k2'
  rw [Gx.out]
  go_wp2_with fail
  refine (nameCompare_any _ _ _ _ _).mono ?_
  rintro e w3 ⟨rfl, k3'⟩
  have k3 := bt k2 k3'
  have hc3 := bcell k3
  clear hc2 k2 k3'
  rw [Gy.out]
  go_wp2_with fail
  refine (nameCompare_any _ _ _ _ _).mono ?_
  rintro e w4 ⟨rfl, k4'⟩
  have k4 := bt k3 k4'
  have hc4 := bcell k4
  clear hc3 k3 k4'
  rw [Gu.out]
  go_wp2_with fail
  refine (nameCompare_any _ _ _ _ _).mono ?_
  rintro e w5 ⟨rfl, k5'⟩
  have k5 := bt k4 k5'
  have hc5 := bcell k5
  clear hc4 k4 k5'
  rw [Gv.out]
  have q := same_lists Hz.out
  have hy := Hba.out
  clear Hz Hba hf
  rcases hr with h | h | h
  · subst h
    obtain rfl : y = 1 := by omega
    have Q := hide q
    clear q hy
    go_wp2_with fail
    all_goals first
      | exact absurd ((unhide Q).2 ⟨‹_›, ‹_›⟩) (by decide)
      | (refine (uids_any a1 a2 b1 b2 _ ha1 ha2 hb1 hb2).mono ?_
         rintro e w6 ⟨rfl, k6'⟩
         have k6 := bt k5 k6'
         rw [Gx.out]
         go_wp2_with fail
         all_goals (go_ret; exact ⟨rfl, base3 k6⟩))
  · subst h
    obtain rfl : y = 0 := by omega
    have Q := hide q
    clear q hy
    go_wp2_with fail
    all_goals first
      | exact absurd ((unhide Q).1 trivial).1 ‹_›
      | exact absurd ((unhide Q).1 trivial).2 ‹_›
      | (refine (uids_any a1 a2 b1 b2 _ ha1 ha2 hb1 hb2).mono ?_
         rintro e w6 ⟨rfl, k6'⟩
         have k6 := bt k5 k6'
         rw [Gx.out]
         go_wp2_with fail
         all_goals (go_ret; exact ⟨rfl, base3 k6⟩))
  · subst h
    obtain rfl : y = -1 := by omega
    have Q := hide q
    clear q hy
    go_wp2_with fail
    all_goals first
      | exact absurd ((unhide Q).2 ⟨‹_›, ‹_›⟩) (by decide)
      | (refine (uids_any a1 a2 b1 b2 _ ha1 ha2 hb1 hb2).mono ?_
         rintro e w6 ⟨rfl, k6'⟩
         have k6 := bt k5 k6'
         rw [Gx.out]
         go_wp2_with fail
         all_goals (go_ret; exact ⟨rfl, base3 k6⟩))
end Go.Proofs.Ythjeeppnijehoaa
