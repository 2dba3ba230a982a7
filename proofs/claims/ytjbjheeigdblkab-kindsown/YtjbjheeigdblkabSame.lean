/- Whether two lists of nodes are the same: package wicketgatesame's Nodes, by a walk of its own text. -/
import Derived.Test.YtjbjheeigdblkabNdOrd
import Derived.Laws.StructEq
namespace Go.Proofs.Ytjbjheeigdblkab
open Go.RowKit
set_option linter.unusedVariables false

def sameNd (a b : List Nd) : Bool := decide (lsC a b = 0)
theorem sameNd_iff (a b : List Nd) : sameNd a b = true ↔ a = b := by unfold sameNd; rw [decide_eq_true_iff, lsC_is.zero]
theorem sameNd_no {a b : List Nd} (h : a ≠ b) : sameNd a b = false := by
  cases e : sameNd a b with
  | false => rfl
  | true => exact absurd ((sameNd_iff a b).1 e) h

theorem ret_b {a b : Bool} (h : a = b) : Ending.returned (.bool a) = .returned (.bool b) := by rw [h]

theorem take_same {a b : List Nd} {k : Nat} (ha : k < a.length) (hb : k < b.length) (h : a.take k = b.take k) (e : a[k] = b[k]) : a.take (k + 1) = b.take (k + 1) := by
  rw [List.take_succ_eq_append_getElem ha, List.take_succ_eq_append_getElem hb, h, e]

set_option maxHeartbeats 4000000 in
theorem sameNodes_any (a b : List Nd) (p q : Option Addr) (c1 c2 : Nat) (w : World) (ha : NL w p a) (hb : NL w q b) (la : a.length ≤ maxLen) (lb : b.length ≤ maxLen) :
    Calls Try.prog 9 #[.slice p a.length c1, .slice q b.length c2] w fun e w' => e = .returned (.bool (sameNd a b)) ∧ ∃ n, w' = w.drewN n := by
  unfold maxLen at la lb
  by_cases hl : a.length = b.length
  · have i0 : ((a.length : Int) != (b.length : Int)) = false := by simp [hl]
    go_enter Try.func9, Try.ntmps9
    go_wp2
    go_loopw [5] (fun i wr => ∃ k n : Nat, k ≤ a.length ∧ i = .int .i64 k ∧ wr = w.drewN n ∧ Hid (a.take k = b.take k)) (fun i _ => a.length - (intOf i).toNat)
    case atStart => exact ⟨0, 0, Nat.zero_le _, rfl, rfl, rfl⟩
    case round =>
      obtain ⟨k, n, hk, rfl, rfl, HD⟩ := hrel
      by_cases hlt : k < a.length
      · have hlt2 : k < b.length := by omega
        obtain ⟨b1, o1, rfl, hb1, x0, x1, x2, x3, xw⟩ := ha.at hlt
        obtain ⟨b2, o2, rfl, hb2, y0, y1, y2, y3, yw⟩ := hb.at hlt2
        have i1 : (k : Int) < (a.length : Int) := by omega
        have i2 : (k : Int) < (b.length : Int) := by omega
        have HE : Hid (a[k] = b[k] → a.take (k + 1) = b.take (k + 1)) := take_same hlt hlt2 HD.out
        have HF : Hid (a[k] ≠ b[k] → a ≠ b) := fun h1 h2 => h1 (by subst h2; rfl)
        generalize a[k] = x at *
        generalize b[k] = y at *
        obtain ⟨xa, xb, xc, xd⟩ := x
        obtain ⟨ya, yb, yc, yd⟩ := y
        simp only at x0 x1 x2 x3 y0 y1 y2 y3
        by_cases h1 : xa = ya
        · subst h1
          by_cases h2 : xb = yb
          · subst h2
            by_cases h3 : xc = yc
            · subst h3
              by_cases h4 : xd = yd
              · subst h4
                have HE2 : Hid (a.take (k + 1) = b.take (k + 1)) := HE.out rfl
                clear HE HF
                go_wp2
                go_quiet (fail)
                go_wp2
                go_roundw
                case rel => exact ⟨k + 1, _, by omega, by go_num, rfl, HE2⟩
                case measure => simp [intOf]; omega
              · have h4' : ¬ xd.toList = yd.toList := fun h => h4 (bytes_inj (by simpa only [ByteArray.toList_eq] using h))
                go_wp2
                go_quiet (fail)
                go_wp2
                go_ret
                exact ⟨ret_b (sameNd_no (HF.out (fun h => h4 (by injection h)))).symm, _, by rw [World.drewN_drewN]⟩
            · have h3' : ¬ xc.toList = yc.toList := fun h => h3 (bytes_inj (by simpa only [ByteArray.toList_eq] using h))
              go_wp2
              go_quiet (fail)
              go_wp2
              go_ret
              exact ⟨ret_b (sameNd_no (HF.out (fun h => h3 (by injection h)))).symm, _, by rw [World.drewN_drewN]⟩
          · go_wp2
            go_quiet (fail)
            go_wp2
            go_ret
            exact ⟨ret_b (sameNd_no (HF.out (fun h => h2 (by injection h)))).symm, _, by rw [World.drewN_drewN]⟩
        · go_wp2
          go_quiet (fail)
          go_wp2
          go_ret
          exact ⟨ret_b (sameNd_no (HF.out (fun h => h1 (by injection h)))).symm, _, by rw [World.drewN_drewN]⟩
      · have i1 : ¬ (k : Int) < (a.length : Int) := by omega
        have HS : Hid (sameNd a b = true) := by
          show _ = _
          rw [sameNd_iff]
          have := HD.out
          rw [List.take_of_length_le (by omega), List.take_of_length_le (by omega)] at this
          exact this
        go_wp2
        go_ret
        exact ⟨ret_b HS.out.symm, _, rfl⟩
  · have i0 : ((a.length : Int) != (b.length : Int)) = true := by simp; omega
    go_enter Try.func9, Try.ntmps9
    go_wp2
    go_ret
    exact ⟨ret_b (sameNd_no (fun h => hl (by rw [h]))).symm, 0, rfl⟩
end Go.Proofs.Ytjbjheeigdblkab
