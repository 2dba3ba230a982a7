/- Whether two lists of words are the same (package wicketgatesame), the words without their places (the statements' bare), and the facts of the statements; by walks of their own texts. -/
import Derived.Test.YtmcjogfopfhblaaDoorWordT
import Derived.Test.YtmcjogfopfhblaaDoorSpellL
import Derived.Laws.StructEq
import Derived.Deep.QuietTactic
namespace Go.Proofs.YtmcjogfopfhblaaDoor
open Go.RowKit
set_option linter.unusedVariables false

theorem below_drawn {B : Nat} {a w : World} (h : Below B a w) (n : Nat) : Below B a (w.drewN n) := ⟨h.os, h.tape, h.output, h.size, h.block⟩

set_option maxHeartbeats 1000000 in
theorem sameTok_any (L : List Tk) (p q : Option Addr) (c1 c2 : Nat) (w : World) (ha : TKL w p L) (hb : TKL w q L) (hl : L.length ≤ maxLen) :
    Calls Tryd.prog 10 #[.slice p L.length c1, .slice q L.length c2] w fun e w' => e = .returned (.bool true) ∧ Below w.heap.size w w' := by
  unfold maxLen at hl
  have i0 : ((L.length : Int) != (L.length : Int)) = false := by simp
  go_enter Tryd.func10, Tryd.ntmps10
  go_wp2
  go_loopw [5] (fun i wr => ∃ k n : Nat, k ≤ L.length ∧ i = .int .i64 k ∧ wr = w.drewN n) (fun i _ => L.length - (intOf i).toNat)
  case atStart => exact ⟨0, 0, Nat.zero_le _, rfl, rfl⟩
  case round =>
    obtain ⟨k, n, hk, rfl, rfl⟩ := hrel
    by_cases hlt : k < L.length
    · obtain ⟨b1, o1, rfl, hb1, x0, x1, x2⟩ := ha.at hlt
      obtain ⟨b2, o2, rfl, hb2, y0, y1, y2⟩ := hb.at hlt
      have i1 : (k : Int) < (L.length : Int) := by omega
      generalize L[k] = x at *
      go_wp2
      go_quiet (fail)
      go_wp2
      go_roundw
      case rel => exact ⟨k + 1, _, by omega, by go_num, rfl⟩
      case measure => simp [intOf]; omega
    · have i1 : ¬ (k : Int) < (L.length : Int) := by omega
      go_wp2
      go_ret
      exact ⟨rfl, below_drawn (Below.refl _ _) _⟩

theorem fact_read : readL [97, 32, 61, 61, 32, 53] = .ok [mkT 1 [97] 0, mkT 5 [61, 61] 2, mkT 2 [53] 5] := by
  unfold readL
  rw [if_neg (by decide), wds_word (by decide) (x := (1, [97], 1)) rfl (by decide)]
  simp only [List.nil_append, List.drop_zero, Nat.sub_self, Nat.zero_add]
  rw [wds_blank (by decide), wds_word (by decide) (x := (5, [61, 61], 2)) rfl (by simp)]
  simp only [Nat.add_one_sub_one, List.drop_succ_cons, List.drop_zero]
  rw [wds_blank (by decide), wds_word (by decide) (x := (2, [53], 1)) rfl (by simp)]
  simp only [Nat.sub_self, List.drop_zero]
  rw [wds_nil]
  rfl
end Go.Proofs.YtmcjogfopfhblaaDoor
