/- The statement's own function num1: a number as a value; chains of worlds. -/
import Derived.Test.YthmfgnofhbmogabNdOrd
namespace Go.Proofs.Ythmfgnofhbmogab
open Go.RowKit
set_option linter.unusedVariables false

theorem num1_any (n : Int) (hn : n ≤ 9223372036854775807) (w : World) :
    Calls Try.prog 5 #[.int .i64 n] w fun e w' => (∃ p, e = .returned (.slice p [(⟨2, n, ⟨#[]⟩, ⟨#[]⟩⟩ : Nd)].length 1) ∧ NL w' p [⟨2, n, ⟨#[]⟩, ⟨#[]⟩⟩]) ∧ Below w.heap.size w w' := by
  go_enter Try.func5, Try.ntmps5
  go_wp2
  go_ret
  refine ⟨⟨_, rfl, .inr ⟨_, _, rfl, by simp, fun i x hx => ?_⟩⟩, (Below.refl _ _).alloc (Nat.le_refl _) _⟩
  rcases i with _ | i
  · simp at hx
    subst hx
    simp [go_sem, Nd.wf, maxLen]
    exact hn
  · simp at hx

theorem below2 {a b c : World} (h : Below a.heap.size a b) (k : Below b.heap.size b c) : Below a.heap.size a c := h.trans (k.mono h.size)
theorem below_n {a b : World} (h : Below a.heap.size a b) (n : Nat) : Below a.heap.size a (b.drewN n) := ⟨h.os, h.tape, h.output, h.size, h.block⟩
end Go.Proofs.Ythmfgnofhbmogab
