/- Package ent's Check: by a walk of its own text. -/
import Derived.Test.YtkpbholhempmmaaEntStore
namespace Go.Proofs.Ytkpbholhempmmaa
open Go.RowKit Go.Maps Go.WideMaps
set_option linter.unusedVariables false
set_option linter.unusedSimpArgs false

set_option maxHeartbeats 1000000 in
theorem entCheck_any (es : List En) (p : Option Addr) (c : Nat) (w : World) (hl : EL w p es) :
    Calls Try.prog 10 #[.slice p es.length c] w fun e w' => e = .returned (eV (sfault es)) ∧ Below w.heap.size w w' := by
  go_enter Try.func10, Try.ntmps10
  go_wp2_with fail
  refine (storeOf_any es p c _ hl).mono ?_
  rintro e w1 ⟨⟨h0, sb, rfl, hm⟩ | ⟨h0, rfl⟩, hb1⟩
  · have HE : Hid (eV (sfault es) = .nilIface) := eV_nil h0
    clear h0
    go_wp2_with fail
    go_ret
    exact ⟨by rw [HE.out]; rfl, hb1⟩
  · have HE : Hid (eV (sfault es) = .iface 58 (.int .i64 (sfault es))) := eV_not h0
    clear h0
    rw [HE.out]
    go_wp2_with fail
    go_ret
    exact ⟨by rw [HE.out]; rfl, hb1⟩
end Go.Proofs.Ytkpbholhempmmaa
