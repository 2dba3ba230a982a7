/- Package val's fit: what was made, or that it is too much. -/
import Derived.Test.YtglhjhbhijekjaaGreatDoorG4
import Derived.Test.YtglhjhbhijekjaaGreatDoorG7
namespace Go.Proofs.YtglhjhbhijekjaaGreatDoor
open Go.RowKit
set_option linter.unusedVariables false

theorem fit_ok (L : List Nd) (q : Option Addr) (c : Nat) (w : World) (h : L.length ≤ 200) :
    Calls Tryz.prog 158 #[.slice q L.length c] w fun e w' => e = .returned (.tuple #[.slice q L.length c, .nilIface]) ∧ w' = w := by
  have h' : ¬ (200 : Int) < (L.length : Int) := by omega
  go_enter Tryz.func158, Tryz.ntmps158
  go_wp2
  go_ret2
  exact ⟨rfl, rfl⟩
theorem fit_full (L : List Nd) (q : Option Addr) (c : Nat) (w : World) (h : 200 < L.length) :
    Calls Tryz.prog 158 #[.slice q L.length c] w fun e w' => e = .returned (.tuple #[.slice none 0 0, eV 4]) ∧ w' = w := by
  have h' : (200 : Int) < (L.length : Int) := by omega
  go_enter Tryz.func158, Tryz.ntmps158
  go_wp2
  go_ret2
  exact ⟨rfl, rfl⟩
end Go.Proofs.YtglhjhbhijekjaaGreatDoor
