/- EntChecks: the walk of the statement's own function. -/
import Derived.Test.YtkpbholhempmmaaDoorStoreFault
import Derived.Test.YtkpbholhempmmaaDoorEntLies
import Derived.Test.YtkpbholhempmmaaDoorChain
namespace Go.Proofs.YtkpbholhempmmaaDoor
open Go.RowKit Go.Maps Go.WideMaps
set_option linter.unusedVariables false
set_option linter.unusedSimpArgs false

def selfA : Ui := ⟨⟨#[65]⟩, ⟨#[97]⟩⟩
def selfE : List En := [⟨selfA, [selfA], [⟨6, 0, ⟨#[]⟩, ⟨#[]⟩⟩]⟩]
theorem selfA_ok : UOk selfA := by unfold UOk maxLen; decide
theorem self_list : lfault [] selfE = 0 := by decide
theorem self_cyc : Cyc selfE := ⟨_, List.mem_singleton.2 rfl, .one (by simp [upsOf, selfE])⟩
theorem self_fault : sfault selfE = 7 := sfault_cyc (by decide) self_list self_cyc

set_option maxRecDepth 100000 in
set_option maxHeartbeats 4000000 in
theorem echecks_walk (es : List En) (p : Option Addr) (c : Nat) (w : World) (hL : ErrVar w) (hl : EL w p es) :
    Calls Tryd.prog 3 #[.slice p es.length c] w fun e w' => e = .returned (.bool true) ∧ Below w.heap.size w w' := by
  have HL : Hid (EL w p es) := hl
  have HV : Hid (ErrVar w) := hL
  have hss : (sfault es == sfault es) = true := by simp
  clear hl hL
  go_enter Tryd.func3, Tryd.ntmps3
  go_wp2_with fail
  refine (entCheck_any es p c _ HL.out).mono ?_
  rintro e w1 ⟨rfl, k1⟩
  go_wp2_with fail
  refine (storeFault_any es p c _ (HL.out.up k1)).mono ?_
  rintro e w2 ⟨rfl, k2⟩
  have k12 := bt2 k1 k2
  go_wp2_with fail
  refine (toldE_any (sfault es) (sfault es) _ (ev_up HV.out k12)).mono ?_
  rintro e w3 ⟨rfl, k3⟩
  rw [hss]
  have HB : Hid (Below w.heap.size w w3) := bt2 k12 k3
  clear k1 k2 k12 k3 hss
  have HE : Hid (EL _ _ _) := ents_lies (w3.alloc (.cells #[.string ⟨#[65]⟩, .string ⟨#[97]⟩] 30)) (w3.heap.size + 1) (by simp) selfA selfA selfA_ok selfA_ok
  go_wp2_with fail
  refine (entCheck_any selfE _ 1 _ HE.out).mono ?_
  rintro e w4 ⟨rfl, k4⟩
  rw [self_fault]
  have HB4 : Hid (Below w.heap.size w w4) := by
    refine HB.out.trans (Below.trans ?_ (k4.mono (by have := HB.out.size; simp; omega)))
    have := HB.out.size
    exact ((((Below.refl _ _).alloc (by omega) _).alloc (by simp; omega) _).alloc (by simp; omega) _).alloc (by simp; omega) _
  clear k4
  go_wp2_with fail
  refine (toldE_any 7 7 _ (ev_up HV.out HB4.out)).mono ?_
  rintro e w5 ⟨rfl, k5⟩
  have HB5 : Hid (Below w.heap.size w w5) := bt2 HB4.out k5
  clear k5
  have h7 : ((7 : Int) == 7) = true := by decide
  rw [h7]
  go_wp2_with fail
  go_ret
  exact ⟨rfl, HB5.out⟩
end Go.Proofs.YtkpbholhempmmaaDoor
