/- The fact of two entities: a store of one, and who is above it. -/
import Derived.Test.YtkpbholhempmmaaEntIn
import Derived.Test.YtkpbholhempmmaaEntLies
namespace Go.Proofs.Ytkpbholhempmmaa
open Go.RowKit Go.Maps Go.WideMaps
set_option linter.unusedVariables false
set_option linter.unusedSimpArgs false

def factA : Ui := ⟨⟨#[65]⟩, ⟨#[97]⟩⟩
def factB : Ui := ⟨⟨#[65]⟩, ⟨#[98]⟩⟩
def factE : List En := [⟨factA, [factB], [⟨6, 0, ⟨#[]⟩, ⟨#[]⟩⟩]⟩]
theorem factA_ok : UOk factA := by unfold UOk maxLen; decide
theorem factB_ok : UOk factB := by unfold UOk maxLen; decide
theorem fact_ne : factA ≠ factB := fun h => by have := congrArg (fun u : Ui => u.i.data) h; simp [factA, factB] at this
theorem fact_ups : upsOf factE factA = [factB] := by simp [upsOf, factE]
theorem fact_upsB : upsOf factE factB = [] := by
  refine upsOf_none (fun e he => ?_)
  simp only [factE, List.mem_singleton] at he
  subst he
  exact fact_ne
theorem fact_acyc : ¬ Cyc factE := by
  rintro ⟨e, he, h⟩
  simp only [factE, List.mem_singleton] at he
  subst he
  obtain ⟨x, hx, h⟩ := Abv.steps.1 h
  rw [fact_ups] at hx
  rw [List.mem_singleton.1 hx] at h
  rcases h with h | h
  · exact fact_ne h.symm
  · obtain ⟨x, hx, _⟩ := Abv.steps.1 h
    rw [fact_upsB] at hx
    cases hx
theorem fact_list : lfault [] factE = 0 := by decide
theorem fact_good : sfault factE = 0 := sfault_ok (by decide) fact_list fact_acyc
theorem fact_inn : Inn factE factA factB := .inr (.one (by rw [fact_ups]; simp))

theorem in_ok (es : List En) (p : Option Addr) (c : Nat) (a b : Ui) (w : World) (hl : EL w p es) (ha : UOk a) (hb : UOk b) (h : sfault es = 0) :
    Calls Try.prog 7 #[.slice p es.length c, .agg #[.string a.t, .string a.i], .agg #[.string b.t, .string b.i]] w fun e w' => ∃ r, e = .returned (.tuple #[.bool r, .nilIface]) ∧ (r = true ↔ Inn es a b) ∧ Below w.heap.size w w' := by
  refine (in_any es p c a b w hl ha hb).mono ?_
  rintro e w' ⟨⟨_, r, rfl, h1⟩ | ⟨h1, _⟩, hb⟩
  · exact ⟨r, rfl, h1, hb⟩
  · exact absurd h h1
theorem in_err (es : List En) (p : Option Addr) (c : Nat) (a b : Ui) (w : World) (hl : EL w p es) (ha : UOk a) (hb : UOk b) (h : sfault es ≠ 0) :
    Calls Try.prog 7 #[.slice p es.length c, .agg #[.string a.t, .string a.i], .agg #[.string b.t, .string b.i]] w fun e w' => e = .returned (.tuple #[.bool false, .iface 58 (.int .i64 (sfault es))]) ∧ Below w.heap.size w w' := by
  refine (in_any es p c a b w hl ha hb).mono ?_
  rintro e w' ⟨⟨h1, _⟩ | ⟨_, rfl⟩, hb⟩
  · exact absurd h1 h
  · exact ⟨by rw [eV_not h], hb⟩

set_option maxRecDepth 100000 in
set_option maxHeartbeats 2000000 in
theorem fact_any (w : World) : Calls Try.prog 6 #[] w fun e w' => e = .returned (.bool true) ∧ Below w.heap.size w w' := by
  have hb2 : Below w.heap.size w ((w.alloc (.cells #[.string ⟨#[65]⟩, .string ⟨#[97]⟩] 24)).alloc (.cells #[.string ⟨#[65]⟩, .string ⟨#[98]⟩] 24)) := ((Below.refl _ _).alloc (Nat.le_refl _) _).alloc (by simp) _
  have HL : Hid (EL _ _ _) := ents_lies ((w.alloc (.cells #[.string ⟨#[65]⟩, .string ⟨#[97]⟩] 24)).alloc (.cells #[.string ⟨#[65]⟩, .string ⟨#[98]⟩] 24)) (w.heap.size + 1 + 1) (by simp) factA factB factA_ok factB_ok
  go_enter Try.func6, Try.ntmps6
  go_wp2_with fail
  refine (in_ok factE _ 1 factA factB _ HL.out factA_ok factB_ok fact_good).mono ?_
  rintro e w1 ⟨r, rfl, hr, hb1⟩
  obtain rfl : r = true := hr.2 fact_inn
  clear hr
  go_wp2_with fail
  go_ret
  exact ⟨rfl, hb2.trans ((((Below.refl _ _).alloc (by simp; omega) _).alloc (by simp; omega) _).alloc (by simp; omega) _ |>.trans (hb1.mono (by simp; omega)))⟩
end Go.Proofs.Ytkpbholhempmmaa
