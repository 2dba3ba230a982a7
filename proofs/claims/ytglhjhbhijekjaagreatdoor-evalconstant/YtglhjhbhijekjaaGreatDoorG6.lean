/- An error as a value, told by its number; small laws on what is returned. A row of truths of the call's own, by what stands at each place; one of them set. -/
import Derived.Test.YtglhjhbhijekjaaGreatDoorChecked
import Derived.WalkKit
import Derived.OwnWalk
import Derived.Below
namespace Go.Proofs.YtglhjhbhijekjaaGreatDoor
open Go.RowKit

theorem ret_bool {a b : Bool} (h : a = b) : Ending.returned (.bool a) = .returned (.bool b) := by rw [h]
/-- An error that is told by its number: nil at 0. -/
def eV (n : Int) : Value := if n = 0 then .nilIface else .iface 31 (.int .i64 n)
theorem eV_zero : eV 0 = .nilIface := rfl
theorem eV_not {n : Int} (h : n ≠ 0) : eV n = .iface 31 (.int .i64 n) := if_neg h
theorem eV_nil {n : Int} (h : n = 0) : eV n = .nilIface := if_pos h
theorem ret_eV {n : Int} {v : Value} (h : v = eV n) : Ending.returned v = .returned (eV n) := by rw [h]
end Go.Proofs.YtglhjhbhijekjaaGreatDoor
namespace Go.Proofs.YtglhjhbhijekjaaGreatDoor
open Go.RowKit
set_option linter.unusedVariables false

theorem Tryz.infoBool : (Tryz.prog.info? 4).map (fun i => (i.zero, i.size, i.bytes)) = some (some (.bool false), 1, 1) := by kernel_rfl
def RB (w : World) (g n : Nat) (f : Nat → Bool) : Prop :=
  ∃ cur : Array Value, w.heap[g]? = some (.cells cur 4 (0, 0)) ∧ cur.size = n ∧ ∀ j, j < n → cur[j]? = some (.bool (f j))
theorem RB.lt {w : World} {g n : Nat} {f : Nat → Bool} (h : RB w g n f) : g < w.heap.size := by
  obtain ⟨cur, h1, _⟩ := h
  exact (Array.getElem?_eq_some_iff.1 h1).1
theorem RB.at {w : World} {g n : Nat} {f : Nat → Bool} (h : RB w g n f) {j : Nat} (hj : j < n) : w.cell? ⟨g, j, none⟩ = some (.bool (f j)) := by
  obtain ⟨cur, h1, _, h3⟩ := h
  simp [World.cell?, h1, h3 j hj]
theorem RB.free {w : World} {g n : Nat} {f : Nat → Bool} (h : RB w g n f) (j : Nat) : w.frozen? ⟨g, j, none⟩ = false := by
  obtain ⟨cur, h1, _⟩ := h
  simp [World.frozen?, h1]
theorem RB.congr {w : World} {g n : Nat} {f f' : Nat → Bool} (h : RB w g n f) (e : ∀ j, j < n → f j = f' j) : RB w g n f' := by
  obtain ⟨cur, h1, h2, h3⟩ := h
  exact ⟨cur, h1, h2, fun j hj => by rw [← e j hj]; exact h3 j hj⟩
theorem RB.up {w w' : World} {B g n : Nat} {f : Nat → Bool} (h : RB w g n f) (k : Below B w w') (hg : g < B) : RB w' g n f := by
  obtain ⟨cur, h1, h2⟩ := h
  exact ⟨cur, (k.block g hg).trans h1, h2⟩
theorem RB.set {w : World} {g n : Nat} {f : Nat → Bool} (h : RB w g n f) (j : Nat) (b : Bool) : RB (w.setCell ⟨g, j, none⟩ (.bool b)) g n (fun k => if k = j then b else f k) := by
  obtain ⟨cur, h1, h2, h3⟩ := h
  refine ⟨cur.setIfInBounds j (.bool b), ?_, by simpa using h2, fun k hk => ?_⟩
  · simp only [World.setCell, Array.getElem?_modify, h1, if_true, Option.map_some]
    rfl
  · by_cases e : k = j
    · subst e
      show _ = some (Value.bool (if k = k then b else f k))
      rw [if_pos rfl, Array.getElem?_setIfInBounds_self_of_lt (by omega)]
    · show _ = some (Value.bool (if k = j then b else f k))
      rw [if_neg e, Array.getElem?_setIfInBounds_ne (by omega)]; exact h3 k hk
/-- A row that was made: nothing in it is true. -/
theorem RB.made {w : World} {base g n : Nat} (h : w.ownsRow base 4 1 (.slice (some ⟨g, 0, none⟩) n n) n (madeCells (Value.bool false).cells (n * 1)).toList) : RB w g n (fun _ => false) := by
  rcases h.2 with ⟨e, _⟩ | ⟨g', cap, cur, e, _, hgg, _, _, hsz, htk⟩
  · cases e
  · cases e
    refine ⟨cur, hgg, by omega, fun j hj => ?_⟩
    have h1 : (madeCells (Value.bool false).cells (n * 1)).toList[j]? = some (.bool false) := by
      simp [madeCells, Value.cells, hj, Nat.mod_one]
    rw [← htk, List.getElem?_take_of_lt (by omega)] at h1
    simpa using h1
end Go.Proofs.YtglhjhbhijekjaaGreatDoor
