/- What a row's list of variables gives a walk (package errors' variable, two tables of package utf8), and a memory that meets the list: common to this seat's proofs. -/
import Derived.Test.YtmcjogfopfhblaaDoorCards
import Derived.Test.YtmcjogfopfhblaaDoorTie
import Derived.Test.YtmcjogfopfhblaaDoorToldWalk
import Derived.ProofKit
import Derived.OpenShut
import Derived.ShutString
import Derived.ChangeOld
import Derived.Deep.DeepHandedRow
import Derived.SizedLaws
import Derived.LaidLaws
import Derived.LaidHandle
import Derived.MakeChecks
namespace Go.Proofs.YtmcjogfopfhblaaDoor
open Go.ChangeShapes Go.WideShapes Go.ChangeAt Go.RowKit

theorem Tryd.own : ownKnob Tryd.prog.godebug = none := by kernel_rfl
theorem Tryd.gErr : Tryd.prog.globalNamed "errors.errorType" = some 0 := by kernel_rfl
theorem Tryd.oneRow : ((List.range 144).filter fun t => Tryd.prog.rowNamed t [101, 114, 114, 111, 114]) = [24] := by kernel_rfl
theorem Tryd.typesSize : Tryd.prog.types.size = 144 := by kernel_rfl
def listed3 : List (String × DataW Unit) := [("unicode/utf8.acceptRanges", Rows.laid_unicode_utf8_acceptRanges), ("errors.errorType", Rows.laid_errors_errorType), ("unicode/utf8.first", Rows.laid_unicode_utf8_first)]
def listed2 : List (String × DataW Unit) := [("unicode/utf8.acceptRanges", Rows.laid_unicode_utf8_acceptRanges), ("unicode/utf8.first", Rows.laid_unicode_utf8_first)]

theorem errVar_of_laid3 {W : World} (h : laidMetH Tryd.prog listed3 W) : ErrVar W := by
  have h' : laidMet Tryd.prog listed2 W ∧ handlesMet Tryd.prog [("errors.errorType", Rows.laid_errors_errorType)] W := h
  obtain ⟨name, u, ty, e1, e2, e3, e4, e5⟩ := h'.2 _ (List.mem_singleton.2 rfl)
  have en : name = [101, 114, 114, 111, 114] := (Option.some.inj e1).symm
  subst en
  obtain rfl : u = 82 := Option.some.inj (e2.symm.trans (by kernel_rfl))
  have hm : ty ∈ (List.range 144).filter fun t => Tryd.prog.rowNamed t [101, 114, 114, 111, 114] := List.mem_filter.2 ⟨List.mem_range.2 (by rw [← Tryd.typesSize]; exact e3), e4⟩
  rw [Tryd.oneRow] at hm
  obtain rfl := List.mem_singleton.1 hm
  have hh : typeHandle Tryd.prog 24 = .pointer (some ⟨4, 24, none⟩) := by kernel_rfl
  rw [hh] at e5
  unfold ErrVar
  simpa using World.var?_cell Tryd.gErr e5 0

/-- The numbers of a table, one behind the other. -/
def leafV : DataW Unit → Value
  | .lit (.int k z) => .int k z
  | _ => .bool false
def rowV : DataW Unit → List Value
  | .agg l => l.map leafV
  | d => [leafV d]
def flatV : DataW Unit → List Value
  | .agg l => l.flatMap rowV
  | d => [leafV d]
def layCells (w : World) (g : Nat) (cs : List Value) : World :=
  { w with heap := w.heap.modify g fun
      | .cells _ t frozen => .cells cs.toArray t frozen
      | o => o }
/-- Both tables of package utf8 laid as the program's text lays them. -/
def layTabs (w : World) : World := layCells (layCells w 2 (flatV Rows.laid_unicode_utf8_first)) 3 (flatV Rows.laid_unicode_utf8_acceptRanges)
/-- .. and package errors' variable. -/
def layAll3 (w : World) : World := layCells (layTabs w) 0 [.iface 82 (.agg #[.pointer (some ⟨4, 24, none⟩)])]
set_option maxRecDepth 100000 in
theorem laid_met2 (os : Os) (args : Array Value) : laidMetH Tryd.prog listed2 ((layTabs (World.holding Tryd.prog os ⟨#[], #[], []⟩)).forCall (fun _ _ => 0) ⟨#[], args, []⟩).memory := by
  rw [MakeChecks.laidMetH_plain _ _ _ (by kernel_rfl)]
  exact laidMet_of_run (ps := MemPlace.row ⟨3, 0, none⟩ 32 ++ [] ++ (MemPlace.row ⟨2, 0, none⟩ 256 ++ [] ++ [])) 8 (by kernel_rfl) (by kernel_rfl) (by kernel_rfl)
set_option maxRecDepth 100000 in
theorem laid_met3 (os : Os) (args : Array Value) : laidMetH Tryd.prog listed3 ((layAll3 (World.holding Tryd.prog os ⟨#[], #[], []⟩)).forCall (fun _ _ => 0) ⟨#[], args, []⟩).memory :=
  laidMetH_of_parts (laidMet_of_run (l := listed2) (ps := MemPlace.row ⟨3, 0, none⟩ 32 ++ [] ++ (MemPlace.row ⟨2, 0, none⟩ 256 ++ [] ++ [])) 8 (by kernel_rfl) (by kernel_rfl) (by kernel_rfl)) (by kernel_rfl)
end Go.Proofs.YtmcjogfopfhblaaDoor
