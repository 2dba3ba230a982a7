/- The quiet walk over a region that draws its order and calls what lays blocks. No program is named here. -/
import Derived.WalkKit
import Derived.Below
import Derived.Deep.RegionWith
import Derived.Deep.QuietTactic
import Derived.BigQuiet
namespace Go.Proofs.YtkgfmigleacjdaaGreatDoor
open Go.RowKit
set_option linter.unusedVariables false

/-- A world in which all that lay in w below N is as it was. -/
structure BW (N : Nat) (w : World) where
  at_ : World
  bel : Below N w at_
instance (N : Nat) (w : World) : Inhabited (BW N w) := ⟨⟨w, Below.refl _ _⟩⟩
theorem wp_region_bel {P : Program} {id : Nat} {Q : Exit → Act → World → Prop} {a : Act} {w : World} {l : List Oper} (hm : P.follows .mixedOrders = true) (hB : Region.lexB .any l.toArray = true)
    (h : wpQuiet P l.toArray (fun w' => ∃ p : BW w.heap.size w, w' = p.at_) (fun a' => ∀ w', (∃ p : BW w.heap.size w, w' = p.at_) → Q .normal a' w') l a) : (Code.region id l.toArray true).wp P Q a w :=
  wp_region_quiet (C := fun w' => ∃ p : BW w.heap.size w, w' = p.at_) hm hB ⟨⟨w.drew, (Below.refl _ _).drew⟩, rfl⟩ (by simpa using h)
theorem Calls.bel {P : Program} {f : FuncId} {args : Array Value} {w : World} {v : Value} (p : BW w.heap.size w)
    (h : Calls P f args p.at_ fun e w' => e = .returned v ∧ Below p.at_.heap.size p.at_ w') : Calls P f args p.at_ fun e w'' => e = .returned v ∧ ∃ q : BW w.heap.size w, w'' = q.at_ :=
  h.mono fun _ w' ⟨he, hb⟩ => ⟨he, ⟨w', p.bel.trans (hb.mono p.bel.size)⟩, rfl⟩
end Go.Proofs.YtkgfmigleacjdaaGreatDoor
