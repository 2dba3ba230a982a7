import Derived.WalkKit
import Derived.Below
import Derived.Deep.RegionWith
import Derived.Deep.QuietTactic
import Derived.BigQuiet
set_option linter.unusedVariables false
set_option maxHeartbeats 12000000
namespace Go.Proofs.YtlnhaajjoplafaaGreatDoor
open Go.RowKit
structure BW (N:Nat)(w:World) where
 at_:World
 bel:Below N w at_
instance (N:Nat) (w:World):Inhabited (BW N w):=⟨⟨w,Below.refl _ _⟩⟩
theorem wp_region_bel {P:Program}{id:Nat}{Q:Exit→Act→World→Prop}{a:Act}{w:World}{l:List Oper}(hm:P.follows .mixedOrders=true)(hB:Region.lexB .any l.toArray=true)
 (h:wpQuiet P l.toArray (fun w'=>∃p:BW w.heap.size w,w'=p.at_) (fun a'=>∀w',(∃p:BW w.heap.size w,w'=p.at_)→Q .normal a' w') l a):(Code.region id l.toArray true).wp P Q a w:=
 wp_region_quiet (C:=fun w'=>∃p:BW w.heap.size w,w'=p.at_) hm hB ⟨⟨w.drew,(Below.refl _ _).drew⟩,rfl⟩ (by simpa using h)
theorem Calls.bel {P:Program}{f:FuncId}{args:Array Value}{w:World}{v:Value}(p:BW w.heap.size w)
 (h:Calls P f args p.at_ fun e w'=>e= .returned v∧Below p.at_.heap.size p.at_ w'):Calls P f args p.at_ fun e w''=>e= .returned v∧∃q:BW w.heap.size w,w''=q.at_:=
 h.mono fun _ w' ⟨he,hb⟩=>⟨he,⟨w',p.bel.trans (hb.mono p.bel.size)⟩,rfl⟩
end Go.Proofs.YtlnhaajjoplafaaGreatDoor
