/- Values that hold lists of nodes, whole: package bag's calls and the comparison of nodes, stated over such values. -/
import Derived.Test.YtncmjcjnldhhhaaDoorBagMake
import Derived.Test.YtncmjcjnldhhhaaDoorBagAsk
import Derived.Test.YtncmjcjnldhhhaaDoorBagLit
import Derived.Test.YtncmjcjnldhhhaaDoorSame
namespace Go.Proofs.YtncmjcjnldhhhaaDoor
open Go.RowKit
set_option linter.unusedVariables false

/-- A value that is a slice of these nodes. -/
def At (w : World) (v : Value) (S : List Nd) : Prop := ∃ q c, v = .slice q S.length c ∧ NL w q S ∧ S.length ≤ c ∧ c ≤ maxLen
theorem At.up {w w' : World} {v : Value} {S : List Nd} (h : At w v S) (k : Below w.heap.size w w') : At w' v S := by
  obtain ⟨q, c, e, h1, h2⟩ := h
  exact ⟨q, c, e, h1.up k, h2⟩
theorem At.mk {w : World} {q : Option Addr} {c : Nat} {S : List Nd} (h1 : NL w q S) (h2 : S.length ≤ c) (h3 : c ≤ maxLen) : At w (.slice q S.length c) S := ⟨q, c, rfl, h1, h2, h3⟩
/-- What a call hands back that makes a set. -/
def Made (w : World) (S : List Nd) (e : Ending) : Prop := ∃ v, e = .returned (.tuple #[v, .nilIface]) ∧ At w v S

theorem same_at {w : World} {v u : Value} {S T : List Nd} (hv : At w v S) (hu : At w u T) :
    Calls Tryd.prog 15 #[v, u] w fun e w' => e = .returned (.bool (sameNd S T)) ∧ Below w.heap.size w w' := by
  obtain ⟨q, c, rfl, h1, h2, h3⟩ := hv
  obtain ⟨q', c', rfl, k1, k2, k3⟩ := hu
  exact (sameNodes_any S T q q' c c' w h1 k1 (Nat.le_trans h2 h3) (Nat.le_trans k2 k3)).mono fun e w' ⟨e1, n, e2⟩ => ⟨e1, by rw [e2]; exact ⟨rfl, rfl, rfl, Nat.le_refl _, fun _ _ => rfl⟩⟩
theorem meet_at {w : World} {v u : Value} {l m : List (List Nd)} (hv : At w v (setN l)) (hu : At w u (setN m)) (hl : IsSet l) (hm : IsSet m) :
    Calls Tryd.prog 16 #[v, u] w fun e w' => Made w' (setN (meetL l m)) e ∧ Below w.heap.size w w' := by
  obtain ⟨q, c, rfl, h1, h2, h3⟩ := hv
  obtain ⟨q', c', rfl, k1, k2, k3⟩ := hu
  exact (meet_ok l m q q' c c' w h1 h2 h3 k1 k2 k3 hl hm).mono fun e w' ⟨⟨q2, c2, e1, e2, e3, e4⟩, hb⟩ => ⟨⟨_, e1, At.mk e2 e3 e4⟩, hb⟩
theorem less_at {w : World} {v u : Value} {l m : List (List Nd)} (hv : At w v (setN l)) (hu : At w u (setN m)) (hl : IsSet l) (hm : IsSet m) :
    Calls Tryd.prog 17 #[v, u] w fun e w' => Made w' (setN (lessL l m)) e ∧ Below w.heap.size w w' := by
  obtain ⟨q, c, rfl, h1, h2, h3⟩ := hv
  obtain ⟨q', c', rfl, k1, k2, k3⟩ := hu
  exact (less_ok l m q q' c c' w h1 h2 h3 k1 k2 k3 hl hm).mono fun e w' ⟨⟨q2, c2, e1, e2, e3, e4⟩, hb⟩ => ⟨⟨_, e1, At.mk e2 e3 e4⟩, hb⟩
theorem union_at {w : World} {v u : Value} {l m : List (List Nd)} {S : List Nd} (hv : At w v (setN l)) (hu : At w u (setN m)) (hl : IsSet l) (hm : IsSet m) (hS : setN (bothL l m) = S) (hfit : S.length ≤ 200) :
    Calls Tryd.prog 14 #[v, u] w fun e w' => Made w' S e ∧ Below w.heap.size w w' := by
  subst hS
  obtain ⟨q, c, rfl, h1, h2, h3⟩ := hv
  obtain ⟨q', c', rfl, k1, k2, k3⟩ := hu
  have H := union_ok l m q q' c c' w h1 h2 h3 k1 k2 k3 hl hm
  simp only [UnionRet, if_pos hfit] at H
  exact H.mono fun e w' ⟨⟨q2, c2, e1, e2, e3, e4⟩, hb⟩ => ⟨⟨_, e1, At.mk e2 e3 e4⟩, hb⟩
theorem union_over {w : World} {v u : Value} {l m : List (List Nd)} (hv : At w v (setN l)) (hu : At w u (setN m)) (hl : IsSet l) (hm : IsSet m) (hfit : ¬ (setN (bothL l m)).length ≤ 200) :
    Calls Tryd.prog 14 #[v, u] w fun e w' => e = .returned (.tuple #[.slice none 0 0, .iface 29 (.int .i64 4)]) ∧ Below w.heap.size w w' := by
  obtain ⟨q, c, rfl, h1, h2, h3⟩ := hv
  obtain ⟨q', c', rfl, k1, k2, k3⟩ := hu
  have H := union_ok l m q q' c c' w h1 h2 h3 k1 k2 k3 hl hm
  simp only [UnionRet, if_neg hfit] at H
  exact H
theorem meet_no {w : World} {v u : Value} {s t : List Nd} (hv : At w v s) (hu : At w u t) (h : sfault s t ≠ 0) :
    Calls Tryd.prog 16 #[v, u] w fun e w' => e = .returned (.tuple #[.slice none 0 0, .iface 29 (.int .i64 (sfault s t))]) ∧ Below w.heap.size w w' := by
  obtain ⟨q, c, rfl, h1, h2, h3⟩ := hv
  obtain ⟨q', c', rfl, k1, k2, k3⟩ := hu
  have H := meet_bad s t q q' c c' w h1 h2 h3 k1 k2 k3 h
  rw [eV_not h] at H
  exact H
theorem less_no {w : World} {v u : Value} {s t : List Nd} (hv : At w v s) (hu : At w u t) (h : sfault s t ≠ 0) :
    Calls Tryd.prog 17 #[v, u] w fun e w' => e = .returned (.tuple #[.slice none 0 0, .iface 29 (.int .i64 (sfault s t))]) ∧ Below w.heap.size w w' := by
  obtain ⟨q, c, rfl, h1, h2, h3⟩ := hv
  obtain ⟨q', c', rfl, k1, k2, k3⟩ := hu
  have H := less_bad s t q q' c c' w h1 h2 h3 k1 k2 k3 h
  rw [eV_not h] at H
  exact H
theorem union_no {w : World} {v u : Value} {s t : List Nd} (hv : At w v s) (hu : At w u t) (h : sfault s t ≠ 0) :
    Calls Tryd.prog 14 #[v, u] w fun e w' => e = .returned (.tuple #[.slice none 0 0, .iface 29 (.int .i64 (sfault s t))]) ∧ Below w.heap.size w w' := by
  obtain ⟨q, c, rfl, h1, h2, h3⟩ := hv
  obtain ⟨q', c', rfl, k1, k2, k3⟩ := hu
  have H := union_bad s t q q' c c' w h1 h2 h3 k1 k2 k3 h
  rw [eV_not h] at H
  exact H
theorem all_at {w : World} {v u : Value} {l m : List (List Nd)} (hv : At w v (setN l)) (hu : At w u (setN m)) (hl : IsSet l) (hm : IsSet m) :
    Calls Tryd.prog 12 #[v, u] w fun e w' => e = .returned (.tuple #[.bool (allB l m), .nilIface]) ∧ Below w.heap.size w w' := by
  obtain ⟨q, c, rfl, h1, h2, h3⟩ := hv
  obtain ⟨q', c', rfl, k1, k2, k3⟩ := hu
  exact all_ok l m q q' c c' w h1 h2 h3 k1 k2 k3 hl hm
theorem all_no {w : World} {v u : Value} {s t : List Nd} (hv : At w v s) (hu : At w u t) (h : sfault s t ≠ 0) :
    Calls Tryd.prog 12 #[v, u] w fun e w' => e = .returned (.tuple #[.bool false, .iface 29 (.int .i64 (sfault s t))]) ∧ Below w.heap.size w w' := by
  obtain ⟨q, c, rfl, h1, h2, h3⟩ := hv
  obtain ⟨q', c', rfl, k1, k2, k3⟩ := hu
  have H := all_bad s t q q' c c' w h1 h2 h3 k1 k2 k3 h
  rw [eV_not h] at H
  exact H
theorem sfault_one {s t : List Nd} : sfault s t = 0 ↔ (∃ l, IsSet l ∧ s = setN l) ∧ ∃ m, IsSet m ∧ t = setN m := by
  constructor
  · intro h
    obtain ⟨l, m, hl, hm, e1, e2⟩ := sfault_zero h
    exact ⟨⟨l, hl, e1⟩, m, hm, e2⟩
  · rintro ⟨⟨l, hl, rfl⟩, m, hm, rfl⟩
    exact sfault_sets hl hm
/-- All of any two lists: some answer, with its error. -/
theorem all_some {w : World} {v u : Value} {s t : List Nd} (hv : At w v s) (hu : At w u t) :
    Calls Tryd.prog 12 #[v, u] w fun e w' => (∃ b, e = .returned (.tuple #[.bool b, eV (sfault s t)])) ∧ Below w.heap.size w w' := by
  by_cases h : sfault s t = 0
  · obtain ⟨⟨l, hl, rfl⟩, m, hm, rfl⟩ := sfault_one.1 h
    rw [eV_nil h]
    exact (all_at hv hu hl hm).mono fun e w' ⟨e1, hb⟩ => ⟨⟨_, e1⟩, hb⟩
  · rw [eV_not h]
    exact (all_no hv hu h).mono fun e w' ⟨e1, hb⟩ => ⟨⟨_, e1⟩, hb⟩
end Go.Proofs.YtncmjcjnldhhhaaDoor
