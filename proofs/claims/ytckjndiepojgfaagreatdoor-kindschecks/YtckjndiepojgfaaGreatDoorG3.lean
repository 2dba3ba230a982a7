/- An error as a value, told by its number; small laws on what is returned. Whole numbers in a row of the call's own. -/
import Derived.Test.YtckjndiepojgfaaGreatDoorChecked
import Derived.WalkKit
import Derived.OwnWalk
import Derived.Below
namespace Go.Proofs.YtckjndiepojgfaaGreatDoor
open Go.RowKit

theorem ret_bool {a b : Bool} (h : a = b) : Ending.returned (.bool a) = .returned (.bool b) := by rw [h]
/-- An error that is told by its number: nil at 0. -/
def eV (n : Int) : Value := if n = 0 then .nilIface else .iface 23 (.int .i64 n)
theorem eV_zero : eV 0 = .nilIface := rfl
theorem eV_not {n : Int} (h : n ≠ 0) : eV n = .iface 23 (.int .i64 n) := if_neg h
theorem eV_nil {n : Int} (h : n = 0) : eV n = .nilIface := if_pos h
theorem ret_eV {n : Int} {v : Value} (h : v = eV n) : Ending.returned v = .returned (eV n) := by rw [h]
end Go.Proofs.YtckjndiepojgfaaGreatDoor
namespace Go.Proofs.YtckjndiepojgfaaGreatDoor
open Go.RowKit
set_option linter.unusedVariables false

theorem Tryz.infoInt : (Tryz.prog.info? 3).map (fun i => (i.zero, i.size, i.bytes)) = some (some (.int .i64 0), 1, 8) := by kernel_rfl
def ns (l : List Nat) : List Value := l.map fun n : Nat => Value.int .i64 (n : Int)
def OI (w : World) (base : Nat) (v : Value) (l : List Nat) : Prop := w.ownsRow base 3 1 v l.length (ns l)
theorem OI.nil (w : World) (base : Nat) : OI w base (.slice none 0 0) [] := World.ownsRow_nil _ _ _ _
/-- Numbers lie behind an address. -/
def IL (w : World) (p : Option Addr) (l : List Nat) : Prop :=
  l = [] ∨ ∃ b off, p = some ⟨b, off, none⟩ ∧ b < w.heap.size ∧ ∀ (i x : Nat), l[i]? = some x → w.cell? ⟨b, off + i, none⟩ = some (.int .i64 (x : Int))
theorem IL.up {w w' : World} {p : Option Addr} {l : List Nat} (h : IL w p l) (k : Below w.heap.size w w') : IL w' p l := by
  rcases h with h | ⟨b, off, h1, h2, h3⟩
  · exact .inl h
  · refine .inr ⟨b, off, h1, Nat.lt_of_lt_of_le h2 k.size, fun i x hx => ?_⟩
    have q : ∀ o, w'.cell? ⟨b, o, none⟩ = w.cell? ⟨b, o, none⟩ := fun o => k.cell (p := ⟨b, o, none⟩) h2
    simp only [q]
    exact h3 i x hx
theorem OI.slice {w : World} {base : Nat} {v : Value} {l : List Nat} (h : OI w base v l) : ∃ q c, v = .slice q l.length c ∧ IL w q l ∧ l.length ≤ c ∧ c ≤ maxLen := by
  rcases h.2 with ⟨rfl, hn⟩ | ⟨g, cap, cur, rfl, hb, hgg, hle, hm, hsz, htk⟩
  · obtain rfl := List.eq_nil_of_length_eq_zero hn
    exact ⟨none, 0, rfl, .inl rfl, Nat.le_refl _, Nat.zero_le _⟩
  · have hlt := (Array.getElem?_eq_some_iff.1 hgg).1
    refine ⟨some ⟨g, 0, none⟩, cap, rfl, .inr ⟨g, 0, rfl, hlt, fun i x hx => ?_⟩, hle, hm⟩
    have hi : i < l.length := (List.getElem?_eq_some_iff.1 hx).1
    have k1 : (ns l)[i]? = some (.int .i64 (x : Int)) := by simp [ns, hx]
    rw [← k1, ← htk, List.getElem?_take_of_lt (by omega)]
    simp [World.cell?, hgg]
theorem append_int (w : World) {ops : Array Oper} {rest : List Oper} {o : Oper} {a : Act} {Q : Exit → Act → World → Prop} (hgd : o.guard = none) (s x : Operand)
    (ho : o.op = .call { callee := .builtin .append, args := #[s, x], argTypes := #[70, 70] })
    (base : Nat) (v : Value) (l : List Nat) (hs : a.eval s = v) (hown : OI w base v l) (n : Int) (c : Nat) (hc : n = (c : Int)) (hx : a.eval x = .slice (some ⟨w.heap.size, 0, none⟩) 1 1)
    (hlen : l.length + 1 ≤ 1099511627776) (hbase : base ≤ w.heap.size)
    (h : ∀ v' w', OI w' base v' (l ++ [c]) → Below base w w' → wpList Tryz.prog ops Q rest (a.put o.dst v') w') : wpList Tryz.prog ops Q (o :: rest) a (w.alloc (.cells #[.int .i64 n] 3)) := by
  obtain ⟨i0, hi, hz0, hz1, hz2⟩ := info_parts Tryz.infoInt
  subst hc
  refine wpList_append_own _ hgd s x 70 ho base 3 i0 (.int .i64 0) 1 8 Tryz.underlying70 hi hz0 hz1 hz2 rfl (by decide) v l.length (ns l) hs (hown.alloc _) ⟨w.heap.size, 0, none⟩ 1 1 [.int .i64 (c : Int)] hx rfl ?_ ?_ ?_ ?_ ?_ ?_
  · intro j u hj
    match j, hj with
    | 0, hj => simp at hj; subst hj; simp [Addr.add]
  · intro u hu; simp at hu; subst hu; rfl
  · unfold maxLen; omega
  · omega
  · simp; omega
  · intro v' w' h1 h2 _
    refine h v' w' ?_ ?_
    · unfold OI
      have e : ns (l ++ [c]) = ns l ++ [.int .i64 (c : Int)] := by simp [ns]
      rw [e, List.length_append]; exact h1
    · refine ((Below.refl base w).alloc hbase (.cells #[.int .i64 (c : Int)] 3)).grown h2 (by simp; omega) ?_
      intro k hk
      exact (World.ownsRow.lt hown k hk).1
end Go.Proofs.YtckjndiepojgfaaGreatDoor
