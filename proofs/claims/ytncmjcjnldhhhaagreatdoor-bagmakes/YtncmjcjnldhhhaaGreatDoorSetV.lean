/- A value stays one with anything behind it; a row of values, each once and in order, makes a set that is a value, and falls into them again. No program is named here. -/
import Derived.Test.YtncmjcjnldhhhaaGreatDoorSetN
import Derived.Test.YtncmjcjnldhhhaaGreatDoorShape
namespace Go.Proofs.YtncmjcjnldhhhaaGreatDoor
set_option linter.unusedVariables false

theorem take_behind {u rest s : List Nd} (h : rest.length ≤ u.length) : (u ++ s).take ((u ++ s).length - (rest ++ s).length) = u.take (u.length - rest.length) := by
  have e : (u ++ s).length - (rest ++ s).length = u.length - rest.length := by simp only [List.length_append]; omega
  rw [e, List.take_append_of_le_length (by omega)]
theorem setLoop_behind {pv pw : List Nd → Option (List Nd)} {s : List Nd} (h : ∀ u r, pv u = some r → pw (u ++ s) = some (r ++ s)) (hs : ∀ u r, pv u = some r → r.length < u.length) :
    ∀ (k : Nat) (last : Option (List Nd)) (u r : List Nd), setLoop pv k last u = some r → setLoop pw k last (u ++ s) = some (r ++ s)
  | 0, last, u, r, e => by
    simp only [setLoop, Option.some.injEq] at e ⊢
    rw [e]
  | k + 1, last, u, r, e => by
    simp only [setLoop] at e ⊢
    cases e1 : pv u with
    | none => rw [e1] at e; cases e
    | some rest =>
      simp only [e1] at e
      rw [h u rest e1]
      simp only []
      rw [take_behind (Nat.le_of_lt (hs u rest e1))]
      split at e
      · rename_i ha
        rw [if_pos ha]
        exact setLoop_behind h hs k _ rest r e
      · cases e
theorem recLoop_behind {pv pw : List Nd → Option (List Nd)} {s : List Nd} (h : ∀ u r, pv u = some r → pw (u ++ s) = some (r ++ s)) :
    ∀ (k : Nat) (last : ByteArray) (u r : List Nd), recLoop pv k last u = some r → recLoop pw k last (u ++ s) = some (r ++ s)
  | 0, last, u, r, e => by
    simp only [recLoop, Option.some.injEq] at e ⊢
    rw [e]
  | k + 1, last, [], r, e => by simp [recLoop] at e
  | k + 1, last, x :: u, r, e => by
    simp only [recLoop, List.cons_append] at e ⊢
    split at e
    · rename_i hx
      rw [if_pos hx]
      cases e1 : pv u with
      | none => rw [e1] at e; cases e
      | some rest =>
        simp only [e1] at e
        rw [h u rest e1]
        exact recLoop_behind h k _ rest r e
    · cases e
theorem pastV_behind (s : List Nd) : ∀ (f g : Nat) (u r : List Nd), f ≤ g → pastV f u = some r → pastV g (u ++ s) = some (r ++ s)
  | 0, _, _, _, _, e => by simp [pastV] at e
  | f + 1, 0, _, _, h, _ => absurd h (by omega)
  | f + 1, g + 1, [], r, _, e => by simp [pastV] at e
  | f + 1, g + 1, x :: u, r, h, e => by
    have ih := fun u r => pastV_behind s f g u r (by omega)
    simp only [pastV, List.cons_append] at e ⊢
    split at e
    · rename_i hx
      rw [if_pos hx]
      split at e
      · rename_i h5
        rw [if_pos h5]
        exact setLoop_behind ih (fun u r e => (pastV_shorter e).1) _ _ _ _ e
      · rename_i h5
        rw [if_neg h5]
        split at e
        · rename_i h6
          rw [if_pos h6]
          exact recLoop_behind ih _ _ _ _ e
        · rename_i h6
          rw [if_neg h6]
          simp only [Option.some.injEq] at e ⊢
          rw [e]
    · cases e
theorem value_behind {v : List Nd} (h : vfault v = 0) (s : List Nd) {g : Nat} (hg : v.length + 1 ≤ g) : pastV g (v ++ s) = some s := by
  have := pastV_behind s (v.length + 1) g v [] hg (isVal_past h).2
  simpa using this

theorem mem_flat {l : List (List Nd)} {v : List Nd} (h : v ∈ l) : v.length ≤ l.flatten.length := by
  induction l with
  | nil => cases h
  | cons a l ih =>
    simp only [List.flatten_cons, List.length_append]
    rcases List.mem_cons.1 h with rfl | h
    · omega
    · have := ih h; omega

theorem strict_loop (g : Nat) : ∀ (l : List (List Nd)) (last : Option (List Nd)), Strict l → (∀ v ∈ l, vfault v = 0) → (∀ v ∈ l, v.length + 1 ≤ g) → (∀ v ∈ l, aheadOf last v = true) → setLoop (pastV g) l.length last l.flatten = some []
  | [], _, _, _, _, _ => rfl
  | v :: l, last, hs, hv, hg, ha => by
    have hs' := List.pairwise_cons.1 hs
    simp only [List.length_cons, setLoop, List.flatten_cons]
    rw [value_behind (hv v (by simp)) l.flatten (hg v (by simp))]
    simp only []
    have ht : (v ++ l.flatten).take ((v ++ l.flatten).length - l.flatten.length) = v := by
      rw [List.length_append, Nat.add_sub_cancel, List.take_left]
    rw [ht, if_pos (ha v (by simp))]
    exact strict_loop g l (some v) hs'.2 (fun u hu => hv u (by simp [hu])) (fun u hu => hg u (by simp [hu])) (fun u hu => by simp [aheadOf, hs'.1 u hu])

theorem setN_value {l : List (List Nd)} (hs : Strict l) (hv : ∀ v ∈ l, vfault v = 0) (hl : (setN l).length ≤ 200) : vfault (setN l) = 0 := by
  have h1 : pastV ((setN l).length + 1) (setN l) = some [] := by
    have h2 := strict_loop (setN l).length l none hs hv (fun v hm => by have := mem_flat hm; show v.length + 1 ≤ l.flatten.length + 1; omega) (fun v _ => rfl)
    unfold setN at h2 ⊢
    simp only [pastV]
    rw [if_pos ⟨by decide, by simp [ndOk]⟩, if_pos trivial]
    simpa using h2
  unfold vfault
  rw [if_neg (by omega), if_pos]
  unfold isVal
  rw [h1]
  rfl

theorem value_strip {v : List Nd} (h : vfault v = 0) : strip v = v := by
  obtain ⟨x, r, rfl, _, h7, _⟩ := value_head h
  simp [strip, h7]
theorem values_strip {l : List (List Nd)} (hv : ∀ v ∈ l, vfault v = 0) : l.map strip = l := by
  induction l with
  | nil => rfl
  | cons v l ih => rw [List.map_cons, value_strip (hv v (by simp)), ih (fun u hu => hv u (by simp [hu]))]

theorem values_segs (g : Nat) : ∀ (l : List (List Nd)), (∀ v ∈ l, vfault v = 0) → (∀ v ∈ l, v.length + 1 ≤ g) → Segs g l.flatten l
  | [], _, _ => .nil
  | v :: l, hv, hg => by
    have h1 := value_behind (hv v (by simp)) l.flatten (hg v (by simp))
    refine .cons (a := v) ?_ (values_segs g l (fun u hu => hv u (by simp [hu])) (fun u hu => hg u (by simp [hu])))
    obtain ⟨x, r, rfl, _, h7, _⟩ := value_head (hv v (by simp))
    show (if x.op = 7 then pastV g (r ++ l.flatten) else pastV g (x :: (r ++ l.flatten))) = _
    rw [if_neg h7]
    exact h1
end Go.Proofs.YtncmjcjnldhhhaaGreatDoor
