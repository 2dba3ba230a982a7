/- A set that is a value is a strict row of values; what is asked of such rows, and made of them. No program is named here. -/
import Derived.Test.YtncmjcjnldhhhaaGreatDoorSetV
import Derived.Test.YtncmjcjnldhhhaaGreatDoorNdFuel
namespace Go.Proofs.YtncmjcjnldhhhaaGreatDoor
set_option linter.unusedVariables false

theorem pastV_more (f : Nat) {u r : List Nd} (h : pastV f u = some r) (s : List Nd) : pastV f (u ++ s) = some (r ++ s) := pastV_behind s f f u r (Nat.le_refl _) h

theorem setLoop_front {pv : List Nd → Option (List Nd)} (h : ∀ u r, pv u = some r → ∃ a, u = a ++ r ∧ pv a = some []) (k1 : ∀ u r, pv u = some r → ∀ s, pv (u ++ s) = some (r ++ s)) :
    ∀ (k : Nat) (last : Option (List Nd)) (u r : List Nd), setLoop pv k last u = some r → ∃ l : List (List Nd), u = l.flatten ++ r ∧ l.length = k ∧ Strict l ∧ (∀ v ∈ l, pv v = some []) ∧ (∀ v ∈ l, aheadOf last v = true) ∧ setLoop pv k last l.flatten = some []
  | 0, last, u, r, e => by
    simp only [setLoop, Option.some.injEq] at e
    subst e
    exact ⟨[], rfl, rfl, List.Pairwise.nil, by simp, by simp, rfl⟩
  | k + 1, last, u, r, e => by
    simp only [setLoop] at e
    cases e1 : pv u with
    | none => rw [e1] at e; cases e
    | some rest =>
      simp only [e1] at e
      obtain ⟨a, rfl, ha⟩ := h u rest e1
      have ht : ∀ c : List Nd, (a ++ c).take ((a ++ c).length - c.length) = a := fun c => by rw [List.length_append, Nat.add_sub_cancel, List.take_left]
      rw [ht] at e
      split at e
      · rename_i hah
        obtain ⟨l, rfl, hl, hs, hv, hlast, hloop⟩ := setLoop_front h k1 k (some a) rest r e
        refine ⟨a :: l, by simp, by simp [hl], List.pairwise_cons.2 ⟨fun v hm => by simpa [aheadOf] using hlast v hm, hs⟩, ?_, ?_, ?_⟩
        · intro v hm
          rcases List.mem_cons.1 hm with rfl | hm
          · exact ha
          · exact hv v hm
        · intro v hm
          rcases List.mem_cons.1 hm with rfl | hm
          · exact hah
          · cases last with
            | none => rfl
            | some b =>
              have h1 : lsC b a < 0 := by simpa [aheadOf] using hah
              have h2 : lsC a v < 0 := by simpa [aheadOf] using hlast v hm
              have := lsC_is.lt_le h1 (by omega : lsC a v ≤ 0)
              simp [aheadOf, this]
        · simp only [setLoop, List.flatten_cons]
          rw [k1 a [] ha l.flatten]
          simp only [List.nil_append]
          rw [ht, if_pos hah]
          exact hloop
      · cases e
theorem recLoop_front {pv : List Nd → Option (List Nd)} (h : ∀ u r, pv u = some r → ∃ a, u = a ++ r ∧ pv a = some []) (k1 : ∀ u r, pv u = some r → ∀ s, pv (u ++ s) = some (r ++ s)) :
    ∀ (k : Nat) (last : ByteArray) (u r : List Nd), recLoop pv k last u = some r → ∃ a, u = a ++ r ∧ recLoop pv k last a = some []
  | 0, last, u, r, e => by
    simp only [recLoop, Option.some.injEq] at e
    subst e
    exact ⟨[], rfl, rfl⟩
  | k + 1, last, [], r, e => by simp [recLoop] at e
  | k + 1, last, x :: u, r, e => by
    simp only [recLoop] at e
    split at e
    · rename_i hx
      cases e1 : pv u with
      | none => rw [e1] at e; cases e
      | some rest =>
        simp only [e1] at e
        obtain ⟨a, rfl, ha⟩ := h u rest e1
        obtain ⟨c, rfl, hc⟩ := recLoop_front h k1 k _ rest r e
        refine ⟨x :: (a ++ c), by simp, ?_⟩
        simp only [recLoop]
        rw [if_pos hx, k1 a [] ha c]
        exact hc
    · cases e
theorem pastV_front : ∀ (f : Nat) (u r : List Nd), pastV f u = some r → ∃ a, u = a ++ r ∧ pastV f a = some []
  | 0, _, _, e => by simp [pastV] at e
  | f + 1, [], r, e => by simp [pastV] at e
  | f + 1, x :: u, r, e => by
    have ih := pastV_front f
    have k1 : ∀ u r, pastV f u = some r → ∀ s, pastV f (u ++ s) = some (r ++ s) := fun u r h s => pastV_more f h s
    simp only [pastV] at e
    split at e
    · rename_i hx
      split at e
      · rename_i h5
        obtain ⟨l, rfl, _, _, _, _, hl⟩ := setLoop_front ih k1 _ _ _ _ e
        refine ⟨x :: l.flatten, rfl, ?_⟩
        simp only [pastV]
        rw [if_pos hx, if_pos h5]
        exact hl
      · rename_i h5
        split at e
        · rename_i h6
          obtain ⟨a, rfl, ha⟩ := recLoop_front ih k1 _ _ _ _ e
          refine ⟨x :: a, rfl, ?_⟩
          simp only [pastV]
          rw [if_pos hx, if_neg h5, if_pos h6]
          exact ha
        · rename_i h6
          simp only [Option.some.injEq] at e
          subst e
          refine ⟨[x], rfl, ?_⟩
          simp only [pastV]
          rw [if_pos hx, if_neg h5, if_neg h6]
    · cases e

/-- A row that is a set: strict, of values, and not too long. -/
structure IsSet (l : List (List Nd)) : Prop where
  strict : Strict l
  vals : ∀ v ∈ l, vfault v = 0
  short : (setN l).length ≤ 200

theorem empty_bytes {b : ByteArray} (h : b.data.toList.isEmpty = true) : b = ⟨#[]⟩ := by
  obtain ⟨d⟩ := b
  have : d.toList = [] := by simpa using h
  have : d = #[] := by simpa using this
  rw [this]

/-- What is a value and a Set is that of a row. -/
theorem set_row {x : Nd} {r : List Nd} (h : vfault (x :: r) = 0) (h5 : x.op = 5) : ∃ l, IsSet l ∧ x :: r = setN l := by
  obtain ⟨_, _, e, hl, _, hok, hp⟩ := value_head h
  cases e
  rw [(isVal_past h).2, if_pos h5] at hp
  obtain ⟨l, e, hk, hs, hv, _, _⟩ := setLoop_front (pastV_front _) (fun u r h s => pastV_more _ h s) _ _ _ _ hp.symm
  rw [List.append_nil] at e
  subst e
  unfold ndOk at hok
  simp [h5] at hok
  have hx : x = ⟨5, l.length, ⟨#[]⟩, ⟨#[]⟩⟩ := by
    obtain ⟨a, n, s, t⟩ := x
    simp only at hok h5 hk
    have h1 := empty_bytes (b := s) (by simpa using hok.1.1)
    have h2 := empty_bytes (b := t) (by simpa using hok.1.2)
    have h3 : n = l.length := by omega
    rw [h5, h1, h2, h3]
  subst hx
  refine ⟨l, ⟨hs, fun v hm => ?_, hl⟩, rfl⟩
  have h1 := hv v hm
  have h2 := mem_flat hm
  have h3 := pastV_fuel (setN l).length (v.length + 1) v (by show v.length < l.flatten.length + 1; omega) (by omega)
  have h4 : pastV (v.length + 1) v = some [] := by rw [← h3]; exact h1
  have h6 : (setN l).length = l.flatten.length + 1 := rfl
  have h7 : (setN l).length ≤ 200 := hl
  unfold vfault
  rw [if_neg (by omega), if_pos]
  unfold isVal
  rw [h4]
  rfl

theorem IsSet.value {l : List (List Nd)} (h : IsSet l) : vfault (setN l) = 0 := setN_value h.strict h.vals h.short
theorem IsSet.len {l : List (List Nd)} (h : IsSet l) : l.length ≤ 200 := by
  have h1 : ∀ m : List (List Nd), (∀ v ∈ m, v ≠ []) → m.length ≤ m.flatten.length := by
    intro m
    induction m with
    | nil => simp
    | cons a m ih =>
      intro hm
      have h1 := ih (fun v hv => hm v (by simp [hv]))
      have h2 : 0 < a.length := List.length_pos_iff.2 (hm a (by simp))
      simp only [List.length_cons, List.flatten_cons, List.length_append]
      omega
  have h2 := h1 l (fun v hm => by obtain ⟨x, r, e, _⟩ := value_head (h.vals v hm); rw [e]; simp)
  have h3 : (setN l).length = l.flatten.length + 1 := rfl
  have := h.short
  omega

/-- Is it one of them? -/
def inB (l : List (List Nd)) (v : List Nd) : Bool := l.any fun p => decide (lsC p v = 0)
theorem inB_iff (l : List (List Nd)) (v : List Nd) : inB l v = true ↔ v ∈ l := by
  unfold inB
  rw [List.any_eq_true]
  constructor
  · rintro ⟨p, hp, e⟩
    rw [decide_eq_true_iff, lsC_is.zero] at e
    subst e; exact hp
  · intro h
    exact ⟨v, h, by rw [decide_eq_true_iff, lsC_is.zero]⟩
theorem inB_not (l : List (List Nd)) (v : List Nd) : inB l v = false ↔ v ∉ l := by
  rw [← inB_iff]; simp
def allB (ls lt : List (List Nd)) : Bool := lt.all (inB ls)
def anyB (ls lt : List (List Nd)) : Bool := lt.any (inB ls)
theorem allB_iff (ls lt : List (List Nd)) : allB ls lt = true ↔ ∀ v ∈ lt, v ∈ ls := by
  unfold allB; rw [List.all_eq_true]; simp only [inB_iff]
theorem anyB_iff (ls lt : List (List Nd)) : anyB ls lt = true ↔ ∃ v ∈ lt, v ∈ ls := by
  unfold anyB; rw [List.any_eq_true]; simp only [inB_iff]
def meetL (ls lt : List (List Nd)) : List (List Nd) := ls.filter (inB lt)
def lessL (ls lt : List (List Nd)) : List (List Nd) := ls.filter fun v => !inB lt v
def bothL (ls lt : List (List Nd)) : List (List Nd) := setL (ls ++ lt)
theorem mem_meet (ls lt : List (List Nd)) (v : List Nd) : v ∈ meetL ls lt ↔ v ∈ ls ∧ v ∈ lt := by
  unfold meetL; rw [List.mem_filter, inB_iff]
theorem mem_less (ls lt : List (List Nd)) (v : List Nd) : v ∈ lessL ls lt ↔ v ∈ ls ∧ v ∉ lt := by
  unfold lessL; rw [List.mem_filter, Bool.not_eq_true', inB_not]
theorem mem_both (ls lt : List (List Nd)) (v : List Nd) : v ∈ bothL ls lt ↔ v ∈ ls ∨ v ∈ lt := by
  unfold bothL; rw [mem_setL, List.mem_append]

theorem strict_of_sub {l m : List (List Nd)} (h : Strict m) (hs : l.Sublist m) : Strict l := List.Pairwise.sublist hs h
theorem isSet_of_sub {l m : List (List Nd)} (h : IsSet m) (hs : l.Sublist m) : IsSet l := by
  refine ⟨strict_of_sub h.strict hs, fun v hv => h.vals v (hs.subset hv), ?_⟩
  have h1 := flat_le hs
  have h2 := h.short
  have h3 : (setN l).length = l.flatten.length + 1 := rfl
  have h4 : (setN m).length = m.flatten.length + 1 := rfl
  omega
theorem isSet_meet {ls : List (List Nd)} (h : IsSet ls) (lt : List (List Nd)) : IsSet (meetL ls lt) := isSet_of_sub h List.filter_sublist
theorem isSet_less {ls : List (List Nd)} (h : IsSet ls) (lt : List (List Nd)) : IsSet (lessL ls lt) := isSet_of_sub h List.filter_sublist
theorem isSet_both {ls lt : List (List Nd)} (h : IsSet ls) (k : IsSet lt) (hl : (setN (bothL ls lt)).length ≤ 200) : IsSet (bothL ls lt) :=
  ⟨strict_setL _, fun v hv => ((mem_both ls lt v).1 hv).elim (h.vals v) (k.vals v), hl⟩
theorem IsSet.row {l : List (List Nd)} (h : IsSet l) : setL l = l := (setL_is h.strict (fun x => Iff.rfl)).symm
theorem IsSet.ext {l m : List (List Nd)} (h : IsSet l) (k : IsSet m) (he : ∀ v, v ∈ l ↔ v ∈ m) : l = m := Strict.ext h.strict k.strict he

/-- What two that must be sets have wrong. -/
def isSetV (v : List Nd) : Bool := match v with | [] => false | x :: _ => decide (x.op = 5)
def sfault (s t : List Nd) : Int := if vfault s = 0 then (if vfault t = 0 then (if isSetV s = true ∧ isSetV t = true then 0 else 2) else vfault t) else vfault s
theorem sfault_zero {s t : List Nd} (h : sfault s t = 0) : ∃ ls lt, IsSet ls ∧ IsSet lt ∧ s = setN ls ∧ t = setN lt := by
  unfold sfault at h
  split at h
  · rename_i h1
    split at h
    · rename_i h2
      split at h
      · rename_i h3
        have hone : ∀ v, vfault v = 0 → isSetV v = true → ∃ l, IsSet l ∧ v = setN l := fun v hv hs => by
          cases v with
          | nil => cases hs
          | cons x r => exact set_row hv (by simpa [isSetV] using hs)
        obtain ⟨ls, k1, k2⟩ := hone s h1 h3.1
        obtain ⟨lt, k3, k4⟩ := hone t h2 h3.2
        exact ⟨ls, lt, k1, k3, k2, k4⟩
      · cases h
    · rename_i h2; exact absurd h h2
  · rename_i h1; exact absurd h h1
theorem sfault_sets {ls lt : List (List Nd)} (h : IsSet ls) (k : IsSet lt) : sfault (setN ls) (setN lt) = 0 := by
  unfold sfault
  rw [if_pos h.value, if_pos k.value, if_pos]
  exact ⟨rfl, rfl⟩
theorem setN_inj {l m : List (List Nd)} (h : IsSet l) (k : IsSet m) (e : setN l = setN m) : l = m := by
  have h1 : ∀ (l m : List (List Nd)), (∀ v ∈ l, vfault v = 0) → (∀ v ∈ m, vfault v = 0) → l.length = m.length → l.flatten = m.flatten → l = m := by
    intro l
    induction l with
    | nil => intro m _ _ hl _; exact (List.eq_nil_of_length_eq_zero hl.symm).symm
    | cons a l ih =>
      intro m ha hb hl he
      cases m with
      | nil => cases hl
      | cons b m =>
        simp only [List.flatten_cons] at he
        have k1 := value_behind (ha a (by simp)) l.flatten (g := a.length + b.length + 1) (by omega)
        have k2 := value_behind (hb b (by simp)) m.flatten (g := a.length + b.length + 1) (by omega)
        rw [he, k2] at k1
        have k3 : m.flatten = l.flatten := by injection k1
        rw [k3] at he
        have k4 := List.append_cancel_right he
        rw [k4, ih m (fun v hv => ha v (by simp [hv])) (fun v hv => hb v (by simp [hv])) (by simpa using hl) k3.symm]
  unfold setN at e
  injection e with e1 e2
  injection e1 with _ e3
  exact h1 l m h.vals k.vals (by omega) e2
end Go.Proofs.YtncmjcjnldhhhaaGreatDoor
