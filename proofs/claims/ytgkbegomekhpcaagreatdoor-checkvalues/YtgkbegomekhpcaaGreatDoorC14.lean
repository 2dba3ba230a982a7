/- Expressions as plain data: how many parts a node has, what stands behind an expression, the names in it, an expression put for a name. No program is named here. -/
import Derived.Test.YtgkbegomekhpcaaGreatDoorC10
namespace Go.Proofs.YtgkbegomekhpcaaGreatDoor
set_option linter.unusedVariables false

/-- How many parts a node has; below 0: it is none of an expression. -/
def prt (x : Nd) : Int :=
  if x.op = 5 ∨ x.op = 6 then x.n
  else if 1 ≤ x.op ∧ x.op ≤ 4 ∨ x.op = 8 then 0
  else if x.op = 7 ∨ x.op = 9 ∨ x.op = 10 ∨ 21 ≤ x.op ∧ x.op ≤ 24 then 1
  else if x.op = 13 then 3
  else if 11 ≤ x.op ∧ x.op ≤ 20 ∨ 25 ≤ x.op ∧ x.op ≤ 27 then 2
  else -1

/-- A word of the language? -/
def rsv (l : List UInt8) : Bool :=
  l == [105, 102] || l == [116, 104, 101, 110] || l == [101, 108, 115, 101] || l == [116, 114, 117, 101] || l == [102, 97, 108, 115, 101] ||
  l == [105, 110] || l == [104, 97, 115] || l == [108, 105, 107, 101] || l == [105, 115]
/-- May something stand for it: a slot, or a name that is no such word. -/
def varOk (l : List UInt8) : Bool := if l.head? = some 63 then nfault l.tail == 0 else nfault l == 0 && !rsv l

/-- May a node be one of an expression, or a Field? -/
def exOk (x : Nd) : Bool :=
  if 1 ≤ x.op ∧ x.op ≤ 7 then ndOk x
  else if prt x < 0 then false
  else x.n == 0 && x.t.data.toList.isEmpty &&
    (if x.op = 8 then varOk x.s.data.toList
     else if x.op = 21 ∨ x.op = 22 ∨ x.op = 24 then nfault x.s.data.toList == 0
     else if x.op = 23 then textOk x.s.data.toList
     else x.s.data.toList.isEmpty)

/-- Behind so many. -/
def partsE (pv : List Nd → Option (List Nd)) : Nat → List Nd → Option (List Nd)
  | 0, v => some v
  | k + 1, v =>
    match pv v with
    | none => none
    | some r => partsE pv k r

/-- What stands behind the expression that a list begins with; the number bounds how deep it goes. -/
def pastE : Nat → List Nd → Option (List Nd)
  | 0, _ => none
  | _ + 1, [] => none
  | f + 1, x :: r =>
    if x.op ≠ 7 ∧ exOk x = true then
      if x.op = 6 then recLoop (pastE f) x.n.toNat ⟨#[]⟩ r
      else partsE (pastE f) (prt x).toNat r
    else none

theorem partsE_tail {pv : List Nd → Option (List Nd)} (hp : ∀ v r, pv v = some r → IsTail r v) : ∀ (k : Nat) (v r : List Nd), partsE pv k v = some r → IsTail r v
  | 0, v, r, h => by simp only [partsE, Option.some.injEq] at h; subst h; exact IsTail.refl _
  | k + 1, v, r, h => by
    simp only [partsE] at h
    cases e : pv v with
    | none => rw [e] at h; cases h
    | some rest =>
      simp only [e] at h
      exact (partsE_tail hp k rest r h).trans (hp _ _ e)

theorem pastE_cons {f : Nat} {v r : List Nd} (h : pastE f v = some r) : ∃ g x m, f = g + 1 ∧ v = x :: m ∧ x.op ≠ 7 ∧ exOk x = true ∧
    (x.op = 6 ∧ recLoop (pastE g) x.n.toNat ⟨#[]⟩ m = some r ∨ x.op ≠ 6 ∧ partsE (pastE g) (prt x).toNat m = some r) := by
  cases f with
  | zero => simp [pastE] at h
  | succ g =>
    cases v with
    | nil => simp [pastE] at h
    | cons x m =>
      simp only [pastE] at h
      split at h
      · rename_i hx
        refine ⟨g, x, m, rfl, rfl, hx.1, hx.2, ?_⟩
        split at h
        · exact .inl ⟨‹_›, h⟩
        · exact .inr ⟨‹_›, h⟩
      · cases h
theorem pastE_rec {g : Nat} {x : Nd} {m : List Nd} (h7 : x.op ≠ 7) (hx : exOk x = true) (h6 : x.op = 6) : pastE (g + 1) (x :: m) = recLoop (pastE g) x.n.toNat ⟨#[]⟩ m := by
  simp only [pastE]; rw [if_pos ⟨h7, hx⟩, if_pos h6]
theorem pastE_parts {g : Nat} {x : Nd} {m : List Nd} (h7 : x.op ≠ 7) (hx : exOk x = true) (h6 : x.op ≠ 6) : pastE (g + 1) (x :: m) = partsE (pastE g) (prt x).toNat m := by
  simp only [pastE]; rw [if_pos ⟨h7, hx⟩, if_neg h6]
theorem pastE_bad {g : Nat} {x : Nd} {m : List Nd} (h : ¬ (x.op ≠ 7 ∧ exOk x = true)) : pastE g (x :: m) = none := by
  cases g with
  | zero => rfl
  | succ g => simp only [pastE]; rw [if_neg h]
theorem pastE_nil (f : Nat) : pastE f [] = none := by cases f <;> rfl

theorem pastE_tail : ∀ (f : Nat) (v r : List Nd), pastE f v = some r → ∃ x m, v = x :: m ∧ IsTail r m
  | 0, v, r, h => by simp [pastE] at h
  | f + 1, v, r, h => by
    have hp : ∀ v r, pastE f v = some r → IsTail r v := fun v r e => by
      obtain ⟨x, m, rfl, ht⟩ := pastE_tail f v r e
      exact ht.cons x
    obtain ⟨g, x, m, e, rfl, _, _, hr⟩ := pastE_cons h
    obtain rfl : f = g := by omega
    refine ⟨x, m, rfl, ?_⟩
    rcases hr with ⟨_, hr⟩ | ⟨_, hr⟩
    · exact recLoop_tail hp _ _ _ _ hr
    · exact partsE_tail hp _ _ _ hr
theorem pastE_shorter {f : Nat} {v r : List Nd} (h : pastE f v = some r) : r.length < v.length ∧ IsTail r v := by
  obtain ⟨x, m, rfl, ht⟩ := pastE_tail f v r h
  have := ht.length
  exact ⟨by simp; omega, ht.cons x⟩

theorem partsE_same {pv pw : List Nd → Option (List Nd)} {n : Nat} (h : ∀ u, u.length < n → pv u = pw u) (hs : ∀ u r, pv u = some r → r.length < u.length) :
    ∀ (k : Nat) (u : List Nd), u.length < n → partsE pv k u = partsE pw k u
  | 0, _, _ => rfl
  | k + 1, u, hu => by
    simp only [partsE]
    rw [← h u hu]
    cases e : pv u with
    | none => rfl
    | some rest =>
      simp only []
      exact partsE_same h hs k rest (by have := hs u rest e; omega)
theorem pastE_fuel : ∀ (f g : Nat) (u : List Nd), u.length < f → u.length < g → pastE f u = pastE g u
  | 0, _, _, h, _ => absurd h (by omega)
  | _ + 1, 0, _, _, h => absurd h (by omega)
  | _ + 1, _ + 1, [], _, _ => rfl
  | f + 1, g + 1, x :: r, hf, hg => by
    simp only [List.length_cons] at hf hg
    have h : ∀ u : List Nd, u.length < r.length + 1 → pastE f u = pastE g u := fun u hu => pastE_fuel f g u (by omega) (by omega)
    have hs : ∀ u r, pastE f u = some r → r.length < u.length := fun u r e => (pastE_shorter e).1
    simp only [pastE]
    rw [partsE_same h hs _ r (by omega), recLoop_same h hs _ _ r (by omega)]

/-- Just one expression? -/
def isEx (v : List Nd) : Bool :=
  match pastE (v.length + 1) v with
  | some r => r.isEmpty
  | none => false
/-- What Check tells of a list of nodes, by number. -/
def xfault (v : List Nd) : Int := if 200 < v.length then 4 else if isEx v then 0 else 1

theorem isEx_iff (v : List Nd) : isEx v = true ↔ pastE (v.length + 1) v = some [] := by
  unfold isEx
  cases e : pastE (v.length + 1) v with
  | none => simp
  | some r => cases r <;> simp
theorem xfault_long {v : List Nd} (h : 200 < v.length) : xfault v = 4 := if_pos h
theorem xfault_bad {v : List Nd} (h : ¬ 200 < v.length) (h2 : isEx v = false) : xfault v = 1 := by unfold xfault; rw [if_neg h, h2]; rfl
theorem xfault_ok {v : List Nd} (h : ¬ 200 < v.length) (h2 : isEx v = true) : xfault v = 0 := by unfold xfault; rw [if_neg h, h2]; rfl
theorem xfault_zero {v : List Nd} (h : xfault v = 0) : v.length ≤ 200 ∧ pastE (v.length + 1) v = some [] := by
  by_cases h1 : 200 < v.length
  · rw [xfault_long h1] at h; cases h
  · cases h2 : isEx v
    · rw [xfault_bad h1 h2] at h; cases h
    · exact ⟨by omega, (isEx_iff v).1 h2⟩

/-- What holds of each step holds of all of them. -/
theorem partsE_lift {pv pw : List Nd → Option (List Nd)} {φ : List Nd → List Nd} (h : ∀ v r, pv v = some r → pw (φ v) = some (φ r)) :
    ∀ (k : Nat) (v r : List Nd), partsE pv k v = some r → partsE pw k (φ v) = some (φ r)
  | 0, v, r, e => by simp only [partsE, Option.some.injEq] at e ⊢; rw [e]
  | k + 1, v, r, e => by
    simp only [partsE] at e ⊢
    cases e2 : pv v with
    | none => rw [e2] at e; cases e
    | some rest =>
      simp only [e2] at e
      rw [h _ _ e2]
      exact partsE_lift h k rest r e
theorem recLoop_lift {pv pw : List Nd → Option (List Nd)} {φ : List Nd → List Nd} (hc : ∀ x r, x.op = 7 → φ (x :: r) = x :: φ r) (h : ∀ v r, pv v = some r → pw (φ v) = some (φ r)) :
    ∀ (k : Nat) (last : ByteArray) (v r : List Nd), recLoop pv k last v = some r → recLoop pw k last (φ v) = some (φ r)
  | 0, last, v, r, e => by simp only [recLoop, Option.some.injEq] at e ⊢; rw [e]
  | k + 1, last, [], r, e => by simp [recLoop] at e
  | k + 1, last, x :: v, r, e => by
    simp only [recLoop] at e
    split at e
    · rename_i hx
      rw [hc x v hx.1]
      simp only [recLoop]
      rw [if_pos hx]
      cases e2 : pv v with
      | none => rw [e2] at e; cases e
      | some rest =>
        simp only [e2] at e
        rw [h _ _ e2]
        exact recLoop_lift hc h k _ rest r e
    · cases e

theorem pastE_more : ∀ (f : Nat) (v r : List Nd), pastE f v = some r → pastE (f + 1) v = some r
  | 0, v, r, h => by simp [pastE] at h
  | f + 1, v, r, h => by
    obtain ⟨g, x, m, e, rfl, h7, hx, hr⟩ := pastE_cons h
    obtain rfl : f = g := by omega
    rcases hr with ⟨h6, hr⟩ | ⟨h6, hr⟩
    · rw [pastE_rec h7 hx h6]
      exact recLoop_lift (φ := id) (fun _ _ _ => rfl) (pastE_more f) _ _ _ _ hr
    · rw [pastE_parts h7 hx h6]
      exact partsE_lift (φ := id) (pastE_more f) _ _ _ hr
theorem pastE_mono {f g : Nat} {v r : List Nd} (h : pastE f v = some r) (hg : f ≤ g) : pastE g v = some r := by
  obtain ⟨d, rfl⟩ : ∃ d, g = f + d := ⟨g - f, by omega⟩
  clear hg
  induction d with
  | zero => exact h
  | succ d ih => exact pastE_more _ _ _ ih
theorem pastE_any {f g : Nat} {v r : List Nd} (h : pastE f v = some r) (hg : v.length < g) : pastE g v = some r := by
  by_cases hf : f ≤ g
  · exact pastE_mono h hf
  · rw [← pastE_fuel f g v (by omega) hg]; exact h

theorem pastE_append (z : List Nd) : ∀ (f : Nat) (v r : List Nd), pastE f v = some r → pastE f (v ++ z) = some (r ++ z)
  | 0, v, r, h => by simp [pastE] at h
  | f + 1, v, r, h => by
    obtain ⟨g, x, m, e, rfl, h7, hx, hr⟩ := pastE_cons h
    obtain rfl : f = g := by omega
    rw [List.cons_append]
    rcases hr with ⟨h6, hr⟩ | ⟨h6, hr⟩
    · rw [pastE_rec h7 hx h6]
      exact recLoop_lift (φ := (· ++ z)) (fun _ _ _ => rfl) (pastE_append z f) _ _ _ _ hr
    · rw [pastE_parts h7 hx h6]
      exact partsE_lift (φ := (· ++ z)) (pastE_append z f) _ _ _ hr

/-- A Var of that name? -/
def isV (s : ByteArray) (x : Nd) : Bool := x.op == 8 && x.s.data.toList == s.data.toList
theorem isV_iff (s : ByteArray) (x : Nd) : isV s x = true ↔ x.op = 8 ∧ x.s = s := by
  unfold isV
  rw [Bool.and_eq_true, beq_iff_eq, beq_iff_eq]
  exact ⟨fun h => ⟨h.1, bytes_inj h.2⟩, fun h => ⟨h.1, by rw [h.2]⟩⟩
def rep (s : ByteArray) (V : List Nd) (x : Nd) : List Nd := if isV s x then V else [x]
/-- An expression put at the place of each Var of that name. -/
def putE (s : ByteArray) (V : List Nd) (e : List Nd) : List Nd := e.flatMap (rep s V)
def cntV (s : ByteArray) (e : List Nd) : Nat := e.countP (isV s)
theorem putE_nil (s : ByteArray) (V : List Nd) : putE s V [] = [] := rfl
theorem putE_cons (s : ByteArray) (V : List Nd) (x : Nd) (e : List Nd) : putE s V (x :: e) = rep s V x ++ putE s V e := by unfold putE; rw [List.flatMap_cons]
theorem putE_append (s : ByteArray) (V a b : List Nd) : putE s V (a ++ b) = putE s V a ++ putE s V b := by unfold putE; rw [List.flatMap_append]
theorem rep_no {s : ByteArray} {V : List Nd} {x : Nd} (h : isV s x = false) : rep s V x = [x] := by unfold rep; rw [h]; rfl
theorem rep_yes {s : ByteArray} {V : List Nd} {x : Nd} (h : isV s x = true) : rep s V x = V := by unfold rep; rw [h]; rfl
theorem isV_op {s : ByteArray} {x : Nd} (h : x.op ≠ 8) : isV s x = false := by
  cases e : isV s x with
  | false => rfl
  | true => exact absurd ((isV_iff s x).1 e).1 h
theorem putE_length (s : ByteArray) (V e : List Nd) : (putE s V e).length + cntV s e = e.length + cntV s e * V.length := by
  induction e with
  | nil => simp [putE, cntV]
  | cons x e ih =>
    rw [putE_cons, List.length_append]
    unfold cntV at *
    rw [List.countP_cons, List.length_cons]
    cases h : isV s x
    · rw [rep_no h]; simp; omega
    · rw [rep_yes h]; simp [Nat.add_mul]; omega
theorem putE_none {s : ByteArray} {V e : List Nd} (h : ∀ x ∈ e, isV s x = false) : putE s V e = e := by
  induction e with
  | nil => rfl
  | cons x e ih =>
    rw [putE_cons, rep_no (h x (by simp)), ih (fun y hy => h y (by simp [hy]))]; rfl
theorem putE_le (s : ByteArray) (V : List Nd) {a b : List Nd} : (putE s V a).length ≤ (putE s V (a ++ b)).length := by
  rw [putE_append, List.length_append]; omega

/-- With an expression put for a name an expression is one. -/
theorem pastE_put (s : ByteArray) {V : List Nd} {F : Nat} (hV : pastE F V = some []) : ∀ (f : Nat) (v r : List Nd), pastE f v = some r → pastE (f + F) (putE s V v) = some (putE s V r)
  | 0, v, r, h => by simp [pastE] at h
  | f + 1, v, r, h => by
    obtain ⟨g, x, m, e, rfl, h7, hx, hr⟩ := pastE_cons h
    obtain rfl : f = g := by omega
    rw [putE_cons]
    cases hs : isV s x with
    | true =>
      have h8 := ((isV_iff s x).1 hs).1
      rw [rep_yes hs]
      rcases hr with ⟨h6, hr⟩ | ⟨h6, hr⟩
      · omega
      · have : (prt x).toNat = 0 := by unfold prt; rw [if_neg (by omega), if_pos (by omega)]; rfl
        rw [this] at hr
        simp only [partsE, Option.some.injEq] at hr
        subst hr
        exact pastE_mono (pastE_append (putE s V m) F V [] hV) (by omega)
    | false =>
      rw [rep_no hs, show f + 1 + F = (f + F) + 1 by omega]
      rcases hr with ⟨h6, hr⟩ | ⟨h6, hr⟩
      · show pastE (f + F + 1) (x :: putE s V m) = _
        rw [pastE_rec h7 hx h6]
        exact recLoop_lift (fun y r h => by rw [putE_cons, rep_no (isV_op (by omega))]; rfl) (pastE_put s hV f) _ _ _ _ hr
      · show pastE (f + F + 1) (x :: putE s V m) = _
        rw [pastE_parts h7 hx h6]
        exact partsE_lift (pastE_put s hV f) _ _ _ hr
theorem put_isEx {s : ByteArray} {e V : List Nd} (he : xfault e = 0) (hV : xfault V = 0) (hl : (putE s V e).length ≤ 200) : xfault (putE s V e) = 0 := by
  have h1 := (xfault_zero he).2
  have h2 := (xfault_zero hV).2
  have h3 := pastE_put s h2 _ _ _ h1
  exact xfault_ok (by omega) ((isEx_iff _).2 (pastE_any h3 (Nat.lt_succ_self _)))

/-- Each node that was passed is as it may be. -/
theorem partsE_all {pv : List Nd → Option (List Nd)} {q : Nd → Prop} (h : ∀ v r, pv v = some r → ∃ a, v = a ++ r ∧ ∀ x ∈ a, q x) :
    ∀ (k : Nat) (v r : List Nd), partsE pv k v = some r → ∃ a, v = a ++ r ∧ ∀ x ∈ a, q x
  | 0, v, r, e => by simp only [partsE, Option.some.injEq] at e; subst e; exact ⟨[], rfl, fun x hx => by cases hx⟩
  | k + 1, v, r, e => by
    simp only [partsE] at e
    cases e2 : pv v with
    | none => rw [e2] at e; cases e
    | some rest =>
      simp only [e2] at e
      obtain ⟨a, rfl, ha⟩ := h _ _ e2
      obtain ⟨b, rfl, hb⟩ := partsE_all h k rest r e
      exact ⟨a ++ b, by simp, fun x hx => (List.mem_append.1 hx).elim (ha x) (hb x)⟩
theorem recLoop_all {pv : List Nd → Option (List Nd)} {q : Nd → Prop} (h7 : ∀ x, x.op = 7 → ndOk x = true → q x) (h : ∀ v r, pv v = some r → ∃ a, v = a ++ r ∧ ∀ x ∈ a, q x) :
    ∀ (k : Nat) (last : ByteArray) (v r : List Nd), recLoop pv k last v = some r → ∃ a, v = a ++ r ∧ ∀ x ∈ a, q x
  | 0, last, v, r, e => by simp only [recLoop, Option.some.injEq] at e; subst e; exact ⟨[], rfl, fun x hx => by cases hx⟩
  | k + 1, last, [], r, e => by simp [recLoop] at e
  | k + 1, last, y :: v, r, e => by
    simp only [recLoop] at e
    split at e
    · rename_i hy
      cases e2 : pv v with
      | none => rw [e2] at e; cases e
      | some rest =>
        simp only [e2] at e
        obtain ⟨a, rfl, ha⟩ := h _ _ e2
        obtain ⟨b, rfl, hb⟩ := recLoop_all h7 h k _ rest r e
        refine ⟨y :: (a ++ b), by simp, fun x hx => ?_⟩
        rcases List.mem_cons.1 hx with rfl | hx
        · exact h7 _ hy.1 hy.2.1
        · exact (List.mem_append.1 hx).elim (ha x) (hb x)
    · cases e
theorem exOk_field {x : Nd} (h : x.op = 7) (h2 : ndOk x = true) : exOk x = true := by unfold exOk; rw [if_pos (by omega)]; exact h2
theorem pastE_all : ∀ (f : Nat) (v r : List Nd), pastE f v = some r → ∃ a, v = a ++ r ∧ ∀ x ∈ a, exOk x = true
  | 0, v, r, h => by simp [pastE] at h
  | f + 1, v, r, h => by
    obtain ⟨g, x, m, e, rfl, h7, hx, hr⟩ := pastE_cons h
    obtain rfl : f = g := by omega
    have : ∃ a, m = a ++ r ∧ ∀ x ∈ a, exOk x = true := by
      rcases hr with ⟨h6, hr⟩ | ⟨h6, hr⟩
      · exact recLoop_all (fun x => exOk_field) (pastE_all f) _ _ _ _ hr
      · exact partsE_all (pastE_all f) _ _ _ hr
    obtain ⟨a, rfl, ha⟩ := this
    exact ⟨x :: a, rfl, fun y hy => by
      rcases List.mem_cons.1 hy with rfl | hy
      · exact hx
      · exact ha y hy⟩
theorem xfault_all {v : List Nd} (h : xfault v = 0) : ∀ x ∈ v, exOk x = true := by
  obtain ⟨a, e, ha⟩ := pastE_all _ _ _ (xfault_zero h).2
  rw [List.append_nil] at e
  subst e
  exact ha
theorem var_ne {x : Nd} (h : exOk x = true) (h8 : x.op = 8) : x.s.data.toList ≠ [] := by
  intro e
  unfold exOk at h
  rw [if_neg (by omega)] at h
  simp [h8, prt, e, varOk, nfault, nm, pre] at h

/-- Where something other than a Field stands in an expression an expression begins. -/
theorem tail_of_tails {u r v : List Nd} (h1 : IsTail u v) (h2 : IsTail r v) (h : u.length ≤ r.length) : IsTail u r := by
  obtain ⟨a, rfl⟩ := h1
  obtain ⟨b, e⟩ := h2
  have := List.suffix_of_suffix_length_le (l₃ := a ++ u) ⟨a, rfl⟩ ⟨b, e.symm⟩ h
  obtain ⟨c, hc⟩ := this
  exact ⟨c, hc.symm⟩
theorem partsE_at {pv : List Nd → Option (List Nd)} {q : List Nd → Prop} (hs : ∀ v r, pv v = some r → IsTail r v) (h : ∀ v r, pv v = some r → ∀ u, IsTail u v → r.length < u.length → q u) :
    ∀ (k : Nat) (v r : List Nd), partsE pv k v = some r → ∀ u, IsTail u v → r.length < u.length → q u
  | 0, v, r, e, u, hu, hl => by
    simp only [partsE, Option.some.injEq] at e
    subst e
    have := hu.length
    omega
  | k + 1, v, r, e, u, hu, hl => by
    simp only [partsE] at e
    cases e2 : pv v with
    | none => rw [e2] at e; cases e
    | some rest =>
      simp only [e2] at e
      by_cases hlt : rest.length < u.length
      · exact h _ _ e2 u hu hlt
      · exact partsE_at hs h k rest r e u (tail_of_tails hu (hs _ _ e2) (by omega)) hl
theorem recLoop_at {pv : List Nd → Option (List Nd)} {q : List Nd → Prop} (hq : ∀ x r, x.op = 7 → q (x :: r)) (hs : ∀ v r, pv v = some r → IsTail r v) (h : ∀ v r, pv v = some r → ∀ u, IsTail u v → r.length < u.length → q u) :
    ∀ (k : Nat) (last : ByteArray) (v r : List Nd), recLoop pv k last v = some r → ∀ u, IsTail u v → r.length < u.length → q u
  | 0, last, v, r, e, u, hu, hl => by
    simp only [recLoop, Option.some.injEq] at e
    subst e
    have := hu.length
    omega
  | k + 1, last, [], r, e, u, hu, hl => by simp [recLoop] at e
  | k + 1, last, y :: v, r, e, u, hu, hl => by
    simp only [recLoop] at e
    split at e
    · rename_i hy
      cases e2 : pv v with
      | none => rw [e2] at e; cases e
      | some rest =>
        simp only [e2] at e
        by_cases hul : u.length = v.length + 1
        · obtain ⟨a, ha⟩ := hu
          have : a = [] := by
            have hh := congrArg List.length ha
            rw [List.length_append, List.length_cons] at hh
            exact List.eq_nil_of_length_eq_zero (by omega)
          subst this
          rw [List.nil_append] at ha
          subst ha
          exact hq y v hy.1
        · have hu2 : IsTail u v := tail_of_tails hu ⟨[y], rfl⟩ (by have := hu.length; simp at this; omega)
          by_cases hlt : rest.length < u.length
          · exact h _ _ e2 u hu2 hlt
          · exact recLoop_at hq hs h k _ rest r e u (tail_of_tails hu2 (hs _ _ e2) (by omega)) hl
    · cases e
def begins (u : List Nd) : Prop := (∃ x r, u = x :: r ∧ x.op = 7) ∨ ∃ f r, pastE f u = some r
theorem pastE_at : ∀ (f : Nat) (v r : List Nd), pastE f v = some r → ∀ u, IsTail u v → r.length < u.length → begins u
  | 0, v, r, h, u, hu, hl => by simp [pastE] at h
  | f + 1, v, r, h, u, hu, hl => by
    have h0 := h
    obtain ⟨g, x, m, e, rfl, h7, hx, hr⟩ := pastE_cons h
    obtain rfl : f = g := by omega
    by_cases hul : u.length = m.length + 1
    · obtain ⟨a, ha⟩ := hu
      have : a = [] := by
        have hh := congrArg List.length ha
        rw [List.length_append, List.length_cons] at hh
        exact List.eq_nil_of_length_eq_zero (by omega)
      subst this
      rw [List.nil_append] at ha
      subst ha
      exact .inr ⟨_, _, h0⟩
    · have hu2 : IsTail u m := tail_of_tails hu ⟨[x], rfl⟩ (by have := hu.length; simp at this; omega)
      have hs : ∀ v r, pastE f v = some r → IsTail r v := fun v r e => (pastE_shorter e).2
      rcases hr with ⟨h6, hr⟩ | ⟨h6, hr⟩
      · exact recLoop_at (fun x r h => .inl ⟨x, r, rfl, h⟩) hs (pastE_at f) _ _ _ _ hr u hu2 hl
      · exact partsE_at hs (pastE_at f) _ _ _ hr u hu2 hl
theorem ex_at {v : List Nd} (h : xfault v = 0) {k : Nat} (hk : k < v.length) (h7 : v[k].op ≠ 7) : ∃ r, pastE (v.length + 1) (v.drop k) = some r := by
  have hp := (xfault_zero h).2
  have := pastE_at _ _ _ hp (v.drop k) ⟨v.take k, (List.take_append_drop k v).symm⟩ (by simp; omega)
  rcases this with ⟨x, r, e, hx⟩ | ⟨f, r, e⟩
  · rw [List.drop_eq_getElem_cons hk] at e
    injection e with e1 e2
    rw [e1] at h7
    exact absurd hx h7
  · exact ⟨r, pastE_any e (by simp; omega)⟩

/-- A value is an expression, without names. -/
theorem setLoop_parts {pv pw : List Nd → Option (List Nd)} (h : ∀ v r, pv v = some r → pw v = some r) : ∀ (k : Nat) (last : Option (List Nd)) (v r : List Nd), setLoop pv k last v = some r → partsE pw k v = some r
  | 0, last, v, r, e => by simp only [setLoop, Option.some.injEq] at e; simp only [partsE]; rw [e]
  | k + 1, last, v, r, e => by
    simp only [setLoop] at e
    simp only [partsE]
    cases e2 : pv v with
    | none => rw [e2] at e; cases e
    | some rest =>
      simp only [e2] at e
      rw [h _ _ e2]
      split at e
      · exact setLoop_parts h k _ rest r e
      · cases e
theorem ndOk_op {x : Nd} (h : ndOk x = true) : 1 ≤ x.op ∧ x.op ≤ 7 := by
  unfold ndOk at h
  by_cases h1 : x.op = 1; · omega
  by_cases h2 : x.op = 2; · omega
  by_cases h3 : x.op = 3; · omega
  by_cases h4 : x.op = 4; · omega
  by_cases h5 : x.op = 5; · omega
  by_cases h6 : x.op = 6; · omega
  by_cases h7 : x.op = 7; · omega
  simp [h1, h2, h3, h4, h5, h6, h7] at h
theorem exOk_value {x : Nd} (h : ndOk x = true) : exOk x = true := by unfold exOk; rw [if_pos (ndOk_op h)]; exact h
theorem pastV_pastE : ∀ (f : Nat) (v r : List Nd), pastV f v = some r → pastE f v = some r
  | 0, v, r, h => by simp [pastV] at h
  | f + 1, [], r, h => by simp [pastV] at h
  | f + 1, x :: m, r, h => by
    simp only [pastV] at h
    split at h
    · rename_i hx
      have hop := ndOk_op hx.2
      by_cases h5 : x.op = 5
      · rw [if_pos h5] at h
        rw [pastE_parts hx.1 (exOk_value hx.2) (by omega)]
        have : prt x = x.n := by unfold prt; rw [if_pos (.inl h5)]
        rw [this]
        exact setLoop_parts (pastV_pastE f) _ _ _ _ h
      · rw [if_neg h5] at h
        by_cases h6 : x.op = 6
        · rw [if_pos h6] at h
          rw [pastE_rec hx.1 (exOk_value hx.2) h6]
          exact recLoop_lift (φ := id) (fun _ _ _ => rfl) (pastV_pastE f) _ _ _ _ h
        · rw [if_neg h6] at h
          rw [pastE_parts hx.1 (exOk_value hx.2) h6]
          have : (prt x).toNat = 0 := by unfold prt; rw [if_neg (by omega), if_pos (by omega)]; rfl
          rw [this]
          exact h
    · cases h
theorem setLoop_all {pv : List Nd → Option (List Nd)} {q : Nd → Prop} (h : ∀ v r, pv v = some r → ∃ a, v = a ++ r ∧ ∀ x ∈ a, q x) :
    ∀ (k : Nat) (last : Option (List Nd)) (v r : List Nd), setLoop pv k last v = some r → ∃ a, v = a ++ r ∧ ∀ x ∈ a, q x
  | 0, last, v, r, e => by simp only [setLoop, Option.some.injEq] at e; subst e; exact ⟨[], rfl, fun x hx => by cases hx⟩
  | k + 1, last, v, r, e => by
    simp only [setLoop] at e
    cases e2 : pv v with
    | none => rw [e2] at e; cases e
    | some rest =>
      simp only [e2] at e
      split at e
      · obtain ⟨a, e3, ha⟩ := h _ _ e2
        obtain ⟨b, e4, hb⟩ := setLoop_all h k _ rest r e
        refine ⟨a ++ b, by rw [e3, e4]; simp, fun x hx => (List.mem_append.1 hx).elim (ha x) (hb x)⟩
      · cases e
theorem pastV_all : ∀ (f : Nat) (v r : List Nd), pastV f v = some r → ∃ a, v = a ++ r ∧ ∀ x ∈ a, ndOk x = true
  | 0, v, r, h => by simp [pastV] at h
  | f + 1, [], r, h => by simp [pastV] at h
  | f + 1, x :: m, r, h => by
    simp only [pastV] at h
    split at h
    · rename_i hx
      have : ∃ a, m = a ++ r ∧ ∀ x ∈ a, ndOk x = true := by
        split at h
        · exact setLoop_all (pastV_all f) _ _ _ _ h
        · split at h
          · exact recLoop_all (fun x _ h => h) (pastV_all f) _ _ _ _ h
          · simp only [Option.some.injEq] at h; subst h; exact ⟨[], rfl, fun x hx => by cases hx⟩
      obtain ⟨a, rfl, ha⟩ := this
      exact ⟨x :: a, rfl, fun y hy => by
        rcases List.mem_cons.1 hy with rfl | hy
        · exact hx.2
        · exact ha y hy⟩
    · cases h
theorem vfault_zero {v : List Nd} (h : vfault v = 0) : v.length ≤ 200 ∧ pastV (v.length + 1) v = some [] := by
  unfold vfault at h
  split at h
  · cases h
  · split at h
    · rename_i h1 h2
      unfold isVal at h2
      refine ⟨by omega, ?_⟩
      cases e : pastV (v.length + 1) v with
      | none => rw [e] at h2; cases h2
      | some r => rw [e] at h2; cases r with
        | nil => rfl
        | cons y r => cases h2
    · cases h
theorem value_ex {v : List Nd} (h : vfault v = 0) : xfault v = 0 := by
  obtain ⟨h1, h2⟩ := vfault_zero h
  exact xfault_ok (by omega) ((isEx_iff v).2 (pastV_pastE _ _ _ h2))
theorem value_novar {v : List Nd} (h : vfault v = 0) : ∀ x ∈ v, x.op ≠ 8 := by
  obtain ⟨a, e, ha⟩ := pastV_all _ _ _ (vfault_zero h).2
  rw [List.append_nil] at e
  subst e
  intro x hx
  have := ndOk_op (ha x hx)
  omega
end Go.Proofs.YtgkbegomekhpcaaGreatDoor
