/- Nodes as plain data, the order of nodes and of lists of them, and what is a value: no program is named here. -/
import Derived.Test.YtjbjheeigdblkabCmp
import Derived.Test.YtjbjheeigdblkabNameL
import Derived.Test.YtjbjheeigdblkabQuoteL
namespace Go.Proofs.Ytjbjheeigdblkab

structure Nd where
  op : Int
  n : Int
  s : ByteArray
  t : ByteArray

/-- A way to compare: -1, 0, 1; turned round it is turned; 0 just where they are one; it goes on. -/
structure IsCmp {α : Type} (c : α → α → Int) : Prop where
  range : ∀ x y, c x y = -1 ∨ c x y = 0 ∨ c x y = 1
  neg : ∀ x y, c x y = - c y x
  zero : ∀ x y, c x y = 0 ↔ x = y
  trans : ∀ x y z, c x y ≤ 0 → c y z ≤ 0 → c x z ≤ 0

namespace IsCmp
variable {α β : Type} {c : α → α → Int} {d : β → β → Int}
theorem self (h : IsCmp c) (x : α) : c x x = 0 := (h.zero x x).2 rfl
theorem lt_le (h : IsCmp c) {x y z : α} (h1 : c x y < 0) (h2 : c y z ≤ 0) : c x z < 0 := by
  have h3 := h.trans x y z (by omega) h2
  rcases Int.lt_or_eq_of_le h3 with h4 | h4
  · exact h4
  · obtain rfl := (h.zero x z).1 h4
    have := h.neg x y
    omega
theorem le_lt (h : IsCmp c) {x y z : α} (h1 : c x y ≤ 0) (h2 : c y z < 0) : c x z < 0 := by
  have h3 := h.trans x y z h1 (by omega)
  rcases Int.lt_or_eq_of_le h3 with h4 | h4
  · exact h4
  · obtain rfl := (h.zero x z).1 h4
    have := h.neg x y
    omega

/-- First by the one, then by the other. -/
def both (c : α → α → Int) (d : β → β → Int) (x y : α × β) : Int := if c x.1 y.1 = 0 then d x.2 y.2 else c x.1 y.1

theorem both_is (h : IsCmp c) (k : IsCmp d) : IsCmp (both c d) where
  range x y := by unfold both; split; exact k.range _ _; exact h.range _ _
  neg x y := by
    unfold both
    have := h.neg x.1 y.1
    by_cases e : c x.1 y.1 = 0
    · rw [if_pos e, if_pos (by omega)]; exact k.neg _ _
    · rw [if_neg e, if_neg (by omega)]; exact this
  zero x y := by
    obtain ⟨x1, x2⟩ := x
    obtain ⟨y1, y2⟩ := y
    unfold both
    by_cases e : c x1 y1 = 0
    · simp only [e, if_pos]; rw [k.zero, Prod.mk.injEq]; exact ⟨fun q => ⟨(h.zero _ _).1 e, q⟩, fun q => q.2⟩
    · simp only [e, if_false]; rw [Prod.mk.injEq]; exact ⟨fun q => q.elim, fun q => e ((h.zero _ _).2 q.1)⟩
  trans x y z h1 h2 := by
    obtain ⟨x1, x2⟩ := x
    obtain ⟨y1, y2⟩ := y
    obtain ⟨z1, z2⟩ := z
    unfold both at *
    simp only at *
    by_cases e1 : c x1 y1 = 0
    · obtain rfl := (h.zero _ _).1 e1
      by_cases e2 : c x1 z1 = 0
      · rw [if_pos e1] at h1
        rw [if_pos e2] at h2 ⊢
        exact k.trans _ _ _ h1 h2
      · rw [if_neg e2] at h2 ⊢
        exact h2
    · rw [if_neg e1] at h1
      by_cases e2 : c y1 z1 = 0
      · obtain rfl := (h.zero _ _).1 e2
        rw [if_neg e1]; exact h1
      · rw [if_neg e2] at h2
        have := h.lt_le (x := x1) (y := y1) (z := z1) (by omega) h2
        rw [if_neg (by omega)]; omega

theorem map_is {γ : Type} (h : IsCmp c) (f : γ → α) (hf : ∀ x y, f x = f y → x = y) : IsCmp (fun x y => c (f x) (f y)) where
  range x y := h.range _ _
  neg x y := h.neg _ _
  zero x y := (h.zero _ _).trans ⟨hf x y, fun e => by rw [e]⟩
  trans x y z := h.trans _ _ _

/-- Lists: the first that differs decides, else the shorter one is ahead. -/
def lists (c : α → α → Int) : List α → List α → Int
  | [], [] => 0
  | [], _ :: _ => -1
  | _ :: _, [] => 1
  | x :: l, y :: m => if c x y = 0 then lists c l m else c x y

theorem lists_is (h : IsCmp c) : IsCmp (lists c) where
  range x y := by
    induction x generalizing y with
    | nil => cases y <;> simp [lists]
    | cons a l ih => cases y with
      | nil => simp [lists]
      | cons b m => simp only [lists]; split; exact ih m; exact h.range _ _
  neg x y := by
    induction x generalizing y with
    | nil => cases y <;> simp [lists]
    | cons a l ih => cases y with
      | nil => simp [lists]
      | cons b m =>
        simp only [lists]
        have := h.neg a b
        by_cases e : c a b = 0
        · rw [if_pos e, if_pos (by omega)]; exact ih m
        · rw [if_neg e, if_neg (by omega)]; exact this
  zero x y := by
    induction x generalizing y with
    | nil => cases y <;> simp [lists]
    | cons a l ih => cases y with
      | nil => simp [lists]
      | cons b m =>
        simp only [lists]
        by_cases e : c a b = 0
        · rw [if_pos e, ih m, (h.zero _ _).1 e]; simp
        · rw [if_neg e]
          exact ⟨fun q => (e q).elim, fun q => by injection q with q1 q2; exact (h.zero _ _).2 q1⟩
  trans x y z h1 h2 := by
    induction x generalizing y z with
    | nil => cases z <;> simp [lists]
    | cons a l ih => cases y with
      | nil => simp [lists] at h1
      | cons b m => cases z with
        | nil => simp [lists] at h2
        | cons d n =>
          simp only [lists] at *
          by_cases e1 : c a b = 0
          · obtain rfl := (h.zero _ _).1 e1
            rw [if_pos e1] at h1
            by_cases e2 : c a d = 0
            · rw [if_pos e2] at h2 ⊢; exact ih m n h1 h2
            · rw [if_neg e2] at h2 ⊢; exact h2
          · rw [if_neg e1] at h1
            by_cases e2 : c b d = 0
            · obtain rfl := (h.zero _ _).1 e2
              rw [if_neg e1]; exact h1
            · rw [if_neg e2] at h2
              have := h.lt_le (x := a) (y := b) (z := d) (by omega) h2
              rw [if_neg (by omega)]; omega
end IsCmp

def cmpI (a b : Int) : Int := if a < b then -1 else if b < a then 1 else 0
theorem cmpI_is : IsCmp cmpI where
  range x y := by unfold cmpI; split; simp; split <;> simp
  neg x y := by unfold cmpI; repeat' split <;> omega
  zero x y := by unfold cmpI; constructor <;> intro h <;> (repeat' split at *) <;> omega
  trans x y z h1 h2 := by unfold cmpI at *; repeat' split at * <;> omega

def cmpB (a b : ByteArray) : Int := Lib.compareBytes a.data.toList b.data.toList
theorem bytes_inj {a b : ByteArray} (h : a.data.toList = b.data.toList) : a = b := by
  obtain ⟨⟨a⟩⟩ := a
  obtain ⟨⟨b⟩⟩ := b
  simp at h
  rw [h]
theorem cmpB_is : IsCmp cmpB where
  range x y := cb_range _ _
  neg x y := cb_neg _ _
  zero x y := (cb_zero _ _).trans ⟨bytes_inj, fun h => by rw [h]⟩
  trans x y z := cb_trans _ _ _

/-- The first of the numbers that is not 0. -/
def orI : List Int → Int
  | [] => 0
  | x :: l => if x = 0 then orI l else x

def ndC (x y : Nd) : Int := orI [cmpI x.op y.op, cmpI x.n y.n, cmpB x.s y.s, cmpB x.t y.t]
theorem ndC_is : IsCmp ndC := by
  have h := (cmpI_is.both_is (cmpI_is.both_is (cmpB_is.both_is cmpB_is))).map_is (γ := Nd) (fun x => (x.op, x.n, x.s, x.t)) (fun x y e => by
    obtain ⟨a, b, c, d⟩ := x
    obtain ⟨a', b', c', d'⟩ := y
    simp at e
    simp [e])
  have e : (fun x y : Nd => IsCmp.both cmpI (IsCmp.both cmpI (IsCmp.both cmpB cmpB)) (x.op, x.n, x.s, x.t) (y.op, y.n, y.s, y.t)) = ndC := by
    funext x y
    simp only [ndC, orI, IsCmp.both]
    repeat' split
    all_goals first | rfl | assumption | (symm; assumption)
  rw [← e]; exact h

def lsC : List Nd → List Nd → Int := IsCmp.lists ndC
theorem lsC_is : IsCmp lsC := ndC_is.lists_is

/-- May a node be one of a value? -/
def ndOk (x : Nd) : Bool :=
  if x.op = 1 then x.s.data.toList.isEmpty && x.t.data.toList.isEmpty && (x.n == 0 || x.n == 1)
  else if x.op = 2 then x.s.data.toList.isEmpty && x.t.data.toList.isEmpty
  else if x.op = 3 then x.n == 0 && x.t.data.toList.isEmpty && textOk x.s.data.toList
  else if x.op = 4 then x.n == 0 && nfault x.s.data.toList == 0 && textOk x.t.data.toList
  else if x.op = 5 ∨ x.op = 6 then x.s.data.toList.isEmpty && x.t.data.toList.isEmpty && decide (0 ≤ x.n)
  else if x.op = 7 then x.n == 0 && x.t.data.toList.isEmpty && nfault x.s.data.toList == 0
  else false

def aheadOf (last : Option (List Nd)) (part : List Nd) : Bool :=
  match last with
  | none => true
  | some l => decide (lsC l part < 0)

def setLoop (pv : List Nd → Option (List Nd)) : Nat → Option (List Nd) → List Nd → Option (List Nd)
  | 0, _, v => some v
  | k + 1, last, v =>
    match pv v with
    | none => none
    | some rest => if aheadOf last (v.take (v.length - rest.length)) then setLoop pv k (some (v.take (v.length - rest.length))) rest else none

def recLoop (pv : List Nd → Option (List Nd)) : Nat → ByteArray → List Nd → Option (List Nd)
  | 0, _, v => some v
  | _ + 1, _, [] => none
  | k + 1, last, x :: r =>
    if x.op = 7 ∧ ndOk x = true ∧ cmpB last x.s < 0 then
      match pv r with
      | none => none
      | some rest => recLoop pv k x.s rest
    else none

/-- What stands behind the value that a list begins with; the number bounds how deep it goes. -/
def pastV : Nat → List Nd → Option (List Nd)
  | 0, _ => none
  | _ + 1, [] => none
  | f + 1, x :: r =>
    if x.op ≠ 7 ∧ ndOk x = true then
      if x.op = 5 then setLoop (pastV f) x.n.toNat none r
      else if x.op = 6 then recLoop (pastV f) x.n.toNat ⟨#[]⟩ r
      else some r
    else none

def IsTail (r v : List Nd) : Prop := ∃ a, v = a ++ r
theorem IsTail.refl (v : List Nd) : IsTail v v := ⟨[], rfl⟩
theorem IsTail.trans {a b c : List Nd} (h : IsTail a b) (k : IsTail b c) : IsTail a c := by
  obtain ⟨x, rfl⟩ := h
  obtain ⟨y, rfl⟩ := k
  exact ⟨y ++ x, by simp⟩
theorem IsTail.cons {a b : List Nd} (x : Nd) (h : IsTail a b) : IsTail a (x :: b) := by obtain ⟨y, rfl⟩ := h; exact ⟨x :: y, rfl⟩
theorem IsTail.length {a b : List Nd} (h : IsTail a b) : a.length ≤ b.length := by obtain ⟨y, rfl⟩ := h; simp

theorem setLoop_tail {pv : List Nd → Option (List Nd)} (hp : ∀ v r, pv v = some r → IsTail r v) : ∀ (k : Nat) (last : Option (List Nd)) (v r : List Nd), setLoop pv k last v = some r → IsTail r v
  | 0, last, v, r, h => by simp only [setLoop, Option.some.injEq] at h; subst h; exact IsTail.refl _
  | k + 1, last, v, r, h => by
    simp only [setLoop] at h
    cases e : pv v with
    | none => rw [e] at h; cases h
    | some rest =>
      simp only [e] at h
      split at h
      · exact (setLoop_tail hp k _ rest r h).trans (hp _ _ e)
      · cases h
theorem recLoop_tail {pv : List Nd → Option (List Nd)} (hp : ∀ v r, pv v = some r → IsTail r v) : ∀ (k : Nat) (last : ByteArray) (v r : List Nd), recLoop pv k last v = some r → IsTail r v
  | 0, last, v, r, h => by simp only [recLoop, Option.some.injEq] at h; subst h; exact IsTail.refl _
  | k + 1, last, [], r, h => by simp [recLoop] at h
  | k + 1, last, x :: v, r, h => by
    simp only [recLoop] at h
    split at h
    · cases e : pv v with
      | none => rw [e] at h; cases h
      | some rest =>
        simp only [e] at h
        exact ((recLoop_tail hp k _ rest r h).trans (hp _ _ e)).cons x
    · cases h
theorem pastV_tail : ∀ (f : Nat) (v r : List Nd), pastV f v = some r → ∃ x m, v = x :: m ∧ IsTail r m
  | 0, v, r, h => by simp [pastV] at h
  | f + 1, [], r, h => by simp [pastV] at h
  | f + 1, x :: m, r, h => by
    have hp : ∀ v r, pastV f v = some r → IsTail r v := fun v r e => by
      obtain ⟨x, m, rfl, ht⟩ := pastV_tail f v r e
      exact ht.cons x
    refine ⟨x, m, rfl, ?_⟩
    simp only [pastV] at h
    split at h
    · split at h
      · exact setLoop_tail hp _ _ _ _ h
      · split at h
        · exact recLoop_tail hp _ _ _ _ h
        · simp only [Option.some.injEq] at h; subst h; exact IsTail.refl _
    · cases h
theorem pastV_shorter {f : Nat} {v r : List Nd} (h : pastV f v = some r) : r.length < v.length ∧ IsTail r v := by
  obtain ⟨x, m, rfl, ht⟩ := pastV_tail f v r h
  have := ht.length
  exact ⟨by simp; omega, ht.cons x⟩

/-- Just one value? -/
def isVal (v : List Nd) : Bool :=
  match pastV (v.length + 1) v with
  | some r => r.isEmpty
  | none => false
/-- What Check tells of a list of nodes, by number. -/
def vfault (v : List Nd) : Int := if 200 < v.length then 4 else if isVal v then 0 else 1
end Go.Proofs.Ytjbjheeigdblkab
