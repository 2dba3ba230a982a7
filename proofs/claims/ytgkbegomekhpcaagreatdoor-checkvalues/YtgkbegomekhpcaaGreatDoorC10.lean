/- Two texts are compared byte by byte: the plain facts about that order (its values, its turning round, when it is 0, that it goes on), and one step of it at a place. No program is named here. Nodes as plain data, the order of nodes and of lists of them, and what is a value: no program is named here. Types and values as trees: rows of parts; what is a type; below, joined, has, own. No program is named here. Types as trees: the least above two; what a value has, and what of its own. No program is named here. What is a value does not hang on the bound that the walk is given; Fields; the document's end of a value, by number. No program is named here. What a set or a record has, in order: its items, as plain lists; how many nodes an item has, by counting what is missing. No program is named here. What has no fault: its head, and the items behind it. No program is named here. Values as trees: which types a value has, and which of its own. No program is named here. Two rows that rise and have the same members are one. No program is named here. What type an expression has, as a tree; a value's is its own. No program is named here. Where the fields of a record's type lie; rows taken apart. No program is named here. Sets of values as plain lists: each once, in order; that there is one such list; the least above the last, again and again; a sorted row with equal neighbours made one. No program is named here. A value stays one with anything behind it; what stands ahead of a rest is a value. No program is named here. (Parted out of SetV and BagL.) Values as trees: their parts as lists. No program is named here. Types as trees: the fields of two records' types, sorted, are those of their join. No program is named here. How many nodes a join has at most. No program is named here. -/
import Derived.Lib.Bytealg
import Derived.Test.YtgkbegomekhpcaaGreatDoorC1
namespace Go.Proofs.YtgkbegomekhpcaaGreatDoor

theorem cb_cons (x y : UInt8) (l m : List UInt8) : Lib.compareBytes (x :: l) (y :: m) = if x < y then -1 else if y < x then 1 else Lib.compareBytes l m := rfl

theorem cb_range : ∀ (l m : List UInt8), Lib.compareBytes l m = -1 ∨ Lib.compareBytes l m = 0 ∨ Lib.compareBytes l m = 1
  | [], [] => Or.inr (Or.inl rfl)
  | [], _ :: _ => Or.inl rfl
  | _ :: _, [] => Or.inr (Or.inr rfl)
  | x :: l, y :: m => by
    rw [cb_cons]
    by_cases h : x < y
    · rw [if_pos h]; exact Or.inl rfl
    · rw [if_neg h]
      by_cases k : y < x
      · rw [if_pos k]; exact Or.inr (Or.inr rfl)
      · rw [if_neg k]; exact cb_range l m

theorem cb_neg : ∀ (l m : List UInt8), Lib.compareBytes l m = - Lib.compareBytes m l
  | [], [] => rfl
  | [], _ :: _ => rfl
  | _ :: _, [] => rfl
  | x :: l, y :: m => by
    rw [cb_cons, cb_cons]
    by_cases h : x < y
    · have k : ¬ y < x := by rw [UInt8.lt_iff_toNat_lt] at h ⊢; omega
      rw [if_pos h, if_neg k, if_pos h]
    · rw [if_neg h]
      by_cases k : y < x
      · rw [if_pos k, if_pos k]; rfl
      · rw [if_neg k, if_neg k, if_neg h]; exact cb_neg l m

theorem cb_zero : ∀ (l m : List UInt8), Lib.compareBytes l m = 0 ↔ l = m
  | [], [] => ⟨fun _ => rfl, fun _ => rfl⟩
  | [], _ :: _ => ⟨fun h => absurd h (show ¬ (-1 : Int) = 0 by decide), fun h => (List.cons_ne_nil _ _ h.symm).elim⟩
  | _ :: _, [] => ⟨fun h => absurd h (show ¬ (1 : Int) = 0 by decide), fun h => (List.cons_ne_nil _ _ h).elim⟩
  | x :: l, y :: m => by
    rw [cb_cons]
    by_cases h : x < y
    · rw [if_pos h]
      refine ⟨fun e => absurd e (by decide), fun e => ?_⟩
      injection e with e1 _
      subst e1
      rw [UInt8.lt_iff_toNat_lt] at h; omega
    · rw [if_neg h]
      by_cases k : y < x
      · rw [if_pos k]
        refine ⟨fun e => absurd e (by decide), fun e => ?_⟩
        injection e with e1 _
        subst e1
        rw [UInt8.lt_iff_toNat_lt] at k; omega
      · rw [if_neg k]
        have hxy : x = y := by
          rw [UInt8.lt_iff_toNat_lt] at h k
          apply UInt8.toNat_inj.1; omega
        subst hxy
        rw [cb_zero l m]
        exact ⟨fun e => by rw [e], fun e => by injection e⟩

theorem cb_trans : ∀ (l m n : List UInt8), Lib.compareBytes l m ≤ 0 → Lib.compareBytes m n ≤ 0 → Lib.compareBytes l n ≤ 0
  | [], _, [], _, _ => Int.le_refl _
  | [], _, _ :: _, _, _ => (show (-1 : Int) ≤ 0 by decide)
  | _ :: _, [], _, h, _ => absurd h (show ¬ (1 : Int) ≤ 0 by decide)
  | _ :: _, _ :: _, [], _, h => absurd h (show ¬ (1 : Int) ≤ 0 by decide)
  | x :: l, y :: m, z :: n, h1, h2 => by
    rw [cb_cons] at h1 h2 ⊢
    by_cases a1 : x < y
    · by_cases b1 : y < z
      · have c : x < z := by rw [UInt8.lt_iff_toNat_lt] at a1 b1 ⊢; omega
        rw [if_pos c]; decide
      · rw [if_neg b1] at h2
        by_cases b2 : z < y
        · rw [if_pos b2] at h2; exact absurd h2 (by decide)
        · have c : x < z := by rw [UInt8.lt_iff_toNat_lt] at a1 b1 b2 ⊢; omega
          rw [if_pos c]; decide
    · rw [if_neg a1] at h1
      by_cases a2 : y < x
      · rw [if_pos a2] at h1; exact absurd h1 (by decide)
      · rw [if_neg a2] at h1
        by_cases b1 : y < z
        · have c : x < z := by rw [UInt8.lt_iff_toNat_lt] at a1 a2 b1 ⊢; omega
          rw [if_pos c]; decide
        · rw [if_neg b1] at h2
          by_cases b2 : z < y
          · rw [if_pos b2] at h2; exact absurd h2 (by decide)
          · rw [if_neg b2] at h2
            have c1 : ¬ x < z := by rw [UInt8.lt_iff_toNat_lt] at a1 a2 b1 b2 ⊢; omega
            have c2 : ¬ z < x := by rw [UInt8.lt_iff_toNat_lt] at a1 a2 b1 b2 ⊢; omega
            rw [if_neg c1, if_neg c2]
            exact cb_trans l m n h1 h2

/-- The order of two pairs of texts: the first ones, then the second ones. -/
def uc (a b c d : List UInt8) : Int := if Lib.compareBytes a c = 0 then Lib.compareBytes b d else Lib.compareBytes a c

theorem uc_range (a b c d : List UInt8) : uc a b c d = -1 ∨ uc a b c d = 0 ∨ uc a b c d = 1 := by
  unfold uc; split
  · exact cb_range _ _
  · exact cb_range _ _

theorem uc_neg (a b c d : List UInt8) : uc a b c d = - uc c d a b := by
  unfold uc
  have h := cb_neg a c
  by_cases k : Lib.compareBytes a c = 0
  · have k2 : Lib.compareBytes c a = 0 := by omega
    rw [if_pos k, if_pos k2]; exact cb_neg _ _
  · have k2 : ¬ Lib.compareBytes c a = 0 := by omega
    rw [if_neg k, if_neg k2]; exact h

theorem uc_zero (a b c d : List UInt8) : uc a b c d = 0 ↔ a = c ∧ b = d := by
  unfold uc
  by_cases k : Lib.compareBytes a c = 0
  · rw [if_pos k, cb_zero]
    exact ⟨fun h => ⟨(cb_zero _ _).1 k, h⟩, fun h => h.2⟩
  · rw [if_neg k]
    exact ⟨fun h => absurd h k, fun h => absurd ((cb_zero _ _).2 h.1) k⟩

theorem uc_trans (a b c d e f : List UInt8) (h1 : uc a b c d ≤ 0) (h2 : uc c d e f ≤ 0) : uc a b e f ≤ 0 := by
  unfold uc at h1 h2 ⊢
  by_cases k1 : Lib.compareBytes a c = 0
  · rw [if_pos k1] at h1
    have e1 := (cb_zero _ _).1 k1
    subst e1
    by_cases k2 : Lib.compareBytes a e = 0
    · rw [if_pos k2] at h2
      rw [if_pos k2]; exact cb_trans _ _ _ h1 h2
    · rw [if_neg k2] at h2
      rw [if_neg k2]; exact h2
  · rw [if_neg k1] at h1
    by_cases k2 : Lib.compareBytes c e = 0
    · have e2 := (cb_zero _ _).1 k2
      subst e2
      rw [if_neg k1]; exact h1
    · rw [if_neg k2] at h2
      have h3 := cb_trans _ _ _ h1 h2
      by_cases k3 : Lib.compareBytes a e = 0
      · have e3 := (cb_zero _ _).1 k3
        subst e3
        have := cb_neg a c
        omega
      · rw [if_neg k3]; exact h3

/-- One step at place k. -/
theorem cb_step (s t : ByteArray) (k : Nat) (hs : k < s.size) (ht : k < t.size) :
    Lib.compareBytes (s.data.toList.drop k) (t.data.toList.drop k) = if (s[k].toNat : Int) < (t[k].toNat : Int) then -1 else if (t[k].toNat : Int) < (s[k].toNat : Int) then 1 else Lib.compareBytes (s.data.toList.drop (k + 1)) (t.data.toList.drop (k + 1)) := by
  have e1 : s.data.toList.drop k = s[k] :: s.data.toList.drop (k + 1) := by
    rw [List.drop_eq_getElem_cons (by simpa using hs)]; rfl
  have e2 : t.data.toList.drop k = t[k] :: t.data.toList.drop (k + 1) := by
    rw [List.drop_eq_getElem_cons (by simpa using ht)]; rfl
  rw [e1, e2, cb_cons]
  simp only [UInt8.lt_iff_toNat_lt, Int.ofNat_lt]

/-- Where one of them is at its end: by their lengths. -/
theorem cb_end (s t : ByteArray) (k : Nat) (hk : k ≤ s.size) (hk2 : k ≤ t.size) (h : k = s.size ∨ k = t.size) :
    Lib.compareBytes (s.data.toList.drop k) (t.data.toList.drop k) = if s.size < t.size then -1 else if t.size < s.size then 1 else 0 := by
  have ls : s.data.toList.length = s.size := by simp
  have lt : t.data.toList.length = t.size := by simp
  rcases h with h | h
  · rw [List.drop_of_length_le (by omega : s.data.toList.length ≤ k)]
    by_cases q : s.size < t.size
    · rw [if_pos q]
      rw [List.drop_eq_getElem_cons (by omega : k < t.data.toList.length)]; rfl
    · rw [if_neg q, if_neg (by omega), List.drop_of_length_le (by omega : t.data.toList.length ≤ k)]; rfl
  · rw [List.drop_of_length_le (by omega : t.data.toList.length ≤ k)]
    by_cases q : t.size < s.size
    · rw [if_neg (by omega), if_pos q]
      rw [List.drop_eq_getElem_cons (by omega : k < s.data.toList.length)]; rfl
    · rw [if_neg (by omega), if_neg q, List.drop_of_length_le (by omega : s.data.toList.length ≤ k)]; rfl

end Go.Proofs.YtgkbegomekhpcaaGreatDoor
namespace Go.Proofs.YtgkbegomekhpcaaGreatDoor

structure Nd where
  op : Int
  n : Int
  s : ByteArray
  t : ByteArray

/-- A way to compare: -1, 0, 1; turned round it is turned; 0 just where they are one; it goes on. -/
structure IsCmp {α : Type} (c : α → α → Int) : Prop where
  range : ∀ x y, c x y = -1 ∨ c x y = 0 ∨ c x y = 1
  neg : ∀ x y, c x y = - c y x
  zero : ∀ x y, c x y = 0 ↔ x = y
  trans : ∀ x y z, c x y ≤ 0 → c y z ≤ 0 → c x z ≤ 0

namespace IsCmp
variable {α β : Type} {c : α → α → Int} {d : β → β → Int}
theorem self (h : IsCmp c) (x : α) : c x x = 0 := (h.zero x x).2 rfl
theorem lt_le (h : IsCmp c) {x y z : α} (h1 : c x y < 0) (h2 : c y z ≤ 0) : c x z < 0 := by
  have h3 := h.trans x y z (by omega) h2
  rcases Int.lt_or_eq_of_le h3 with h4 | h4
  · exact h4
  · obtain rfl := (h.zero x z).1 h4
    have := h.neg x y
    omega
theorem le_lt (h : IsCmp c) {x y z : α} (h1 : c x y ≤ 0) (h2 : c y z < 0) : c x z < 0 := by
  have h3 := h.trans x y z h1 (by omega)
  rcases Int.lt_or_eq_of_le h3 with h4 | h4
  · exact h4
  · obtain rfl := (h.zero x z).1 h4
    have := h.neg x y
    omega

/-- First by the one, then by the other. -/
def both (c : α → α → Int) (d : β → β → Int) (x y : α × β) : Int := if c x.1 y.1 = 0 then d x.2 y.2 else c x.1 y.1

theorem both_is (h : IsCmp c) (k : IsCmp d) : IsCmp (both c d) where
  range x y := by unfold both; split; exact k.range _ _; exact h.range _ _
  neg x y := by
    unfold both
    have := h.neg x.1 y.1
    by_cases e : c x.1 y.1 = 0
    · rw [if_pos e, if_pos (by omega)]; exact k.neg _ _
    · rw [if_neg e, if_neg (by omega)]; exact this
  zero x y := by
    obtain ⟨x1, x2⟩ := x
    obtain ⟨y1, y2⟩ := y
    unfold both
    by_cases e : c x1 y1 = 0
    · simp only [e, if_pos]; rw [k.zero, Prod.mk.injEq]; exact ⟨fun q => ⟨(h.zero _ _).1 e, q⟩, fun q => q.2⟩
    · simp only [e, if_false]; rw [Prod.mk.injEq]; exact ⟨fun q => q.elim, fun q => e ((h.zero _ _).2 q.1)⟩
  trans x y z h1 h2 := by
    obtain ⟨x1, x2⟩ := x
    obtain ⟨y1, y2⟩ := y
    obtain ⟨z1, z2⟩ := z
    unfold both at *
    simp only at *
    by_cases e1 : c x1 y1 = 0
    · obtain rfl := (h.zero _ _).1 e1
      by_cases e2 : c x1 z1 = 0
      · rw [if_pos e1] at h1
        rw [if_pos e2] at h2 ⊢
        exact k.trans _ _ _ h1 h2
      · rw [if_neg e2] at h2 ⊢
        exact h2
    · rw [if_neg e1] at h1
      by_cases e2 : c y1 z1 = 0
      · obtain rfl := (h.zero _ _).1 e2
        rw [if_neg e1]; exact h1
      · rw [if_neg e2] at h2
        have := h.lt_le (x := x1) (y := y1) (z := z1) (by omega) h2
        rw [if_neg (by omega)]; omega

theorem map_is {γ : Type} (h : IsCmp c) (f : γ → α) (hf : ∀ x y, f x = f y → x = y) : IsCmp (fun x y => c (f x) (f y)) where
  range x y := h.range _ _
  neg x y := h.neg _ _
  zero x y := (h.zero _ _).trans ⟨hf x y, fun e => by rw [e]⟩
  trans x y z := h.trans _ _ _

/-- Lists: the first that differs decides, else the shorter one is ahead. -/
def lists (c : α → α → Int) : List α → List α → Int
  | [], [] => 0
  | [], _ :: _ => -1
  | _ :: _, [] => 1
  | x :: l, y :: m => if c x y = 0 then lists c l m else c x y

theorem lists_is (h : IsCmp c) : IsCmp (lists c) where
  range x y := by
    induction x generalizing y with
    | nil => cases y <;> simp [lists]
    | cons a l ih => cases y with
      | nil => simp [lists]
      | cons b m => simp only [lists]; split; exact ih m; exact h.range _ _
  neg x y := by
    induction x generalizing y with
    | nil => cases y <;> simp [lists]
    | cons a l ih => cases y with
      | nil => simp [lists]
      | cons b m =>
        simp only [lists]
        have := h.neg a b
        by_cases e : c a b = 0
        · rw [if_pos e, if_pos (by omega)]; exact ih m
        · rw [if_neg e, if_neg (by omega)]; exact this
  zero x y := by
    induction x generalizing y with
    | nil => cases y <;> simp [lists]
    | cons a l ih => cases y with
      | nil => simp [lists]
      | cons b m =>
        simp only [lists]
        by_cases e : c a b = 0
        · rw [if_pos e, ih m, (h.zero _ _).1 e]; simp
        · rw [if_neg e]
          exact ⟨fun q => (e q).elim, fun q => by injection q with q1 q2; exact (h.zero _ _).2 q1⟩
  trans x y z h1 h2 := by
    induction x generalizing y z with
    | nil => cases z <;> simp [lists]
    | cons a l ih => cases y with
      | nil => simp [lists] at h1
      | cons b m => cases z with
        | nil => simp [lists] at h2
        | cons d n =>
          simp only [lists] at *
          by_cases e1 : c a b = 0
          · obtain rfl := (h.zero _ _).1 e1
            rw [if_pos e1] at h1
            by_cases e2 : c a d = 0
            · rw [if_pos e2] at h2 ⊢; exact ih m n h1 h2
            · rw [if_neg e2] at h2 ⊢; exact h2
          · rw [if_neg e1] at h1
            by_cases e2 : c b d = 0
            · obtain rfl := (h.zero _ _).1 e2
              rw [if_neg e1]; exact h1
            · rw [if_neg e2] at h2
              have := h.lt_le (x := a) (y := b) (z := d) (by omega) h2
              rw [if_neg (by omega)]; omega
end IsCmp

def cmpI (a b : Int) : Int := if a < b then -1 else if b < a then 1 else 0
theorem cmpI_is : IsCmp cmpI where
  range x y := by unfold cmpI; split; simp; split <;> simp
  neg x y := by unfold cmpI; repeat' split <;> omega
  zero x y := by unfold cmpI; constructor <;> intro h <;> (repeat' split at *) <;> omega
  trans x y z h1 h2 := by unfold cmpI at *; repeat' split at * <;> omega

def cmpB (a b : ByteArray) : Int := Lib.compareBytes a.data.toList b.data.toList
theorem bytes_inj {a b : ByteArray} (h : a.data.toList = b.data.toList) : a = b := by
  obtain ⟨⟨a⟩⟩ := a
  obtain ⟨⟨b⟩⟩ := b
  simp at h
  rw [h]
theorem cmpB_is : IsCmp cmpB where
  range x y := cb_range _ _
  neg x y := cb_neg _ _
  zero x y := (cb_zero _ _).trans ⟨bytes_inj, fun h => by rw [h]⟩
  trans x y z := cb_trans _ _ _

/-- The first of the numbers that is not 0. -/
def orI : List Int → Int
  | [] => 0
  | x :: l => if x = 0 then orI l else x

def ndC (x y : Nd) : Int := orI [cmpI x.op y.op, cmpI x.n y.n, cmpB x.s y.s, cmpB x.t y.t]
theorem ndC_is : IsCmp ndC := by
  have h := (cmpI_is.both_is (cmpI_is.both_is (cmpB_is.both_is cmpB_is))).map_is (γ := Nd) (fun x => (x.op, x.n, x.s, x.t)) (fun x y e => by
    obtain ⟨a, b, c, d⟩ := x
    obtain ⟨a', b', c', d'⟩ := y
    simp at e
    simp [e])
  have e : (fun x y : Nd => IsCmp.both cmpI (IsCmp.both cmpI (IsCmp.both cmpB cmpB)) (x.op, x.n, x.s, x.t) (y.op, y.n, y.s, y.t)) = ndC := by
    funext x y
    simp only [ndC, orI, IsCmp.both]
    repeat' split
    all_goals first | rfl | assumption | (symm; assumption)
  rw [← e]; exact h

def lsC : List Nd → List Nd → Int := IsCmp.lists ndC
theorem lsC_is : IsCmp lsC := ndC_is.lists_is

/-- May a node be one of a value? -/
def ndOk (x : Nd) : Bool :=
  if x.op = 1 then x.s.data.toList.isEmpty && x.t.data.toList.isEmpty && (x.n == 0 || x.n == 1)
  else if x.op = 2 then x.s.data.toList.isEmpty && x.t.data.toList.isEmpty
  else if x.op = 3 then x.n == 0 && x.t.data.toList.isEmpty && textOk x.s.data.toList
  else if x.op = 4 then x.n == 0 && nfault x.s.data.toList == 0 && textOk x.t.data.toList
  else if x.op = 5 ∨ x.op = 6 then x.s.data.toList.isEmpty && x.t.data.toList.isEmpty && decide (0 ≤ x.n)
  else if x.op = 7 then x.n == 0 && x.t.data.toList.isEmpty && nfault x.s.data.toList == 0
  else false

def aheadOf (last : Option (List Nd)) (part : List Nd) : Bool :=
  match last with
  | none => true
  | some l => decide (lsC l part < 0)

def setLoop (pv : List Nd → Option (List Nd)) : Nat → Option (List Nd) → List Nd → Option (List Nd)
  | 0, _, v => some v
  | k + 1, last, v =>
    match pv v with
    | none => none
    | some rest => if aheadOf last (v.take (v.length - rest.length)) then setLoop pv k (some (v.take (v.length - rest.length))) rest else none

def recLoop (pv : List Nd → Option (List Nd)) : Nat → ByteArray → List Nd → Option (List Nd)
  | 0, _, v => some v
  | _ + 1, _, [] => none
  | k + 1, last, x :: r =>
    if x.op = 7 ∧ ndOk x = true ∧ cmpB last x.s < 0 then
      match pv r with
      | none => none
      | some rest => recLoop pv k x.s rest
    else none

/-- What stands behind the value that a list begins with; the number bounds how deep it goes. -/
def pastV : Nat → List Nd → Option (List Nd)
  | 0, _ => none
  | _ + 1, [] => none
  | f + 1, x :: r =>
    if x.op ≠ 7 ∧ ndOk x = true then
      if x.op = 5 then setLoop (pastV f) x.n.toNat none r
      else if x.op = 6 then recLoop (pastV f) x.n.toNat ⟨#[]⟩ r
      else some r
    else none

def IsTail (r v : List Nd) : Prop := ∃ a, v = a ++ r
theorem IsTail.refl (v : List Nd) : IsTail v v := ⟨[], rfl⟩
theorem IsTail.trans {a b c : List Nd} (h : IsTail a b) (k : IsTail b c) : IsTail a c := by
  obtain ⟨x, rfl⟩ := h
  obtain ⟨y, rfl⟩ := k
  exact ⟨y ++ x, by simp⟩
theorem IsTail.cons {a b : List Nd} (x : Nd) (h : IsTail a b) : IsTail a (x :: b) := by obtain ⟨y, rfl⟩ := h; exact ⟨x :: y, rfl⟩
theorem IsTail.length {a b : List Nd} (h : IsTail a b) : a.length ≤ b.length := by obtain ⟨y, rfl⟩ := h; simp

theorem setLoop_tail {pv : List Nd → Option (List Nd)} (hp : ∀ v r, pv v = some r → IsTail r v) : ∀ (k : Nat) (last : Option (List Nd)) (v r : List Nd), setLoop pv k last v = some r → IsTail r v
  | 0, last, v, r, h => by simp only [setLoop, Option.some.injEq] at h; subst h; exact IsTail.refl _
  | k + 1, last, v, r, h => by
    simp only [setLoop] at h
    cases e : pv v with
    | none => rw [e] at h; cases h
    | some rest =>
      simp only [e] at h
      split at h
      · exact (setLoop_tail hp k _ rest r h).trans (hp _ _ e)
      · cases h
theorem recLoop_tail {pv : List Nd → Option (List Nd)} (hp : ∀ v r, pv v = some r → IsTail r v) : ∀ (k : Nat) (last : ByteArray) (v r : List Nd), recLoop pv k last v = some r → IsTail r v
  | 0, last, v, r, h => by simp only [recLoop, Option.some.injEq] at h; subst h; exact IsTail.refl _
  | k + 1, last, [], r, h => by simp [recLoop] at h
  | k + 1, last, x :: v, r, h => by
    simp only [recLoop] at h
    split at h
    · cases e : pv v with
      | none => rw [e] at h; cases h
      | some rest =>
        simp only [e] at h
        exact ((recLoop_tail hp k _ rest r h).trans (hp _ _ e)).cons x
    · cases h
theorem pastV_tail : ∀ (f : Nat) (v r : List Nd), pastV f v = some r → ∃ x m, v = x :: m ∧ IsTail r m
  | 0, v, r, h => by simp [pastV] at h
  | f + 1, [], r, h => by simp [pastV] at h
  | f + 1, x :: m, r, h => by
    have hp : ∀ v r, pastV f v = some r → IsTail r v := fun v r e => by
      obtain ⟨x, m, rfl, ht⟩ := pastV_tail f v r e
      exact ht.cons x
    refine ⟨x, m, rfl, ?_⟩
    simp only [pastV] at h
    split at h
    · split at h
      · exact setLoop_tail hp _ _ _ _ h
      · split at h
        · exact recLoop_tail hp _ _ _ _ h
        · simp only [Option.some.injEq] at h; subst h; exact IsTail.refl _
    · cases h
theorem pastV_shorter {f : Nat} {v r : List Nd} (h : pastV f v = some r) : r.length < v.length ∧ IsTail r v := by
  obtain ⟨x, m, rfl, ht⟩ := pastV_tail f v r h
  have := ht.length
  exact ⟨by simp; omega, ht.cons x⟩

/-- Just one value? -/
def isVal (v : List Nd) : Bool :=
  match pastV (v.length + 1) v with
  | some r => r.isEmpty
  | none => false
/-- What Check tells of a list of nodes, by number. -/
def vfault (v : List Nd) : Int := if 200 < v.length then 4 else if isVal v then 0 else 1
end Go.Proofs.YtgkbegomekhpcaaGreatDoor
namespace Go.Proofs.YtgkbegomekhpcaaGreatDoor
set_option linter.unusedVariables false

/-- A row of parts: a node, its own parts, and those behind it. -/
inductive Tp where
  | nil : Tp
  | cons (x : Nd) (k r : Tp) : Tp
namespace Tp
def flat : Tp → List Nd
  | nil => []
  | cons x k r => x :: (k.flat ++ r.flat)
def len : Tp → Nat
  | nil => 0
  | cons _ _ r => r.len + 1
def app : Tp → Tp → Tp
  | nil, b => b
  | cons x k r, b => cons x k (r.app b)
def sz : Tp → Nat
  | nil => 0
  | cons x k r => k.sz + r.sz + 1
/-- The part of a name. -/
def find (s : ByteArray) : Tp → Option (Nd × Tp)
  | nil => none
  | cons f kf r => if f.s = s then some (f, kf) else r.find s
end Tp
theorem tp_app_len : ∀ a b : Tp, (a.app b).len = a.len + b.len
  | .nil, b => by simp [Tp.app, Tp.len]
  | .cons x k r, b => by simp [Tp.app, Tp.len, tp_app_len r b]; omega
theorem tp_app_flat : ∀ a b : Tp, (a.app b).flat = a.flat ++ b.flat
  | .nil, b => rfl
  | .cons x k r, b => by simp [Tp.app, Tp.flat, tp_app_flat r b]
theorem tp_app_nil : ∀ a : Tp, a.app .nil = a
  | .nil => rfl
  | .cons x k r => by simp [Tp.app, tp_app_nil r]
theorem tp_app_assoc : ∀ a b c : Tp, (a.app b).app c = a.app (b.app c)
  | .nil, b, c => rfl
  | .cons x k r, b, c => by simp [Tp.app, tp_app_assoc r b c]
theorem tp_len_flat : ∀ t : Tp, t.len ≤ t.flat.length
  | .nil => by simp [Tp.len]
  | .cons x k r => by have := tp_len_flat r; simp [Tp.len, Tp.flat]; omega
theorem tp_sz_flat : ∀ t : Tp, t.sz = t.flat.length
  | .nil => rfl
  | .cons x k r => by simp [Tp.sz, Tp.flat, tp_sz_flat k, tp_sz_flat r]
theorem tp_len0 : ∀ {t : Tp}, t.len = 0 → t = .nil
  | .nil, _ => rfl
  | .cons _ _ _, h => by simp [Tp.len] at h
theorem tp_len1 : ∀ {t : Tp}, t.len = 1 → ∃ x k, t = .cons x k .nil
  | .nil, h => by simp [Tp.len] at h
  | .cons x k r, h => ⟨x, k, by rw [tp_len0 (t := r) (by simpa [Tp.len] using h)]⟩

def e0 : ByteArray := ⟨#[]⟩
def lfN (op : Int) : Nd := ⟨op, 0, e0, e0⟩
def fdN (s : ByteArray) (n : Int) : Nd := ⟨47, n, s, e0⟩
/-- How many parts, as the program counts. -/
def cntK (x : Nd) : Int := if x.op = 5 ∨ x.op = 6 ∨ x.op = 46 then x.n else if x.op = 7 ∨ x.op = 45 ∨ x.op = 47 then 1 else 0
/-- Each node has as many parts as it should. -/
def arK : Tp → Prop
  | .nil => True
  | .cons x k r => (cntK x).toNat = k.len ∧ arK k ∧ arK r
theorem arK_app : ∀ {a b : Tp}, arK (a.app b) ↔ arK a ∧ arK b
  | .nil, b => by simp [Tp.app, arK]
  | .cons x k r, b => by simp [Tp.app, arK, arK_app (a := r) (b := b), and_assoc]
theorem tp_flat_inj : ∀ (a b : Tp) (u v : List Nd), arK a → arK b → a.len = b.len → a.flat ++ u = b.flat ++ v → a = b ∧ u = v
  | .nil, .nil, u, v, _, _, _, h => ⟨rfl, by simpa [Tp.flat] using h⟩
  | .nil, .cons _ _ _, u, v, _, _, hl, _ => by simp [Tp.len] at hl
  | .cons _ _ _, .nil, u, v, _, _, hl, _ => by simp [Tp.len] at hl
  | .cons x k r, .cons y l s, u, v, ⟨h1, h2, h3⟩, ⟨k1, k2, k3⟩, hl, h => by
    simp only [Tp.flat, List.cons_append, List.cons.injEq, List.append_assoc] at h
    obtain ⟨rfl, h⟩ := h
    obtain ⟨e1, hh⟩ := tp_flat_inj k l _ _ h2 k2 (by rw [← h1, ← k1]) h
    obtain ⟨e2, hz⟩ := tp_flat_inj r s _ _ h3 k3 (by simpa [Tp.len] using hl) hh
    subst e1 e2
    exact ⟨rfl, hz⟩
theorem tp_split : ∀ (t : Tp) (n : Nat), n ≤ t.len → ∃ a b : Tp, t = a.app b ∧ a.len = n
  | t, 0, _ => ⟨.nil, t, rfl, rfl⟩
  | .nil, n + 1, h => by simp [Tp.len] at h
  | .cons x k r, n + 1, h => by
    obtain ⟨a, b, h1, h2⟩ := tp_split r n (by simpa [Tp.len] using h)
    exact ⟨.cons x k a, b, by rw [h1]; rfl, by simp [Tp.len, h2]⟩

/-- Is a row one of types; or, behind a name, one of fields whose names rise? -/
def isTy : Option ByteArray → Tp → Bool
  | _, .nil => true
  | none, .cons x k r =>
    (decide (x.t = e0) && (if x.op = 44 then decide (x.n = 0) && (nfault x.s.data.toList == 0) && decide (k.len = 0)
      else decide (x.s = e0) && (if x.op = 45 then decide (x.n = 0) && decide (k.len = 1) && isTy none k
        else if x.op = 46 then decide (0 ≤ x.n) && decide ((k.len : Int) = x.n) && isTy (some e0) k
        else decide (x.n = 0) && decide (x.op = 41 ∨ x.op = 42 ∨ x.op = 43 ∨ x.op = 48 ∨ x.op = 49) && decide (k.len = 0)))) && isTy none r
  | some l, .cons x k r =>
    (decide (x.op = 47) && decide (x.n = 0 ∨ x.n = 1) && decide (x.t = e0) && (nfault x.s.data.toList == 0) && decide (cmpB l x.s < 0) && decide (k.len = 1) && isTy none k) && isTy (some x.s) r
/-- One type. -/
def T1 (t : Tp) : Prop := t.len = 1 ∧ isTy none t = true
/-- Fields whose names rise. -/
def Fl (l : ByteArray) (t : Tp) : Prop := isTy (some l) t = true
theorem Fl.cons_iff {l : ByteArray} {f : Nd} {kf r : Tp} : Fl l (.cons f kf r) ↔ (f.op = 47 ∧ (f.n = 0 ∨ f.n = 1) ∧ f.t = e0 ∧ nfault f.s.data.toList = 0 ∧ cmpB l f.s < 0) ∧ T1 kf ∧ Fl f.s r := by
  unfold Fl T1
  rw [isTy]
  simp only [Bool.and_eq_true, decide_eq_true_eq, beq_iff_eq]
  constructor
  · rintro ⟨⟨⟨⟨⟨⟨⟨a, b⟩, c⟩, d⟩, e⟩, f⟩, g⟩, h⟩; exact ⟨⟨a, b, c, d, e⟩, ⟨f, g⟩, h⟩
  · rintro ⟨⟨a, b, c, d, e⟩, ⟨f, g⟩, h⟩; exact ⟨⟨⟨⟨⟨⟨⟨a, b⟩, c⟩, d⟩, e⟩, f⟩, g⟩, h⟩
/-- The ways in which there is one type. -/
inductive TyC : Nd → Tp → Prop
  | leaf (op : Int) (h : op = 41 ∨ op = 42 ∨ op = 43 ∨ op = 48 ∨ op = 49) : TyC (lfN op) .nil
  | ent (s : ByteArray) (h : nfault s.data.toList = 0) : TyC ⟨44, 0, s, e0⟩ .nil
  | set (k : Tp) (h : T1 k) : TyC (lfN 45) k
  | rcd (k : Tp) (h : Fl e0 k) : TyC ⟨46, k.len, e0, e0⟩ k
theorem isTy_none_cons {x : Nd} {k r : Tp} : isTy none (.cons x k r) = true ↔ TyC x k ∧ isTy none r = true := by
  obtain ⟨xo, xn, xs, xt⟩ := x
  rw [isTy]
  simp only [Bool.and_eq_true]
  refine and_congr_left (fun _ => ?_)
  simp only [decide_eq_true_eq]
  constructor
  · rintro ⟨rfl, h⟩
    split at h
    · rename_i h44
      subst h44
      simp only [Bool.and_eq_true, decide_eq_true_eq, beq_iff_eq] at h
      obtain ⟨⟨rfl, h1⟩, h2⟩ := h
      rw [tp_len0 h2]
      exact .ent xs h1
    · simp only [Bool.and_eq_true, decide_eq_true_eq] at h
      obtain ⟨rfl, h⟩ := h
      split at h
      · rename_i h45
        subst h45
        simp only [Bool.and_eq_true, decide_eq_true_eq] at h
        obtain ⟨⟨rfl, h1⟩, h2⟩ := h
        exact .set k ⟨h1, h2⟩
      · split at h
        · rename_i h46
          subst h46
          simp only [Bool.and_eq_true, decide_eq_true_eq] at h
          obtain ⟨⟨h0, rfl⟩, h2⟩ := h
          exact .rcd k h2
        · simp only [Bool.and_eq_true, decide_eq_true_eq] at h
          obtain ⟨⟨rfl, h1⟩, h2⟩ := h
          rw [tp_len0 h2]
          exact .leaf xo h1
  · intro h
    cases h with
    | leaf op h =>
      refine ⟨rfl, ?_⟩
      simp only []
      rw [if_neg (by omega), if_neg (by omega), if_neg (by omega)]
      simp [Tp.len, h]
    | ent s h => exact ⟨rfl, by simp [Tp.len, h]⟩
    | set k h => exact ⟨rfl, by simp [h.1, h.2, e0]⟩
    | rcd k h =>
      have h : isTy (some e0) k = true := h
      exact ⟨rfl, by simp [h]⟩
theorem T1.iff {x : Nd} {k : Tp} : T1 (.cons x k .nil) ↔ TyC x k := by
  unfold T1
  rw [isTy_none_cons]
  simp [Tp.len, isTy]
theorem T1.of {t : Tp} (h : T1 t) : ∃ x k, t = .cons x k .nil ∧ TyC x k := by
  obtain ⟨x, k, rfl⟩ := tp_len1 h.1
  exact ⟨x, k, rfl, T1.iff.1 h⟩
theorem TyC.nil {x : Nd} {k : Tp} (h : TyC x k) (a : x.op ≠ 45) (b : x.op ≠ 46) : k = .nil := by
  cases h with
  | leaf op h => rfl
  | ent s h => rfl
  | set k h => exact absurd rfl a
  | rcd k h => exact absurd rfl b
theorem isTy_ar : ∀ (t : Tp) (m : Option ByteArray), isTy m t = true → arK t
  | .nil, _, _ => trivial
  | .cons x k r, none, h => by
    obtain ⟨h1, h2⟩ := isTy_none_cons.1 h
    refine ⟨?_, ?_, isTy_ar r none h2⟩
    · cases h1 with
      | leaf op h => unfold cntK lfN; simp only []; rw [if_neg (by omega), if_neg (by omega)]; rfl
      | ent s h => simp [cntK, Tp.len]
      | set k h => simp [cntK, lfN, h.1]
      | rcd k h => simp [cntK]
    · cases h1 with
      | leaf op h => trivial
      | ent s h => trivial
      | set k h => exact isTy_ar k none h.2
      | rcd k hk => exact isTy_ar k _ hk
  | .cons x k r, some l, h => by
    obtain ⟨⟨h1, _⟩, h2, h3⟩ := Fl.cons_iff.1 h
    exact ⟨by simp [cntK, h1, h2.1], isTy_ar k none h2.2, isTy_ar r _ h3⟩

theorem find_name {s : ByteArray} : ∀ {t : Tp} {f : Nd} {kf : Tp}, t.find s = some (f, kf) → f.s = s
  | .nil, f, kf, h => by simp [Tp.find] at h
  | .cons x k r, f, kf, h => by
    rw [Tp.find] at h
    split at h
    · simp only [Option.some.injEq, Prod.mk.injEq] at h
      obtain ⟨rfl, rfl⟩ := h
      assumption
    · exact find_name h
theorem find_sz {s : ByteArray} : ∀ {t : Tp} {f : Nd} {kf : Tp}, t.find s = some (f, kf) → kf.sz < t.sz
  | .nil, f, kf, h => by simp [Tp.find] at h
  | .cons x k r, f, kf, h => by
    rw [Tp.find] at h
    split at h
    · simp only [Option.some.injEq, Prod.mk.injEq] at h
      obtain ⟨rfl, rfl⟩ := h
      simp [Tp.sz]; omega
    · have := find_sz h; simp [Tp.sz]; omega
theorem Fl.find {s : ByteArray} : ∀ {t : Tp} {l : ByteArray} {f : Nd} {kf : Tp}, Fl l t → t.find s = some (f, kf) → f = fdN s f.n ∧ (f.n = 0 ∨ f.n = 1) ∧ nfault s.data.toList = 0 ∧ cmpB l s < 0 ∧ T1 kf
  | .nil, l, f, kf, _, h => by simp [Tp.find] at h
  | .cons x k r, l, f, kf, hl, h => by
    obtain ⟨⟨h1, h2, h3, h4, h5⟩, h6, h7⟩ := Fl.cons_iff.1 hl
    rw [Tp.find] at h
    split at h
    · rename_i hs
      simp only [Option.some.injEq, Prod.mk.injEq] at h
      obtain ⟨rfl, rfl⟩ := h
      subst hs
      obtain ⟨xo, xn, xs, xt⟩ := x
      simp only at h1 h3
      subst h1 h3
      exact ⟨rfl, h2, h4, h5, h6⟩
    · obtain ⟨a, b, c, d, e⟩ := Fl.find h7 h
      exact ⟨a, b, c, cmpB_is.lt_le h5 (by omega), e⟩
theorem Fl.low {l : ByteArray} {t : Tp} (h : Fl l t) {s : ByteArray} (hs : cmpB s l ≤ 0) : t.find s = none := by
  cases e : t.find s with
  | none => rfl
  | some p =>
    obtain ⟨_, _, _, h1, _⟩ := h.find (f := p.1) (kf := p.2) e
    have := cmpB_is.lt_le h1 hs
    rw [cmpB_is.self] at this
    omega
theorem Fl.find_tail {l : ByteArray} {f : Nd} {kf r : Tp} (h : Fl l (.cons f kf r)) {s : ByteArray} {g : Nd} {kg : Tp} (hs : r.find s = some (g, kg)) : (Tp.cons f kf r).find s = some (g, kg) := by
  obtain ⟨_, _, h7⟩ := Fl.cons_iff.1 h
  rw [Tp.find, if_neg, hs]
  intro e
  rw [h7.low (by rw [e, cmpB_is.self]; omega)] at hs
  cases hs
theorem Fl.find_head {f : Nd} {kf r : Tp} : (Tp.cons f kf r).find f.s = some (f, kf) := by rw [Tp.find, if_pos rfl]
theorem find_ne {f : Nd} {kf r : Tp} {s : ByteArray} (h : f.s ≠ s) : (Tp.cons f kf r).find s = r.find s := by rw [Tp.find, if_neg h]
theorem Fl.from {l l' : ByteArray} {t : Tp} (h : Fl l t) (hl : cmpB l' l ≤ 0) : Fl l' t := by
  cases t with
  | nil => simp [Fl, isTy]
  | cons x k r =>
    obtain ⟨⟨h1, h2, h3, h4, h5⟩, h6, h7⟩ := Fl.cons_iff.1 h
    exact Fl.cons_iff.2 ⟨⟨h1, h2, h3, h4, cmpB_is.le_lt hl h5⟩, h6, h7⟩
/-- What rises is one, if the same is found in it. -/
theorem Fl.ext : ∀ {t u : Tp} {l m : ByteArray}, Fl l t → Fl m u → (∀ s, t.find s = u.find s) → t = u
  | .nil, .nil, _, _, _, _, _ => rfl
  | .nil, .cons y k r, l, m, _, _, h => by have := h y.s; rw [Fl.find_head] at this; simp [Tp.find] at this
  | .cons y k r, .nil, l, m, _, _, h => by have := h y.s; rw [Fl.find_head] at this; simp [Tp.find] at this
  | .cons x k r, .cons y k' r', l, m, ht, hu, h => by
    obtain ⟨_, _, h7⟩ := Fl.cons_iff.1 ht
    obtain ⟨_, _, k7⟩ := Fl.cons_iff.1 hu
    have hxy : x.s = y.s := by
      have a := h x.s
      have b := h y.s
      rw [Fl.find_head] at a b
      have a' := a.symm
      rw [Tp.find] at a' b
      by_cases e : y.s = x.s
      · exact e.symm
      · rw [if_neg e] at a'
        rw [if_neg (fun q => e q.symm)] at b
        have p := (k7.find a').2.2.2.1
        have q := (h7.find b).2.2.2.1
        have := cmpB_is.neg x.s y.s
        omega
    have a := h x.s
    rw [Fl.find_head, hxy, Fl.find_head] at a
    simp only [Option.some.injEq, Prod.mk.injEq] at a
    obtain ⟨rfl, rfl⟩ := a
    have : r = r' := Fl.ext h7 k7 (fun s => by
      have := h s
      rw [Tp.find, Tp.find] at this
      by_cases e : x.s = s
      · rw [h7.low (by rw [← e, cmpB_is.self]; omega), k7.low (by rw [← e, cmpB_is.self]; omega)]
      · rw [if_neg e, if_neg e] at this; exact this)
    rw [this]

/-- All that must be in l must be in k. -/
def musts (k : Tp) : Tp → Bool
  | .nil => true
  | .cons f _ r => (decide (f.n ≠ 1) || (match k.find f.s with | some (g, _) => decide (g.n = 1) | none => false)) && musts k r
theorem musts_iff {k : Tp} : ∀ {l : ByteArray} {m : Tp}, Fl l m → (musts k m = true ↔ ∀ s g kg, m.find s = some (g, kg) → g.n = 1 → ∃ f kf, k.find s = some (f, kf) ∧ f.n = 1)
  | l, .nil, _ => by simp [musts, Tp.find]
  | l, .cons x kx r, h => by
    obtain ⟨_, _, h7⟩ := Fl.cons_iff.1 h
    rw [musts, Bool.and_eq_true, musts_iff h7]
    constructor
    · rintro ⟨h1, h2⟩ s g kg hs hg
      rw [Tp.find] at hs
      split at hs
      · rename_i e
        simp only [Option.some.injEq, Prod.mk.injEq] at hs
        obtain ⟨rfl, rfl⟩ := hs
        subst e
        simp only [Bool.or_eq_true, decide_eq_true_eq] at h1
        rcases h1 with h1 | h1
        · exact absurd hg h1
        · cases e : k.find x.s with
          | none => rw [e] at h1; cases h1
          | some p => rw [e] at h1; exact ⟨p.1, p.2, rfl, by simpa using h1⟩
      · exact h2 s g kg hs hg
    · intro h1
      refine ⟨?_, fun s g kg hs hg => h1 s g kg (h.find_tail hs) hg⟩
      by_cases e : x.n = 1
      · obtain ⟨f, kf, h2, h3⟩ := h1 x.s x kx Fl.find_head e
        rw [h2]
        simp [h3]
      · simp [e]
def ndEq (x y : Nd) : Bool := decide (x.op = y.op ∧ x.n = y.n ∧ x.s = y.s ∧ x.t = y.t)
theorem ndEq_iff {x y : Nd} : ndEq x y = true ↔ x = y := by
  obtain ⟨a, b, c, d⟩ := x
  obtain ⟨a', b', c', d'⟩ := y
  simp [ndEq]
/-- Is the first part of a row below that of another (false); are all fields of it (true)? -/
def blw : Bool → Tp → Tp → Bool
  | _, .nil, _ => true
  | false, .cons x k _, u =>
    match u with
    | .nil => false
    | .cons y l _ => if x.op = 49 ∨ y.op = 48 then true else if x.op ≠ y.op then false else if x.op = 45 then blw false k l else if x.op = 46 then blw true k l && musts k l else ndEq x y
  | true, .cons f kf r, l => (match l.find f.s with | some (_, kg) => blw false kf kg | none => false) && blw true r l
theorem blw_cons (x y : Nd) (k l r s : Tp) : blw false (.cons x k r) (.cons y l s) = if x.op = 49 ∨ y.op = 48 then true else if x.op ≠ y.op then false else if x.op = 45 then blw false k l else if x.op = 46 then blw true k l && musts k l else ndEq x y := by rw [blw]
theorem blw_flds (f : Nd) (kf r l : Tp) : blw true (.cons f kf r) l = ((match l.find f.s with | some (_, kg) => blw false kf kg | none => false) && blw true r l) := by rw [blw]
theorem flds_iff {m : Tp} : ∀ {l : ByteArray} {k : Tp}, Fl l k → (blw true k m = true ↔ ∀ s f kf, k.find s = some (f, kf) → ∃ g kg, m.find s = some (g, kg) ∧ blw false kf kg = true)
  | l, .nil, _ => by simp [blw, Tp.find]
  | l, .cons x kx r, h => by
    obtain ⟨_, _, h7⟩ := Fl.cons_iff.1 h
    rw [blw_flds, Bool.and_eq_true, flds_iff h7]
    constructor
    · rintro ⟨h1, h2⟩ s f kf hs
      rw [Tp.find] at hs
      split at hs
      · rename_i e
        simp only [Option.some.injEq, Prod.mk.injEq] at hs
        obtain ⟨rfl, rfl⟩ := hs
        subst e
        cases e : m.find x.s with
        | none => rw [e] at h1; cases h1
        | some p => rw [e] at h1; exact ⟨p.1, p.2, rfl, h1⟩
      · exact h2 s f kf hs
    · intro h1
      refine ⟨?_, fun s g kg hs => h1 s g kg (h.find_tail hs)⟩
      obtain ⟨g, kg, h2, h3⟩ := h1 x.s x kx Fl.find_head
      rw [h2]
      exact h3
theorem blw_none {u : Tp} (h : T1 u) (k r : Tp) : blw false (.cons (lfN 49) k r) u = true := by
  obtain ⟨y, l, rfl, _⟩ := h.of
  rw [blw_cons]; simp [lfN]
theorem blw_top (t : Tp) (k r : Tp) : blw false t (.cons (lfN 48) k r) = true := by
  cases t with
  | nil => rw [blw]
  | cons x k r => rw [blw_cons]; simp [lfN]
theorem blw_sets (k l : Tp) : blw false (.cons (lfN 45) k .nil) (.cons (lfN 45) l .nil) = blw false k l := by rw [blw_cons]; simp [lfN]
theorem blw_rcds (k l : Tp) (m n : Int) (r s : Tp) : blw false (.cons ⟨46, m, e0, e0⟩ k r) (.cons ⟨46, n, e0, e0⟩ l s) = (blw true k l && musts k l) := by rw [blw_cons]; simp
theorem rcds_iff {k l : Tp} {a b : ByteArray} (hk : Fl a k) (hl : Fl b l) : (blw true k l && musts k l) = true ↔ (∀ s f kf, k.find s = some (f, kf) → ∃ g kg, l.find s = some (g, kg) ∧ blw false kf kg = true) ∧ (∀ s g kg, l.find s = some (g, kg) → g.n = 1 → ∃ f kf, k.find s = some (f, kf) ∧ f.n = 1) := by
  rw [Bool.and_eq_true, flds_iff hk, musts_iff hl]
/-- How two types stand that one is below the other. -/
theorem blw_ways {x y : Nd} {k l : Tp} (hx : TyC x k) (hy : TyC y l) (h : blw false (.cons x k .nil) (.cons y l .nil) = true) : x = lfN 49 ∨ y = lfN 48 ∨ (x = y ∧ k = .nil ∧ l = .nil ∧ x.op ≠ 45 ∧ x.op ≠ 46) ∨ (x = lfN 45 ∧ y = lfN 45 ∧ T1 k ∧ T1 l ∧ blw false k l = true) ∨ (x = ⟨46, k.len, e0, e0⟩ ∧ y = ⟨46, l.len, e0, e0⟩ ∧ Fl e0 k ∧ Fl e0 l ∧ (blw true k l && musts k l) = true) := by
  rw [blw_cons] at h
  by_cases c1 : x.op = 49
  · left; cases hx with
    | leaf op h => simp only [lfN] at c1; subst c1; rfl
    | ent s h => simp at c1
    | set k h => simp [lfN] at c1
    | rcd k h => simp at c1
  by_cases c2 : y.op = 48
  · right; left; cases hy with
    | leaf op h => simp only [lfN] at c2; subst c2; rfl
    | ent s h => simp at c2
    | set k h => simp [lfN] at c2
    | rcd k h => simp at c2
  rw [if_neg (by omega)] at h
  by_cases c3 : x.op = y.op
  · rw [if_neg (by omega)] at h
    by_cases c4 : x.op = 45
    · rw [if_pos c4] at h
      right; right; right; left
      cases hx with
      | leaf op h => simp only [lfN] at c4; omega
      | ent s h => simp at c4
      | rcd k h => simp at c4
      | set k hk =>
        cases hy with
        | leaf op h => simp only [lfN] at c3; omega
        | ent s h => simp [lfN] at c3
        | rcd k h => simp [lfN] at c3
        | set l hl => exact ⟨rfl, rfl, hk, hl, h⟩
    · rw [if_neg c4] at h
      by_cases c5 : x.op = 46
      · rw [if_pos c5] at h
        right; right; right; right
        cases hx with
        | leaf op h => simp only [lfN] at c5; omega
        | ent s h => simp at c5
        | set k h => simp [lfN] at c5
        | rcd k hk =>
          cases hy with
          | leaf op h => simp only [lfN] at c3; omega
          | ent s h => simp at c3
          | set k h => simp [lfN] at c3
          | rcd l hl => exact ⟨rfl, rfl, hk, hl, h⟩
      · rw [if_neg c5] at h
        have := ndEq_iff.1 h
        subst this
        right; right; left
        refine ⟨rfl, ?_, ?_, c4, c5⟩
        · cases hx with
          | leaf op h => rfl
          | ent s h => rfl
          | set k h => simp [lfN] at c4
          | rcd k h => simp at c5
        · cases hy with
          | leaf op h => rfl
          | ent s h => rfl
          | set k h => simp [lfN] at c4
          | rcd k h => simp at c5
  · rw [if_pos c3] at h; cases h
theorem blw_refl : ∀ (n : Nat) (t : Tp), t.sz < n → T1 t → blw false t t = true
  | 0, t, h, _ => by omega
  | n + 1, t, h, ht => by
    obtain ⟨x, k, rfl, hx⟩ := ht.of
    simp only [Tp.sz] at h
    cases hx with
    | leaf op ho =>
      rw [blw_cons]
      have e : (lfN op).op = op := rfl
      by_cases c : (lfN op).op = 49 ∨ (lfN op).op = 48
      · rw [if_pos c]
      · rw [if_neg c, if_neg (by simp), if_neg (by omega), if_neg (by omega)]; exact ndEq_iff.2 rfl
    | ent s h => rw [blw_cons]; simp [ndEq]
    | set k hk => rw [blw_sets]; exact blw_refl n k (by omega) hk
    | rcd k hk =>
      rw [blw_rcds, rcds_iff hk hk]
      exact ⟨fun s f kf hs => ⟨f, kf, hs, blw_refl n kf (by have := find_sz hs; omega) (hk.find hs).2.2.2.2⟩, fun s g kg hs hg => ⟨g, kg, hs, hg⟩⟩
theorem blw_trans : ∀ (n : Nat) (a b c : Tp), a.sz < n → T1 a → T1 b → T1 c → blw false a b = true → blw false b c = true → blw false a c = true
  | 0, a, b, c, h, _, _, _, _, _ => by omega
  | n + 1, a, b, c, h, ha, hb, hc, h1, h2 => by
    obtain ⟨x, k, rfl, hx⟩ := ha.of
    obtain ⟨y, l, rfl, hy⟩ := hb.of
    obtain ⟨z, m, rfl, hz⟩ := hc.of
    simp only [Tp.sz] at h
    rcases blw_ways hx hy h1 with e | e | ⟨e, e2, e3, e4, e5⟩ | ⟨e, e2, e3, e4, e5⟩ | ⟨e, e2, e3, e4, e5⟩
    · subst e; exact blw_none hc _ _
    · subst e
      rcases blw_ways hy hz h2 with e | e | ⟨e, e2, e3, e4, e5⟩ | ⟨e, e2, e3, e4, e5⟩ | ⟨e, e2, e3, e4, e5⟩
      · simp [lfN] at e
      · subst e; exact blw_top _ _ _
      · subst e; exact blw_top _ _ _
      · simp [lfN] at e
      · simp [lfN] at e
    · subst e e2 e3; exact h2
    · subst e e2
      rcases blw_ways hy hz h2 with e | e | ⟨e, f2, f3, f4, f5⟩ | ⟨e, f2, f3, f4, f5⟩ | ⟨e, f2, f3, f4, f5⟩
      · simp [lfN] at e
      · subst e; exact blw_top _ _ _
      · simp [lfN] at f4
      · subst f2; rw [blw_sets]; exact blw_trans n k l m (by omega) e3 e4 f4 e5 f5
      · simp [lfN] at e
    · rcases blw_ways hy hz h2 with g | g | ⟨g, f2, f3, f4, f5⟩ | ⟨g, f2, f3, f4, f5⟩ | ⟨g, f2, f3, f4, f5⟩
      · rw [g] at e2; simp [lfN] at e2
      · subst g; exact blw_top _ _ _
      · rw [e2] at f5; simp at f5
      · rw [g] at e2; simp [lfN] at e2
      · subst e f2
        rw [blw_rcds, rcds_iff e3 f4]
        rw [rcds_iff e3 e4] at e5
        rw [rcds_iff f3 f4] at f5
        refine ⟨fun s f kf hs => ?_, fun s q kq hs hq => ?_⟩
        · obtain ⟨p, kp, p1, p2⟩ := e5.1 s f kf hs
          obtain ⟨q, kq, q1, q2⟩ := f5.1 s p kp p1
          exact ⟨q, kq, q1, blw_trans n kf kp kq (by have := find_sz hs; omega) (e3.find hs).2.2.2.2 (f3.find p1).2.2.2.2 (f4.find q1).2.2.2.2 p2 q2⟩
        · obtain ⟨p, kp, p1, p2⟩ := f5.2 s q kq hs hq
          exact e5.2 s p kp p1 p2
theorem blw_anti : ∀ (n : Nat) (a b : Tp), a.sz < n → T1 a → T1 b → blw false a b = true → blw false b a = true → a = b
  | 0, a, b, h, _, _, _, _ => by omega
  | n + 1, a, b, h, ha, hb, h1, h2 => by
    obtain ⟨x, k, rfl, hx⟩ := ha.of
    obtain ⟨y, l, rfl, hy⟩ := hb.of
    simp only [Tp.sz] at h
    have hl : ∀ {x : Nd} {k : Tp}, TyC x k → x.op ≠ 45 → x.op ≠ 46 → k = .nil := fun h => h.nil
    rcases blw_ways hx hy h1 with e | e | ⟨e, e2, e3, e4, e5⟩ | ⟨e, e2, e3, e4, e5⟩ | ⟨e, e2, e3, e4, e5⟩
    · subst e
      rcases blw_ways hy hx h2 with g | g | ⟨g, _⟩ | ⟨g, g2, _⟩ | ⟨g, g2, _⟩
      · subst g; rw [hl hx (by simp [lfN]) (by simp [lfN]), hl hy (by simp [lfN]) (by simp [lfN])]
      · simp [lfN] at g
      · subst g; rw [hl hx (by simp [lfN]) (by simp [lfN]), hl hy (by simp [lfN]) (by simp [lfN])]
      · simp [lfN] at g2
      · simp [lfN] at g2
    · subst e
      rcases blw_ways hy hx h2 with g | g | ⟨g, _⟩ | ⟨g, g2, _⟩ | ⟨g, g2, _⟩
      · simp [lfN] at g
      · subst g; rw [hl hx (by simp [lfN]) (by simp [lfN]), hl hy (by simp [lfN]) (by simp [lfN])]
      · subst g; rw [hl hx (by simp [lfN]) (by simp [lfN]), hl hy (by simp [lfN]) (by simp [lfN])]
      · simp [lfN] at g
      · simp [lfN] at g
    · subst e e2 e3; rfl
    · subst e e2
      rw [blw_sets] at h2
      rw [blw_anti n k l (by omega) e3 e4 e5 h2]
    · rw [e, e2, blw_rcds, rcds_iff e4 e3] at h2
      rw [rcds_iff e3 e4] at e5
      have : k = l := Fl.ext e3 e4 (fun s => by
        cases ek : k.find s with
        | none =>
          cases el : l.find s with
          | none => rfl
          | some p => obtain ⟨q, kq, q1, _⟩ := h2.1 s p.1 p.2 el; rw [ek] at q1; cases q1
        | some p =>
          obtain ⟨f, kf⟩ := p
          obtain ⟨g, kg, g1, g2⟩ := e5.1 s f kf ek
          obtain ⟨f', kf', f1, f2⟩ := h2.1 s g kg g1
          rw [ek] at f1
          simp only [Option.some.injEq, Prod.mk.injEq] at f1
          obtain ⟨rfl, rfl⟩ := f1
          have hf := e3.find ek
          have hg := e4.find g1
          have e6 := blw_anti n kf kg (by have := find_sz ek; omega) hf.2.2.2.2 hg.2.2.2.2 g2 f2
          subst e6
          have hn : f.n = g.n := by
            rcases hf.2.1 with a | a
            · rcases hg.2.1 with b | b
              · rw [a, b]
              · obtain ⟨f', kf', p1, p2⟩ := e5.2 s g kf g1 b
                rw [ek] at p1
                simp only [Option.some.injEq, Prod.mk.injEq] at p1
                rw [p1.1, p2, b]
            · obtain ⟨f', kf', p1, p2⟩ := h2.2 s f kf ek a
              rw [g1] at p1
              simp only [Option.some.injEq, Prod.mk.injEq] at p1
              rw [p1.1, p2, a]
          rw [g1, hf.1, hg.1, hn])
      subst this
      rw [e, e2]
end Go.Proofs.YtgkbegomekhpcaaGreatDoor
namespace Go.Proofs.YtgkbegomekhpcaaGreatDoor
set_option linter.unusedVariables false

/-- A field more, at its place. -/
def insF (f : Nd) (kf : Tp) : Tp → Tp
  | .nil => .cons f kf .nil
  | .cons g kg r => if cmpB f.s g.s < 0 then .cons f kf (.cons g kg r) else .cons g kg (insF f kf r)
/-- The fields that k has not, as such that may be. -/
def addF (k : Tp) : Tp → Tp → Tp
  | .nil, m => m
  | .cons f kf r, m => if (k.find f.s).isNone then insF (fdN f.s 0) kf (addF k r m) else addF k r m
/-- The join of the first parts of two rows (false); the fields of the one, joined with those of the other (true). -/
def jn : Bool → Tp → Tp → Tp
  | _, .nil, _ => .nil
  | false, .cons x k _, u =>
    match u with
    | .nil => .nil
    | .cons y l _ => if x.op = 49 then .cons y l .nil else if y.op = 49 then .cons x k .nil else if x.op = 45 ∧ y.op = 45 then .cons (lfN 45) (jn false k l) .nil
      else if x.op = 46 ∧ y.op = 46 then .cons ⟨46, (addF k l (jn true k l)).len, e0, e0⟩ (addF k l (jn true k l)) .nil else if ndEq x y then .cons x k .nil else .cons (lfN 48) .nil .nil
  | true, .cons f kf r, l => match l.find f.s with | some (g, kg) => .cons (fdN f.s (if f.n = 1 ∧ g.n = 1 then 1 else 0)) (jn false kf kg) (jn true r l) | none => .cons (fdN f.s 0) kf (jn true r l)
theorem jn_cons (x y : Nd) (k l r s : Tp) : jn false (.cons x k r) (.cons y l s) = if x.op = 49 then .cons y l .nil else if y.op = 49 then .cons x k .nil else if x.op = 45 ∧ y.op = 45 then .cons (lfN 45) (jn false k l) .nil
      else if x.op = 46 ∧ y.op = 46 then .cons ⟨46, (addF k l (jn true k l)).len, e0, e0⟩ (addF k l (jn true k l)) .nil else if ndEq x y then .cons x k .nil else .cons (lfN 48) .nil .nil := by rw [jn]
theorem jn_flds (f : Nd) (kf r l : Tp) : jn true (.cons f kf r) l = match l.find f.s with | some (g, kg) => .cons (fdN f.s (if f.n = 1 ∧ g.n = 1 then 1 else 0)) (jn false kf kg) (jn true r l) | none => .cons (fdN f.s 0) kf (jn true r l) := by rw [jn]
theorem nfault_pos {s : ByteArray} (h : nfault s.data.toList = 0) : cmpB e0 s < 0 := by
  unfold cmpB
  cases e : s.data.toList with
  | nil => rw [e] at h; simp [nfault, nm, pre] at h
  | cons c l => simp [Lib.compareBytes, e0]
theorem insF_find {f : Nd} {kf : Tp} (s : ByteArray) : ∀ {t : Tp}, t.find f.s = none → (insF f kf t).find s = if f.s = s then some (f, kf) else t.find s
  | .nil, _ => by simp [insF, Tp.find]
  | .cons g kg r, h => by
    rw [insF]
    by_cases c : cmpB f.s g.s < 0
    · rw [if_pos c]; rw [Tp.find]
    · rw [if_neg c]
      rw [Tp.find] at h
      split at h
      · cases h
      · rename_i hne
        rw [Tp.find, Tp.find, insF_find s h]
        by_cases e : f.s = s
        · subst e; simp [hne]
        · simp [e]
theorem insF_rise {f : Nd} {kf : Tp} (hf : f.op = 47 ∧ (f.n = 0 ∨ f.n = 1) ∧ f.t = e0 ∧ nfault f.s.data.toList = 0) (hk : T1 kf) : ∀ {t : Tp} {l : ByteArray}, cmpB l f.s < 0 → t.find f.s = none → Fl l t → Fl l (insF f kf t)
  | .nil, l, hl, _, _ => Fl.cons_iff.2 ⟨⟨hf.1, hf.2.1, hf.2.2.1, hf.2.2.2, hl⟩, hk, by simp [Fl, isTy]⟩
  | .cons g kg r, l, hl, h0, ht => by
    obtain ⟨⟨h1, h2, h3, h4, h5⟩, h6, h7⟩ := Fl.cons_iff.1 ht
    rw [insF]
    by_cases c : cmpB f.s g.s < 0
    · rw [if_pos c]
      exact Fl.cons_iff.2 ⟨⟨hf.1, hf.2.1, hf.2.2.1, hf.2.2.2, hl⟩, hk, Fl.cons_iff.2 ⟨⟨h1, h2, h3, h4, c⟩, h6, h7⟩⟩
    · rw [if_neg c]
      rw [Tp.find] at h0
      split at h0
      · cases h0
      · rename_i hne
        have hlt : cmpB g.s f.s < 0 := by
          have a := cmpB_is.neg f.s g.s
          have b : cmpB f.s g.s ≠ 0 := fun e => hne ((cmpB_is.zero _ _).1 e).symm
          omega
        exact Fl.cons_iff.2 ⟨⟨h1, h2, h3, h4, h5⟩, h6, insF_rise hf hk hlt h0 h7⟩
theorem addF_all {k : Tp} : ∀ {l m : Tp} {a b : ByteArray}, Fl a l → Fl e0 m → (∀ s, (m.find s).isSome → (k.find s).isSome) → Fl e0 (addF k l m) ∧ ∀ s, (addF k l m).find s = if (k.find s).isSome then m.find s else (l.find s).map (fun p => (fdN s 0, p.2))
  | .nil, m, a, b, _, hm, hs => ⟨hm, fun s => by
      rw [addF]
      by_cases c : (k.find s).isSome
      · rw [if_pos c]
      · rw [if_neg c]
        cases e : m.find s with
        | none => rfl
        | some p => exact absurd (hs s (by rw [e]; rfl)) c⟩
  | .cons f kf r, m, a, b, hl, hm, hs => by
    obtain ⟨⟨h1, h2, h3, h4, h5⟩, h6, h7⟩ := Fl.cons_iff.1 hl
    obtain ⟨i1, i2⟩ := addF_all (k := k) (l := r) (m := m) (b := b) h7 hm hs
    rw [addF]
    by_cases c : (k.find f.s).isNone
    · rw [if_pos c]
      have c' : k.find f.s = none := by simpa using c
      have hn : (addF k r m).find f.s = none := by
        rw [i2, c', if_neg (by simp), h7.low (by rw [cmpB_is.self]; omega)]; rfl
      refine ⟨insF_rise (f := fdN f.s 0) ⟨rfl, .inl rfl, rfl, h4⟩ h6 ?_ hn i1, fun s => ?_⟩
      · have := nfault_pos h4
        exact this
      · rw [insF_find s (f := fdN f.s 0) hn, i2]
        show (if f.s = s then _ else _) = _
        rw [Tp.find]
        by_cases e : f.s = s
        · subst e; rw [if_pos rfl, if_neg (by simp [c']), if_pos rfl]; rfl
        · rw [if_neg e, if_neg e]
    · rw [if_neg c]
      refine ⟨i1, fun s => ?_⟩
      rw [i2, Tp.find]
      by_cases e : f.s = s
      · subst e
        have : (k.find f.s).isSome := by cases h : k.find f.s with | none => simp [h] at c | some p => rfl
        rw [if_pos this, if_pos this]
      · rw [if_neg e]
/-- What both fields say of a name. -/
def both (s : ByteArray) : Option (Nd × Tp) → Option (Nd × Tp) → Option (Nd × Tp)
  | some (f, kf), some (g, kg) => some (fdN s (if f.n = 1 ∧ g.n = 1 then 1 else 0), jn false kf kg)
  | some (_, kf), none => some (fdN s 0, kf)
  | none, some (_, kg) => some (fdN s 0, kg)
  | none, none => none
theorem jnT_all {l : Tp} {b : ByteArray} (hl : Fl b l) : ∀ {k : Tp} {a : ByteArray}, Fl a k → (∀ s f kf g kg, k.find s = some (f, kf) → l.find s = some (g, kg) → T1 (jn false kf kg)) → Fl a (jn true k l) ∧ ∀ s, (jn true k l).find s = if (k.find s).isSome then both s (k.find s) (l.find s) else none
  | .nil, a, _, _ => ⟨by simp [Fl, isTy, jn], fun s => by simp [jn, Tp.find]⟩
  | .cons f kf r, a, hk, hj => by
    obtain ⟨⟨h1, h2, h3, h4, h5⟩, h6, h7⟩ := Fl.cons_iff.1 hk
    obtain ⟨i1, i2⟩ := jnT_all hl h7 (fun s f' kf' g kg h => hj s f' kf' g kg (hk.find_tail h))
    have hj0 := fun g kg => hj f.s f kf g kg Fl.find_head
    rw [jn_flds]
    cases e : l.find f.s with
    | none =>
      refine ⟨Fl.cons_iff.2 ⟨⟨rfl, .inl rfl, rfl, h4, h5⟩, h6, i1⟩, fun s => ?_⟩
      by_cases c : f.s = s
      · subst c; rw [Fl.find_head, e]; exact Fl.find_head (f := fdN f.s 0)
      · rw [find_ne c]; exact (find_ne (f := fdN f.s 0) c).trans (i2 s)
    | some p =>
      obtain ⟨g, kg⟩ := p
      refine ⟨Fl.cons_iff.2 ⟨⟨rfl, by show (if _ then _ else _) = _ ∨ (if _ then _ else _) = _; split <;> simp, rfl, h4, h5⟩, hj0 g kg e, i1⟩, fun s => ?_⟩
      by_cases c : f.s = s
      · subst c; rw [Fl.find_head, e]; exact Fl.find_head (f := fdN f.s _)
      · rw [find_ne c]; exact (find_ne (f := fdN f.s _) c).trans (i2 s)
/-- The fields of the join. -/
theorem jnR_all {k l : Tp} (hk : Fl e0 k) (hl : Fl e0 l) (hj : ∀ s f kf g kg, k.find s = some (f, kf) → l.find s = some (g, kg) → T1 (jn false kf kg)) : Fl e0 (addF k l (jn true k l)) ∧ ∀ s, (addF k l (jn true k l)).find s = both s (k.find s) (l.find s) := by
  obtain ⟨h1, h2⟩ := jnT_all hl hk hj
  obtain ⟨h3, h4⟩ := addF_all (k := k) (b := e0) hl h1 (fun s h => by
    rw [h2] at h
    by_cases c : (k.find s).isSome
    · exact c
    · rw [if_neg c] at h; cases h)
  refine ⟨h3, fun s => ?_⟩
  rw [h4, h2]
  cases e : k.find s with
  | some p => rfl
  | none =>
    rw [if_neg (by simp)]
    cases e2 : l.find s with
    | none => rfl
    | some q => rfl
theorem jn_ty : ∀ (n : Nat) (a b : Tp), a.sz < n → T1 a → T1 b → T1 (jn false a b)
  | 0, a, b, h, _, _ => by omega
  | n + 1, a, b, h, ha, hb => by
    obtain ⟨x, k, rfl, hx⟩ := ha.of
    obtain ⟨y, l, rfl, hy⟩ := hb.of
    simp only [Tp.sz] at h
    rw [jn_cons]
    split
    · exact hb
    split
    · exact ha
    split
    · rename_i c
      cases hx with
      | leaf op h => have := c.1; simp only [lfN] at this; omega
      | ent s h => simp at c
      | rcd k h => simp at c
      | set k hk =>
        cases hy with
        | leaf op h => have := c.2; simp only [lfN] at this; omega
        | ent s h => simp at c
        | rcd k h => simp at c
        | set l hl => exact T1.iff.2 (.set _ (jn_ty n k l (by omega) hk hl))
    split
    · rename_i c
      cases hx with
      | leaf op h => have := c.1; simp only [lfN] at this; omega
      | ent s h => simp at c
      | set k h => simp [lfN] at c
      | rcd k hk =>
        cases hy with
        | leaf op h => have := c.2; simp only [lfN] at this; omega
        | ent s h => simp at c
        | set k h => simp [lfN] at c
        | rcd l hl => exact T1.iff.2 (.rcd _ (jnR_all hk hl (fun s f kf g kg h1 h2 => jn_ty n kf kg (by have := find_sz h1; omega) (hk.find h1).2.2.2.2 (hl.find h2).2.2.2.2)).1)
    split
    · exact ha
    · exact T1.iff.2 (.leaf 48 (by omega))
theorem jnR {k l : Tp} (hk : Fl e0 k) (hl : Fl e0 l) : Fl e0 (addF k l (jn true k l)) ∧ ∀ s, (addF k l (jn true k l)).find s = both s (k.find s) (l.find s) :=
  jnR_all hk hl (fun s f kf g kg h1 h2 => jn_ty _ kf kg (Nat.lt_succ_self _) (hk.find h1).2.2.2.2 (hl.find h2).2.2.2.2)
theorem blw_self {t : Tp} (h : T1 t) : blw false t t = true := blw_refl _ t (Nat.lt_succ_self _) h
/-- Both are below their join. -/
theorem jn_ub : ∀ (n : Nat) (a b : Tp), a.sz < n → T1 a → T1 b → blw false a (jn false a b) = true ∧ blw false b (jn false a b) = true
  | 0, a, b, h, _, _ => by omega
  | n + 1, a, b, h, ha, hb => by
    obtain ⟨x, k, rfl, hx⟩ := ha.of
    obtain ⟨y, l, rfl, hy⟩ := hb.of
    simp only [Tp.sz] at h
    rw [jn_cons]
    split
    · rename_i c; exact ⟨by rw [blw_cons, if_pos (.inl c)], blw_self hb⟩
    split
    · rename_i c; exact ⟨blw_self ha, by rw [blw_cons, if_pos (.inl c)]⟩
    split
    · rename_i c
      cases hx with
      | leaf op h => have := c.1; simp only [lfN] at this; omega
      | ent s h => simp at c
      | rcd k h => simp at c
      | set k hk =>
        cases hy with
        | leaf op h => have := c.2; simp only [lfN] at this; omega
        | ent s h => simp at c
        | rcd k h => simp at c
        | set l hl => rw [blw_sets, blw_sets]; exact jn_ub n k l (by omega) hk hl
    split
    · rename_i c
      cases hx with
      | leaf op h => have := c.1; simp only [lfN] at this; omega
      | ent s h => simp at c
      | set k h => simp [lfN] at c
      | rcd k hk =>
        cases hy with
        | leaf op h => have := c.2; simp only [lfN] at this; omega
        | ent s h => simp at c
        | set k h => simp [lfN] at c
        | rcd l hl =>
          obtain ⟨hm, hf⟩ := jnR hk hl
          rw [blw_rcds, blw_rcds, rcds_iff hk hm, rcds_iff hl hm]
          refine ⟨⟨fun s f kf hs => ?_, fun s g kg hs hg => ?_⟩, fun s f kf hs => ?_, fun s g kg hs hg => ?_⟩
          · rw [hf, hs]
            cases e : l.find s with
            | none => exact ⟨_, _, rfl, blw_self (hk.find hs).2.2.2.2⟩
            | some p => exact ⟨_, _, rfl, (jn_ub n kf p.2 (by have := find_sz hs; omega) (hk.find hs).2.2.2.2 (hl.find (f := p.1) e).2.2.2.2).1⟩
          · rw [hf] at hs
            cases e1 : k.find s with
            | none => cases e2 : l.find s with
              | none => rw [e1, e2] at hs; cases hs
              | some q => rw [e1, e2] at hs; simp only [both, Option.some.injEq, Prod.mk.injEq] at hs; rw [← hs.1] at hg; simp [fdN] at hg
            | some p => cases e2 : l.find s with
              | none => rw [e1, e2] at hs; simp only [both, Option.some.injEq, Prod.mk.injEq] at hs; rw [← hs.1] at hg; simp [fdN] at hg
              | some q =>
                rw [e1, e2] at hs; simp only [both, Option.some.injEq, Prod.mk.injEq] at hs; rw [← hs.1] at hg
                refine ⟨p.1, p.2, rfl, ?_⟩
                simp only [fdN] at hg
                split at hg
                · rename_i c; exact c.1
                · cases hg
          · rw [hf, hs]
            cases e : k.find s with
            | none => exact ⟨_, _, rfl, blw_self (hl.find hs).2.2.2.2⟩
            | some p => exact ⟨_, _, rfl, (jn_ub n p.2 kf (by have := find_sz (f := p.1) e; omega) (hk.find (f := p.1) e).2.2.2.2 (hl.find hs).2.2.2.2).2⟩
          · rw [hf] at hs
            cases e1 : k.find s with
            | none => cases e2 : l.find s with
              | none => rw [e1, e2] at hs; cases hs
              | some q => rw [e1, e2] at hs; simp only [both, Option.some.injEq, Prod.mk.injEq] at hs; rw [← hs.1] at hg; simp [fdN] at hg
            | some p => cases e2 : l.find s with
              | none => rw [e1, e2] at hs; simp only [both, Option.some.injEq, Prod.mk.injEq] at hs; rw [← hs.1] at hg; simp [fdN] at hg
              | some q =>
                rw [e1, e2] at hs; simp only [both, Option.some.injEq, Prod.mk.injEq] at hs; rw [← hs.1] at hg
                refine ⟨q.1, q.2, rfl, ?_⟩
                simp only [fdN] at hg
                split at hg
                · rename_i c; exact c.2
                · cases hg
    split
    · rename_i c1 c2 c3 c4 c
      have := ndEq_iff.1 c
      subst this
      have c3 : x.op ≠ 45 := fun e => c3 ⟨e, e⟩
      have c4 : x.op ≠ 46 := fun e => c4 ⟨e, e⟩
      rw [hx.nil c3 c4] at ha
      rw [hx.nil c3 c4, hy.nil c3 c4]
      exact ⟨blw_self ha, blw_self ha⟩
    · exact ⟨blw_top _ _ _, blw_top _ _ _⟩
/-- It is the least. -/
theorem jn_least : ∀ (n : Nat) (a b c : Tp), a.sz < n → T1 a → T1 b → T1 c → blw false a c = true → blw false b c = true → blw false (jn false a b) c = true
  | 0, a, b, c, h, _, _, _, _, _ => by omega
  | n + 1, a, b, c, h, ha, hb, hc, h1, h2 => by
    obtain ⟨x, k, rfl, hx⟩ := ha.of
    obtain ⟨y, l, rfl, hy⟩ := hb.of
    obtain ⟨z, m, rfl, hz⟩ := hc.of
    simp only [Tp.sz] at h
    rw [jn_cons]
    split
    · exact h2
    split
    · exact h1
    rename_i d1 d2
    rcases blw_ways hx hz h1 with e | e | ⟨e, e2, e3, e4, e5⟩ | ⟨e, e2, e3, e4, e5⟩ | ⟨e, e2, e3, e4, e5⟩
    · subst e; exact absurd rfl d1
    · subst e; exact blw_top _ _ _
    · rcases blw_ways hy hz h2 with g | g | ⟨g, g2, g3, g4, g5⟩ | ⟨g, g2, g3, g4, g5⟩ | ⟨g, g2, g3, g4, g5⟩
      · subst g; exact absurd rfl d2
      · subst g; exact blw_top _ _ _
      · rw [if_neg (fun q => e4 q.1), if_neg (fun q => e5 q.1), if_pos (ndEq_iff.2 (e.trans g.symm))]; exact h1
      · rw [g2] at e; rw [e] at e4; exact absurd rfl e4
      · rw [g2] at e; rw [e] at e5; exact absurd rfl e5
    · rcases blw_ways hy hz h2 with g | g | ⟨g, g2, g3, g4, g5⟩ | ⟨g, g2, g3, g4, g5⟩ | ⟨g, g2, g3, g4, g5⟩
      · subst g; exact absurd rfl d2
      · subst g; exact blw_top _ _ _
      · rw [g, e2] at g4; exact absurd rfl g4
      · rw [if_pos ⟨by rw [e]; rfl, by rw [g]; rfl⟩, e2, blw_sets]
        exact jn_least n k l m (by omega) e3 g3 g4 e5 g5
      · rw [e2] at g2; simp [lfN] at g2
    · rcases blw_ways hy hz h2 with g | g | ⟨g, g2, g3, g4, g5⟩ | ⟨g, g2, g3, g4, g5⟩ | ⟨g, g2, g3, g4, g5⟩
      · subst g; exact absurd rfl d2
      · subst g; exact blw_top _ _ _
      · rw [g, e2] at g5; exact absurd rfl g5
      · rw [e2] at g2; simp [lfN] at g2
      · rw [if_neg (by rw [e]; simp), if_pos ⟨by rw [e], by rw [g]⟩, e2, blw_rcds]
        obtain ⟨hm, hf⟩ := jnR e3 g3
        rw [rcds_iff hm e4]
        rw [rcds_iff e3 e4] at e5
        rw [rcds_iff g3 e4] at g5
        refine ⟨fun s f kf hs => ?_, fun s q kq hs hq => ?_⟩
        · rw [hf] at hs
          cases e1 : k.find s with
          | none => cases e2 : l.find s with
            | none => rw [e1, e2] at hs; cases hs
            | some q => rw [e1, e2] at hs; simp only [both, Option.some.injEq, Prod.mk.injEq] at hs; rw [← hs.2]; exact g5.1 s q.1 q.2 e2
          | some p => cases e2 : l.find s with
            | none => rw [e1, e2] at hs; simp only [both, Option.some.injEq, Prod.mk.injEq] at hs; rw [← hs.2]; exact e5.1 s p.1 p.2 e1
            | some q =>
              rw [e1, e2] at hs; simp only [both, Option.some.injEq, Prod.mk.injEq] at hs; rw [← hs.2]
              obtain ⟨a1, b1, c1, d1⟩ := e5.1 s p.1 p.2 e1
              obtain ⟨a2, b2, c2, d2⟩ := g5.1 s q.1 q.2 e2
              rw [c1] at c2
              simp only [Option.some.injEq, Prod.mk.injEq] at c2
              rw [← c2.2] at d2
              exact ⟨a1, b1, c1, jn_least n p.2 q.2 b1 (by have := find_sz (f := p.1) e1; omega) (e3.find (f := p.1) e1).2.2.2.2 (g3.find (f := q.1) e2).2.2.2.2 (e4.find c1).2.2.2.2 d1 d2⟩
        · obtain ⟨a1, b1, c1, d1⟩ := e5.2 s q kq hs hq
          obtain ⟨a2, b2, c2, d2⟩ := g5.2 s q kq hs hq
          rw [hf, c1, c2]
          exact ⟨_, _, rfl, by simp [fdN, d1, d2]⟩
/-- Below, of types. -/
def Le (a b : Tp) : Prop := blw false a b = true
theorem Le.refl {a : Tp} (h : T1 a) : Le a a := blw_self h
theorem Le.trans {a b c : Tp} (ha : T1 a) (hb : T1 b) (hc : T1 c) (h : Le a b) (k : Le b c) : Le a c := blw_trans _ a b c (Nat.lt_succ_self _) ha hb hc h k
theorem Le.anti {a b : Tp} (ha : T1 a) (hb : T1 b) (h : Le a b) (k : Le b a) : a = b := blw_anti _ a b (Nat.lt_succ_self _) ha hb h k
theorem T1.jn {a b : Tp} (ha : T1 a) (hb : T1 b) : T1 (jn false a b) := jn_ty _ a b (Nat.lt_succ_self _) ha hb
theorem jn_le_iff {a b c : Tp} (ha : T1 a) (hb : T1 b) (hc : T1 c) : Le (jn false a b) c ↔ Le a c ∧ Le b c := by
  have h := jn_ub _ a b (Nat.lt_succ_self _) ha hb
  exact ⟨fun k => ⟨Le.trans ha (ha.jn hb) hc h.1 k, Le.trans hb (ha.jn hb) hc h.2 k⟩, fun k => jn_least _ a b c (Nat.lt_succ_self _) ha hb hc k.1 k.2⟩
/-- Two types that are below the same ones are one. -/
theorem tp_of_le {a b : Tp} (ha : T1 a) (hb : T1 b) (h : ∀ c, T1 c → (Le a c ↔ Le b c)) : a = b := Le.anti ha hb ((h b hb).2 (Le.refl hb)) ((h a ha).1 (Le.refl ha))
theorem jn_comm {a b : Tp} (ha : T1 a) (hb : T1 b) : jn false a b = jn false b a := tp_of_le (ha.jn hb) (hb.jn ha) (fun c hc => by rw [jn_le_iff ha hb hc, jn_le_iff hb ha hc, and_comm])
theorem jn_assoc {a b c : Tp} (ha : T1 a) (hb : T1 b) (hc : T1 c) : jn false (jn false a b) c = jn false a (jn false b c) := tp_of_le ((ha.jn hb).jn hc) (ha.jn (hb.jn hc)) (fun d hd => by rw [jn_le_iff (ha.jn hb) hc hd, jn_le_iff ha hb hd, jn_le_iff ha (hb.jn hc) hd, jn_le_iff hb hc hd, and_assoc])
theorem jn_self {a : Tp} (ha : T1 a) : jn false a a = a := tp_of_le (ha.jn ha) ha (fun c hc => by rw [jn_le_iff ha ha hc, and_self])
theorem jn_eq_iff {a b : Tp} (ha : T1 a) (hb : T1 b) : jn false a b = a ↔ Le b a := by
  constructor
  · intro h; have := (jn_le_iff ha hb ha).1 (by rw [h]; exact Le.refl ha); exact this.2
  · intro h; exact tp_of_le (ha.jn hb) ha (fun c hc => by rw [jn_le_iff ha hb hc]; exact ⟨fun k => k.1, fun k => ⟨k, Le.trans hb ha hc h k⟩⟩)
end Go.Proofs.YtgkbegomekhpcaaGreatDoor
namespace Go.Proofs.YtgkbegomekhpcaaGreatDoor

theorem setLoop_same {pv pw : List Nd → Option (List Nd)} {n : Nat} (h : ∀ u, u.length < n → pv u = pw u) (hs : ∀ u r, pv u = some r → r.length < u.length) :
    ∀ (k : Nat) (last : Option (List Nd)) (u : List Nd), u.length < n → setLoop pv k last u = setLoop pw k last u
  | 0, _, _, _ => rfl
  | k + 1, last, u, hu => by
    simp only [setLoop]
    rw [← h u hu]
    cases e : pv u with
    | none => rfl
    | some rest =>
      simp only []
      split
      · exact setLoop_same h hs k _ rest (by have := hs u rest e; omega)
      · rfl
theorem recLoop_same {pv pw : List Nd → Option (List Nd)} {n : Nat} (h : ∀ u, u.length < n → pv u = pw u) (hs : ∀ u r, pv u = some r → r.length < u.length) :
    ∀ (k : Nat) (last : ByteArray) (u : List Nd), u.length < n → recLoop pv k last u = recLoop pw k last u
  | 0, _, _, _ => rfl
  | _ + 1, _, [], _ => rfl
  | k + 1, last, x :: u, hu => by
    simp only [recLoop]
    rw [← h u (by simp at hu; omega)]
    split
    · cases e : pv u with
      | none => rfl
      | some rest =>
        simp only []
        exact recLoop_same h hs k _ rest (by have := hs u rest e; simp at hu; omega)
    · rfl
theorem pastV_fuel : ∀ (f g : Nat) (u : List Nd), u.length < f → u.length < g → pastV f u = pastV g u
  | 0, _, _, h, _ => absurd h (by omega)
  | _ + 1, 0, _, _, h => absurd h (by omega)
  | _ + 1, _ + 1, [], _, _ => rfl
  | f + 1, g + 1, x :: r, hf, hg => by
    simp only [List.length_cons] at hf hg
    have h : ∀ u : List Nd, u.length < r.length + 1 → pastV f u = pastV g u := fun u hu => pastV_fuel f g u (by omega) (by omega)
    have hs : ∀ u r, pastV f u = some r → r.length < u.length := fun u r e => (pastV_shorter e).1
    simp only [pastV]
    rw [setLoop_same h hs _ _ r (by omega), recLoop_same h hs _ _ r (by omega)]

/-- .. of a value, or of a Field with its value. -/
def pastF (f : Nat) (field : Bool) (u : List Nd) : Option (List Nd) :=
  if field then
    match u with
    | [] => none
    | x :: r => if x.op = 7 ∧ ndOk x = true then pastV f r else none
  else pastV f u

def endI (n : Nat) : Option (List Nd) → Int
  | none => -1
  | some r => (n : Int) - (r.length : Int)

theorem name_ahead {x : Nd} (h7 : x.op = 7) (h : ndOk x = true) : cmpB ⟨#[]⟩ x.s < 0 := by
  unfold ndOk at h
  simp [h7] at h
  have hn := h.2
  unfold cmpB
  cases e : x.s.data.toList with
  | nil => rw [e] at hn; simp [nfault, nm, pre] at hn
  | cons c l => simp [Lib.compareBytes]
end Go.Proofs.YtgkbegomekhpcaaGreatDoor
namespace Go.Proofs.YtgkbegomekhpcaaGreatDoor
set_option linter.unusedVariables false

def bel (x : Nd) : Int := if x.op = 5 ∨ x.op = 6 then x.n else if x.op = 7 then 1 else 0

/-- The count behind some nodes, if it stays above 0 ahead of each of them. -/
def reach : List Nd → Int → Option Int
  | [], m => some m
  | x :: a, m => if 0 < m then reach a (m + (bel x - 1)) else none

theorem reach_append (a b : List Nd) (m : Int) : reach (a ++ b) m = (reach a m).bind (reach b) := by
  induction a generalizing m with
  | nil => rfl
  | cons x a ih =>
    simp only [List.cons_append, reach]
    split
    · exact ih _
    · rfl

/-- A piece is counted off: the count goes down by one. -/
structure Off (a : List Nd) (d : Int) : Prop where
  run : ∀ m : Int, d ≤ m → reach a m = some (m - d)
  pos : ∀ x ∈ a, 0 ≤ bel x

theorem Off.append {a b : List Nd} {d e : Int} (h : Off a d) (k : Off b e) (he : 0 ≤ e) (hd : 0 ≤ d) : Off (a ++ b) (d + e) := by
  refine ⟨fun m hm => ?_, fun x hx => (List.mem_append.1 hx).elim (h.pos x) (k.pos x)⟩
  rw [reach_append, h.run m (by omega)]
  show reach b (m - d) = _
  rw [k.run (m - d) (by omega)]
  congr 1; omega

theorem Off.cons {x : Nd} {a : List Nd} {d e : Int} (hx : 0 ≤ bel x) (h : Off a d) (he : 0 < e) (hd : e + (bel x - 1) = d) : Off (x :: a) e := by
  refine ⟨fun m hm => ?_, fun y hy => (List.mem_cons.1 hy).elim (fun q => by rw [q]; exact hx) (h.pos y)⟩
  simp only [reach]
  rw [if_pos (by omega), h.run _ (by omega)]
  congr 1; omega
theorem Off.nil : Off [] 0 := ⟨fun m _ => by simp [reach], fun x hx => by cases hx⟩

theorem reach_le : ∀ (a : List Nd) (m : Int), (∀ x ∈ a, 0 ≤ bel x) → reach a m = some 0 → m ≤ a.length
  | [], m, _, h => by simp [reach] at h; simp; omega
  | x :: a, m, hp, h => by
    simp only [reach] at h
    split at h
    · have := reach_le a _ (fun y hy => hp y (by simp [hy])) h
      have h2 := hp x (by simp)
      simp; omega
    · cases h

theorem setLoop_off {pv : List Nd → Option (List Nd)} (hp : ∀ u r, pv u = some r → ∃ a, u = a ++ r ∧ Off a 1) :
    ∀ (k : Nat) (last : Option (List Nd)) (u r : List Nd), setLoop pv k last u = some r → ∃ a, u = a ++ r ∧ Off a k
  | 0, last, u, r, h => by
    simp only [setLoop, Option.some.injEq] at h
    subst h
    exact ⟨[], rfl, Off.nil⟩
  | k + 1, last, u, r, h => by
    simp only [setLoop] at h
    cases e : pv u with
    | none => rw [e] at h; cases h
    | some rest =>
      simp only [e] at h
      split at h
      · obtain ⟨a, rfl, ha⟩ := hp _ _ e
        obtain ⟨b, rfl, hb⟩ := setLoop_off hp k _ rest r h
        refine ⟨a ++ b, by simp, ?_⟩
        have := ha.append hb (by omega) (by omega)
        rw [show ((k + 1 : Nat) : Int) = 1 + (k : Int) by omega]; exact this
      · cases h
theorem recLoop_off {pv : List Nd → Option (List Nd)} (hp : ∀ u r, pv u = some r → ∃ a, u = a ++ r ∧ Off a 1) :
    ∀ (k : Nat) (last : ByteArray) (u r : List Nd), recLoop pv k last u = some r → ∃ a, u = a ++ r ∧ Off a k
  | 0, last, u, r, h => by
    simp only [recLoop, Option.some.injEq] at h
    subst h
    exact ⟨[], rfl, Off.nil⟩
  | k + 1, last, [], r, h => by simp [recLoop] at h
  | k + 1, last, x :: u, r, h => by
    simp only [recLoop] at h
    split at h
    · rename_i hx
      cases e : pv u with
      | none => rw [e] at h; cases h
      | some rest =>
        simp only [e] at h
        obtain ⟨a, rfl, ha⟩ := hp _ _ e
        obtain ⟨b, rfl, hb⟩ := recLoop_off hp k _ rest r h
        refine ⟨x :: a ++ b, by simp, ?_⟩
        have hxa : Off (x :: a) 1 := Off.cons (by simp [bel, hx.1]) ha (by omega) (by simp [bel, hx.1])
        have := hxa.append hb (by omega) (by omega)
        rw [show ((k + 1 : Nat) : Int) = 1 + (k : Int) by omega]; exact this
    · cases h

theorem ndOk_n {x : Nd} (h : ndOk x = true) (h5 : x.op = 5 ∨ x.op = 6) : 0 ≤ x.n := by
  unfold ndOk at h
  rcases h5 with e | e <;> simp [e] at h <;> exact h.2

theorem pastV_off : ∀ (f : Nat) (u r : List Nd), pastV f u = some r → ∃ a, u = a ++ r ∧ Off a 1
  | 0, u, r, h => by simp [pastV] at h
  | f + 1, [], r, h => by simp [pastV] at h
  | f + 1, x :: u, r, h => by
    simp only [pastV] at h
    split at h
    · rename_i hx
      split at h
      · rename_i h5
        obtain ⟨a, rfl, ha⟩ := setLoop_off (pastV_off f) _ _ _ _ h
        have hn := ndOk_n hx.2 (.inl h5)
        exact ⟨x :: a, rfl, Off.cons (by simp [bel, h5]; exact hn) ha (by omega) (by simp [bel, h5]; omega)⟩
      · split at h
        · rename_i h5 h6
          obtain ⟨a, rfl, ha⟩ := recLoop_off (pastV_off f) _ _ _ _ h
          have hn := ndOk_n hx.2 (.inr h6)
          exact ⟨x :: a, rfl, Off.cons (by simp [bel, h6]; exact hn) ha (by omega) (by simp [bel, h6]; omega)⟩
        · rename_i h5 h6
          simp only [Option.some.injEq] at h
          subst h
          exact ⟨[x], rfl, Off.cons (by simp [bel, h5, h6, hx.1]) Off.nil (by omega) (by simp [bel, h5, h6, hx.1])⟩
    · cases h

/-- What stands behind an item: a value, or a Field with its value. -/
def itemP (f : Nat) : List Nd → Option (List Nd)
  | [] => none
  | x :: r => if x.op = 7 then pastV f r else pastV f (x :: r)

theorem itemP_off {f : Nat} {u r : List Nd} (h : itemP f u = some r) : ∃ a, u = a ++ r ∧ Off a 1 ∧ a ≠ [] := by
  cases u with
  | nil => cases h
  | cons x u =>
    simp only [itemP] at h
    split at h
    · rename_i h7
      obtain ⟨a, rfl, ha⟩ := pastV_off f _ _ h
      exact ⟨x :: a, rfl, Off.cons (by simp [bel, h7]) ha (by omega) (by simp [bel, h7]), by simp⟩
    · obtain ⟨a, e, ha⟩ := pastV_off f _ _ h
      refine ⟨a, e, ha, fun e0 => ?_⟩
      subst e0
      have := (pastV_shorter h).1
      simp at e
      rw [← e] at this; simp at this

/-- A list falls into items. -/
inductive Segs (f : Nat) : List Nd → List (List Nd) → Prop
  | nil : Segs f [] []
  | cons {a r : List Nd} {ss : List (List Nd)} (h : itemP f (a ++ r) = some r) (hs : Segs f r ss) : Segs f (a ++ r) (a :: ss)

theorem setLoop_segs {f : Nat} : ∀ (k : Nat) (last : Option (List Nd)) (u : List Nd), setLoop (pastV f) k last u = some [] → ∃ ss, Segs f u ss ∧ ss.length = k ∧ ∀ s ∈ ss, ∃ x r, s = x :: r ∧ x.op ≠ 7
  | 0, last, u, h => by
    simp only [setLoop, Option.some.injEq] at h
    subst h
    exact ⟨[], .nil, rfl, by simp⟩
  | k + 1, last, u, h => by
    simp only [setLoop] at h
    cases e : pastV f u with
    | none => rw [e] at h; cases h
    | some rest =>
      simp only [e] at h
      split at h
      · obtain ⟨ss, h1, h2, h3⟩ := setLoop_segs k _ rest h
        obtain ⟨a, rfl, _⟩ := pastV_off f _ _ e
        have hl := (pastV_shorter e).1
        cases a with
        | nil => simp at hl
        | cons x a =>
          have h7 : x.op ≠ 7 := fun h7 => by
            cases f with
            | zero => simp [pastV] at e
            | succ f => simp [pastV, h7] at e
          refine ⟨(x :: a) :: ss, .cons (by simp only [List.cons_append, itemP, if_neg h7]; exact e) h1, by simp [h2], ?_⟩
          intro s hs
          rcases List.mem_cons.1 hs with rfl | hs
          · exact ⟨x, a, rfl, h7⟩
          · exact h3 s hs
      · cases h

/-- Fields in a row: the names rise. -/
inductive Rising : ByteArray → List (List Nd) → Prop
  | nil (l : ByteArray) : Rising l []
  | cons {l : ByteArray} {x : Nd} {r : List Nd} {ss : List (List Nd)} (h7 : x.op = 7) (hl : cmpB l x.s < 0) (hs : Rising x.s ss) : Rising l ((x :: r) :: ss)

theorem recLoop_segs {f : Nat} : ∀ (k : Nat) (last : ByteArray) (u : List Nd), recLoop (pastV f) k last u = some [] → ∃ ss, Segs f u ss ∧ ss.length = k ∧ Rising last ss
  | 0, last, u, h => by
    simp only [recLoop, Option.some.injEq] at h
    subst h
    exact ⟨[], .nil, rfl, .nil _⟩
  | k + 1, last, [], h => by simp [recLoop] at h
  | k + 1, last, x :: u, h => by
    simp only [recLoop] at h
    split at h
    · rename_i hx
      cases e : pastV f u with
      | none => rw [e] at h; cases h
      | some rest =>
        simp only [e] at h
        obtain ⟨ss, h1, h2, h3⟩ := recLoop_segs k _ rest h
        obtain ⟨a, rfl, _⟩ := pastV_off f _ _ e
        exact ⟨(x :: a) :: ss, .cons (a := x :: a) (by simp only [List.cons_append, itemP, if_pos hx.1]; exact e) h1, by simp [h2], .cons hx.1 hx.2.2 h3⟩
    · cases h

/-- A piece without its Field; its name. -/
def strip : List Nd → List Nd
  | [] => []
  | x :: r => if x.op = 7 then r else x :: r
def nameOf : List Nd → ByteArray
  | [] => ⟨#[]⟩
  | x :: _ => if x.op = 7 then x.s else ⟨#[]⟩
end Go.Proofs.YtgkbegomekhpcaaGreatDoor
namespace Go.Proofs.YtgkbegomekhpcaaGreatDoor
set_option linter.unusedVariables false

theorem isVal_past {v : List Nd} (h : vfault v = 0) : v.length ≤ 200 ∧ pastV (v.length + 1) v = some [] := by
  unfold vfault at h
  split at h
  · cases h
  · rename_i h1
    split at h
    · rename_i h2
      refine ⟨by omega, ?_⟩
      unfold isVal at h2
      cases e : pastV (v.length + 1) v with
      | none => rw [e] at h2; cases h2
      | some r =>
        rw [e] at h2
        cases r with
        | nil => rfl
        | cons y r => cases h2
    · cases h

theorem value_head {v : List Nd} (h : vfault v = 0) : ∃ x r, v = x :: r ∧ v.length ≤ 200 ∧ x.op ≠ 7 ∧ ndOk x = true ∧
    pastV (v.length + 1) v = (if x.op = 5 then setLoop (pastV v.length) x.n.toNat none r else if x.op = 6 then recLoop (pastV v.length) x.n.toNat ⟨#[]⟩ r else some r) := by
  obtain ⟨hl, hp⟩ := isVal_past h
  cases v with
  | nil => simp [pastV] at hp
  | cons x r =>
    have hp' := hp
    simp only [List.length_cons, pastV] at hp
    split at hp
    · rename_i hx
      refine ⟨x, r, rfl, hl, hx.1, hx.2, ?_⟩
      rw [hp']
      simp only [List.length_cons]
      exact hp.symm
    · cases hp

/-- A set falls into its parts. -/
theorem set_items {x : Nd} {r : List Nd} (h : vfault (x :: r) = 0) (h5 : x.op = 5) : ∃ ss, Segs (x :: r).length r ss ∧ ss.length = x.n.toNat ∧ ∀ s ∈ ss, ∃ y t, s = y :: t ∧ y.op ≠ 7 := by
  obtain ⟨_, _, e, _, _, _, hp⟩ := value_head h
  cases e
  rw [(isVal_past h).2, if_pos h5] at hp
  exact setLoop_segs _ _ _ hp.symm
/-- A record falls into Fields with their values, the names rising. -/
theorem rec_items {x : Nd} {r : List Nd} (h : vfault (x :: r) = 0) (h6 : x.op = 6) : ∃ ss, Segs (x :: r).length r ss ∧ ss.length = x.n.toNat ∧ Rising ⟨#[]⟩ ss := by
  obtain ⟨_, _, e, _, _, _, hp⟩ := value_head h
  cases e
  rw [(isVal_past h).2, if_neg (by omega), if_pos h6] at hp
  exact recLoop_segs _ _ _ hp.symm

theorem Segs.ne {f : Nat} {u : List Nd} {ss : List (List Nd)} (h : Segs f u ss) : ∀ s ∈ ss, s ≠ [] := by
  induction h with
  | nil => simp
  | cons h hs ih =>
    intro s hs'
    rcases List.mem_cons.1 hs' with rfl | hs'
    · obtain ⟨a', e, _, hne⟩ := itemP_off h
      obtain rfl := List.append_cancel_right e
      exact hne
    · exact ih s hs'
theorem Segs.short {f : Nat} {u : List Nd} {ss : List (List Nd)} (h : Segs f u ss) : ∀ s ∈ ss, s.length ≤ u.length := by
  induction h with
  | nil => simp
  | cons h hs ih =>
    intro s hs'
    rcases List.mem_cons.1 hs' with rfl | hs'
    · simp
    · have := ih s hs'; simp; omega
end Go.Proofs.YtgkbegomekhpcaaGreatDoor
namespace Go.Proofs.YtgkbegomekhpcaaGreatDoor
set_option linter.unusedVariables false

/-- A row of values; or, behind a name, one of fields whose names rise. -/
def okV : Option ByteArray → Tp → Prop
  | _, .nil => True
  | none, .cons y l r => (y.op ≠ 7 ∧ ndOk y = true ∧ (y.op = 5 ∧ l.len = y.n.toNat ∧ okV none l ∨ y.op = 6 ∧ l.len = y.n.toNat ∧ okV (some e0) l ∨ y.op ≠ 5 ∧ y.op ≠ 6 ∧ l = .nil)) ∧ okV none r
  | some m, .cons f lf r => (f.op = 7 ∧ ndOk f = true ∧ cmpB m f.s < 0) ∧ (lf.len = 1 ∧ okV none lf) ∧ okV (some f.s) r
theorem okV.none_iff {y : Nd} {l r : Tp} : okV none (.cons y l r) ↔ (y.op ≠ 7 ∧ ndOk y = true ∧ (y.op = 5 ∧ l.len = y.n.toNat ∧ okV none l ∨ y.op = 6 ∧ l.len = y.n.toNat ∧ okV (some e0) l ∨ y.op ≠ 5 ∧ y.op ≠ 6 ∧ l = .nil)) ∧ okV none r := by rw [okV]
theorem okV.some_iff {m : ByteArray} {f : Nd} {lf r : Tp} : okV (some m) (.cons f lf r) ↔ (f.op = 7 ∧ ndOk f = true ∧ cmpB m f.s < 0) ∧ (lf.len = 1 ∧ okV none lf) ∧ okV (some f.s) r := by rw [okV]
theorem okV.nil {m : Option ByteArray} : okV m .nil := by cases m <;> simp [okV]
theorem setV_tree {f : Nat} (h : ∀ v r, pastV f v = some r → ∃ x k, okV none (.cons x k .nil) ∧ v = x :: (k.flat ++ r)) : ∀ (n : Nat) (last : Option (List Nd)) (v r : List Nd), setLoop (pastV f) n last v = some r → ∃ t, t.len = n ∧ okV none t ∧ v = t.flat ++ r
  | 0, last, v, r, e => by simp only [setLoop, Option.some.injEq] at e; subst e; exact ⟨.nil, rfl, okV.nil, rfl⟩
  | n + 1, last, v, r, e => by
    simp only [setLoop] at e
    cases e1 : pastV f v with
    | none => rw [e1] at e; cases e
    | some s =>
      simp only [e1] at e
      split at e
      · obtain ⟨x, k, h3, rfl⟩ := h _ _ e1
        obtain ⟨t, h4, h5, rfl⟩ := setV_tree h n _ s r e
        obtain ⟨a, _⟩ := okV.none_iff.1 h3
        exact ⟨.cons x k t, by simp [Tp.len, h4], okV.none_iff.2 ⟨a, h5⟩, by simp [Tp.flat]⟩
      · cases e
theorem recV_tree {f : Nat} (h : ∀ v r, pastV f v = some r → ∃ x k, okV none (.cons x k .nil) ∧ v = x :: (k.flat ++ r)) : ∀ (n : Nat) (l : ByteArray) (v r : List Nd), recLoop (pastV f) n l v = some r → ∃ t, t.len = n ∧ okV (some l) t ∧ v = t.flat ++ r
  | 0, l, v, r, e => by simp only [recLoop, Option.some.injEq] at e; subst e; exact ⟨.nil, rfl, okV.nil, rfl⟩
  | n + 1, l, [], r, e => by simp [recLoop] at e
  | n + 1, l, y :: v, r, e => by
    simp only [recLoop] at e
    split at e
    · rename_i hy
      cases e1 : pastV f v with
      | none => rw [e1] at e; cases e
      | some s =>
        rw [e1] at e
        obtain ⟨x, k, h3, rfl⟩ := h _ _ e1
        obtain ⟨t, h4, h5, rfl⟩ := recV_tree h n _ s r e
        exact ⟨.cons y (.cons x k .nil) t, by simp [Tp.len, h4], okV.some_iff.2 ⟨hy, ⟨rfl, h3⟩, h5⟩, by simp [Tp.flat]⟩
    · cases e
theorem pastV_tree : ∀ (f : Nat) (v r : List Nd), pastV f v = some r → ∃ x k, okV none (.cons x k .nil) ∧ v = x :: (k.flat ++ r)
  | 0, v, r, h => by simp [pastV] at h
  | f + 1, [], r, h => by simp [pastV] at h
  | f + 1, x :: m, r, h => by
    simp only [pastV] at h
    split at h
    · rename_i c
      split at h
      · rename_i c5
        obtain ⟨t, h1, h2, rfl⟩ := setV_tree (pastV_tree f) _ _ _ _ h
        exact ⟨x, t, okV.none_iff.2 ⟨⟨c.1, c.2, .inl ⟨c5, h1, h2⟩⟩, okV.nil⟩, rfl⟩
      · rename_i c5
        split at h
        · rename_i c6
          obtain ⟨t, h1, h2, rfl⟩ := recV_tree (pastV_tree f) _ _ _ _ h
          exact ⟨x, t, okV.none_iff.2 ⟨⟨c.1, c.2, .inr (.inl ⟨c6, h1, h2⟩)⟩, okV.nil⟩, rfl⟩
        · rename_i c6
          simp only [Option.some.injEq] at h
          subst h
          exact ⟨x, .nil, okV.none_iff.2 ⟨⟨c.1, c.2, .inr (.inr ⟨c5, c6, rfl⟩)⟩, okV.nil⟩, rfl⟩
    · cases h
/-- What is a value is such a tree. -/
theorem val_treeK {v : List Nd} (h : vfault v = 0) : ∃ x k, okV none (.cons x k .nil) ∧ v = x :: k.flat ∧ k.flat.length + 1 ≤ 200 := by
  obtain ⟨h1, h2⟩ := isVal_past h
  obtain ⟨x, k, h3, h4⟩ := pastV_tree _ _ _ h2
  rw [List.append_nil] at h4
  exact ⟨x, k, h3, h4, by rw [h4] at h1; simpa using h1⟩
theorem okV.ar : ∀ {t : Tp} {m : Option ByteArray}, okV m t → arK t
  | .nil, _, _ => trivial
  | .cons x k r, none, h => by
    obtain ⟨⟨h7, hx, h⟩, hr⟩ := okV.none_iff.1 h
    rcases h with ⟨h5, hl, hk⟩ | ⟨h6, hl, hk⟩ | ⟨h5, h6, rfl⟩
    · exact ⟨by unfold cntK; rw [if_pos (by omega)]; exact hl.symm, okV.ar hk, okV.ar hr⟩
    · exact ⟨by unfold cntK; rw [if_pos (by omega)]; exact hl.symm, okV.ar hk, okV.ar hr⟩
    · refine ⟨?_, trivial, okV.ar hr⟩
      have : x.op = 1 ∨ x.op = 2 ∨ x.op = 3 ∨ x.op = 4 := by
        unfold ndOk at hx
        repeat' split at hx
        all_goals first | omega | cases hx
      unfold cntK
      rw [if_neg (by omega), if_neg (by omega)]; rfl
  | .cons x k r, some m, h => by
    obtain ⟨⟨h7, hx, hc⟩, ⟨hl, hk⟩, hr⟩ := okV.some_iff.1 h
    exact ⟨by unfold cntK; rw [if_neg (by omega), if_pos (by omega), hl]; rfl, okV.ar hk, okV.ar hr⟩
/-- Has a record all that must be? -/
def noMiss (l : Tp) : Tp → Bool
  | .nil => true
  | .cons f _ r => (decide (f.n ≠ 1) || (l.find f.s).isSome) && noMiss l r
/-- Have all values of a row a type (false); all fields of it those of a record's type (true)? -/
def hs : Bool → Tp → Tp → Bool
  | _, .nil, _ => true
  | false, .cons y l r, k => (match k with
    | .nil => false
    | .cons x m _ => if x.op = 48 then true else if x.op = 41 then decide (y.op = 1) else if x.op = 42 then decide (y.op = 2) else if x.op = 43 then decide (y.op = 3) else if x.op = 44 then decide (y.op = 4 ∧ y.s = x.s)
      else if x.op = 45 then decide (y.op = 5) && hs false l m else if x.op = 46 then decide (y.op = 6) && hs true l m && noMiss l m else false) && hs false r k
  | true, .cons f lf r, m => (match m.find f.s with | some (_, kg) => hs false lf kg | none => false) && hs true r m
theorem hs_cons (y x : Nd) (l r m s : Tp) : hs false (.cons y l r) (.cons x m s) = ((if x.op = 48 then true else if x.op = 41 then decide (y.op = 1) else if x.op = 42 then decide (y.op = 2) else if x.op = 43 then decide (y.op = 3) else if x.op = 44 then decide (y.op = 4 ∧ y.s = x.s)
      else if x.op = 45 then decide (y.op = 5) && hs false l m else if x.op = 46 then decide (y.op = 6) && hs true l m && noMiss l m else false) && hs false r (.cons x m s)) := by rw [hs]
theorem hs_flds (f : Nd) (lf r m : Tp) : hs true (.cons f lf r) m = ((match m.find f.s with | some (_, kg) => hs false lf kg | none => false) && hs true r m) := by rw [hs]
/-- The join of all. -/
def jall : Tp → Tp → Tp
  | acc, .nil => acc
  | acc, .cons x k r => jall (jn false acc (.cons x k .nil)) r
/-- The types of a row of values of their own (false); the fields of a record's (true). -/
def ow : Bool → Tp → Tp
  | _, .nil => .nil
  | true, .cons f lf r => .cons (fdN f.s 1) (ow false lf) (ow true r)
  | false, .cons y l r => if y.op = 1 then .cons (lfN 41) .nil (ow false r) else if y.op = 2 then .cons (lfN 42) .nil (ow false r) else if y.op = 3 then .cons (lfN 43) .nil (ow false r)
    else if y.op = 4 then .cons ⟨44, 0, y.s, e0⟩ .nil (ow false r) else if y.op = 5 then .cons (lfN 45) (jall (.cons (lfN 49) .nil .nil) (ow false l)) (ow false r) else .cons ⟨46, (ow true l).len, e0, e0⟩ (ow true l) (ow false r)
theorem ow_cons (y : Nd) (l r : Tp) : ow false (.cons y l r) = if y.op = 1 then .cons (lfN 41) .nil (ow false r) else if y.op = 2 then .cons (lfN 42) .nil (ow false r) else if y.op = 3 then .cons (lfN 43) .nil (ow false r)
    else if y.op = 4 then .cons ⟨44, 0, y.s, e0⟩ .nil (ow false r) else if y.op = 5 then .cons (lfN 45) (jall (.cons (lfN 49) .nil .nil) (ow false l)) (ow false r) else .cons ⟨46, (ow true l).len, e0, e0⟩ (ow true l) (ow false r) := by rw [ow]
theorem ow_flds (f : Nd) (lf r : Tp) : ow true (.cons f lf r) = .cons (fdN f.s 1) (ow false lf) (ow true r) := by rw [ow]
/-- All of a row are below it. -/
def AllLe (c : Tp) : Tp → Prop
  | .nil => True
  | .cons x k r => Le (.cons x k .nil) c ∧ AllLe c r
theorem jall_ok {c : Tp} (hc : T1 c) : ∀ (t acc : Tp), isTy none t = true → T1 acc → T1 (jall acc t) ∧ (Le (jall acc t) c ↔ Le acc c ∧ AllLe c t)
  | .nil, acc, _, ha => ⟨ha, by simp [jall, AllLe]⟩
  | .cons x k r, acc, ht, ha => by
    obtain ⟨h1, h2⟩ := isTy_none_cons.1 ht
    have hx := T1.iff.2 h1
    obtain ⟨h3, h4⟩ := jall_ok hc r _ h2 (ha.jn hx)
    exact ⟨h3, by rw [jall, h4, jn_le_iff ha hx hc, AllLe, and_assoc]⟩
theorem T1.none : T1 (.cons (lfN 49) .nil .nil) := T1.iff.2 (.leaf 49 (by omega))
theorem ow_find {s : ByteArray} : ∀ {t : Tp}, (ow true t).find s = (t.find s).map (fun p => (fdN s 1, ow false p.2))
  | .nil => by simp [ow, Tp.find]
  | .cons f lf r => by
    rw [ow_flds, Tp.find, Tp.find, ow_find (t := r)]
    show (if f.s = s then _ else _) = _
    by_cases c : f.s = s
    · rw [if_pos c, if_pos c, c]; rfl
    · rw [if_neg c, if_neg c]
theorem noMiss_ow (l : Tp) : ∀ (m : Tp), noMiss l m = musts (ow true l) m
  | .nil => rfl
  | .cons f kf r => by
    rw [noMiss, musts, noMiss_ow l r, ow_find]
    cases l.find f.s <;> simp [fdN]
theorem AllLe.one {c t : Tp} (h : t.len = 1) : AllLe c t ↔ Le t c := by
  obtain ⟨x, k, rfl⟩ := tp_len1 h
  simp [AllLe]
/-- Each value has just the types that are above its own. -/
theorem ow_ok : ∀ (t : Tp), (okV none t → isTy none (ow false t) = true ∧ (ow false t).len = t.len ∧ ∀ c, T1 c → (hs false t c = true ↔ AllLe c (ow false t))) ∧ (∀ m, okV (some m) t → Fl m (ow true t) ∧ (ow true t).len = t.len ∧ ∀ a c, Fl a c → hs true t c = blw true (ow true t) c)
  | .nil => ⟨fun _ => ⟨rfl, rfl, fun c _ => by simp [hs, ow, AllLe]⟩, fun m _ => ⟨by simp [Fl, isTy, ow], rfl, fun a c _ => by simp [hs, ow, blw]⟩⟩
  | .cons y l r => by
    refine ⟨fun h => ?_, fun m h => ?_⟩
    · obtain ⟨⟨h7, hy, hl⟩, hr⟩ := okV.none_iff.1 h
      obtain ⟨r1, r2, r3⟩ := (ow_ok r).1 hr
      have key : ∀ (x : Nd) (k : Tp), ow false (.cons y l r) = .cons x k (ow false r) → TyC x k → (∀ c, T1 c → (hs false (.cons y l .nil) c = true ↔ Le (.cons x k .nil) c)) → isTy none (ow false (.cons y l r)) = true ∧ (ow false (.cons y l r)).len = (Tp.cons y l r).len ∧ ∀ c, T1 c → (hs false (.cons y l r) c = true ↔ AllLe c (ow false (.cons y l r))) := by
        intro x k e hx hc
        rw [e]
        refine ⟨isTy_none_cons.2 ⟨hx, r1⟩, by simp [Tp.len, r2], fun c hT => ?_⟩
        rw [AllLe, ← hc c hT, ← r3 c hT]
        obtain ⟨z, q, rfl, _⟩ := hT.of
        rw [hs_cons, hs_cons, Bool.and_eq_true, Bool.and_eq_true]
        simp [hs]
      rcases hl with ⟨h5, hn, hk⟩ | ⟨h6, hn, hk⟩ | ⟨h5, h6, rfl⟩
      · obtain ⟨l1, l2, l3⟩ := (ow_ok l).1 hk
        have hj := fun c hc => jall_ok (c := c) hc (ow false l) (.cons (lfN 49) .nil .nil) l1 T1.none
        refine key (lfN 45) (jall (.cons (lfN 49) .nil .nil) (ow false l)) (by rw [ow_cons, if_neg (by omega), if_neg (by omega), if_neg (by omega), if_neg (by omega), if_pos h5]) (.set _ (hj _ T1.none).1) (fun c hT => ?_)
        obtain ⟨z, q, rfl, hz⟩ := hT.of
        rw [hs_cons, Bool.and_eq_true]
        unfold Le
        cases hz with
        | leaf op ho =>
          rw [blw_cons]
          simp only [lfN, hs, and_true]
          rcases ho with rfl | rfl | rfl | rfl | rfl <;> simp [h5]
        | ent s hs' => rw [blw_cons]; simp [lfN, h5]
        | set q hq =>
          rw [blw_sets]
          have := (hj q hq).2
          rw [← l3 q hq] at this
          unfold Le at this
          have e : blw false (.cons (lfN 49) .nil .nil) q = true := blw_none hq _ _
          rw [this, e]
          simp [lfN, h5, hs]
        | rcd q hq => rw [blw_cons]; simp [lfN, h5]
      · obtain ⟨l1, l2, l3⟩ := (ow_ok l).2 _ hk
        refine key ⟨46, (ow true l).len, e0, e0⟩ (ow true l) (by rw [ow_cons, if_neg (by omega), if_neg (by omega), if_neg (by omega), if_neg (by omega), if_neg (by omega)]) (.rcd _ l1) (fun c hT => ?_)
        obtain ⟨z, q, rfl, hz⟩ := hT.of
        rw [hs_cons, Bool.and_eq_true]
        unfold Le
        cases hz with
        | leaf op ho =>
          rw [blw_cons]
          simp only [lfN, hs, and_true]
          rcases ho with rfl | rfl | rfl | rfl | rfl <;> simp [h6]
        | ent s hs' => rw [blw_cons]; simp [h6]
        | set q hq => rw [blw_cons]; simp [lfN, h6]
        | rcd q hq =>
          rw [blw_rcds, ← l3 e0 q hq, ← noMiss_ow]
          simp [h6, hs]
      · have ho : y.op = 1 ∨ y.op = 2 ∨ y.op = 3 ∨ y.op = 4 := by
          unfold ndOk at hy
          repeat' split at hy
          all_goals first | omega | cases hy
        have hs0 : ∀ c, hs false (.nil) c = true := fun c => by rw [hs]
        by_cases h4 : y.op = 4
        · have hnf : nfault y.s.data.toList = 0 := by
            unfold ndOk at hy
            rw [if_neg (by omega), if_neg (by omega), if_neg (by omega), if_pos h4] at hy
            simp only [Bool.and_eq_true, beq_iff_eq] at hy
            exact hy.1.2
          refine key ⟨44, 0, y.s, e0⟩ .nil (by rw [ow_cons, if_neg (by omega), if_neg (by omega), if_neg (by omega), if_pos h4]) (.ent _ hnf) (fun c hT => ?_)
          obtain ⟨z, q, rfl, hz⟩ := hT.of
          rw [hs_cons, Bool.and_eq_true]
          simp only [hs0, and_true]
          unfold Le
          rw [blw_cons]
          cases hz with
          | leaf op ho =>
            simp only [lfN]
            rcases ho with rfl | rfl | rfl | rfl | rfl <;> simp [h4]
          | ent s hs' => simp [h4, ndEq]
          | set q hq => simp [lfN, h4]
          | rcd q hq => simp [h4]
        · refine key (lfN (y.op + 40)) .nil (by rw [ow_cons]; rcases ho with e | e | e | e <;> simp [e] <;> omega) (.leaf _ (by omega)) (fun c hT => ?_)
          obtain ⟨z, q, rfl, hz⟩ := hT.of
          rw [hs_cons, Bool.and_eq_true]
          simp only [hs0, and_true]
          unfold Le
          rw [blw_cons]
          cases hz with
          | leaf op hp =>
            rcases ho with e | e | e | e
            · rcases hp with rfl | rfl | rfl | rfl | rfl <;> simp [e, lfN, ndEq]
            · rcases hp with rfl | rfl | rfl | rfl | rfl <;> simp [e, lfN, ndEq]
            · rcases hp with rfl | rfl | rfl | rfl | rfl <;> simp [e, lfN, ndEq]
            · exact absurd e h4
          | ent s hs' =>
            rcases ho with e | e | e | e
            · simp [e, lfN]
            · simp [e, lfN]
            · simp [e, lfN]
            · exact absurd e h4
          | set q hq => rcases ho with e | e | e | e <;> simp [e, lfN]
          | rcd q hq => rcases ho with e | e | e | e <;> simp [e, lfN]
    · obtain ⟨⟨h7, hy, hc⟩, ⟨hl, hk⟩, hr⟩ := okV.some_iff.1 h
      obtain ⟨r1, r2, r3⟩ := (ow_ok r).2 _ hr
      obtain ⟨l1, l2, l3⟩ := (ow_ok l).1 hk
      have hnf : nfault y.s.data.toList = 0 := by
        unfold ndOk at hy
        rw [if_neg (by omega), if_neg (by omega), if_neg (by omega), if_neg (by omega), if_neg (by omega), if_pos h7] at hy
        simp only [Bool.and_eq_true, beq_iff_eq] at hy
        exact hy.2
      rw [ow_flds]
      refine ⟨Fl.cons_iff.2 ⟨⟨rfl, .inr rfl, rfl, hnf, hc⟩, ⟨l2.trans hl, l1⟩, r1⟩, by simp [Tp.len, r2], fun a c hF => ?_⟩
      rw [hs_flds, blw_flds, r3 a c hF]
      congr 1
      show _ = (match c.find y.s with | some (_, kg) => blw false (ow false l) kg | none => false)
      cases e : c.find y.s with
      | none => rfl
      | some p =>
        have := l3 p.2 (hF.find (f := p.1) e).2.2.2.2
        rw [AllLe.one (l2.trans hl)] at this
        exact Bool.eq_iff_iff.2 this
/-- A value's own type, and what it has. -/
theorem own_ok {y : Nd} {l : Tp} (h : okV none (.cons y l .nil)) : T1 (ow false (.cons y l .nil)) ∧ ∀ c, T1 c → (hs false (.cons y l .nil) c = true ↔ Le (ow false (.cons y l .nil)) c) := by
  obtain ⟨h1, h2, h3⟩ := (ow_ok _).1 h
  exact ⟨⟨h2, h1⟩, fun c hc => by rw [h3 c hc, AllLe.one h2]⟩
end Go.Proofs.YtgkbegomekhpcaaGreatDoor
namespace Go.Proofs.YtgkbegomekhpcaaGreatDoor

theorem asc_unique {α : Type} {c : α → α → Int} (hc : IsCmp c) : ∀ (l m : List α), l.Pairwise (fun x y => c x y < 0) → m.Pairwise (fun x y => c x y < 0) → (∀ x, x ∈ l ↔ x ∈ m) → l = m
  | [], [], _, _, _ => rfl
  | [], y :: m, _, _, h => by have := (h y).2 (by simp); cases this
  | x :: l, [], _, _, h => by have := (h x).1 (by simp); cases this
  | x :: l, y :: m, hl, hm, h => by
    obtain ⟨l1, l2⟩ := List.pairwise_cons.1 hl
    obtain ⟨m1, m2⟩ := List.pairwise_cons.1 hm
    have irr : ∀ z, ¬ c z z < 0 := fun z hz => by rw [hc.self] at hz; omega
    have asym : ∀ a b, c a b < 0 → ¬ c b a < 0 := fun a b h1 h2 => by rw [hc.neg] at h1; omega
    have exy : x = y := by
      rcases List.mem_cons.1 ((h x).1 (by simp)) with e | hx
      · exact e
      · rcases List.mem_cons.1 ((h y).2 (by simp)) with e | hy
        · exact e.symm
        · exact absurd (m1 x hx) (asym _ _ (l1 y hy))
    subst exy
    rw [asc_unique hc l m l2 m2 (fun z => ⟨fun hz => by
      rcases List.mem_cons.1 ((h z).1 (by simp [hz])) with e | hz'
      · subst e; exact absurd (l1 _ hz) (irr _)
      · exact hz', fun hz => by
      rcases List.mem_cons.1 ((h z).2 (by simp [hz])) with e | hz'
      · subst e; exact absurd (m1 _ hz) (irr _)
      · exact hz'⟩)]
end Go.Proofs.YtgkbegomekhpcaaGreatDoor
namespace Go.Proofs.YtgkbegomekhpcaaGreatDoor
set_option linter.unusedVariables false

/-- What is asked for: kinds with the types of their records, who, what, and the context's type. -/
structure CK where
  ks : List (ByteArray × Tp)
  who : ByteArray
  what : ByteArray
  cx : Tp
/-- An expression has a name. -/
abbrev FactC := List Nd × ByteArray
def leafT (op : Int) : Tp := .cons (lfN op) .nil .nil
def entT (s : ByteArray) : Tp := .cons ⟨44, 0, s, e0⟩ .nil .nil
def fitT (t : Tp) : Except Int Tp := if t.flat.length ≤ 200 then .ok t else .error 4
/-- The join of all, one by one: none is too great. -/
def jallE : Tp → Tp → Except Int Tp
  | acc, .nil => .ok acc
  | acc, .cons x k r => if (jn false acc (.cons x k .nil)).flat.length ≤ 200 then jallE (jn false acc (.cons x k .nil)) r else .error 4
def namedT (C : CK) (s : ByteArray) : Except Int Tp :=
  if s = "principal".toUTF8 then .ok (entT C.who) else if s = "action".toUTF8 then .ok (entT "Action".toUTF8) else if s = "resource".toUTF8 then .ok (entT C.what) else if s = "context".toUTF8 then .ok C.cx else .error 3
def fieldT (m : Tp) (s : ByteArray) (sure : Bool) : Except Int Tp := match m.find s with
  | some (f, kf) => if f.n = 1 ∨ sure = true then .ok kf else .error 3
  | none => .error 3
def attT (C : CK) (s : ByteArray) : Option Tp := (C.ks.find? (fun p => decide (p.1 = s))).map Prod.snd
def getT (C : CK) (s : ByteArray) (sure : Bool) : Tp → Except Int Tp
  | .nil => .error 2
  | .cons x k _ => if x.op = 49 then .ok (.cons x k .nil) else if x.op = 46 then fieldT k s sure else if x.op = 44 then (match attT C x.s with
    | some (.cons _ m _) => fieldT m s sure
    | _ => .error 3) else .error 2
/-- What is known where this is true, too. -/
def whereF : Tp → List FactC → List FactC
  | .nil, K => K
  | .cons x k r, K => whereF r (if x.op = 21 then (k.flat, x.s) :: K else if x.op = 11 then whereF k K else K)
def fromT (C : CK) (x : Nd) (K : List FactC) (k ks : Tp) : Except Int Tp :=
  if x.op = 2 ∨ x.op = 10 ∨ (17 ≤ x.op ∧ x.op ≤ 19) then .ok (leafT 42)
  else if x.op = 3 then .ok (leafT 43)
  else if x.op = 4 then .ok (entT x.s)
  else if x.op = 5 then (match jallE (leafT 49) ks with | .ok j => fitT (.cons (lfN 45) j .nil) | .error n => .error n)
  else if x.op = 6 then fitT (.cons ⟨46, x.n, e0, e0⟩ ks .nil)
  else if x.op = 7 then .ok (.cons (fdN x.s 1) ks .nil)
  else if x.op = 8 then namedT C x.s
  else if x.op = 13 then (match ks with
    | .cons _ _ (.cons y l (.cons z m _)) => fitT (jn false (.cons y l .nil) (.cons z m .nil))
    | _ => .error 2)
  else if x.op = 22 then getT C x.s (K.any fun f => decide (f.2 = x.s ∧ lsC f.1 k.flat = 0)) ks
  else .ok (leafT 41)
def areT (a b : Int) : Tp → Bool
  | .nil => true
  | .cons x _ r => decide (x.op = 49 ∨ x.op = a ∨ x.op = b) && areT a b r
def headT (a : Int) : Tp → Bool
  | .nil => false
  | .cons x _ _ => decide (x.op = 49 ∨ x.op = a)
def entsT : Tp → Bool
  | .cons _ _ (.cons x k _) => headT 44 (.cons x k .nil) || decide (x.op = 45) && headT 44 k
  | _ => false
def fitsT (op : Int) (ks : Tp) : Bool :=
  if op = 9 ∨ op = 11 ∨ op = 12 then areT 41 41 ks
  else if op = 10 ∨ (15 ≤ op ∧ op ≤ 19) then areT 42 42 ks
  else if op = 23 then areT 43 43 ks
  else if op = 24 then areT 44 44 ks
  else if op = 21 then areT 46 44 ks
  else if op = 26 ∨ op = 27 then areT 45 45 ks
  else if op = 13 then headT 41 ks
  else if op = 25 then headT 45 ks
  else if op = 20 then headT 44 ks && entsT ks
  else true
/-- The types of a row of parts, or the error that is met first: K0 is known about the whole, K in the first of the row; behind the first part of And and If it is known, too. -/
def tyR (C : CK) : Bool → List FactC → List FactC → Tp → Except Int Tp
  | _, _, _, .nil => .ok .nil
  | fl, K0, K, .cons x k r =>
    match tyR C (decide (x.op = 11 ∨ x.op = 13)) K K k with
    | .error n => .error n
    | .ok ks => match fromT C x K k ks with
      | .error n => .error n
      | .ok t => if fitsT x.op ks then (match tyR C false K0 (if fl then whereF (.cons x k .nil) K0 else K0) r with
          | .error n => .error n
          | .ok rs => .ok (t.app rs)) else .error 2
theorem tyR_cons (C : CK) (fl : Bool) (K0 K : List FactC) (x : Nd) (k r : Tp) : tyR C fl K0 K (.cons x k r) = match tyR C (decide (x.op = 11 ∨ x.op = 13)) K K k with
    | .error n => .error n
    | .ok ks => match fromT C x K k ks with
      | .error n => .error n
      | .ok t => if fitsT x.op ks then (match tyR C false K0 (if fl then whereF (.cons x k .nil) K0 else K0) r with
          | .error n => .error n
          | .ok rs => .ok (t.app rs)) else .error 2 := by rw [tyR]
theorem tyR_nil (C : CK) (fl : Bool) (K0 K : List FactC) : tyR C fl K0 K .nil = .ok .nil := by rw [tyR]
theorem jallE_or : ∀ (t acc : Tp), jallE acc t = .ok (jall acc t) ∨ jallE acc t = .error 4
  | .nil, acc => .inl rfl
  | .cons x k r, acc => by
    rw [jallE, jall]
    split
    · exact jallE_or r _
    · exact .inr rfl
theorem fitsT_val {op : Int} (h : 1 ≤ op ∧ op ≤ 7) (ks : Tp) : fitsT op ks = true := by
  unfold fitsT
  rw [if_neg (by omega), if_neg (by omega), if_neg (by omega), if_neg (by omega), if_neg (by omega), if_neg (by omega), if_neg (by omega), if_neg (by omega), if_neg (by omega)]
theorem nd_val {y : Nd} (h : ndOk y = true) : 1 ≤ y.op ∧ y.op ≤ 7 := by
  unfold ndOk at h
  repeat' split at h
  all_goals first | omega | cases h
theorem nd_rec {y : Nd} (h : ndOk y = true) (h6 : y.op = 5 ∨ y.op = 6) : 0 ≤ y.n := by
  unfold ndOk at h
  rcases h6 with h6 | h6 <;> simp [h6] at h <;> omega
/-- A value's type is its own, where none is too great. -/
theorem tyV : ∀ (t : Tp), (okV none t → ∀ C fl K0 K, tyR C fl K0 K t = .ok (ow false t) ∨ tyR C fl K0 K t = .error 4) ∧ (∀ m, okV (some m) t → ∀ C fl K0 K, tyR C fl K0 K t = .ok (ow true t) ∨ tyR C fl K0 K t = .error 4)
  | .nil => ⟨fun _ C fl K0 K => .inl (by rw [tyR_nil, ow]), fun m _ C fl K0 K => .inl (by rw [tyR_nil, ow])⟩
  | .cons x k r => by
    have ihk := tyV k
    have ihr := tyV r
    have fin : ∀ (C : CK) (fl : Bool) (K0 K : List FactC) (ks t : Tp) (b : Bool), 1 ≤ x.op ∧ x.op ≤ 7 → tyR C (decide (x.op = 11 ∨ x.op = 13)) K K k = .ok ks → (fromT C x K k ks = .ok t ∨ fromT C x K k ks = .error 4) → (∀ C fl K0 K, tyR C fl K0 K r = .ok (ow b r) ∨ tyR C fl K0 K r = .error 4) → tyR C fl K0 K (.cons x k r) = .ok (t.app (ow b r)) ∨ tyR C fl K0 K (.cons x k r) = .error 4 := by
      intro C fl K0 K ks t b ho h1 h2 h3
      rw [tyR_cons, h1]
      rcases h2 with h2 | h2
      · simp only [h2, fitsT_val ho, if_true]
        rcases h3 C false K0 (if fl then whereF (.cons x k .nil) K0 else K0) with h3 | h3
        · exact .inl (by rw [h3])
        · exact .inr (by rw [h3])
      · exact .inr (by simp only [h2])
    have bad : ∀ (C : CK) (fl : Bool) (K0 K : List FactC), tyR C (decide (x.op = 11 ∨ x.op = 13)) K K k = .error 4 → tyR C fl K0 K (.cons x k r) = .error 4 := by
      intro C fl K0 K h1
      rw [tyR_cons, h1]
    refine ⟨fun h C fl K0 K => ?_, fun m h C fl K0 K => ?_⟩
    · obtain ⟨⟨h7, hx, hw⟩, hr⟩ := okV.none_iff.1 h
      have ho := nd_val hx
      rcases hw with ⟨h5, hl, hk⟩ | ⟨h6, hl, hk⟩ | ⟨h5, h6, rfl⟩
      · rcases ihk.1 hk C (decide (x.op = 11 ∨ x.op = 13)) K K with h1 | h1
        · rw [ow_cons, if_neg (by omega), if_neg (by omega), if_neg (by omega), if_neg (by omega), if_pos h5]
          refine fin C fl K0 K _ (.cons (lfN 45) (jall (leafT 49) (ow false k)) .nil) false ho h1 ?_ (ihr.1 hr)
          unfold fromT
          rw [if_neg (by omega), if_neg (by omega), if_neg (by omega), if_pos h5]
          rcases jallE_or (ow false k) (leafT 49) with h2 | h2
          · rw [h2]; simp only []; unfold fitT; split
            · exact .inl rfl
            · exact .inr rfl
          · rw [h2]; exact .inr rfl
        · exact .inr (bad C fl K0 K h1)
      · rcases ihk.2 _ hk C (decide (x.op = 11 ∨ x.op = 13)) K K with h1 | h1
        · rw [ow_cons, if_neg (by omega), if_neg (by omega), if_neg (by omega), if_neg (by omega), if_neg (by omega)]
          refine fin C fl K0 K _ (.cons ⟨46, (ow true k).len, e0, e0⟩ (ow true k) .nil) false ho h1 ?_ (ihr.1 hr)
          unfold fromT
          rw [if_neg (by omega), if_neg (by omega), if_neg (by omega), if_neg (by omega), if_pos h6]
          have hn : ((ow true k).len : Int) = x.n := by
            rw [((ow_ok k).2 _ hk).2.1, hl]
            have := nd_rec hx (.inr h6)
            omega
          rw [← hn]
          unfold fitT; split
          · exact .inl rfl
          · exact .inr rfl
        · exact .inr (bad C fl K0 K h1)
      · have h1 : tyR C (decide (x.op = 11 ∨ x.op = 13)) K K .nil = .ok .nil := tyR_nil _ _ _ _
        have hc : x.op = 1 ∨ x.op = 2 ∨ x.op = 3 ∨ x.op = 4 := by omega
        rw [ow_cons]
        rcases hc with e | e | e | e
        · rw [if_pos e]
          exact fin C fl K0 K _ (leafT 41) false ho h1 (.inl (by unfold fromT; rw [if_neg (by omega), if_neg (by omega), if_neg (by omega), if_neg (by omega), if_neg (by omega), if_neg (by omega), if_neg (by omega), if_neg (by omega), if_neg (by omega)])) (ihr.1 hr)
        · rw [if_neg (by omega), if_pos e]
          exact fin C fl K0 K _ (leafT 42) false ho h1 (.inl (by unfold fromT; rw [if_pos (by omega)])) (ihr.1 hr)
        · rw [if_neg (by omega), if_neg (by omega), if_pos e]
          exact fin C fl K0 K _ (leafT 43) false ho h1 (.inl (by unfold fromT; rw [if_neg (by omega), if_pos e])) (ihr.1 hr)
        · rw [if_neg (by omega), if_neg (by omega), if_neg (by omega), if_pos e]
          exact fin C fl K0 K _ (entT x.s) false ho h1 (.inl (by unfold fromT; rw [if_neg (by omega), if_neg (by omega), if_pos e])) (ihr.1 hr)
    · obtain ⟨⟨h7, hx, hc⟩, ⟨hl, hk⟩, hr⟩ := okV.some_iff.1 h
      have ho := nd_val hx
      rcases ihk.1 hk C (decide (x.op = 11 ∨ x.op = 13)) K K with h1 | h1
      · rw [ow_flds]
        exact fin C fl K0 K _ (.cons (fdN x.s 1) (ow false k) .nil) true ho h1 (.inl (by unfold fromT; rw [if_neg (by omega), if_neg (by omega), if_neg (by omega), if_neg (by omega), if_neg (by omega), if_pos h7])) (ihr.2 _ hr)
      · exact .inr (bad C fl K0 K h1)
end Go.Proofs.YtgkbegomekhpcaaGreatDoor
namespace Go.Proofs.YtgkbegomekhpcaaGreatDoor
set_option linter.unusedVariables false

theorem find_appK {s : ByteArray} : ∀ {p r : Tp}, p.find s = none → (p.app r).find s = r.find s
  | .nil, r, _ => rfl
  | .cons f kf q, r, h => by
    rw [Tp.find] at h
    split at h
    · cases h
    · rename_i e
      rw [Tp.app, find_ne e]
      exact find_appK h
theorem find_app_some {s : ByteArray} {f : Nd} {kf : Tp} : ∀ {p r : Tp}, p.find s = some (f, kf) → (p.app r).find s = some (f, kf)
  | .nil, r, h => by simp [Tp.find] at h
  | .cons g kg q, r, h => by
    rw [Tp.find] at h
    rw [Tp.app, Tp.find]
    split at h
    · rename_i e; rw [if_pos e]; exact h
    · rename_i e; rw [if_neg e]; exact find_app_some h
theorem find_snoc {s : ByteArray} {p : Tp} {g : Nd} {kg : Tp} (h : p.find s = none) (hs : g.s ≠ s) : (p.app (.cons g kg .nil)).find s = none := by
  rw [find_appK h, find_ne hs]; rfl
theorem find_split {s : ByteArray} {f : Nd} {kf : Tp} : ∀ {t : Tp}, t.find s = some (f, kf) → ∃ p r : Tp, t = p.app (.cons f kf r) ∧ p.find s = none
  | .nil, h => by simp [Tp.find] at h
  | .cons g kg q, h => by
    rw [Tp.find] at h
    split at h
    · simp only [Option.some.injEq, Prod.mk.injEq] at h
      obtain ⟨rfl, rfl⟩ := h
      exact ⟨.nil, q, rfl, rfl⟩
    · rename_i e
      obtain ⟨p, r, h1, h2⟩ := find_split h
      exact ⟨.cons g kg p, r, by rw [h1]; rfl, by rw [find_ne e]; exact h2⟩
theorem rest_cons {p r k : Tp} (h : k = p.app r) (hl : p.len < k.len) : ∃ f kf q, r = .cons f kf q := by
  cases r with
  | nil => rw [h, tp_app_nil] at hl; omega
  | cons f kf q => exact ⟨f, kf, q, rfl⟩
theorem rest_nil {p r k : Tp} (h : k = p.app r) (hl : ¬ p.len < k.len) : r = .nil := by
  have := congrArg Tp.len h
  rw [tp_app_len] at this
  exact tp_len0 (by omega)
theorem step_app {p r : Tp} {f : Nd} {kf : Tp} : p.app (.cons f kf r) = (p.app (.cons f kf .nil)).app r := by rw [tp_app_assoc]; rfl
theorem snoc_len {p : Tp} {f : Nd} {kf : Tp} : (p.app (.cons f kf .nil)).len = p.len + 1 := by rw [tp_app_len]; rfl
theorem snoc_flat {p : Tp} {f : Nd} {kf : Tp} : (p.app (.cons f kf .nil)).flat.length = p.flat.length + (1 + kf.flat.length) := by
  rw [tp_app_flat]; simp [Tp.flat]; omega
/-- Where they begin. -/
def offs : Tp → Nat → List Nat
  | .nil, _ => []
  | .cons _ k r, a => a :: offs r (a + (1 + k.flat.length))
theorem offs_length : ∀ (t : Tp) (a : Nat), (offs t a).length = t.len
  | .nil, _ => rfl
  | .cons x k r, a => by simp [offs, Tp.len, offs_length r]
theorem offs_app : ∀ (p r : Tp) (a : Nat), offs (p.app r) a = offs p a ++ offs r (a + p.flat.length)
  | .nil, r, a => by simp [offs, Tp.app, Tp.flat]
  | .cons x k q, r, a => by
    simp only [offs, Tp.app, Tp.flat, List.cons_append, offs_app q r, List.length_cons, List.length_append]
    rw [show a + (1 + k.flat.length) + q.flat.length = a + (k.flat.length + q.flat.length + 1) by omega]
theorem offs_at {p r k : Tp} {f : Nd} {kf : Tp} (h : k = p.app (.cons f kf r)) (a : Nat) : (offs k a)[p.len]? = some (a + p.flat.length) := by
  rw [h, offs_app, List.getElem?_append_right (by rw [offs_length]; exact Nat.le_refl _), offs_length]
  simp [offs]
theorem offs_snoc (p : Tp) (f : Nd) (kf : Tp) (a : Nat) : offs (p.app (.cons f kf .nil)) a = offs p a ++ [a + p.flat.length] := by rw [offs_app]; rfl
/-- A field where it lies. -/
theorem drop_field {x f : Nd} {k p kf r : Tp} (h : k = p.app (.cons f kf r)) : (x :: k.flat).drop (1 + p.flat.length) = f :: (kf.flat ++ r.flat) := by
  rw [h, tp_app_flat, Nat.add_comm, List.drop_succ_cons, List.drop_left]
  rfl
theorem field_len {f : Nd} {k p kf r : Tp} (h : k = p.app (.cons f kf r)) : k.flat.length = p.flat.length + (1 + kf.flat.length) + r.flat.length := by
  rw [h, tp_app_flat]; simp [Tp.flat]; omega
theorem Fl.mid {l : ByteArray} : ∀ {p : Tp} {f : Nd} {kf r : Tp}, Fl l (p.app (.cons f kf r)) → f = fdN f.s f.n ∧ (f.n = 0 ∨ f.n = 1) ∧ nfault f.s.data.toList = 0 ∧ T1 kf
  | .nil, f, kf, r, h => by
    obtain ⟨⟨h1, h2, h3, h4, h5⟩, h6, h7⟩ := Fl.cons_iff.1 h
    obtain ⟨o, n, s, t⟩ := f
    simp only at h1 h3
    subst h1 h3
    exact ⟨rfl, h2, h4, h6⟩
  | .cons g kg q, f, kf, r, h => by
    obtain ⟨_, _, h7⟩ := Fl.cons_iff.1 h
    exact Fl.mid (p := q) h7
theorem Fl.mid_find {l : ByteArray} {p : Tp} {f : Nd} {kf r : Tp} (h : Fl l (p.app (.cons f kf r))) : (p.app (.cons f kf r)).find f.s = some (f, kf) := by
  induction p generalizing l with
  | nil => exact Fl.find_head
  | cons g kg q _ ih =>
    obtain ⟨_, _, h7⟩ := Fl.cons_iff.1 h
    exact Fl.find_tail h (ih h7)
theorem blw_app {l : Tp} : ∀ {p r : Tp}, blw true (p.app r) l = (blw true p l && blw true r l)
  | .nil, r => by simp [Tp.app, blw]
  | .cons f kf q, r => by rw [Tp.app, blw_flds, blw_flds, blw_app (p := q), Bool.and_assoc]
theorem musts_app {k : Tp} : ∀ {p r : Tp}, musts k (p.app r) = (musts k p && musts k r)
  | .nil, r => by simp [Tp.app, musts]
  | .cons f kf q, r => by rw [Tp.app, musts, musts, musts_app (p := q), Bool.and_assoc]
theorem hsF_app {m : Tp} : ∀ {p r : Tp}, hs true (p.app r) m = (hs true p m && hs true r m)
  | .nil, r => by simp [Tp.app, hs]
  | .cons f kf q, r => by rw [Tp.app, hs_flds, hs_flds, hsF_app (p := q), Bool.and_assoc]
theorem noMiss_app {l : Tp} : ∀ {p r : Tp}, noMiss l (p.app r) = (noMiss l p && noMiss l r)
  | .nil, r => by simp [Tp.app, noMiss]
  | .cons f kf q, r => by rw [Tp.app, noMiss, noMiss, noMiss_app (p := q), Bool.and_assoc]
end Go.Proofs.YtgkbegomekhpcaaGreatDoor
namespace Go.Proofs.YtgkbegomekhpcaaGreatDoor
set_option linter.unusedVariables false

/-- Each ahead of all behind it. -/
def Strict (l : List (List Nd)) : Prop := l.Pairwise fun a b => lsC a b < 0

theorem lsC_self (a : List Nd) : lsC a a = 0 := lsC_is.self a

theorem Strict.ext : ∀ {l m : List (List Nd)}, Strict l → Strict m → (∀ x, x ∈ l ↔ x ∈ m) → l = m
  | [], [], _, _, _ => rfl
  | [], b :: m, _, _, h => by have := (h b).2 (by simp); cases this
  | a :: l, [], _, _, h => by have := (h a).1 (by simp); cases this
  | a :: l, b :: m, h1, h2, h => by
    have h1' := List.pairwise_cons.1 h1
    have h2' := List.pairwise_cons.1 h2
    have hab : a = b := by
      have ha := (h a).1 (by simp)
      have hb := (h b).2 (by simp)
      rcases List.mem_cons.1 ha with e | ha
      · exact e
      · rcases List.mem_cons.1 hb with e | hb
        · exact e.symm
        · have k1 := h2'.1 a ha
          have k2 := h1'.1 b hb
          have := lsC_is.lt_le k1 (by omega : lsC a b ≤ 0)
          rw [lsC_self] at this; omega
    subst hab
    congr 1
    refine Strict.ext h1'.2 h2'.2 (fun x => ?_)
    have hx := h x
    constructor
    · intro hl
      rcases List.mem_cons.1 (hx.1 (by simp [hl])) with e | hm
      · subst e
        have := h1'.1 _ hl
        rw [lsC_self] at this; omega
      · exact hm
    · intro hm
      rcases List.mem_cons.1 (hx.2 (by simp [hm])) with e | hl
      · subst e
        have := h2'.1 _ hm
        rw [lsC_self] at this; omega
      · exact hl

def ins (v : List Nd) : List (List Nd) → List (List Nd)
  | [] => [v]
  | u :: l => if lsC v u < 0 then v :: u :: l else if lsC v u = 0 then u :: l else u :: ins v l
/-- The values of some lists, each once, in order. -/
def setL (vs : List (List Nd)) : List (List Nd) := vs.foldr ins []

theorem mem_ins (v : List Nd) : ∀ (l : List (List Nd)) (x : List Nd), x ∈ ins v l ↔ x = v ∨ x ∈ l
  | [], x => by simp [ins]
  | u :: l, x => by
    unfold ins
    split
    · simp
    · split
      · rename_i h
        obtain rfl := (lsC_is.zero v u).1 h
        simp
      · rw [List.mem_cons, mem_ins v l x, List.mem_cons]
        constructor
        · rintro (h | h | h)
          · exact .inr (.inl h)
          · exact .inl h
          · exact .inr (.inr h)
        · rintro (h | h | h)
          · exact .inr (.inl h)
          · exact .inl h
          · exact .inr (.inr h)
theorem strict_ins (v : List Nd) : ∀ (l : List (List Nd)), Strict l → Strict (ins v l)
  | [], _ => by simp [ins, Strict]
  | u :: l, h => by
    have h' := List.pairwise_cons.1 h
    unfold ins
    split
    · rename_i hv
      refine List.pairwise_cons.2 ⟨fun x hx => ?_, h⟩
      rcases List.mem_cons.1 hx with rfl | hx
      · exact hv
      · exact lsC_is.lt_le hv (by have := h'.1 x hx; omega)
    · split
      · exact h
      · rename_i h1 h2
        refine List.pairwise_cons.2 ⟨fun x hx => ?_, strict_ins v l h'.2⟩
        rcases (mem_ins v l x).1 hx with rfl | hx
        · have := lsC_is.neg u x
          have := lsC_is.range u x
          omega
        · exact h'.1 x hx
theorem mem_setL (vs : List (List Nd)) (x : List Nd) : x ∈ setL vs ↔ x ∈ vs := by
  induction vs with
  | nil => simp [setL]
  | cons v vs ih =>
    show x ∈ ins v (setL vs) ↔ _
    rw [mem_ins, ih, List.mem_cons]
theorem strict_setL (vs : List (List Nd)) : Strict (setL vs) := by
  induction vs with
  | nil => exact List.Pairwise.nil
  | cons v vs ih => exact strict_ins v _ ih
/-- Whatever list has them each once, in order, is that one. -/
theorem setL_is {vs l : List (List Nd)} (h : Strict l) (hm : ∀ x, x ∈ l ↔ x ∈ vs) : l = setL vs :=
  Strict.ext h (strict_setL vs) (fun x => (hm x).trans (mem_setL vs x).symm)

/-- Above the last one, if there is one; ahead of the next one, if there is one. -/
def above (last : List Nd) (v : List Nd) : Bool := last.isEmpty || decide (0 < lsC v last)
def lessO (v : List Nd) (nx : List Nd) : Bool := nx.isEmpty || decide (lsC v nx < 0)
def pick (last : List Nd) : List (List Nd) → List Nd → List Nd
  | [], nx => nx
  | v :: vs, nx => pick last vs (if above last v && lessO v nx then v else nx)

theorem pick_spec (last : List Nd) : ∀ (vs : List (List Nd)) (nx : List Nd), (∀ v ∈ vs, v ≠ []) →
    (pick last vs nx = nx ∧ ∀ v ∈ vs, above last v = true → nx ≠ [] ∧ lsC nx v ≤ 0) ∨
    (pick last vs nx ∈ vs ∧ above last (pick last vs nx) = true ∧ (∀ v ∈ vs, above last v = true → lsC (pick last vs nx) v ≤ 0) ∧ (nx ≠ [] → lsC (pick last vs nx) nx ≤ 0))
  | [], nx, _ => .inl ⟨rfl, by simp⟩
  | v :: vs, nx, hne => by
    have hv : v ≠ [] := hne v (by simp)
    have ih := pick_spec last vs (if above last v && lessO v nx then v else nx) (fun u hu => hne u (by simp [hu]))
    simp only [pick]
    cases ha : above last v <;> simp only [ha, Bool.false_and, Bool.true_and, if_false, Bool.false_eq_true] at ih ⊢
    · rcases ih with ⟨h1, h2⟩ | ⟨h1, h2, h3, h4⟩
      · refine .inl ⟨h1, fun u hu hau => ?_⟩
        rcases List.mem_cons.1 hu with rfl | hu
        · rw [ha] at hau; cases hau
        · exact h2 u hu hau
      · refine .inr ⟨by simp [h1], h2, fun u hu hau => ?_, h4⟩
        rcases List.mem_cons.1 hu with rfl | hu
        · rw [ha] at hau; cases hau
        · exact h3 u hu hau
    · cases hl : lessO v nx <;> simp only [hl, if_true, if_false, Bool.false_eq_true] at ih ⊢
      · have hl' : nx ≠ [] ∧ lsC nx v ≤ 0 := by
          unfold lessO at hl
          simp at hl
          have := lsC_is.neg nx v
          exact ⟨hl.1, by omega⟩
        rcases ih with ⟨h1, h2⟩ | ⟨h1, h2, h3, h4⟩
        · refine .inl ⟨h1, fun u hu hau => ?_⟩
          rcases List.mem_cons.1 hu with rfl | hu
          · exact hl'
          · exact h2 u hu hau
        · refine .inr ⟨by simp [h1], h2, fun u hu hau => ?_, h4⟩
          rcases List.mem_cons.1 hu with rfl | hu
          · exact lsC_is.trans _ _ _ (h4 hl'.1) hl'.2
          · exact h3 u hu hau
      · have hl' : nx ≠ [] → lsC v nx ≤ 0 := fun h => by
          unfold lessO at hl
          simp [h] at hl
          omega
        rcases ih with ⟨h1, h2⟩ | ⟨h1, h2, h3, h4⟩
        · rw [h1]
          refine .inr ⟨by simp, ha, fun u hu hau => ?_, hl'⟩
          rcases List.mem_cons.1 hu with rfl | hu
          · rw [lsC_self]; omega
          · exact (h2 u hu hau).2
        · refine .inr ⟨by simp [h1], h2, fun u hu hau => ?_, fun hn => lsC_is.trans _ _ _ (h4 hv) (hl' hn)⟩
          rcases List.mem_cons.1 hu with rfl | hu
          · exact h4 hv
          · exact h3 u hu hau

/-- What was picked so far: in order, all that is not above the last. -/
structure Picked (vs : List (List Nd)) (done : List (List Nd)) (last : List Nd) : Prop where
  strict : Strict done
  sub : ∀ x ∈ done, x ∈ vs
  all : ∀ v ∈ vs, above last v = true ∨ v ∈ done
  ends : (done = [] ∧ last = []) ∨ (last ∈ done ∧ ∀ x ∈ done, lsC x last ≤ 0)
theorem Picked.start (vs : List (List Nd)) : Picked vs [] [] := ⟨List.Pairwise.nil, by simp, fun v _ => .inl (by simp [above]), .inl ⟨rfl, rfl⟩⟩
theorem Picked.done {vs done : List (List Nd)} {last : List Nd} (h : Picked vs done last) (hne : ∀ v ∈ vs, v ≠ []) (hp : pick last vs [] = []) : done = setL vs := by
  refine setL_is h.strict (fun x => ⟨h.sub x, fun hx => ?_⟩)
  rcases h.all x hx with ha | hd
  · rcases pick_spec last vs [] hne with ⟨_, h2⟩ | ⟨h1, _⟩
    · exact absurd rfl (h2 x hx ha).1
    · rw [hp] at h1; exact absurd rfl (hne _ h1)
  · exact hd
theorem Picked.next {vs done : List (List Nd)} {last : List Nd} (h : Picked vs done last) (hne : ∀ v ∈ vs, v ≠ []) (hp : pick last vs [] ≠ []) : Picked vs (done ++ [pick last vs []]) (pick last vs []) := by
  rcases pick_spec last vs [] hne with ⟨h1, _⟩ | ⟨h1, h2, h3, _⟩
  · exact absurd h1 hp
  · generalize pick last vs [] = n at *
    have hab : ∀ x ∈ done, lsC x n < 0 := by
      intro x hx
      rcases h.ends with ⟨e, _⟩ | ⟨hl, hle⟩
      · rw [e] at hx; cases hx
      · have hlast : last ≠ [] := hne _ (h.sub _ hl)
        unfold above at h2
        simp [hlast] at h2
        have := lsC_is.neg n last
        exact lsC_is.le_lt (hle x hx) (by omega)
    refine ⟨List.pairwise_append.2 ⟨h.strict, by simp, fun a ha b hb => by simp at hb; subst hb; exact hab a ha⟩, fun x hx => ?_, fun v hv => ?_, .inr ⟨by simp, fun x hx => ?_⟩⟩
    · rcases List.mem_append.1 hx with hx | hx
      · exact h.sub x hx
      · simp at hx; subst hx; exact h1
    · rcases h.all v hv with ha | hd
      · have h4 := h3 v hv ha
        by_cases hz : lsC n v = 0
        · obtain rfl := (lsC_is.zero n v).1 hz
          exact .inr (by simp)
        · left
          unfold above
          have := lsC_is.neg v n
          simp; right; omega
      · exact .inr (by simp [hd])
    · rcases List.mem_append.1 hx with hx | hx
      · have := hab x hx; omega
      · simp at hx; subst hx; rw [lsC_self]; omega
end Go.Proofs.YtgkbegomekhpcaaGreatDoor
namespace Go.Proofs.YtgkbegomekhpcaaGreatDoor
set_option linter.unusedVariables false

theorem take_behind {u rest s : List Nd} (h : rest.length ≤ u.length) : (u ++ s).take ((u ++ s).length - (rest ++ s).length) = u.take (u.length - rest.length) := by
  have e : (u ++ s).length - (rest ++ s).length = u.length - rest.length := by simp only [List.length_append]; omega
  rw [e, List.take_append_of_le_length (by omega)]
theorem setLoop_behind {pv pw : List Nd → Option (List Nd)} {s : List Nd} (h : ∀ u r, pv u = some r → pw (u ++ s) = some (r ++ s)) (hs : ∀ u r, pv u = some r → r.length < u.length) :
    ∀ (k : Nat) (last : Option (List Nd)) (u r : List Nd), setLoop pv k last u = some r → setLoop pw k last (u ++ s) = some (r ++ s)
  | 0, last, u, r, e => by
    simp only [setLoop, Option.some.injEq] at e ⊢
    rw [e]
  | k + 1, last, u, r, e => by
    simp only [setLoop] at e ⊢
    cases e1 : pv u with
    | none => rw [e1] at e; cases e
    | some rest =>
      simp only [e1] at e
      rw [h u rest e1]
      simp only []
      rw [take_behind (Nat.le_of_lt (hs u rest e1))]
      split at e
      · rename_i ha
        rw [if_pos ha]
        exact setLoop_behind h hs k _ rest r e
      · cases e
theorem recLoop_behind {pv pw : List Nd → Option (List Nd)} {s : List Nd} (h : ∀ u r, pv u = some r → pw (u ++ s) = some (r ++ s)) :
    ∀ (k : Nat) (last : ByteArray) (u r : List Nd), recLoop pv k last u = some r → recLoop pw k last (u ++ s) = some (r ++ s)
  | 0, last, u, r, e => by
    simp only [recLoop, Option.some.injEq] at e ⊢
    rw [e]
  | k + 1, last, [], r, e => by simp [recLoop] at e
  | k + 1, last, x :: u, r, e => by
    simp only [recLoop, List.cons_append] at e ⊢
    split at e
    · rename_i hx
      rw [if_pos hx]
      cases e1 : pv u with
      | none => rw [e1] at e; cases e
      | some rest =>
        simp only [e1] at e
        rw [h u rest e1]
        exact recLoop_behind h k _ rest r e
    · cases e
theorem pastV_behind (s : List Nd) : ∀ (f g : Nat) (u r : List Nd), f ≤ g → pastV f u = some r → pastV g (u ++ s) = some (r ++ s)
  | 0, _, _, _, _, e => by simp [pastV] at e
  | f + 1, 0, _, _, h, _ => absurd h (by omega)
  | f + 1, g + 1, [], r, _, e => by simp [pastV] at e
  | f + 1, g + 1, x :: u, r, h, e => by
    have ih := fun u r => pastV_behind s f g u r (by omega)
    simp only [pastV, List.cons_append] at e ⊢
    split at e
    · rename_i hx
      rw [if_pos hx]
      split at e
      · rename_i h5
        rw [if_pos h5]
        exact setLoop_behind ih (fun u r e => (pastV_shorter e).1) _ _ _ _ e
      · rename_i h5
        rw [if_neg h5]
        split at e
        · rename_i h6
          rw [if_pos h6]
          exact recLoop_behind ih _ _ _ _ e
        · rename_i h6
          rw [if_neg h6]
          simp only [Option.some.injEq] at e ⊢
          rw [e]
    · cases e
theorem value_behind {v : List Nd} (h : vfault v = 0) (s : List Nd) {g : Nat} (hg : v.length + 1 ≤ g) : pastV g (v ++ s) = some s := by
  have := pastV_behind s (v.length + 1) g v [] hg (isVal_past h).2
  simpa using this

theorem pastV_more (f : Nat) {u r : List Nd} (h : pastV f u = some r) (s : List Nd) : pastV f (u ++ s) = some (r ++ s) := pastV_behind s f f u r (Nat.le_refl _) h

theorem setLoop_front {pv : List Nd → Option (List Nd)} (h : ∀ u r, pv u = some r → ∃ a, u = a ++ r ∧ pv a = some []) (k1 : ∀ u r, pv u = some r → ∀ s, pv (u ++ s) = some (r ++ s)) :
    ∀ (k : Nat) (last : Option (List Nd)) (u r : List Nd), setLoop pv k last u = some r → ∃ l : List (List Nd), u = l.flatten ++ r ∧ l.length = k ∧ Strict l ∧ (∀ v ∈ l, pv v = some []) ∧ (∀ v ∈ l, aheadOf last v = true) ∧ setLoop pv k last l.flatten = some []
  | 0, last, u, r, e => by
    simp only [setLoop, Option.some.injEq] at e
    subst e
    exact ⟨[], rfl, rfl, List.Pairwise.nil, by simp, by simp, rfl⟩
  | k + 1, last, u, r, e => by
    simp only [setLoop] at e
    cases e1 : pv u with
    | none => rw [e1] at e; cases e
    | some rest =>
      simp only [e1] at e
      obtain ⟨a, rfl, ha⟩ := h u rest e1
      have ht : ∀ c : List Nd, (a ++ c).take ((a ++ c).length - c.length) = a := fun c => by rw [List.length_append, Nat.add_sub_cancel, List.take_left]
      rw [ht] at e
      split at e
      · rename_i hah
        obtain ⟨l, rfl, hl, hs, hv, hlast, hloop⟩ := setLoop_front h k1 k (some a) rest r e
        refine ⟨a :: l, by simp, by simp [hl], List.pairwise_cons.2 ⟨fun v hm => by simpa [aheadOf] using hlast v hm, hs⟩, ?_, ?_, ?_⟩
        · intro v hm
          rcases List.mem_cons.1 hm with rfl | hm
          · exact ha
          · exact hv v hm
        · intro v hm
          rcases List.mem_cons.1 hm with rfl | hm
          · exact hah
          · cases last with
            | none => rfl
            | some b =>
              have h1 : lsC b a < 0 := by simpa [aheadOf] using hah
              have h2 : lsC a v < 0 := by simpa [aheadOf] using hlast v hm
              have := lsC_is.lt_le h1 (by omega : lsC a v ≤ 0)
              simp [aheadOf, this]
        · simp only [setLoop, List.flatten_cons]
          rw [k1 a [] ha l.flatten]
          simp only [List.nil_append]
          rw [ht, if_pos hah]
          exact hloop
      · cases e
theorem recLoop_front {pv : List Nd → Option (List Nd)} (h : ∀ u r, pv u = some r → ∃ a, u = a ++ r ∧ pv a = some []) (k1 : ∀ u r, pv u = some r → ∀ s, pv (u ++ s) = some (r ++ s)) :
    ∀ (k : Nat) (last : ByteArray) (u r : List Nd), recLoop pv k last u = some r → ∃ a, u = a ++ r ∧ recLoop pv k last a = some []
  | 0, last, u, r, e => by
    simp only [recLoop, Option.some.injEq] at e
    subst e
    exact ⟨[], rfl, rfl⟩
  | k + 1, last, [], r, e => by simp [recLoop] at e
  | k + 1, last, x :: u, r, e => by
    simp only [recLoop] at e
    split at e
    · rename_i hx
      cases e1 : pv u with
      | none => rw [e1] at e; cases e
      | some rest =>
        simp only [e1] at e
        obtain ⟨a, rfl, ha⟩ := h u rest e1
        obtain ⟨c, rfl, hc⟩ := recLoop_front h k1 k _ rest r e
        refine ⟨x :: (a ++ c), by simp, ?_⟩
        simp only [recLoop]
        rw [if_pos hx, k1 a [] ha c]
        exact hc
    · cases e
theorem pastV_front : ∀ (f : Nat) (u r : List Nd), pastV f u = some r → ∃ a, u = a ++ r ∧ pastV f a = some []
  | 0, _, _, e => by simp [pastV] at e
  | f + 1, [], r, e => by simp [pastV] at e
  | f + 1, x :: u, r, e => by
    have ih := pastV_front f
    have k1 : ∀ u r, pastV f u = some r → ∀ s, pastV f (u ++ s) = some (r ++ s) := fun u r h s => pastV_more f h s
    simp only [pastV] at e
    split at e
    · rename_i hx
      split at e
      · rename_i h5
        obtain ⟨l, rfl, _, _, _, _, hl⟩ := setLoop_front ih k1 _ _ _ _ e
        refine ⟨x :: l.flatten, rfl, ?_⟩
        simp only [pastV]
        rw [if_pos hx, if_pos h5]
        exact hl
      · rename_i h5
        split at e
        · rename_i h6
          obtain ⟨a, rfl, ha⟩ := recLoop_front ih k1 _ _ _ _ e
          refine ⟨x :: a, rfl, ?_⟩
          simp only [pastV]
          rw [if_pos hx, if_neg h5, if_pos h6]
          exact ha
        · rename_i h6
          simp only [Option.some.injEq] at e
          subst e
          refine ⟨[x], rfl, ?_⟩
          simp only [pastV]
          rw [if_pos hx, if_neg h5, if_neg h6]
    · cases e

end Go.Proofs.YtgkbegomekhpcaaGreatDoor
namespace Go.Proofs.YtgkbegomekhpcaaGreatDoor
set_option linter.unusedVariables false

/-- The parts of a row, each as a list. -/
def rows : Tp → List (List Nd)
  | .nil => []
  | .cons x k r => (x :: k.flat) :: rows r
theorem rows_length : ∀ t : Tp, (rows t).length = t.len
  | .nil => rfl
  | .cons x k r => by simp [rows, Tp.len, rows_length r]
theorem rows_app : ∀ p r : Tp, rows (p.app r) = rows p ++ rows r
  | .nil, r => rfl
  | .cons x k q, r => by simp [Tp.app, rows, rows_app q r]
theorem rows_at {p r k : Tp} {f : Nd} {kf : Tp} (h : k = p.app (.cons f kf r)) : (rows k)[p.len]? = some (f :: kf.flat) := by
  rw [h, rows_app, List.getElem?_append_right (by rw [rows_length]; exact Nat.le_refl _), rows_length]
  simp [rows]
theorem front_val : ∀ (f : Nat) (u r : List Nd), pastV f u = some r → ∃ x k, okV none (.cons x k .nil) ∧ u = x :: (k.flat ++ r) := pastV_tree
/-- Items are the parts of the tree. -/
theorem segs_rows {f : Nat} : ∀ {u : List Nd} {ss : List (List Nd)}, Segs f u ss → ∀ {m : Option ByteArray} {l : Tp}, okV m l → u = l.flat → ss = rows l := by
  intro u ss h
  induction h with
  | nil =>
    intro m l hl e
    cases l with
    | nil => rfl
    | cons x k r => simp [Tp.flat] at e
  | @cons a r ss h hs ih =>
    intro m l hl e
    cases l with
    | nil =>
      obtain ⟨a', e', _, hne⟩ := itemP_off h
      obtain rfl := List.append_cancel_right e'
      simp only [Tp.flat, List.append_eq_nil_iff] at e
      exact absurd e.1 hne
    | cons y ly q =>
      rw [e] at h
      simp only [Tp.flat, itemP] at h
      simp only [Tp.flat] at e
      cases m with
      | none =>
        obtain ⟨⟨h7, hy, hk⟩, hq⟩ := okV.none_iff.1 hl
        rw [if_neg h7] at h
        obtain ⟨x, k, hx, e2⟩ := pastV_tree _ _ _ h
        have hy1 : okV none (.cons y ly .nil) := okV.none_iff.2 ⟨⟨h7, hy, hk⟩, okV.nil⟩
        obtain ⟨e3, e4⟩ := tp_flat_inj (.cons y ly .nil) (.cons x k .nil) q.flat r hy1.ar hx.ar rfl (by simpa [Tp.flat] using e2)
        cases e3
        subst e4
        have : a = y :: ly.flat := by
          have := e
          rw [← List.cons_append] at this
          exact List.append_cancel_right this
        rw [this, rows, ih hq rfl]
      | some m =>
        obtain ⟨⟨h7, hy, hc⟩, ⟨hl1, hk⟩, hq⟩ := okV.some_iff.1 hl
        rw [if_pos h7] at h
        obtain ⟨x, k, hx, e2⟩ := pastV_tree _ _ _ h
        obtain ⟨z, kz, rfl⟩ := tp_len1 hl1
        obtain ⟨e3, e4⟩ := tp_flat_inj (.cons z kz .nil) (.cons x k .nil) q.flat r hk.ar hx.ar rfl (by simpa [Tp.flat] using e2)
        cases e3
        subst e4
        have : a = y :: (Tp.cons x k .nil).flat := by
          have := e
          rw [← List.cons_append] at this
          exact List.append_cancel_right this
        rw [this, rows, ih hq rfl]
theorem past_ok {f : Nat} {v : List Nd} (h : pastV f v = some []) (hl : v.length ≤ 200) (hf : v.length < f) : vfault v = 0 := by
  unfold vfault isVal
  rw [if_neg (by omega), pastV_fuel (v.length + 1) f v (by omega) hf, h]
  rfl
/-- What stands ahead of a rest is a value. -/
theorem past_front : ∀ {f : Nat} {a r : List Nd}, pastV f (a ++ r) = some r → pastV f a = some [] := by
  intro f a r h
  obtain ⟨a', e, h2⟩ := pastV_front f _ _ h
  obtain rfl := List.append_cancel_right e
  exact h2
theorem segs_vals {f : Nat} : ∀ {u : List Nd} {ss : List (List Nd)}, Segs f u ss → u.length ≤ 200 → u.length < f → ∀ s ∈ ss, vfault (strip s) = 0 := by
  intro u ss h
  induction h with
  | nil => intro _ _ s hs; cases hs
  | @cons a r ss h hs ih =>
    intro hl hf s hs'
    have hal : a.length ≤ 200 := by simp at hl; omega
    have haf : a.length < f := by simp at hf; omega
    rcases List.mem_cons.1 hs' with rfl | hs'
    · cases s with
      | nil => obtain ⟨a', e', _, hne⟩ := itemP_off h; obtain rfl := List.append_cancel_right e'; exact absurd rfl hne
      | cons x s =>
        simp only [List.cons_append, itemP] at h
        simp only [strip]
        split
        · rename_i h7
          rw [if_pos h7] at h
          exact past_ok (past_front h) (by simp at hal; omega) (by simp at haf; omega)
        · rename_i h7
          rw [if_neg h7, ← List.cons_append] at h
          exact past_ok (past_front h) hal haf
    · exact ih (by simp at hl; omega) (by simp at hf; omega) s hs'
/-- A value's parts are values: of a set. -/
theorem set_parts {y : Nd} {l : Tp} (h : vfault (y :: l.flat) = 0) (ho : okV none (.cons y l .nil)) (h5 : y.op = 5) : Segs (y :: l.flat).length l.flat (rows l) ∧ (l.len : Int) = y.n ∧ okV none l ∧ (∀ s ∈ rows l, ∃ z t, s = z :: t ∧ z.op ≠ 7) ∧ ∀ s ∈ rows l, vfault s = 0 := by
  obtain ⟨ss, h1, h2, h3⟩ := set_items h h5
  obtain ⟨⟨h7, hy, hk⟩, _⟩ := okV.none_iff.1 ho
  have hl : okV none l := by
    rcases hk with ⟨_, _, h⟩ | ⟨h6, _⟩ | ⟨h6, _⟩
    · exact h
    · omega
    · exact absurd h5 h6
  obtain rfl := segs_rows h1 hl rfl
  have hn := ndOk_n hy (.inl h5)
  refine ⟨h1, ?_, hl, h3, fun s hs => ?_⟩
  · rw [rows_length] at h2; omega
  · have h4 := segs_vals h1 (by have := (isVal_past h).1; simp at this; omega) (by simp) s hs
    obtain ⟨z, t, rfl, hz⟩ := h3 s hs
    rw [strip, if_neg hz] at h4
    exact h4
/-- Of a record. -/
theorem rec_parts {y : Nd} {l : Tp} (h : vfault (y :: l.flat) = 0) (ho : okV none (.cons y l .nil)) (h6 : y.op = 6) : Segs (y :: l.flat).length l.flat (rows l) ∧ (l.len : Int) = y.n ∧ okV (some e0) l ∧ (∀ s ∈ rows l, ∃ z t, s = z :: t ∧ z.op = 7) ∧ ∀ s ∈ rows l, vfault (strip s) = 0 := by
  obtain ⟨ss, h1, h2, h3⟩ := rec_items h h6
  obtain ⟨⟨h7, hy, hk⟩, _⟩ := okV.none_iff.1 ho
  have hl : okV (some e0) l := by
    rcases hk with ⟨h5, _⟩ | ⟨_, _, h⟩ | ⟨_, h5, _⟩
    · omega
    · exact h
    · exact absurd h6 h5
  obtain rfl := segs_rows h1 hl rfl
  have hn := ndOk_n hy (.inr h6)
  refine ⟨h1, ?_, hl, fun s hs => ?_, fun s hs => segs_vals h1 (by have := (isVal_past h).1; simp at this; omega) (by simp) s hs⟩
  · rw [rows_length] at h2; omega
  · clear h h1 h2 ho hk
    generalize (⟨#[]⟩ : ByteArray) = b at h3
    generalize rows l = ss at *
    induction h3 with
    | nil => cases hs
    | cons h7 hl hs2 ih =>
      rcases List.mem_cons.1 hs with rfl | hs
      · exact ⟨_, _, rfl, h7⟩
      · exact ih hs
theorem okV.mid {m : Option ByteArray} : ∀ {p : Tp} {y : Nd} {ly r : Tp}, okV m (p.app (.cons y ly r)) → (m = none → okV none (.cons y ly .nil)) ∧ (∀ b, m = some b → ly.len = 1 ∧ okV none ly ∧ y.op = 7)
  | .nil, y, ly, r, h => by
    cases m with
    | none => exact ⟨fun _ => okV.none_iff.2 ⟨(okV.none_iff.1 h).1, okV.nil⟩, fun b e => by cases e⟩
    | some b =>
      obtain ⟨⟨h7, _⟩, ⟨h1, h2⟩, _⟩ := okV.some_iff.1 h
      exact ⟨fun e => (by cases e), fun b e => ⟨h1, h2, h7⟩⟩
  | .cons g lg q, y, ly, r, h => by
    cases m with
    | none => exact okV.mid (p := q) (okV.none_iff.1 h).2
    | some b =>
      obtain ⟨a, c⟩ := okV.mid (p := q) (okV.some_iff.1 h).2.2
      exact ⟨fun e => (by cases e), fun b' _ => c _ rfl⟩
theorem hs_one (y : Nd) (l r : Tp) (x : Nd) (m s : Tp) : hs false (.cons y l r) (.cons x m s) = (hs false (.cons y l .nil) (.cons x m s) && hs false r (.cons x m s)) := by
  rw [hs_cons, hs_cons, show hs false .nil (.cons x m s) = true by rw [hs]]
  simp
theorem hsV_app {x : Nd} {m s : Tp} : ∀ {p r : Tp}, hs false (p.app r) (.cons x m s) = (hs false p (.cons x m s) && hs false r (.cons x m s))
  | .nil, r => by rw [Tp.app, show hs false .nil (.cons x m s) = true by rw [hs]]; rfl
  | .cons f kf q, r => by rw [Tp.app, hs_one, hs_one f kf q, hsV_app (p := q), Bool.and_assoc]
end Go.Proofs.YtgkbegomekhpcaaGreatDoor
namespace Go.Proofs.YtgkbegomekhpcaaGreatDoor
set_option linter.unusedVariables false

def toL : Tp → List (Nd × Tp)
  | .nil => []
  | .cons x k r => (x, k) :: toL r
theorem toL_app : ∀ a b : Tp, toL (a.app b) = toL a ++ toL b
  | .nil, b => rfl
  | .cons x k r, b => by simp [Tp.app, toL, toL_app r b]
theorem toL_len : ∀ t : Tp, (toL t).length = t.len
  | .nil => rfl
  | .cons x k r => by simp [toL, Tp.len, toL_len r]
/-- A field of a record's type. -/
def Vf (p : Nd × Tp) : Prop := p.1.op = 47 ∧ (p.1.n = 0 ∨ p.1.n = 1) ∧ p.1.t = e0 ∧ nfault p.1.s.data.toList = 0 ∧ T1 p.2
theorem Fl.all : ∀ {t : Tp} {l : ByteArray}, Fl l t → (∀ p ∈ toL t, Vf p ∧ cmpB l p.1.s < 0) ∧ (toL t).Pairwise (fun a b => cmpB a.1.s b.1.s < 0)
  | .nil, l, _ => ⟨fun p hp => by simp [toL] at hp, by simp [toL]⟩
  | .cons f kf r, l, h => by
    obtain ⟨⟨h1, h2, h3, h4, h5⟩, h6, h7⟩ := Fl.cons_iff.1 h
    obtain ⟨i1, i2⟩ := Fl.all h7
    refine ⟨fun p hp => ?_, List.pairwise_cons.2 ⟨fun p hp => (i1 p hp).2, i2⟩⟩
    rcases List.mem_cons.1 hp with rfl | hp
    · exact ⟨⟨h1, h2, h3, h4, h6⟩, h5⟩
    · exact ⟨(i1 p hp).1, cmpB_is.lt_le h5 (by have := (i1 p hp).2; omega)⟩
theorem fl_of : ∀ {t : Tp} {l : ByteArray}, (∀ p ∈ toL t, Vf p ∧ cmpB l p.1.s < 0) → (toL t).Pairwise (fun a b => cmpB a.1.s b.1.s < 0) → Fl l t
  | .nil, l, _, _ => by simp [Fl, isTy]
  | .cons f kf r, l, h, hp => by
    obtain ⟨⟨h1, h2, h3, h4, h6⟩, h5⟩ := h (f, kf) (by simp [toL])
    have hq := List.pairwise_cons.1 hp
    exact Fl.cons_iff.2 ⟨⟨h1, h2, h3, h4, h5⟩, h6, fl_of (fun p hp => ⟨(h p (by simp [toL, hp])).1, hq.1 p hp⟩) hq.2⟩
/-- Names that are all unlike. -/
def NoTwo (t : List (Nd × Tp)) : Prop := t.Pairwise (fun a b => a.1.s ≠ b.1.s)
theorem find_mem {s : ByteArray} : ∀ {t : Tp} {f : Nd} {kf : Tp}, NoTwo (toL t) → (t.find s = some (f, kf) ↔ (f, kf) ∈ toL t ∧ f.s = s)
  | .nil, f, kf, _ => by simp [Tp.find, toL]
  | .cons x k r, f, kf, h => by
    have hq := List.pairwise_cons.1 h
    rw [Tp.find]
    by_cases c : x.s = s
    · rw [if_pos c]
      constructor
      · intro e; simp only [Option.some.injEq, Prod.mk.injEq] at e; obtain ⟨rfl, rfl⟩ := e; exact ⟨by simp [toL], c⟩
      · rintro ⟨h1, h2⟩
        rcases List.mem_cons.1 h1 with e | e
        · rw [e]
        · exact absurd (c.trans h2.symm) (hq.1 _ e)
    · rw [if_neg c, find_mem hq.2]
      constructor
      · rintro ⟨h1, h2⟩; exact ⟨by simp [toL, h1], h2⟩
      · rintro ⟨h1, h2⟩
        rcases List.mem_cons.1 h1 with e | e
        · cases e; exact absurd h2 c
        · exact ⟨e, h2⟩
theorem find_perm {t u : Tp} (h : (toL t).Perm (toL u)) (hn : NoTwo (toL u)) (s : ByteArray) : t.find s = u.find s := by
  have hn2 : NoTwo (toL t) := h.symm.pairwise hn (fun h => h.symm)
  cases e : t.find s with
  | some p => obtain ⟨f, kf⟩ := p; rw [find_mem hn2] at e; exact ((find_mem hn).2 ⟨h.mem_iff.1 e.1, e.2⟩).symm
  | none =>
    cases e2 : u.find s with
    | none => rfl
    | some p =>
      obtain ⟨f, kf⟩ := p
      rw [find_mem hn] at e2
      rw [(find_mem hn2).2 ⟨h.mem_iff.2 e2.1, e2.2⟩] at e
      cases e
/-- The fields of l that k has not. -/
def thoseF (k : Tp) : Tp → Tp
  | .nil => .nil
  | .cons f kf r => if (k.find f.s).isNone then .cons (fdN f.s 0) kf (thoseF k r) else thoseF k r
theorem those_app (k : Tp) : ∀ a b : Tp, thoseF k (a.app b) = (thoseF k a).app (thoseF k b)
  | .nil, b => rfl
  | .cons f kf r, b => by
    simp only [Tp.app, thoseF]
    rw [those_app k r b]
    split <;> rfl
theorem those_all {k : Tp} : ∀ {l : Tp} {a : ByteArray}, Fl a l → Fl a (thoseF k l) ∧ ∀ s, (thoseF k l).find s = if (k.find s).isSome then none else (l.find s).map (fun p => (fdN s 0, p.2))
  | .nil, a, _ => ⟨by simp [Fl, isTy, thoseF], fun s => by simp [thoseF, Tp.find]⟩
  | .cons f kf r, a, h => by
    obtain ⟨⟨h1, h2, h3, h4, h5⟩, h6, h7⟩ := Fl.cons_iff.1 h
    obtain ⟨i1, i2⟩ := those_all (k := k) h7
    rw [thoseF]
    by_cases c : (k.find f.s).isNone
    · rw [if_pos c]
      have c' : k.find f.s = none := by simpa using c
      refine ⟨Fl.cons_iff.2 ⟨⟨rfl, .inl rfl, rfl, h4, h5⟩, h6, i1⟩, fun s => ?_⟩
      by_cases e : f.s = s
      · subst e; rw [if_neg (by simp [c']), Fl.find_head]; exact Fl.find_head (f := fdN f.s 0)
      · rw [find_ne e]; exact (find_ne (f := fdN f.s 0) e).trans (i2 s)
    · rw [if_neg c]
      have c' : (k.find f.s).isSome := by cases h : k.find f.s with | none => simp [h] at c | some p => rfl
      refine ⟨i1.from (by omega), fun s => ?_⟩
      rw [i2]
      by_cases e : f.s = s
      · subst e; rw [if_pos c', if_pos c']
      · rw [find_ne e]
theorem find_app2 {s : ByteArray} : ∀ {a b : Tp}, a.find s = none → (a.app b).find s = b.find s
  | .nil, b, _ => rfl
  | .cons x k r, b, h => by
    rw [Tp.find] at h
    split at h
    · cases h
    · rename_i hne; rw [Tp.app, Tp.find, if_neg hne]; exact find_app2 h
theorem find_app1 {s : ByteArray} {p : Nd × Tp} : ∀ {a b : Tp}, a.find s = some p → (a.app b).find s = some p
  | .nil, b, h => by simp [Tp.find] at h
  | .cons x k r, b, h => by
    rw [Tp.app, Tp.find]
    rw [Tp.find] at h
    split at h
    · rename_i e; rw [if_pos e]; exact h
    · rename_i e; rw [if_neg e]; exact find_app1 h
/-- The join's fields before they are sorted. -/
theorem unsorted_all {k l : Tp} (hk : Fl e0 k) (hl : Fl e0 l) : (∀ p ∈ toL ((jn true k l).app (thoseF k l)), Vf p) ∧ NoTwo (toL ((jn true k l).app (thoseF k l))) ∧ ∀ s, ((jn true k l).app (thoseF k l)).find s = both s (k.find s) (l.find s) := by
  obtain ⟨h1, h2⟩ := jnT_all hl hk (fun s f kf g kg h1 h2 => jn_ty _ kf kg (Nat.lt_succ_self _) (hk.find h1).2.2.2.2 (hl.find h2).2.2.2.2)
  obtain ⟨h3, h4⟩ := those_all (k := k) hl
  have a1 := h1.all
  have a3 := h3.all
  have hn1 : NoTwo (toL (jn true k l)) := a1.2.imp (fun {a b} h e => by rw [e, cmpB_is.self] at h; omega)
  have hn3 : NoTwo (toL (thoseF k l)) := a3.2.imp (fun {a b} h e => by rw [e, cmpB_is.self] at h; omega)
  refine ⟨fun p hp => ?_, ?_, fun s => ?_⟩
  · rw [toL_app] at hp
    rcases List.mem_append.1 hp with hp | hp
    · exact (a1.1 p hp).1
    · exact (a3.1 p hp).1
  · rw [toL_app]
    refine List.pairwise_append.2 ⟨hn1, hn3, fun p hp q hq e => ?_⟩
    have e1 := (find_mem hn1 (s := p.1.s) (f := p.1) (kf := p.2)).2 ⟨hp, rfl⟩
    have e3 := (find_mem hn3 (s := p.1.s) (f := q.1) (kf := q.2)).2 ⟨hq, e.symm⟩
    rw [h2] at e1
    rw [h4] at e3
    by_cases c : (k.find p.1.s).isSome
    · rw [if_pos c] at e3; cases e3
    · rw [if_neg c] at e1; cases e1
  · cases e : (jn true k l).find s with
    | none =>
      rw [find_app2 e, h4]
      rw [h2] at e
      cases e1 : k.find s with
      | none => rw [if_neg (by simp)]; cases l.find s <;> rfl
      | some p =>
        rw [e1, if_pos (show (some p).isSome = true from rfl)] at e
        cases e2 : l.find s <;> rw [e2] at e <;> cases e
    | some p =>
      rw [find_app1 e, ← e, h2]
      cases e1 : k.find s with
      | none => rw [h2, e1] at e; cases e
      | some p => rfl
theorem sort_join {k l t : Tp} (hk : Fl e0 k) (hl : Fl e0 l) (hp : (toL t).Perm (toL ((jn true k l).app (thoseF k l)))) (hs : (toL t).Pairwise (fun a b => ¬ cmpB b.1.s a.1.s < 0)) : t = addF k l (jn true k l) := by
  obtain ⟨u1, u2, u3⟩ := unsorted_all hk hl
  obtain ⟨j1, j2⟩ := jnR hk hl
  have hv : ∀ p ∈ toL t, Vf p := fun p h => u1 p (hp.mem_iff.1 h)
  have hn : NoTwo (toL t) := hp.symm.pairwise u2 (fun h => h.symm)
  have hlt : (toL t).Pairwise (fun a b => cmpB a.1.s b.1.s < 0) := (hs.and hn).imp (fun {a b} h => by
    have x := cmpB_is.neg a.1.s b.1.s
    have y : cmpB a.1.s b.1.s ≠ 0 := fun e => h.2 ((cmpB_is.zero _ _).1 e)
    have z := h.1
    omega)
  exact Fl.ext (fl_of (l := e0) (fun p h => ⟨hv p h, nfault_pos (hv p h).2.2.2.1⟩) hlt) j1 (fun s => by rw [find_perm hp u2, u3, j2])
end Go.Proofs.YtgkbegomekhpcaaGreatDoor
namespace Go.Proofs.YtgkbegomekhpcaaGreatDoor
set_option linter.unusedVariables false

theorem insF_flat (f : Nd) (kf : Tp) : ∀ t : Tp, (insF f kf t).flat.length = kf.flat.length + 1 + t.flat.length
  | .nil => by simp [insF, Tp.flat]
  | .cons g kg r => by
    rw [insF]
    split
    · simp [Tp.flat]; omega
    · simp [Tp.flat, insF_flat f kf r]; omega
theorem addF_flat (k : Tp) : ∀ l m : Tp, (addF k l m).flat.length = (thoseF k l).flat.length + m.flat.length
  | .nil, m => by simp [addF, thoseF, Tp.flat]
  | .cons f kf r, m => by
    have := addF_flat k r m
    rw [addF, thoseF]
    split
    · rw [insF_flat]; simp [Tp.flat]; omega
    · exact this
theorem those_nil : ∀ l : Tp, (thoseF .nil l).flat.length = l.flat.length
  | .nil => rfl
  | .cons f kf r => by rw [thoseF, if_pos (by simp [Tp.find])]; simp [Tp.flat, those_nil r]
theorem those_same {f : Nd} {kf r : Tp} : ∀ {l : Tp}, l.find f.s = none → thoseF (.cons f kf r) l = thoseF r l
  | .nil, _ => rfl
  | .cons g kg l, h => by
    have hne : g.s ≠ f.s := fun e => by rw [Tp.find, if_pos e] at h; cases h
    rw [find_ne hne] at h
    rw [thoseF, thoseF, find_ne (f := f) (fun e => hne e.symm), those_same h]
theorem those_less {f : Nd} {kf r : Tp} : ∀ l : Tp, (thoseF (.cons f kf r) l).flat.length ≤ (thoseF r l).flat.length
  | .nil => Nat.le_refl _
  | .cons g kg l => by
    have ih := those_less (f := f) (kf := kf) (r := r) l
    rw [thoseF, thoseF]
    by_cases e : f.s = g.s
    · rw [if_neg (by rw [Tp.find, if_pos e]; simp)]
      split
      · simp [Tp.flat]; omega
      · exact ih
    · rw [find_ne e]
      split
      · simp [Tp.flat]; omega
      · exact ih
theorem those_drop {f : Nd} {kf r : Tp} (hr : r.find f.s = none) : ∀ {l : Tp} {g : Nd} {kg : Tp}, l.find f.s = some (g, kg) → (thoseF (.cons f kf r) l).flat.length + 1 + kg.flat.length ≤ (thoseF r l).flat.length
  | .nil, g, kg, h => by simp [Tp.find] at h
  | .cons g' kg' l, g, kg, h => by
    rw [thoseF, thoseF]
    by_cases e : g'.s = f.s
    · rw [Tp.find, if_pos e] at h
      simp only [Option.some.injEq, Prod.mk.injEq] at h
      obtain ⟨rfl, rfl⟩ := h
      have := those_less (f := f) (kf := kf) (r := r) l
      rw [if_neg (by rw [Tp.find, if_pos e.symm]; simp), if_pos (by rw [e, hr]; rfl)]
      simp [Tp.flat]
      omega
    · rw [find_ne e] at h
      have ih := those_drop (kf := kf) hr h
      rw [find_ne (f := f) (fun q => e q.symm)]
      split
      · simp [Tp.flat]; omega
      · exact ih
theorem jnT_flat {l : Tp} : ∀ {k : Tp} {a : ByteArray}, Fl a k → (∀ s f kf g kg, k.find s = some (f, kf) → l.find s = some (g, kg) → (jn false kf kg).flat.length ≤ kf.flat.length + kg.flat.length) → (jn true k l).flat.length + (thoseF k l).flat.length ≤ k.flat.length + l.flat.length
  | .nil, a, _, _ => by simp [jn, Tp.flat, those_nil]
  | .cons f kf r, a, hk, hj => by
    obtain ⟨_, _, h7⟩ := Fl.cons_iff.1 hk
    have ih := jnT_flat h7 (fun s f' kf' g kg h => hj s f' kf' g kg (hk.find_tail h))
    have hr : r.find f.s = none := h7.low (by rw [cmpB_is.self]; omega)
    rw [jn_flds]
    cases e : l.find f.s with
    | none => rw [those_same e]; simp [Tp.flat]; omega
    | some p =>
      have h1 := those_drop (kf := kf) hr e
      have h2 := hj f.s f kf p.1 p.2 Fl.find_head e
      simp [Tp.flat]
      omega
theorem jn_flat (a b : Tp) {n : Nat} (hn : a.sz < n) (ha : T1 a) (hb : T1 b) : (jn false a b).flat.length ≤ a.flat.length + b.flat.length := by
  induction n generalizing a b with
  | zero => omega
  | succ n ih =>
    obtain ⟨x, k, rfl, hx⟩ := ha.of
    obtain ⟨y, l, rfl, hy⟩ := hb.of
    simp only [Tp.sz] at hn
    rw [jn_cons]
    split
    · simp [Tp.flat]
    split
    · simp [Tp.flat]
    split
    · rename_i c
      cases hx with
      | leaf op h => have := c.1; simp only [lfN] at this; omega
      | ent s h => simp at c
      | rcd k h => simp at c
      | set k hk =>
        cases hy with
        | leaf op h => have := c.2; simp only [lfN] at this; omega
        | ent s h => simp at c
        | rcd k h => simp at c
        | set l hl => have := ih k l (by omega) hk hl; simp [Tp.flat]; omega
    split
    · rename_i c
      cases hx with
      | leaf op h => have := c.1; simp only [lfN] at this; omega
      | ent s h => simp at c
      | set k h => simp [lfN] at c
      | rcd k hk =>
        cases hy with
        | leaf op h => have := c.2; simp only [lfN] at this; omega
        | ent s h => simp at c
        | set k h => simp [lfN] at c
        | rcd l hl =>
          have h1 := jnT_flat (l := l) hk (fun s f kf g kg h1 h2 => ih kf kg (by have := find_sz h1; omega) (hk.find h1).2.2.2.2 (hl.find h2).2.2.2.2)
          have h2 := addF_flat k l (jn true k l)
          simp [Tp.flat]
          omega
    split
    · simp [Tp.flat]
    · simp [Tp.flat]; omega
end Go.Proofs.YtgkbegomekhpcaaGreatDoor
