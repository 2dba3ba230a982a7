/- Two texts are compared byte by byte: the plain facts about that order (its values, its turning round, when it is 0, that it goes on), and one step of it at a place. No program is named here. -/
import Derived.Lib.Bytealg
namespace Go.Proofs.Ytjbjheeigdblkab

theorem cb_cons (x y : UInt8) (l m : List UInt8) : Lib.compareBytes (x :: l) (y :: m) = if x < y then -1 else if y < x then 1 else Lib.compareBytes l m := rfl

theorem cb_range : ∀ (l m : List UInt8), Lib.compareBytes l m = -1 ∨ Lib.compareBytes l m = 0 ∨ Lib.compareBytes l m = 1
  | [], [] => Or.inr (Or.inl rfl)
  | [], _ :: _ => Or.inl rfl
  | _ :: _, [] => Or.inr (Or.inr rfl)
  | x :: l, y :: m => by
    rw [cb_cons]
    by_cases h : x < y
    · rw [if_pos h]; exact Or.inl rfl
    · rw [if_neg h]
      by_cases k : y < x
      · rw [if_pos k]; exact Or.inr (Or.inr rfl)
      · rw [if_neg k]; exact cb_range l m

theorem cb_neg : ∀ (l m : List UInt8), Lib.compareBytes l m = - Lib.compareBytes m l
  | [], [] => rfl
  | [], _ :: _ => rfl
  | _ :: _, [] => rfl
  | x :: l, y :: m => by
    rw [cb_cons, cb_cons]
    by_cases h : x < y
    · have k : ¬ y < x := by rw [UInt8.lt_iff_toNat_lt] at h ⊢; omega
      rw [if_pos h, if_neg k, if_pos h]
    · rw [if_neg h]
      by_cases k : y < x
      · rw [if_pos k, if_pos k]; rfl
      · rw [if_neg k, if_neg k, if_neg h]; exact cb_neg l m

theorem cb_zero : ∀ (l m : List UInt8), Lib.compareBytes l m = 0 ↔ l = m
  | [], [] => ⟨fun _ => rfl, fun _ => rfl⟩
  | [], _ :: _ => ⟨fun h => absurd h (show ¬ (-1 : Int) = 0 by decide), fun h => (List.cons_ne_nil _ _ h.symm).elim⟩
  | _ :: _, [] => ⟨fun h => absurd h (show ¬ (1 : Int) = 0 by decide), fun h => (List.cons_ne_nil _ _ h).elim⟩
  | x :: l, y :: m => by
    rw [cb_cons]
    by_cases h : x < y
    · rw [if_pos h]
      refine ⟨fun e => absurd e (by decide), fun e => ?_⟩
      injection e with e1 _
      subst e1
      rw [UInt8.lt_iff_toNat_lt] at h; omega
    · rw [if_neg h]
      by_cases k : y < x
      · rw [if_pos k]
        refine ⟨fun e => absurd e (by decide), fun e => ?_⟩
        injection e with e1 _
        subst e1
        rw [UInt8.lt_iff_toNat_lt] at k; omega
      · rw [if_neg k]
        have hxy : x = y := by
          rw [UInt8.lt_iff_toNat_lt] at h k
          apply UInt8.toNat_inj.1; omega
        subst hxy
        rw [cb_zero l m]
        exact ⟨fun e => by rw [e], fun e => by injection e⟩

theorem cb_trans : ∀ (l m n : List UInt8), Lib.compareBytes l m ≤ 0 → Lib.compareBytes m n ≤ 0 → Lib.compareBytes l n ≤ 0
  | [], _, [], _, _ => Int.le_refl _
  | [], _, _ :: _, _, _ => (show (-1 : Int) ≤ 0 by decide)
  | _ :: _, [], _, h, _ => absurd h (show ¬ (1 : Int) ≤ 0 by decide)
  | _ :: _, _ :: _, [], _, h => absurd h (show ¬ (1 : Int) ≤ 0 by decide)
  | x :: l, y :: m, z :: n, h1, h2 => by
    rw [cb_cons] at h1 h2 ⊢
    by_cases a1 : x < y
    · by_cases b1 : y < z
      · have c : x < z := by rw [UInt8.lt_iff_toNat_lt] at a1 b1 ⊢; omega
        rw [if_pos c]; decide
      · rw [if_neg b1] at h2
        by_cases b2 : z < y
        · rw [if_pos b2] at h2; exact absurd h2 (by decide)
        · have c : x < z := by rw [UInt8.lt_iff_toNat_lt] at a1 b1 b2 ⊢; omega
          rw [if_pos c]; decide
    · rw [if_neg a1] at h1
      by_cases a2 : y < x
      · rw [if_pos a2] at h1; exact absurd h1 (by decide)
      · rw [if_neg a2] at h1
        by_cases b1 : y < z
        · have c : x < z := by rw [UInt8.lt_iff_toNat_lt] at a1 a2 b1 ⊢; omega
          rw [if_pos c]; decide
        · rw [if_neg b1] at h2
          by_cases b2 : z < y
          · rw [if_pos b2] at h2; exact absurd h2 (by decide)
          · rw [if_neg b2] at h2
            have c1 : ¬ x < z := by rw [UInt8.lt_iff_toNat_lt] at a1 a2 b1 b2 ⊢; omega
            have c2 : ¬ z < x := by rw [UInt8.lt_iff_toNat_lt] at a1 a2 b1 b2 ⊢; omega
            rw [if_neg c1, if_neg c2]
            exact cb_trans l m n h1 h2

/-- The order of two pairs of texts: the first ones, then the second ones. -/
def uc (a b c d : List UInt8) : Int := if Lib.compareBytes a c = 0 then Lib.compareBytes b d else Lib.compareBytes a c

theorem uc_range (a b c d : List UInt8) : uc a b c d = -1 ∨ uc a b c d = 0 ∨ uc a b c d = 1 := by
  unfold uc; split
  · exact cb_range _ _
  · exact cb_range _ _

theorem uc_neg (a b c d : List UInt8) : uc a b c d = - uc c d a b := by
  unfold uc
  have h := cb_neg a c
  by_cases k : Lib.compareBytes a c = 0
  · have k2 : Lib.compareBytes c a = 0 := by omega
    rw [if_pos k, if_pos k2]; exact cb_neg _ _
  · have k2 : ¬ Lib.compareBytes c a = 0 := by omega
    rw [if_neg k, if_neg k2]; exact h

theorem uc_zero (a b c d : List UInt8) : uc a b c d = 0 ↔ a = c ∧ b = d := by
  unfold uc
  by_cases k : Lib.compareBytes a c = 0
  · rw [if_pos k, cb_zero]
    exact ⟨fun h => ⟨(cb_zero _ _).1 k, h⟩, fun h => h.2⟩
  · rw [if_neg k]
    exact ⟨fun h => absurd h k, fun h => absurd ((cb_zero _ _).2 h.1) k⟩

theorem uc_trans (a b c d e f : List UInt8) (h1 : uc a b c d ≤ 0) (h2 : uc c d e f ≤ 0) : uc a b e f ≤ 0 := by
  unfold uc at h1 h2 ⊢
  by_cases k1 : Lib.compareBytes a c = 0
  · rw [if_pos k1] at h1
    have e1 := (cb_zero _ _).1 k1
    subst e1
    by_cases k2 : Lib.compareBytes a e = 0
    · rw [if_pos k2] at h2
      rw [if_pos k2]; exact cb_trans _ _ _ h1 h2
    · rw [if_neg k2] at h2
      rw [if_neg k2]; exact h2
  · rw [if_neg k1] at h1
    by_cases k2 : Lib.compareBytes c e = 0
    · have e2 := (cb_zero _ _).1 k2
      subst e2
      rw [if_neg k1]; exact h1
    · rw [if_neg k2] at h2
      have h3 := cb_trans _ _ _ h1 h2
      by_cases k3 : Lib.compareBytes a e = 0
      · have e3 := (cb_zero _ _).1 k3
        subst e3
        have := cb_neg a c
        omega
      · rw [if_neg k3]; exact h3

/-- One step at place k. -/
theorem cb_step (s t : ByteArray) (k : Nat) (hs : k < s.size) (ht : k < t.size) :
    Lib.compareBytes (s.data.toList.drop k) (t.data.toList.drop k) = if (s[k].toNat : Int) < (t[k].toNat : Int) then -1 else if (t[k].toNat : Int) < (s[k].toNat : Int) then 1 else Lib.compareBytes (s.data.toList.drop (k + 1)) (t.data.toList.drop (k + 1)) := by
  have e1 : s.data.toList.drop k = s[k] :: s.data.toList.drop (k + 1) := by
    rw [List.drop_eq_getElem_cons (by simpa using hs)]; rfl
  have e2 : t.data.toList.drop k = t[k] :: t.data.toList.drop (k + 1) := by
    rw [List.drop_eq_getElem_cons (by simpa using ht)]; rfl
  rw [e1, e2, cb_cons]
  simp only [UInt8.lt_iff_toNat_lt, Int.ofNat_lt]

/-- Where one of them is at its end: by their lengths. -/
theorem cb_end (s t : ByteArray) (k : Nat) (hk : k ≤ s.size) (hk2 : k ≤ t.size) (h : k = s.size ∨ k = t.size) :
    Lib.compareBytes (s.data.toList.drop k) (t.data.toList.drop k) = if s.size < t.size then -1 else if t.size < s.size then 1 else 0 := by
  have ls : s.data.toList.length = s.size := by simp
  have lt : t.data.toList.length = t.size := by simp
  rcases h with h | h
  · rw [List.drop_of_length_le (by omega : s.data.toList.length ≤ k)]
    by_cases q : s.size < t.size
    · rw [if_pos q]
      rw [List.drop_eq_getElem_cons (by omega : k < t.data.toList.length)]; rfl
    · rw [if_neg q, if_neg (by omega), List.drop_of_length_le (by omega : t.data.toList.length ≤ k)]; rfl
  · rw [List.drop_of_length_le (by omega : t.data.toList.length ≤ k)]
    by_cases q : t.size < s.size
    · rw [if_neg (by omega), if_pos q]
      rw [List.drop_eq_getElem_cons (by omega : k < s.data.toList.length)]; rfl
    · rw [if_neg (by omega), if_neg q, List.drop_of_length_le (by omega : s.data.toList.length ≤ k)]; rfl

end Go.Proofs.Ytjbjheeigdblkab
