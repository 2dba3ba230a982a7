/- How many names are ahead of one tells its place in the order; the size of a record as it is counted. No program is named here. -/
import Derived.Test.YthmfgnofhbmogabRecL
namespace Go.Proofs.Ythmfgnofhbmogab
set_option linter.unusedVariables false

/-- How many of the names are ahead of x. -/
def ahd (l : List ByteArray) (x : ByteArray) : Nat := l.countP fun y => decide (cmpB y x < 0)
theorem ahd_snoc (l : List ByteArray) (y x : ByteArray) : ahd (l ++ [y]) x = if cmpB y x < 0 then ahd l x + 1 else ahd l x := by
  unfold ahd
  rw [List.countP_append, List.countP_singleton]
  by_cases h : cmpB y x < 0 <;> simp [h]
theorem ahd_le (l : List ByteArray) (x : ByteArray) : ahd l x ≤ l.length := List.countP_le_length

theorem rank_of {S : List Fd} (hS : RStrict S) {r : Nat} (hr : r < S.length) : ahd (S.map Prod.fst) S[r].1 = r := by
  have e : S = S.take r ++ S[r] :: S.drop (r + 1) := by rw [← List.drop_eq_getElem_cons hr, List.take_append_drop]
  have hp : (S.take r ++ S[r] :: S.drop (r + 1)).Pairwise fun a b => cmpB a.1 b.1 < 0 := by rw [← e]; exact hS
  obtain ⟨_, h2, h3⟩ := List.pairwise_append.1 hp
  have h2' := List.pairwise_cons.1 h2
  unfold ahd
  rw [List.countP_map]
  generalize S[r] = x at *
  rw [e, List.countP_append, List.countP_cons]
  have k1 : (S.take r).countP ((fun y => decide (cmpB y x.1 < 0)) ∘ Prod.fst) = r := by
    rw [List.countP_eq_length.2 (fun a ha => by simpa using h3 a ha x (by simp))]
    simp; omega
  have k2 : (S.drop (r + 1)).countP ((fun y => decide (cmpB y x.1 < 0)) ∘ Prod.fst) = 0 := by
    rw [List.countP_eq_zero]
    intro a ha
    have h4 := h2'.1 a ha
    have h5 := cmpB_is.neg a.1 x.1
    simp; omega
  rw [k1, k2]
  simp [cmpB_self]

theorem ahd_perm {l m : List ByteArray} (h : l.Perm m) (x : ByteArray) : ahd l x = ahd m x := h.countP_eq _

/-- A name stands at the place r of the order just if so many are ahead of it. -/
theorem rank_iff {names : List ByteArray} {vs : List (List Nd)} (hl : names.length = vs.length) (hnd : names.Nodup) {i r : Nat} (hi : i < names.length) (hr : r < (recS (names.zip vs)).length) :
    ahd names names[i] = r ↔ names[i] = (recS (names.zip vs))[r].1 := by
  have hf : (names.zip vs).map Prod.fst = names := List.map_fst_zip (by omega)
  have hS := strict_recS (names.zip vs) (by rw [hf]; exact hnd)
  have hp : ((recS (names.zip vs)).map Prod.fst).Perm names := by
    have := (perm_recS (names.zip vs)).map Prod.fst
    rw [hf] at this
    exact this
  constructor
  · intro h
    have hm : names[i] ∈ (recS (names.zip vs)).map Prod.fst := hp.mem_iff.2 (List.getElem_mem _)
    obtain ⟨j, hj, e⟩ := List.mem_iff_getElem.1 hm
    rw [List.length_map] at hj
    rw [List.getElem_map] at e
    have := rank_of hS hj
    rw [ahd_perm hp, e, h] at this
    subst this
    exact e.symm
  · intro h
    rw [h, ← ahd_perm hp, rank_of hS hr]

/-- The count of nodes, which is not raised any more once it is too great. -/
def cnt : List Fd → Nat → Nat
  | [], n => n
  | p :: l, n => cnt l (if n ≤ 200 then n + (1 + p.2.length) else n)
theorem cnt_append (l m : List Fd) (n : Nat) : cnt (l ++ m) n = cnt m (cnt l n) := by
  induction l generalizing n with
  | nil => rfl
  | cons p l ih => simp only [List.cons_append, cnt, ih]
theorem cnt_full : ∀ (l : List Fd) (n : Nat), 200 < n → cnt l n = n
  | [], _, _ => rfl
  | p :: l, n, h => by simp only [cnt]; rw [if_neg (by omega)]; exact cnt_full l n h
theorem cnt_le : ∀ (l : List Fd) (n : Nat), (cnt l n ≤ 200 ↔ n + fsize l ≤ 200) ∧ (cnt l n ≤ 200 → cnt l n = n + fsize l)
  | [], n => by simp [cnt, fsize]
  | p :: l, n => by
    simp only [cnt, fsize]
    by_cases h : n ≤ 200
    · rw [if_pos h]
      have ih := cnt_le l (n + (1 + p.2.length))
      exact ⟨by rw [ih.1]; omega, fun h2 => by rw [ih.2 h2]; omega⟩
    · rw [if_neg h, cnt_full l n (by omega)]
      exact ⟨by omega, by omega⟩
theorem cnt_bound : ∀ (l : List Fd) (n : Nat), (∀ p ∈ l, p.2.length ≤ 200) → n ≤ 401 → cnt l n ≤ 401
  | [], n, _, h => h
  | p :: l, n, hl, h => by
    have hp := hl p (by simp)
    simp only [cnt]
    split
    · exact cnt_bound l _ (fun q hq => hl q (by simp [hq])) (by omega)
    · exact cnt_bound l _ (fun q hq => hl q (by simp [hq])) h

/-- The record while it is made: the head, and the first k Fields. -/
def recK (l : List Fd) (k : Nat) : List Nd := ⟨6, l.length, ⟨#[]⟩, ⟨#[]⟩⟩ :: ((l.take k).map itemOf).flatten
theorem recK_all (l : List Fd) : recK l l.length = recN l := by unfold recK recN; rw [List.take_length]
theorem recK_next {l : List Fd} {k : Nat} (h : k < l.length) : recK l (k + 1) = (recK l k ++ [⟨7, 0, l[k].1, ⟨#[]⟩⟩]) ++ l[k].2 := by
  unfold recK
  rw [List.take_succ_eq_append_getElem h, List.map_append, List.flatten_append]
  simp [itemOf]
theorem fsize_short : ∀ (l : List Fd), (∀ p ∈ l, p.2.length ≤ 200) → fsize l ≤ 201 * l.length
  | [], _ => by simp [fsize]
  | p :: l, h => by
    have h1 := fsize_short l (fun x hx => h x (by simp [hx]))
    have h2 := h p (by simp)
    simp only [fsize, List.length_cons]
    omega
end Go.Proofs.Ythmfgnofhbmogab
