/- Names as lists of bytes: letters, digits, which lists are names, and the number of what is told of one. No program is named here. -/
import Derived.Lib.Strings
namespace Go.Proofs.Ytjbjheeigdblkab

def letb (c : UInt8) : Bool := decide (65 ≤ c.toNat) && decide (c.toNat ≤ 90) || decide (97 ≤ c.toNat) && decide (c.toNat ≤ 122) || c.toNat == 95
def digb (c : UInt8) : Bool := decide (48 ≤ c.toNat) && decide (c.toNat ≤ 57)
/-- A list that may begin a name. -/
def pre : List UInt8 → Bool
  | [] => true
  | c :: r => letb c && r.all fun d => letb d || digb d
/-- A name, of any length. -/
def nm (l : List UInt8) : Bool := pre l && !l.isEmpty
/-- 0: a name; 1: it is none; 4: it is too long. -/
def nfault (l : List UInt8) : Int := if nm l then (if 20 < l.length then 4 else 0) else 1

theorem pre_left {l m : List UInt8} (h : pre (l ++ m) = true) : pre l = true := by
  cases l with
  | nil => rfl
  | cons c r =>
    simp only [List.cons_append, pre, Bool.and_eq_true, List.all_append] at h ⊢
    exact ⟨h.1, h.2.1⟩
theorem pre_snoc (l : List UInt8) (c : UInt8) : pre (l ++ [c]) = (pre l && (letb c || (!l.isEmpty && digb c))) := by
  cases l with
  | nil => simp [pre]
  | cons d r => simp [pre, Bool.and_assoc]
theorem pre_bad (s : ByteArray) (k : Nat) (h : k < s.size) (hb : (letb s[k] || (!(k == 0) && digb s[k])) = false) : pre s.data.toList = false := by
  have hl : s.data.toList.length = s.size := by simp
  cases hp : pre s.data.toList with
  | false => rfl
  | true =>
    have e : s.data.toList.take (k + 1) = s.data.toList.take k ++ [s[k]] := by
      rw [List.take_succ_eq_append_getElem (by omega)]; rfl
    have h1 : pre (s.data.toList.take (k + 1)) = true := pre_left (m := s.data.toList.drop (k + 1)) (by rw [List.take_append_drop]; exact hp)
    rw [e, pre_snoc] at h1
    have h2 : (s.data.toList.take k).isEmpty = (k == 0) := by
      cases k with
      | zero => rfl
      | succ j =>
        have : (s.data.toList.take (j + 1)).length = j + 1 := by rw [List.length_take]; omega
        cases ht : s.data.toList.take (j + 1) with
        | nil => rw [ht] at this; simp at this
        | cons x y => rfl
    rw [h2, hb] at h1
    simp at h1
theorem pre_go (s : ByteArray) (k : Nat) (h : k < s.size) (hp : pre (s.data.toList.take k) = true) (hb : (letb s[k] || (!(k == 0) && digb s[k])) = true) : pre (s.data.toList.take (k + 1)) = true := by
  have hl : s.data.toList.length = s.size := by simp
  have e : s.data.toList.take (k + 1) = s.data.toList.take k ++ [s[k]] := by
    rw [List.take_succ_eq_append_getElem (by omega)]; rfl
  rw [e, pre_snoc, hp, Bool.true_and]
  have h2 : (s.data.toList.take k).isEmpty = (k == 0) := by
    cases k with
    | zero => rfl
    | succ j =>
      have : (s.data.toList.take (j + 1)).length = j + 1 := by rw [List.length_take]; omega
      cases ht : s.data.toList.take (j + 1) with
      | nil => rw [ht] at this; simp at this
      | cons x y => rfl
  rw [h2]; exact hb
theorem nm_of_bad {l : List UInt8} (h : pre l = false) : nm l = false := by unfold nm; rw [h]; rfl
theorem nm_of_pre {l : List UInt8} (h : pre l = true) : nm l = !l.isEmpty := by unfold nm; rw [h]; rfl
theorem empty_size (s : ByteArray) : s.data.toList.isEmpty = (s.size == 0) := by
  have : s.data.toList.length = s.size := by simp
  cases h : s.data.toList with
  | nil => rw [h] at this; simp at this; simp [← this]
  | cons x y => rw [h] at this; simp at this; simp [← this]
end Go.Proofs.Ytjbjheeigdblkab
