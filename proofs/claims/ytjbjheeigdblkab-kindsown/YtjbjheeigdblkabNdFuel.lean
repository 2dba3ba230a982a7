/- What is a value does not hang on the bound that the walk is given; Fields; the document's end of a value, by number. No program is named here. -/
import Derived.Test.YtjbjheeigdblkabNd
namespace Go.Proofs.Ytjbjheeigdblkab

theorem setLoop_same {pv pw : List Nd → Option (List Nd)} {n : Nat} (h : ∀ u, u.length < n → pv u = pw u) (hs : ∀ u r, pv u = some r → r.length < u.length) :
    ∀ (k : Nat) (last : Option (List Nd)) (u : List Nd), u.length < n → setLoop pv k last u = setLoop pw k last u
  | 0, _, _, _ => rfl
  | k + 1, last, u, hu => by
    simp only [setLoop]
    rw [← h u hu]
    cases e : pv u with
    | none => rfl
    | some rest =>
      simp only []
      split
      · exact setLoop_same h hs k _ rest (by have := hs u rest e; omega)
      · rfl
theorem recLoop_same {pv pw : List Nd → Option (List Nd)} {n : Nat} (h : ∀ u, u.length < n → pv u = pw u) (hs : ∀ u r, pv u = some r → r.length < u.length) :
    ∀ (k : Nat) (last : ByteArray) (u : List Nd), u.length < n → recLoop pv k last u = recLoop pw k last u
  | 0, _, _, _ => rfl
  | _ + 1, _, [], _ => rfl
  | k + 1, last, x :: u, hu => by
    simp only [recLoop]
    rw [← h u (by simp at hu; omega)]
    split
    · cases e : pv u with
      | none => rfl
      | some rest =>
        simp only []
        exact recLoop_same h hs k _ rest (by have := hs u rest e; simp at hu; omega)
    · rfl
theorem pastV_fuel : ∀ (f g : Nat) (u : List Nd), u.length < f → u.length < g → pastV f u = pastV g u
  | 0, _, _, h, _ => absurd h (by omega)
  | _ + 1, 0, _, _, h => absurd h (by omega)
  | _ + 1, _ + 1, [], _, _ => rfl
  | f + 1, g + 1, x :: r, hf, hg => by
    simp only [List.length_cons] at hf hg
    have h : ∀ u : List Nd, u.length < r.length + 1 → pastV f u = pastV g u := fun u hu => pastV_fuel f g u (by omega) (by omega)
    have hs : ∀ u r, pastV f u = some r → r.length < u.length := fun u r e => (pastV_shorter e).1
    simp only [pastV]
    rw [setLoop_same h hs _ _ r (by omega), recLoop_same h hs _ _ r (by omega)]

/-- .. of a value, or of a Field with its value. -/
def pastF (f : Nat) (field : Bool) (u : List Nd) : Option (List Nd) :=
  if field then
    match u with
    | [] => none
    | x :: r => if x.op = 7 ∧ ndOk x = true then pastV f r else none
  else pastV f u

def endI (n : Nat) : Option (List Nd) → Int
  | none => -1
  | some r => (n : Int) - (r.length : Int)

theorem name_ahead {x : Nd} (h7 : x.op = 7) (h : ndOk x = true) : cmpB ⟨#[]⟩ x.s < 0 := by
  unfold ndOk at h
  simp [h7] at h
  have hn := h.2
  unfold cmpB
  cases e : x.s.data.toList with
  | nil => rw [e] at hn; simp [nfault, nm, pre] at hn
  | cons c l => simp [Lib.compareBytes]
end Go.Proofs.Ytjbjheeigdblkab
