/- Names with their values, in the names' order, make a record that is a value, falls into its Fields, and tells by each name what came with it. No program is named here. -/
import Derived.Test.YthmfgnofhbmogabSetV
import Derived.Test.YthmfgnofhbmogabRecL
import Derived.Test.YthmfgnofhbmogabGet
namespace Go.Proofs.Ythmfgnofhbmogab
set_option linter.unusedVariables false

theorem field_ok {s : ByteArray} (h : nfault s.data.toList = 0) : ndOk ⟨7, 0, s, ⟨#[]⟩⟩ = true := by simp [ndOk, h]

theorem strictR_loop (g : Nat) : ∀ (l : List Fd) (last : ByteArray), RStrict l → (∀ p ∈ l, nfault p.1.data.toList = 0 ∧ vfault p.2 = 0) → (∀ p ∈ l, p.2.length + 1 ≤ g) → (∀ p ∈ l, cmpB last p.1 < 0) → recLoop (pastV g) l.length last (l.map itemOf).flatten = some []
  | [], _, _, _, _, _ => rfl
  | p :: l, last, hs, hv, hg, ha => by
    have hs' := List.pairwise_cons.1 hs
    simp only [List.length_cons, List.map_cons, List.flatten_cons, itemOf, List.cons_append, recLoop]
    rw [if_pos ⟨trivial, field_ok (hv p (by simp)).1, ha p (by simp)⟩, value_behind (hv p (by simp)).2 _ (hg p (by simp))]
    exact strictR_loop g l p.1 hs'.2 (fun q hq => hv q (by simp [hq])) (fun q hq => hg q (by simp [hq])) (fun q hq => hs'.1 q hq)

theorem mem_fsize {l : List Fd} {p : Fd} (h : p ∈ l) : p.2.length + 1 ≤ fsize l := by
  induction l with
  | nil => cases h
  | cons a l ih =>
    simp only [fsize]
    rcases List.mem_cons.1 h with rfl | h
    · omega
    · have := ih h; omega

theorem recN_value {l : List Fd} (hs : RStrict l) (hv : ∀ p ∈ l, nfault p.1.data.toList = 0 ∧ vfault p.2 = 0) (hl : (recN l).length ≤ 200) : vfault (recN l) = 0 := by
  have h1 : pastV ((recN l).length + 1) (recN l) = some [] := by
    have h2 := strictR_loop (recN l).length l ⟨#[]⟩ hs hv (fun p hm => by have := mem_fsize hm; rw [recN_length]; omega) (fun p hp => name_ahead (x := ⟨7, 0, p.1, ⟨#[]⟩⟩) rfl (field_ok (hv p hp).1))
    unfold recN at h2 ⊢
    simp only [pastV]
    rw [if_pos ⟨by decide, by simp [ndOk]⟩, if_neg (by decide), if_pos trivial]
    simpa using h2
  unfold vfault
  rw [if_neg (by omega), if_pos]
  unfold isVal
  rw [h1]
  rfl

theorem items_segs (g : Nat) : ∀ (l : List Fd), (∀ p ∈ l, vfault p.2 = 0) → (∀ p ∈ l, p.2.length + 1 ≤ g) → Segs g (l.map itemOf).flatten (l.map itemOf)
  | [], _, _ => .nil
  | p :: l, hv, hg => by
    refine .cons (a := itemOf p) ?_ (items_segs g l (fun u hu => hv u (by simp [hu])) (fun u hu => hg u (by simp [hu])))
    simp only [itemOf, List.cons_append, itemP]
    rw [if_pos trivial]
    exact value_behind (hv p (by simp)) _ (hg p (by simp))

theorem findS_item {l : List Fd} (hs : RStrict l) {p : Fd} (hp : p ∈ l) : findS p.1 (l.map itemOf) = some p.2 := by
  induction l with
  | nil => cases hp
  | cons a l ih =>
    have hs' := List.pairwise_cons.1 hs
    show (if a.1 = p.1 then some a.2 else findS p.1 (l.map itemOf)) = some p.2
    rcases List.mem_cons.1 hp with rfl | hp
    · rw [if_pos rfl]
    · have := hs'.1 p hp
      rw [if_neg (fun e => by rw [e, cmpB_self] at this; omega)]
      exact ih hs'.2 hp
end Go.Proofs.Ythmfgnofhbmogab
