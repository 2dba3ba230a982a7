/- Who is above within so many steps: with as many steps as there are entities, all that are above. No program is named here. -/
import Derived.Test.YtkpbholhempmmaaGreatDoorEntL
namespace Go.Proofs.YtkpbholhempmmaaGreatDoor
set_option linter.unusedVariables false

/-- Above within so many steps. -/
def AbvN (es : List En) : Nat → Ui → Ui → Prop
  | 0, _, _ => False
  | n + 1, a, b => ∃ x, (x = a ∨ AbvN es n a x) ∧ b ∈ upsOf es x
theorem abvN_succ {es : List En} : ∀ {n : Nat} {a b : Ui}, AbvN es n a b → AbvN es (n + 1) a b
  | 0, _, _, h => h.elim
  | n + 1, a, b, ⟨x, hx, hb⟩ => ⟨x, hx.imp id abvN_succ, hb⟩
theorem abvN_mono {es : List En} {n m : Nat} (h : n ≤ m) {a b : Ui} (k : AbvN es n a b) : AbvN es m a b := by
  induction h with
  | refl => exact k
  | step _ ih => exact abvN_succ ih
theorem abvN_abv {es : List En} : ∀ {n : Nat} {a b : Ui}, AbvN es n a b → Abv es a b
  | 0, _, _, h => h.elim
  | n + 1, a, b, ⟨x, hx, hb⟩ => by
    rcases hx with rfl | hx
    · exact .one hb
    · exact (abvN_abv hx).trans (.one hb)
theorem abvN_cons {es : List En} {a b : Ui} (hb : b ∈ upsOf es a) : ∀ {n : Nat} {c : Ui}, AbvN es n b c → AbvN es (n + 1) a c
  | 0, _, h => h.elim
  | n + 1, c, ⟨x, hx, hc⟩ => by
    refine ⟨x, .inr ?_, hc⟩
    rcases hx with rfl | hx
    · exact ⟨a, .inl rfl, hb⟩
    · exact abvN_cons hb hx
theorem abv_abvN {es : List En} {a b : Ui} (h : Abv es a b) : ∃ n, AbvN es n a b := by
  induction h with
  | one h => exact ⟨1, _, .inl rfl, h⟩
  | more h _ ih => obtain ⟨n, hn⟩ := ih; exact ⟨n + 1, abvN_cons h hn⟩

theorem countP_same {α : Type} {p q : α → Bool} : ∀ (l : List α), (∀ x ∈ l, p x = true → q x = true) → l.countP q ≤ l.countP p → ∀ x ∈ l, q x = true → p x = true
  | [], _, _, x, hx, _ => by cases hx
  | y :: l, hm, hc, x, hx, hq => by
    have hle : l.countP p ≤ l.countP q := List.countP_mono_left (fun z hz => hm z (by simp [hz]))
    rw [List.countP_cons, List.countP_cons] at hc
    have hy := hm y (by simp)
    cases hpy : p y <;> cases hqy : q y <;> simp [hpy, hqy] at hc hy
    · rcases List.mem_cons.1 hx with rfl | hx
      · rw [hqy] at hq; cases hq
      · exact countP_same l (fun z hz => hm z (by simp [hz])) hc x hx hq
    · omega
    · rcases List.mem_cons.1 hx with rfl | hx
      · exact hpy
      · exact countP_same l (fun z hz => hm z (by simp [hz])) hc x hx hq

theorem stalls (f : Nat → Nat) (n : Nat) (h0 : 1 ≤ f 0) (hn : f n ≤ n) : ∃ s, s < n ∧ f (s + 1) ≤ f s := by
  rcases Classical.em (∃ s, s < n ∧ f (s + 1) ≤ f s) with h | h
  · exact h
  · exfalso
    have hs : ∀ s, s ≤ n → s + 1 ≤ f s := by
      intro s
      induction s with
      | zero => intro _; exact h0
      | succ s ih =>
        intro hle
        have h1 := ih (by omega)
        have h2 : ¬ f (s + 1) ≤ f s := fun q => h ⟨s, by omega, q⟩
        omega
    have := hs n (Nat.le_refl _)
    omega

def ClosedAt (es : List En) (s : Nat) (a : Ui) : Prop := ∀ x v, (x = a ∨ AbvN es s a x) → v ∈ upsOf es x → AbvN es s a v
theorem ClosedAt.all {es : List En} {s : Nat} {a : Ui} (h : ClosedAt es s a) : ∀ (m : Nat) (b : Ui), AbvN es m a b → AbvN es s a b
  | 0, _, k => k.elim
  | m + 1, b, ⟨x, hx, hb⟩ => h x b (hx.imp id (h.all m x)) hb

open Classical in
theorem closed_at (es : List En) (a : Ui) : ∃ s, s ≤ es.length ∧ ClosedAt es s a := by
  rcases Classical.em (∃ e ∈ es, e.u = a) with ha | ha
  · obtain ⟨e0, he0, hea⟩ := ha
    let p : Nat → En → Bool := fun s e => decide (e.u = a ∨ AbvN es s a e.u)
    have hp0 : 1 ≤ es.countP (p 0) := List.countP_pos_iff.2 ⟨e0, he0, by simp [p, hea]⟩
    obtain ⟨s, hs, hle⟩ := stalls (fun s => es.countP (p s)) es.length hp0 List.countP_le_length
    refine ⟨s + 1, hs, fun x v hx hv => ?_⟩
    obtain ⟨e, he, rfl, _⟩ := upsOf_mem hv
    have hq := countP_same (p := p s) (q := p (s + 1)) es (fun z _ hz => by
      simp only [p, decide_eq_true_eq] at hz ⊢
      exact hz.imp id abvN_succ) hle e he (by simp only [p, decide_eq_true_eq]; exact hx)
    simp only [p, decide_eq_true_eq] at hq
    exact ⟨e.u, hq, hv⟩
  · refine ⟨0, Nat.zero_le _, fun x v hx hv => ?_⟩
    rcases hx with rfl | hx
    · obtain ⟨e, he, h1, _⟩ := upsOf_mem hv
      exact absurd ⟨e, he, h1⟩ ha
    · exact hx.elim
/-- As many steps as there are entities are enough. -/
theorem abv_iff (es : List En) (a b : Ui) : Abv es a b ↔ AbvN es es.length a b := by
  constructor
  · intro h
    obtain ⟨n, hn⟩ := abv_abvN h
    obtain ⟨s, hs, hc⟩ := closed_at es a
    exact abvN_mono hs (hc.all n b hn)
  · exact abvN_abv
end Go.Proofs.YtkpbholhempmmaaGreatDoor
