/- The statement WordSpells returns true of all words: a walk of its own text over the contracts of package word and of the document. -/
import Derived.Test.YtmcjogfopfhblaaDoorWdRefF
import Derived.Test.YtmcjogfopfhblaaDoorChain
namespace Go.Proofs.YtmcjogfopfhblaaDoor
open Go.RowKit
set_option linter.unusedVariables false

theorem fact_one : spellL [⟨1, ⟨#[97]⟩, 0⟩] = .ok [97] := by
  unfold spellL
  rw [if_neg (by decide), if_pos (by rfl), if_neg (by decide)]
  rfl
theorem TKL.one (w : World) (t : Tk) : TKL (w.alloc (.cells #[.int .i64 t.kind, .string t.s, .int .i64 t.at_] 36)) (some ⟨w.heap.size, 0, none⟩) [t] := by
  refine .inr ⟨w.heap.size, 0, rfl, by simp, fun i x hx => ?_⟩
  rcases i with _ | i
  · simp at hx
    subst hx
    simp [go_sem]
  · simp at hx
theorem spell_err {ts : List Tk} {n : Int} (h : spellL ts = .error n) : n ≠ 0 := by
  unfold spellL at h
  split at h
  · injection h with h; subst h; decide
  · split at h
    · split at h
      · injection h with h; subst h; decide
      · cases h
    · injection h with h; subst h; decide

set_option maxHeartbeats 1000000 in
theorem wordSpells_true (ts : List Tk) (q : Option Addr) (c : Nat) (w : World) (hv : TKL w q ts) (hc : ts.length ≤ maxLen) (hs : ∀ t ∈ ts, t.s.size ≤ 140737488351232) (hg : ErrVar w) :
    Calls Tryd.prog 4 #[.slice q ts.length c] w fun e w' => e = .returned (.bool true) ∧ Below w.heap.size w w' := by
  have hb0 : Below w.heap.size w (w.alloc (.cells #[.int .i64 1, .string ⟨#[97]⟩, .int .i64 0] 36)) := (Below.refl _ _).alloc (Nat.le_refl _) _
  have HF := spell_any [⟨1, ⟨#[97]⟩, 0⟩] (some ⟨w.heap.size, 0, none⟩) 1 _ (TKL.one w ⟨1, ⟨#[97]⟩, 0⟩) (by unfold maxLen; decide) (by simp; decide)
  rw [fact_one] at HF
  have H1 := fun w' (hb : Below w.heap.size w w') => spelling_any ts q c w' (hv.up hb) hc hs
  have H2 := fun w' (hb : Below w.heap.size w w') => spell_any ts q c w' (hv.up hb) hc hs
  have Hg : Hid (ErrVar w) := hg
  clear hg hv hs
  cases hR : spellL ts with
  | ok l =>
    rw [hR] at H1 H2
    clear hR
    unfold spellR at H1
    unfold spellV at H2 HF
    simp only [] at H1 H2 HF
    generalize (⟨l.toArray⟩ : ByteArray) = B at *
    go_enter Tryd.func4, Tryd.ntmps4
    go_wp2_with fail
    refine HF.mono ?_
    rintro e w1 ⟨rfl, hb1'⟩
    have hb1 := bt2 hb0 hb1'
    go_wp2_with fail
    refine (H1 _ hb1).mono ?_
    rintro e w2 ⟨rfl, hb2'⟩
    have hb2 := bt2 hb1 hb2'
    go_wp2_with fail
    refine (H2 _ hb2).mono ?_
    rintro e w3 ⟨rfl, hb3'⟩
    have hb3 := bt2 hb2 hb3'
    have He := toldE_any 0 0 w3 (ev_up Hg.out hb3)
    rw [eV_zero] at He
    go_wp2_with fail
    refine He.mono ?_
    rintro e w4 ⟨rfl, hb4⟩
    go_wp2
    go_ret
    exact ⟨rfl, bt2 hb3 hb4⟩
  | error n =>
    have hn := spell_err hR
    rw [hR] at H1 H2
    clear hR
    unfold spellR at H1
    unfold spellV at H2 HF
    simp only [] at H1 H2 HF
    go_enter Tryd.func4, Tryd.ntmps4
    go_wp2_with fail
    refine HF.mono ?_
    rintro e w1 ⟨rfl, hb1'⟩
    have hb1 := bt2 hb0 hb1'
    go_wp2_with fail
    refine (H1 _ hb1).mono ?_
    rintro e w2 ⟨rfl, hb2'⟩
    have hb2 := bt2 hb1 hb2'
    go_wp2_with fail
    refine (H2 _ hb2).mono ?_
    rintro e w3 ⟨rfl, hb3'⟩
    have hb3 := bt2 hb2 hb3'
    have He := toldE_any n n w3 (ev_up Hg.out hb3)
    rw [eV_not hn] at He
    have ht : (n == n) = true := by simp
    rw [ht] at He
    go_wp2_with fail
    refine He.mono ?_
    rintro e w4 ⟨rfl, hb4⟩
    go_wp2
    go_ret
    exact ⟨rfl, bt2 hb3 hb4⟩
end Go.Proofs.YtmcjogfopfhblaaDoor
