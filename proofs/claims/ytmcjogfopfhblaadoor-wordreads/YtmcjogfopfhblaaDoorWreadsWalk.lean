/- The statement WordReads returns true of every line: a walk of its own text over the contracts of package word and of the document. -/
import Derived.Test.YtmcjogfopfhblaaDoorWordR
import Derived.Test.YtmcjogfopfhblaaDoorWdRefR
import Derived.Test.YtmcjogfopfhblaaDoorWordV
import Derived.Test.YtmcjogfopfhblaaDoorChain
namespace Go.Proofs.YtmcjogfopfhblaaDoor
open Go.RowKit
set_option linter.unusedVariables false

theorem wds_err : ∀ (n : Nat) (l : List UInt8) (acc : List Tk) (a : Nat) (y : Int × Nat), l.length ≤ n → wds l acc a = .error y → y.1 ≠ 0
  | _, [], acc, a, y, _, h => by rw [wds_nil] at h; cases h
  | 0, c :: r, _, _, _, hn, _ => by simp at hn
  | n + 1, c :: r, acc, a, y, hn, h => by
    simp only [List.length_cons] at hn
    by_cases hb : (c.toNat == 32) = true
    · rw [wds_blank hb] at h
      exact wds_err n r acc (a + 1) y (by omega) h
    · have hb' : (c.toNat == 32) = false := by simpa using hb
      cases hw : word1 (c :: r) with
      | error e =>
        rw [wds_bad hb' hw] at h
        injection h with h
        subst h
        have := word1_err hw
        simpa using this
      | ok x =>
        by_cases hf : 300 ≤ acc.length
        · rw [wds_full hb' hw hf] at h; injection h with h; subst h; simp
        · rw [wds_word hb' hw hf] at h
          exact wds_err n _ _ _ y (by simp; omega) h
theorem readL_err {l : List UInt8} {x : Int × Nat} (h : readL l = .error x) : x.1 ≠ 0 := by
  unfold readL at h
  split at h
  · injection h with h; subst h; decide
  · exact wds_err _ _ _ _ _ (Nat.le_refl _) h
theorem readL_count {l : List UInt8} {ts : List Tk} (h : readL l = .ok ts) : ts.length ≤ 300 := (by
  unfold readL at h
  split at h
  · cases h
  · exact wds_count h)

set_option maxHeartbeats 1000000 in
theorem wordReads_true (s : ByteArray) (w : World) (hs : s.size ≤ maxLen) (hg : ErrVar w) :
    Calls Tryd.prog 3 #[.string s] w fun e w' => e = .returned (.bool true) ∧ Below w.heap.size w w' := by
  have HF := read_any ⟨#[97, 32, 61, 61, 32, 53]⟩ w (by decide)
  have hfd : (⟨#[97, 32, 61, 61, 32, 53]⟩ : ByteArray).data.toList = [97, 32, 61, 61, 32, 53] := rfl
  rw [hfd, fact_read] at HF
  have H1 := fun w => words_any s w hs
  have H2 := fun w => read_any s w hs
  have Hg : Hid (ErrVar w) := hg
  clear hg hfd
  cases hR : readL s.data.toList with
  | ok ts =>
    have hc := readL_count hR
    rw [hR] at H1 H2
    clear hR
    go_enter Tryd.func3, Tryd.ntmps3
    go_wp2_with fail
    refine HF.mono ?_
    rintro e w1 ⟨⟨q0, c0, rfl, _⟩, hb1⟩
    go_wp2_with fail
    refine (H1 _).mono ?_
    rintro e w2 ⟨⟨q1, c1, rfl, hk1, _⟩, hb2⟩
    go_wp2_with fail
    refine (H2 _).mono ?_
    rintro e w3 ⟨⟨q2, c2, rfl, hk2, _⟩, hb3⟩
    have hb12 := bt2 hb1 hb2
    have hb13 := bt2 hb12 hb3
    have He := toldE_any 0 0 w3 (ev_up Hg.out hb13)
    rw [eV_zero] at He
    go_wp2_with fail
    refine He.mono ?_
    rintro e w4 ⟨rfl, hb4⟩
    go_wp2_with fail
    refine (sameTok_any ts q2 q1 c2 c1 w4 (hk2.up hb4) ((hk1.up hb3).up hb4) (by unfold maxLen; omega)).mono ?_
    rintro e w5 ⟨rfl, hb5⟩
    go_wp2
    go_ret
    exact ⟨rfl, bt2 (bt2 hb13 hb4) hb5⟩
  | error x =>
    have hx := readL_err hR
    rw [hR] at H1 H2
    clear hR
    go_enter Tryd.func3, Tryd.ntmps3
    go_wp2_with fail
    refine HF.mono ?_
    rintro e w1 ⟨⟨q0, c0, rfl, _⟩, hb1⟩
    go_wp2_with fail
    refine (H1 _).mono ?_
    rintro e w2 ⟨rfl, hb2⟩
    go_wp2_with fail
    refine (H2 _).mono ?_
    rintro e w3 ⟨rfl, hb3⟩
    have hb12 := bt2 hb1 hb2
    have hb13 := bt2 hb12 hb3
    have He := toldE_any x.1 x.1 w3 (ev_up Hg.out hb13)
    rw [eV_not hx] at He
    have ht : (x.1 == x.1) = true := by simp
    rw [ht] at He
    go_wp2_with fail
    refine He.mono ?_
    rintro e w4 ⟨rfl, hb4⟩
    go_wp2_with fail
    refine (sameTok_any [] none none 0 0 w4 (.inl rfl) (.inl rfl) (by unfold maxLen; decide)).mono ?_
    rintro e w5 ⟨rfl, hb5⟩
    go_wp2
    go_ret
    exact ⟨rfl, bt2 (bt2 hb13 hb4) hb5⟩
end Go.Proofs.YtmcjogfopfhblaaDoor
