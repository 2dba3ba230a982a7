/- ValSets: the walk of the statement's own function. -/
import Derived.Test.YthmfgnofhbmogaaDoorSetOf
import Derived.Test.YthmfgnofhbmogaaDoorVpartsWalk
namespace Go.Proofs.YthmfgnofhbmogaaDoor
open Go.RowKit
set_option linter.unusedVariables false

set_option maxRecDepth 100000 in
set_option maxHeartbeats 1000000 in
theorem vsets_walk (vs : List (List Nd)) (p : Option Addr) (c : Nat) (w : World) (hE : ErrVar w) (hv : LL w p vs) (hl : vs.length ≤ 4294967296) :
    Calls Tryd.prog 4 #[.slice p vs.length c] w fun e w' => e = .returned (.bool true) ∧ Below w.heap.size w w' := by
  by_cases h : ffault vs = 0
  · have hval := (ffault_zero vs).1 h
    have hne : ∀ v ∈ vs, v ≠ [] := fun v hm => by
      obtain ⟨x, r, e, _⟩ := value_head (hval v hm)
      rw [e]; simp
    have hsh : ∀ v ∈ vs, v.length ≤ 200 := fun v hm => (isVal_past (hval v hm)).1
    have H1 := refSet_ok vs p c w hv (by omega) h hne hsh
    have H2 := fun w' (hb : Below w.heap.size w w') => setOf_ok vs p c w' (hv.up hb) hl h hne hsh
    clear hval hne hsh h
    by_cases hfit : (setN (setL vs)).length ≤ 200
    · simp only [SetRet, SetRetV, if_pos hfit] at H1 H2
      generalize setN (setL vs) = S at *
      have hS : (sameNd S S) = true := (sameNd_iff S S).2 rfl
      have hSm : S.length ≤ maxLen := by unfold maxLen; omega
      go_enter Tryd.func4, Tryd.ntmps4
      go_wp2_with fail
      refine H1.mono ?_
      rintro e w1 ⟨⟨q1, c1, rfl, hn1⟩, k1⟩
      go_wp2_with fail
      refine (H2 _ k1).mono ?_
      rintro e w2 ⟨⟨q2, c2, rfl, hn2, _, _⟩, k2'⟩
      have k2 := bt2 k1 k2'
      have hn1' := hn1.up k2'
      go_wp2_with fail
      refine (toldE_any 0 0 _ (ev_up hE k2)).mono ?_
      rintro e w3 ⟨rfl, k3'⟩
      have k3 := bt2 k2 k3'
      have hN := sameNodes_any S S q2 q1 c2 c1 w3 (hn2.up k3') (hn1'.up k3') hSm hSm
      rw [hS] at hN
      go_wp2_with fail
      refine hN.mono ?_
      rintro e w4 ⟨rfl, n4, rfl⟩
      have k4 := below_nn k3 n4
      clear H1 H2 hN k1 k2 k3 k2' k3' hn1 hn1' hn2
      go_wp2
      go_ret
      exact ⟨rfl, k4⟩
    · simp only [SetRet, SetRetV, if_neg hfit] at H1 H2
      go_enter Tryd.func4, Tryd.ntmps4
      go_wp2_with fail
      refine H1.mono ?_
      rintro e w1 ⟨rfl, k1⟩
      go_wp2_with fail
      refine (H2 _ k1).mono ?_
      rintro e w2 ⟨rfl, k2'⟩
      have k2 := bt2 k1 k2'
      go_wp2_with fail
      refine (toldE_any 4 4 _ (ev_up hE k2)).mono ?_
      rintro e w3 ⟨rfl, k3'⟩
      have k3 := bt2 k2 k3'
      have hN := sameNodes_any [] [] none none 0 0 w3 (.inl rfl) (.inl rfl) (Nat.zero_le _) (Nat.zero_le _)
      rw [(sameNd_iff [] []).2 rfl] at hN
      go_wp2_with fail
      refine hN.mono ?_
      rintro e w4 ⟨rfl, n4, rfl⟩
      have k4 := below_nn k3 n4
      clear H1 H2 hN k1 k2 k3 k2' k3'
      go_wp2
      go_ret
      exact ⟨rfl, k4⟩
  · have H1 := refSet_bad vs p c w hv (by unfold maxLen; omega) h
    have H2 := fun w' (hb : Below w.heap.size w w') => setOf_bad vs p c w' (hv.up hb) (by unfold maxLen; omega) h
    have hs : (ffault vs == ffault vs) = true := by simp
    generalize ffault vs = z at *
    go_enter Tryd.func4, Tryd.ntmps4
    go_wp2_with fail
    refine H1.mono ?_
    rintro e w1 ⟨rfl, k1⟩
    go_wp2_with fail
    refine (H2 _ k1).mono ?_
    rintro e w2 ⟨rfl, k2'⟩
    have k2 := bt2 k1 k2'
    go_wp2_with fail
    refine (toldE_any z z _ (ev_up hE k2)).mono ?_
    rintro e w3 ⟨rfl, k3'⟩
    have k3 := bt2 k2 k3'
    have hN := sameNodes_any [] [] none none 0 0 w3 (.inl rfl) (.inl rfl) (Nat.zero_le _) (Nat.zero_le _)
    rw [(sameNd_iff [] []).2 rfl] at hN
    go_wp2_with fail
    refine hN.mono ?_
    rintro e w4 ⟨rfl, n4, rfl⟩
    have k4 := below_nn k3 n4
    clear H1 H2 hN k1 k2 k3 k2' k3'
    go_wp2
    go_ret
    exact ⟨rfl, k4⟩
end Go.Proofs.YthmfgnofhbmogaaDoor
