/- ValRecs: the walk of the statement's own function. -/
import Derived.Test.YthmfgnofhbmogaaDoorRecOf
import Derived.Test.YthmfgnofhbmogaaDoorRefRec
import Derived.Test.YthmfgnofhbmogaaDoorChain
import Derived.Test.YthmfgnofhbmogaaDoorSame
namespace Go.Proofs.YthmfgnofhbmogaaDoor
open Go.RowKit
set_option linter.unusedVariables false

set_option maxRecDepth 100000 in
set_option maxHeartbeats 1000000 in
theorem vrecs_walk (names : List ByteArray) (vs : List (List Nd)) (p q : Option Addr) (c d : Nat) (w : World) (hE : ErrVar w) (hn : TL w p names) (hv : LL w q vs) (hsz : ∀ t ∈ names, t.size ≤ maxLen) (hl1 : names.length ≤ 4294967296) (hl2 : vs.length ≤ 4294967296) :
    Calls Tryd.prog 5 #[.slice p names.length c, .slice q vs.length d] w fun e w' => e = .returned (.bool true) ∧ Below w.heap.size w w' := by
  by_cases hl : names.length = vs.length
  · by_cases h : rfault [] (names.zip vs) = 0
    · have H1 := refRec_ok names vs p q c d w hn hv hl hsz hl1 h
      have H2 := fun w' (hb : Below w.heap.size w w') => recOf_ok names vs p q c d w' (hn.up hb) (hv.up hb) hl hsz hl1 h
      clear h hl
      by_cases hfit : (recN (recS (names.zip vs))).length ≤ 200
      · simp only [RecRet, RecRetV, if_pos hfit] at H1 H2
        generalize recN (recS (names.zip vs)) = S at *
        have hS : (sameNd S S) = true := (sameNd_iff S S).2 rfl
        have hSm : S.length ≤ maxLen := by unfold maxLen; omega
        go_enter Tryd.func5, Tryd.ntmps5
        go_wp2_with fail
        refine H1.mono ?_
        rintro e w1 ⟨⟨q1, c1, rfl, hn1⟩, k1⟩
        go_wp2_with fail
        refine (H2 _ k1).mono ?_
        rintro e w2 ⟨⟨q2, c2, rfl, hn2, _, _⟩, k2'⟩
        have k2 := bt2 k1 k2'
        have hn1' := hn1.up k2'
        go_wp2_with fail
        refine (toldE_any 0 0 _ (ev_up hE k2)).mono ?_
        rintro e w3 ⟨rfl, k3'⟩
        have k3 := bt2 k2 k3'
        have hN := sameNodes_any S S q2 q1 c2 c1 w3 (hn2.up k3') (hn1'.up k3') hSm hSm
        rw [hS] at hN
        go_wp2_with fail
        refine hN.mono ?_
        rintro e w4 ⟨rfl, n4, rfl⟩
        have k4 := below_nn k3 n4
        clear H1 H2 hN k1 k2 k3 k2' k3' hn1 hn1' hn2
        go_wp2
        go_ret
        exact ⟨rfl, k4⟩
      · simp only [RecRet, RecRetV, if_neg hfit] at H1 H2
        go_enter Tryd.func5, Tryd.ntmps5
        go_wp2_with fail
        refine H1.mono ?_
        rintro e w1 ⟨rfl, k1⟩
        go_wp2_with fail
        refine (H2 _ k1).mono ?_
        rintro e w2 ⟨rfl, k2'⟩
        have k2 := bt2 k1 k2'
        go_wp2_with fail
        refine (toldE_any 4 4 _ (ev_up hE k2)).mono ?_
        rintro e w3 ⟨rfl, k3'⟩
        have k3 := bt2 k2 k3'
        have hN := sameNodes_any [] [] none none 0 0 w3 (.inl rfl) (.inl rfl) (Nat.zero_le _) (Nat.zero_le _)
        rw [(sameNd_iff [] []).2 rfl] at hN
        go_wp2_with fail
        refine hN.mono ?_
        rintro e w4 ⟨rfl, n4, rfl⟩
        have k4 := below_nn k3 n4
        clear H1 H2 hN k1 k2 k3 k2' k3'
        go_wp2
        go_ret
        exact ⟨rfl, k4⟩
    · have H1 := refRec_bad names vs p q c d w hn hv hl hsz hl1 h
      have H2 := fun w' (hb : Below w.heap.size w w') => recOf_bad names vs p q c d w' (hn.up hb) (hv.up hb) hl hsz hl1 h
      have hs : (rfault [] (names.zip vs) == rfault [] (names.zip vs)) = true := by simp
      generalize rfault [] (names.zip vs) = z at *
      clear hl
      go_enter Tryd.func5, Tryd.ntmps5
      go_wp2_with fail
      refine H1.mono ?_
      rintro e w1 ⟨rfl, k1⟩
      go_wp2_with fail
      refine (H2 _ k1).mono ?_
      rintro e w2 ⟨rfl, k2'⟩
      have k2 := bt2 k1 k2'
      go_wp2_with fail
      refine (toldE_any z z _ (ev_up hE k2)).mono ?_
      rintro e w3 ⟨rfl, k3'⟩
      have k3 := bt2 k2 k3'
      have hN := sameNodes_any [] [] none none 0 0 w3 (.inl rfl) (.inl rfl) (Nat.zero_le _) (Nat.zero_le _)
      rw [(sameNd_iff [] []).2 rfl] at hN
      go_wp2_with fail
      refine hN.mono ?_
      rintro e w4 ⟨rfl, n4, rfl⟩
      have k4 := below_nn k3 n4
      clear H1 H2 hN k1 k2 k3 k2' k3'
      go_wp2
      go_ret
      exact ⟨rfl, k4⟩
  · have H1 := refRec_len names.length vs.length p q c d w hl (by unfold maxLen; omega) (by unfold maxLen; omega)
    have H2 := fun w' => recOf_len names.length vs.length p q c d w' hl (by unfold maxLen; omega) (by unfold maxLen; omega)
    clear hl
    go_enter Tryd.func5, Tryd.ntmps5
    go_wp2_with fail
    refine H1.mono ?_
    rintro e w1 ⟨rfl, rfl⟩
    go_wp2_with fail
    refine (H2 _).mono ?_
    rintro e w2 ⟨rfl, rfl⟩
    go_wp2_with fail
    refine (toldE_any 1 1 _ hE).mono ?_
    rintro e w3 ⟨rfl, k3⟩
    have hN := sameNodes_any [] [] none none 0 0 w3 (.inl rfl) (.inl rfl) (Nat.zero_le _) (Nat.zero_le _)
    rw [(sameNd_iff [] []).2 rfl] at hN
    go_wp2_with fail
    refine hN.mono ?_
    rintro e w4 ⟨rfl, n4, rfl⟩
    have k4 := below_nn k3 n4
    clear H1 H2 hN k3
    go_wp2
    go_ret
    exact ⟨rfl, k4⟩
end Go.Proofs.YthmfgnofhbmogaaDoor
