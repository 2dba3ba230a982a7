/- TreePuts: the walk of the statement's own function. -/
import Derived.Test.YtnpneglipogehaaDoorTreeRu
import Derived.Test.YtnpneglipogehaaDoorSame
import Derived.Test.YtnpneglipogehaaDoorChain
namespace Go.Proofs.YtnpneglipogehaaDoor
open Go.RowKit
set_option linter.unusedVariables false

set_option maxRecDepth 100000 in
set_option maxHeartbeats 1000000 in
theorem treePuts_any (e V : List Nd) (p q : Option Addr) (c c2 : Nat) (s : ByteArray) (w : World) (hE : ErrVar w) (he : NL w p e) (hel : e.length ≤ maxLen) (hV : NL w q V) (hVl : V.length ≤ maxLen) :
    Calls Tryd.prog 3 #[.slice p e.length c, .string s, .slice q V.length c2] w fun e' w' => e' = .returned (.bool true) ∧ Below w.heap.size w w' := by
  by_cases h : pfault e V s = 0
  · have A1 := rput_ok e V p q c c2 s w he hV h
    have A2 := fun w' (k : Below w.heap.size w w') => tput_ok e V p q c c2 s w' (he.up k) (hV.up k) h
    have A3 := fun w' (k : Below w.heap.size w w') => toldE_any 0 0 w' (ev_up hE k)
    rw [show ((0 : Int) == 0) = true from rfl, eV_zero] at A3
    obtain ⟨_, _, h3⟩ := pfault_zero h
    generalize putE s V e = X at *
    go_enter Tryd.func3, Tryd.ntmps3
    go_wp2_with fail
    refine A1.mono ?_
    rintro e0 w1 ⟨g1, d1, rfl, hx1, _, _, k1⟩
    go_wp2_with fail
    refine (A2 _ k1).mono ?_
    rintro e0 w2 ⟨g2, d2, rfl, hx2, _, _, k2'⟩
    have k2 := bt2 k1 k2'
    have hx1 := hx1.up k2'
    clear k1 k2' A1 A2
    go_wp2_with fail
    refine (A3 _ k2).mono ?_
    rintro e0 w3 ⟨rfl, k3'⟩
    have k3 := bt2 k2 k3'
    have A4 := sameNodes_any X X g2 g1 d2 d1 w3 (hx2.up k3') (hx1.up k3') (by unfold maxLen; omega) (by unfold maxLen; omega)
    rw [(sameNd_iff X X).2 rfl] at A4
    clear k2 k3' A3
    go_wp2_with fail
    refine A4.mono ?_
    rintro e0 w4 ⟨rfl, n4, rfl⟩
    have k4 : Below w.heap.size w (w3.drewN n4) := ⟨k3.os, k3.tape, k3.output, k3.size, k3.block⟩
    go_wp2
    go_ret
    exact ⟨rfl, k4⟩
  · have A1 := rput_bad e V p q c c2 s w he hV hel hVl h
    have A2 := fun w' (k : Below w.heap.size w w') => tput_bad e V p q c c2 s w' (he.up k) (hV.up k) hel hVl h
    have A3 := fun w' (k : Below w.heap.size w w') => toldE_any (pfault e V s) (pfault e V s) w' (ev_up hE k)
    rw [show (pfault e V s == pfault e V s) = true by simp] at A3
    rw [eV_not h] at A2 A3
    generalize pfault e V s = pf at *
    go_enter Tryd.func3, Tryd.ntmps3
    go_wp2_with fail
    refine A1.mono ?_
    rintro e0 w1 ⟨rfl, k1⟩
    go_wp2_with fail
    refine (A2 _ k1).mono ?_
    rintro e0 w2 ⟨rfl, k2'⟩
    have k2 := bt2 k1 k2'
    clear k1 k2' A1 A2
    go_wp2_with fail
    refine (A3 _ k2).mono ?_
    rintro e0 w3 ⟨rfl, k3'⟩
    have k3 := bt2 k2 k3'
    have A4 := sameNodes_any [] [] none none 0 0 w3 (.inl rfl) (.inl rfl) (Nat.zero_le _) (Nat.zero_le _)
    rw [(sameNd_iff [] []).2 rfl] at A4
    clear k2 k3' A3
    go_wp2_with fail
    refine A4.mono ?_
    rintro e0 w4 ⟨rfl, n4, rfl⟩
    have k4 : Below w.heap.size w (w3.drewN n4) := ⟨k3.os, k3.tape, k3.output, k3.size, k3.block⟩
    go_wp2
    go_ret
    exact ⟨rfl, k4⟩
end Go.Proofs.YtnpneglipogehaaDoor
