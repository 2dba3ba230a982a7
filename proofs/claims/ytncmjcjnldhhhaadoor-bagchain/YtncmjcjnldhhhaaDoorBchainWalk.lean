/- BagChain: the walk of the statement's own function. -/
import Derived.Test.YtncmjcjnldhhhaaDoorBagAt
import Derived.Test.YtncmjcjnldhhhaaDoorChain
namespace Go.Proofs.YtncmjcjnldhhhaaDoor
open Go.RowKit
set_option linter.unusedVariables false

theorem ev_kind (n : Int) : (n = 0 ∧ eV n = .nilIface) ∨ (n ≠ 0 ∧ eV n = .iface 29 (.int .i64 n)) := by
  by_cases h : n = 0
  · exact .inl ⟨h, eV_nil h⟩
  · exact .inr ⟨h, eV_not h⟩

set_option maxRecDepth 100000 in
set_option maxHeartbeats 4000000 in
theorem bchain_walk (s t u : List Nd) (v1 v2 v3 : Value) (w : World) (hg : ErrVar w) (hs : At w v1 s) (ht : At w v2 t) (hu : At w v3 u) :
    Calls Tryd.prog 5 #[v1, v2, v3] w fun e w' => e = .returned (.bool true) ∧ Below w.heap.size w w' := by
  have e1 := alloc_bel w (.cells #[.int .i64 5, .int .i64 1, .string ⟨#[]⟩, .string ⟨#[]⟩, .int .i64 2, .int .i64 5, .string ⟨#[]⟩, .string ⟨#[]⟩] 28)
  have e2 := alloc_bel (w.alloc (.cells #[.int .i64 5, .int .i64 1, .string ⟨#[]⟩, .string ⟨#[]⟩, .int .i64 2, .int .i64 5, .string ⟨#[]⟩, .string ⟨#[]⟩] 28)) (.cells #[.int .i64 5, .int .i64 0, .string ⟨#[]⟩, .string ⟨#[]⟩] 28)
  have hO : At ((w.alloc (.cells #[.int .i64 5, .int .i64 1, .string ⟨#[]⟩, .string ⟨#[]⟩, .int .i64 2, .int .i64 5, .string ⟨#[]⟩, .string ⟨#[]⟩] 28)).alloc (.cells #[.int .i64 5, .int .i64 0, .string ⟨#[]⟩, .string ⟨#[]⟩] 28)) (.slice (some ⟨w.heap.size, 0, none⟩) 2 2) (setN [num5]) :=
    (At.mk (c := 2) (lit_num5 w) (by decide) (by decide)).up e2
  have hE : At ((w.alloc (.cells #[.int .i64 5, .int .i64 1, .string ⟨#[]⟩, .string ⟨#[]⟩, .int .i64 2, .int .i64 5, .string ⟨#[]⟩, .string ⟨#[]⟩] 28)).alloc (.cells #[.int .i64 5, .int .i64 0, .string ⟨#[]⟩, .string ⟨#[]⟩] 28)) (.slice (some ⟨w.heap.size + 1, 0, none⟩) 1 1) (setN []) := by
    have := At.mk (c := 1) (lit_nil (w.alloc (.cells #[.int .i64 5, .int .i64 1, .string ⟨#[]⟩, .string ⟨#[]⟩, .int .i64 2, .int .i64 5, .string ⟨#[]⟩, .string ⟨#[]⟩] 28))) (by decide) (by decide)
    have e3 : (w.alloc (.cells #[.int .i64 5, .int .i64 1, .string ⟨#[]⟩, .string ⟨#[]⟩, .int .i64 2, .int .i64 5, .string ⟨#[]⟩, .string ⟨#[]⟩] 28)).heap.size = w.heap.size + 1 := by simp
    rw [e3] at this
    exact this
  have k0 := bel2 e1 e2
  have HF := all_at hO hE isSet_num5 isSet_nil
  rw [allB_nil] at HF
  go_enter Tryd.func5, Tryd.ntmps5
  go_wp2_with fail
  refine HF.mono ?_
  rintro e w1 ⟨rfl, k1'⟩
  have k1 := bel2 k0 k1'
  clear HF k1' k0 e1 e2 hE hO
  replace hs := hs.up k1; replace ht := ht.up k1; replace hu := hu.up k1
  have hgv := ev_up hg k1
  clear hg
  by_cases h : sfault s t = 0 ∧ sfault t u = 0 ∧ sfault s u = 0
  · obtain ⟨h1, h2, h3⟩ := h
    obtain ⟨⟨l, hl, rfl⟩, m, hm, rfl⟩ := sfault_one.1 h1
    obtain ⟨_, n, hn, rfl⟩ := sfault_one.1 h2
    clear h1 h2 h3
    have HT : Hid (allB l m = true → allB m n = true → allB l n = true) := fun a b => allB_trans a b
    have c1 := all_at hs ht hl hm
    go_wp2_with fail
    refine c1.mono ?_
    rintro e w2 ⟨rfl, k2'⟩
    have k2 := bel2 k1 k2'
    replace hs := hs.up k2'; replace ht := ht.up k2'; replace hu := hu.up k2'; replace hgv := ev_up hgv k2'
    clear c1 k2' k1
    have c2 := all_at ht hu hm hn
    go_wp2_with fail
    refine c2.mono ?_
    rintro e w3 ⟨rfl, k3'⟩
    have k3 := bel2 k2 k3'
    replace hs := hs.up k3'; replace ht := ht.up k3'; replace hu := hu.up k3'; replace hgv := ev_up hgv k3'
    clear c2 k3' k2
    have c3 := all_at hs hu hl hn
    go_wp2_with fail
    refine c3.mono ?_
    rintro e w4 ⟨rfl, k4'⟩
    have k4 := bel2 k3 k4'
    replace hs := hs.up k4'; replace ht := ht.up k4'; replace hu := hu.up k4'; replace hgv := ev_up hgv k4'
    clear c3 k4' k3
    by_cases hfit : (setN (bothL m n)).length ≤ 200
    · have c4 := union_at ht hu hm hn rfl hfit
      have hiW := isSet_both hm hn hfit
      have C5 := fun w' vx (a : At w' v1 (setN l)) (b : At w' vx (setN (bothL m n))) => all_at a b hl hiW
      rw [allB_both] at C5
      clear ht hu hm hn hl hiW hfit
      generalize setN (bothL m n) = X at *
      generalize allB l m = a at *
      generalize allB m n = b at *
      generalize allB l n = d at *
      cases a <;> cases b <;> cases d
      all_goals first
        | (exact absurd (HT.out rfl rfl) (by decide))
        | (go_wp2_with fail
           refine c4.mono ?_
           rintro e w5 ⟨⟨vx, rfl, hx⟩, k5'⟩
           have k5 := bel2 k4 k5'
           have c5 := C5 w5 vx (hs.up k5') hx
           clear c4 C5 k5'
           go_wp2_with fail
           refine c5.mono ?_
           rintro e w6 ⟨rfl, k6'⟩
           have k6 := bel2 k5 k6'
           clear c5
           go_wp2
           go_ret
           exact ⟨rfl, k6⟩)
    · have c4 := union_over ht hu hm hn hfit
      clear ht hu hm hn hl hfit
      generalize allB l m = a at *
      generalize allB m n = b at *
      generalize allB l n = d at *
      cases a <;> cases b <;> cases d
      all_goals first
        | (exact absurd (HT.out rfl rfl) (by decide))
        | (go_wp2_with fail
           refine c4.mono ?_
           rintro e w5 ⟨rfl, k5'⟩
           have k5 := bel2 k4 k5'
           have c5 := same_errno 4 4 w5 (ev_up hgv k5')
           clear c4 k5'
           go_wp2_with fail
           refine c5.mono ?_
           rintro e w6 ⟨rfl, k6'⟩
           have k6 := bel2 k5 k6'
           clear c5
           go_wp2
           go_ret
           exact ⟨rfl, k6⟩)
  · have c1 := all_some hs ht
    go_wp2_with fail
    refine c1.mono ?_
    rintro e w2 ⟨⟨b1, rfl⟩, k2'⟩
    have k2 := bel2 k1 k2'
    replace hs := hs.up k2'; replace ht := ht.up k2'; replace hu := hu.up k2'
    clear c1 k2' k1
    have c2 := all_some ht hu
    go_wp2_with fail
    refine c2.mono ?_
    rintro e w3 ⟨⟨b2, rfl⟩, k3'⟩
    have k3 := bel2 k2 k3'
    replace hs := hs.up k3'; replace hu := hu.up k3'
    clear c2 k3' k2
    have c3 := all_some hs hu
    go_wp2_with fail
    refine c3.mono ?_
    rintro e w4 ⟨⟨b3, rfl⟩, k4'⟩
    have k4 := bel2 k3 k4'
    clear c3 k4' k3 hs ht hu hgv
    rcases ev_kind (sfault s t) with ⟨z1, y1⟩ | ⟨z1, y1⟩ <;> rcases ev_kind (sfault t u) with ⟨z2, y2⟩ | ⟨z2, y2⟩ <;> rcases ev_kind (sfault s u) with ⟨z3, y3⟩ | ⟨z3, y3⟩
    · exact absurd ⟨z1, z2, z3⟩ h
    all_goals
      rw [y1, y2, y3]
      clear h y1 y2 y3 z1 z2 z3
      go_wp2
      go_ret
      exact ⟨rfl, k4⟩
end Go.Proofs.YtncmjcjnldhhhaaDoor
