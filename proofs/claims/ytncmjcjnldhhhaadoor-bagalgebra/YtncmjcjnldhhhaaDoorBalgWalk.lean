/- BagAlgebra: the walk of the statement's own function. -/
import Derived.Test.YtncmjcjnldhhhaaDoorBagAt
import Derived.Test.YtncmjcjnldhhhaaDoorChain
namespace Go.Proofs.YtncmjcjnldhhhaaDoor
open Go.RowKit
set_option linter.unusedVariables false

set_option maxRecDepth 100000 in
set_option maxHeartbeats 4000000 in
theorem balg_walk (s t u : List Nd) (v1 v2 v3 : Value) (w : World) (hg : ErrVar w) (hs : At w v1 s) (ht : At w v2 t) (hu : At w v3 u) :
    Calls Tryd.prog 4 #[v1, v2, v3] w fun e w' => e = .returned (.bool true) ∧ Below w.heap.size w w' := by
  have e1 := alloc_bel w (.cells #[.int .i64 5, .int .i64 0, .string ⟨#[]⟩, .string ⟨#[]⟩] 28)
  have e2 := alloc_bel (w.alloc (.cells #[.int .i64 5, .int .i64 0, .string ⟨#[]⟩, .string ⟨#[]⟩] 28)) (.cells #[.int .i64 5, .int .i64 1, .string ⟨#[]⟩, .string ⟨#[]⟩, .int .i64 2, .int .i64 5, .string ⟨#[]⟩, .string ⟨#[]⟩] 28)
  have hE : At ((w.alloc (.cells #[.int .i64 5, .int .i64 0, .string ⟨#[]⟩, .string ⟨#[]⟩] 28)).alloc (.cells #[.int .i64 5, .int .i64 1, .string ⟨#[]⟩, .string ⟨#[]⟩, .int .i64 2, .int .i64 5, .string ⟨#[]⟩, .string ⟨#[]⟩] 28)) (.slice (some ⟨w.heap.size, 0, none⟩) 1 1) (setN []) :=
    (At.mk (c := 1) (lit_nil w) (by decide) (by decide)).up e2
  have hO : At ((w.alloc (.cells #[.int .i64 5, .int .i64 0, .string ⟨#[]⟩, .string ⟨#[]⟩] 28)).alloc (.cells #[.int .i64 5, .int .i64 1, .string ⟨#[]⟩, .string ⟨#[]⟩, .int .i64 2, .int .i64 5, .string ⟨#[]⟩, .string ⟨#[]⟩] 28)) (.slice (some ⟨w.heap.size + 1, 0, none⟩) 2 2) (setN [num5]) := by
    have := At.mk (c := 2) (lit_num5 (w.alloc (.cells #[.int .i64 5, .int .i64 0, .string ⟨#[]⟩, .string ⟨#[]⟩] 28))) (by decide) (by decide)
    have e3 : (w.alloc (.cells #[.int .i64 5, .int .i64 0, .string ⟨#[]⟩, .string ⟨#[]⟩] 28)).heap.size = w.heap.size + 1 := by simp
    rw [e3] at this
    exact this
  have k0 := bel2 e1 e2
  have HF := union_at hE hO isSet_nil isSet_num5 (by rw [both_one]) (by decide)
  go_enter Tryd.func4, Tryd.ntmps4
  go_wp2_with fail
  refine HF.mono ?_
  rintro e w1 ⟨⟨vf, rfl, hf⟩, k1'⟩
  have k1 := bel2 k0 k1'
  replace hE := hE.up k1'
  replace hO := hO.up k1'
  clear HF k1' k0 e1 e2
  have HN := same_at hf hO
  rw [same_self] at HN
  go_wp2_with fail
  refine HN.mono ?_
  rintro e w2 ⟨rfl, k2'⟩
  have k2 := bel2 k1 k2'
  replace hE := hE.up k2'
  replace hs := hs.up k2
  replace ht := ht.up k2
  replace hu := hu.up k2
  have hgv := ev_up hg k2
  clear HN k2' k1 hf hO hg
  by_cases h : sfault s t = 0
  · obtain ⟨⟨l, hl, rfl⟩, m, hm, rfl⟩ := sfault_one.1 h
    clear h
    by_cases hfit : (setN (bothL l m)).length ≤ 200
    · have c1 := union_at hs ht hl hm rfl hfit
      go_wp2_with fail
      refine c1.mono ?_
      rintro e w3 ⟨⟨vx, rfl, hx⟩, k3'⟩
      have k3 := bel2 k2 k3'
      replace hE := hE.up k3'; replace hs := hs.up k3'; replace ht := ht.up k3'; replace hu := hu.up k3'
      clear c1 k3' k2
      have c2 := meet_at hs ht hl hm
      go_wp2_with fail
      refine c2.mono ?_
      rintro e w4 ⟨⟨vm, rfl, hM⟩, k4'⟩
      have k4 := bel2 k3 k4'
      replace hE := hE.up k4'; replace hs := hs.up k4'; replace ht := ht.up k4'; replace hu := hu.up k4'; replace hx := hx.up k4'
      clear c2 k4' k3
      have c3 := less_at hs ht hl hm
      go_wp2_with fail
      refine c3.mono ?_
      rintro e w5 ⟨⟨vl, rfl, hL⟩, k5'⟩
      have k5 := bel2 k4 k5'
      replace hE := hE.up k5'; replace hs := hs.up k5'; replace ht := ht.up k5'; replace hu := hu.up k5'; replace hx := hx.up k5'; replace hM := hM.up k5'
      clear c3 k5' k4
      have c4 := union_at ht hs hm hl (by rw [both_swap m l]) hfit
      go_wp2_with fail
      refine c4.mono ?_
      rintro e w6 ⟨⟨vy, rfl, hy⟩, k6'⟩
      have k6 := bel2 k5 k6'
      replace hE := hE.up k6'; replace hs := hs.up k6'; replace ht := ht.up k6'; replace hu := hu.up k6'; replace hx := hx.up k6'; replace hM := hM.up k6'; replace hL := hL.up k6'
      clear c4 k6' k5
      have c5 := meet_at ht hs hm hl
      rw [meet_swap hm hl] at c5
      go_wp2_with fail
      refine c5.mono ?_
      rintro e w7 ⟨⟨vn, rfl, hn⟩, k7'⟩
      have k7 := bel2 k6 k7'
      replace hE := hE.up k7'; replace hs := hs.up k7'; replace ht := ht.up k7'; replace hu := hu.up k7'; replace hx := hx.up k7'; replace hM := hM.up k7'; replace hL := hL.up k7'; replace hy := hy.up k7'
      clear c5 k7' k6
      have c6 := same_at hx hy
      rw [same_self] at c6
      go_wp2_with fail
      refine c6.mono ?_
      rintro e w8 ⟨rfl, k8'⟩
      have k8 := bel2 k7 k8'
      replace hE := hE.up k8'; replace hs := hs.up k8'; replace ht := ht.up k8'; replace hu := hu.up k8'; replace hM := hM.up k8'; replace hL := hL.up k8'; replace hn := hn.up k8'
      clear c6 k8' k7 hx hy
      have c7 := same_at hM hn
      rw [same_self] at c7
      go_wp2_with fail
      refine c7.mono ?_
      rintro e w9 ⟨rfl, k9'⟩
      have k9 := bel2 k8 k9'
      replace hE := hE.up k9'; replace hs := hs.up k9'; replace ht := ht.up k9'; replace hu := hu.up k9'; replace hM := hM.up k9'; replace hL := hL.up k9'
      clear c7 k9' k8 hn
      have hiM := isSet_meet hl m
      have hiL := isSet_less hl m
      have c8 := union_at hM hL hiM hiL (by rw [both_back hl m]) hl.short
      go_wp2_with fail
      refine c8.mono ?_
      rintro e w10 ⟨⟨vb, rfl, hb⟩, k10'⟩
      have k10 := bel2 k9 k10'
      replace hE := hE.up k10'; replace hs := hs.up k10'; replace ht := ht.up k10'; replace hu := hu.up k10'; replace hM := hM.up k10'; replace hL := hL.up k10'
      clear c8 k10' k9
      have c9 := same_at hb hs
      rw [same_self] at c9
      go_wp2_with fail
      refine c9.mono ?_
      rintro e w11 ⟨rfl, k11'⟩
      have k11 := bel2 k10 k11'
      replace hE := hE.up k11'; replace hs := hs.up k11'; replace ht := ht.up k11'; replace hu := hu.up k11'; replace hM := hM.up k11'; replace hL := hL.up k11'
      clear c9 k11' k10 hb
      have c10 := meet_at hM hL hiM hiL
      rw [meet_none] at c10
      go_wp2_with fail
      refine c10.mono ?_
      rintro e w12 ⟨⟨vz, rfl, hz⟩, k12'⟩
      have k12 := bel2 k11 k12'
      replace hE := hE.up k12'; replace hs := hs.up k12'; replace ht := ht.up k12'; replace hu := hu.up k12'; replace hL := hL.up k12'
      clear c10 k12' k11 hM
      have c11 := same_at hz hE
      rw [same_self] at c11
      go_wp2_with fail
      refine c11.mono ?_
      rintro e w13 ⟨rfl, k13'⟩
      have k13 := bel2 k12 k13'
      replace hs := hs.up k13'; replace ht := ht.up k13'; replace hu := hu.up k13'; replace hL := hL.up k13'
      clear c11 k13' k12 hz hE hiM
      by_cases h2 : sfault (setN m) u = 0
      · obtain ⟨_, n, hn, rfl⟩ := sfault_one.1 h2
        clear h2
        by_cases hfit2 : (setN (bothL m n)).length ≤ 200
        · have c12 := union_at ht hu hm hn rfl hfit2
          have hiW := isSet_both hm hn hfit2
          go_wp2_with fail
          refine c12.mono ?_
          rintro e w14 ⟨⟨vw, rfl, hW⟩, k14'⟩
          have k14 := bel2 k13 k14'
          replace hs := hs.up k14'; replace hu := hu.up k14'; replace hL := hL.up k14'
          clear c12 k14' k13 ht
          have c13 := less_at hs hW hl hiW
          rw [less_less hl m n] at c13
          go_wp2_with fail
          refine c13.mono ?_
          rintro e w15 ⟨⟨vp, rfl, hp⟩, k15'⟩
          have k15 := bel2 k14 k15'
          replace hu := hu.up k15'; replace hL := hL.up k15'
          clear c13 k15' k14 hs hW
          have c14 := less_at hL hu hiL hn
          go_wp2_with fail
          refine c14.mono ?_
          rintro e w16 ⟨⟨vq, rfl, hq⟩, k16'⟩
          have k16 := bel2 k15 k16'
          replace hp := hp.up k16'
          clear c14 k16' k15 hu hL
          have c15 := same_at hp hq
          rw [same_self] at c15
          go_wp2_with fail
          refine c15.mono ?_
          rintro e w17 ⟨rfl, k17'⟩
          have k17 := bel2 k16 k17'
          go_wp2
          go_ret
          exact ⟨rfl, k17⟩
        · have c12 := union_over ht hu hm hn hfit2
          go_wp2_with fail
          refine c12.mono ?_
          rintro e w14 ⟨rfl, k14'⟩
          have k14 := bel2 k13 k14'
          clear c12
          go_wp2
          go_ret
          exact ⟨rfl, k14⟩
      · have c12 := union_no ht hu h2
        go_wp2_with fail
        refine c12.mono ?_
        rintro e w14 ⟨rfl, k14'⟩
        have k14 := bel2 k13 k14'
        clear c12
        go_wp2
        go_ret
        exact ⟨rfl, k14⟩
    · have c1 := union_over hs ht hl hm hfit
      go_wp2_with fail
      refine c1.mono ?_
      rintro e w3 ⟨rfl, k3'⟩
      have k3 := bel2 k2 k3'
      replace hs := hs.up k3'; replace ht := ht.up k3'
      replace hgv := ev_up hgv k3'
      clear c1 k3' k2
      have c2 := meet_at hs ht hl hm
      go_wp2_with fail
      refine c2.mono ?_
      rintro e w4 ⟨⟨vm, rfl, hM⟩, k4'⟩
      have k4 := bel2 k3 k4'
      replace hs := hs.up k4'; replace ht := ht.up k4'
      replace hgv := ev_up hgv k4'
      clear c2 k4' k3
      have c3 := less_at hs ht hl hm
      go_wp2_with fail
      refine c3.mono ?_
      rintro e w5 ⟨⟨vl, rfl, hL⟩, k5'⟩
      have k5 := bel2 k4 k5'
      replace hgv := ev_up hgv k5'
      clear c3 k5' k4
      have c4 := same_errno 4 4 w5 hgv
      go_wp2_with fail
      refine c4.mono ?_
      rintro e w6 ⟨rfl, k6'⟩
      have k6 := bel2 k5 k6'
      clear c4
      go_wp2
      go_ret
      exact ⟨rfl, k6⟩
  · have c1 := union_no hs ht h
    have F1 : ∀ w', At w' v1 s → At w' v2 t → _ := fun w' a b => meet_no a b h
    have F2 : ∀ w', At w' v1 s → At w' v2 t → _ := fun w' a b => less_no a b h
    generalize sfault s t = f at *
    go_wp2_with fail
    refine c1.mono ?_
    rintro e w3 ⟨rfl, k3'⟩
    have k3 := bel2 k2 k3'
    replace hs := hs.up k3'; replace ht := ht.up k3'
    replace hgv := ev_up hgv k3'
    clear c1 k3' k2
    have c2 := F1 _ hs ht
    go_wp2_with fail
    refine c2.mono ?_
    rintro e w4 ⟨rfl, k4'⟩
    have k4 := bel2 k3 k4'
    replace hs := hs.up k4'; replace ht := ht.up k4'
    replace hgv := ev_up hgv k4'
    clear c2 k4' k3 F1
    have c3 := F2 _ hs ht
    go_wp2_with fail
    refine c3.mono ?_
    rintro e w5 ⟨rfl, k5'⟩
    have k5 := bel2 k4 k5'
    replace hgv := ev_up hgv k5'
    clear c3 k5' k4 F2
    have c4 := same_errno f 4 w5 hgv
    go_wp2_with fail
    refine c4.mono ?_
    rintro e w6 ⟨rfl, k6'⟩
    have k6 := bel2 k5 k6'
    clear c4
    cases hf4 : (f == 4)
    all_goals
      go_wp2
      go_ret
      exact ⟨rfl, k6⟩
end Go.Proofs.YtncmjcjnldhhhaaDoor
