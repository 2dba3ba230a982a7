/- BagAsks: the walk of the statement's own function. -/
import Derived.Test.YtncmjcjnldhhhaaDoorBagRef
import Derived.Test.YtncmjcjnldhhhaaDoorBagHas
import Derived.Test.YtncmjcjnldhhhaaDoorBagAsk
import Derived.Test.YtncmjcjnldhhhaaDoorBagLit
import Derived.Test.YtncmjcjnldhhhaaDoorChain
namespace Go.Proofs.YtncmjcjnldhhhaaDoor
open Go.RowKit
set_option linter.unusedVariables false

def tru : List Nd := [⟨1, 1, ⟨#[]⟩, ⟨#[]⟩⟩]
theorem tru_ok : vfault tru = 0 := by decide
theorem isSet_tru : IsSet [tru] := ⟨List.pairwise_singleton _ _, fun v hv => by simp at hv; subst hv; exact tru_ok, by decide⟩
theorem lit_tru (w : World) : NL (w.alloc (.cells #[.int .i64 1, .int .i64 1, .string ⟨#[]⟩, .string ⟨#[]⟩] 28)) (some ⟨w.heap.size, 0, none⟩) tru := by
  refine .inr ⟨_, _, rfl, by simp, fun i x hx => ?_⟩
  rcases i with _ | i
  · simp [tru] at hx; subst hx; simp [go_sem, Nd.wf, maxLen]
  · simp [tru] at hx
theorem lit_tset (w : World) : NL (w.alloc (.cells #[.int .i64 5, .int .i64 1, .string ⟨#[]⟩, .string ⟨#[]⟩, .int .i64 1, .int .i64 1, .string ⟨#[]⟩, .string ⟨#[]⟩] 28)) (some ⟨w.heap.size, 0, none⟩) (setN [tru]) := by
  refine .inr ⟨_, _, rfl, by simp, fun i x hx => ?_⟩
  rcases i with _ | _ | i
  · simp [setN] at hx; subst hx; simp [go_sem, Nd.wf, maxLen]
  · simp [setN, tru] at hx; subst hx; simp [go_sem, Nd.wf, maxLen]
  · simp [setN, tru] at hx
theorem count_all (l m : List (List Nd)) : (((m.filter fun v => inB l v == true).length : Int) == (m.length : Int)) = allB l m := by
  have h : ∀ m : List (List Nd), (m.filter fun v => inB l v == true).length ≤ m.length := fun m => List.length_filter_le _ _
  induction m with
  | nil => rfl
  | cons a m ih =>
    unfold allB at ih ⊢
    rw [List.all_cons, List.filter_cons]
    have hm := h m
    cases e : inB l a
    · simp only [Bool.false_and]
      rw [if_neg (by simp)]
      simp only [List.length_cons]
      rw [beq_eq_false_iff_ne]
      omega
    · simp only [Bool.true_and]
      rw [if_pos (by simp), ← ih]
      simp only [List.length_cons]
      apply bool_iff
      rw [beq_iff_eq, beq_iff_eq]
      omega
theorem count_any (l m : List (List Nd)) : decide ((0 : Int) < ((m.filter fun v => inB l v == true).length : Int)) = anyB l m := by
  apply bool_iff
  rw [decide_eq_true_iff, anyB_iff]
  constructor
  · intro h
    cases e : m.filter fun v => inB l v == true with
    | nil => rw [e] at h; simp at h
    | cons v r =>
      have : v ∈ m.filter fun v => inB l v == true := by rw [e]; simp
      have := List.mem_filter.1 this
      exact ⟨v, this.1, (inB_iff l v).1 (by simpa using this.2)⟩
  · rintro ⟨v, h1, h2⟩
    have : v ∈ m.filter fun v => inB l v == true := List.mem_filter.2 ⟨h1, by simpa using (inB_iff l v).2 h2⟩
    have := List.length_pos_of_mem this
    omega

set_option maxRecDepth 100000 in
set_option maxHeartbeats 4000000 in
theorem basks_walk (s t : List Nd) (p q : Option Addr) (c d : Nat) (w : World) (hg : ErrVar w) (hs : NL w p s) (ht : NL w q t) (hc : s.length ≤ c) (hd : t.length ≤ d) (hcm : c ≤ maxLen) (hdm : d ≤ maxLen) :
    Calls Tryd.prog 3 #[.slice p s.length c, .slice q t.length d] w fun e w' => e = .returned (.bool true) ∧ Below w.heap.size w w' := by
  have e1 := alloc_bel w (.cells #[.int .i64 5, .int .i64 1, .string ⟨#[]⟩, .string ⟨#[]⟩, .int .i64 1, .int .i64 1, .string ⟨#[]⟩, .string ⟨#[]⟩] 28)
  have e2 := alloc_bel (w.alloc (.cells #[.int .i64 5, .int .i64 1, .string ⟨#[]⟩, .string ⟨#[]⟩, .int .i64 1, .int .i64 1, .string ⟨#[]⟩, .string ⟨#[]⟩] 28)) (.cells #[.int .i64 1, .int .i64 1, .string ⟨#[]⟩, .string ⟨#[]⟩] 28)
  have HL := lit_tru (w.alloc (.cells #[.int .i64 5, .int .i64 1, .string ⟨#[]⟩, .string ⟨#[]⟩, .int .i64 1, .int .i64 1, .string ⟨#[]⟩, .string ⟨#[]⟩] 28))
  have e3 : (w.alloc (.cells #[.int .i64 5, .int .i64 1, .string ⟨#[]⟩, .string ⟨#[]⟩, .int .i64 1, .int .i64 1, .string ⟨#[]⟩, .string ⟨#[]⟩] 28)).heap.size = w.heap.size + 1 := by simp
  rw [e3] at HL
  have HF := has_ok [tru] tru (some ⟨w.heap.size, 0, none⟩) (some ⟨w.heap.size + 1, 0, none⟩) 2 1 _ ((lit_tset w).up e2) (by decide) (by decide) HL (by decide) (by decide) isSet_tru tru_ok
  rw [(inB_iff [tru] tru).2 (by simp)] at HF
  have k0 := bel2 e1 e2
  have A0 : ∀ w', Below w.heap.size w w' → Calls Tryd.prog 7 #[.slice (some ⟨w'.heap.size, 0, none⟩) 2 2] (w'.alloc (.cells #[.slice p s.length c, .slice q t.length d] 22)) fun e w'' => e = .returned (.int .i64 (cfault s t)) ∧ Below w'.heap.size w' w'' := fun w' k => by
    have hup := alloc_bel w' (.cells #[.slice p s.length c, .slice q t.length d] 22)
    have H1 := faults_any [s, t] (some ⟨w'.heap.size, 0, none⟩) 2 _ (pair_lists (hs.up k) (ht.up k) hc hd hcm hdm) (by simp [maxLen])
    rw [ffault_two] at H1
    exact H1.mono fun e w'' ⟨h1, h2⟩ => ⟨h1, bel2 hup h2⟩
  have A1 := fun w' (k : Below w.heap.size w w') => setFault_any s t p q c d w' (hs.up k) hc hcm (ht.up k) hd hdm
  go_enter Tryd.func3, Tryd.ntmps3
  go_wp2_with fail
  refine HF.mono ?_
  rintro e w1 ⟨rfl, k1'⟩
  have k1 := bel2 k0 k1'
  clear HF k1' k0 e1 e2 e3 HL
  by_cases hz : sfault s t = 0
  · obtain ⟨l, m, hl, hm, rfl, rfl⟩ := sfault_zero hz
    have hcz : cfault (setN l) (setN m) = 0 := by unfold cfault; rw [if_pos hl.value]; exact hm.value
    rw [hcz] at A0
    rw [hz] at A1
    have Aw := fun w' (k : Below w.heap.size w w') => within_any l (setN m) p q c d w' (hs.up k) hc hcm (ht.up k) (Nat.le_trans hd hdm) hl
    have Ah := fun w' (k : Below w.heap.size w w') => has_ok l (setN m) p q c d w' (hs.up k) hc hcm (ht.up k) hd hdm hl hm.value
    have A2 := fun w' (k : Below w.heap.size w w') => all_ok l m p q c d w' (hs.up k) hc hcm (ht.up k) hd hdm hl hm
    have A3 := fun w' (k : Below w.heap.size w w') => any_ok l m p q c d w' (hs.up k) hc hcm (ht.up k) hd hdm hl hm
    have hNT := NT.old ht rfl
    have Ac := fun w' (k : Below w.heap.size w w') => chosen_any m l true q p d c w.heap.size w' k.size (hNT.kept (e := 172) (Kept.of_below k (Nat.le_refl _)) (by decide)) hd hdm (hs.up k) hc hcm hm hl
    have HA : Hid (_ = _) := count_all l m
    have HY : Hid (_ = _) := count_any l m
    generalize m.filter (fun v => inB l v == true) = K at *
    obtain ⟨b, o, rfl, hbw, x0, _⟩ := (show NL w p (⟨5, l.length, ⟨#[]⟩, ⟨#[]⟩⟩ :: l.flatten) from hs).head
    obtain ⟨b', o', rfl, hbw', _, y1, _⟩ := (show NL w q (⟨5, m.length, ⟨#[]⟩, ⟨#[]⟩⟩ :: m.flatten) from ht).head
    have i0 : (0 : Int) < ((setN l).length : Int) := by simp [setN]
    have i1 : (0 : Int) < ((setN m).length : Int) := by simp [setN]
    simp only at x0 y1
    unfold maxLen at hcm hdm
    clear hs ht hl hm hcz hz hNT
    generalize (setN l).length = nl at *
    generalize (setN m).length = nm at *
    generalize inB l (setN m) = bi at *
    generalize allB l m = ba at *
    generalize anyB l m = by_ at *
    have c1 := A0 _ k1
    go_wp2_with fail
    refine c1.mono ?_
    rintro e w2 ⟨rfl, k2'⟩
    have k2 := bel2 k1 k2'
    clear c1 k2' k1 A0
    have x2 := (k2.cell (p := ⟨b, o, none⟩) hbw).trans x0
    have c2 := Aw _ k2
    go_wp2_with fail
    refine c2.mono ?_
    rintro e w3 ⟨rfl, k3'⟩
    have k3 := bel2 k2 k3'
    clear c2 k3' k2 Aw x2
    have c3 := Ah _ k3
    go_wp2_with fail
    refine c3.mono ?_
    rintro e w4 ⟨rfl, k4'⟩
    have k4 := bel2 k3 k4'
    clear c3 k4' k3 Ah
    have c4 := same_nil 0 w4
    go_wp2_with fail
    refine c4.mono ?_
    rintro e w4' ⟨rfl, rfl⟩
    clear c4
    have c5 := A1 _ k4
    have hbb : (bi != bi) = false := by cases bi <;> rfl
    cases bi
    all_goals
      go_wp2_with fail
      refine c5.mono ?_
      rintro e w5 ⟨rfl, k5'⟩
      have k5 := bel2 k4 k5'
      clear c5 k5' k4
      have c6 := Ac _ k5
      go_wp2_with fail
      refine c6.mono ?_
      rintro e w6 ⟨⟨v, rfl, hol⟩, k6'⟩
      have k6 := bel2 k5 k6'
      obtain ⟨qk, ck, rfl, _⟩ := hol.lists
      clear c6 k6' k5 hol
      have y2 := (k6.cell (p := ⟨b', o' + 1, none⟩) hbw').trans y1
      have c7 := A2 _ k6
      go_wp2_with fail
      refine c7.mono ?_
      rintro e w7 ⟨rfl, k7'⟩
      have k7 := bel2 k6 k7'
      clear c7 k7' k6 y2
      have c8 := same_nil 0 w7
      go_wp2_with fail
      refine c8.mono ?_
      rintro e w7' ⟨rfl, rfl⟩
      clear c8
      have c9 := A3 _ k7
      have ha := HA.out
      cases ba
      all_goals
        go_wp2_with fail
        refine c9.mono ?_
        rintro e w8 ⟨rfl, k8'⟩
        have k8 := bel2 k7 k8'
        clear c9 k8' k7
        have c10 := same_nil 0 w8
        go_wp2_with fail
        refine c10.mono ?_
        rintro e w8' ⟨rfl, rfl⟩
        clear c10
        have hy := HY.out
        cases by_
        · have hy2 : ¬ (0 : Int) < (K.length : Int) := of_decide_eq_false hy
          go_wp2
          go_ret
          exact ⟨by simp; exact List.eq_nil_of_length_eq_zero (by omega), k8⟩
        · have hy2 : (0 : Int) < (K.length : Int) := of_decide_eq_true hy
          go_wp2
          go_ret
          exact ⟨by simp; omega, k8⟩
  · have A2 := fun w' (k : Below w.heap.size w w') => all_bad s t p q c d w' (hs.up k) hc hcm (ht.up k) hd hdm hz
    have A3 := fun w' (k : Below w.heap.size w w') => any_bad s t p q c d w' (hs.up k) hc hcm (ht.up k) hd hdm hz
    rw [eV_not hz] at A2 A3
    by_cases hcz : cfault s t = 0
    · rw [hcz] at A0
      obtain ⟨h1, h2, h3⟩ := sfault_v hcz
      cases h5 : isSetV s
      · have hh : hfault s t = 2 := by unfold hfault; rw [if_pos hcz, h5]; simp
        have h6 : sfault s t = 2 := by rw [h3, h5]; simp
        have Ah := fun w' (k : Below w.heap.size w w') => has_bad s t p q c d w' (hs.up k) hc hcm (ht.up k) hd hdm (by rw [hh]; decide)
        rw [hh, eV_not (by decide : (2 : Int) ≠ 0)] at Ah
        rw [h6] at A1 A2 A3
        have z0 : ((2 : Int) == 0) = false := by decide
        obtain ⟨x, r, rfl, _⟩ := value_head h1
        obtain ⟨b, o, rfl, hbw, x0, _⟩ := hs.head
        have e5 : (x.op != 5) = true := by simpa [isSetV] using h5
        have i0 : (0 : Int) < ((x :: r).length : Int) := by simp
        unfold maxLen at hcm hdm
        clear hs ht hcz hz h1 h2 h3 h5 hh h6
        generalize (x :: r).length = nl at *
        obtain ⟨z, hzz⟩ : ∃ z : Int, z = 2 := ⟨_, rfl⟩
        have c1 := A0 _ k1
        go_wp2_with fail
        refine c1.mono ?_
        rintro e w2 ⟨rfl, k2'⟩
        have k2 := bel2 k1 k2'
        clear c1 k2' k1 A0
        have x2 := (k2.cell (p := ⟨b, o, none⟩) hbw).trans x0
        have c3 := Ah _ k2
        go_wp2_with fail
        refine c3.mono ?_
        rintro e w3 ⟨rfl, k3'⟩
        have k3 := bel2 k2 k3'
        clear c3 k3' k2 Ah x2
        have c4 := same_errno 2 2 w3 (ev_up hg k3)
        rw [beq_self_eq_true] at c4
        go_wp2_with fail
        refine c4.mono ?_
        rintro e w4 ⟨rfl, k4'⟩
        have k4 := bel2 k3 k4'
        clear c4 k4' k3
        rw [← hzz] at A1 A2 A3
        have z1 : (z == 0) = false := by rw [hzz]; decide
        clear hzz
        have c4 := A1 _ k4
        go_wp2_with fail
        refine c4.mono ?_
        rintro e w5 ⟨rfl, k5'⟩
        have k5 := bel2 k4 k5'
        clear c4 k5' k4 A1
        have c5 := A2 _ k5
        go_wp2_with fail
        refine c5.mono ?_
        rintro e w6 ⟨rfl, k6'⟩
        have k6 := bel2 k5 k6'
        clear c5 k6' k5 A2
        have c6 := same_errno z z w6 (ev_up hg k6)
        rw [beq_self_eq_true] at c6
        go_wp2_with fail
        refine c6.mono ?_
        rintro e w7 ⟨rfl, k7'⟩
        have k7 := bel2 k6 k7'
        clear c6 k7' k6
        have c7 := A3 _ k7
        go_wp2_with fail
        refine c7.mono ?_
        rintro e w8 ⟨rfl, k8'⟩
        have k8 := bel2 k7 k8'
        clear c7 k8' k7 A3
        have c8 := same_errno z z w8 (ev_up hg k8)
        rw [beq_self_eq_true] at c8
        go_wp2_with fail
        refine c8.mono ?_
        rintro e w9 ⟨rfl, k9'⟩
        have k9 := bel2 k8 k9'
        clear c8 k9' k8
        go_wp2
        go_ret
        exact ⟨rfl, k9⟩
      · obtain ⟨l, hl, rfl⟩ := one_row h1 h5
        have h6 : sfault (setN l) t = 2 := by
          rw [h3] at hz ⊢
          split at hz
          · exact absurd rfl hz
          · rename_i hh; rw [if_neg hh]
        rw [h6] at A1 A2 A3
        have Aw := fun w' (k : Below w.heap.size w w') => within_any l t p q c d w' (hs.up k) hc hcm (ht.up k) (Nat.le_trans hd hdm) hl
        have Ah := fun w' (k : Below w.heap.size w w') => has_ok l t p q c d w' (hs.up k) hc hcm (ht.up k) hd hdm hl h2
        obtain ⟨b, o, rfl, hbw, x0, _⟩ := (show NL w p (⟨5, l.length, ⟨#[]⟩, ⟨#[]⟩⟩ :: l.flatten) from hs).head
        have i0 : (0 : Int) < ((setN l).length : Int) := by simp [setN]
        simp only at x0
        unfold maxLen at hcm hdm
        clear hs ht hcz hz h1 h2 h3 h5 h6 hl
        generalize (setN l).length = nl at *
        generalize inB l t = bi at *
        obtain ⟨z, hzz⟩ : ∃ z : Int, z = 2 := ⟨_, rfl⟩
        have c1 := A0 _ k1
        go_wp2_with fail
        refine c1.mono ?_
        rintro e w2 ⟨rfl, k2'⟩
        have k2 := bel2 k1 k2'
        clear c1 k2' k1 A0
        have x2 := (k2.cell (p := ⟨b, o, none⟩) hbw).trans x0
        have c2 := Aw _ k2
        go_wp2_with fail
        refine c2.mono ?_
        rintro e w3 ⟨rfl, k3'⟩
        have k3 := bel2 k2 k3'
        clear c2 k3' k2 Aw x2
        have c3 := Ah _ k3
        go_wp2_with fail
        refine c3.mono ?_
        rintro e w4 ⟨rfl, k4'⟩
        have k4 := bel2 k3 k4'
        clear c3 k4' k3 Ah
        have c4 := same_nil 0 w4
        go_wp2_with fail
        refine c4.mono ?_
        rintro e w4' ⟨rfl, rfl⟩
        clear c4
        rw [← hzz] at A1 A2 A3
        have z1 : (z == 0) = false := by rw [hzz]; decide
        clear hzz
        cases bi
        all_goals
          have c4 := A1 _ k4
          go_wp2_with fail
          refine c4.mono ?_
          rintro e w5 ⟨rfl, k5'⟩
          have k5 := bel2 k4 k5'
          clear c4 k5' k4 A1
          have c5 := A2 _ k5
          go_wp2_with fail
          refine c5.mono ?_
          rintro e w6 ⟨rfl, k6'⟩
          have k6 := bel2 k5 k6'
          clear c5 k6' k5 A2
          have c6 := same_errno z z w6 (ev_up hg k6)
          rw [beq_self_eq_true] at c6
          go_wp2_with fail
          refine c6.mono ?_
          rintro e w7 ⟨rfl, k7'⟩
          have k7 := bel2 k6 k7'
          clear c6 k7' k6
          have c7 := A3 _ k7
          go_wp2_with fail
          refine c7.mono ?_
          rintro e w8 ⟨rfl, k8'⟩
          have k8 := bel2 k7 k8'
          clear c7 k8' k7 A3
          have c8 := same_errno z z w8 (ev_up hg k8)
          rw [beq_self_eq_true] at c8
          go_wp2_with fail
          refine c8.mono ?_
          rintro e w9 ⟨rfl, k9'⟩
          have k9 := bel2 k8 k9'
          clear c8 k9' k8
          go_wp2
          go_ret
          exact ⟨rfl, k9⟩
    · have hh : hfault s t = cfault s t := by unfold hfault; rw [if_neg hcz]
      have Ah := fun w' (k : Below w.heap.size w w') => has_bad s t p q c d w' (hs.up k) hc hcm (ht.up k) hd hdm (by rw [hh]; exact hcz)
      rw [hh, eV_not hcz] at Ah
      rw [sfault_c hcz] at A1 A2 A3
      have z1 : (cfault s t == 0) = false := by simpa using hcz
      clear hs ht hcz hz hh
      generalize cfault s t = z at *
      have c1 := A0 _ k1
      go_wp2_with fail
      refine c1.mono ?_
      rintro e w2 ⟨rfl, k2'⟩
      have k2 := bel2 k1 k2'
      clear c1 k2' k1 A0
      have c3 := Ah _ k2
      go_wp2_with fail
      refine c3.mono ?_
      rintro e w3 ⟨rfl, k3'⟩
      have k3 := bel2 k2 k3'
      clear c3 k3' k2 Ah
      have c4 := same_errno z z w3 (ev_up hg k3)
      rw [beq_self_eq_true] at c4
      go_wp2_with fail
      refine c4.mono ?_
      rintro e w4 ⟨rfl, k4'⟩
      have k4 := bel2 k3 k4'
      clear c4 k4' k3
      have c4 := A1 _ k4
      go_wp2_with fail
      refine c4.mono ?_
      rintro e w5 ⟨rfl, k5'⟩
      have k5 := bel2 k4 k5'
      clear c4 k5' k4 A1
      have c5 := A2 _ k5
      go_wp2_with fail
      refine c5.mono ?_
      rintro e w6 ⟨rfl, k6'⟩
      have k6 := bel2 k5 k6'
      clear c5 k6' k5 A2
      have c6 := same_errno z z w6 (ev_up hg k6)
      rw [beq_self_eq_true] at c6
      go_wp2_with fail
      refine c6.mono ?_
      rintro e w7 ⟨rfl, k7'⟩
      have k7 := bel2 k6 k7'
      clear c6 k7' k6
      have c7 := A3 _ k7
      go_wp2_with fail
      refine c7.mono ?_
      rintro e w8 ⟨rfl, k8'⟩
      have k8 := bel2 k7 k8'
      clear c7 k8' k7 A3
      have c8 := same_errno z z w8 (ev_up hg k8)
      rw [beq_self_eq_true] at c8
      go_wp2_with fail
      refine c8.mono ?_
      rintro e w9 ⟨rfl, k9'⟩
      have k9 := bel2 k8 k9'
      clear c8 k9' k8
      go_wp2
      go_ret
      exact ⟨rfl, k9⟩
end Go.Proofs.YtncmjcjnldhhhaaDoor
