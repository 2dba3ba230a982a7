/- PhraseSoon: the walk of the statement's own function. -/
import Derived.Test.YtpbnjdgedifnoaaGreatDoorG25
import Derived.Test.YtpbnjdgedifnoaaGreatDoorG26
import Derived.Test.YtpbnjdgedifnoaaGreatDoorG27
import Derived.Test.YtpbnjdgedifnoaaGreatDoorG24
namespace Go.Proofs.YtpbnjdgedifnoaaGreatDoor
open Go.RowKit
set_option linter.unusedVariables false
set_option maxRecDepth 100000

theorem take_spB {us : List Tk} {j : Nat} (h : ∀ t ∈ us.take j, spB t = true) (hj : j < us.length) (ht : spB us[j] = true) : ∀ t ∈ us.take (j + 1), spB t = true := by
  intro t hm
  rw [List.take_succ_eq_append_getElem hj] at hm
  rcases List.mem_append.1 hm with hm | hm
  · exact h t hm
  · rw [List.mem_singleton.1 hm]; exact ht
theorem PArg.take {w : World} {p : Option Addr} {c : Nat} {a : List Tk} (h : PArg w p c a) (i : Nat) (hi : i ≤ a.length) : PArg w p c (a.take i) := by
  refine ⟨?_, ?_, h.cm, fun t ht => h.sz t (List.mem_of_mem_take ht)⟩
  · rcases h.tk with h0 | ⟨b, o, h0, h1, h2⟩
    · left; rw [h0]; simp
    · refine .inr ⟨b, o, h0, h1, fun i' x hx => h2 i' x ?_⟩
      rw [List.getElem?_take] at hx
      split at hx
      · exact hx
      · cases hx
  · rw [List.length_take]; have := h.le; omega
theorem parse_k {ts : List Tk} {i : Nat} {k : Int} (hl : ts.length ≤ 300) (hs : AllS ts) (h : parseL ts = .error (i, k)) : k = 1 ∨ k = 4 ∨ k = 5 := by
  by_cases hk : k = 4
  · exact .inr (.inl hk)
  · obtain ⟨n, ha, _⟩ := error_parse hl hs h hk
    rcases (acc_le _ _ _ _ ha).2.2 with h | h
    · exact .inl h
    · exact .inr (.inr h)
set_option maxHeartbeats 1000000 in
theorem phraseSoon_true (a b : List Tk) (p q : Option Addr) (c1 c2 : Nat) (w : World) (ha : PArg w p c1 a) (hb : PArg w q c2 b) (hp : p = none → c1 = 0) (hq : q = none → c2 = 0) (hab : a.length + b.length ≤ 1000000000000) (he : ErrIn w) (hg : ErrVar w) :
    Calls Tryz.prog 8 #[.slice p a.length c1, .slice q b.length c2] w fun e w' => e = .returned (.bool true) ∧ Below w.heap.size w w' := by
  have HQ := quick_any ⟨#[53, 32, 41]⟩ wS w (by decide) read_wS
  have hlw : wS.length = 2 := rfl
  rw [hlw] at HQ
  have Hg : Hid (ErrVar w) := hg
  have He : Hid (ErrIn w) := he
  clear hg he
  go_enter Tryz.func8, Tryz.ntmps8
  go_wp2_with fail
  refine HQ.mono ?_
  rintro e w1 ⟨⟨q1, d1, rfl, hk1, hd1, hd2⟩, hb1⟩
  have hm : ∀ t ∈ wS.map at0, t.s.size ≤ 140737488351232 := by intro t ht; simp only [wS, List.map_cons, List.map_nil, List.mem_cons, List.not_mem_nil, or_false] at ht; rcases ht with rfl | rfl <;> decide
  have HP := parse_arg (wS.map at0) 2 rfl q1 d1 w1 ⟨hk1, hd1, hd2, hm⟩ (errIn_up He.out hb1) _ parse_wS
  clear hk1 hm hd1 hd2 hlw HQ
  go_wp2_with fail
  refine HP.mono ?_
  rintro e w2 ⟨rfl, hb2'⟩
  have hb2 := qbt hb1 hb2'
  clear hb1 hb2' HP
  have HT := toldE_any 1 1 w2 (ev_up Hg.out hb2)
  rw [eV_not (by decide)] at HT
  go_wp2_with fail
  refine HT.mono ?_
  rintro e w3 ⟨rfl, hb3'⟩
  have hb3 := qbt hb2 hb3'
  clear hb2 hb3' HT
  have hO0 := OT.lit0 w3
  obtain ⟨wE, hwE⟩ : ∃ wE, wE = w3.alloc (.cells #[] 47) := ⟨_, rfl⟩
  have hE : Below w3.heap.size w3 wE := by rw [hwE]; exact (Below.refl _ _).alloc (Nat.le_refl _) _
  rw [← hwE] at hO0
  obtain ⟨us, hus⟩ : ∃ us, us = a ++ b := ⟨_, rfl⟩
  have hlU : ([] ++ a ++ b).length = a.length + b.length := by simp
  have hnu : us.length = a.length + b.length := by rw [hus]; simp
  have HAS : Hid ([] ++ a ++ b = us) := by show _ = _; rw [hus]; simp
  have hsu : ∀ t ∈ us, t.s.size ≤ 140737488351232 := by
    rw [hus]; intro t ht
    rcases List.mem_append.1 ht with ht | ht
    · exact ha.sz t ht
    · exact hb.sz t ht
  by_cases h300 : 300 < a.length + b.length
  · have i300 : (300 : Int) < (a.length : Int) + (b.length : Int) := by omega
    go_wp2_with (at_builtin; first
      | (rw [← hwE]; refine append_toks wE rfl (.tmp 42) (.tmp 43) rfl w3.heap.size _ [] rfl hO0 a a.length rfl p c1 (ha.up (qbt hb3 hE)).tk rfl hp (by simp; omega) hE.size ?_; intro v1 wr1 ho1 hk1; have hbr1 := hE.trans hk1)
      | (refine append_toks wr1 rfl (.tmp 45) (.tmp 46) rfl w3.heap.size v1 ([] ++ a) rfl ho1 b b.length rfl q c2 (hb.up (qbt hb3 hbr1)).tk rfl hq (by simp; omega) hbr1.size ?_; intro v2 wr2 ho2 hk2; have hbr2 := hbr1.trans hk2; obtain ⟨qt, ct, e3, hkt, hct1, hct2, _⟩ := ho2.slice; rw [hlU] at e3; subst e3)
      | fail)
    go_ret
    exact ⟨rfl, qbt hb3 hbr2⟩
  have i300 : ¬ (300 : Int) < (a.length : Int) + (b.length : Int) := by omega
  go_wp2_with (at_builtin; first
    | (rw [← hwE]; refine append_toks wE rfl (.tmp 42) (.tmp 43) rfl w3.heap.size _ [] rfl hO0 a a.length rfl p c1 (ha.up (qbt hb3 hE)).tk rfl hp (by simp; omega) hE.size ?_; intro v1 wr1 ho1 hk1; have hbr1 := hE.trans hk1)
    | (refine append_toks wr1 rfl (.tmp 45) (.tmp 46) rfl w3.heap.size v1 ([] ++ a) rfl ho1 b b.length rfl q c2 (hb.up (qbt hb3 hbr1)).tk rfl hq (by simp; omega) hbr1.size ?_; intro v2 wr2 ho2 hk2; have hbr2 := hbr1.trans hk2; obtain ⟨qt, ct, e3, hkt, hct1, hct2, _⟩ := ho2.slice; rw [hlU] at e3 hct1; subst e3)
    | fail)
  rw [HAS.out] at hkt
  have hb4 := qbt hb3 hbr2
  clear ho1 ho2 hO0 hk1 hk2 hbr1 hbr2 hE hwE hb3 hq
  go_loopw [10] (fun i wr => ∃ j : Nat, j ≤ a.length + b.length ∧ i = .int .i64 j ∧ Hid (∀ t ∈ us.take j, spB t = true) ∧ Below wr2.heap.size wr2 wr) (fun i _ => a.length + b.length - (intOf i).toNat)
  case atStart => exact ⟨0, Nat.zero_le _, rfl, (by intro t ht; simp at ht), Below.refl _ _⟩
  case round =>
    obtain ⟨j, hj, rfl, Hall, hbr⟩ := hrel
    by_cases hlt : j < a.length + b.length
    · have ij : (j : Int) < (a.length : Int) + (b.length : Int) := by omega
      have hju : j < us.length := by omega
      obtain ⟨bk, off, hqt, hbw, e0, e1, e2⟩ := (hkt.up hbr).at hju
      subst hqt
      have HSp := spelt_any us[j] wr (hsu _ (List.getElem_mem hju))
      cases hsp : spB us[j] with
      | false =>
        generalize us[j] = t at *
        unfold SpeltPost at HSp
        rw [hsp] at HSp
        go_wp2_with fail
        refine HSp.mono ?_
        rintro e w5 ⟨⟨u, rfl, _⟩, hb5⟩
        go_wp2
        go_ret
        exact ⟨rfl, qbt hb4 (qbt hbr hb5)⟩
      | true =>
        have Hn : Hid (∀ t ∈ us.take (j + 1), spB t = true) := take_spB Hall.out hju hsp
        generalize us[j] = t at *
        unfold SpeltPost at HSp
        rw [hsp] at HSp
        go_wp2_with fail
        refine HSp.mono ?_
        rintro e w5 ⟨⟨u, rfl, _⟩, hb5⟩
        go_wp2
        go_roundw
        case rel => exact ⟨j + 1, by omega, by go_num, Hn, qbt hbr hb5⟩
        case measure => simp [intOf]; omega
    · obtain rfl : j = a.length + b.length := by omega
      have ij : ¬ (((a.length + b.length : Nat)) : Int) < (a.length : Int) + (b.length : Int) := by omega
      have HS : Hid (AllS us) := by
        have h := Hall.out
        rw [← hnu, List.take_length] at h
        exact h
      have hb6 := qbt hb4 hbr
      have HSU : Hid (∀ t ∈ a ++ b, t.s.size ≤ 140737488351232) := by rw [← hus]; exact hsu
      have hb64 : Below wr2.heap.size wr2 wr := hbr
      clear hsu Hall hbr hb4
      go_wp2_with fail
      refine (parse_arg a _ rfl p c1 _ (ha.up hb6) (errIn_up He.out hb6) _ rfl).mono ?_
      rintro e w7 ⟨hA, hb7'⟩
      have hb7 := qbt hb6 hb7'
      cases hR : parseL a with
      | ok x =>
        rw [hR] at hA
        obtain ⟨qa, ca, rfl, _⟩ := hA
        clear hR
        go_wp2
        go_ret
        exact ⟨rfl, hb7⟩
      | error y =>
        obtain ⟨i, k⟩ := y
        rw [hR] at hA
        have hA' : e = .returned (.tuple #[.slice none 0 0, .int .i64 (i : Int), .iface 31 (.int .i64 k)]) := hA
        subst hA'
        clear hA
        have hk0 := parse_k (by omega) (fun t ht => HS.out t (by rw [hus]; exact List.mem_append_left _ ht)) hR
        by_cases hi : i < a.length
        rotate_left
        · have ii : (a.length : Int) ≤ (i : Int) := by omega
          clear hR
          go_wp2
          go_ret
          exact ⟨rfl, hb7⟩
        have ii : ¬ (a.length : Int) ≤ (i : Int) := by omega
        have HT4 := toldE_any k 4 w7 (ev_up Hg.out hb7)
        rw [eV_not (by omega)] at HT4
        by_cases hk4 : k = 4
        · subst hk4
          clear hR
          go_wp2_with fail
          refine HT4.mono ?_
          rintro e w8 ⟨rfl, hb8⟩
          go_wp2
          go_ret
          exact ⟨rfl, qbt hb7 hb8⟩
        have hk4' : (k == 4) = false := by simpa using hk4
        rw [hk4'] at HT4
        rw [hus] at hkt
        obtain ⟨hsu1, hsu2⟩ := parse_soon (ts := a) (more := b) (by rw [List.length_append]; omega) (by rw [← hus]; exact HS.out) hR hi hk4
        clear hR
        go_wp2_with fail
        refine HT4.mono ?_
        rintro e w8 ⟨rfl, hb8'⟩
        have hb8 := qbt hb7 hb8'
        go_wp2_with fail
        refine (parse_arg (a ++ b) _ (List.length_append ..) qt ct w8 ⟨hkt.up (qbt hb64 (qbt hb7' hb8')), by rw [List.length_append]; exact hct1, hct2, HSU.out⟩ (errIn_up He.out hb8) _ hsu1).mono ?_
        rintro e w9 ⟨rfl, hb9'⟩
        have hb9 := qbt hb8 hb9'
        have HTT := told2_errno k k w9 (ev_up Hg.out hb9)
        have hkk : (k == k) = true := by simp
        rw [hkk] at HTT
        clear hsu1 hkt
        go_wp2_with fail
        refine HTT.mono ?_
        rintro e w10 ⟨rfl, hb10'⟩
        have hb10 := qbt hb9 hb10'
        obtain ⟨bp, op_, rfl, _⟩ := ha.tk.at hi
        have i0 : ¬ (i : Int) < 0 := by omega
        have hic : i ≤ c1 := by have := ha.le; omega
        have HPT := parse_arg (a.take i) i (by rw [List.length_take]; omega) (some ⟨bp, op_, none⟩) c1 w10 ((ha.up hb10).take i (by omega)) (errIn_up He.out hb10) _ rfl
        have hcm := ha.cm
        unfold maxLen at hcm
        clear HT4 HTT ha
        go_wp2_with fail
        refine HPT.mono ?_
        rintro e w11 ⟨hC, hb11'⟩
        have hb11 := qbt hb10 hb11'
        rcases hsu2 with ⟨x, hx⟩ | hx | hx
        · rw [hx] at hC
          obtain ⟨qc, cc, rfl, _⟩ := hC
          have H1 := toldE_any 0 1 w11 (ev_up Hg.out hb11)
          rw [eV_zero] at H1
          clear hx HPT
          go_wp2_with fail
          refine H1.mono ?_
          rintro e w12 ⟨rfl, hb12'⟩
          have hb12 := qbt hb11 hb12'
          have H2 := toldE_any 0 4 w12 (ev_up Hg.out hb12)
          rw [eV_zero] at H2
          go_wp2_with fail
          refine H2.mono ?_
          rintro e w13 ⟨rfl, hb13'⟩
          have hb13 := qbt hb12 hb13'
          go_wp2
          go_ret
          exact ⟨rfl, hb13⟩
        · rw [hx] at hC
          have hC' : e = .returned (.tuple #[.slice none 0 0, .int .i64 ((0 : Nat) : Int), .iface 31 (.int .i64 4)]) := hC
          subst hC'
          have H1 := toldE_any 4 1 w11 (ev_up Hg.out hb11)
          rw [eV_not (by decide)] at H1
          clear hx HPT hC
          go_wp2_with fail
          refine H1.mono ?_
          rintro e w12 ⟨rfl, hb12'⟩
          have hb12 := qbt hb11 hb12'
          have H2 := toldE_any 4 4 w12 (ev_up Hg.out hb12)
          rw [eV_not (by decide)] at H2
          go_wp2_with fail
          refine H2.mono ?_
          rintro e w13 ⟨rfl, hb13'⟩
          have hb13 := qbt hb12 hb13'
          go_wp2
          go_ret
          exact ⟨rfl, hb13⟩
        · rw [hx] at hC
          have hC' : e = .returned (.tuple #[.slice none 0 0, .int .i64 (i : Int), .iface 31 (.int .i64 1)]) := hC
          subst hC'
          have H1 := toldE_any 1 1 w11 (ev_up Hg.out hb11)
          rw [eV_not (by decide)] at H1
          clear hx HPT hC
          go_wp2_with fail
          refine H1.mono ?_
          rintro e w12 ⟨rfl, hb12'⟩
          have hb12 := qbt hb11 hb12'
          have H2 := toldE_any 1 4 w12 (ev_up Hg.out hb12)
          rw [eV_not (by decide)] at H2
          go_wp2_with fail
          refine H2.mono ?_
          rintro e w13 ⟨rfl, hb13'⟩
          have hb13 := qbt hb12 hb13'
          go_wp2
          go_ret
          exact ⟨rfl, hb13⟩
end Go.Proofs.YtpbnjdgedifnoaaGreatDoor
