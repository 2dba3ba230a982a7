/- EntAbove: the walk of the statement's own function. -/
import Derived.Test.YtkpbholhempmmaaGreatDoorStoreFault
import Derived.Test.YtkpbholhempmmaaGreatDoorUSorted
import Derived.Test.YtkpbholhempmmaaGreatDoorEntAbove
import Derived.Test.YtkpbholhempmmaaGreatDoorEntIn
import Derived.Test.YtkpbholhempmmaaGreatDoorEntLies
import Derived.Test.YtkpbholhempmmaaGreatDoorEntAttrs
import Derived.Test.YtkpbholhempmmaaGreatDoorSame
import Derived.Test.YtkpbholhempmmaaGreatDoorChain
namespace Go.Proofs.YtkpbholhempmmaaGreatDoor
open Go.RowKit Go.Maps Go.WideMaps
set_option linter.unusedVariables false
set_option linter.unusedSimpArgs false

/-- The cells of two boxes. -/
structure Box2 (w : World) (n : Nat) (a b : Ui) : Prop where
  a0 : w.cell? ⟨n, 0, none⟩ = some (.string a.t)
  a1 : w.cell? ⟨n, 1, none⟩ = some (.string a.i)
  b0 : w.cell? ⟨n + 1, 0, none⟩ = some (.string b.t)
  b1 : w.cell? ⟨n + 1, 1, none⟩ = some (.string b.i)
  lt : n + 1 < w.heap.size
theorem Box2.up {w w' : World} {n : Nat} {a b : Ui} (h : Box2 w n a b) (k : Below w.heap.size w w') : Box2 w' n a b := by
  have hl := h.lt
  have q : ∀ m o, m < w.heap.size → w'.cell? ⟨m, o, none⟩ = w.cell? ⟨m, o, none⟩ := fun m o hm => k.cell (p := ⟨m, o, none⟩) hm
  exact ⟨(q _ _ (by omega)).trans h.a0, (q _ _ (by omega)).trans h.a1, (q _ _ (by omega)).trans h.b0, (q _ _ (by omega)).trans h.b1, Nat.lt_of_lt_of_le hl k.size⟩
theorem Box2.made (w : World) (a b : Ui) (t : TypeId) : Box2 ((w.alloc (.cells #[.string a.t, .string a.i] t)).alloc (.cells #[.string b.t, .string b.i] t)) w.heap.size a b := by
  refine ⟨?_, ?_, ?_, ?_, by simp⟩
  · rw [cell_old (by simp), cell_new rfl]; rfl
  · rw [cell_old (by simp), cell_new rfl]; rfl
  · rw [cell_new (by simp)]; rfl
  · rw [cell_new (by simp)]; rfl
theorem abvA_ok {es : List En} (hg : Good es) {a x : Ui} (h : Abv es a x) : UOk x := by
  induction h with
  | one h =>
    obtain ⟨e, he, _, h2⟩ := upsOf_mem h
    exact uf_ok ((hg.ups e he).2 _ (by rw [h2]; exact h))
  | more _ _ ih => exact ih
theorem inA_any (es : List En) (p : Option Addr) (c : Nat) (a b : Ui) (w : World) (hl : EL w p es) (ha : UOk a) (hb : UOk b) (h : sfault es = 0) :
    Calls Tryz.prog 11 #[.slice p es.length c, .agg #[.string a.t, .string a.i], .agg #[.string b.t, .string b.i]] w fun e w' => ∃ r, e = .returned (.tuple #[.bool r, .nilIface]) ∧ (r = true ↔ Inn es a b) ∧ Below w.heap.size w w' := by
  refine (in_any es p c a b w hl ha hb).mono ?_
  rintro e w' ⟨⟨_, r, rfl, h1⟩ | ⟨h1, _⟩, hb⟩
  · exact ⟨r, rfl, h1, hb⟩
  · exact absurd h h1
theorem inA_err (es : List En) (p : Option Addr) (c : Nat) (a b : Ui) (w : World) (hl : EL w p es) (ha : UOk a) (hb : UOk b) (h : sfault es ≠ 0) :
    Calls Tryz.prog 11 #[.slice p es.length c, .agg #[.string a.t, .string a.i], .agg #[.string b.t, .string b.i]] w fun e w' => e = .returned (.tuple #[.bool false, eV (sfault es)]) ∧ Below w.heap.size w w' := by
  refine (in_any es p c a b w hl ha hb).mono ?_
  rintro e w' ⟨⟨h1, _⟩ | ⟨_, rfl⟩, hb⟩
  · exact absurd h1 h
  · exact ⟨rfl, hb⟩
theorem toldNil_any (w : World) (hg : ErrVar w) : Calls Tryz.prog 9 #[.nilIface, .int .i64 0] w fun e w' => e = .returned (.bool true) ∧ Below w.heap.size w w' := toldE_any 0 0 w hg
theorem toldSame_any (n : Int) (w : World) (hg : ErrVar w) : Calls Tryz.prog 9 #[eV n, .int .i64 n] w fun e w' => e = .returned (.bool true) ∧ Below w.heap.size w w' := by
  have h := toldE_any n n w hg
  rw [beq_self_eq_true] at h
  exact h
theorem attrsA_found (es : List En) (p : Option Addr) (c : Nat) (x : En) (a : Ui) (hxa : x.u = a) (w : World) (hl : EL w p es) (hx : x ∈ es) (hux : UOk a) (h0 : sfault es = 0) :
    Calls Tryz.prog 12 #[.slice p es.length c, .agg #[.string a.t, .string a.i]] w fun e w' => (∃ q c', e = .returned (.tuple #[.slice q x.nd.length c', .nilIface]) ∧ NL w' q x.nd) ∧ Below w.heap.size w w' := by
  subst hxa
  exact attrs_found es p c x w hl hx hux h0
theorem sameN_any (a : List Nd) (p q : Option Addr) (c1 c2 : Nat) (w : World) (ha : NL w p a) (hb : NL w q a) (la : a.length ≤ maxLen) :
    Calls Tryz.prog 13 #[.slice p a.length c1, .slice q a.length c2] w fun e w' => e = .returned (.bool true) ∧ ∃ n, w' = w.drewN n := by
  have h := sameNodes_any a a p q c1 c2 w ha hb la la
  rw [(sameNd_iff a a).2 rfl] at h
  exact h
theorem bA {W w1 w2 : World} (h : Below W.heap.size W w1) (k : Below w1.heap.size w1 w2) : Below W.heap.size W w2 := h.trans (k.mono h.size)

/-- What is sought among the first i. -/
def FoundAt (w : World) (es : List En) (a : Ui) (i : Nat) (av wv : Value) : Prop :=
  (av = .int .i64 8 ∧ wv = .slice none 0 0 ∧ ∀ e ∈ es.take i, e.u ≠ a) ∨ ∃ x pa ca, av = .int .i64 0 ∧ wv = .slice pa x.nd.length ca ∧ x ∈ es ∧ x.u = a ∧ NL w pa x.nd
theorem FoundAt.miss {w : World} {es : List En} {a : Ui} {i : Nat} {av wv : Value} (h : FoundAt w es a i av wv) (hi : i < es.length) (hne : es[i].u ≠ a) : FoundAt w es a (i + 1) av wv := by
  rcases h with ⟨h1, h2, h3⟩ | h
  · refine .inl ⟨h1, h2, fun e he => ?_⟩
    rw [List.take_succ_eq_append_getElem hi] at he
    rcases List.mem_append.1 he with he | he
    · exact h3 e he
    · rw [List.mem_singleton.1 he]; exact hne
  · exact .inr h

set_option maxRecDepth 100000 in
set_option maxHeartbeats 16000000 in
theorem eabove_walk (es : List En) (p : Option Addr) (cp : Nat) (a b : Ui) (w : World) (hL : ErrVar w) (hl : EL w p es) (ha : UOk a) (hb : UOk b) :
    Calls Tryz.prog 3 #[.slice p es.length cp, .agg #[.string a.t, .string a.i], .agg #[.string b.t, .string b.i]] w fun e w' => e = .returned (.bool true) ∧ Below w.heap.size w w' := by
  have hbx : Below w.heap.size w ((w.alloc (.cells #[.string a.t, .string a.i] 24)).alloc (.cells #[.string b.t, .string b.i] 24)) := ((Below.refl _ _).alloc (Nat.le_refl _) _).alloc (by simp) _
  have HB : Hid (Below w.heap.size w _) := hbx
  have HX : Hid (Box2 _ _ _ _) := Box2.made w a b 24
  have HL : Hid (EL w p es) := hl
  have HV : Hid (ErrVar w) := hL
  clear hbx hl hL
  go_enter Tryz.func3, Tryz.ntmps3
  go_wp2_with fail
  refine (storeFault_any es p cp _ (HL.out.up HB.out)).mono ?_
  rintro e w1 ⟨rfl, k1⟩
  replace HB : Hid (Below w.heap.size w w1) := bA HB.out k1
  replace HX : Hid (Box2 w1 w.heap.size a b) := HX.out.up k1
  clear k1
  by_cases h0 : sfault es = 0
  · have H0 : Hid (sfault es = 0) := h0
    have HG : Hid (Good es) := sfault_zero h0
    have HF : Hid (Few es) := ⟨HG.out.few, HG.out.uniq, fun e he => (HG.out.ups e he).1⟩
    have hf16 := HG.out.few
    rw [h0]
    clear h0
    obtain ⟨a0, a1, b0, b1, lt1⟩ := HX.out
    go_wp2_with fail
    refine (ups_any es p cp a es.length _ (HL.out.up HB.out) HF.out hf16).mono ?_
    rintro e w2 ⟨q, c', M, rfl, hUL, _, _, ⟨i, hI⟩, k2⟩
    have HUM : Hid (UL w2 q M) := hUL
    have HMA : Hid (∀ x, x ∈ M ↔ Abv es a x) := hI.all
    have HMN : Hid (M.Nodup) := hI.nodup
    have hM96 := hI.small HF.out
    replace HB : Hid (Below w.heap.size w w2) := bA HB.out k2
    replace HX : Hid (Box2 w2 w.heap.size a b) := HX.out.up k2
    clear k2 hUL hI a0 a1 b0 b1 lt1
    go_wp2_with fail
    refine (sorted_any M q c' _ HUM.out HMN.out (fun x hx => abvA_ok HG.out ((HMA.out x).1 hx)) (by omega)).mono ?_
    rintro e w3 ⟨⟨q2, c2, S, rfl, hUS, hasc, hmem, hS1, hS2⟩, k3⟩
    have HUS : Hid (UL w3 q2 S) := hUS
    have HIS : Hid (IsAbove es a S) := ⟨hasc, fun x => by rw [hmem, HMA.out]⟩
    replace HB : Hid (Below w.heap.size w w3) := bA HB.out k3
    replace HX : Hid (Box2 w3 w.heap.size a b) := HX.out.up k3
    clear k3 hUS hasc hmem HUM HMA HMN
    obtain ⟨a0, a1, b0, b1, lt3⟩ := HX.out
    have hcase : (a.t.toList = b.t.toList ∧ a.i.toList = b.i.toList) ∨ (¬ a.t.toList = b.t.toList) ∨ (a.t.toList = b.t.toList ∧ ¬ a.i.toList = b.i.toList) := by
      by_cases ht : a.t.toList = b.t.toList
      · by_cases hi : a.i.toList = b.i.toList
        · exact .inl ⟨ht, hi⟩
        · exact .inr (.inr ⟨ht, hi⟩)
      · exact .inr (.inl ht)
    have HTE : Hid (a.t.toList = b.t.toList → a.i.toList = b.i.toList → a = b) := fun h1 h2 => Ui.ext' (bytes_inj (by simpa only [ByteArray.toList_eq] using h1)) (bytes_inj (by simpa only [ByteArray.toList_eq] using h2))
    rcases hcase with ⟨ht, hi⟩ | ht | ⟨ht, hi⟩
    · have HIN : Hid (∀ r, (r = true ↔ Inn es a b) → r = true) := fun r hr => hr.2 (.inl (HTE.out ht hi))
      go_wp2_with fail
      obtain ⟨w4, k4, hw4⟩ : ∃ w4, Below w3.heap.size w3 w4 ∧ w3 = w4 := ⟨w3, Below.refl _ _, rfl⟩
      rw [hw4]
      clear ht hi HTE hw4
      replace HB : Hid (Below w.heap.size w w4) := bA HB.out k4
      replace HX : Hid (Box2 w4 w.heap.size a b) := HX.out.up k4
      replace HUS : Hid (UL w4 q2 S) := HUS.out.up k4
      clear k4 a0 a1 b0 b1 lt3
      go_loopw [10, 11, 12] (fun av wv iv wr => ∃ i n : Nat, i ≤ es.length ∧ iv = .int .i64 i ∧ wr = w4.drewN n ∧ Hid (FoundAt w es a i av wv)) (fun _ _ iv _ => es.length - (intOf iv).toNat)
      case atStart => exact ⟨0, 0, Nat.zero_le _, rfl, rfl, .inl ⟨rfl, rfl, fun e he => (by simp at he)⟩⟩
      case round =>
        obtain ⟨i, n, hi, rfl, rfl, HH⟩ := hrel
        by_cases hlt : i < es.length
        · have i1 : (i : Int) < (es.length : Int) := by omega
          obtain ⟨bb, off, pu, cu, pa, ca, rfl, hbl, _, _, hNLi, _, _, _, _, _, _, g0, g1, _, g3⟩ := HL.out.at hlt
          have hq : ∀ o, w4.cell? ⟨bb, o, none⟩ = w.cell? ⟨bb, o, none⟩ := fun o => HB.out.cell (p := ⟨bb, o, none⟩) hbl
          have c0 := (hq _).trans g0
          have c1 := (hq _).trans g1
          have c3 := (hq _).trans g3
          have HMS : Hid (es[i].u ≠ a → FoundAt w es a (i + 1) u10 u11) := fun h => HH.out.miss hlt h
          have HHT : Hid (es[i].u = a → FoundAt w es a (i + 1) (.int .i64 0) (.slice pa es[i].nd.length ca)) := fun h => .inr ⟨es[i], pa, ca, rfl, rfl, List.getElem_mem hlt, h, hNLi⟩
          obtain ⟨a0, a1, _, _, lt4⟩ := HX.out
          generalize es[i] = y at c0 c1 c3 HMS HHT
          clear hq g0 g1 g3 hNLi HH
          rcases uid_cases y.u a with heq | ⟨hne, ht⟩ | ⟨hne, ii, heq, ht⟩
          · have HH2 : Hid (FoundAt w es a (i + 1) (.int .i64 0) (.slice pa y.nd.length ca)) := HHT.out heq
            rw [heq] at c0 c1
            clear HMS HHT heq
            go_wp2_with fail
            go_quiet (fail)
            go_wp2_with fail
            go_roundw
            case rel => exact ⟨i + 1, _, by omega, by go_num, rfl, HH2⟩
            case measure => simp [intOf]; omega
          · have HH2 : Hid (FoundAt w es a (i + 1) u10 u11) := HMS.out hne
            clear HMS HHT hne
            go_wp2_with fail
            go_quiet (fail)
            go_wp2_with fail
            go_roundw
            case rel => exact ⟨i + 1, _, by omega, by go_num, rfl, HH2⟩
            case measure => simp [intOf]; omega
          · have HH2 : Hid (FoundAt w es a (i + 1) u10 u11) := HMS.out hne
            rw [heq] at c0 c1
            simp only at c0 c1
            clear HMS HHT hne heq
            go_wp2_with fail
            go_quiet (fail)
            go_wp2_with fail
            go_roundw
            case rel => exact ⟨i + 1, _, by omega, by go_num, rfl, HH2⟩
            case measure => simp [intOf]; omega
        · obtain rfl : i = es.length := by omega
          have i1 : ¬ (es.length : Int) < (es.length : Int) := by omega
          generalize hwq : w4.drewN n = wq
          have HB5 : Hid (Below w.heap.size w wq) := by rw [← hwq]; exact belN HB.out n
          have HX5 : Hid (Box2 wq w.heap.size a b) := by rw [← hwq]; exact HX.out.up (belN (Below.refl _ _) n)
          have HUS5 : Hid (UL wq q2 S) := by rw [← hwq]; exact HUS.out.up (belN (Below.refl _ _) n)
          clear hwq
          rcases HH.out with ⟨rfl, rfl, hno⟩ | ⟨x, pa, ca, rfl, rfl, hxe, hxa, hNLx⟩
          · have HNO : Hid (∀ e ∈ es, e.u ≠ a) := by rw [List.take_length] at hno; exact hno
            clear hno HH
            obtain ⟨a0, a1, b0, b1, lt5⟩ := HX5.out
            go_wp2_with fail
            refine (above_ok es p cp a _ (HL.out.up HB5.out) ha H0.out).mono ?_
            rintro e w6 ⟨q6, c6, l6, rfl, hUL6, hI6, hl61, hl62, k6⟩
            obtain rfl : l6 = S := hI6.one HIS.out (fun x => Iff.rfl)
            have HUL6 : Hid (UL w6 q6 l6) := hUL6
            replace HB5 : Hid (Below w.heap.size w w6) := bA HB5.out k6
            replace HX5 : Hid (Box2 w6 w.heap.size a b) := HX5.out.up k6
            replace HUS5 : Hid (UL w6 q2 l6) := HUS5.out.up k6
            clear k6 hUL6 hI6 a0 a1 b0 b1 lt5
            go_wp2_with fail
            refine (toldNil_any _ (ev_up HV.out HB5.out)).mono ?_
            rintro e w7 ⟨rfl, k7⟩
            replace HB5 : Hid (Below w.heap.size w w7) := bA HB5.out k7
            replace HX5 : Hid (Box2 w7 w.heap.size a b) := HX5.out.up k7
            replace HUS5 : Hid (UL w7 q2 l6) := HUS5.out.up k7
            replace HUL6 : Hid (UL w7 q6 l6) := HUL6.out.up k7
            clear k7
            go_wp2_with fail
            refine (sameUids_any l6 q6 q2 c6 c2 _ HUL6.out HUS5.out (Nat.le_trans hl61 hl62)).mono ?_
            rintro e w8 ⟨rfl, n8, rfl⟩
            replace HB5 : Hid (Below w.heap.size w (w7.drewN n8)) := belN HB5.out n8
            replace HX5 : Hid (Box2 (w7.drewN n8) w.heap.size a b) := HX5.out.up (belN (Below.refl _ _) n8)
            generalize w7.drewN n8 = w8 at HB5 HX5 ⊢
            obtain ⟨a0, a1, b0, b1, lt8⟩ := HX5.out
            go_wp2_with fail
            refine (inA_any es p cp a b _ (HL.out.up HB5.out) ha hb H0.out).mono ?_
            rintro e w9 ⟨r9, rfl, hr9, k9⟩
            have hr9' := HIN.out r9 hr9
            subst hr9'
            replace HB5 : Hid (Below w.heap.size w w9) := bA HB5.out k9
            replace HX5 : Hid (Box2 w9 w.heap.size a b) := HX5.out.up k9
            clear k9 hr9 HIN a0 a1 b0 b1 lt8
            go_wp2_with fail
            refine (toldNil_any _ (ev_up HV.out HB5.out)).mono ?_
            rintro e wa ⟨rfl, ka⟩
            replace HB5 : Hid (Below w.heap.size w wa) := bA HB5.out ka
            replace HX5 : Hid (Box2 wa w.heap.size a b) := HX5.out.up ka
            clear ka
            obtain ⟨a0, a1, b0, b1, lta⟩ := HX5.out
            go_wp2_with fail
            refine (attrs_lost es p cp a _ (HL.out.up HB5.out) HNO.out ha H0.out).mono ?_
            rintro e wb ⟨rfl, kb⟩
            replace HB5 : Hid (Below w.heap.size w wb) := bA HB5.out kb
            clear kb a0 a1 b0 b1 lta
            go_wp2_with fail
            refine (toldSame_any 8 _ (ev_up HV.out HB5.out)).mono ?_
            rintro e wc ⟨rfl, kc⟩
            replace HB5 : Hid (Below w.heap.size w wc) := bA HB5.out kc
            clear kc
            go_wp2_with fail
            refine (sameN_any [] none none 0 0 _ (.inl rfl) (.inl rfl) (Nat.zero_le _)).mono ?_
            rintro e wd ⟨rfl, nd, rfl⟩
            go_wp2_with fail
            go_ret
            exact ⟨rfl, belN HB5.out _⟩
          · have HXE : Hid (x ∈ es) := hxe
            have HXA : Hid (x.u = a) := hxa
            have HNX : Hid (NL w pa x.nd) := hNLx
            clear hxe hxa hNLx HH
            obtain ⟨a0, a1, b0, b1, lt5⟩ := HX5.out
            go_wp2_with fail
            refine (above_ok es p cp a _ (HL.out.up HB5.out) ha H0.out).mono ?_
            rintro e w6 ⟨q6, c6, l6, rfl, hUL6, hI6, hl61, hl62, k6⟩
            obtain rfl : l6 = S := hI6.one HIS.out (fun x => Iff.rfl)
            have HUL6 : Hid (UL w6 q6 l6) := hUL6
            replace HB5 : Hid (Below w.heap.size w w6) := bA HB5.out k6
            replace HX5 : Hid (Box2 w6 w.heap.size a b) := HX5.out.up k6
            replace HUS5 : Hid (UL w6 q2 l6) := HUS5.out.up k6
            clear k6 hUL6 hI6 a0 a1 b0 b1 lt5
            go_wp2_with fail
            refine (toldNil_any _ (ev_up HV.out HB5.out)).mono ?_
            rintro e w7 ⟨rfl, k7⟩
            replace HB5 : Hid (Below w.heap.size w w7) := bA HB5.out k7
            replace HX5 : Hid (Box2 w7 w.heap.size a b) := HX5.out.up k7
            replace HUS5 : Hid (UL w7 q2 l6) := HUS5.out.up k7
            replace HUL6 : Hid (UL w7 q6 l6) := HUL6.out.up k7
            clear k7
            go_wp2_with fail
            refine (sameUids_any l6 q6 q2 c6 c2 _ HUL6.out HUS5.out (Nat.le_trans hl61 hl62)).mono ?_
            rintro e w8 ⟨rfl, n8, rfl⟩
            replace HB5 : Hid (Below w.heap.size w (w7.drewN n8)) := belN HB5.out n8
            replace HX5 : Hid (Box2 (w7.drewN n8) w.heap.size a b) := HX5.out.up (belN (Below.refl _ _) n8)
            generalize w7.drewN n8 = w8 at HB5 HX5 ⊢
            obtain ⟨a0, a1, b0, b1, lt8⟩ := HX5.out
            go_wp2_with fail
            refine (inA_any es p cp a b _ (HL.out.up HB5.out) ha hb H0.out).mono ?_
            rintro e w9 ⟨r9, rfl, hr9, k9⟩
            have hr9' := HIN.out r9 hr9
            subst hr9'
            replace HB5 : Hid (Below w.heap.size w w9) := bA HB5.out k9
            replace HX5 : Hid (Box2 w9 w.heap.size a b) := HX5.out.up k9
            clear k9 hr9 HIN a0 a1 b0 b1 lt8
            go_wp2_with fail
            refine (toldNil_any _ (ev_up HV.out HB5.out)).mono ?_
            rintro e wa ⟨rfl, ka⟩
            replace HB5 : Hid (Below w.heap.size w wa) := bA HB5.out ka
            replace HX5 : Hid (Box2 wa w.heap.size a b) := HX5.out.up ka
            clear ka
            obtain ⟨a0, a1, b0, b1, lta⟩ := HX5.out
            go_wp2_with fail
            refine (attrsA_found es p cp x a HXA.out _ (HL.out.up HB5.out) HXE.out ha H0.out).mono ?_
            rintro e wb ⟨⟨qb, cb, rfl, hNb⟩, kb⟩
            have HNB : Hid (NL wb qb x.nd) := hNb
            replace HB5 : Hid (Below w.heap.size w wb) := bA HB5.out kb
            clear kb hNb a0 a1 b0 b1 lta
            go_wp2_with fail
            refine (toldNil_any _ (ev_up HV.out HB5.out)).mono ?_
            rintro e wc ⟨rfl, kc⟩
            replace HB5 : Hid (Below w.heap.size w wc) := bA HB5.out kc
            replace HNB : Hid (NL wc qb x.nd) := HNB.out.up kc
            clear kc
            have h200 := (good_nodes H0.out HXE.out).2
            go_wp2_with fail
            refine (sameN_any x.nd qb pa cb ca _ HNB.out (HNX.out.up HB5.out) (by unfold maxLen; omega)).mono ?_
            rintro e wd ⟨rfl, nd, rfl⟩
            go_wp2_with fail
            go_ret
            exact ⟨rfl, belN HB5.out _⟩
    · have HNE : Hid (a ≠ b) := fun h => ht (by rw [h])
      go_wp2_with fail
      clear ht HTE
      refine (overB_any es p cp a b _ (HL.out.up HB.out) HF.out).mono ?_
      rintro e w4 ⟨rfl, k4⟩
      have HIN : Hid (∀ r, (r = true ↔ Inn es a b) → r = abvB es a b) := fun r hr => by
        rw [Bool.eq_iff_iff, hr, abvB_iff]
        exact ⟨fun h => h.elim (fun q => absurd q HNE.out) id, fun h => .inr h⟩
      clear HNE
      generalize abvB es a b = inb at HIN ⊢
      go_wp2_with fail
      replace HB : Hid (Below w.heap.size w w4) := bA HB.out k4
      replace HX : Hid (Box2 w4 w.heap.size a b) := HX.out.up k4
      replace HUS : Hid (UL w4 q2 S) := HUS.out.up k4
      clear k4 a0 a1 b0 b1 lt3
      go_loopw [10, 11, 12] (fun av wv iv wr => ∃ i n : Nat, i ≤ es.length ∧ iv = .int .i64 i ∧ wr = w4.drewN n ∧ Hid (FoundAt w es a i av wv)) (fun _ _ iv _ => es.length - (intOf iv).toNat)
      case atStart => exact ⟨0, 0, Nat.zero_le _, rfl, rfl, .inl ⟨rfl, rfl, fun e he => (by simp at he)⟩⟩
      case round =>
        obtain ⟨i, n, hi, rfl, rfl, HH⟩ := hrel
        by_cases hlt : i < es.length
        · have i1 : (i : Int) < (es.length : Int) := by omega
          obtain ⟨bb, off, pu, cu, pa, ca, rfl, hbl, _, _, hNLi, _, _, _, _, _, _, g0, g1, _, g3⟩ := HL.out.at hlt
          have hq : ∀ o, w4.cell? ⟨bb, o, none⟩ = w.cell? ⟨bb, o, none⟩ := fun o => HB.out.cell (p := ⟨bb, o, none⟩) hbl
          have c0 := (hq _).trans g0
          have c1 := (hq _).trans g1
          have c3 := (hq _).trans g3
          have HMS : Hid (es[i].u ≠ a → FoundAt w es a (i + 1) u10 u11) := fun h => HH.out.miss hlt h
          have HHT : Hid (es[i].u = a → FoundAt w es a (i + 1) (.int .i64 0) (.slice pa es[i].nd.length ca)) := fun h => .inr ⟨es[i], pa, ca, rfl, rfl, List.getElem_mem hlt, h, hNLi⟩
          obtain ⟨a0, a1, _, _, lt4⟩ := HX.out
          generalize es[i] = y at c0 c1 c3 HMS HHT
          clear hq g0 g1 g3 hNLi HH
          rcases uid_cases y.u a with heq | ⟨hne, ht⟩ | ⟨hne, ii, heq, ht⟩
          · have HH2 : Hid (FoundAt w es a (i + 1) (.int .i64 0) (.slice pa y.nd.length ca)) := HHT.out heq
            rw [heq] at c0 c1
            clear HMS HHT heq
            go_wp2_with fail
            go_quiet (fail)
            go_wp2_with fail
            go_roundw
            case rel => exact ⟨i + 1, _, by omega, by go_num, rfl, HH2⟩
            case measure => simp [intOf]; omega
          · have HH2 : Hid (FoundAt w es a (i + 1) u10 u11) := HMS.out hne
            clear HMS HHT hne
            go_wp2_with fail
            go_quiet (fail)
            go_wp2_with fail
            go_roundw
            case rel => exact ⟨i + 1, _, by omega, by go_num, rfl, HH2⟩
            case measure => simp [intOf]; omega
          · have HH2 : Hid (FoundAt w es a (i + 1) u10 u11) := HMS.out hne
            rw [heq] at c0 c1
            simp only at c0 c1
            clear HMS HHT hne heq
            go_wp2_with fail
            go_quiet (fail)
            go_wp2_with fail
            go_roundw
            case rel => exact ⟨i + 1, _, by omega, by go_num, rfl, HH2⟩
            case measure => simp [intOf]; omega
        · obtain rfl : i = es.length := by omega
          have i1 : ¬ (es.length : Int) < (es.length : Int) := by omega
          generalize hwq : w4.drewN n = wq
          have HB5 : Hid (Below w.heap.size w wq) := by rw [← hwq]; exact belN HB.out n
          have HX5 : Hid (Box2 wq w.heap.size a b) := by rw [← hwq]; exact HX.out.up (belN (Below.refl _ _) n)
          have HUS5 : Hid (UL wq q2 S) := by rw [← hwq]; exact HUS.out.up (belN (Below.refl _ _) n)
          clear hwq
          rcases HH.out with ⟨rfl, rfl, hno⟩ | ⟨x, pa, ca, rfl, rfl, hxe, hxa, hNLx⟩
          · have HNO : Hid (∀ e ∈ es, e.u ≠ a) := by rw [List.take_length] at hno; exact hno
            clear hno HH
            obtain ⟨a0, a1, b0, b1, lt5⟩ := HX5.out
            go_wp2_with fail
            refine (above_ok es p cp a _ (HL.out.up HB5.out) ha H0.out).mono ?_
            rintro e w6 ⟨q6, c6, l6, rfl, hUL6, hI6, hl61, hl62, k6⟩
            obtain rfl : l6 = S := hI6.one HIS.out (fun x => Iff.rfl)
            have HUL6 : Hid (UL w6 q6 l6) := hUL6
            replace HB5 : Hid (Below w.heap.size w w6) := bA HB5.out k6
            replace HX5 : Hid (Box2 w6 w.heap.size a b) := HX5.out.up k6
            replace HUS5 : Hid (UL w6 q2 l6) := HUS5.out.up k6
            clear k6 hUL6 hI6 a0 a1 b0 b1 lt5
            go_wp2_with fail
            refine (toldNil_any _ (ev_up HV.out HB5.out)).mono ?_
            rintro e w7 ⟨rfl, k7⟩
            replace HB5 : Hid (Below w.heap.size w w7) := bA HB5.out k7
            replace HX5 : Hid (Box2 w7 w.heap.size a b) := HX5.out.up k7
            replace HUS5 : Hid (UL w7 q2 l6) := HUS5.out.up k7
            replace HUL6 : Hid (UL w7 q6 l6) := HUL6.out.up k7
            clear k7
            go_wp2_with fail
            refine (sameUids_any l6 q6 q2 c6 c2 _ HUL6.out HUS5.out (Nat.le_trans hl61 hl62)).mono ?_
            rintro e w8 ⟨rfl, n8, rfl⟩
            replace HB5 : Hid (Below w.heap.size w (w7.drewN n8)) := belN HB5.out n8
            replace HX5 : Hid (Box2 (w7.drewN n8) w.heap.size a b) := HX5.out.up (belN (Below.refl _ _) n8)
            generalize w7.drewN n8 = w8 at HB5 HX5 ⊢
            obtain ⟨a0, a1, b0, b1, lt8⟩ := HX5.out
            go_wp2_with fail
            refine (inA_any es p cp a b _ (HL.out.up HB5.out) ha hb H0.out).mono ?_
            rintro e w9 ⟨r9, rfl, hr9, k9⟩
            have hr9' := HIN.out r9 hr9
            subst hr9'
            replace HB5 : Hid (Below w.heap.size w w9) := bA HB5.out k9
            replace HX5 : Hid (Box2 w9 w.heap.size a b) := HX5.out.up k9
            clear k9 hr9 HIN a0 a1 b0 b1 lt8
            go_wp2_with fail
            refine (toldNil_any _ (ev_up HV.out HB5.out)).mono ?_
            rintro e wa ⟨rfl, ka⟩
            replace HB5 : Hid (Below w.heap.size w wa) := bA HB5.out ka
            replace HX5 : Hid (Box2 wa w.heap.size a b) := HX5.out.up ka
            clear ka
            obtain ⟨a0, a1, b0, b1, lta⟩ := HX5.out
            go_wp2_with fail
            refine (attrs_lost es p cp a _ (HL.out.up HB5.out) HNO.out ha H0.out).mono ?_
            rintro e wb ⟨rfl, kb⟩
            replace HB5 : Hid (Below w.heap.size w wb) := bA HB5.out kb
            clear kb a0 a1 b0 b1 lta
            go_wp2_with fail
            refine (toldSame_any 8 _ (ev_up HV.out HB5.out)).mono ?_
            rintro e wc ⟨rfl, kc⟩
            replace HB5 : Hid (Below w.heap.size w wc) := bA HB5.out kc
            clear kc
            go_wp2_with fail
            refine (sameN_any [] none none 0 0 _ (.inl rfl) (.inl rfl) (Nat.zero_le _)).mono ?_
            rintro e wd ⟨rfl, nd, rfl⟩
            go_wp2_with fail
            go_ret
            exact ⟨rfl, belN HB5.out _⟩
          · have HXE : Hid (x ∈ es) := hxe
            have HXA : Hid (x.u = a) := hxa
            have HNX : Hid (NL w pa x.nd) := hNLx
            clear hxe hxa hNLx HH
            obtain ⟨a0, a1, b0, b1, lt5⟩ := HX5.out
            go_wp2_with fail
            refine (above_ok es p cp a _ (HL.out.up HB5.out) ha H0.out).mono ?_
            rintro e w6 ⟨q6, c6, l6, rfl, hUL6, hI6, hl61, hl62, k6⟩
            obtain rfl : l6 = S := hI6.one HIS.out (fun x => Iff.rfl)
            have HUL6 : Hid (UL w6 q6 l6) := hUL6
            replace HB5 : Hid (Below w.heap.size w w6) := bA HB5.out k6
            replace HX5 : Hid (Box2 w6 w.heap.size a b) := HX5.out.up k6
            replace HUS5 : Hid (UL w6 q2 l6) := HUS5.out.up k6
            clear k6 hUL6 hI6 a0 a1 b0 b1 lt5
            go_wp2_with fail
            refine (toldNil_any _ (ev_up HV.out HB5.out)).mono ?_
            rintro e w7 ⟨rfl, k7⟩
            replace HB5 : Hid (Below w.heap.size w w7) := bA HB5.out k7
            replace HX5 : Hid (Box2 w7 w.heap.size a b) := HX5.out.up k7
            replace HUS5 : Hid (UL w7 q2 l6) := HUS5.out.up k7
            replace HUL6 : Hid (UL w7 q6 l6) := HUL6.out.up k7
            clear k7
            go_wp2_with fail
            refine (sameUids_any l6 q6 q2 c6 c2 _ HUL6.out HUS5.out (Nat.le_trans hl61 hl62)).mono ?_
            rintro e w8 ⟨rfl, n8, rfl⟩
            replace HB5 : Hid (Below w.heap.size w (w7.drewN n8)) := belN HB5.out n8
            replace HX5 : Hid (Box2 (w7.drewN n8) w.heap.size a b) := HX5.out.up (belN (Below.refl _ _) n8)
            generalize w7.drewN n8 = w8 at HB5 HX5 ⊢
            obtain ⟨a0, a1, b0, b1, lt8⟩ := HX5.out
            go_wp2_with fail
            refine (inA_any es p cp a b _ (HL.out.up HB5.out) ha hb H0.out).mono ?_
            rintro e w9 ⟨r9, rfl, hr9, k9⟩
            have hr9' := HIN.out r9 hr9
            subst hr9'
            replace HB5 : Hid (Below w.heap.size w w9) := bA HB5.out k9
            replace HX5 : Hid (Box2 w9 w.heap.size a b) := HX5.out.up k9
            clear k9 hr9 HIN a0 a1 b0 b1 lt8
            go_wp2_with fail
            refine (toldNil_any _ (ev_up HV.out HB5.out)).mono ?_
            rintro e wa ⟨rfl, ka⟩
            replace HB5 : Hid (Below w.heap.size w wa) := bA HB5.out ka
            replace HX5 : Hid (Box2 wa w.heap.size a b) := HX5.out.up ka
            clear ka
            obtain ⟨a0, a1, b0, b1, lta⟩ := HX5.out
            go_wp2_with fail
            refine (attrsA_found es p cp x a HXA.out _ (HL.out.up HB5.out) HXE.out ha H0.out).mono ?_
            rintro e wb ⟨⟨qb, cb, rfl, hNb⟩, kb⟩
            have HNB : Hid (NL wb qb x.nd) := hNb
            replace HB5 : Hid (Below w.heap.size w wb) := bA HB5.out kb
            clear kb hNb a0 a1 b0 b1 lta
            go_wp2_with fail
            refine (toldNil_any _ (ev_up HV.out HB5.out)).mono ?_
            rintro e wc ⟨rfl, kc⟩
            replace HB5 : Hid (Below w.heap.size w wc) := bA HB5.out kc
            replace HNB : Hid (NL wc qb x.nd) := HNB.out.up kc
            clear kc
            have h200 := (good_nodes H0.out HXE.out).2
            go_wp2_with fail
            refine (sameN_any x.nd qb pa cb ca _ HNB.out (HNX.out.up HB5.out) (by unfold maxLen; omega)).mono ?_
            rintro e wd ⟨rfl, nd, rfl⟩
            go_wp2_with fail
            go_ret
            exact ⟨rfl, belN HB5.out _⟩
    · have HNE : Hid (a ≠ b) := fun h => hi (by rw [h])
      go_wp2_with fail
      clear ht hi HTE
      refine (overB_any es p cp a b _ (HL.out.up HB.out) HF.out).mono ?_
      rintro e w4 ⟨rfl, k4⟩
      have HIN : Hid (∀ r, (r = true ↔ Inn es a b) → r = abvB es a b) := fun r hr => by
        rw [Bool.eq_iff_iff, hr, abvB_iff]
        exact ⟨fun h => h.elim (fun q => absurd q HNE.out) id, fun h => .inr h⟩
      clear HNE
      generalize abvB es a b = inb at HIN ⊢
      go_wp2_with fail
      replace HB : Hid (Below w.heap.size w w4) := bA HB.out k4
      replace HX : Hid (Box2 w4 w.heap.size a b) := HX.out.up k4
      replace HUS : Hid (UL w4 q2 S) := HUS.out.up k4
      clear k4 a0 a1 b0 b1 lt3
      go_loopw [10, 11, 12] (fun av wv iv wr => ∃ i n : Nat, i ≤ es.length ∧ iv = .int .i64 i ∧ wr = w4.drewN n ∧ Hid (FoundAt w es a i av wv)) (fun _ _ iv _ => es.length - (intOf iv).toNat)
      case atStart => exact ⟨0, 0, Nat.zero_le _, rfl, rfl, .inl ⟨rfl, rfl, fun e he => (by simp at he)⟩⟩
      case round =>
        obtain ⟨i, n, hi, rfl, rfl, HH⟩ := hrel
        by_cases hlt : i < es.length
        · have i1 : (i : Int) < (es.length : Int) := by omega
          obtain ⟨bb, off, pu, cu, pa, ca, rfl, hbl, _, _, hNLi, _, _, _, _, _, _, g0, g1, _, g3⟩ := HL.out.at hlt
          have hq : ∀ o, w4.cell? ⟨bb, o, none⟩ = w.cell? ⟨bb, o, none⟩ := fun o => HB.out.cell (p := ⟨bb, o, none⟩) hbl
          have c0 := (hq _).trans g0
          have c1 := (hq _).trans g1
          have c3 := (hq _).trans g3
          have HMS : Hid (es[i].u ≠ a → FoundAt w es a (i + 1) u10 u11) := fun h => HH.out.miss hlt h
          have HHT : Hid (es[i].u = a → FoundAt w es a (i + 1) (.int .i64 0) (.slice pa es[i].nd.length ca)) := fun h => .inr ⟨es[i], pa, ca, rfl, rfl, List.getElem_mem hlt, h, hNLi⟩
          obtain ⟨a0, a1, _, _, lt4⟩ := HX.out
          generalize es[i] = y at c0 c1 c3 HMS HHT
          clear hq g0 g1 g3 hNLi HH
          rcases uid_cases y.u a with heq | ⟨hne, ht⟩ | ⟨hne, ii, heq, ht⟩
          · have HH2 : Hid (FoundAt w es a (i + 1) (.int .i64 0) (.slice pa y.nd.length ca)) := HHT.out heq
            rw [heq] at c0 c1
            clear HMS HHT heq
            go_wp2_with fail
            go_quiet (fail)
            go_wp2_with fail
            go_roundw
            case rel => exact ⟨i + 1, _, by omega, by go_num, rfl, HH2⟩
            case measure => simp [intOf]; omega
          · have HH2 : Hid (FoundAt w es a (i + 1) u10 u11) := HMS.out hne
            clear HMS HHT hne
            go_wp2_with fail
            go_quiet (fail)
            go_wp2_with fail
            go_roundw
            case rel => exact ⟨i + 1, _, by omega, by go_num, rfl, HH2⟩
            case measure => simp [intOf]; omega
          · have HH2 : Hid (FoundAt w es a (i + 1) u10 u11) := HMS.out hne
            rw [heq] at c0 c1
            simp only at c0 c1
            clear HMS HHT hne heq
            go_wp2_with fail
            go_quiet (fail)
            go_wp2_with fail
            go_roundw
            case rel => exact ⟨i + 1, _, by omega, by go_num, rfl, HH2⟩
            case measure => simp [intOf]; omega
        · obtain rfl : i = es.length := by omega
          have i1 : ¬ (es.length : Int) < (es.length : Int) := by omega
          generalize hwq : w4.drewN n = wq
          have HB5 : Hid (Below w.heap.size w wq) := by rw [← hwq]; exact belN HB.out n
          have HX5 : Hid (Box2 wq w.heap.size a b) := by rw [← hwq]; exact HX.out.up (belN (Below.refl _ _) n)
          have HUS5 : Hid (UL wq q2 S) := by rw [← hwq]; exact HUS.out.up (belN (Below.refl _ _) n)
          clear hwq
          rcases HH.out with ⟨rfl, rfl, hno⟩ | ⟨x, pa, ca, rfl, rfl, hxe, hxa, hNLx⟩
          · have HNO : Hid (∀ e ∈ es, e.u ≠ a) := by rw [List.take_length] at hno; exact hno
            clear hno HH
            obtain ⟨a0, a1, b0, b1, lt5⟩ := HX5.out
            go_wp2_with fail
            refine (above_ok es p cp a _ (HL.out.up HB5.out) ha H0.out).mono ?_
            rintro e w6 ⟨q6, c6, l6, rfl, hUL6, hI6, hl61, hl62, k6⟩
            obtain rfl : l6 = S := hI6.one HIS.out (fun x => Iff.rfl)
            have HUL6 : Hid (UL w6 q6 l6) := hUL6
            replace HB5 : Hid (Below w.heap.size w w6) := bA HB5.out k6
            replace HX5 : Hid (Box2 w6 w.heap.size a b) := HX5.out.up k6
            replace HUS5 : Hid (UL w6 q2 l6) := HUS5.out.up k6
            clear k6 hUL6 hI6 a0 a1 b0 b1 lt5
            go_wp2_with fail
            refine (toldNil_any _ (ev_up HV.out HB5.out)).mono ?_
            rintro e w7 ⟨rfl, k7⟩
            replace HB5 : Hid (Below w.heap.size w w7) := bA HB5.out k7
            replace HX5 : Hid (Box2 w7 w.heap.size a b) := HX5.out.up k7
            replace HUS5 : Hid (UL w7 q2 l6) := HUS5.out.up k7
            replace HUL6 : Hid (UL w7 q6 l6) := HUL6.out.up k7
            clear k7
            go_wp2_with fail
            refine (sameUids_any l6 q6 q2 c6 c2 _ HUL6.out HUS5.out (Nat.le_trans hl61 hl62)).mono ?_
            rintro e w8 ⟨rfl, n8, rfl⟩
            replace HB5 : Hid (Below w.heap.size w (w7.drewN n8)) := belN HB5.out n8
            replace HX5 : Hid (Box2 (w7.drewN n8) w.heap.size a b) := HX5.out.up (belN (Below.refl _ _) n8)
            generalize w7.drewN n8 = w8 at HB5 HX5 ⊢
            obtain ⟨a0, a1, b0, b1, lt8⟩ := HX5.out
            go_wp2_with fail
            refine (inA_any es p cp a b _ (HL.out.up HB5.out) ha hb H0.out).mono ?_
            rintro e w9 ⟨r9, rfl, hr9, k9⟩
            have hr9' := HIN.out r9 hr9
            subst hr9'
            replace HB5 : Hid (Below w.heap.size w w9) := bA HB5.out k9
            replace HX5 : Hid (Box2 w9 w.heap.size a b) := HX5.out.up k9
            clear k9 hr9 HIN a0 a1 b0 b1 lt8
            go_wp2_with fail
            refine (toldNil_any _ (ev_up HV.out HB5.out)).mono ?_
            rintro e wa ⟨rfl, ka⟩
            replace HB5 : Hid (Below w.heap.size w wa) := bA HB5.out ka
            replace HX5 : Hid (Box2 wa w.heap.size a b) := HX5.out.up ka
            clear ka
            obtain ⟨a0, a1, b0, b1, lta⟩ := HX5.out
            go_wp2_with fail
            refine (attrs_lost es p cp a _ (HL.out.up HB5.out) HNO.out ha H0.out).mono ?_
            rintro e wb ⟨rfl, kb⟩
            replace HB5 : Hid (Below w.heap.size w wb) := bA HB5.out kb
            clear kb a0 a1 b0 b1 lta
            go_wp2_with fail
            refine (toldSame_any 8 _ (ev_up HV.out HB5.out)).mono ?_
            rintro e wc ⟨rfl, kc⟩
            replace HB5 : Hid (Below w.heap.size w wc) := bA HB5.out kc
            clear kc
            go_wp2_with fail
            refine (sameN_any [] none none 0 0 _ (.inl rfl) (.inl rfl) (Nat.zero_le _)).mono ?_
            rintro e wd ⟨rfl, nd, rfl⟩
            go_wp2_with fail
            go_ret
            exact ⟨rfl, belN HB5.out _⟩
          · have HXE : Hid (x ∈ es) := hxe
            have HXA : Hid (x.u = a) := hxa
            have HNX : Hid (NL w pa x.nd) := hNLx
            clear hxe hxa hNLx HH
            obtain ⟨a0, a1, b0, b1, lt5⟩ := HX5.out
            go_wp2_with fail
            refine (above_ok es p cp a _ (HL.out.up HB5.out) ha H0.out).mono ?_
            rintro e w6 ⟨q6, c6, l6, rfl, hUL6, hI6, hl61, hl62, k6⟩
            obtain rfl : l6 = S := hI6.one HIS.out (fun x => Iff.rfl)
            have HUL6 : Hid (UL w6 q6 l6) := hUL6
            replace HB5 : Hid (Below w.heap.size w w6) := bA HB5.out k6
            replace HX5 : Hid (Box2 w6 w.heap.size a b) := HX5.out.up k6
            replace HUS5 : Hid (UL w6 q2 l6) := HUS5.out.up k6
            clear k6 hUL6 hI6 a0 a1 b0 b1 lt5
            go_wp2_with fail
            refine (toldNil_any _ (ev_up HV.out HB5.out)).mono ?_
            rintro e w7 ⟨rfl, k7⟩
            replace HB5 : Hid (Below w.heap.size w w7) := bA HB5.out k7
            replace HX5 : Hid (Box2 w7 w.heap.size a b) := HX5.out.up k7
            replace HUS5 : Hid (UL w7 q2 l6) := HUS5.out.up k7
            replace HUL6 : Hid (UL w7 q6 l6) := HUL6.out.up k7
            clear k7
            go_wp2_with fail
            refine (sameUids_any l6 q6 q2 c6 c2 _ HUL6.out HUS5.out (Nat.le_trans hl61 hl62)).mono ?_
            rintro e w8 ⟨rfl, n8, rfl⟩
            replace HB5 : Hid (Below w.heap.size w (w7.drewN n8)) := belN HB5.out n8
            replace HX5 : Hid (Box2 (w7.drewN n8) w.heap.size a b) := HX5.out.up (belN (Below.refl _ _) n8)
            generalize w7.drewN n8 = w8 at HB5 HX5 ⊢
            obtain ⟨a0, a1, b0, b1, lt8⟩ := HX5.out
            go_wp2_with fail
            refine (inA_any es p cp a b _ (HL.out.up HB5.out) ha hb H0.out).mono ?_
            rintro e w9 ⟨r9, rfl, hr9, k9⟩
            have hr9' := HIN.out r9 hr9
            subst hr9'
            replace HB5 : Hid (Below w.heap.size w w9) := bA HB5.out k9
            replace HX5 : Hid (Box2 w9 w.heap.size a b) := HX5.out.up k9
            clear k9 hr9 HIN a0 a1 b0 b1 lt8
            go_wp2_with fail
            refine (toldNil_any _ (ev_up HV.out HB5.out)).mono ?_
            rintro e wa ⟨rfl, ka⟩
            replace HB5 : Hid (Below w.heap.size w wa) := bA HB5.out ka
            replace HX5 : Hid (Box2 wa w.heap.size a b) := HX5.out.up ka
            clear ka
            obtain ⟨a0, a1, b0, b1, lta⟩ := HX5.out
            go_wp2_with fail
            refine (attrsA_found es p cp x a HXA.out _ (HL.out.up HB5.out) HXE.out ha H0.out).mono ?_
            rintro e wb ⟨⟨qb, cb, rfl, hNb⟩, kb⟩
            have HNB : Hid (NL wb qb x.nd) := hNb
            replace HB5 : Hid (Below w.heap.size w wb) := bA HB5.out kb
            clear kb hNb a0 a1 b0 b1 lta
            go_wp2_with fail
            refine (toldNil_any _ (ev_up HV.out HB5.out)).mono ?_
            rintro e wc ⟨rfl, kc⟩
            replace HB5 : Hid (Below w.heap.size w wc) := bA HB5.out kc
            replace HNB : Hid (NL wc qb x.nd) := HNB.out.up kc
            clear kc
            have h200 := (good_nodes H0.out HXE.out).2
            go_wp2_with fail
            refine (sameN_any x.nd qb pa cb ca _ HNB.out (HNX.out.up HB5.out) (by unfold maxLen; omega)).mono ?_
            rintro e wd ⟨rfl, nd, rfl⟩
            go_wp2_with fail
            go_ret
            exact ⟨rfl, belN HB5.out _⟩
  · have H0 : Hid (sfault es ≠ 0) := h0
    have h0' : (sfault es == 0) = false := by simp [h0]
    obtain ⟨a0, a1, b0, b1, lt1⟩ := HX.out
    clear h0
    go_wp2_with fail
    refine (above_err es p cp a _ (HL.out.up HB.out) ha H0.out).mono ?_
    rintro e w2 ⟨rfl, k2⟩
    replace HB : Hid (Below w.heap.size w w2) := bA HB.out k2
    replace HX : Hid (Box2 w2 w.heap.size a b) := HX.out.up k2
    clear k2 a0 a1 b0 b1 lt1
    go_wp2_with fail
    refine (toldSame_any (sfault es) _ (ev_up HV.out HB.out)).mono ?_
    rintro e w3 ⟨rfl, k3⟩
    replace HB : Hid (Below w.heap.size w w3) := bA HB.out k3
    replace HX : Hid (Box2 w3 w.heap.size a b) := HX.out.up k3
    clear k3
    go_wp2_with fail
    refine (sameUids_any [] none none 0 0 _ (.inl rfl) (.inl rfl) (Nat.zero_le _)).mono ?_
    rintro e w4 ⟨rfl, n4, rfl⟩
    replace HB : Hid (Below w.heap.size w (w3.drewN n4)) := belN HB.out n4
    replace HX : Hid (Box2 (w3.drewN n4) w.heap.size a b) := HX.out.up (belN (Below.refl _ _) n4)
    generalize w3.drewN n4 = w4 at HB HX ⊢
    obtain ⟨a0, a1, b0, b1, lt4⟩ := HX.out
    go_wp2_with fail
    refine (inA_err es p cp a b _ (HL.out.up HB.out) ha hb H0.out).mono ?_
    rintro e w5 ⟨rfl, k5⟩
    replace HB : Hid (Below w.heap.size w w5) := bA HB.out k5
    replace HX : Hid (Box2 w5 w.heap.size a b) := HX.out.up k5
    clear k5 a0 a1 b0 b1 lt4
    go_wp2_with fail
    refine (toldSame_any (sfault es) _ (ev_up HV.out HB.out)).mono ?_
    rintro e w6 ⟨rfl, k6⟩
    replace HB : Hid (Below w.heap.size w w6) := bA HB.out k6
    replace HX : Hid (Box2 w6 w.heap.size a b) := HX.out.up k6
    clear k6
    obtain ⟨a0, a1, b0, b1, lt6⟩ := HX.out
    go_wp2_with fail
    refine (attrs_err es p cp a _ (HL.out.up HB.out) H0.out).mono ?_
    rintro e w7 ⟨rfl, k7⟩
    replace HB : Hid (Below w.heap.size w w7) := bA HB.out k7
    clear k7 a0 a1 b0 b1 lt6
    go_wp2_with fail
    refine (toldSame_any (sfault es) _ (ev_up HV.out HB.out)).mono ?_
    rintro e w8 ⟨rfl, k8⟩
    replace HB : Hid (Below w.heap.size w w8) := bA HB.out k8
    clear k8
    go_wp2_with fail
    refine (sameN_any [] none none 0 0 _ (.inl rfl) (.inl rfl) (Nat.zero_le _)).mono ?_
    rintro e w9 ⟨rfl, n9, rfl⟩
    go_wp2_with fail
    go_ret
    exact ⟨rfl, belN HB.out _⟩
end Go.Proofs.YtkpbholhempmmaaGreatDoor
