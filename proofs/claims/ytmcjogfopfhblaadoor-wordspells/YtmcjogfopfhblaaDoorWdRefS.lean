/- The document's Word (package wicketgateref2): signs, by the table that it goes through; and any word. -/
import Derived.Test.YtmcjogfopfhblaaDoorWdRefW
namespace Go.Proofs.YtmcjogfopfhblaaDoor
open Go.RowKit
set_option linter.unusedVariables false

/-- The signs, in the table's order. -/
def sg : List (List UInt8) := [[40], [41], [91], [93], [123], [125], [44], [58], [46], [58, 58], [61, 61], [60], [60, 61], [38, 38], [124, 124], [33], [43], [45], [42]]
/-- The longer one. -/
def pick1 (l acc x : List UInt8) : List UInt8 := if (bgn x l && decide (acc.length < x.length)) = true then x else acc
/-- What was found among the first ones. -/
def best (l : List UInt8) (j : Nat) : List UInt8 := (sg.take j).foldl (pick1 l) []
theorem best_next (l : List UInt8) (j : Nat) (h : j < 19) : best l (j + 1) = pick1 l (best l j) (sg[j]'h) := by
  unfold best
  rw [List.take_succ_eq_append_getElem (show j < sg.length from h), List.foldl_append]
  rfl

theorem bgn_one (x c : UInt8) (r : List UInt8) : bgn [x] (c :: r) = (x == c) := by
  unfold bgn; simp
theorem bgn_two (x y c d : UInt8) (r : List UInt8) : bgn [x, y] (c :: d :: r) = (x == c && y == d) := by
  unfold bgn; simp
theorem bgn_two_one (x y c : UInt8) : bgn [x, y] [c] = false := by
  unfold bgn; simp

/-- What the table's way finds is the sign. -/
def signOf (l : List UInt8) : List UInt8 := if two (l.take 2) = true then l.take 2 else if (l.take 1).any (fun c => shorts.contains c) = true then l.take 1 else []

theorem best_one (c : UInt8) : best [c] 19 = signOf [c] := by
  by_cases hc : shorts.contains c = true
  · unfold shorts at hc
    simp only [List.contains_cons, List.contains_nil, Bool.or_false, Bool.or_eq_true, beq_iff_eq] at hc
    rcases hc with rfl | rfl | rfl | rfl | rfl | rfl | rfl | rfl | rfl | rfl | rfl | rfl | rfl | rfl <;> rfl
  · have hn : shorts.contains c = false := by simpa using hc
    have e2 : two ([c].take 2) = false := by
      cases e : two ([c].take 2) with
      | false => rfl
      | true => have := two_len e; simp at this
    have hany : ([c].take 1).any (fun c => shorts.contains c) = false := by show (shorts.contains c || false) = false; rw [hn]; rfl
    have hs : signOf [c] = [] := by
      unfold signOf
      rw [if_neg (by rw [e2]; decide), if_neg (by rw [hany]; decide)]
    rw [hs]
    unfold shorts at hn
    simp only [List.contains_cons, List.contains_nil, Bool.or_false, Bool.or_eq_false_iff] at hn
    have f : ∀ x : UInt8, (c == x) = false → bgn [x] [c] = false := by
      intro x hx
      rw [bgn_one]
      cases e : (x == c) with
      | false => rfl
      | true => rw [beq_iff_eq.1 e] at hx; simp at hx
    unfold best sg
    obtain ⟨h1, h2, h3, h4, h5, h6, h7, h8, h9, h10, h11, h12, h13, h14⟩ := hn
    simp only [List.take, List.foldl, pick1, bgn_two_one, f _ h1, f _ h2, f _ h3, f _ h4, f _ h5, f _ h6, f _ h7, f _ h8, f _ h9, f _ h10, f _ h11, f _ h12, f _ h13, f _ h14, Bool.false_and, Bool.false_eq_true, if_false]
theorem best_none (c d : UInt8) (hn : (([61, 38, 124] : List UInt8) ++ shorts).contains c = false) : best [c, d] 19 = signOf [c, d] := by
  unfold shorts at hn
  simp only [List.cons_append, List.nil_append, List.contains_cons, List.contains_nil, Bool.or_false, Bool.or_eq_false_iff] at hn
  obtain ⟨k1, k2, k3, h1, h2, h3, h4, h5, h6, h7, h8, h9, h10, h11, h12, h13, h14⟩ := hn
  have sw : ∀ x : UInt8, (c == x) = false → (x == c) = false := by
    intro x hx
    cases e : (x == c) with
    | false => rfl
    | true => rw [beq_iff_eq.1 e] at hx; simp at hx
  have hany : ([c, d].take 1).any (fun c => shorts.contains c) = false := by
    show (shorts.contains c || false) = false
    unfold shorts
    simp only [List.contains_cons, List.contains_nil, h1, h2, h3, h4, h5, h6, h7, h8, h9, h10, h11, h12, h13, h14, Bool.or_false]
  have htwo : two ([c, d].take 2) = false := by
    show two [c, d] = false
    unfold two
    simp only [List.cons_beq_cons, h8, k1, h10, k2, k3, Bool.false_and, Bool.or_false]
  have hs : signOf [c, d] = [] := by
    unfold signOf
    rw [if_neg (by rw [htwo]; decide), if_neg (by rw [hany]; decide)]
  rw [hs]
  unfold best sg
  simp only [List.take, List.foldl, pick1, bgn_one, bgn_two, sw _ k1, sw _ k2, sw _ k3, sw _ h1, sw _ h2, sw _ h3, sw _ h4, sw _ h5, sw _ h6, sw _ h7, sw _ h8, sw _ h9, sw _ h10, sw _ h11, sw _ h12, sw _ h13, sw _ h14, Bool.false_and, Bool.false_eq_true, if_false]
theorem best_tail (c d : UInt8) (hd : (d == 58) = false ∧ (d == 61) = false ∧ (d == 38) = false ∧ (d == 124) = false) : best [c, d] 19 = signOf [c, d] := by
  obtain ⟨d1, d2, d3, d4⟩ := hd
  have sw : ∀ x : UInt8, (d == x) = false → (x == d) = false := by
    intro x hx
    cases e : (x == d) with
    | false => rfl
    | true => rw [beq_iff_eq.1 e] at hx; simp at hx
  have e2 : signOf [c, d] = signOf [c] := by
    unfold signOf two
    simp [d1, d2, d3, d4]
  have e1 : best [c, d] 19 = best [c] 19 := by
    unfold best sg
    simp only [List.take, List.foldl, pick1, bgn_one, bgn_two, bgn_two_one, sw _ d1, sw _ d2, sw _ d3, sw _ d4, Bool.and_false, Bool.false_and, Bool.false_eq_true, if_false]
  rw [e1, e2, best_one]
theorem best_two (c d : UInt8) (r : List UInt8) : best (c :: d :: r) 19 = signOf (c :: d :: r) := by
  have g : best (c :: d :: r) 19 = best [c, d] 19 := by
    unfold best
    have : ∀ (L : List (List UInt8)) (acc : List UInt8), (∀ x ∈ L, x.length ≤ 2) → L.foldl (pick1 (c :: d :: r)) acc = L.foldl (pick1 [c, d]) acc := by
      intro L
      induction L with
      | nil => intro acc _; rfl
      | cons x L ih =>
        intro acc h
        rw [List.foldl_cons, List.foldl_cons]
        have hx := h x (by simp)
        have e : pick1 (c :: d :: r) acc x = pick1 [c, d] acc x := by
          unfold pick1
          have : bgn x (c :: d :: r) = bgn x [c, d] := by
            unfold bgn
            congr 1
            match x, hx with
            | [], _ => rfl
            | [a], _ => rfl
            | [a, b], _ => rfl
          rw [this]
        rw [e]
        exact ih _ (fun y hy => h y (by simp [hy]))
    exact this _ _ (by decide)
  rw [g]
  have s2 : signOf (c :: d :: r) = signOf [c, d] := rfl
  rw [s2]
  by_cases hd : d = 58 ∨ d = 61 ∨ d = 38 ∨ d = 124
  · by_cases hc : (([61, 38, 124] : List UInt8) ++ shorts).contains c = true
    · unfold shorts at hc
      simp only [List.cons_append, List.nil_append, List.contains_cons, List.contains_nil, Bool.or_false, Bool.or_eq_true, beq_iff_eq] at hc
      rcases hd with rfl | rfl | rfl | rfl <;> rcases hc with rfl | rfl | rfl | rfl | rfl | rfl | rfl | rfl | rfl | rfl | rfl | rfl | rfl | rfl | rfl | rfl | rfl <;> rfl
    · have hn : (([61, 38, 124] : List UInt8) ++ shorts).contains c = false := by simpa using hc
      exact best_none c d hn
  · have hd2 : (d == 58) = false ∧ (d == 61) = false ∧ (d == 38) = false ∧ (d == 124) = false := by
      refine ⟨?_, ?_, ?_, ?_⟩ <;> (simp only [beq_eq_false_iff_ne, ne_eq]; intro e; apply hd; simp [e])
    exact best_tail c d hd2

theorem sign_tab : ∀ (j : Nat) (h : j < 19), ∃ a b : UInt8, ((⟨#[40, 32, 32, 41, 32, 32, 91, 32, 32, 93, 32, 32, 123, 32, 32, 125, 32, 32, 44, 32, 32, 58, 32, 32, 46, 32, 32, 58, 58, 32, 61, 61, 32, 60, 32, 32, 60, 61, 32, 38, 38, 32, 124, 124, 32, 33, 32, 32, 43, 32, 32, 45, 32, 32, 42, 32, 32]⟩ : ByteArray).extract (3 * j) (3 * j + 2)).data.toList = [a, b] ∧ (((b.toNat == 32) = true ∧ sg[j]'h = [a]) ∨ ((b.toNat == 32) = false ∧ sg[j]'h = [a, b]))
  | 0, _ => ⟨40, 32, by rw [Lib.extract_data]; rfl, .inl ⟨rfl, rfl⟩⟩
  | 1, _ => ⟨41, 32, by rw [Lib.extract_data]; rfl, .inl ⟨rfl, rfl⟩⟩
  | 2, _ => ⟨91, 32, by rw [Lib.extract_data]; rfl, .inl ⟨rfl, rfl⟩⟩
  | 3, _ => ⟨93, 32, by rw [Lib.extract_data]; rfl, .inl ⟨rfl, rfl⟩⟩
  | 4, _ => ⟨123, 32, by rw [Lib.extract_data]; rfl, .inl ⟨rfl, rfl⟩⟩
  | 5, _ => ⟨125, 32, by rw [Lib.extract_data]; rfl, .inl ⟨rfl, rfl⟩⟩
  | 6, _ => ⟨44, 32, by rw [Lib.extract_data]; rfl, .inl ⟨rfl, rfl⟩⟩
  | 7, _ => ⟨58, 32, by rw [Lib.extract_data]; rfl, .inl ⟨rfl, rfl⟩⟩
  | 8, _ => ⟨46, 32, by rw [Lib.extract_data]; rfl, .inl ⟨rfl, rfl⟩⟩
  | 9, _ => ⟨58, 58, by rw [Lib.extract_data]; rfl, .inr ⟨rfl, rfl⟩⟩
  | 10, _ => ⟨61, 61, by rw [Lib.extract_data]; rfl, .inr ⟨rfl, rfl⟩⟩
  | 11, _ => ⟨60, 32, by rw [Lib.extract_data]; rfl, .inl ⟨rfl, rfl⟩⟩
  | 12, _ => ⟨60, 61, by rw [Lib.extract_data]; rfl, .inr ⟨rfl, rfl⟩⟩
  | 13, _ => ⟨38, 38, by rw [Lib.extract_data]; rfl, .inr ⟨rfl, rfl⟩⟩
  | 14, _ => ⟨124, 124, by rw [Lib.extract_data]; rfl, .inr ⟨rfl, rfl⟩⟩
  | 15, _ => ⟨33, 32, by rw [Lib.extract_data]; rfl, .inl ⟨rfl, rfl⟩⟩
  | 16, _ => ⟨43, 32, by rw [Lib.extract_data]; rfl, .inl ⟨rfl, rfl⟩⟩
  | 17, _ => ⟨45, 32, by rw [Lib.extract_data]; rfl, .inl ⟨rfl, rfl⟩⟩
  | 18, _ => ⟨42, 32, by rw [Lib.extract_data]; rfl, .inl ⟨rfl, rfl⟩⟩
  | j + 19, h => absurd h (by omega)

theorem wSign_of {l : List UInt8} (h : l ≠ []) : wSign l = if signOf l = [] then .error 1 else .ok (5, signOf l, (signOf l).length) := by
  obtain ⟨c, r, rfl⟩ := List.exists_cons_of_ne_nil h
  unfold wSign signOf
  by_cases h2 : two ((c :: r).take 2) = true
  · have hl := two_len h2
    rw [if_pos h2, if_pos h2]
    have hlen : ((c :: r).take 2).length = 2 := by rw [List.length_take]; omega
    rw [if_neg (by intro e; rw [e] at hlen; simp at hlen), hlen]
  · rw [if_neg h2, if_neg h2]
    by_cases h1 : ((c :: r).take 1).any (fun c => shorts.contains c) = true
    · rw [if_pos h1, if_pos h1]
      simp
    · rw [if_neg h1, if_neg h1]; simp
theorem best_sign {l : List UInt8} (h : l ≠ []) : best l 19 = signOf l := by
  match l, h with
  | [c], _ => exact best_one c
  | c :: d :: r, _ => exact best_two c d r
theorem best_small (l : List UInt8) : ∀ j, (best l j).length ≤ 2 := by
  intro j
  unfold best
  have : ∀ (L : List (List UInt8)) (acc : List UInt8), (∀ x ∈ L, x.length ≤ 2) → acc.length ≤ 2 → (L.foldl (pick1 l) acc).length ≤ 2 := by
    intro L
    induction L with
    | nil => intro acc _ h; exact h
    | cons x L ih =>
      intro acc h ha
      rw [List.foldl_cons]
      apply ih _ (fun y hy => h y (by simp [hy]))
      unfold pick1
      split
      · exact h x (by simp)
      · exact ha
  refine this _ _ (fun x hx => ?_) (by simp)
  have hx' := List.mem_of_mem_take hx
  have : ∀ x ∈ sg, x.length ≤ 2 := by decide
  exact this x hx'
theorem pick1_yes {l acc x : List UInt8} (h1 : bgn x l = true) (h2 : acc.length < x.length) : pick1 l acc x = x := by
  unfold pick1; rw [h1, decide_eq_true h2]; rfl
theorem pick1_no {l acc x : List UInt8} (h1 : bgn x l = false) : pick1 l acc x = acc := by
  unfold pick1; rw [h1]; rfl
theorem pick1_less {l acc x : List UInt8} (h2 : ¬ acc.length < x.length) : pick1 l acc x = acc := by
  unfold pick1; rw [decide_eq_false h2, Bool.and_false]; rfl
theorem byte_at {x : ByteArray} {a b : UInt8} (h : x.data.toList = [a, b]) (h1 : 1 < x.size) : x[1] = b := by
  have := of_list h
  subst this
  rfl

set_option maxHeartbeats 2000000 in
theorem refWord_sign (s : ByteArray) (k : Nat) (w : World) (hk : k < s.size) (hs : s.size ≤ 140737488351232) (hd : digb s[k] = false) (hlt : letb s[k] = false) (h63 : (s[k].toNat == 63) = false) (h34 : (s[k].toNat == 34) = false) :
    Calls Tryd.prog 15 #[.string s, .int .i64 k] w fun e w' => e = .returned (refW k (wSign (s.data.toList.drop k))) ∧ Below w.heap.size w w' := by
  have ik : (k : Int) < (s.size : Int) := by omega
  have hne : s.data.toList.drop k ≠ [] := by rw [drop_at s k hk]; simp
  have HW : Hid (_ = _) := wSign_of hne
  have HB : Hid (_ = _) := best_sign hne
  have n63 : ((s[k].toNat : Int) == 63) = false := by simp at h63 ⊢; omega
  have n34 : ((s[k].toNat : Int) == 34) = false := by simp at h34 ⊢; omega
  have HBG := fun (x : ByteArray) (w : World) (hx : x.size ≤ 1000) => begins_any s x k w (by omega) (by unfold maxLen; omega) hx
  generalize s.data.toList.drop k = l at *
  clear h63 h34 hne
  have HTAB : Hid (∀ (j : Nat) (h : j < 19), ∃ a b : UInt8, ((⟨#[40, 32, 32, 41, 32, 32, 91, 32, 32, 93, 32, 32, 123, 32, 32, 125, 32, 32, 44, 32, 32, 58, 32, 32, 46, 32, 32, 58, 58, 32, 61, 61, 32, 60, 32, 32, 60, 61, 32, 38, 38, 32, 124, 124, 32, 33, 32, 32, 43, 32, 32, 45, 32, 32, 42, 32, 32]⟩ : ByteArray).extract (3 * j) (3 * j + 2)).data.toList = [a, b] ∧ (((b.toNat == 32) = true ∧ sg[j]'h = [a]) ∨ ((b.toNat == 32) = false ∧ sg[j]'h = [a, b]))) := sign_tab
  have hSs : (⟨#[40, 32, 32, 41, 32, 32, 91, 32, 32, 93, 32, 32, 123, 32, 32, 125, 32, 32, 44, 32, 32, 58, 32, 32, 46, 32, 32, 58, 58, 32, 61, 61, 32, 60, 32, 32, 60, 61, 32, 38, 38, 32, 124, 124, 32, 33, 32, 32, 43, 32, 32, 45, 32, 32, 42, 32, 32]⟩ : ByteArray).size = 57 := rfl
  have hb0 : Below w.heap.size w (w.alloc (.cells #[.int .i64 0, .string ⟨#[]⟩, .int .i64 0] 36)) := (Below.refl _ _).alloc (Nat.le_refl _) _
  go_enter Tryd.func15, Tryd.ntmps15
  go_wp2_with (first | (go_at_call 24; refine (r2Digit_any _ _).mono ?_; rintro e w' ⟨rfl, rfl⟩; rw [hd]) | (go_at_call 26; refine (r2Letter_any _ _).mono ?_; rintro e w' ⟨rfl, rfl⟩; rw [hlt]))
  generalize (⟨#[40, 32, 32, 41, 32, 32, 91, 32, 32, 93, 32, 32, 123, 32, 32, 125, 32, 32, 44, 32, 32, 58, 32, 32, 46, 32, 32, 58, 58, 32, 61, 61, 32, 60, 32, 32, 60, 61, 32, 38, 38, 32, 124, 124, 32, 33, 32, 32, 43, 32, 32, 45, 32, 32, 42, 32, 32]⟩ : ByteArray) = S at *
  have hSs2 : S.size = 57 := hSs
  go_loopw [15, 16] (fun fv iv wr => ∃ (j n : Nat) (F : ByteArray) (m : Nat), j ≤ 19 ∧ F.size ≤ 2 ∧ Hid (m = 3 * j) ∧ iv = .int .i64 m ∧ fv = .string F ∧ wr = (w.alloc (.cells #[.int .i64 0, .string ⟨#[]⟩, .int .i64 0] 36)).drewN n ∧ Hid (F.data.toList = best l j)) (fun _ iv _ => 57 - (intOf iv).toNat)
  case atStart => exact ⟨0, 0, ⟨#[]⟩, 0, by omega, Nat.zero_le _, rfl, rfl, rfl, rfl, rfl⟩
  case round =>
    obtain ⟨j, n, F, m, hj, hF2, HM, rfl, rfl, rfl, HF⟩ := hrel
    by_cases hlt2 : j < 19
    · obtain ⟨a, b, hab, hc⟩ := HTAB.out j hlt2
      have HX : Hid (_ = _) := best_next l j hlt2
      rw [← HM.out] at hab
      have HJ : Hid (m + 3 = 3 * (j + 1)) := by have := HM.out; show _ = _; omega
      have hjm : m ≤ 54 := by have := HM.out; omega
      have i1 : (m : Int) < 57 := by omega
      have i2 : (m : Int) + 2 ≤ 57 := by omega
      have i3 : (0 : Int) ≤ (m : Int) + 2 := by omega
      have i4 : (m : Int) ≤ (m : Int) + 2 := by omega
      generalize sg[j]'hlt2 = Z at *
      generalize hXX : S.extract m (m + 2) = X at hab
      have hxs : X.size = 2 := by rw [size_l, hab]; rfl
      have hx1 := byte_at hab (by omega)
      rcases hc with ⟨hb, hz⟩ | ⟨hb, hz⟩
      · have hb2 : (((X[1]'(by omega)).toNat : Int) == 32) = true := by rw [hx1]; simp at hb ⊢; omega
        have HY : Hid ((X.extract 0 1).data.toList = Z) := by show _ = _; rw [head_take, hab, hz]; rfl
        have hys : (X.extract 0 1).size = 1 := by rw [size_l, HY.out, hz]; rfl
        have i6 : (1 : Int) ≤ (X.size : Int) := by omega
        clear hz hab hx1 hb
        generalize hYY : X.extract 0 1 = Y at *
        cases hbg : bgn Y.data.toList l
        · have HN : Hid (F.data.toList = best l (j + 1)) := by show _ = _; rw [HX.out, ← HY.out, pick1_no hbg]; exact HF.out
          go_wp2_with (go_at_call 29; refine (HBG _ _ (by omega)).mono ?_; rintro e w' ⟨rfl, n2, rfl⟩; rw [hbg])
          go_roundw
          case rel => exact ⟨j + 1, n + n2, F, m + 3, by omega, by omega, HJ, by go_num, rfl, rfl, HN⟩
          case measure => simp [intOf]; omega
        · by_cases hgt : F.size < Y.size
          · have HN : Hid (Y.data.toList = best l (j + 1)) := by show _ = _; rw [HX.out, ← HY.out, pick1_yes hbg (by rw [← HF.out, ← size_l, ← size_l]; exact hgt)]
            have i5 : (F.size : Int) < (Y.size : Int) := by omega
            go_wp2_with (go_at_call 29; refine (HBG _ _ (by omega)).mono ?_; rintro e w' ⟨rfl, n2, rfl⟩; rw [hbg])
            go_roundw
            case rel => exact ⟨j + 1, n + n2, Y, m + 3, by omega, by omega, HJ, by go_num, rfl, rfl, HN⟩
            case measure => simp [intOf]; omega
          · have HN : Hid (F.data.toList = best l (j + 1)) := by show _ = _; rw [HX.out, ← HY.out, pick1_less (by rw [← HF.out, ← size_l, ← size_l]; exact hgt)]; exact HF.out
            have i5 : ¬ (F.size : Int) < (Y.size : Int) := by omega
            go_wp2_with (go_at_call 29; refine (HBG _ _ (by omega)).mono ?_; rintro e w' ⟨rfl, n2, rfl⟩; rw [hbg])
            go_roundw
            case rel => exact ⟨j + 1, n + n2, F, m + 3, by omega, by omega, HJ, by go_num, rfl, rfl, HN⟩
            case measure => simp [intOf]; omega
      · have hb2 : (((X[1]'(by omega)).toNat : Int) == 32) = false := by rw [hx1]; simp at hb ⊢; omega
        have HY : Hid (X.data.toList = Z) := by show _ = _; rw [hab, hz]
        clear hz hab hx1 hb
        cases hbg : bgn X.data.toList l
        · have HN : Hid (F.data.toList = best l (j + 1)) := by show _ = _; rw [HX.out, ← HY.out, pick1_no hbg]; exact HF.out
          go_wp2_with (go_at_call 29; refine (HBG _ _ (by omega)).mono ?_; rintro e w' ⟨rfl, n2, rfl⟩; rw [hbg])
          go_roundw
          case rel => exact ⟨j + 1, n + n2, F, m + 3, by omega, by omega, HJ, by go_num, rfl, rfl, HN⟩
          case measure => simp [intOf]; omega
        · by_cases hgt : F.size < X.size
          · have HN : Hid (X.data.toList = best l (j + 1)) := by show _ = _; rw [HX.out, ← HY.out, pick1_yes hbg (by rw [← HF.out, ← size_l, ← size_l]; exact hgt)]
            have i5 : (F.size : Int) < (X.size : Int) := by omega
            go_wp2_with (go_at_call 29; refine (HBG _ _ (by omega)).mono ?_; rintro e w' ⟨rfl, n2, rfl⟩; rw [hbg])
            go_roundw
            case rel => exact ⟨j + 1, n + n2, X, m + 3, by omega, by omega, HJ, by go_num, rfl, rfl, HN⟩
            case measure => simp [intOf]; omega
          · have HN : Hid (F.data.toList = best l (j + 1)) := by show _ = _; rw [HX.out, ← HY.out, pick1_less (by rw [← HF.out, ← size_l, ← size_l]; exact hgt)]; exact HF.out
            have i5 : ¬ (F.size : Int) < (X.size : Int) := by omega
            go_wp2_with (go_at_call 29; refine (HBG _ _ (by omega)).mono ?_; rintro e w' ⟨rfl, n2, rfl⟩; rw [hbg])
            go_roundw
            case rel => exact ⟨j + 1, n + n2, F, m + 3, by omega, by omega, HJ, by go_num, rfl, rfl, HN⟩
            case measure => simp [intOf]; omega
    · obtain rfl : j = 19 := by omega
      obtain rfl : m = 57 := HM.out
      have hft : F.toList = F.data.toList := ByteArray.toList_eq F
      have HS : Hid (F.data.toList = signOf l) := HF.out.trans HB.out
      by_cases he : F.size = 0
      · have hnil : F.data.toList = [] := List.eq_nil_of_length_eq_zero (by rw [← size_l]; exact he)
        have e0 : (F.toList == []) = true := by rw [hft, hnil]; rfl
        have HW2 : Hid (wSign l = .error 1) := by
          show _ = _; rw [HW.out, if_pos (by rw [← HS.out]; exact hnil)]
        clear hft HTAB hnil
        go_wp2
        refine bodyPost_ret (v := .tuple #[.agg #[.int .i64 0, .string ⟨#[]⟩, .int .i64 0], .int .i64 0, .int .i64 1]) (by simp [results, Tryd.results15, go_sem]) rfl ⟨by rw [HW2.out]; rfl, ?_⟩
        exact (((below_draws hb0 n).setCell (Nat.le_refl _) _).setCell (Nat.le_refl _) _).setCell (Nat.le_refl _) _
      · have hnn : F.data.toList ≠ [] := by intro h; apply he; rw [size_l, h]; rfl
        have e0 : (F.toList == []) = false := by rw [hft]; cases e : (F.data.toList == []) with | false => rfl | true => exact absurd (by simpa using e) hnn
        have HW2 : Hid (wSign l = .ok (5, F.data.toList, F.size)) := by
          show _ = _; rw [HW.out, if_neg (by rw [← HS.out]; exact hnn), ← HS.out, ← size_l]
        clear hft HTAB
        go_wp2
        refine bodyPost_ret (v := .tuple #[.agg #[.int .i64 5, .string F, .int .i64 k], .int .i64 ((k : Int) + (F.size : Int)), .int .i64 0]) (by simp [results, Tryd.results15, go_sem]) rfl ⟨?_, ?_⟩
        · rw [HW2.out]
          rfl
        · exact (((below_draws hb0 n).setCell (Nat.le_refl _) _).setCell (Nat.le_refl _) _).setCell (Nat.le_refl _) _
end Go.Proofs.YtmcjogfopfhblaaDoor
