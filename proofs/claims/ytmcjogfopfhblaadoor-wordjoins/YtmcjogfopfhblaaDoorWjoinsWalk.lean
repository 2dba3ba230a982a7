/- The statement WordJoins returns true of every two lines: a walk of its own text over the contracts of package word. -/
import Derived.Test.YtmcjogfopfhblaaDoorWordR
import Derived.Test.YtmcjogfopfhblaaDoorWordV
namespace Go.Proofs.YtmcjogfopfhblaaDoor
open Go.RowKit
set_option linter.unusedVariables false

theorem fact_join : readL [49, 50, 32, 97, 98] = .ok [mkT 2 [49, 50] 0, mkT 1 [97, 98] 3] := by
  unfold readL
  rw [if_neg (by decide), wds_word (by decide) (x := (2, [49, 50], 2)) rfl (by decide)]
  simp only [List.nil_append, Nat.add_one_sub_one, List.drop_succ_cons, List.drop_zero, Nat.zero_add]
  rw [wds_blank (by decide), wds_word (by decide) (x := (1, [97, 98], 2)) rfl (by simp)]
  simp only [Nat.add_one_sub_one, List.drop_succ_cons, List.drop_zero]
  rw [wds_nil]
  rfl
theorem wds_at : ∀ (n : Nat) (l : List UInt8) (acc : List Tk) (a : Nat) (xs : List Tk), l.length ≤ n → (∀ t ∈ acc, 0 ≤ t.at_ ∧ t.at_ ≤ (a : Int)) → wds l acc a = .ok xs → ∀ t ∈ xs, 0 ≤ t.at_ ∧ t.at_ ≤ (a : Int) + (l.length : Int)
  | _, [], acc, a, xs, _, ha, h => by rw [wds_nil] at h; cases h; intro t ht; have := ha t ht; simp; exact this
  | 0, c :: r, _, _, _, hn, _, _ => by simp at hn
  | n + 1, c :: r, acc, a, xs, hn, ha, h => by
    simp only [List.length_cons] at hn
    by_cases hb : (c.toNat == 32) = true
    · rw [wds_blank hb] at h
      intro t ht
      have := wds_at n r acc (a + 1) xs (by omega) (fun t ht => by have := ha t ht; omega) h t ht
      simp only [List.length_cons]; omega
    · have hb' : (c.toNat == 32) = false := by simpa using hb
      cases hw : word1 (c :: r) with
      | error e => rw [wds_bad hb' hw] at h; cases h
      | ok x =>
        by_cases hf : 300 ≤ acc.length
        · rw [wds_full hb' hw hf] at h; cases h
        · rw [wds_word hb' hw hf] at h
          obtain ⟨s1, s2⟩ := word1_size hw
          simp only [List.length_cons] at s2
          intro t ht
          have := wds_at n _ _ _ xs (by simp; omega) (fun y hy => by
            rcases List.mem_append.1 hy with hy | hy
            · have := ha y hy; omega
            · simp at hy
              subst hy
              simp only [mkT]
              omega) h t ht
          rw [List.length_drop] at this
          simp only [List.length_cons]; omega
theorem readL_parts {l : List UInt8} {xs : List Tk} (h : readL l = .ok xs) : l.length ≤ 900 ∧ wds l [] 0 = .ok xs := by
  unfold readL at h
  split at h
  · cases h
  · exact ⟨by omega, h⟩
theorem bt3 {a b c : World} (h : Below a.heap.size a b) (k : Below b.heap.size b c) : Below a.heap.size a c := h.trans (k.mono h.size)

set_option maxRecDepth 100000 in
set_option maxHeartbeats 2000000 in
theorem joins_ee (s t : ByteArray) (w : World) (hs : s.size ≤ maxLen) (ht : t.size ≤ maxLen) (x : Int × Nat) (hA : readL s.data.toList = .error x) (y : Int × Nat) (hB : readL t.data.toList = .error y) :
    Calls Tryd.prog 6 #[.string s, .string t] w fun e w' => e = .returned (.bool true) ∧ Below w.heap.size w w' := by
  have HF := read_any ⟨#[49, 50, 32, 97, 98]⟩ w (by decide)
  have hfd : (⟨#[49, 50, 32, 97, 98]⟩ : ByteArray).data.toList = [49, 50, 32, 97, 98] := rfl
  rw [hfd, fact_join] at HF
  have H1 := fun w => read_any s w hs
  have H2 := fun w => read_any t w ht
  rw [hA] at H1
  rw [hB] at H2
  clear hfd hA hB
  go_enter Tryd.func6, Tryd.ntmps6
  go_wp2_with fail
  refine HF.mono ?_
  rintro e w1 ⟨⟨q0, c0, rfl, hk0, _⟩, hb1⟩
  obtain ⟨b0, o0, rfl, hbw0, f0, f1, f2⟩ := hk0.at (i := 1) (by simp)
  simp only [mkT, List.getElem_cons_succ, List.getElem_cons_zero, Nat.one_mul] at f0 f1 f2
  go_wp2_with fail
  refine (H1 _).mono ?_
  rintro e w2 ⟨rfl, hb2⟩
  have hb12 := bt3 hb1 hb2
  clear f0 f1 f2
  go_wp2_with fail
  refine (H2 _).mono ?_
  rintro e w3 ⟨rfl, hb3⟩
  have hb13 := bt3 hb12 hb3
  go_wp2
  go_ret
  exact ⟨rfl, hb13⟩

set_option maxRecDepth 100000 in
set_option maxHeartbeats 2000000 in
theorem joins_eo (s t : ByteArray) (w : World) (hs : s.size ≤ maxLen) (ht : t.size ≤ maxLen) (x : Int × Nat) (hA : readL s.data.toList = .error x) (ys : List Tk) (hB : readL t.data.toList = .ok ys) :
    Calls Tryd.prog 6 #[.string s, .string t] w fun e w' => e = .returned (.bool true) ∧ Below w.heap.size w w' := by
  have HF := read_any ⟨#[49, 50, 32, 97, 98]⟩ w (by decide)
  have hfd : (⟨#[49, 50, 32, 97, 98]⟩ : ByteArray).data.toList = [49, 50, 32, 97, 98] := rfl
  rw [hfd, fact_join] at HF
  have H1 := fun w => read_any s w hs
  have H2 := fun w => read_any t w ht
  rw [hA] at H1
  rw [hB] at H2
  clear hfd hA hB
  go_enter Tryd.func6, Tryd.ntmps6
  go_wp2_with fail
  refine HF.mono ?_
  rintro e w1 ⟨⟨q0, c0, rfl, hk0, _⟩, hb1⟩
  obtain ⟨b0, o0, rfl, hbw0, f0, f1, f2⟩ := hk0.at (i := 1) (by simp)
  simp only [mkT, List.getElem_cons_succ, List.getElem_cons_zero, Nat.one_mul] at f0 f1 f2
  go_wp2_with fail
  refine (H1 _).mono ?_
  rintro e w2 ⟨rfl, hb2⟩
  have hb12 := bt3 hb1 hb2
  clear f0 f1 f2
  go_wp2_with fail
  refine (H2 _).mono ?_
  rintro e w3 ⟨⟨q3, c3, rfl, hk3, _⟩, hb3⟩
  have hb13 := bt3 hb12 hb3
  go_wp2
  go_ret
  exact ⟨rfl, hb13⟩

set_option maxRecDepth 100000 in
set_option maxHeartbeats 2000000 in
theorem joins_oe (s t : ByteArray) (w : World) (hs : s.size ≤ maxLen) (ht : t.size ≤ maxLen) (xs : List Tk) (hA : readL s.data.toList = .ok xs) (y : Int × Nat) (hB : readL t.data.toList = .error y) :
    Calls Tryd.prog 6 #[.string s, .string t] w fun e w' => e = .returned (.bool true) ∧ Below w.heap.size w w' := by
  have HF := read_any ⟨#[49, 50, 32, 97, 98]⟩ w (by decide)
  have hfd : (⟨#[49, 50, 32, 97, 98]⟩ : ByteArray).data.toList = [49, 50, 32, 97, 98] := rfl
  rw [hfd, fact_join] at HF
  have H1 := fun w => read_any s w hs
  have H2 := fun w => read_any t w ht
  rw [hA] at H1
  rw [hB] at H2
  clear hfd hA hB
  go_enter Tryd.func6, Tryd.ntmps6
  go_wp2_with fail
  refine HF.mono ?_
  rintro e w1 ⟨⟨q0, c0, rfl, hk0, _⟩, hb1⟩
  obtain ⟨b0, o0, rfl, hbw0, f0, f1, f2⟩ := hk0.at (i := 1) (by simp)
  simp only [mkT, List.getElem_cons_succ, List.getElem_cons_zero, Nat.one_mul] at f0 f1 f2
  go_wp2_with fail
  refine (H1 _).mono ?_
  rintro e w2 ⟨⟨q2, c2, rfl, hk2, _⟩, hb2⟩
  have hb12 := bt3 hb1 hb2
  clear f0 f1 f2
  go_wp2_with fail
  refine (H2 _).mono ?_
  rintro e w3 ⟨rfl, hb3⟩
  have hb13 := bt3 hb12 hb3
  go_wp2
  go_ret
  exact ⟨rfl, hb13⟩

set_option maxRecDepth 100000 in
set_option maxHeartbeats 2000000 in
theorem joins_long (s t : ByteArray) (w : World) (hs : s.size ≤ maxLen) (ht : t.size ≤ maxLen) (xs : List Tk) (hA : readL s.data.toList = .ok xs) (ys : List Tk) (hB : readL t.data.toList = .ok ys) (hlong : 900 < s.size + t.size + 1) :
    Calls Tryd.prog 6 #[.string s, .string t] w fun e w' => e = .returned (.bool true) ∧ Below w.heap.size w w' := by
  have HF := read_any ⟨#[49, 50, 32, 97, 98]⟩ w (by decide)
  have hfd : (⟨#[49, 50, 32, 97, 98]⟩ : ByteArray).data.toList = [49, 50, 32, 97, 98] := rfl
  rw [hfd, fact_join] at HF
  have H1 := fun w => read_any s w hs
  have H2 := fun w => read_any t w ht
  rw [hA] at H1
  rw [hB] at H2
  have hsl : s.data.toList.length = s.size := by simp
  have htl : t.data.toList.length = t.size := by simp
  have hs9 : s.size ≤ 900 := by have := (readL_parts hA).1; omega
  have ht9 : t.size ≤ 900 := by have := (readL_parts hB).1; omega
  have hx3 := wds_count (readL_parts hA).2
  have hy3 := wds_count (readL_parts hB).2
  generalize hnx : xs.length = nx at *
  generalize hny : ys.length = ny at *
  have i1 : (900 : Int) < (s.size : Int) + (t.size : Int) + 1 := by omega
  clear hfd hA hB
  go_enter Tryd.func6, Tryd.ntmps6
  go_wp2_with fail
  refine HF.mono ?_
  rintro e w1 ⟨⟨q0, c0, rfl, hk0, _⟩, hb1⟩
  obtain ⟨b0, o0, rfl, hbw0, f0, f1, f2⟩ := hk0.at (i := 1) (by simp)
  simp only [mkT, List.getElem_cons_succ, List.getElem_cons_zero, Nat.one_mul] at f0 f1 f2
  go_wp2_with fail
  refine (H1 _).mono ?_
  rintro e w2 ⟨⟨q2, c2, rfl, hk2, _⟩, hb2⟩
  have hb12 := bt3 hb1 hb2
  rw [hnx]
  clear f0 f1 f2
  go_wp2_with fail
  refine (H2 _).mono ?_
  rintro e w3 ⟨⟨q3, c3, rfl, hk3, _⟩, hb3⟩
  have hb13 := bt3 hb12 hb3
  rw [hny]
  go_wp2
  go_ret
  exact ⟨rfl, hb13⟩

set_option maxRecDepth 100000 in
set_option maxHeartbeats 2000000 in
theorem joins_many (s t : ByteArray) (w : World) (hs : s.size ≤ maxLen) (ht : t.size ≤ maxLen) (xs : List Tk) (hA : readL s.data.toList = .ok xs) (ys : List Tk) (hB : readL t.data.toList = .ok ys) (hlong : ¬ 900 < s.size + t.size + 1) (hmany : 300 < xs.length + ys.length) :
    Calls Tryd.prog 6 #[.string s, .string t] w fun e w' => e = .returned (.bool true) ∧ Below w.heap.size w w' := by
  have HF := read_any ⟨#[49, 50, 32, 97, 98]⟩ w (by decide)
  have hfd : (⟨#[49, 50, 32, 97, 98]⟩ : ByteArray).data.toList = [49, 50, 32, 97, 98] := rfl
  rw [hfd, fact_join] at HF
  have H1 := fun w => read_any s w hs
  have H2 := fun w => read_any t w ht
  rw [hA] at H1
  rw [hB] at H2
  have hsl : s.data.toList.length = s.size := by simp
  have htl : t.data.toList.length = t.size := by simp
  have hs9 : s.size ≤ 900 := by have := (readL_parts hA).1; omega
  have ht9 : t.size ≤ 900 := by have := (readL_parts hB).1; omega
  have hx3 := wds_count (readL_parts hA).2
  have hy3 := wds_count (readL_parts hB).2
  generalize hnx : xs.length = nx at *
  generalize hny : ys.length = ny at *
  have i1 : ¬ (900 : Int) < (s.size : Int) + (t.size : Int) + 1 := by omega
  have i2 : (300 : Int) < (nx : Int) + (ny : Int) := by omega
  clear hfd hA hB
  go_enter Tryd.func6, Tryd.ntmps6
  go_wp2_with fail
  refine HF.mono ?_
  rintro e w1 ⟨⟨q0, c0, rfl, hk0, _⟩, hb1⟩
  obtain ⟨b0, o0, rfl, hbw0, f0, f1, f2⟩ := hk0.at (i := 1) (by simp)
  simp only [mkT, List.getElem_cons_succ, List.getElem_cons_zero, Nat.one_mul] at f0 f1 f2
  go_wp2_with fail
  refine (H1 _).mono ?_
  rintro e w2 ⟨⟨q2, c2, rfl, hk2, _⟩, hb2⟩
  have hb12 := bt3 hb1 hb2
  rw [hnx]
  clear f0 f1 f2
  go_wp2_with fail
  refine (H2 _).mono ?_
  rintro e w3 ⟨⟨q3, c3, rfl, hk3, _⟩, hb3⟩
  have hb13 := bt3 hb12 hb3
  rw [hny]
  go_wp2
  go_ret
  exact ⟨rfl, hb13⟩

set_option maxRecDepth 100000 in
set_option maxHeartbeats 2000000 in
theorem joins_main (s t : ByteArray) (w : World) (hs : s.size ≤ maxLen) (ht : t.size ≤ maxLen) (xs : List Tk) (hA : readL s.data.toList = .ok xs) (ys : List Tk) (hB : readL t.data.toList = .ok ys) (hlong : ¬ 900 < s.size + t.size + 1) (hmany : ¬ 300 < xs.length + ys.length) :
    Calls Tryd.prog 6 #[.string s, .string t] w fun e w' => e = .returned (.bool true) ∧ Below w.heap.size w w' := by
  have HF := read_any ⟨#[49, 50, 32, 97, 98]⟩ w (by decide)
  have hfd : (⟨#[49, 50, 32, 97, 98]⟩ : ByteArray).data.toList = [49, 50, 32, 97, 98] := rfl
  rw [hfd, fact_join] at HF
  have H1 := fun w => read_any s w hs
  have H2 := fun w => read_any t w ht
  rw [hA] at H1
  rw [hB] at H2
  have hj := joins (readL_parts hA).2 (readL_parts hB).2 (by omega)
  have hyat := wds_at _ _ _ _ _ (Nat.le_refl _) (by simp) (readL_parts hB).2
  have hsl : s.data.toList.length = s.size := by simp
  have htl : t.data.toList.length = t.size := by simp
  have hs9 : s.size ≤ 900 := by have := (readL_parts hA).1; omega
  have ht9 : t.size ≤ 900 := by have := (readL_parts hB).1; omega
  have hx3 := wds_count (readL_parts hA).2
  have hy3 := wds_count (readL_parts hB).2
  generalize hnx : xs.length = nx at *
  generalize hny : ys.length = ny at *
  have i1 : ¬ (900 : Int) < (s.size : Int) + (t.size : Int) + 1 := by omega
  have i2 : ¬ (300 : Int) < (nx : Int) + (ny : Int) := by omega
  have hcat : (s ++ ⟨#[32]⟩ ++ t).data.toList = s.data.toList ++ 32 :: t.data.toList := by simp
  have hcs : (s ++ ⟨#[32]⟩ ++ t).size = s.size + 1 + t.size := by rw [ByteArray.size_append, ByteArray.size_append]; rfl
  have HZ := fun w => read_any (s ++ ⟨#[32]⟩ ++ t) w (by rw [hcs]; unfold maxLen; omega)
  have hrz : readL (s ++ ⟨#[32]⟩ ++ t).data.toList = .ok (xs ++ ys.map (sh (s.size + 1))) := by
    rw [hcat]
    unfold readL
    rw [if_neg (by simp only [List.length_append, List.length_cons]; omega), hj, hsl]
  rw [hrz] at HZ
  have hZl : (xs ++ ys.map (sh (s.size + 1))).length = nx + ny := by rw [List.length_append, List.length_map, hnx, hny]
  have HZX : Hid (∀ (k : Nat) (h : k < (xs ++ ys.map (sh (s.size + 1))).length) (h2 : k < xs.length), (xs ++ ys.map (sh (s.size + 1)))[k] = xs[k]) := fun k h h2 => List.getElem_append_left h2
  have HZY : Hid (∀ (k : Nat) (h : nx + k < (xs ++ ys.map (sh (s.size + 1))).length) (h2 : k < ys.length), (xs ++ ys.map (sh (s.size + 1)))[nx + k] = sh (s.size + 1) ys[k]) := fun k h h2 => by
    rw [List.getElem_append_right (by omega), List.getElem_map]
    congr 2
    omega
  have HAT : Hid (∀ t' ∈ ys, 0 ≤ t'.at_ ∧ t'.at_ ≤ 900) := fun t' ht' => by have := hyat t' ht'; omega
  generalize xs ++ ys.map (sh (s.size + 1)) = Z at *
  generalize hSP : s ++ ⟨#[32]⟩ ++ t = SP at *
  clear hfd hA hB hyat hj hcat hrz hlong
  go_enter Tryd.func6, Tryd.ntmps6
  go_wp2_with fail
  refine HF.mono ?_
  rintro e w1 ⟨⟨q0, c0, rfl, hk0, _⟩, hb1⟩
  obtain ⟨b0, o0, rfl, hbw0, f0, f1, f2⟩ := hk0.at (i := 1) (by simp)
  simp only [mkT, List.getElem_cons_succ, List.getElem_cons_zero, Nat.one_mul] at f0 f1 f2
  go_wp2_with fail
  refine (H1 _).mono ?_
  rintro e w2 ⟨⟨q2, c2, rfl, hk2, _⟩, hb2⟩
  have hb12 := bt3 hb1 hb2
  rw [hnx]
  clear f0 f1 f2
  go_wp2_with fail
  refine (H2 _).mono ?_
  rintro e w3 ⟨⟨q3, c3, rfl, hk3, _⟩, hb3⟩
  have hb13 := bt3 hb12 hb3
  rw [hny]
  go_wp2_with fail
  refine (HZ _).mono ?_
  rintro e w4 ⟨⟨q4, c4, rfl, hk4, _⟩, hb4⟩
  have hb14 := bt3 hb13 hb4
  have hkx := (hk2.up hb3).up hb4
  have hky := hk3.up hb4
  rw [hZl]
  go_wp2
  go_loopw [17] (fun i wr => ∃ k n : Nat, k ≤ nx ∧ i = .int .i64 k ∧ wr = w4.drewN n) (fun i _ => nx - (intOf i).toNat)
  case atStart => exact ⟨0, 0, Nat.zero_le _, rfl, rfl⟩
  case round =>
    obtain ⟨k, n, hk, rfl, rfl⟩ := hrel
    by_cases hlt : k < nx
    · obtain ⟨b1, o1, rfl, hbw1, x0, x1, x2⟩ := hkx.at (i := k) (by omega)
      obtain ⟨b2, o2, rfl, hbw2, y0, y1, y2⟩ := hk4.at (i := k) (by omega)
      rw [HZX.out k (by omega) (by omega)] at y0 y1 y2
      have i3 : (k : Int) < (nx : Int) := by omega
      have i4 : (k : Int) < (nx : Int) + (ny : Int) := by omega
      generalize xs[k] = X at *
      go_wp2
      go_quiet (fail)
      go_wp2
      go_roundw
      case rel => exact ⟨k + 1, _, by omega, by go_num, rfl⟩
      case measure => simp [intOf]; omega
    · obtain rfl : k = nx := by omega
      have i3 : ¬ (k : Int) < (k : Int) := by omega
      have hbd : Below w4.heap.size w4 (w4.drewN n) := below_drawn (Below.refl _ _) n
      clear hkx
      go_wp2
      go_loopw [18] (fun i wr => ∃ m : Nat, m ≤ ny ∧ i = .int .i64 m ∧ Below w4.heap.size w4 wr) (fun i _ => ny - (intOf i).toNat)
      case atStart => exact ⟨0, Nat.zero_le _, rfl, hbd⟩
      case round =>
        obtain ⟨m, hm, rfl, hbq⟩ := hrel
        by_cases hlt2 : m < ny
        · obtain ⟨b1, o1, rfl, hbw1, x0, x1, x2⟩ := (hky.up hbq).at (i := m) (by omega)
          obtain ⟨b2, o2, rfl, hbw2, y0, y1, y2⟩ := (hk4.up hbq).at (i := k + m) (by omega)
          rw [HZY.out m (by omega) (by omega)] at y0 y1 y2
          have hat := HAT.out (ys[m]'(by omega)) (List.getElem_mem _)
          generalize ys[m]'(by omega) = Y at *
          simp only [sh] at y0 y1 y2
          obtain ⟨hat1, hat2⟩ := hat
          have hca : ((s.size + 1 : Nat) : Int) = (s.size : Int) + 1 := by omega
          rw [hca] at y2
          have i5 : (m : Int) < (ny : Int) := by omega
          have i6 : (k : Int) + (m : Int) < (k : Int) + (ny : Int) := by omega
          have i7 : (0 : Int) ≤ (k : Int) + (m : Int) := by omega
          have hwr : IntKind.i64.wrap ((k : Int) + (m : Int)) = (k : Int) + (m : Int) := IntWalk.i64_in _ (by omega)
          have htn : k + m = ((k : Int) + (m : Int)).toNat := by omega
          have hba : Below wr.heap.size wr (wr.alloc (.cells #[.int .i64 Y.kind, .string Y.s, .int .i64 (Y.at_ + ((s.size : Int) + 1))] 36)) := (Below.refl _ _).alloc (Nat.le_refl _) _
          have z0 := (hba.cell (p := ⟨b2, o2 + (k + m) * 3, none⟩) hbw2).trans y0
          have z1 := (hba.cell (p := ⟨b2, o2 + (k + m) * 3 + 1, none⟩) hbw2).trans y1
          have z2 := (hba.cell (p := ⟨b2, o2 + (k + m) * 3 + 2, none⟩) hbw2).trans y2
          rw [htn] at z0 z1 z2
          have hbq2 := bt3 hbq hba
          clear y0 y1 y2 hca htn
          go_wp2
          go_quiet (fail)
          go_wp2
          go_roundw
          case rel => exact ⟨m + 1, by omega, by go_num, below_drawn hbq2 _⟩
          case measure => simp [intOf]; omega
        · obtain rfl : m = ny := by omega
          have i5 : ¬ (m : Int) < (m : Int) := by omega
          go_wp2
          go_ret
          exact ⟨rfl, bt3 hb14 hbq⟩

theorem wordJoins_true (s t : ByteArray) (w : World) (hs : s.size ≤ maxLen) (ht : t.size ≤ maxLen) :
    Calls Tryd.prog 6 #[.string s, .string t] w fun e w' => e = .returned (.bool true) ∧ Below w.heap.size w w' := by
  cases hA : readL s.data.toList with
  | error x =>
    cases hB : readL t.data.toList with
    | error y => exact joins_ee s t w hs ht x hA y hB
    | ok ys => exact joins_eo s t w hs ht x hA ys hB
  | ok xs =>
    cases hB : readL t.data.toList with
    | error y => exact joins_oe s t w hs ht xs hA y hB
    | ok ys =>
      by_cases h1 : 900 < s.size + t.size + 1
      · exact joins_long s t w hs ht xs hA ys hB h1
      · by_cases h2 : 300 < xs.length + ys.length
        · exact joins_many s t w hs ht xs hA ys hB h1 h2
        · exact joins_main s t w hs ht xs hA ys hB h1 h2
end Go.Proofs.YtmcjogfopfhblaaDoor
