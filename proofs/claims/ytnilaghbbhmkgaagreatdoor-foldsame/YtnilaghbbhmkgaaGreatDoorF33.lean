/- Package tree's End: by walks of its own text. slices.Equal at nodes, slices.Clone at lists of nodes, package val's fit: what they return, by walks of their own texts. Package bag's checkBoth, partsOf, partsOfBoth: what they return. What is as good as can be: nowhere in it is anything better; it is told of itself. No program is named here. -/
import Derived.Test.YtnilaghbbhmkgaaGreatDoorF32
import Derived.Test.YtnilaghbbhmkgaaGreatDoorF10
import Derived.Test.YtnilaghbbhmkgaaGreatDoorF25
import Derived.Test.YtnilaghbbhmkgaaGreatDoorF28
namespace Go.Proofs.YtnilaghbbhmkgaaGreatDoor
open Go.RowKit
set_option linter.unusedVariables false

theorem tend_ok (v : List Nd) (p : Option Addr) (c k : Nat) (w : World) (hv : NL w p v) (hl : v.length ≤ maxLen) (h : xfault v = 0) (hk : k < v.length) (h7 : v[k].op ≠ 7) (r : List Nd) (hr : pastE (v.length + 1) (v.drop k) = some r) :
    Calls Tryz.prog 171 #[.slice p v.length c, .int .i64 k] w fun e w' => e = .returned (.tuple #[.int .i64 ((v.length - r.length : Nat) : Int), .nilIface]) ∧ Below w.heap.size w w' := by
  have hc := tcheck_any v p c w hv hl
  rw [eV_nil h] at hc
  have hx := fun w1 (hb : Below w.heap.size w w1) => pastExpr_any (v.length + 1) v p c k w1 (by omega) (by omega) (hv.up hb) hl
  rw [hr] at hx
  unfold XE at hx
  simp only [] at hx
  obtain ⟨b, off, rfl, hbw, x0, x1, x2, x3, xw⟩ := hv.at hk
  generalize v[k] = x at *
  generalize v.length - r.length = en at *
  have e7 : (x.op == 7) = false := by simpa using h7
  have i1 : (k : Int) < (v.length : Int) := by omega
  have i2 : ¬ (k : Int) < 0 := by omega
  clear h7 hr
  go_enter Tryz.func171, Tryz.ntmps171
  go_wp2_with fail
  refine hc.mono ?_
  rintro e w1 ⟨rfl, hb⟩
  have z0 := (hb.cell (p := ⟨b, off + k * 4, none⟩) hbw).trans x0
  have hx1 := hx _ hb
  clear x0 x1 x2 x3 hx
  go_wp2_with fail
  refine hx1.mono ?_
  rintro e w2 ⟨rfl, hb2⟩
  go_wp2
  go_ret2
  exact ⟨rfl, hb.trans (hb2.mono hb.size)⟩
end Go.Proofs.YtnilaghbbhmkgaaGreatDoor
namespace Go.Proofs.YtnilaghbbhmkgaaGreatDoor
open Go.RowKit
set_option linter.unusedVariables false

set_option maxRecDepth 100000 in
set_option maxHeartbeats 4000000 in
theorem equalNodes_any (a b : List Nd) (p q : Option Addr) (c1 c2 : Nat) (w : World) (ha : NL w p a) (hb : NL w q b) (la : a.length ≤ maxLen) (lb : b.length ≤ maxLen) :
    Calls Tryz.prog 142 #[.slice p a.length c1, .slice q b.length c2] w fun e w' => e = .returned (.bool (sameNd a b)) ∧ ∃ n, w' = w.drewN n := by
  unfold maxLen at la lb
  by_cases hl : a.length = b.length
  · have i0 : ((a.length : Int) != (b.length : Int)) = false := by simp [hl]
    go_enter Tryz.func142, Tryz.ntmps142
    go_wp2
    go_loopw [13] (fun i wr => ∃ k n : Nat, k ≤ a.length ∧ i = .int .i64 k ∧ wr = w.drewN n ∧ Hid (a.take k = b.take k)) (fun i _ => a.length - (intOf i).toNat)
    case atStart => exact ⟨0, 0, Nat.zero_le _, rfl, rfl, rfl⟩
    case round =>
      obtain ⟨k, n, hk, rfl, rfl, HD⟩ := hrel
      by_cases hlt : k < a.length
      · have hlt2 : k < b.length := by omega
        obtain ⟨b1, o1, rfl, hb1, x0, x1, x2, x3, xw⟩ := ha.at hlt
        obtain ⟨b2, o2, rfl, hb2, y0, y1, y2, y3, yw⟩ := hb.at hlt2
        have i1 : (k : Int) < (a.length : Int) := by omega
        have i2 : (k : Int) < (b.length : Int) := by omega
        have HE : Hid (a[k] = b[k] → a.take (k + 1) = b.take (k + 1)) := take_same hlt hlt2 HD.out
        have HF : Hid (a[k] ≠ b[k] → a ≠ b) := fun h1 h2 => h1 (by subst h2; rfl)
        generalize a[k] = x at *
        generalize b[k] = y at *
        obtain ⟨xa, xb, xc, xd⟩ := x
        obtain ⟨ya, yb, yc, yd⟩ := y
        simp only at x0 x1 x2 x3 y0 y1 y2 y3
        by_cases h1 : xa = ya
        · subst h1
          by_cases h2 : xb = yb
          · subst h2
            by_cases h3 : xc = yc
            · subst h3
              by_cases h4 : xd = yd
              · subst h4
                have HE2 : Hid (a.take (k + 1) = b.take (k + 1)) := HE.out rfl
                clear HE HF
                go_wp2
                go_quiet (fail)
                go_wp2
                go_roundw
                case rel => exact ⟨k + 1, _, by omega, by go_num, rfl, HE2⟩
                case measure => simp [intOf]; omega
              · have h4' : ¬ xd.toList = yd.toList := fun h => h4 (bytes_inj (by simpa only [ByteArray.toList_eq] using h))
                go_wp2
                go_quiet (fail)
                go_wp2
                go_ret
                exact ⟨ret_b (sameNd_no (HF.out (fun h => h4 (by injection h)))).symm, _, by rw [World.drewN_drewN]⟩
            · have h3' : ¬ xc.toList = yc.toList := fun h => h3 (bytes_inj (by simpa only [ByteArray.toList_eq] using h))
              go_wp2
              go_quiet (fail)
              go_wp2
              go_ret
              exact ⟨ret_b (sameNd_no (HF.out (fun h => h3 (by injection h)))).symm, _, by rw [World.drewN_drewN]⟩
          · go_wp2
            go_quiet (fail)
            go_wp2
            go_ret
            exact ⟨ret_b (sameNd_no (HF.out (fun h => h2 (by injection h)))).symm, _, by rw [World.drewN_drewN]⟩
        · go_wp2
          go_quiet (fail)
          go_wp2
          go_ret
          exact ⟨ret_b (sameNd_no (HF.out (fun h => h1 (by injection h)))).symm, _, by rw [World.drewN_drewN]⟩
      · have i1 : ¬ (k : Int) < (a.length : Int) := by omega
        have HS : Hid (sameNd a b = true) := by
          show _ = _
          rw [sameNd_iff]
          have := HD.out
          rw [List.take_of_length_le (by omega), List.take_of_length_le (by omega)] at this
          exact this
        go_wp2
        go_ret
        exact ⟨ret_b HS.out.symm, _, rfl⟩
  · have i0 : ((a.length : Int) != (b.length : Int)) = true := by simp; omega
    go_enter Tryz.func142, Tryz.ntmps142
    go_wp2
    go_ret
    exact ⟨ret_b (sameNd_no (fun h => hl (by rw [h]))).symm, 0, rfl⟩

set_option maxRecDepth 100000 in
/-- slices.Clone at lists: the same cells in a row of the call's own. -/
theorem cloneLists_fn (xs : List Value) (a : Addr) (c : Nat) (w : World) (hcell : ∀ j u, xs[j]? = some u → a.block < w.heap.size ∧ w.cell? (a.add j) = some u) (h1 : ∀ u ∈ xs, u.oneCell' = true) (hl : xs.length ≤ 1099511627776) :
    Calls Tryz.prog 163 #[.slice (some a) xs.length c] w fun e w' => (∃ v, e = .returned v ∧ Row1 w' w.heap.size 25 v xs) ∧ Below w.heap.size w w' := by
  obtain ⟨i0, hi, hz0, hz1, hz2⟩ := info_parts Tryz.infoList
  have HC : Hid (∀ j u, xs[j]? = some u → a.block < w.heap.size ∧ w.cell? (a.add j) = some u) := hcell
  clear hcell
  have q22 : ∀ (w : World) (a : Option Addr) (n c n' c' : Nat), (binOp .eql 86 (.slice a n c) (.slice none n' c')).run Tryz.prog w = .ok (.bool a.isNone) w := fun w a n c n' c' => Lib.run_eql_slice_nil w _ _ a n c n' c' Tryz.underlying86
  go_enter Tryz.func163, Tryz.ntmps163
  go_wp2_with (at_builtin; refine wpList_append_own _ rfl _ _ 86 rfl w.heap.size 25 i0 _ 1 24 Tryz.underlying86 hi hz0 hz1 hz2 rfl (by decide) _ _ _ rfl (World.ownsRow_made w #[] 0 (Nat.le_refl _) (Nat.zero_le _) (by simp)) a xs.length c xs rfl ?qc1 ?qc2 ?qc3 ?qc4 ?qc5 ?qc6 ?_)
  case qc1 => simp
  case qc2 =>
    intro j u hu
    obtain ⟨hbw, hh⟩ := HC.out j u hu
    have hab : (a.add j).block = a.block := by unfold Addr.add; split <;> rfl
    exact (Below.cell (p := a.add j) ((Below.refl w.heap.size w).alloc (Nat.le_refl _) _) (by rw [hab]; exact hbw)).trans hh
  case qc3 => exact h1
  case qc4 => unfold maxLen; omega
  case qc5 => omega
  case qc6 => simp
  intro v' w' h1 h2 h3
  have hbel : Below w.heap.size w w' := ((Below.refl w.heap.size w).alloc (Nat.le_refl _) (.cells #[] 25)).grown h2 (by simp) (fun k hk => by simp [Value.ownBlock] at hk; omega)
  have hrow : Row1 w' w.heap.size 25 v' xs := by simpa [Row1] using h1
  have HR : Hid (Row1 w' w.heap.size 25 v' xs) := hrow
  clear hrow h1 h2 h3 hi hz0 hz1 hz2
  go_wp2
  go_ret
  exact ⟨⟨v', rfl, HR.out⟩, hbel⟩
theorem cloneLists_nil (n c : Nat) (w : World) :
    Calls Tryz.prog 163 #[.slice none n c] w fun e w' => e = .returned (.slice none 0 0) ∧ w' = w := by
  have q22 : ∀ (w : World) (a : Option Addr) (n c n' c' : Nat), (binOp .eql 86 (.slice a n c) (.slice none n' c')).run Tryz.prog w = .ok (.bool a.isNone) w := fun w a n c n' c' => Lib.run_eql_slice_nil w _ _ a n c n' c' Tryz.underlying86
  go_enter Tryz.func163, Tryz.ntmps163
  go_wp2
  go_ret
  exact ⟨rfl, rfl⟩
end Go.Proofs.YtnilaghbbhmkgaaGreatDoor
namespace Go.Proofs.YtnilaghbbhmkgaaGreatDoor
open Go.RowKit
set_option linter.unusedVariables false

theorem checkBoth_bad1 (s t : List Nd) (p q : Option Addr) (c d : Nat) (w : World) (hs : NL w p s) (hc : s.length ≤ c) (hcm : c ≤ maxLen) (h : vfault s ≠ 0) :
    Calls Tryz.prog 186 #[.slice p s.length c, .slice q t.length d] w fun e w' => e = .returned (eV (vfault s)) ∧ Below w.heap.size w w' := by
  have H1 := vcheck_any s p c w hs hc hcm
  rw [eV_not h] at H1 ⊢
  go_enter Tryz.func186, Tryz.ntmps186
  go_wp2_with fail
  refine H1.mono ?_
  rintro e w1 ⟨rfl, hb1⟩
  go_wp2
  go_ret
  exact ⟨rfl, hb1⟩
theorem checkBoth_2 (s t : List Nd) (p q : Option Addr) (c d : Nat) (w : World) (hs : NL w p s) (hc : s.length ≤ c) (hcm : c ≤ maxLen) (ht : NL w q t) (hd : t.length ≤ d) (hdm : d ≤ maxLen) (h : vfault s = 0) :
    Calls Tryz.prog 186 #[.slice p s.length c, .slice q t.length d] w fun e w' => e = .returned (eV (vfault t)) ∧ Below w.heap.size w w' := by
  have H1 := vcheck_any s p c w hs hc hcm
  have H2 := fun w' (hb : Below w.heap.size w w') => vcheck_any t q d w' (ht.up hb) hd hdm
  rw [eV_nil h] at H1
  go_enter Tryz.func186, Tryz.ntmps186
  go_wp2_with fail
  refine H1.mono ?_
  rintro e w1 ⟨rfl, hb1⟩
  go_wp2_with fail
  refine (H2 w1 hb1).mono ?_
  rintro e w2 ⟨rfl, hb2⟩
  go_wp2
  go_ret
  exact ⟨rfl, hb1.trans (hb2.mono hb1.size)⟩
/-- .. by number: that of the first, else of the second. -/
def cfault (s t : List Nd) : Int := if vfault s = 0 then vfault t else vfault s
theorem checkBoth_any (s t : List Nd) (p q : Option Addr) (c d : Nat) (w : World) (hs : NL w p s) (hc : s.length ≤ c) (hcm : c ≤ maxLen) (ht : NL w q t) (hd : t.length ≤ d) (hdm : d ≤ maxLen) :
    Calls Tryz.prog 186 #[.slice p s.length c, .slice q t.length d] w fun e w' => e = .returned (eV (cfault s t)) ∧ Below w.heap.size w w' := by
  unfold cfault
  by_cases h : vfault s = 0
  · rw [if_pos h]; exact checkBoth_2 s t p q c d w hs hc hcm ht hd hdm h
  · rw [if_neg h]; exact checkBoth_bad1 s t p q c d w hs hc hcm h

theorem partsOf_type (s : List Nd) (p : Option Addr) (c : Nat) (w : World) (hs : NL w p s) (hc : s.length ≤ c) (hcm : c ≤ maxLen) (h : vfault s = 0) (hn : isSetV s = false) :
    Calls Tryz.prog 187 #[.slice p s.length c] w fun e w' => e = .returned (.tuple #[.slice none 0 0, eV 2]) ∧ w' = w := by
  obtain ⟨x, r, rfl, _⟩ := value_head h
  obtain ⟨b, o, rfl, hbw, x0, _⟩ := hs.head
  have e5 : (x.op != 5) = true := by simpa [isSetV] using hn
  have i0 : (0 : Int) < ((x :: r).length : Int) := by simp
  unfold maxLen at hcm
  clear h hn
  simp only [List.length_cons] at *
  go_enter Tryz.func187, Tryz.ntmps187
  go_wp2
  go_ret2
  exact ⟨rfl, rfl⟩

theorem parts_set (l : List (List Nd)) (p : Option Addr) (c : Nat) (w : World) (hs : NL w p (setN l)) (hc : (setN l).length ≤ c) (hcm : c ≤ maxLen) (h : IsSet l) :
    Calls Tryz.prog 185 #[.slice p (setN l).length c] w fun e w' => (∃ q c', e = .returned (.tuple #[.slice q l.length c', .nilIface]) ∧ LL w' q l ∧ l.length ≤ c' ∧ c' ≤ maxLen ∧ (q = none → c' = 0)) ∧ Below w.heap.size w w' := by
  obtain ⟨b, o, rfl, _⟩ := (show NL w p (⟨5, l.length, ⟨#[]⟩, ⟨#[]⟩⟩ :: l.flatten) from hs).head
  have := parts_full (setN l).length ⟨5, l.length, ⟨#[]⟩, ⟨#[]⟩⟩ l.flatten l (values_segs _ l h.vals (fun v hm => by have := mem_flat hm; show v.length + 1 ≤ l.flatten.length + 1; omega)) b o c w hs hc hcm h.value (.inl rfl)
  rw [values_strip h.vals] at this
  exact this

theorem partsOf_set (l : List (List Nd)) (p : Option Addr) (c : Nat) (w : World) (hs : NL w p (setN l)) (hc : (setN l).length ≤ c) (hcm : c ≤ maxLen) (h : IsSet l) :
    Calls Tryz.prog 187 #[.slice p (setN l).length c] w fun e w' => (∃ q c', e = .returned (.tuple #[.slice q l.length c', .nilIface]) ∧ LL w' q l ∧ l.length ≤ c' ∧ c' ≤ maxLen ∧ (q = none → c' = 0)) ∧ Below w.heap.size w w' := by
  have H1 := parts_set l p c w hs hc hcm h
  obtain ⟨b, o, rfl, hbw, x0, _⟩ := (show NL w p (⟨5, l.length, ⟨#[]⟩, ⟨#[]⟩⟩ :: l.flatten) from hs).head
  have i0 : (0 : Int) < ((setN l).length : Int) := by simp [setN]
  unfold maxLen at hcm
  simp only at x0
  generalize (setN l).length = n at *
  clear hs h
  go_enter Tryz.func187, Tryz.ntmps187
  go_wp2_with fail
  refine H1.mono ?_
  rintro e w1 ⟨⟨q, c', rfl, h1, h2, h3, h4⟩, hb1⟩
  go_wp2
  go_ret2
  exact ⟨⟨q, c', rfl, h1, h2, h3, h4⟩, hb1⟩

theorem sfault_c {s t : List Nd} (h : cfault s t ≠ 0) : sfault s t = cfault s t := by
  unfold sfault cfault at *
  split
  · rename_i h1
    rw [if_pos h1] at h
    rw [if_neg h]
  · rfl
theorem sfault_v {s t : List Nd} (h : cfault s t = 0) : vfault s = 0 ∧ vfault t = 0 ∧ sfault s t = if isSetV s = true ∧ isSetV t = true then 0 else 2 := by
  unfold cfault at h
  split at h
  · rename_i h1
    refine ⟨h1, h, ?_⟩
    unfold sfault
    rw [if_pos h1, if_pos h]
  · rename_i h1; exact absurd h h1
theorem one_row {v : List Nd} (hv : vfault v = 0) (hs : isSetV v = true) : ∃ l, IsSet l ∧ v = setN l := by
  cases v with
  | nil => cases hs
  | cons x r => exact set_row hv (by simpa [isSetV] using hs)

theorem partsOfBoth_bad (s t : List Nd) (p q : Option Addr) (c d : Nat) (w : World) (hs : NL w p s) (hc : s.length ≤ c) (hcm : c ≤ maxLen) (ht : NL w q t) (hd : t.length ≤ d) (hdm : d ≤ maxLen) (h : sfault s t ≠ 0) :
    Calls Tryz.prog 189 #[.slice p s.length c, .slice q t.length d] w fun e w' => e = .returned (.tuple #[.slice none 0 0, .slice none 0 0, eV (sfault s t)]) ∧ Below w.heap.size w w' := by
  have H1 := checkBoth_any s t p q c d w hs hc hcm ht hd hdm
  by_cases hz : cfault s t = 0
  · obtain ⟨h1, h2, h3⟩ := sfault_v hz
    rw [eV_nil hz] at H1
    have h4 : sfault s t = 2 := by
      rw [h3] at h ⊢
      split at h
      · exact absurd rfl h
      · rename_i hh; rw [if_neg hh]
    rw [h4]
    cases hs5 : isSetV s
    · have H2 := fun w' (hb : Below w.heap.size w w') => partsOf_type s p c w' (hs.up hb) hc hcm h1 hs5
      rw [eV_not (by decide : (2 : Int) ≠ 0)] at H2 ⊢
      clear h3 h hz
      go_enter Tryz.func189, Tryz.ntmps189
      go_wp2_with fail
      refine H1.mono ?_
      rintro e w1 ⟨rfl, hb1⟩
      go_wp2_with fail
      refine (H2 w1 hb1).mono ?_
      rintro e w2 ⟨rfl, rfl⟩
      go_wp2
      go_ret3
      exact ⟨rfl, hb1⟩
    · obtain ⟨l, hl, rfl⟩ := one_row h1 hs5
      have ht5 : isSetV t = false := by
        cases e : isSetV t with
        | false => rfl
        | true => rw [h3, if_pos ⟨hs5, e⟩] at h; exact absurd rfl h
      have H2 := fun w' (hb : Below w.heap.size w w') => partsOf_set l p c w' (hs.up hb) hc hcm hl
      have H3 := fun w' (hb : Below w.heap.size w w') => partsOf_type t q d w' (ht.up hb) hd hdm h2 ht5
      rw [eV_not (by decide : (2 : Int) ≠ 0)] at H3 ⊢
      clear h3 h hz
      go_enter Tryz.func189, Tryz.ntmps189
      go_wp2_with fail
      refine H1.mono ?_
      rintro e w1 ⟨rfl, hb1⟩
      go_wp2_with fail
      refine (H2 w1 hb1).mono ?_
      rintro e w2 ⟨⟨q2, c2, rfl, _, _, _⟩, hb2⟩
      have hb3 := hb1.trans (hb2.mono hb1.size)
      go_wp2_with fail
      refine (H3 w2 hb3).mono ?_
      rintro e w3 ⟨rfl, rfl⟩
      go_wp2
      go_ret3
      exact ⟨rfl, hb3⟩
  · rw [sfault_c hz]
    rw [eV_not hz] at H1 ⊢
    go_enter Tryz.func189, Tryz.ntmps189
    go_wp2_with fail
    refine H1.mono ?_
    rintro e w1 ⟨rfl, hb1⟩
    go_wp2
    go_ret3
    exact ⟨rfl, hb1⟩

theorem partsOfBoth_ok (l m : List (List Nd)) (p q : Option Addr) (c d : Nat) (w : World) (hs : NL w p (setN l)) (hc : (setN l).length ≤ c) (hcm : c ≤ maxLen) (ht : NL w q (setN m)) (hd : (setN m).length ≤ d) (hdm : d ≤ maxLen) (hl : IsSet l) (hm : IsSet m) :
    Calls Tryz.prog 189 #[.slice p (setN l).length c, .slice q (setN m).length d] w fun e w' => (∃ q1 c1 q2 c2, e = .returned (.tuple #[.slice q1 l.length c1, .slice q2 m.length c2, .nilIface]) ∧ LL w' q1 l ∧ l.length ≤ c1 ∧ c1 ≤ maxLen ∧ LL w' q2 m ∧ m.length ≤ c2 ∧ c2 ≤ maxLen ∧ (q1 = none → c1 = 0) ∧ (q2 = none → c2 = 0)) ∧ Below w.heap.size w w' := by
  have H1 := checkBoth_any (setN l) (setN m) p q c d w hs hc hcm ht hd hdm
  have hz : cfault (setN l) (setN m) = 0 := by unfold cfault; rw [if_pos hl.value]; exact hm.value
  rw [eV_nil hz] at H1
  have H2 := fun w' (hb : Below w.heap.size w w') => partsOf_set l p c w' (hs.up hb) hc hcm hl
  have H3 := fun w' (hb : Below w.heap.size w w') => partsOf_set m q d w' (ht.up hb) hd hdm hm
  clear hz hs ht
  go_enter Tryz.func189, Tryz.ntmps189
  go_wp2_with fail
  refine H1.mono ?_
  rintro e w1 ⟨rfl, hb1⟩
  go_wp2_with fail
  refine (H2 w1 hb1).mono ?_
  rintro e w2 ⟨⟨q2, c2, rfl, k1, k2, k3, z1⟩, hb2⟩
  have hb3 := hb1.trans (hb2.mono hb1.size)
  go_wp2_with fail
  refine (H3 w2 hb3).mono ?_
  rintro e w3 ⟨⟨q3, c3, rfl, k4, k5, k6, z2⟩, hb4⟩
  have k1' := k1.up hb4
  go_wp2
  go_ret3
  exact ⟨⟨q2, c2, q3, c3, rfl, k1', k2, k3, k4, k5, k6, z1, z2⟩, hb3.trans (hb4.mono hb3.size)⟩
end Go.Proofs.YtnilaghbbhmkgaaGreatDoor
namespace Go.Proofs.YtnilaghbbhmkgaaGreatDoor
set_option linter.unusedVariables false

/-- Each part is a value. -/
def VT : Fo → Prop
  | .nil => True
  | .cons x k r => (x.op = 7 ∨ vfault (x :: k.flat) = 0) ∧ VT k ∧ VT r
theorem setLoop_vt {f : Nat} (h : ∀ v r, v.length ≤ 200 → pastV f v = some r → ∃ x k, okT none (.cons x k .nil) ∧ v = x :: (k.flat ++ r) ∧ VT (.cons x k .nil)) : ∀ (n : Nat) (last : Option (List Nd)) (v r : List Nd), v.length ≤ 200 → setLoop (pastV f) n last v = some r → ∃ t, t.len = n ∧ okT none t ∧ v = t.flat ++ r ∧ VT t
  | 0, last, v, r, hl, e => by simp only [setLoop, Option.some.injEq] at e; subst e; exact ⟨.nil, rfl, okT.nil, rfl, trivial⟩
  | n + 1, last, v, r, hl, e => by
    simp only [setLoop] at e
    cases e1 : pastV f v with
    | none => rw [e1] at e; cases e
    | some s =>
      simp only [e1] at e
      split at e
      · obtain ⟨x, k, h3, h4, h5⟩ := h _ _ hl e1
        have hs := (pastV_shorter e1).1
        obtain ⟨t, h6, h7, h8, h9⟩ := setLoop_vt h n _ s r (by omega) e
        obtain ⟨a, b, c, _⟩ := okT.none_cons.1 h3
        exact ⟨.cons x k t, by simp [Fo.len, h6], okT.none_cons.2 ⟨a, b, c, h7⟩, by rw [h4, h8]; simp [Fo.flat], h5.1, h5.2.1, h9⟩
      · cases e
theorem recLoop_vt {f : Nat} (h : ∀ v r, v.length ≤ 200 → pastV f v = some r → ∃ x k, okT none (.cons x k .nil) ∧ v = x :: (k.flat ++ r) ∧ VT (.cons x k .nil)) : ∀ (n : Nat) (l : ByteArray) (v r : List Nd), v.length ≤ 200 → recLoop (pastV f) n l v = some r → ∃ t, t.len = n ∧ okT (some l) t ∧ v = t.flat ++ r ∧ VT t
  | 0, l, v, r, hl, e => by simp only [recLoop, Option.some.injEq] at e; subst e; exact ⟨.nil, rfl, okT.nil, rfl, trivial⟩
  | n + 1, l, [], r, hl, e => by simp [recLoop] at e
  | n + 1, l, y :: v, r, hl, e => by
    simp only [recLoop] at e
    split at e
    · rename_i hy
      cases e1 : pastV f v with
      | none => rw [e1] at e; cases e
      | some s =>
        rw [e1] at e
        simp only [List.length_cons] at hl
        obtain ⟨x, k, h3, h4, h5⟩ := h _ _ (by omega) e1
        have hs := (pastV_shorter e1).1
        obtain ⟨t, h6, h7, h8, h9⟩ := recLoop_vt h n _ s r (by omega) e
        exact ⟨.cons y (.cons x k .nil) t, by simp [Fo.len, h6], okT.some_cons.2 ⟨hy, ⟨rfl, h3⟩, h7⟩, by rw [h4, h8]; simp [Fo.flat], .inl hy.1, h5, h9⟩
    · cases e
theorem val_tree : ∀ (f : Nat) (v r : List Nd), v.length ≤ 200 → pastV f v = some r → ∃ x k, okT none (.cons x k .nil) ∧ v = x :: (k.flat ++ r) ∧ VT (.cons x k .nil)
  | 0, v, r, _, h => by simp [pastV] at h
  | f + 1, [], r, _, h => by simp [pastV] at h
  | f + 1, x :: m, r, hl, h => by
    have h0 := h
    simp only [pastV] at h
    simp only [List.length_cons] at hl
    split at h
    · rename_i hx
      have hop := ndOk_op hx.2
      have main : ∃ t, (x.op = 6 ∧ t.len = x.n.toNat ∧ okT (some ⟨#[]⟩) t ∨ x.op ≠ 6 ∧ t.len = (prt x).toNat ∧ okT none t) ∧ m = t.flat ++ r ∧ VT t := by
        by_cases h5 : x.op = 5
        · rw [if_pos h5] at h
          obtain ⟨t, h1, h2, h3, h4⟩ := setLoop_vt (val_tree f) _ _ _ _ (by omega) h
          exact ⟨t, .inr ⟨by omega, by rw [h1]; unfold prt; rw [if_pos (.inl h5)], h2⟩, h3, h4⟩
        · rw [if_neg h5] at h
          by_cases h6 : x.op = 6
          · rw [if_pos h6] at h
            obtain ⟨t, h1, h2, h3, h4⟩ := recLoop_vt (val_tree f) _ _ _ _ (by omega) h
            exact ⟨t, .inl ⟨h6, h1, h2⟩, h3, h4⟩
          · rw [if_neg h6] at h
            injection h with h
            subst h
            refine ⟨.nil, .inr ⟨h6, ?_, okT.nil⟩, rfl, trivial⟩
            unfold prt
            rw [if_neg (by omega), if_pos (by omega)]
            rfl
      obtain ⟨t, h1, rfl, h3⟩ := main
      refine ⟨x, t, okT.none_cons.2 ⟨hx.1, exOk_value hx.2, h1, okT.nil⟩, rfl, .inr ?_, h3, trivial⟩
      obtain ⟨a, ea, ha⟩ := pastV_front _ _ _ h0
      have e1 : a = x :: t.flat := by
        have : a ++ r = (x :: t.flat) ++ r := by rw [← ea]; simp
        exact List.append_cancel_right this
      subst e1
      exact past_val ha (by simp only [List.length_append] at hl; simp; omega)
    · cases h
/-- Nothing in it could be better. -/
def bestR : Fo → Prop
  | .nil => True
  | .cons x k r => betterT x k = none ∧ bestR k ∧ bestR r
theorem vt_best : ∀ {t : Fo}, VT t → bestR t
  | .nil, _ => trivial
  | .cons x k r, ⟨h1, h2, h3⟩ => by
    refine ⟨?_, vt_best h2, vt_best h3⟩
    unfold betterT
    rcases h1 with h7 | hv
    · rw [if_neg (by omega), if_neg (by omega), if_neg (by omega), if_pos (.inr h7)]
    · obtain ⟨y, m, e, _, hy7, hy, _⟩ := value_head hv
      injection e with e1 e2
      subst e1
      have hop := ndOk_op hy
      rw [if_neg (by omega), if_neg (by omega), if_neg (by omega), if_neg (by omega), if_neg (by omega)]
      unfold knownT
      rw [if_pos (.inl hv)]
theorem best_value {v : List Nd} (h : vfault v = 0) : bestR (.cons (treeOf v).1 (treeOf v).2 .nil) := by
  obtain ⟨h1, h2⟩ := vfault_zero h
  obtain ⟨x, k, h3, h4, h5⟩ := val_tree _ _ _ h1 h2
  obtain ⟨t1, t2⟩ := treeOf_spec (value_ex h)
  have := flat_inj (.cons x k .nil) (.cons (treeOf v).1 (treeOf v).2 .nil) [] [] h3.ar t1.ar rfl (by rw [List.append_nil] at h4; simp only [Fo.flat, List.append_nil]; rw [← h4, ← t2])
  rw [← this.1]
  exact vt_best h5
theorem best_part {x : Nd} {k : Fo} (hk : bestR k) {p : Nd × Fo} (hN : N64 (x :: k.flat)) (hp : betterT x k = some p) : bestR (.cons p.1 p.2 .nil) := by
  unfold betterT at hp
  have hj : ∀ i, joinT i k = some p → bestR (.cons p.1 p.2 .nil) := fun i hp => by
    match k, hp, hk with
    | .cons a ka (.cons b kb .nil), hp, ⟨a1, a2, b1, b2, _⟩ =>
      simp only [joinT] at hp
      split at hp
      · injection hp with hp; subst hp; exact ⟨a1, a2, trivial⟩
      · split at hp
        · injection hp with hp; subst hp; exact ⟨b1, b2, trivial⟩
        · split at hp
          · injection hp with hp; subst hp; exact ⟨a1, a2, trivial⟩
          · cases hp
  split at hp
  · exact hj 1 hp
  split at hp
  · exact hj 0 hp
  split at hp
  · match k, hp, hk with
    | .cons a ka (.cons b kb (.cons c kc .nil)), hp, ⟨a1, a2, b1, b2, c1, c2, _⟩ =>
      simp only [pickT] at hp
      split at hp
      · cases hp
      · split at hp
        · injection hp with hp; subst hp; exact ⟨b1, b2, trivial⟩
        · injection hp with hp; subst hp; exact ⟨c1, c2, trivial⟩
  split at hp
  · cases hp
  split at hp
  · match k, hp, hk with
    | .cons a (.cons y ky .nil) .nil, hp, ⟨a1, ⟨y1, y2, _⟩, _⟩ =>
      simp only [notT] at hp
      split at hp
      · injection hp with hp; subst hp; exact ⟨y1, y2, trivial⟩
      · cases hp
  · unfold knownT at hp
    split at hp
    · cases hp
    · cases ho : okE (valueL [] rqA (x :: k.flat)) with
      | none => rw [ho] at hp; cases hp
      | some v =>
        rw [ho] at hp
        injection hp with hp
        subst hp
        obtain ⟨_, _, hxf, hev⟩ := valueL_ok (okE_some ho)
        have hiv : IsV v := ev_is envA _ _ _ v (xfault_zero hxf).2 hN hev
        exact best_value hiv.val
theorem best_all : ∀ (t : Fo) (m : Option ByteArray), okT m t → N64 t.flat → t.flat.length ≤ 200 → bestR (bstF t)
  | .nil, m, h, hN, hl => trivial
  | .cons x k r, m, h, hN, hl => by
    simp only [Fo.flat, List.length_cons, List.length_append] at hl
    have nk : N64 k.flat := hN.sub (fun y hy => by simp [Fo.flat, hy])
    have nr : N64 r.flat := hN.sub (fun y hy => by simp [Fo.flat, hy])
    have hkr : ∃ m1 m2, okT m1 k ∧ okT m2 r := by
      cases m with
      | none =>
        obtain ⟨_, _, hk, hr⟩ := okT.none_cons.1 h
        rcases hk with ⟨_, _, hk⟩ | ⟨_, _, hk⟩
        · exact ⟨_, _, hk, hr⟩
        · exact ⟨_, _, hk, hr⟩
      | some l =>
        obtain ⟨_, ⟨_, hk⟩, hr⟩ := okT.some_cons.1 h
        exact ⟨_, _, hk, hr⟩
    obtain ⟨m1, m2, hk, hr⟩ := hkr
    have bk := best_all k m1 hk nk (by omega)
    have br := best_all r m2 hr nr (by omega)
    obtain ⟨_, k2, _⟩ := bst_good k m1 hk nk (by omega)
    have hNx : N64 (x :: (bstF k).flat) := fun y hy => by
      rcases List.mem_cons.1 hy with rfl | hy
      · exact hN y (by simp [Fo.flat])
      · exact k2 y hy
    have ht : bestR (.cons (topT x (bstF k)).1 (topT x (bstF k)).2 .nil) := by
      unfold topT
      cases hb : betterT x (bstF k) with
      | none => exact ⟨hb, bk, trivial⟩
      | some p => exact best_part bk hNx hb
    exact ⟨ht.1, ht.2.1, br⟩
end Go.Proofs.YtnilaghbbhmkgaaGreatDoor
