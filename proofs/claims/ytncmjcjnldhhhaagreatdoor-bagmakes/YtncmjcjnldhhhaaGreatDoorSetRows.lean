/- Lists of nodes in a row that a call made, as slices.Clone, slices.SortFunc and slices.CompactFunc hand it on. -/
import Derived.Test.YtncmjcjnldhhhaaGreatDoorCmSet
import Derived.Test.YtncmjcjnldhhhaaGreatDoorLists
import Derived.Shelf.SlSortCmp.NoneTotal
namespace Go.Proofs.YtncmjcjnldhhhaaGreatDoor
open Go.RowKit Go.Sort Go.Shelf
set_option linter.unusedVariables false

theorem arr_of {α : Type} [Inhabited α] (n : Nat) (P : Nat → α → Prop) (h : ∀ i, i < n → ∃ x, P i x) : ∃ d : Array α, d.size = n ∧ ∀ i, i < n → P i d[i]! := by
  induction n with
  | zero => exact ⟨#[], rfl, fun i hi => by omega⟩
  | succ n ih =>
    obtain ⟨d, hd, hP⟩ := ih (fun i hi => h i (by omega))
    obtain ⟨x, hx⟩ := h n (by omega)
    refine ⟨d.push x, by simp [hd], fun i hi => ?_⟩
    by_cases e : i = n
    · subst e
      have : (d.push x)[i]! = x := by rw [← hd]; simp
      rw [this]; exact hx
    · have : (d.push x)[i]! = d[i]! := by
        simp only [Array.getElem!_eq_getD, Array.getD_eq_getD_getElem?, Array.getElem?_push]
        rw [if_neg (by omega)]
      rw [this]; exact hP i (by omega)

/-- A row of slices from a block's beginning on, with the nodes behind them in other blocks. -/
def LRow (w : World) (g cap : Nat) (ys : List (List Nd)) : Prop :=
  ∃ d : Array (SlE w g), Holds SlE.u w g 0 d ∧ g < w.heap.size ∧ d.size = ys.length ∧ ys.length ≤ cap ∧ cap ≤ maxLen ∧ ∀ i, i < ys.length → ys[i]? = some d[i]!.L

theorem clone_row (vs : List (List Nd)) (p : Option Addr) (c : Nat) (w : World) (hv : LL w p vs) (hl : vs.length ≤ 1099511627776) :
    Calls Tryz.prog 31 #[.slice p vs.length c] w fun e w' =>
      (∃ v, e = .returned v ∧ ((vs = [] ∧ v = .slice none 0 0) ∨ ∃ g cap, v = .slice (some ⟨g, 0, none⟩) vs.length cap ∧ w.heap.size ≤ g ∧ LRow w' g cap vs)) ∧ Below w.heap.size w w' := by
  cases p with
  | none =>
    obtain rfl : vs = [] := by
      rcases hv with h | ⟨b, off, h, _⟩
      · exact h
      · cases h
    refine (cloneLists_nil 0 c w).mono ?_
    rintro e w' ⟨rfl, rfl⟩
    exact ⟨⟨_, rfl, .inl ⟨rfl, rfl⟩⟩, Below.refl _ _⟩
  | some a =>
    obtain ⟨xs, hxl, hxs⟩ : ∃ xs : List Value, xs.length = vs.length ∧ ∀ i u L, xs[i]? = some u → vs[i]? = some L → a.block < w.heap.size ∧ w.cell? (a.add i) = some u ∧ ∃ q c', u = .slice q L.length c' ∧ NL w q L ∧ L.length ≤ c' ∧ c' ≤ maxLen := by
      rcases hv with rfl | ⟨b, off, h1, h2, h3⟩
      · exact ⟨[], rfl, fun i u L h => by simp at h⟩
      · cases h1
        have hadd : ∀ j, (⟨b, off, none⟩ : Addr).add j = ⟨b, off + j, none⟩ := fun j => by unfold Addr.add; split <;> simp_all
        refine ⟨(List.range vs.length).map fun i => (w.cell? ⟨b, off + i, none⟩).getD default, by simp, fun i u L hu hL => ?_⟩
        obtain ⟨q, c', h4, h5, h6⟩ := h3 i L hL
        have hi := (List.getElem?_eq_some_iff.1 hL).1
        simp [hi, h4] at hu
        subst hu
        rw [hadd]
        exact ⟨h2, h4, q, c', rfl, h5, h6⟩
    have hget : ∀ (j : Nat) u, xs[j]? = some u → ∃ L, vs[j]? = some L := fun j u hu => ⟨_, List.getElem?_eq_getElem (by have := (List.getElem?_eq_some_iff.1 hu).1; omega)⟩
    rw [← hxl]
    refine (cloneLists_fn xs a c w (fun j u hu => ?_) (fun u hu => ?_) (by omega)).mono ?_
    · obtain ⟨L, hL⟩ := hget j u hu
      exact ⟨(hxs j u L hu hL).1, (hxs j u L hu hL).2.1⟩
    · obtain ⟨j, hj⟩ := List.getElem?_of_mem hu
      obtain ⟨L, hL⟩ := hget j u hj
      obtain ⟨_, _, q, c', rfl, _⟩ := hxs j u L hj hL
      rfl
    · rintro e w' ⟨⟨v, rfl, hrow⟩, hb⟩
      refine ⟨⟨v, rfl, ?_⟩, hb⟩
      rcases hrow.2 with ⟨h1, h2⟩ | ⟨g, cap, cur, h1, hg, hgg, hle, hm, hcs, htk⟩
      · left
        exact ⟨List.eq_nil_of_length_eq_zero (by omega), h1⟩
      · right
        refine ⟨g, cap, h1, hg, ?_⟩
        have hgw : g < w'.heap.size := (Array.getElem?_eq_some_iff.1 hgg).1
        have hcell : ∀ i u, xs[i]? = some u → w'.cell? ⟨g, i, none⟩ = some u := by
          rcases hrow.slice with ⟨q, c', e, _, _, h⟩
          rw [h1] at e
          cases e
          rcases h with rfl | ⟨g', e, _, _, hc⟩
          · intro i u h; simp at h
          · cases e; exact hc
        have hfz : ∀ i, w'.frozen? ⟨g, i, none⟩ = false := fun i => by simp [World.frozen?, hgg]
        obtain ⟨d, hd, hP⟩ := arr_of (α := SlE w' g) vs.length (fun i x => xs[i]? = some x.u ∧ vs[i]? = some x.L) (fun i hi => by
          have hu : xs[i]? = some xs[i] := List.getElem?_eq_getElem (by omega)
          have hL : vs[i]? = some vs[i] := List.getElem?_eq_getElem hi
          obtain ⟨_, _, q, c', e1, e2, e3, e4⟩ := hxs i _ _ hu hL
          refine ⟨⟨xs[i], vs[i], q, c', e1, e2.up hb, Nat.le_trans e3 e4, fun b o hq => ?_⟩, hu, hL⟩
          rcases e2 with e | ⟨b', o', e5, e6, _⟩
          · exact .inl e
          · right
            rw [hq] at e5
            cases e5
            omega)
        refine ⟨d, fun j hj => ?_, hgw, hd, by omega, hm, fun i hi => (hP i hi).2⟩
        rw [Nat.zero_add]
        exact ⟨hcell j _ (hP j (by omega)).1, hfz j⟩

/-- None behind one that is ahead of it. -/
def Weak (l : List (List Nd)) : Prop := ∀ (i j : Nat) x y, i < j → l[i]? = some x → l[j]? = some y → lsC x y ≤ 0

theorem sort_row (g cap : Nat) (w : World) (ys : List (List Nd)) (h : LRow w g cap ys) (hl : ys.length ≤ 1099511627776) :
    Calls Tryz.prog 32 #[.slice (some ⟨g, 0, none⟩) ys.length cap, .func (.func 33) #[] #[]] w fun e w' =>
      e = .returned (.tuple #[]) ∧ (∃ zs, LRow w' g cap zs ∧ zs.length = ys.length ∧ (∀ x, x ∈ zs ↔ x ∈ ys) ∧ Weak zs) ∧ Below g w w' := by
  obtain ⟨d, hH, hg, hd, hc, hcm, hL⟩ := h
  rw [← hd]
  refine (sortLists_fn g 0 cap w d hH hg (by omega)).mono ?_
  rintro e w' ⟨rfl, d', n, os, hp, hs, rfl⟩
  have hsz : d'.size = d.size := hp.1
  have hwr : Holds SlE.u (sortWorld SlE.u w g 0 n d' os) g 0 d' := holds_sortWorld SlE.u w g 0 n d d' os hg hH hsz
  have hsize : w.heap.size ≤ (sortWorld SlE.u w g 0 n d' os).heap.size := by unfold sortWorld; simp [Go.Sort.size_putRow, Sort.ahead]
  refine ⟨rfl, ?_, ?_⟩
  · obtain ⟨d2, hd2, hP⟩ := arr_of (α := SlE (sortWorld SlE.u w g 0 n d' os) g) d'.size (fun i x => x.u = d'[i]!.u ∧ x.L = d'[i]!.L) (fun i hi => by
      obtain ⟨q, c, e1, e2, e3, e4⟩ := d'[i]!.ok
      exact ⟨⟨_, _, q, c, e1, e2.sorting e4, e3, e4⟩, rfl, rfl⟩)
    refine ⟨d'.toList.map SlE.L, ⟨d2, fun j hj => ?_, Nat.lt_of_lt_of_le hg hsize, by simp [hd2], by simp; omega, hcm, fun i hi => ?_⟩, by simp; omega, fun x => ?_, fun i j x y hij hx hy => ?_⟩
    · rw [(hP j (by omega)).1]
      exact hwr j (by omega)
    · simp at hi
      rw [(hP i hi).2]
      simp [hi]
    · have hperm := hp.2.2
      rw [Array.extract_eq_self_of_le (by omega), Array.extract_eq_self_of_le (by omega)] at hperm
      rw [(hperm.map SlE.L).mem_iff]
      have hys : d.toList.map SlE.L = ys := by
        apply List.ext_getElem?
        intro i
        by_cases hi : i < ys.length
        · rw [hL i hi]
          have : i < d.size := by omega
          simp [this]
        · rw [List.getElem?_eq_none (by simp; omega), List.getElem?_eq_none (by omega)]
      rw [hys]
    · have hj : j < d'.size := by have := (List.getElem?_eq_some_iff.1 hy).1; simpa using this
      have hi : i < d'.size := by omega
      have := hs i j (Nat.zero_le _) hij (by omega)
      simp [hi] at hx
      simp [hj] at hy
      simp [hi, hj, ltOf, SlE.cf] at this
      rw [hx, hy] at this
      have := lsC_is.neg x y
      omega
  · refine ⟨by rfl, by rfl, by rfl, hsize, fun k hk => ?_⟩
    unfold sortWorld
    rw [show (grow (putRow SlE.u (Sort.ahead w n) g 0 d') os).heap[k]? = (putRow SlE.u (Sort.ahead w n) g 0 d').heap[k]? from by
      show ((putRow SlE.u (Sort.ahead w n) g 0 d').heap ++ os)[k]? = _
      rw [Array.getElem?_append_left (by simp [Go.Sort.size_putRow, Sort.ahead]; omega)]]
    simp only [putRow, mapBlock, Array.getElem?_modify]
    rw [if_neg (by omega)]
    rfl

/-- Lists of nodes, one slice a cell. -/
def RL (w : World) (g : Nat) (l : List (List Nd)) : Prop := ∀ i L, l[i]? = some L → ∃ q c, w.cell? ⟨g, i, none⟩ = some (.slice q L.length c) ∧ NL w q L ∧ (L = [] ∨ ∃ b o, q = some ⟨b, o, none⟩ ∧ b ≠ g)

theorem compact_row (g cap : Nat) (w : World) (zs vs : List (List Nd)) (h : LRow w g cap zs) (hl : zs.length ≤ 1099511627776) (hs : Weak zs) (hm : ∀ x, x ∈ zs ↔ x ∈ vs) :
    Calls Tryz.prog 34 #[.slice (some ⟨g, 0, none⟩) zs.length cap, .func (.func 35) #[] #[]] w fun e w' =>
      e = .returned (.slice (some ⟨g, 0, none⟩) (setL vs).length cap) ∧ RL w' g (setL vs) ∧ g < w'.heap.size ∧ (setL vs).length ≤ zs.length ∧ Below g w w' := by
  obtain ⟨d, hH, hg, hd, hc, hcm, hL⟩ := h
  rw [← hd]
  refine (compact_fn g cap w d hH hg (by omega) (by omega) hcm).mono ?_
  rintro e w' ⟨⟨kk, dk, rfl, hkk, hcell, hcm2⟩, hb, hel⟩
  have hset : cm (fun i => d[i]!.L) d.size = setL vs := by
    refine cm_set _ _ _ (fun i j hij hj => ?_) (fun x => ?_)
    · exact hs i j _ _ hij (hL i (by omega)) (hL j (by omega))
    · rw [← hm x]
      constructor
      · rintro ⟨i, hi, rfl⟩
        exact List.mem_of_getElem? (hL i (by omega))
      · intro hx
        obtain ⟨i, hi⟩ := List.getElem?_of_mem hx
        have hlt := (List.getElem?_eq_some_iff.1 hi).1
        rw [hL i hlt] at hi
        exact ⟨i, by omega, by simpa using hi⟩
  rw [hset] at hcm2
  have hlen : (setL vs).length = kk := by rw [← hcm2]; simp
  refine ⟨by rw [hlen], fun i L hi => ?_, Nat.lt_of_lt_of_le hg hb.size, by omega, hb⟩
  rw [← hcm2] at hi
  have hik : i < kk := by have := (List.getElem?_eq_some_iff.1 hi).1; simpa using this
  simp [hik] at hi
  subst hi
  obtain ⟨q, c, e1, e2, e3, e4⟩ := dk[i]!.ok
  refine ⟨q, c, by rw [← e1]; exact hcell i hik, hel.nodes hb.size e2 e4, ?_⟩
  rcases e2 with e | ⟨b, o, e5, _, _⟩
  · exact .inl e
  · rcases e4 b o e5 with e | e
    · exact .inl e
    · exact .inr ⟨b, o, e5, e⟩

theorem sort_none (cap : Nat) (w : World) :
    Calls Tryz.prog 32 #[.slice none 0 cap, .func (.func 33) #[] #[]] w fun e w' => e = .returned (.tuple #[]) ∧ w' = w :=
  AnyF.slices_SortFunc_none { Tryz.sortF with } none cap _ w

theorem compact_none (cap : Nat) (w : World) :
    Calls Tryz.prog 34 #[.slice none 0 cap, .func (.func 35) #[] #[]] w fun e w' => e = .returned (.slice none 0 cap) ∧ w' = w := by
  go_enter Tryz.func34, Tryz.ntmps34
  go_wp2
  go_ret
  exact ⟨rfl, rfl⟩
end Go.Proofs.YtncmjcjnldhhhaaGreatDoor
