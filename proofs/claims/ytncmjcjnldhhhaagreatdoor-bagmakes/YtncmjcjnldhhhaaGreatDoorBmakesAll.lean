/- Package bag's Meet: what it returns, of every two lists of nodes.
   slices.Grow and slices.Concat at lists of nodes: two rows, one behind the other.
   Package bag's Union and Less: what they return, of every two lists of nodes.
   Values that hold lists of nodes, whole: package bag's Union, Meet, Less and the comparison of nodes, stated over such values.
   Lists of nodes in a row of the call's own, the lists themselves below another mark (or in blocks of nodes): appends of one list, and of another such row.
   The document's Parts of a set, with where the parts lie.
   The document's SetFault, Within and Chosen: what they return.
   The document's SetOf: what it returns, by a walk of its own text.
   Chains of worlds, and what wicketgatesame.Error tells of an error by its number.
   BagMakes: the walk of the statement's own function. -/
import Derived.Test.YtncmjcjnldhhhaaGreatDoorBagFns
import Derived.Test.YtncmjcjnldhhhaaGreatDoorBagParts
import Derived.Test.YtncmjcjnldhhhaaGreatDoorSetFit
import Derived.Test.YtncmjcjnldhhhaaGreatDoorShelfGrow
import Derived.Test.YtncmjcjnldhhhaaGreatDoorOwnL
import Derived.Laws.AppendOwnNone
import Derived.Test.YtncmjcjnldhhhaaGreatDoorBagLit
import Derived.Test.YtncmjcjnldhhhaaGreatDoorSame
import Derived.Test.YtncmjcjnldhhhaaGreatDoorRefParts
import Derived.Test.YtncmjcjnldhhhaaGreatDoorBagL
import Derived.Test.YtncmjcjnldhhhaaGreatDoorFaults
import Derived.Test.YtncmjcjnldhhhaaGreatDoorValRefA
import Derived.Test.YtncmjcjnldhhhaaGreatDoorSetN
import Derived.Test.YtncmjcjnldhhhaaGreatDoorToldWalk
import Derived.Test.YtncmjcjnldhhhaaGreatDoorName
namespace Go.Proofs.YtncmjcjnldhhhaaGreatDoor
open Go.RowKit
set_option linter.unusedVariables false

theorem meet_bad (s t : List Nd) (p q : Option Addr) (c d : Nat) (w : World) (hs : NL w p s) (hc : s.length ≤ c) (hcm : c ≤ maxLen) (ht : NL w q t) (hd : t.length ≤ d) (hdm : d ≤ maxLen) (h : sfault s t ≠ 0) :
    Calls Tryz.prog 11 #[.slice p s.length c, .slice q t.length d] w fun e w' => e = .returned (.tuple #[.slice none 0 0, eV (sfault s t)]) ∧ Below w.heap.size w w' := by
  have H1 := partsOfBoth_bad s t p q c d w hs hc hcm ht hd hdm h
  rw [eV_not h] at H1 ⊢
  clear hs ht
  go_enter Tryz.func11, Tryz.ntmps11
  go_wp2_with fail
  refine H1.mono ?_
  rintro e w1 ⟨rfl, hb1⟩
  go_wp2
  go_ret2
  exact ⟨rfl, hb1⟩
theorem meet_ok (l m : List (List Nd)) (p q : Option Addr) (c d : Nat) (w : World) (hs : NL w p (setN l)) (hc : (setN l).length ≤ c) (hcm : c ≤ maxLen) (ht : NL w q (setN m)) (hd : (setN m).length ≤ d) (hdm : d ≤ maxLen) (hl : IsSet l) (hm : IsSet m) :
    Calls Tryz.prog 11 #[.slice p (setN l).length c, .slice q (setN m).length d] w fun e w' => (∃ q c', e = .returned (.tuple #[.slice q (setN (meetL l m)).length c', .nilIface]) ∧ NL w' q (setN (meetL l m)) ∧ (setN (meetL l m)).length ≤ c' ∧ c' ≤ maxLen) ∧ Below w.heap.size w w' := by
  have H1 := partsOfBoth_ok l m p q c d w hs hc hcm ht hd hdm hl hm
  have L1 : l.length ≤ 4294967296 := Nat.le_trans hl.len (by decide)
  have L2 : m.length ≤ maxLen := Nat.le_trans hm.len (by decide)
  have hI := isSet_meet hl m
  have L3 : (meetL l m).length ≤ 4294967296 := Nat.le_trans hI.len (by decide)
  have HI : Hid (IsSet (meetL l m)) := hI
  clear hs ht hI
  go_enter Tryz.func11, Tryz.ntmps11
  go_wp2_with fail
  refine H1.mono ?_
  rintro e w1 ⟨⟨q1, c1, q2, c2, rfl, k1, k2, k3, k4, k5, k6⟩, hb1⟩
  have H2 := hadBy_any q2 m c2 w1 k4 L2
  clear H1
  go_wp2_with fail
  refine H2.mono ?_
  rintro e w2 ⟨⟨fv, rfl, hf⟩, hb2⟩
  have H3 := those_any l q1 c1 fv _ w2 (k1.up hb2) L1 hf
  rw [show l.filter (inB m) = meetL l m from rfl] at H3
  clear H2
  go_wp2_with fail
  refine H3.mono ?_
  rintro e w3 ⟨⟨q3, c3, rfl, k7, k8, k9⟩, hb3⟩
  have H4 := setOf_fit (meetL l m) (setN (meetL l m)) (by rw [HI.out.row]) q3 c3 w3 k7 L3 HI.out.vals HI.out.short
  clear H3
  go_wp2_with fail
  refine H4.mono ?_
  rintro e w4 ⟨⟨q4, c4, rfl, j1, j2, j3⟩, hb4⟩
  go_wp2
  go_ret2
  have hb5 := hb1.trans (hb2.mono hb1.size)
  have hb6 := hb5.trans (hb3.mono hb5.size)
  exact ⟨⟨q4, c4, rfl, j1, j2, j3⟩, hb6.trans (hb4.mono hb6.size)⟩
end Go.Proofs.YtncmjcjnldhhhaaGreatDoor
namespace Go.Proofs.YtncmjcjnldhhhaaGreatDoor
open Go.RowKit Go.Shelf
set_option linter.unusedVariables false

theorem grow_any (n : Nat) (w : World) (hn : n ≤ 1099511627776) :
    Calls Tryz.prog 37 #[.slice none 0 0, .int .i64 n] w fun e w' => (∃ v, e = .returned v ∧ OL w' w.heap.size v []) ∧ Below w.heap.size w w' := by
  by_cases h0 : n = 0
  · subst h0
    refine (Any8.slices_Grow_room Tryz.growL none 0 0 0 w (Nat.le_refl _) (by decide) (by decide) (Nat.le_refl _)).mono ?_
    rintro e w' ⟨rfl, rfl⟩
    exact ⟨⟨_, rfl, OL.nil _ _⟩, Below.refl _ _⟩
  · obtain ⟨i0, hi, hz0, hz1, hz2⟩ := info_parts Tryz.infoList
    refine (Any8.slices_Grow_grow Tryz.growL i0 (.slice none 0 0) hi hz0 (by omega) none 0 0 n [] w (Nat.le_refl _) (by omega) (by rw [hz2]; omega) (by omega) (by simp) (fun _ => rfl) (fun a h => by cases h)).mono ?_
    rintro e w' ⟨rfl, rfl⟩
    refine ⟨⟨_, rfl, [], ?_, rfl, fun i u L h => by simp at h⟩, ?_⟩
    · have hge := grownCap_ge w (0 + n) 0 (Tryz.growL_ren.t 25)
      rw [Nat.zero_add] at hge
      refine ⟨rfl, .inr ⟨w.heap.size, _, _, rfl, Nat.le_refl _, heap_alloc_new _ _, Nat.zero_le _, ?_, ?_, ?_⟩⟩
      · exact grownCap_le_maxLen w (0 + n) 0 _ (by unfold maxLen; omega)
      · simp only [Array.size_append, List.size_toArray, size_zeroCells, Value.cells, List.length_nil]
        simp
        omega
      · simp
    · exact ((Below.refl _ w).drew).alloc (Nat.le_refl _) _

theorem LL.values {w : World} {p : Option Addr} : ∀ {vs : List (List Nd)} (n : Nat), n ≤ vs.length → LL w p vs → ∃ xs : List Value, xs.length = n ∧ ∀ (i : Nat) u L, xs[i]? = some u → vs[i]? = some L → ∃ q c, u = .slice q L.length c ∧ NL w q L ∧ L.length ≤ c ∧ c ≤ maxLen ∧ ∀ b off, p = some ⟨b, off, none⟩ → w.cell? ⟨b, off + i, none⟩ = some u := by
  intro vs n
  induction n with
  | zero => intro _ _; exact ⟨[], rfl, fun i u L h => by simp at h⟩
  | succ n ih =>
    intro hn h
    obtain ⟨xs, hl, hx⟩ := ih (by omega) h
    obtain ⟨b, off, q, c, hp, _, hc, hnl, h1, h2⟩ := h.at (i := n) (by omega)
    refine ⟨xs ++ [.slice q vs[n].length c], by simp [hl], fun i u L hu hL => ?_⟩
    by_cases hi : i < xs.length
    · rw [List.getElem?_append_left hi] at hu
      exact hx i u L hu hL
    · have hi2 : i = n := by
        have := (List.getElem?_eq_some_iff.1 hu).1
        simp at this; omega
      subst hi2
      rw [List.getElem?_append_right (by omega), hl] at hu
      simp at hu
      subst hu
      rw [List.getElem?_eq_getElem (by omega)] at hL
      simp at hL
      subst hL
      exact ⟨q, c, rfl, hnl, h1, h2, fun b' off' hp' => by rw [hp] at hp'; cases hp'; exact hc⟩

/-- A row of lists appended to one of the call's own. -/
theorem append_lists (w : World) {ops : Array Oper} {rest : List Oper} {o : Oper} {a : Act} {Q : Exit → Act → World → Prop} (hgd : o.guard = none) (s x : Operand)
    (ho : o.op = .call { callee := .builtin .append, args := #[s, x], argTypes := #[26, 26] })
    (base : Nat) (v : Value) (vs : List (List Nd)) (hs : a.eval s = v) (hown : OL w base v vs) (M : List (List Nd)) (w0 : World) (q : Option Addr) (c : Nat) (h0 : LL w0 q M) (hb0 : base = w0.heap.size) (hk : Below w0.heap.size w0 w) (hq : q = none → c = 0)
    (hx : a.eval x = .slice q M.length c) (hlen : vs.length + M.length ≤ 1099511627776)
    (h : ∀ v' w', OL w' base v' (vs ++ M) → Kept base 22 w w' → wpList Tryz.prog ops Q rest (a.put o.dst v') w') : wpList Tryz.prog ops Q (o :: rest) a w := by
  obtain ⟨xs, hr, hl, he⟩ := hown
  obtain ⟨i0, hi, hz0, hz1, hz2⟩ := info_parts Tryz.infoList
  have hbase : base ≤ w.heap.size := by rw [hb0]; exact hk.size
  cases q with
  | none =>
    have hM : M = [] := by
      rcases h0 with h0 | ⟨b, off, h1, _⟩
      · exact h0
      · cases h1
    subst hM
    have hc0 := hq rfl
    subst hc0
    refine wpList_append_own_none hgd s x 26 ho base 22 i0 1 Tryz.underlying26 hi v xs.length xs hs hr hx ?_
    exact h v w (by rw [List.append_nil]; exact ⟨xs, hr, hl, he⟩) (Kept.refl _ _ _)
  | some ad =>
    obtain ⟨ys, hyl, hy⟩ := h0.values M.length (Nat.le_refl _)
    have hcell : ∀ (j : Nat) u, ys[j]? = some u → w.cell? (ad.add j) = some u := fun j u hu => by
      have hj : j < M.length := by rw [← hyl]; exact (List.getElem?_eq_some_iff.1 hu).1
      obtain ⟨q', c', _, _, _, _, hc⟩ := hy j u M[j] hu (List.getElem?_eq_getElem hj)
      rcases h0 with h0 | ⟨b, off, h1, h2, _⟩
      · rw [h0] at hj; simp at hj
      · cases h1
        have hadd : (⟨b, off, none⟩ : Addr).add j = ⟨b, off + j, none⟩ := by unfold Addr.add; split <;> simp_all
        rw [hadd]
        exact (hk.cell (p := ⟨b, off + j, none⟩) h2).trans (hc b off rfl)
    have hone : ∀ u ∈ ys, u.oneCell' = true := fun u hu => by
      obtain ⟨j, hj, rfl⟩ := List.mem_iff_getElem.1 hu
      obtain ⟨q', c', e, _⟩ := hy j ys[j] M[j] (List.getElem?_eq_getElem hj) (List.getElem?_eq_getElem (by omega))
      rw [e]; rfl
    refine wpList_append_own w hgd s x 26 ho base 22 i0 (.slice none 0 0) 1 24 Tryz.underlying26 hi hz0 hz1 hz2 rfl (by decide) v xs.length xs hs hr ad M.length c ys hx (by omega) hcell hone (by unfold maxLen; omega) (by omega) hbase ?_
    intro v' w' h1 h2 _
    have hkept : Kept base 22 w w' := ⟨(Below.refl base w).grown h2 hbase (fun k hk => (hr.typed k hk).1), fun bb f hf hty => h2.block bb hty.lt (fun e => (hr.typed bb e.symm).2.ne hty (fun hh => hf hh.symm) rfl)⟩
    refine h v' w' ⟨xs ++ ys, by unfold Row1; rw [List.length_append, hyl]; exact h1, by simp [hl, hyl], fun i u L hu hL => ?_⟩ hkept
    by_cases hi : i < xs.length
    · rw [List.getElem?_append_left hi] at hu
      rw [List.getElem?_append_left (by omega)] at hL
      obtain ⟨q', c', e1, e2, e3⟩ := he i u L hu hL
      exact ⟨q', c', e1, e2.kept hkept (by decide), e3⟩
    · rw [List.getElem?_append_right (by omega)] at hu
      rw [List.getElem?_append_right (by omega), ← hl] at hL
      obtain ⟨q', c', e1, e2, e3, e4, _⟩ := hy _ u L hu hL
      have hNT : NT w base q' L := (NT.old e2 hb0).kept (e := 172) ⟨by rw [hb0]; exact hk, fun b f _ ht => hk.block b ht.lt⟩ (by decide)
      exact ⟨q', c', e1, hNT.kept hkept (by decide), e3, e4⟩

/-- The first k of two. -/
def two (l m : List (List Nd)) (k : Nat) : List (List Nd) := (if 0 < k then l else []) ++ (if 1 < k then m else [])

set_option maxHeartbeats 1000000 in
theorem concat_any (l m : List (List Nd)) (g : Nat) (q1 q2 : Option Addr) (c1 c2 : Nat) (w : World) (hg : g < w.heap.size) (x0 : w.cell? ⟨g, 0, none⟩ = some (.slice q1 l.length c1)) (x1 : w.cell? ⟨g, 1, none⟩ = some (.slice q2 m.length c2))
    (h1 : LL w q1 l) (h2 : LL w q2 m) (z1 : q1 = none → c1 = 0) (z2 : q2 = none → c2 = 0) (ll : l.length ≤ 4294967296) (lm : m.length ≤ 4294967296) :
    Calls Tryz.prog 19 #[.slice (some ⟨g, 0, none⟩) 2 2] w fun e w' => (∃ q c, e = .returned (.slice q (l ++ m).length c) ∧ LL w' q (l ++ m) ∧ (l ++ m).length ≤ c ∧ c ≤ maxLen) ∧ Below w.heap.size w w' := by
  have H1 : Hid (LL w q1 l) := h1
  have H2 : Hid (LL w q2 m) := h2
  have Z1 : Hid (q1 = none → c1 = 0) := z1
  have Z2 : Hid (q2 = none → c2 = 0) := z2
  clear h1 h2 z1 z2
  go_enter Tryz.func19, Tryz.ntmps19
  go_wp2
  go_loopw [3, 11] (fun sz i wr => ∃ k : Nat, k ≤ 2 ∧ i = .int .i64 k ∧ sz = .int .i64 ((two l m k).length : Nat) ∧ Below w.heap.size w wr) (fun _ i _ => 2 - (intOf i).toNat)
  case atStart => exact ⟨0, by omega, rfl, rfl, Below.refl _ _⟩
  case round =>
    obtain ⟨k, hk, rfl, rfl, hb⟩ := hrel
    have y0 := (hb.cell (p := ⟨g, 0, none⟩) hg).trans x0
    have y1 := (hb.cell (p := ⟨g, 1, none⟩) hg).trans x1
    rcases k with _ | _ | k
    · rw [show (two l m 0).length = 0 from rfl]
      go_wp2
      go_roundw
      case rel => exact ⟨1, by omega, rfl, by simp [two], hb⟩
      case measure => simp [intOf]
    · rw [show (two l m (0 + 1)).length = l.length by simp [two]]
      go_wp2
      go_roundw
      case rel => exact ⟨2, by omega, rfl, by simp [two], hb⟩
      case measure => simp [intOf]
    · obtain rfl : k = 0 := by omega
      rw [show (two l m (0 + 1 + 1)).length = l.length + m.length by simp [two]]
      have HG := grow_any (l.length + m.length) wr (by omega)
      obtain ⟨wg, rfl⟩ : ∃ wg, wr = wg := ⟨_, rfl⟩
      have L1 : Hid (LL wr q1 l) := H1.out.up hb
      have L2 : Hid (LL wr q2 m) := H2.out.up hb
      obtain ⟨wg, hwg⟩ : ∃ wg, wg = wr := ⟨_, rfl⟩
      rw [← hwg] at HG L1 L2 hb y0 y1 ⊢
      clear hwg H1 H2
      have hgg : g < wg.heap.size := Nat.lt_of_lt_of_le hg hb.size
      go_wp2_with fail
      refine HG.mono ?_
      rintro e w1 ⟨⟨v, rfl, hol⟩, hb1⟩
      clear HG
      go_wp2
      go_loopw [6, 27] (fun ov i wr => ∃ k : Nat, k ≤ 2 ∧ i = .int .i64 k ∧ OL wr wg.heap.size ov (two l m k) ∧ Below wg.heap.size wg wr) (fun _ i _ => 2 - (intOf i).toNat)
      case atStart => exact ⟨0, by omega, rfl, hol, hb1⟩
      case round =>
        obtain ⟨k, hk, rfl, hol2, hb2⟩ := hrel
        have y0 := (hb2.cell (p := ⟨g, 0, none⟩) hgg).trans y0
        have y1 := (hb2.cell (p := ⟨g, 1, none⟩) hgg).trans y1
        have HO : Hid (OL wr wg.heap.size u6 (two l m k)) := hol2
        have HB : Hid (Below wg.heap.size wg wr) := hb2
        clear hol2 hb2 hol hb1
        rcases k with _ | _ | k
        · go_wp2_with (at_builtin; refine append_lists wr rfl (.tmp 31) (.tmp 32) rfl wg.heap.size u6 (two l m 0) rfl HO.out l wg q1 c1 L1.out rfl HB.out Z1.out rfl (by simp [two]; omega) ?_; intro v' w2 hol3 hk3)
          go_roundw
          case rel => exact ⟨1, by omega, rfl, by simpa [two] using hol3, HB.out.trans hk3.bel⟩
          case measure => simp [intOf]
        · go_wp2_with (at_builtin; refine append_lists wr rfl (.tmp 31) (.tmp 32) rfl wg.heap.size u6 (two l m (0 + 1)) rfl HO.out m wg q2 c2 L2.out rfl HB.out Z2.out rfl (by simp [two]; omega) ?_; intro v' w2 hol3 hk3)
          go_roundw
          case rel => exact ⟨2, by omega, rfl, by simpa [two] using hol3, HB.out.trans hk3.bel⟩
          case measure => simp [intOf]
        · obtain rfl : k = 0 := by omega
          have hol3 : OL wr wg.heap.size u6 (l ++ m) := by simpa [two] using HO.out
          obtain ⟨pq, pc, rfl, hpl, hpc, hpm⟩ := hol3.lists
          clear HO hol3
          go_wp2
          go_ret
          exact ⟨⟨pq, pc, rfl, hpl, hpc, hpm⟩, hb.trans (HB.out.mono hb.size)⟩
end Go.Proofs.YtncmjcjnldhhhaaGreatDoor
namespace Go.Proofs.YtncmjcjnldhhhaaGreatDoor
open Go.RowKit
set_option linter.unusedVariables false

theorem less_bad (s t : List Nd) (p q : Option Addr) (c d : Nat) (w : World) (hs : NL w p s) (hc : s.length ≤ c) (hcm : c ≤ maxLen) (ht : NL w q t) (hd : t.length ≤ d) (hdm : d ≤ maxLen) (h : sfault s t ≠ 0) :
    Calls Tryz.prog 12 #[.slice p s.length c, .slice q t.length d] w fun e w' => e = .returned (.tuple #[.slice none 0 0, eV (sfault s t)]) ∧ Below w.heap.size w w' := by
  have H1 := partsOfBoth_bad s t p q c d w hs hc hcm ht hd hdm h
  rw [eV_not h] at H1 ⊢
  clear hs ht
  go_enter Tryz.func12, Tryz.ntmps12
  go_wp2_with fail
  refine H1.mono ?_
  rintro e w1 ⟨rfl, hb1⟩
  go_wp2
  go_ret2
  exact ⟨rfl, hb1⟩
theorem less_ok (l m : List (List Nd)) (p q : Option Addr) (c d : Nat) (w : World) (hs : NL w p (setN l)) (hc : (setN l).length ≤ c) (hcm : c ≤ maxLen) (ht : NL w q (setN m)) (hd : (setN m).length ≤ d) (hdm : d ≤ maxLen) (hl : IsSet l) (hm : IsSet m) :
    Calls Tryz.prog 12 #[.slice p (setN l).length c, .slice q (setN m).length d] w fun e w' => (∃ q c', e = .returned (.tuple #[.slice q (setN (lessL l m)).length c', .nilIface]) ∧ NL w' q (setN (lessL l m)) ∧ (setN (lessL l m)).length ≤ c' ∧ c' ≤ maxLen) ∧ Below w.heap.size w w' := by
  have H1 := partsOfBoth_ok l m p q c d w hs hc hcm ht hd hdm hl hm
  have L1 : l.length ≤ 4294967296 := Nat.le_trans hl.len (by decide)
  have L2 : m.length ≤ maxLen := Nat.le_trans hm.len (by decide)
  have hI := isSet_less hl m
  have L3 : (lessL l m).length ≤ 4294967296 := Nat.le_trans hI.len (by decide)
  have HI : Hid (IsSet (lessL l m)) := hI
  clear hs ht hI
  go_enter Tryz.func12, Tryz.ntmps12
  go_wp2_with fail
  refine H1.mono ?_
  rintro e w1 ⟨⟨q1, c1, q2, c2, rfl, k1, k2, k3, k4, k5, k6⟩, hb1⟩
  have H2 := hadBy_any q2 m c2 w1 k4 L2
  clear H1
  go_wp2_with fail
  refine H2.mono ?_
  rintro e w2 ⟨⟨fv, rfl, hf⟩, hb2⟩
  have H3 := not_any fv _ w2 hf
  have k1' := k1.up hb2
  clear H2 k1
  go_wp2_with fail
  refine H3.mono ?_
  rintro e w3 ⟨⟨fv', rfl, hf'⟩, hb3⟩
  have H4 := those_any l q1 c1 fv' _ w3 (k1'.up hb3) L1 hf'
  rw [show (l.filter fun v => !inB m v) = lessL l m from rfl] at H4
  clear H3
  go_wp2_with fail
  refine H4.mono ?_
  rintro e w4 ⟨⟨q3, c3, rfl, k7, k8, k9⟩, hb4⟩
  have H5 := setOf_fit (lessL l m) (setN (lessL l m)) (by rw [HI.out.row]) q3 c3 w4 k7 L3 HI.out.vals HI.out.short
  clear H4
  go_wp2_with fail
  refine H5.mono ?_
  rintro e w5 ⟨⟨q4, c4, rfl, j1, j2, j3⟩, hb5⟩
  go_wp2
  go_ret2
  have hb6 := hb1.trans (hb2.mono hb1.size)
  have hb7 := hb6.trans (hb3.mono hb6.size)
  have hb8 := hb7.trans (hb4.mono hb7.size)
  exact ⟨⟨q4, c4, rfl, j1, j2, j3⟩, hb8.trans (hb5.mono hb8.size)⟩

theorem union_bad (s t : List Nd) (p q : Option Addr) (c d : Nat) (w : World) (hs : NL w p s) (hc : s.length ≤ c) (hcm : c ≤ maxLen) (ht : NL w q t) (hd : t.length ≤ d) (hdm : d ≤ maxLen) (h : sfault s t ≠ 0) :
    Calls Tryz.prog 8 #[.slice p s.length c, .slice q t.length d] w fun e w' => e = .returned (.tuple #[.slice none 0 0, eV (sfault s t)]) ∧ Below w.heap.size w w' := by
  have H1 := partsOfBoth_bad s t p q c d w hs hc hcm ht hd hdm h
  rw [eV_not h] at H1 ⊢
  clear hs ht
  go_enter Tryz.func8, Tryz.ntmps8
  go_wp2_with fail
  refine H1.mono ?_
  rintro e w1 ⟨rfl, hb1⟩
  go_wp2
  go_ret2
  exact ⟨rfl, hb1⟩

/-- What Union hands back: the set, or ErrFull. -/
def UnionRet (w : World) (S : List Nd) (e : Ending) : Prop :=
  if S.length ≤ 200 then ∃ q c, e = .returned (.tuple #[.slice q S.length c, .nilIface]) ∧ NL w q S ∧ S.length ≤ c ∧ c ≤ maxLen
  else e = .returned (.tuple #[.slice none 0 0, eV 4])
theorem setOf_both (vs : List (List Nd)) (p : Option Addr) (c : Nat) (w : World) (hv : LL w p vs) (hl : vs.length ≤ 4294967296) (hval : ∀ v ∈ vs, vfault v = 0) :
    Calls Tryz.prog 18 #[.slice p vs.length c] w fun e w' => UnionRet w' (setN (setL vs)) e ∧ Below w.heap.size w w' := by
  unfold UnionRet
  by_cases h : (setN (setL vs)).length ≤ 200
  · simp only [if_pos h]; exact setOf_fit vs _ rfl p c w hv hl hval h
  · simp only [if_neg h]; exact setOf_over vs p c w hv hl hval h
theorem union_ok (l m : List (List Nd)) (p q : Option Addr) (c d : Nat) (w : World) (hs : NL w p (setN l)) (hc : (setN l).length ≤ c) (hcm : c ≤ maxLen) (ht : NL w q (setN m)) (hd : (setN m).length ≤ d) (hdm : d ≤ maxLen) (hl : IsSet l) (hm : IsSet m) :
    Calls Tryz.prog 8 #[.slice p (setN l).length c, .slice q (setN m).length d] w fun e w' => UnionRet w' (setN (bothL l m)) e ∧ Below w.heap.size w w' := by
  have H1 := partsOfBoth_ok l m p q c d w hs hc hcm ht hd hdm hl hm
  have L1 : l.length ≤ 200 := hl.len
  have L2 : m.length ≤ 200 := hm.len
  have HV : Hid (∀ v ∈ l ++ m, vfault v = 0) := fun v hv => (List.mem_append.1 hv).elim (hl.vals v) (hm.vals v)
  have L3 : (l ++ m).length ≤ 4294967296 := by simp; omega
  have HC := fun g q1 q2 c1 c2 w hg x0 x1 h1 h2 z1 z2 => concat_any l m g q1 q2 c1 c2 w hg x0 x1 h1 h2 z1 z2 (by omega) (by omega)
  unfold bothL
  generalize l ++ m = vs at *
  clear hs ht hl hm
  go_enter Tryz.func8, Tryz.ntmps8
  go_wp2_with fail
  refine H1.mono ?_
  rintro e w1 ⟨⟨q1, c1, q2, c2, rfl, k1, k2, k3, k4, k5, k6, z1, z2⟩, hb1⟩
  have hup : Below w1.heap.size w1 (w1.alloc (.cells #[.slice q1 l.length c1, .slice q2 m.length c2] 26)) := (Below.refl _ _).alloc (Nat.le_refl _) _
  have H2 := HC w1.heap.size q1 q2 c1 c2 (w1.alloc (.cells #[.slice q1 l.length c1, .slice q2 m.length c2] 26)) (by simp) (by simp) (by simp) (k1.up hup) (k4.up hup) z1 z2
  clear H1 HC
  go_wp2_with fail
  refine H2.mono ?_
  rintro e w2 ⟨⟨q3, c3, rfl, k7, k8, k9⟩, hb2⟩
  have H3 := setOf_both vs q3 c3 w2 k7 L3 HV.out
  clear H2
  go_wp2_with fail
  refine H3.mono ?_
  rintro e w3 ⟨hret, hb3⟩
  have hb4 := hb1.trans (hup.mono hb1.size)
  have hb5 := hb4.trans (hb2.mono hb4.size)
  have hb6 := hb5.trans (hb3.mono hb5.size)
  have HR : Hid (UnionRet w3 (setN (setL vs)) e) := hret
  by_cases hfit : (setN (setL vs)).length ≤ 200
  · simp only [UnionRet, if_pos hfit] at hret
    obtain ⟨q4, c4, rfl, _⟩ := hret
    go_wp2
    go_ret2
    exact ⟨HR.out, hb6⟩
  · simp only [UnionRet, if_neg hfit] at hret
    subst hret
    go_wp2
    go_ret2
    exact ⟨HR.out, hb6⟩
end Go.Proofs.YtncmjcjnldhhhaaGreatDoor
namespace Go.Proofs.YtncmjcjnldhhhaaGreatDoor
open Go.RowKit
set_option linter.unusedVariables false

/-- A value that is a slice of these nodes. -/
def At (w : World) (v : Value) (S : List Nd) : Prop := ∃ q c, v = .slice q S.length c ∧ NL w q S ∧ S.length ≤ c ∧ c ≤ maxLen
theorem At.up {w w' : World} {v : Value} {S : List Nd} (h : At w v S) (k : Below w.heap.size w w') : At w' v S := by
  obtain ⟨q, c, e, h1, h2⟩ := h
  exact ⟨q, c, e, h1.up k, h2⟩
theorem At.mk {w : World} {q : Option Addr} {c : Nat} {S : List Nd} (h1 : NL w q S) (h2 : S.length ≤ c) (h3 : c ≤ maxLen) : At w (.slice q S.length c) S := ⟨q, c, rfl, h1, h2, h3⟩
/-- What a call hands back that makes a set. -/
def Made (w : World) (S : List Nd) (e : Ending) : Prop := ∃ v, e = .returned (.tuple #[v, .nilIface]) ∧ At w v S

theorem same_at {w : World} {v u : Value} {S T : List Nd} (hv : At w v S) (hu : At w u T) :
    Calls Tryz.prog 10 #[v, u] w fun e w' => e = .returned (.bool (sameNd S T)) ∧ Below w.heap.size w w' := by
  obtain ⟨q, c, rfl, h1, h2, h3⟩ := hv
  obtain ⟨q', c', rfl, k1, k2, k3⟩ := hu
  exact (sameNodes_any S T q q' c c' w h1 k1 (Nat.le_trans h2 h3) (Nat.le_trans k2 k3)).mono fun e w' ⟨e1, n, e2⟩ => ⟨e1, by rw [e2]; exact ⟨rfl, rfl, rfl, Nat.le_refl _, fun _ _ => rfl⟩⟩
theorem meet_at {w : World} {v u : Value} {l m : List (List Nd)} (hv : At w v (setN l)) (hu : At w u (setN m)) (hl : IsSet l) (hm : IsSet m) :
    Calls Tryz.prog 11 #[v, u] w fun e w' => Made w' (setN (meetL l m)) e ∧ Below w.heap.size w w' := by
  obtain ⟨q, c, rfl, h1, h2, h3⟩ := hv
  obtain ⟨q', c', rfl, k1, k2, k3⟩ := hu
  exact (meet_ok l m q q' c c' w h1 h2 h3 k1 k2 k3 hl hm).mono fun e w' ⟨⟨q2, c2, e1, e2, e3, e4⟩, hb⟩ => ⟨⟨_, e1, At.mk e2 e3 e4⟩, hb⟩
theorem less_at {w : World} {v u : Value} {l m : List (List Nd)} (hv : At w v (setN l)) (hu : At w u (setN m)) (hl : IsSet l) (hm : IsSet m) :
    Calls Tryz.prog 12 #[v, u] w fun e w' => Made w' (setN (lessL l m)) e ∧ Below w.heap.size w w' := by
  obtain ⟨q, c, rfl, h1, h2, h3⟩ := hv
  obtain ⟨q', c', rfl, k1, k2, k3⟩ := hu
  exact (less_ok l m q q' c c' w h1 h2 h3 k1 k2 k3 hl hm).mono fun e w' ⟨⟨q2, c2, e1, e2, e3, e4⟩, hb⟩ => ⟨⟨_, e1, At.mk e2 e3 e4⟩, hb⟩
theorem union_at {w : World} {v u : Value} {l m : List (List Nd)} {S : List Nd} (hv : At w v (setN l)) (hu : At w u (setN m)) (hl : IsSet l) (hm : IsSet m) (hS : setN (bothL l m) = S) (hfit : S.length ≤ 200) :
    Calls Tryz.prog 8 #[v, u] w fun e w' => Made w' S e ∧ Below w.heap.size w w' := by
  subst hS
  obtain ⟨q, c, rfl, h1, h2, h3⟩ := hv
  obtain ⟨q', c', rfl, k1, k2, k3⟩ := hu
  have H := union_ok l m q q' c c' w h1 h2 h3 k1 k2 k3 hl hm
  simp only [UnionRet, if_pos hfit] at H
  exact H.mono fun e w' ⟨⟨q2, c2, e1, e2, e3, e4⟩, hb⟩ => ⟨⟨_, e1, At.mk e2 e3 e4⟩, hb⟩
theorem union_over {w : World} {v u : Value} {l m : List (List Nd)} (hv : At w v (setN l)) (hu : At w u (setN m)) (hl : IsSet l) (hm : IsSet m) (hfit : ¬ (setN (bothL l m)).length ≤ 200) :
    Calls Tryz.prog 8 #[v, u] w fun e w' => e = .returned (.tuple #[.slice none 0 0, .iface 23 (.int .i64 4)]) ∧ Below w.heap.size w w' := by
  obtain ⟨q, c, rfl, h1, h2, h3⟩ := hv
  obtain ⟨q', c', rfl, k1, k2, k3⟩ := hu
  have H := union_ok l m q q' c c' w h1 h2 h3 k1 k2 k3 hl hm
  simp only [UnionRet, if_neg hfit] at H
  exact H
theorem meet_no {w : World} {v u : Value} {s t : List Nd} (hv : At w v s) (hu : At w u t) (h : sfault s t ≠ 0) :
    Calls Tryz.prog 11 #[v, u] w fun e w' => e = .returned (.tuple #[.slice none 0 0, .iface 23 (.int .i64 (sfault s t))]) ∧ Below w.heap.size w w' := by
  obtain ⟨q, c, rfl, h1, h2, h3⟩ := hv
  obtain ⟨q', c', rfl, k1, k2, k3⟩ := hu
  have H := meet_bad s t q q' c c' w h1 h2 h3 k1 k2 k3 h
  rw [eV_not h] at H
  exact H
theorem less_no {w : World} {v u : Value} {s t : List Nd} (hv : At w v s) (hu : At w u t) (h : sfault s t ≠ 0) :
    Calls Tryz.prog 12 #[v, u] w fun e w' => e = .returned (.tuple #[.slice none 0 0, .iface 23 (.int .i64 (sfault s t))]) ∧ Below w.heap.size w w' := by
  obtain ⟨q, c, rfl, h1, h2, h3⟩ := hv
  obtain ⟨q', c', rfl, k1, k2, k3⟩ := hu
  have H := less_bad s t q q' c c' w h1 h2 h3 k1 k2 k3 h
  rw [eV_not h] at H
  exact H
theorem union_no {w : World} {v u : Value} {s t : List Nd} (hv : At w v s) (hu : At w u t) (h : sfault s t ≠ 0) :
    Calls Tryz.prog 8 #[v, u] w fun e w' => e = .returned (.tuple #[.slice none 0 0, .iface 23 (.int .i64 (sfault s t))]) ∧ Below w.heap.size w w' := by
  obtain ⟨q, c, rfl, h1, h2, h3⟩ := hv
  obtain ⟨q', c', rfl, k1, k2, k3⟩ := hu
  have H := union_bad s t q q' c c' w h1 h2 h3 k1 k2 k3 h
  rw [eV_not h] at H
  exact H
theorem sfault_one {s t : List Nd} : sfault s t = 0 ↔ (∃ l, IsSet l ∧ s = setN l) ∧ ∃ m, IsSet m ∧ t = setN m := by
  constructor
  · intro h
    obtain ⟨l, m, hl, hm, e1, e2⟩ := sfault_zero h
    exact ⟨⟨l, hl, e1⟩, m, hm, e2⟩
  · rintro ⟨⟨l, hl, rfl⟩, m, hm, rfl⟩
    exact sfault_sets hl hm
end Go.Proofs.YtncmjcjnldhhhaaGreatDoor
namespace Go.Proofs.YtncmjcjnldhhhaaGreatDoor
open Go.RowKit
set_option linter.unusedVariables false

theorem Kept.mono {base B : Nat} {e : TypeId} {w w' : World} (h : Kept base e w w') (hB : B ≤ base) : Kept B e w w' := ⟨h.bel.mono hB, h.typed⟩

def OLB (w : World) (base B : Nat) (v : Value) (vs : List (List Nd)) : Prop :=
  ∃ xs, Row1 w base 22 v xs ∧ xs.length = vs.length ∧ ∀ (i : Nat) u L, xs[i]? = some u → vs[i]? = some L → ∃ q c, u = .slice q L.length c ∧ NT w B q L ∧ L.length ≤ c ∧ c ≤ maxLen
theorem OLB.nil (w : World) (base B : Nat) : OLB w base B (.slice none 0 0) [] := ⟨[], Row1.nil _ _ _, rfl, fun i u L h => by simp at h⟩
theorem OLB.kept {w w' : World} {base B : Nat} {e : TypeId} {v : Value} {vs : List (List Nd)} (h : OLB w base B v vs) (k : Kept base e w w') (hB : B ≤ base) (h1 : 22 ≠ e) (h2 : 41 ≠ e) : OLB w' base B v vs := by
  obtain ⟨xs, hr, hl, he⟩ := h
  exact ⟨xs, hr.kept k h1, hl, fun i u L hu hL => by
    obtain ⟨q, c, e1, e2, e3⟩ := he i u L hu hL
    exact ⟨q, c, e1, e2.kept (k.mono hB) h2, e3⟩⟩
theorem OLB.below {w w' : World} {base B : Nat} {v : Value} {vs : List (List Nd)} (h : OLB w base B v vs) (k : Below w.heap.size w w') (hB : B ≤ base) (hb : base ≤ w.heap.size) : OLB w' base B v vs :=
  h.kept (e := 172) (Kept.of_below k hb) hB (by decide) (by decide)
theorem Row1.lower {w : World} {base b' : Nat} {e : TypeId} {v : Value} {xs : List Value} (h : Row1 w base e v xs) (hb : b' ≤ base) : Row1 w b' e v xs := by
  refine ⟨h.1, ?_⟩
  rcases h.2 with hn | ⟨g, cap, cur, e1, hg, rest⟩
  · exact .inl hn
  · exact .inr ⟨g, cap, cur, e1, by omega, rest⟩
theorem OLB.lower {w : World} {base b' B : Nat} {v : Value} {vs : List (List Nd)} (h : OLB w base B v vs) (hb : b' ≤ base) : OLB w b' B v vs := by
  obtain ⟨xs, hr, hl, he⟩ := h
  exact ⟨xs, hr.lower hb, hl, he⟩
theorem OLB.lists {w : World} {base B : Nat} {v : Value} {vs : List (List Nd)} (h : OLB w base B v vs) : ∃ q c, v = .slice q vs.length c ∧ LL w q vs ∧ vs.length ≤ c ∧ c ≤ maxLen := by
  obtain ⟨xs, hr, hl, he⟩ := h
  obtain ⟨q, c, rfl, h1, h2, h3⟩ := hr.slice
  refine ⟨q, c, by rw [hl], ?_, by omega, h2⟩
  rcases h3 with rfl | ⟨g, rfl, ht, _, hc⟩
  · exact .inl (List.eq_nil_of_length_eq_zero (by rw [← hl]; rfl))
  · refine .inr ⟨g, 0, rfl, ht.lt, fun i L hL => ?_⟩
    have hi : i < xs.length := by rw [hl]; exact (List.getElem?_eq_some_iff.1 hL).1
    obtain ⟨q', c', e1, e2, e3⟩ := he i xs[i] L (List.getElem?_eq_getElem hi) hL
    refine ⟨q', c', ?_, e2.1, e3⟩
    rw [Nat.zero_add, ← e1]
    exact hc i _ (List.getElem?_eq_getElem hi)
/-- One of them. -/
theorem OLB.at {w : World} {base B : Nat} {p : Option Addr} {n c0 : Nat} {vs : List (List Nd)} (h : OLB w base B (.slice p n c0) vs) {i : Nat} (hi : i < vs.length) : ∃ g q c, p = some ⟨g, 0, none⟩ ∧ g < w.heap.size ∧ w.cell? ⟨g, i, none⟩ = some (.slice q vs[i].length c) ∧ NT w B q vs[i] ∧ vs[i].length ≤ c ∧ c ≤ maxLen := by
  obtain ⟨xs, hr, hl, he⟩ := h
  obtain ⟨q, c, e, h1, h2, h3⟩ := hr.slice
  rcases h3 with rfl | ⟨g, rfl, ht, _, hc⟩
  · simp at hl; omega
  · cases e
    obtain ⟨q', c', e1, e2, e3⟩ := he i xs[i] vs[i] (List.getElem?_eq_getElem (by omega)) (List.getElem?_eq_getElem hi)
    exact ⟨g, q', c', rfl, ht.lt, by rw [← e1]; exact hc i _ (List.getElem?_eq_getElem (by omega)), e2, e3⟩

theorem append_listB (w : World) {ops : Array Oper} {rest : List Oper} {o : Oper} {a : Act} {Q : Exit → Act → World → Prop} (hgd : o.guard = none) (s x : Operand)
    (ho : o.op = .call { callee := .builtin .append, args := #[s, x], argTypes := #[26, 26] })
    (base B : Nat) (hB : B ≤ base) (v : Value) (vs : List (List Nd)) (hs : a.eval s = v) (hown : OLB w base B v vs) (L : List Nd) (n : Nat) (hn : L.length = n) (q : Option Addr) (c : Nat) (hN : NT w B q L) (hlc : n ≤ c) (hcm : c ≤ maxLen)
    (hx : a.eval x = .slice (some ⟨w.heap.size, 0, none⟩) 1 1) (hlen : vs.length + 1 ≤ 1099511627776) (hbase : base ≤ w.heap.size)
    (h : ∀ v' w', OLB w' base B v' (vs ++ [L]) → Kept base 22 w w' → wpList Tryz.prog ops Q rest (a.put o.dst v') w') : wpList Tryz.prog ops Q (o :: rest) a (w.alloc (.cells #[.slice q n c] 22)) := by
  subst hn
  obtain ⟨xs, hr, hl, he⟩ := hown
  refine append_cell w hgd s x 26 22 ho Tryz.underlying26 (.slice none 0 0) 24 Tryz.infoList rfl base v xs hs hr (.slice q L.length c) rfl hx (by unfold maxLen; omega) (by omega) hbase ?_
  intro v' w' h1 k
  refine h v' w' ⟨xs ++ [.slice q L.length c], h1, by simp [hl], fun i u L' hu hL' => ?_⟩ k
  by_cases hi : i < xs.length
  · rw [List.getElem?_append_left hi] at hu
    rw [List.getElem?_append_left (by omega)] at hL'
    obtain ⟨q', c', e1, e2, e3⟩ := he i u L' hu hL'
    exact ⟨q', c', e1, e2.kept (k.mono hB) (by decide), e3⟩
  · have hi2 : i = xs.length := by
      have := (List.getElem?_eq_some_iff.1 hu).1
      simp at this; omega
    subst hi2
    rw [List.getElem?_append_right (Nat.le_refl _)] at hu
    rw [List.getElem?_append_right (by omega), hl] at hL'
    simp at hu hL'
    subst hu hL'
    exact ⟨q, c, rfl, hN.kept (k.mono hB) (by decide), hlc, hcm⟩

theorem append_rowB (w : World) {ops : Array Oper} {rest : List Oper} {o : Oper} {a : Act} {Q : Exit → Act → World → Prop} (hgd : o.guard = none) (s x : Operand)
    (ho : o.op = .call { callee := .builtin .append, args := #[s, x], argTypes := #[26, 26] })
    (base B : Nat) (hB : B ≤ base) (v : Value) (vs : List (List Nd)) (hs : a.eval s = v) (hown : OLB w base B v vs) (b2 : Nat) (vm : Value) (M : List (List Nd)) (hM : OLB w b2 B vm M)
    (hx : a.eval x = vm) (hlen : vs.length + M.length ≤ 1099511627776) (hbase : base ≤ w.heap.size)
    (h : ∀ v' w', OLB w' base B v' (vs ++ M) → Kept base 22 w w' → wpList Tryz.prog ops Q rest (a.put o.dst v') w') : wpList Tryz.prog ops Q (o :: rest) a w := by
  obtain ⟨xs, hr, hl, he⟩ := hown
  obtain ⟨ys, hr2, hl2, he2⟩ := hM
  obtain ⟨i0, hi, hz0, hz1, hz2⟩ := info_parts Tryz.infoList
  rcases hr2.2 with ⟨rfl, hn⟩ | ⟨g, cap, cur, rfl, _⟩
  · have hM : M = [] := List.eq_nil_of_length_eq_zero (by omega)
    subst hM
    refine wpList_append_own_none hgd s x 26 ho base 22 i0 1 Tryz.underlying26 hi v xs.length xs hs hr hx ?_
    exact h v w (by rw [List.append_nil]; exact ⟨xs, hr, hl, he⟩) (Kept.refl _ _ _)
  · have hcell : ∀ (j : Nat) u, ys[j]? = some u → w.cell? ((⟨g, 0, none⟩ : Addr).add j) = some u := fun j u hu => World.ownsRow.cells hr2 (g := g) rfl j u hu
    have hone : ∀ u ∈ ys, u.oneCell' = true := fun u hu => by
      obtain ⟨j, hj, rfl⟩ := List.mem_iff_getElem.1 hu
      obtain ⟨q', c', e, _⟩ := he2 j ys[j] M[j] (List.getElem?_eq_getElem hj) (List.getElem?_eq_getElem (by omega))
      rw [e]; rfl
    refine wpList_append_own w hgd s x 26 ho base 22 i0 (.slice none 0 0) 1 24 Tryz.underlying26 hi hz0 hz1 hz2 rfl (by decide) v xs.length xs hs hr ⟨g, 0, none⟩ ys.length cap ys hx (by omega) hcell hone (by unfold maxLen; omega) (by omega) hbase ?_
    intro v' w' h1 h2 _
    have hkept : Kept base 22 w w' := ⟨(Below.refl base w).grown h2 hbase (fun k hk => (hr.typed k hk).1), fun bb f hf hty => h2.block bb hty.lt (fun e => (hr.typed bb e.symm).2.ne hty (fun hh => hf hh.symm) rfl)⟩
    refine h v' w' ⟨xs ++ ys, by unfold Row1; rw [List.length_append]; exact h1, by simp [hl, hl2], fun i u L hu hL => ?_⟩ hkept
    by_cases hi : i < xs.length
    · rw [List.getElem?_append_left hi] at hu
      rw [List.getElem?_append_left (by omega)] at hL
      obtain ⟨q', c', e1, e2, e3⟩ := he i u L hu hL
      exact ⟨q', c', e1, e2.kept (hkept.mono hB) (by decide), e3⟩
    · rw [List.getElem?_append_right (by omega)] at hu
      rw [List.getElem?_append_right (by omega), ← hl] at hL
      obtain ⟨q', c', e1, e2, e3⟩ := he2 _ u L hu hL
      exact ⟨q', c', e1, e2.kept (hkept.mono hB) (by decide), e3⟩
end Go.Proofs.YtncmjcjnldhhhaaGreatDoor
namespace Go.Proofs.YtncmjcjnldhhhaaGreatDoor
open Go.RowKit
set_option linter.unusedVariables false

/-- What Parts hands back: the parts, where they lie, and as many names. -/
def PartsRetB (w : World) (base B : Nat) (l : List (List Nd)) (e : Ending) : Prop := ∃ q1 c1 q2 c2, e = .returned (.tuple #[.slice q1 l.length c1, .slice q2 l.length c2]) ∧ OLB w base B (.slice q1 l.length c1) l

set_option maxRecDepth 100000 in
set_option maxHeartbeats 600000 in
theorem refParts_setB (x : Nd) (r : List Nd) (ss : List (List Nd)) (hss : Segs (x :: r).length r ss) (hh : ∀ s ∈ ss, ∃ y t, s = y :: t ∧ y.op ≠ 7) (hcnt : (ss.length : Int) = x.n) (b off c B : Nat) (w : World) (hB : B ≤ w.heap.size) (hN0 : NT w B (some ⟨b, off, none⟩) (x :: r)) (hv : NL w (some ⟨b, off, none⟩) (x :: r)) (hbw : b < w.heap.size) (hl : (x :: r).length ≤ 200) (hc : (x :: r).length ≤ c) (hcm : c ≤ maxLen) (hop : x.op = 5) :
    Calls Tryz.prog 6 #[.slice (some ⟨b, off, none⟩) (x :: r).length c] w fun e w' => PartsRetB w' w.heap.size B (ss.map strip) e ∧ Below w.heap.size w w' := by
  have HM : Hid (c ≤ maxLen) := hcm
  have HBT : Hid (b < B ∨ Typed w b 41) := by
    rcases hN0.2 with h | ⟨b1, o1, e1, h1⟩
    · cases h
    · cases e1; exact h1
  clear hN0
  unfold maxLen at hcm
  have hsl := hss.length
  obtain ⟨b', o', hpe, _, x0, x1, _, _, xw⟩ := hv.head
  obtain ⟨rfl, rfl⟩ : b = b' ∧ off = o' := by simpa using hpe
  have HSS : Hid (Segs (x :: r).length r ss) := hss
  have HH : Hid (∀ s ∈ ss, ∃ y t, s = y :: t ∧ y.op ≠ 7) := hh
  generalize hV : x :: r = v at *
  have hvl : v.length = r.length + 1 := by rw [← hV]; rfl
  have HVL : Hid (v.length = r.length + 1) := hvl
  have hd1 : v.drop 1 = r := by rw [← hV]; rfl
  have HD1 : Hid (_ = _) := hd1
  have eop : (x.op == 6) = false := by simp [hop]
  have i0 : (0 : Int) < (v.length : Int) := by omega
  have hsl2 : ss.length + 1 ≤ v.length := by omega
  clear hss hh hpe hop hV hd1 hvl
  go_enter Tryz.func6, Tryz.ntmps6
  go_wp2
  go_loopw [4, 5, 6, 7, 8] (fun ov nv sa i sn wr => ∃ (k at_ : Nat) (done ss' : List (List Nd)), i = .int .i64 k ∧ sa = .int .i64 at_ ∧ OLB wr w.heap.size B ov (done.map strip) ∧ OT wr w.heap.size nv (done.map nameOf) ∧ done.length = k ∧ Hid (Segs v.length (v.drop at_) ss') ∧ Hid (done ++ ss' = ss) ∧ at_ ≤ v.length ∧ 1 ≤ at_ ∧ Below w.heap.size w wr) (fun _ _ _ i _ _ => ss.length - (intOf i).toNat)
  case atStart => exact ⟨0, 1, [], ss, rfl, rfl, OLB.nil _ _ _, Row1.nil _ _ _, rfl, by rw [HD1.out]; exact HSS, rfl, by omega, Nat.le_refl _, Below.refl _ _⟩
  case round =>
    obtain ⟨k, at_, done, ss', rfl, rfl, hol, hot, hdl, HSg, HD, hat, hat1, hb⟩ := hrel
    have z0 := (hb.cell (p := ⟨b, off, none⟩) hbw).trans x0
    have z1 := (hb.cell (p := ⟨b, off + 1, none⟩) hbw).trans x1
    have hlen := congrArg List.length HD.out
    rw [List.length_append] at hlen
    have hvr := hv.up hb
    generalize hu : v.drop at_ = u at *
    cases hsg : HSg.out with
    | nil =>
      have HE : Hid (done = ss) := by have := HD.out; show _ = _; simpa using this
      simp at hlen
      have i1 : ¬ (k : Int) < x.n := by omega
      clear hsg
      obtain ⟨q1, c1, rfl, _, _⟩ := hol.lists
      obtain ⟨q2, c2, rfl, htl, _⟩ := hot.texts
      rw [HE.out] at hol ⊢
      simp only [List.length_map] at hol ⊢
      go_wp2
      go_ret2
      exact ⟨⟨q1, c1, q2, c2, by simp, by simpa using hol⟩, hb⟩
    | @cons a r' ss2 h hs =>
      obtain ⟨y, t, rfl, hy⟩ := HH.out a (by rw [← HD.out]; simp)
      simp at hlen
      have hul : (v.drop at_).length = v.length - at_ := by simp
      rw [hu] at hul
      simp at hul
      have i1 : (k : Int) < x.n := by omega
      have hda := Segs.drop_eq hu
      simp only [List.length_cons] at hda
      have HS2 : Hid (Segs v.length r' ss2) := hs
      have halt : at_ < v.length := by omega
      have HY : Hid (y.op ≠ 7) := hy
      have hpv : pastV v.length ((y :: t) ++ r') = some r' := by
        have := h
        simp only [List.cons_append, itemP, if_neg hy] at this
        exact this
      have hendc := fun w' (hb' : Below w.heap.size w w') => valueEnd_any (v.length + 1) v b off c at_ false w' (by omega) (by omega) (hv.up hb') (Nat.lt_of_lt_of_le hbw hb'.size) hc HM.out
      rw [pastF_value, hu, pastV_fuel (v.length + 1) v.length ((y :: t) ++ r') (by simp; omega) (by simp; omega), hpv] at hendc
      have hen : endI v.length (some r') = ((at_ + 1 + t.length : Nat) : Int) := by unfold endI; simp only []; omega
      rw [hen] at hendc
      have j1 : (at_ : Int) ≤ ((at_ + 1 + t.length : Nat) : Int) := by omega
      have j2 : ((at_ + 1 + t.length : Nat) : Int) ≤ (c : Int) := by omega
      have hst : strip (y :: t) = y :: t := by show (if y.op = 7 then t else y :: t) = _; rw [if_neg hy]
      have hnm : nameOf (y :: t) = ⟨#[]⟩ := by show (if y.op = 7 then y.s else _) = _; rw [if_neg hy]
      have j4 : ¬ c = at_ := by omega
      have hT : NL w (some ⟨b, off + at_ * 4, none⟩) (y :: t) := by
        have := hv.from at_ (y :: t).length
        rw [hu, List.take_left] at this
        exact this
      generalize hen2 : at_ + 1 + t.length = en at *
      have HEN : Hid (_ = _) := hen2
      clear hsg h hs hpv hu hen hy hen2
      go_wp2_with fail
      refine (hendc _ hb).mono ?_
      rintro e w1 ⟨rfl, hb1⟩
      have hb2 := hb.trans (hb1.mono hb.size)
      have hol1 := hol.below hb1 hB hb.size
      have hot1 : OT w1 w.heap.size u5 (done.map nameOf) := Row1.kept (e := 172) hot (Kept.of_below hb1 hb.size) (by decide)
      have hNT : NT w1 B (some ⟨b, off + at_ * 4, none⟩) (y :: t) := ⟨hT.up hb2, .inr ⟨b, _, rfl, HBT.out.imp id (fun ⟨cur, fr, hx⟩ => ⟨cur, fr, (hb2.block b hbw).trans hx⟩)⟩⟩
      have hLn : (y :: t).length = (en - at_) := by have := HEN.out; first | (simp; omega) | omega
      have hdm : (done.map strip).length ≤ 200 := by simp; omega
      have hdm2 : (done.map nameOf).length ≤ 200 := by simp; omega
      clear hendc hol hot z0 z1
      have HOL : Hid (OLB w1 w.heap.size B u4 (done.map strip)) := hol1
      have HOT : Hid (OT w1 w.heap.size u5 (done.map nameOf)) := hot1
      clear hol1 hot1
      go_wp2_with (first
        | (at_builtin; refine append_listB w1 rfl (.tmp 33) (.tmp 38) rfl w.heap.size B hB u4 (done.map strip) rfl HOL.out (y :: t) (en - at_) hLn (some ⟨b, off + at_ * 4, none⟩) (c - at_) hNT (by omega) (by unfold maxLen; omega) rfl (by omega) hb2.size ?_; intro v1 w2 hol2 hk2; have hot2 : OT w2 w.heap.size u5 (done.map nameOf) := Row1.kept HOT.out hk2 (by decide); have hb3 := hb2.trans hk2.bel; have HO2 : Hid (OLB w2 w.heap.size B v1 (done.map strip ++ [(y :: t)])) := hol2; clear hol2)
        | (at_builtin; refine append_text w2 rfl (.tmp 40) (.tmp 42) rfl w.heap.size u5 (done.map nameOf) rfl hot2 ⟨#[]⟩ rfl (by omega) hb3.size ?_; intro v2 w3 hot3 hk3))
      have hol3 := HO2.out.kept hk3 hB (by decide) (by decide)
      go_roundw
      case rel => exact ⟨k + 1, en, done ++ [y :: t], ss2, by go_num, rfl, by rw [List.map_append, List.map_cons, hst]; exact hol3, by rw [List.map_append, List.map_cons, hnm]; exact hot3, by simp [hdl], by rw [← HEN.out, show at_ + 1 + t.length = at_ + (t.length + 1) by omega, hda.1]; exact HS2, by show _ = _; rw [← HD.out]; simp, by have := HEN.out; omega, by have := HEN.out; omega, hb3.trans hk3.bel⟩
      case measure => simp [intOf]; omega

end Go.Proofs.YtncmjcjnldhhhaaGreatDoor
namespace Go.Proofs.YtncmjcjnldhhhaaGreatDoor
open Go.RowKit
set_option linter.unusedVariables false

theorem refParts_row (l : List (List Nd)) (p : Option Addr) (c : Nat) (w : World) (hs : NL w p (setN l)) (hc : (setN l).length ≤ c) (hcm : c ≤ maxLen) (h : IsSet l) :
    Calls Tryz.prog 6 #[.slice p (setN l).length c] w fun e w' => (∃ q1 c1 q2 c2, e = .returned (.tuple #[.slice q1 l.length c1, .slice q2 l.length c2]) ∧ LL w' q1 l) ∧ Below w.heap.size w w' := by
  obtain ⟨b, o, rfl, hbw, _⟩ := (show NL w p (⟨5, l.length, ⟨#[]⟩, ⟨#[]⟩⟩ :: l.flatten) from hs).head
  have hh : ∀ s ∈ l, ∃ y t, s = y :: t ∧ y.op ≠ 7 := fun s hm => by
    obtain ⟨y, t, e, _, h7, _⟩ := value_head (h.vals s hm)
    exact ⟨y, t, e, h7⟩
  have := refParts_set ⟨5, l.length, ⟨#[]⟩, ⟨#[]⟩⟩ l.flatten l (values_segs _ l h.vals (fun v hm => by have := mem_flat hm; show v.length + 1 ≤ l.flatten.length + 1; omega)) hh rfl b o c w hs hbw h.short hc hcm rfl
  refine this.mono fun e w' ⟨⟨q1, c1, q2, c2, h1, h2, _⟩, h4⟩ => ⟨⟨q1, c1, q2, c2, h1, ?_⟩, h4⟩
  rw [values_strip h.vals] at h2
  exact h2

theorem refParts_rowB (l : List (List Nd)) (p : Option Addr) (c B : Nat) (w : World) (hB : B ≤ w.heap.size) (hs : NT w B p (setN l)) (hc : (setN l).length ≤ c) (hcm : c ≤ maxLen) (h : IsSet l) :
    Calls Tryz.prog 6 #[.slice p (setN l).length c] w fun e w' => PartsRetB w' w.heap.size B l e ∧ Below w.heap.size w w' := by
  obtain ⟨b, o, rfl, hbw, _⟩ := (show NL w p (⟨5, l.length, ⟨#[]⟩, ⟨#[]⟩⟩ :: l.flatten) from hs.1).head
  have hh : ∀ s ∈ l, ∃ y t, s = y :: t ∧ y.op ≠ 7 := fun s hm => by
    obtain ⟨y, t, e, _, h7, _⟩ := value_head (h.vals s hm)
    exact ⟨y, t, e, h7⟩
  have := refParts_setB ⟨5, l.length, ⟨#[]⟩, ⟨#[]⟩⟩ l.flatten l (values_segs _ l h.vals (fun v hm => by have := mem_flat hm; show v.length + 1 ≤ l.flatten.length + 1; omega)) hh rfl b o c B w hB hs hs.1 hbw h.short hc hcm rfl
  rw [values_strip h.vals] at this
  exact this

theorem pair_lists {w : World} {a b : List Nd} {p q : Option Addr} {c d : Nat} (ha : NL w p a) (hb : NL w q b) (la : a.length ≤ c) (lb : b.length ≤ d) (mc : c ≤ maxLen) (md : d ≤ maxLen) :
    LL (w.alloc (.cells #[.slice p a.length c, .slice q b.length d] 22)) (some ⟨w.heap.size, 0, none⟩) [a, b] := by
  have hb' : Below w.heap.size w (w.alloc (.cells #[.slice p a.length c, .slice q b.length d] 22)) := (Below.refl _ _).alloc (Nat.le_refl _) _
  refine .inr ⟨w.heap.size, 0, rfl, by simp, fun i v hi => ?_⟩
  match i, hi with
  | 0, hi => simp at hi; subst hi; exact ⟨p, c, by simp [go_sem], ha.up hb', la, mc⟩
  | 1, hi => simp at hi; subst hi; exact ⟨q, d, by simp [go_sem], hb.up hb', lb, md⟩
  | i + 2, hi => simp at hi
theorem ffault_two (s t : List Nd) : ffault [s, t] = if vfault s = 0 then vfault t else vfault s := by
  unfold ffault
  by_cases h : vfault s = 0
  · rw [if_pos h, if_pos h]
    unfold ffault
    by_cases k : vfault t = 0
    · rw [if_pos k]; unfold ffault; rw [k]
    · rw [if_neg k]
  · rw [if_neg h, if_neg h]

theorem within_any (l : List (List Nd)) (v : List Nd) (p q : Option Addr) (c d : Nat) (w : World) (hs : NL w p (setN l)) (hc : (setN l).length ≤ c) (hcm : c ≤ maxLen) (hv : NL w q v) (hd : v.length ≤ maxLen) (h : IsSet l) :
    Calls Tryz.prog 14 #[.slice p (setN l).length c, .slice q v.length d] w fun e w' => e = .returned (.bool (inB l v)) ∧ Below w.heap.size w w' := by
  have H1 := refParts_row l p c w hs hc hcm h
  have L1 := h.len
  clear hs h
  go_enter Tryz.func14, Tryz.ntmps14
  go_wp2_with fail
  refine H1.mono ?_
  rintro e w1 ⟨⟨q1, c1, q2, c2, rfl, k1⟩, hb1⟩
  have hv1 := hv.up hb1
  have HB1 : Hid (Below w.heap.size w w1) := hb1
  clear H1 hv hb1
  go_wp2
  go_loopw [7] (fun i wr => ∃ k : Nat, k ≤ l.length ∧ i = .int .i64 k ∧ Hid (inB (l.take k) v = false) ∧ Below w1.heap.size w1 wr) (fun i _ => l.length - (intOf i).toNat)
  case atStart => exact ⟨0, Nat.zero_le _, rfl, rfl, Below.refl _ _⟩
  case round =>
    obtain ⟨k, hk, rfl, HA, hb⟩ := hrel
    by_cases hlt : k < l.length
    · have i1 : (k : Int) < (l.length : Int) := by omega
      obtain ⟨b, off, q', c', rfl, hbw, hcell, hnl, h1, h2⟩ := (k1.up hb).at hlt
      have HN : Hid (inB (l.take (k + 1)) v = (inB (l.take k) v || decide (lsC l[k] v = 0))) := by
        show _ = _
        unfold inB
        rw [List.take_succ_eq_append_getElem hlt, List.any_append]; simp
      have HH : Hid (lsC l[k] v = 0 → inB l v = true) := fun e => by
        rw [inB_iff, ← (lsC_is.zero _ _).1 e]; exact List.getElem_mem _
      generalize l[k] = a at *
      have H2 := refNodes_any a v q' q c' d wr hnl (hv1.up hb) (Nat.le_trans h1 h2) hd
      by_cases hz : lsC a v = 0
      · rw [hz] at H2
        have HA2 : Hid (inB l v = true) := HH.out hz
        clear HN HH HA
        go_wp2_with fail
        refine H2.mono ?_
        rintro e w2 ⟨rfl, n2, rfl⟩
        go_wp2
        go_ret
        exact ⟨by rw [HA2.out]; rfl, HB1.out.trans ((Below.mono ⟨hb.os, hb.tape, hb.output, hb.size, hb.block⟩ HB1.out.size : Below w.heap.size w1 (wr.drewN n2)))⟩
      · have HA2 : Hid (inB (l.take (k + 1)) v = false) := by show _ = _; rw [HN.out, HA.out, decide_eq_false hz]; rfl
        have hz' : (lsC a v == 0) = false := by simpa using hz
        clear HN HH HA
        generalize lsC a v = z at *
        go_wp2_with fail
        refine H2.mono ?_
        rintro e w2 ⟨rfl, n2, rfl⟩
        go_wp2
        go_roundw
        case rel => exact ⟨k + 1, by omega, by go_num, HA2, ⟨hb.os, hb.tape, hb.output, hb.size, hb.block⟩⟩
        case measure => simp [intOf]; omega
    · have i1 : ¬ (k : Int) < (l.length : Int) := by omega
      have HA2 : Hid (inB l v = false) := by
        have := HA.out
        rw [List.take_of_length_le (by omega)] at this
        exact this
      go_wp2
      go_ret
      exact ⟨by rw [HA2.out]; rfl, HB1.out.trans (hb.mono HB1.out.size)⟩

/-- What Chosen hands back: the lists, and where they lie. -/
def ChosenRet (w : World) (base B : Nat) (l : List (List Nd)) (e : Ending) : Prop := ∃ v, e = .returned v ∧ OLB w base B v l

set_option maxHeartbeats 1000000 in
theorem chosen_any (l m : List (List Nd)) (has : Bool) (p q : Option Addr) (c d B : Nat) (w : World) (hB : B ≤ w.heap.size) (hs : NT w B p (setN l)) (hc : (setN l).length ≤ c) (hcm : c ≤ maxLen) (ht : NL w q (setN m)) (hd : (setN m).length ≤ d) (hdm : d ≤ maxLen) (hl : IsSet l) (hm : IsSet m) :
    Calls Tryz.prog 5 #[.slice p (setN l).length c, .slice q (setN m).length d, .bool has] w fun e w' => ChosenRet w' w.heap.size B (l.filter fun v => inB m v == has) e ∧ Below w.heap.size w w' := by
  have H1 := refParts_rowB l p c B w hB hs hc hcm hl
  have L1 := hl.len
  have HW := fun v q' d' w' (h1 : Below w.heap.size w w') (h2 : NL w' q' v) (h3 : v.length ≤ maxLen) => within_any m v q q' d d' w' (ht.up h1) hd hdm h2 h3 hm
  clear hs hl ht hm
  go_enter Tryz.func5, Tryz.ntmps5
  go_wp2_with fail
  refine H1.mono ?_
  rintro e w1 ⟨⟨q1, c1, q2, c2, rfl, k1⟩, hb1⟩
  have HB1 : Hid (Below w.heap.size w w1) := hb1
  have hB1 : B ≤ w1.heap.size := Nat.le_trans hB hb1.size
  have HWW : Hid (∀ v q' d' w', Below w.heap.size w w' → NL w' q' v → v.length ≤ maxLen → Calls Tryz.prog 14 #[.slice q (setN m).length d, .slice q' v.length d'] w' fun e w'' => e = .returned (.bool (inB m v)) ∧ Below w'.heap.size w' w'') := HW
  have K1 : Hid (OLB w1 w.heap.size B (.slice q1 l.length c1) l) := k1
  clear H1 hb1 HW k1
  generalize (setN m).length = mn at *
  go_wp2
  go_loopw [7, 10] (fun ov i wr => ∃ k : Nat, k ≤ l.length ∧ i = .int .i64 k ∧ OLB wr w1.heap.size B ov ((l.take k).filter fun v => inB m v == has) ∧ Below w1.heap.size w1 wr) (fun _ i _ => l.length - (intOf i).toNat)
  case atStart => exact ⟨0, Nat.zero_le _, rfl, OLB.nil _ _ _, Below.refl _ _⟩
  case round =>
    obtain ⟨k, hk, rfl, hol, hb⟩ := hrel
    by_cases hlt : k < l.length
    · have i1 : (k : Int) < (l.length : Int) := by omega
      obtain ⟨b, q', c', hp0, hbw, hcell0, hnt0, h1, h2⟩ := K1.out.at hlt
      have HF : Hid ((l.take (k + 1)).filter (fun v => inB m v == has) = (l.take k).filter (fun v => inB m v == has) ++ (if inB m l[k] == has then [l[k]] else [])) := by
        show _ = _
        rw [List.take_succ_eq_append_getElem hlt, List.filter_append]
        congr 1
        cases e : (inB m l[k] == has) <;> simp [e]
      have hfl : ((l.take k).filter fun v => inB m v == has).length ≤ 4294967296 := Nat.le_trans (List.length_filter_le _ _) (by simp; omega)
      have hcell := (hb.cell (p := ⟨b, k, none⟩) hbw).trans hcell0
      have H2 := HWW.out l[k] q' c' wr (HB1.out.trans (hb.mono HB1.out.size)) (hnt0.1.up hb) (Nat.le_trans h1 h2)
      have HNT : Hid (NT w1 B q' l[k]) := hnt0
      generalize l[k] = v at *
      subst hp0
      have HO : Hid (OLB wr w1.heap.size B u7 ((l.take k).filter fun v => inB m v == has)) := hol
      have HB : Hid (Below w1.heap.size w1 wr) := hb
      have hbw' : b < wr.heap.size := Nat.lt_of_lt_of_le hbw hb.size
      clear hol hcell0 hnt0 hb
      generalize (l.take k).filter (fun v => inB m v == has) = acc at *
      by_cases ha : inB m v = has
      · have HF2 : Hid ((l.take (k + 1)).filter (fun v => inB m v == has) = acc ++ [v]) := by show _ = _; rw [HF.out, ha]; simp
        clear HF
        rw [ha] at H2
        go_wp2_with fail
        refine H2.mono ?_
        rintro e w2 ⟨rfl, hb2'⟩
        have hb2 := HB.out.trans (hb2'.mono HB.out.size)
        have hcell2 := (hb2'.cell (p := ⟨b, k, none⟩) hbw').trans hcell
        cases has
        all_goals
          go_wp2_with (at_builtin; refine append_listB w2 rfl (.tmp 30) (.tmp 35) rfl w1.heap.size B hB1 u7 acc rfl (HO.out.below hb2' hB1 HB.out.size) v v.length rfl q' c' (HNT.out.kept (e := 172) ((Kept.of_below hb2 (Nat.le_refl _)).mono hB1) (by decide)) h1 h2 rfl (by omega) hb2.size ?_; intro v' w3 hol3 hk3)
          go_roundw
          case rel => exact ⟨k + 1, by omega, by go_num, by rw [HF2.out]; exact hol3, hb2.trans hk3.bel⟩
          case measure => simp [intOf]; omega
      · have HF2 : Hid ((l.take (k + 1)).filter (fun v => inB m v == has) = acc) := by
          show _ = _
          rw [HF.out, if_neg (by simpa using ha)]; simp
        clear HF
        have ha2 : inB m v = !has := by cases e : inB m v <;> cases e2 : has <;> simp_all
        rw [ha2] at H2
        go_wp2_with fail
        refine H2.mono ?_
        rintro e w2 ⟨rfl, hb2'⟩
        have hb2 := HB.out.trans (hb2'.mono HB.out.size)
        cases has
        all_goals
          go_wp2
          go_roundw
          case rel => exact ⟨k + 1, by omega, by go_num, by rw [HF2.out]; exact HO.out.below hb2' hB1 HB.out.size, hb2⟩
          case measure => simp [intOf]; omega
    · have i1 : ¬ (k : Int) < (l.length : Int) := by omega
      have HE : Hid ((l.take k).filter (fun v => inB m v == has) = l.filter fun v => inB m v == has) := by show _ = _; rw [List.take_of_length_le (by omega)]
      rw [HE.out] at hol
      have hol2 := hol.lower HB1.out.size
      go_wp2
      go_ret
      exact ⟨⟨_, rfl, hol2⟩, HB1.out.trans (hb.mono HB1.out.size)⟩

theorem setFault_any (s t : List Nd) (p q : Option Addr) (c d : Nat) (w : World) (hs : NL w p s) (hc : s.length ≤ c) (hcm : c ≤ maxLen) (ht : NL w q t) (hd : t.length ≤ d) (hdm : d ≤ maxLen) :
    Calls Tryz.prog 4 #[.slice p s.length c, .slice q t.length d] w fun e w' => e = .returned (.int .i64 (sfault s t)) ∧ Below w.heap.size w w' := by
  have hup : Below w.heap.size w (w.alloc (.cells #[.slice p s.length c, .slice q t.length d] 22)) := (Below.refl _ _).alloc (Nat.le_refl _) _
  have H1 := faults_any [s, t] (some ⟨w.heap.size, 0, none⟩) 2 _ (pair_lists hs ht hc hd hcm hdm) (by simp [maxLen])
  rw [ffault_two] at H1
  rw [show [s, t].length = 2 from rfl] at H1
  by_cases h1 : vfault s = 0
  · rw [if_pos h1] at H1
    by_cases h2 : vfault t = 0
    · rw [h2] at H1
      obtain ⟨x, r, rfl, _⟩ := value_head h1
      obtain ⟨y, r', rfl, _⟩ := value_head h2
      obtain ⟨b, o, rfl, hbw, x0, _⟩ := hs.head
      obtain ⟨b', o', rfl, hbw', y0, _⟩ := ht.head
      have i0 : (0 : Int) < ((x :: r).length : Int) := by simp
      have i1 : (0 : Int) < ((y :: r').length : Int) := by simp
      have hz : sfault (x :: r) (y :: r') = if x.op = 5 ∧ y.op = 5 then 0 else 2 := by
        unfold sfault; rw [if_pos h1, if_pos h2]; simp [isSetV]
      rw [hz]
      clear hz h1 h2 hs ht
      unfold maxLen at hcm hdm
      simp only [List.length_cons] at *
      by_cases hx : x.op = 5
      · have ex : (x.op != 5) = false := by simp [hx]
        by_cases hy : y.op = 5
        · have ey : (y.op != 5) = false := by simp [hy]
          rw [if_pos ⟨hx, hy⟩]
          go_enter Tryz.func4, Tryz.ntmps4
          go_wp2_with fail
          refine H1.mono ?_
          rintro e w1 ⟨rfl, hb1⟩
          have hb2 := hup.trans (hb1.mono hup.size)
          have x1 := (hb2.cell (p := ⟨b, o, none⟩) hbw).trans x0
          have y1 := (hb2.cell (p := ⟨b', o', none⟩) hbw').trans y0
          go_wp2
          go_ret
          exact ⟨rfl, hb2⟩
        · have ey : (y.op != 5) = true := by simp [hy]
          rw [if_neg (fun h => hy h.2)]
          go_enter Tryz.func4, Tryz.ntmps4
          go_wp2_with fail
          refine H1.mono ?_
          rintro e w1 ⟨rfl, hb1⟩
          have hb2 := hup.trans (hb1.mono hup.size)
          have x1 := (hb2.cell (p := ⟨b, o, none⟩) hbw).trans x0
          have y1 := (hb2.cell (p := ⟨b', o', none⟩) hbw').trans y0
          go_wp2
          go_ret
          exact ⟨rfl, hb2⟩
      · have ex : (x.op != 5) = true := by simp [hx]
        rw [if_neg (fun h => hx h.1)]
        go_enter Tryz.func4, Tryz.ntmps4
        go_wp2_with fail
        refine H1.mono ?_
        rintro e w1 ⟨rfl, hb1⟩
        have hb2 := hup.trans (hb1.mono hup.size)
        have x1 := (hb2.cell (p := ⟨b, o, none⟩) hbw).trans x0
        have y1 := (hb2.cell (p := ⟨b', o', none⟩) hbw').trans y0
        go_wp2
        go_ret
        exact ⟨rfl, hb2⟩
    · have hz : sfault s t = vfault t := by unfold sfault; rw [if_pos h1, if_neg h2]
      rw [hz]
      have e0 : (vfault t == 0) = false := by simpa using h2
      clear hz h1 h2
      generalize vfault t = z at *
      go_enter Tryz.func4, Tryz.ntmps4
      go_wp2_with fail
      refine H1.mono ?_
      rintro e w1 ⟨rfl, hb1⟩
      go_wp2
      go_ret
      exact ⟨rfl, hup.trans (hb1.mono hup.size)⟩
  · have hz : sfault s t = vfault s := by unfold sfault; rw [if_neg h1]
    rw [if_neg h1] at H1
    rw [hz]
    have e0 : (vfault s == 0) = false := by simpa using h1
    clear hz h1
    generalize vfault s = z at *
    go_enter Tryz.func4, Tryz.ntmps4
    go_wp2_with fail
    refine H1.mono ?_
    rintro e w1 ⟨rfl, hb1⟩
    go_wp2
    go_ret
    exact ⟨rfl, hup.trans (hb1.mono hup.size)⟩
end Go.Proofs.YtncmjcjnldhhhaaGreatDoor
namespace Go.Proofs.YtncmjcjnldhhhaaGreatDoor
open Go.RowKit
set_option linter.unusedVariables false

theorem pick_snoc (last v : List Nd) : ∀ (l : List (List Nd)) (nx : List Nd), pick last (l ++ [v]) nx = if above last v && lessO v (pick last l nx) then v else pick last l nx
  | [], nx => rfl
  | u :: l, nx => by
    show pick last (l ++ [v]) _ = _
    rw [pick_snoc last v l]
    rfl

theorem Picked.full {vs done : List (List Nd)} {last : List Nd} (h : Picked vs done last) : (setN done).length ≤ (setN (setL vs)).length := by
  have := flat_le (Strict.sub h.strict (strict_setL vs) (fun x hx => (mem_setL vs x).2 (h.sub x hx)))
  show done.flatten.length + 1 ≤ (setL vs).flatten.length + 1
  omega

theorem refSet_bad (vs : List (List Nd)) (p : Option Addr) (c : Nat) (w : World) (hv : LL w p vs) (hl : vs.length ≤ maxLen) (h : ffault vs ≠ 0) :
    Calls Tryz.prog 7 #[.slice p vs.length c] w fun e w' => e = .returned (.tuple #[.slice none 0 0, .int .i64 (ffault vs)]) ∧ Below w.heap.size w w' := by
  have h0 : (ffault vs != 0) = true := by simpa using h
  have hF := faults_any vs p c w hv hl
  generalize ffault vs = z at *
  go_enter Tryz.func7, Tryz.ntmps7
  go_wp2_with fail
  refine hF.mono ?_
  rintro e w1 ⟨rfl, hb⟩
  go_wp2
  go_ret2
  exact ⟨rfl, hb⟩

/-- What SetOf hands back where all are values. -/
def SetRet (w : World) (vs : List (List Nd)) (e : Ending) : Prop :=
  if (setN (setL vs)).length ≤ 200 then ∃ q c, e = .returned (.tuple #[.slice q (setN (setL vs)).length c, .int .i64 0]) ∧ NL w q (setN (setL vs))
  else e = .returned (.tuple #[.slice none 0 0, .int .i64 4])

/-- .. and where the set lies: in a block of nodes. -/
def SetRetT (w : World) (vs : List (List Nd)) (e : Ending) : Prop :=
  if (setN (setL vs)).length ≤ 200 then ∃ q c, e = .returned (.tuple #[.slice q (setN (setL vs)).length c, .int .i64 0]) ∧ NT w 0 q (setN (setL vs)) ∧ (setN (setL vs)).length ≤ c ∧ c ≤ maxLen
  else e = .returned (.tuple #[.slice none 0 0, .int .i64 4])

set_option maxRecDepth 100000 in
set_option maxHeartbeats 1500000 in
theorem refSet_full (vs : List (List Nd)) (p : Option Addr) (c : Nat) (w : World) (hv : LL w p vs) (hl : vs.length ≤ 1099511627776) (h : ffault vs = 0) (hne : ∀ v ∈ vs, v ≠ []) (hshort : ∀ v ∈ vs, v.length ≤ 200) :
    Calls Tryz.prog 7 #[.slice p vs.length c] w fun e w' => SetRetT w' vs e ∧ Below w.heap.size w w' := by
  have hF := faults_any vs p c w hv (by unfold maxLen; omega)
  rw [h] at hF
  have HNE : Hid (∀ v ∈ vs, v ≠ []) := hne
  have HSH : Hid (∀ v ∈ vs, v.length ≤ 200) := hshort
  clear h hne hshort
  go_enter Tryz.func7, Tryz.ntmps7
  go_wp2_with fail
  refine hF.mono ?_
  rintro e w1 ⟨rfl, hb1⟩
  clear hF
  have hll := hv.up hb1
  have hstart : ON (w1.alloc (.cells #[.int .i64 5, .int .i64 0, .string ⟨#[]⟩, .string ⟨#[]⟩] 41)) w1.heap.size (.slice (some ⟨w1.heap.size, 0, none⟩) 1 1) (setN []) :=
    ⟨⟨rfl, .inr ⟨w1.heap.size, 1, _, rfl, Nat.le_refl _, heap_alloc_new w1 _, Nat.le_refl _, by unfold maxLen; omega, rfl, rfl⟩⟩, fun x hx => by simp [setN] at hx; subst hx; exact ⟨Nat.zero_le _, Nat.zero_le _, by decide⟩⟩
  have HST : Hid _ := hstart
  clear hstart
  go_wp2
  go_loopw [5, 6] (fun ov lv wr => ∃ (done : List (List Nd)) (last : List Nd) (q : Option Addr) (cq : Nat), ON wr w1.heap.size ov (setN done) ∧ lv = .slice q last.length cq ∧ Hid (NL w1 q last) ∧ Hid (Picked vs done last) ∧ (setN done).length ≤ 200 ∧ last.length ≤ 200 ∧ Below w1.heap.size w1 wr) (fun ov _ _ => 201 - lenV ov)
  case atStart => exact ⟨[], [], none, 0, HST.out, rfl, .inl rfl, Picked.start vs, by simp [setN], by simp, (Below.refl _ _).alloc (Nat.le_refl _) _⟩
  case round =>
    obtain ⟨done, last, q, cq, hon, rfl, HQ, HPK, hs200, hl200, hbr⟩ := hrel
    have HON : Hid (ON wr w1.heap.size u5 (setN done)) := hon
    clear hon
    go_wp2
    generalize hwo : wr = wo at *
    clear hwo
    go_loopw [7, 8] (fun nv i wq => ∃ (k n : Nat) (qn : Option Addr) (cn : Nat), k ≤ vs.length ∧ i = .int .i64 k ∧ nv = .slice qn (pick last (vs.take k) []).length cn ∧ Hid (NL w1 qn (pick last (vs.take k) [])) ∧ (pick last (vs.take k) []).length ≤ 200 ∧ wq = wo.drewN n) (fun _ i _ => vs.length - (intOf i).toNat)
    case atStart => exact ⟨0, 0, none, 0, Nat.zero_le _, rfl, rfl, .inl rfl, by simp [pick], rfl⟩
    case round =>
      obtain ⟨k, n, qn, cn, hk, rfl, rfl, HP, hp200, hwr⟩ := hrel
      have hbq : Below w1.heap.size w1 wr := by rw [hwr]; exact below_nn hbr n
      have HWQ : Hid (_ = _) := hwr
      clear hwr
      by_cases hlt : k < vs.length
      · have i1 : (k : Int) < (vs.length : Int) := by omega
        obtain ⟨b, off, qv, cv, rfl, hbv, hcell, hnl, hv1, hv2⟩ := (hll.up hbq).at hlt
        have hnv1 : NL w1 qv vs[k] := by
          obtain ⟨b', off', qv', cv', e1, _, hc', hn', _⟩ := hll.at hlt
          cases e1
          have := hbq.cell (p := ⟨b, off + k, none⟩) (by assumption)
          rw [hcell, hc'] at this
          simp at this
          rw [this.1]; exact hn'
        have hmem : vs[k] ∈ vs := List.getElem_mem _
        have hvs := HSH.out _ hmem
        have HSN : Hid (pick last (vs.take (k + 1)) [] = if above last vs[k] && lessO vs[k] (pick last (vs.take k) []) then vs[k] else pick last (vs.take k) []) := by
          show _ = _
          rw [List.take_succ_eq_append_getElem hlt, pick_snoc]
        have HNV : Hid (NL w1 qv vs[k]) := hnv1
        generalize vs[k] = v at *
        generalize pick last (vs.take k) [] = P at *
        have N1 := fun W (hW : Below w1.heap.size w1 W) => refNodes_any v last qv q cv cq W (HNV.out.up hW) (HQ.out.up hW) (by unfold maxLen; omega) (by unfold maxLen; omega)
        have N2 := fun W (hW : Below w1.heap.size w1 W) => refNodes_any v P qv qn cv cn W (HNV.out.up hW) (HP.out.up hW) (by unfold maxLen; omega) (by unfold maxLen; omega)
        have HAB : Hid (above last v = (last.isEmpty || decide (0 < lsC v last))) := rfl
        have HLE : Hid (lessO v P = (P.isEmpty || decide (lsC v P < 0))) := rfl
        generalize lsC v last = z1 at *
        generalize lsC v P = z2 at *
        clear hmem hnv1
        cases le : ((last.length : Int) == 0)
        · have hle : last.isEmpty = false := by simpa using le
          cases hz1 : decide (0 < z1)
          · have HT : Hid (pick last (vs.take (k + 1)) [] = P) := by show _ = _; rw [HSN.out, HAB.out, hle, hz1]; rfl
            go_wp2_with fail
            refine (N1 _ hbq).mono ?_
            rintro e w4 ⟨rfl, m4, rfl⟩
            go_wp2
            go_roundw
            case rel => exact ⟨k + 1, _, qn, cn, by omega, by go_num, by rw [HT.out], by rw [HT.out]; exact HP, by rw [HT.out]; exact hp200, by rw [HWQ.out] <;> first | rfl | (simp only [World.drewN_drewN]; rfl)⟩
            case measure => simp [intOf]; omega
          · have hab : above last v = true := by rw [HAB.out, hle, hz1]; rfl
            go_wp2_with fail
            refine (N1 _ hbq).mono ?_
            rintro e w4 ⟨rfl, m4, rfl⟩
            have hbq4 := below_nn hbq m4
            cases pe : ((P.length : Int) == 0)
            · have hpe : P.isEmpty = false := by simpa using pe
              cases hz : decide (z2 < 0)
              · have HT : Hid (pick last (vs.take (k + 1)) [] = P) := by show _ = _; rw [HSN.out, hab, HLE.out, hpe, hz]; rfl
                go_wp2_with fail
                refine (N2 _ hbq4).mono ?_
                rintro e w5 ⟨rfl, m5, rfl⟩
                go_wp2
                go_roundw
                case rel => exact ⟨k + 1, _, qn, cn, by omega, by go_num, by rw [HT.out], by rw [HT.out]; exact HP, by rw [HT.out]; exact hp200, by rw [HWQ.out] <;> first | rfl | (simp only [World.drewN_drewN]; rfl)⟩
                case measure => simp [intOf]; omega
              · have HT : Hid (pick last (vs.take (k + 1)) [] = v) := by show _ = _; rw [HSN.out, hab, HLE.out, hpe, hz]; rfl
                go_wp2_with fail
                refine (N2 _ hbq4).mono ?_
                rintro e w5 ⟨rfl, m5, rfl⟩
                go_wp2
                go_roundw
                case rel => exact ⟨k + 1, _, qv, cv, by omega, by go_num, by rw [HT.out], by rw [HT.out]; exact HNV, by rw [HT.out]; exact hvs, by rw [HWQ.out] <;> first | rfl | (simp only [World.drewN_drewN]; rfl)⟩
                case measure => simp [intOf]; omega
            · have hpe : P.isEmpty = true := by simpa using pe
              have HT : Hid (pick last (vs.take (k + 1)) [] = v) := by show _ = _; rw [HSN.out, hab, HLE.out, hpe]; rfl
              go_wp2
              go_roundw
              case rel => exact ⟨k + 1, _, qv, cv, by omega, by go_num, by rw [HT.out], by rw [HT.out]; exact HNV, by rw [HT.out]; exact hvs, by rw [HWQ.out] <;> first | rfl | (simp only [World.drewN_drewN]; rfl)⟩
              case measure => simp [intOf]; omega
        · have hle : last.isEmpty = true := by simpa using le
          have hab : above last v = true := by rw [HAB.out, hle]; rfl
          cases pe : ((P.length : Int) == 0)
          · have hpe : P.isEmpty = false := by simpa using pe
            cases hz : decide (z2 < 0)
            · have HT : Hid (pick last (vs.take (k + 1)) [] = P) := by show _ = _; rw [HSN.out, hab, HLE.out, hpe, hz]; rfl
              go_wp2_with fail
              refine (N2 _ hbq).mono ?_
              rintro e w5 ⟨rfl, m5, rfl⟩
              go_wp2
              go_roundw
              case rel => exact ⟨k + 1, _, qn, cn, by omega, by go_num, by rw [HT.out], by rw [HT.out]; exact HP, by rw [HT.out]; exact hp200, by rw [HWQ.out] <;> first | rfl | (simp only [World.drewN_drewN]; rfl)⟩
              case measure => simp [intOf]; omega
            · have HT : Hid (pick last (vs.take (k + 1)) [] = v) := by show _ = _; rw [HSN.out, hab, HLE.out, hpe, hz]; rfl
              go_wp2_with fail
              refine (N2 _ hbq).mono ?_
              rintro e w5 ⟨rfl, m5, rfl⟩
              go_wp2
              go_roundw
              case rel => exact ⟨k + 1, _, qv, cv, by omega, by go_num, by rw [HT.out], by rw [HT.out]; exact HNV, by rw [HT.out]; exact hvs, by rw [HWQ.out] <;> first | rfl | (simp only [World.drewN_drewN]; rfl)⟩
              case measure => simp [intOf]; omega
          · have hpe : P.isEmpty = true := by simpa using pe
            have HT : Hid (pick last (vs.take (k + 1)) [] = v) := by show _ = _; rw [HSN.out, hab, HLE.out, hpe]; rfl
            go_wp2
            go_roundw
            case rel => exact ⟨k + 1, _, qv, cv, by omega, by go_num, by rw [HT.out], by rw [HT.out]; exact HNV, by rw [HT.out]; exact hvs, by rw [HWQ.out] <;> first | rfl | (simp only [World.drewN_drewN]; rfl)⟩
            case measure => simp [intOf]; omega
      · obtain rfl : k = vs.length := by omega
        have i1 : ¬ (vs.length : Int) < (vs.length : Int) := by omega
        have hon : ON wr w1.heap.size u5 (setN done) := by rw [HWQ.out]; exact HON.out
        rw [List.take_length] at HP hp200 ⊢
        obtain ⟨g, cap, rfl, hg, hgw, hgc, hgm, hgn, hgf⟩ := hon.slice (by simp [setN])
        have HN2 : Hid (pick last vs [] = [] → done = setL vs) := HPK.out.done HNE.out
        have HN3 : Hid (pick last vs [] ≠ [] → Picked vs (done ++ [pick last vs []]) (pick last vs [])) := HPK.out.next HNE.out
        generalize pick last vs [] = P at *
        have HO : Hid (ON wr w1.heap.size (.slice (some ⟨g, 0, none⟩) (setN done).length cap) (setN done)) := hon
        clear hon HON
        cases P with
        | nil =>
          have HE := HN2.out rfl
          have HEE : Hid (done = setL vs) := HE
          clear HE
          go_wp2
          go_ret2
          refine ⟨?_, hb1.trans (hbq.mono hb1.size)⟩
          have hh := HEE.out
          subst hh
          unfold SetRetT
          rw [if_pos hs200]
          have hty : Typed wr g 41 := by
            rcases HO.out.1.2 with ⟨e0, _⟩ | ⟨g', cap', cur, e0, _, hgg, _⟩
            · cases e0
            · cases e0; exact ⟨cur, _, hgg⟩
          exact ⟨_, cap, rfl, ⟨hgn, .inr ⟨g, 0, rfl, .inr hty⟩⟩, hgc, hgm⟩
        | cons y t =>
          have HPN := HN3.out (by simp)
          have HPK2 : Hid (Picked vs (done ++ [y :: t]) (y :: t)) := HPN
          clear HPN
          obtain ⟨pb, po, rfl, hpb, _⟩ := HP.out.head
          have j0 : ((t.length : Int) + 1 == 0) = false := by simp; omega
          obtain ⟨gb, go', hge, _, g0, g1, g2, g3, _⟩ : ∃ gb go', (some (⟨g, 0, none⟩ : Addr)) = some ⟨gb, go', none⟩ ∧ True ∧ wr.cell? ⟨gb, go', none⟩ = some (.int .i64 5) ∧ wr.cell? ⟨gb, go' + 1, none⟩ = some (.int .i64 done.length) ∧ wr.cell? ⟨gb, go' + 2, none⟩ = some (.string ⟨#[]⟩) ∧ wr.cell? ⟨gb, go' + 3, none⟩ = some (.string ⟨#[]⟩) ∧ True := by
            obtain ⟨gb, go', e1, _, e3, e4, e5, e6, _⟩ := NL.head (x := ⟨5, done.length, ⟨#[]⟩, ⟨#[]⟩⟩) (r := done.flatten) hgn
            exact ⟨gb, go', e1, trivial, e3, e4, e5, e6, trivial⟩
          cases hge
          simp only [Nat.zero_add] at g1 g2 g3
          have f1 := hgf 1
          have hs' : done.flatten.length + 1 ≤ 200 := hs200
          have hdl : done.length ≤ 200 := by
            have hh : ∀ (l : List (List Nd)), (∀ x ∈ l, x ≠ []) → l.length ≤ l.flatten.length := by
              intro l
              induction l with
              | nil => simp
              | cons a l ih =>
                intro h
                have h1 := ih (fun x hx => h x (by simp [hx]))
                have h2 := List.length_pos_iff.2 (h a (by simp))
                simp only [List.flatten_cons, List.length_append, List.length_cons]; omega
            have := hh done (fun x hx => HNE.out x (HPK.out.sub x hx))
            omega
          obtain ⟨F, hF⟩ : ∃ F, F = done.flatten := ⟨_, rfl⟩
          have hsd : setN done = (⟨5, done.length, ⟨#[]⟩, ⟨#[]⟩⟩ : Nd) :: F := by rw [hF]; rfl
          have hsn : setN (done ++ [y :: t]) = (⟨5, (done.length : Int) + 1, ⟨#[]⟩, ⟨#[]⟩⟩ :: F) ++ (y :: t) := by rw [hF]; exact setN_snoc done (y :: t)
          have HSN2 : Hid (_ = _) := hsn
          have HC := ON.count (k := (done.length : Int) + 1) (L := F) (by omega) (by
            rw [show (done.length : Int) + 1 - 1 = (done.length : Int) by omega]
            have := HO.out
            rw [hsd] at this
            exact this)
          rw [← hF] at hs'
          have HCC : Hid (ON (wr.setCell ⟨g, 1, none⟩ (.int .i64 ((done.length : Int) + 1))) w1.heap.size (.slice (some ⟨g, 0, none⟩) (F.length + 1) cap) (⟨5, (done.length : Int) + 1, ⟨#[]⟩, ⟨#[]⟩⟩ :: F)) := HC
          have hb3 : Below w1.heap.size w1 (wr.setCell ⟨g, 1, none⟩ (.int .i64 ((done.length : Int) + 1))) := hbq.setCell hg _
          have HNC : Hid (NL (wr.setCell ⟨g, 1, none⟩ (.int .i64 ((done.length : Int) + 1))) (some ⟨pb, po, none⟩) (y :: t)) := HP.out.up hb3
          obtain ⟨i0, hi, hz0, hz1, hz2⟩ := info_parts Tryz.infoNode
          have HWF : Hid (∀ x ∈ (y :: t), x.wf) := HP.out.wfs
          have hsl : (setN done).length = F.length + 1 := by rw [hsd]; rfl
          have HSL : Hid (_ = _) := hsl
          rw [hsl]
          clear HC HO HN2 HN3 hgn hgf hsd hsn hF hsl
          simp only [List.length_cons] at *
          have j1 : (0 : Int) < (F.length : Int) + 1 := by omega
          go_wp2_with (at_builtin; refine wpList_append_own _ rfl (.tmp 63) (.tmp 64) 22 rfl w1.heap.size 41 i0 _ 4 48 Tryz.underlying22 hi hz0 hz1 hz2 rfl (by decide) (.slice (some ⟨g, 0, none⟩) (F.length + 1) cap) (F.length + 1) (ncells (⟨5, (done.length : Int) + 1, ⟨#[]⟩, ⟨#[]⟩⟩ :: F)) rfl HCC.out.1 ⟨pb, po, none⟩ (t.length + 1) cn (ncells (y :: t)) rfl ?qc1 ?qc2 ?qc3 ?qc4 ?qc5 ?qc6 ?_)
          case qc1 => exact ncells_length (y :: t)
          case qc2 =>
            intro j u hu
            have hadd : (⟨pb, po, none⟩ : Addr).add j = ⟨pb, po + j, none⟩ := by unfold Addr.add; split <;> simp_all
            have hh := (HP.out.up hbq).cells j u hu
            first | exact hh | (rw [hadd]; exact HNC.out.cells j u hu)
          case qc3 => exact ncells_one _
          case qc4 => unfold maxLen; omega
          case qc5 => omega
          case qc6 => first | exact hbq.size | exact hb3.size
          intro v' w' h1 h2 h3
          have hb4 : Below w1.heap.size w1 w' := hb3.grown h2 (by first | exact hb3.size) (fun k hk => by simp [Value.ownBlock] at hk; omega)
          have hon2 : ON w' w1.heap.size v' (setN (done ++ [y :: t])) := by
            rw [HSN2.out]
            refine ⟨?_, fun x hx => ?_⟩
            · rw [ncells_append, List.length_append]
              exact h1
            · rcases List.mem_append.1 hx with hx | hx
              · exact HCC.out.2 x hx
              · exact HWF.out x hx
          have HON2 : Hid (ON w' w1.heap.size v' (setN (done ++ [y :: t]))) := hon2
          obtain ⟨g2, cap2, rfl, hg2, _, hgc2, hgm2, hgn2, _⟩ := hon2.slice (by simp [setN])
          have hl2 : (setN (done ++ [y :: t])).length = F.length + 1 + (t.length + 1) := by rw [HSN2.out]; simp; omega
          clear h1 h2 h3 hi hz0 hz1 hz2 hon2
          rw [hl2]
          by_cases hfull : 200 < F.length + 1 + (t.length + 1)
          · have hf2 : (200 : Int) < (F.length : Int) + 1 + ((t.length : Int) + 1) := by omega
            go_wp2
            go_ret2
            refine ⟨?_, hb1.trans (hb4.mono hb1.size)⟩
            have := HPK2.out.full
            unfold SetRetT
            rw [if_neg (by omega)]
            rfl
          · have hf2 : ¬ (200 : Int) < (F.length : Int) + 1 + ((t.length : Int) + 1) := by omega
            go_wp2
            go_roundw
            case rel => exact ⟨done ++ [y :: t], y :: t, some ⟨pb, po, none⟩, cn, by rw [← hl2]; exact HON2.out, rfl, HP, HPK2, by omega, by simp; omega, hb4⟩
            case measure =>
              have h5 := HSL.out
              have h6 := hl2
              simp [lenV]; omega

theorem refSet_ok (vs : List (List Nd)) (p : Option Addr) (c : Nat) (w : World) (hv : LL w p vs) (hl : vs.length ≤ 1099511627776) (h : ffault vs = 0) (hne : ∀ v ∈ vs, v ≠ []) (hshort : ∀ v ∈ vs, v.length ≤ 200) :
    Calls Tryz.prog 7 #[.slice p vs.length c] w fun e w' => SetRet w' vs e ∧ Below w.heap.size w w' := by
  refine (refSet_full vs p c w hv hl h hne hshort).mono fun e w' ⟨h1, h2⟩ => ⟨?_, h2⟩
  unfold SetRetT at h1
  unfold SetRet
  split at h1
  · rename_i hf
    rw [if_pos hf]
    obtain ⟨q, c', e1, e2, _⟩ := h1
    exact ⟨q, c', e1, e2.1⟩
  · rename_i hf
    rw [if_neg hf]
    exact h1
end Go.Proofs.YtncmjcjnldhhhaaGreatDoor
namespace Go.Proofs.YtncmjcjnldhhhaaGreatDoor
open Go.RowKit
set_option linter.unusedVariables false

theorem bt2 {a b c : World} (h : Below a.heap.size a b) (k : Below b.heap.size b c) : Below a.heap.size a c := h.trans (k.mono h.size)
theorem ev_up {w w' : World} (h : ErrVar w) (hb : Below w.heap.size w w') : ErrVar w' := errVar_below h hb (Nat.le_refl _)
theorem toldE_any (n m : Int) (w : World) (hg : ErrVar w) : Calls Tryz.prog 9 #[eV n, .int .i64 m] w fun e w' => e = .returned (.bool (n == m)) ∧ Below w.heap.size w w' := same_any n m w hg
end Go.Proofs.YtncmjcjnldhhhaaGreatDoor
namespace Go.Proofs.YtncmjcjnldhhhaaGreatDoor
open Go.RowKit
set_option linter.unusedVariables false

/-- The statement's own array of three lists. -/
def Want (w : World) (g : Nat) (a b c : Value) : Prop := w.heap[g]? = some (.cells #[a, b, c] 25)
theorem Want.lt {w : World} {g : Nat} {a b c : Value} (h : Want w g a b c) : g < w.heap.size := (Array.getElem?_eq_some_iff.1 h).1
theorem Want.up {w w' : World} {g : Nat} {a b c : Value} {B : Nat} (h : Want w g a b c) (k : Below B w w') (hB : g < B) : Want w' g a b c := (k.block g hB).trans h
theorem Want.c0 {w : World} {g : Nat} {a b c : Value} (h : Want w g a b c) : w.cell? ⟨g, 0, none⟩ = some a := by unfold Want at h; simp [World.cell?, h]
theorem Want.c1 {w : World} {g : Nat} {a b c : Value} (h : Want w g a b c) : w.cell? ⟨g, 1, none⟩ = some b := by unfold Want at h; simp [World.cell?, h]
theorem Want.c2 {w : World} {g : Nat} {a b c : Value} (h : Want w g a b c) : w.cell? ⟨g, 2, none⟩ = some c := by unfold Want at h; simp [World.cell?, h]
theorem Want.fr {w : World} {g : Nat} {a b c : Value} (h : Want w g a b c) (i : Nat) : w.frozen? ⟨g, i, none⟩ = false := by unfold Want at h; simp [World.frozen?, h]
theorem Want.s0 {w : World} {g : Nat} {a b c : Value} (h : Want w g a b c) (u : Value) : Want (w.setCell ⟨g, 0, none⟩ u) g u b c := by
  unfold Want at h ⊢; simp only [World.setCell, Array.getElem?_modify, h, if_true, Option.map_some]; rfl
theorem Want.s1 {w : World} {g : Nat} {a b c : Value} (h : Want w g a b c) (u : Value) : Want (w.setCell ⟨g, 1, none⟩ u) g a u c := by
  unfold Want at h ⊢; simp only [World.setCell, Array.getElem?_modify, h, if_true, Option.map_some]; rfl
theorem Want.s2 {w : World} {g : Nat} {a b c : Value} (h : Want w g a b c) (u : Value) : Want (w.setCell ⟨g, 2, none⟩ u) g a b u := by
  unfold Want at h ⊢; simp only [World.setCell, Array.getElem?_modify, h, if_true, Option.map_some]; rfl
theorem Want.kept {w : World} {g : Nat} {a b c : Value} (h : Want w g a b c) (B i : Nat) (hB : B ≤ g) (u : Value) : Kept B 25 w (w.setCell ⟨g, i, none⟩ u) := by
  refine ⟨(Below.refl B w).setCell (p := ⟨g, i, none⟩) hB u, fun b' f hf ht => ?_⟩
  have hne : g ≠ b' := Typed.ne (⟨_, _, h⟩ : Typed w g 25) ht (fun e => hf e.symm)
  simp only [World.setCell, Array.getElem?_modify, if_neg hne]
theorem OLB.keptB {w w' : World} {base B : Nat} {e : TypeId} {v : Value} {vs : List (List Nd)} (h : OLB w base B v vs) (k : Kept B e w w') (h1 : 22 ≠ e) (h2 : 41 ≠ e) : OLB w' base B v vs := by
  obtain ⟨xs, hr, hl, he⟩ := h
  refine ⟨xs, ⟨hr.1, ?_⟩, hl, fun i u L hu hL => by
    obtain ⟨q, c, e1, e2, e3⟩ := he i u L hu hL
    exact ⟨q, c, e1, e2.kept k h2, e3⟩⟩
  rcases hr.2 with hn | ⟨g, cap, cur, e1, hb, hgg, rest⟩
  · exact .inl hn
  · exact .inr ⟨g, cap, cur, e1, hb, (k.typed g _ h1 ⟨cur, _, hgg⟩).trans hgg, rest⟩
theorem setCell_bel {w : World} {g i B : Nat} (hB : B ≤ g) (u : Value) : Below B w (w.setCell ⟨g, i, none⟩ u) := (Below.refl B w).setCell (p := ⟨g, i, none⟩) hB u
/-- A list that lies in a block of nodes. -/
def Far (w : World) (v : Value) (S : List Nd) : Prop := ∃ q c, v = .slice q S.length c ∧ NT w 0 q S ∧ S.length ≤ c ∧ c ≤ maxLen
theorem Far.at {w : World} {v : Value} {S : List Nd} (h : Far w v S) : At w v S := by
  obtain ⟨q, c, e, h1, h2⟩ := h; exact ⟨q, c, e, h1.1, h2⟩
theorem Far.kept {w w' : World} {B : Nat} {e : TypeId} {v : Value} {S : List Nd} (h : Far w v S) (k : Kept B e w w') (h2 : 41 ≠ e) : Far w' v S := by
  obtain ⟨q, c, e1, h1, h3⟩ := h; exact ⟨q, c, e1, h1.kept (k.mono (Nat.zero_le _)) h2, h3⟩
theorem Far.up {w w' : World} {v : Value} {S : List Nd} (h : Far w v S) (k : Below w.heap.size w w') : Far w' v S := h.kept (e := 172) (Kept.of_below k (Nat.zero_le _)) (by decide)

theorem refSet_fit (vs : List (List Nd)) (S : List Nd) (hS : setN (setL vs) = S) (p : Option Addr) (c : Nat) (w : World) (hv : LL w p vs) (hl : vs.length ≤ 1099511627776) (hval : ∀ v ∈ vs, vfault v = 0) (hfit : S.length ≤ 200) :
    Calls Tryz.prog 7 #[.slice p vs.length c] w fun e w' => (∃ v, e = .returned (.tuple #[v, .int .i64 0]) ∧ Far w' v S) ∧ Below w.heap.size w w' := by
  subst hS
  have H := refSet_full vs p c w hv hl ((ffault_zero vs).2 hval) (vals_ne hval) (vals_short hval)
  simp only [SetRetT, if_pos hfit] at H
  exact H.mono fun e w' ⟨⟨q, c', e1, e2, e3, e4⟩, hb⟩ => ⟨⟨_, e1, q, c', rfl, e2, e3, e4⟩, hb⟩
theorem refSet_over (vs : List (List Nd)) (p : Option Addr) (c : Nat) (w : World) (hv : LL w p vs) (hl : vs.length ≤ 1099511627776) (hval : ∀ v ∈ vs, vfault v = 0) (hfit : ¬ (setN (setL vs)).length ≤ 200) :
    Calls Tryz.prog 7 #[.slice p vs.length c] w fun e w' => e = .returned (.tuple #[.slice none 0 0, .int .i64 4]) ∧ Below w.heap.size w w' := by
  have H := refSet_full vs p c w hv hl ((ffault_zero vs).2 hval) (vals_ne hval) (vals_short hval)
  simp only [SetRetT, if_neg hfit] at H
  exact H

theorem chosen_meet (l m : List (List Nd)) : (l.filter fun v => inB m v == true) = meetL l m := by unfold meetL; congr 1; funext v; cases inB m v <;> rfl
theorem chosen_less (l m : List (List Nd)) : (l.filter fun v => inB m v == false) = lessL l m := by unfold lessL; congr 1; funext v; cases inB m v <;> rfl
theorem less_both (l m : List (List Nd)) : setL (lessL l m ++ m) = bothL l m := rows_same fun x => by
  rw [List.mem_append, List.mem_append, mem_less]
  by_cases hx : x ∈ m <;> simp [hx]
theorem nil_at (w : World) : At w (.slice none 0 0) [] := ⟨none, 0, rfl, .inl rfl, Nat.le_refl _, Nat.zero_le _⟩

set_option maxRecDepth 100000 in
set_option maxHeartbeats 4000000 in
theorem bmakes_bad (s t : List Nd) (v1 v2 : Value) (w : World) (hg : ErrVar w) (hs : At w v1 s) (ht : At w v2 t) (hz : sfault s t ≠ 0) :
    Calls Tryz.prog 3 #[v1, v2] w fun e w' => e = .returned (.bool true) ∧ Below w.heap.size w w' := by
  have A1 : ∀ w', Below w.heap.size w w' → Calls Tryz.prog 4 #[v1, v2] w' fun e w'' => e = .returned (.int .i64 (sfault s t)) ∧ Below w'.heap.size w' w'' := fun w' k => by
    obtain ⟨q, c, rfl, h1, h2, h3⟩ := hs
    obtain ⟨q', c', rfl, k1, k2, k3⟩ := ht
    exact setFault_any s t q q' c c' w' (h1.up k) h2 h3 (k1.up k) k2 k3
  have A2 := fun w' (k : Below w.heap.size w w') => union_no (hs.up k) (ht.up k) hz
  have A3 := fun w' (k : Below w.heap.size w w') => meet_no (hs.up k) (ht.up k) hz
  have A4 := fun w' (k : Below w.heap.size w w') => less_no (hs.up k) (ht.up k) hz
  have A5 := fun w' => same_at (nil_at w') (nil_at w')
  rw [same_self] at A5
  have z0 : (sfault s t == 0) = false := by simpa using hz
  clear hs ht hz
  generalize sfault s t = z at *
  have c1 := A1 _ (Below.refl _ _)
  go_enter Tryz.func3, Tryz.ntmps3
  go_wp2_with fail
  refine c1.mono ?_
  rintro e w1 ⟨rfl, k1⟩
  clear c1
  have e1 := alloc_bel w1 (.cells #[.slice none 0 0, .slice none 0 0, .slice none 0 0] 25)
  have hW : Want (w1.alloc (.cells #[.slice none 0 0, .slice none 0 0, .slice none 0 0] 25)) w1.heap.size (.slice none 0 0) (.slice none 0 0) (.slice none 0 0) := heap_alloc_new _ _
  have k2 := bel2 k1 e1
  have c2 := A2 _ k2
  go_wp2_with fail
  refine c2.mono ?_
  rintro e w3 ⟨rfl, k3'⟩
  have k3 := bel2 k2 k3'
  replace hW := hW.up k3' hW.lt
  clear c2 k3' k2 e1 k1 A2
  have c3 := same_errno z z w3 (ev_up hg k3)
  rw [beq_self_eq_true] at c3
  go_wp2_with fail
  refine c3.mono ?_
  rintro e w4 ⟨rfl, k4'⟩
  have k4 := bel2 k3 k4'
  replace hW := hW.up k4' hW.lt
  clear c3 k4' k3
  have x2 := hW.c2
  have c4 := A5 w4
  go_wp2_with fail
  refine c4.mono ?_
  rintro e w5 ⟨rfl, k5'⟩
  have k5 := bel2 k4 k5'
  replace hW := hW.up k5' hW.lt
  clear c4 k5' k4 x2
  have c5 := A1 _ k5
  go_wp2_with fail
  refine c5.mono ?_
  rintro e w6 ⟨rfl, k6'⟩
  have k6 := bel2 k5 k6'
  replace hW := hW.up k6' hW.lt
  clear c5 k6' k5 A1
  have c6 := A3 _ k6
  go_wp2_with fail
  refine c6.mono ?_
  rintro e w7 ⟨rfl, k7'⟩
  have k7 := bel2 k6 k7'
  replace hW := hW.up k7' hW.lt
  clear c6 k7' k6 A3
  have c7 := same_errno z z w7 (ev_up hg k7)
  rw [beq_self_eq_true] at c7
  go_wp2_with fail
  refine c7.mono ?_
  rintro e w8 ⟨rfl, k8'⟩
  have k8 := bel2 k7 k8'
  replace hW := hW.up k8' hW.lt
  clear c7 k8' k7
  have x0 := hW.c0
  have c8 := A5 w8
  go_wp2_with fail
  refine c8.mono ?_
  rintro e w9 ⟨rfl, k9'⟩
  have k9 := bel2 k8 k9'
  replace hW := hW.up k9' hW.lt
  clear c8 k9' k8 x0
  have c9 := A4 _ k9
  go_wp2_with fail
  refine c9.mono ?_
  rintro e w10 ⟨rfl, k10'⟩
  have k10 := bel2 k9 k10'
  replace hW := hW.up k10' hW.lt
  clear c9 k10' k9 A4
  have c10 := same_errno z z w10 (ev_up hg k10)
  rw [beq_self_eq_true] at c10
  go_wp2_with fail
  refine c10.mono ?_
  rintro e w11 ⟨rfl, k11'⟩
  have k11 := bel2 k10 k11'
  replace hW := hW.up k11' hW.lt
  clear c10 k11' k10
  have x1 := hW.c1
  have c11 := A5 w11
  go_wp2_with fail
  refine c11.mono ?_
  rintro e w12 ⟨rfl, k12'⟩
  have k12 := bel2 k11 k12'
  clear c11 k12' k11 x1
  go_wp2
  go_ret
  exact ⟨rfl, k12⟩
theorem OLB.ll {w : World} {base B : Nat} {q : Option Addr} {n c : Nat} {vs : List (List Nd)} (h : OLB w base B (.slice q n c) vs) : LL w q vs := by
  obtain ⟨q', c', e, h1, _⟩ := h.lists
  cases e; exact h1

set_option maxRecDepth 100000 in
set_option maxHeartbeats 8000000 in
theorem bmakes_ok (l m : List (List Nd)) (p q : Option Addr) (c d : Nat) (w : World) (hg : ErrVar w) (hs : NL w p (setN l)) (ht : NL w q (setN m)) (hc : (setN l).length ≤ c) (hd : (setN m).length ≤ d) (hcm : c ≤ maxLen) (hdm : d ≤ maxLen) (hl : IsSet l) (hm : IsSet m) :
    Calls Tryz.prog 3 #[.slice p (setN l).length c, .slice q (setN m).length d] w fun e w' => e = .returned (.bool true) ∧ Below w.heap.size w w' := by
  have A1 := fun w' (k : Below w.heap.size w w') => setFault_any (setN l) (setN m) p q c d w' (hs.up k) hc hcm (ht.up k) hd hdm
  rw [sfault_sets hl hm] at A1
  have hTs := NT.old hs rfl
  have hTt := NT.old ht rfl
  have K1 := fun w' (k : Below w.heap.size w w') => chosen_any l m true p q c d w.heap.size w' k.size (hTs.kept (e := 172) (Kept.of_below k (Nat.le_refl _)) (by decide)) hc hcm (ht.up k) hd hdm hl hm
  have K2 := fun w' (k : Below w.heap.size w w') => chosen_any l m false p q c d w.heap.size w' k.size (hTs.kept (e := 172) (Kept.of_below k (Nat.le_refl _)) (by decide)) hc hcm (ht.up k) hd hdm hl hm
  have K3 := fun w' (k : Below w.heap.size w w') => refParts_rowB m q d w.heap.size w' k.size (hTt.kept (e := 172) (Kept.of_below k (Nat.le_refl _)) (by decide)) hd hdm hm
  rw [chosen_meet] at K1
  rw [chosen_less] at K2
  have hAs := fun w' (k : Below w.heap.size w w') => At.mk (hs.up k) hc hcm
  have hAt := fun w' (k : Below w.heap.size w w') => At.mk (ht.up k) hd hdm
  have A3 := fun w' (k : Below w.heap.size w w') => meet_at (hAs w' k) (hAt w' k) hl hm
  have A4 := fun w' (k : Below w.heap.size w w') => less_at (hAs w' k) (hAt w' k) hl hm
  have I0 := isSet_meet hl m
  have I1 := isSet_less hl m
  have E0 : ∀ qa ca w', LL w' qa (meetL l m) → _ := fun qa ca w' h => refSet_fit (meetL l m) (setN (meetL l m)) (by rw [I0.row]) qa ca w' h (Nat.le_trans I0.len (by decide)) I0.vals I0.short
  have E1 : ∀ qa ca w', LL w' qa (lessL l m) → _ := fun qa ca w' h => refSet_fit (lessL l m) (setN (lessL l m)) (by rw [I1.row]) qa ca w' h (Nat.le_trans I1.len (by decide)) I1.vals I1.short
  have hvall : ∀ v ∈ lessL l m ++ m, vfault v = 0 := fun v hv => (List.mem_append.1 hv).elim (I1.vals v) (hm.vals v)
  have hlen : (lessL l m).length + m.length ≤ 400 := by have := I1.len; have := hm.len; omega
  have hlen2 : (lessL l m ++ m).length ≤ 1099511627776 := by simp; omega
  have HX : Hid ((setN (bothL l m)).length ≤ 200 → (∀ qa ca w', LL w' qa (lessL l m ++ m) → Calls Tryz.prog 7 #[.slice qa (lessL l m ++ m).length ca] w' fun e w'' => (∃ v, e = .returned (.tuple #[v, .int .i64 0]) ∧ Far w'' v (setN (bothL l m))) ∧ Below w'.heap.size w' w'') ∧ ∀ w', Below w.heap.size w w' → Calls Tryz.prog 8 #[.slice p (setN l).length c, .slice q (setN m).length d] w' fun e w'' => Made w'' (setN (bothL l m)) e ∧ Below w'.heap.size w' w'') := fun hfit =>
    ⟨fun qa ca w' h => refSet_fit (lessL l m ++ m) _ (by rw [less_both]) qa ca w' h hlen2 hvall hfit, fun w' k => union_at (hAs w' k) (hAt w' k) hl hm rfl hfit⟩
  have HY : Hid (¬ (setN (bothL l m)).length ≤ 200 → (∀ qa ca w', LL w' qa (lessL l m ++ m) → Calls Tryz.prog 7 #[.slice qa (lessL l m ++ m).length ca] w' fun e w'' => e = .returned (.tuple #[.slice none 0 0, .int .i64 4]) ∧ Below w'.heap.size w' w'') ∧ ∀ w', Below w.heap.size w w' → Calls Tryz.prog 8 #[.slice p (setN l).length c, .slice q (setN m).length d] w' fun e w'' => e = .returned (.tuple #[.slice none 0 0, .iface 23 (.int .i64 4)]) ∧ Below w'.heap.size w' w'') := fun hfit =>
    ⟨fun qa ca w' h => refSet_over (lessL l m ++ m) qa ca w' h hlen2 hvall (by rw [less_both]; exact hfit), fun w' k => union_over (hAs w' k) (hAt w' k) hl hm hfit⟩
  clear hs ht hTs hTt hAs hAt hl hm I0 I1 hvall hlen2
  generalize hAll : lessL l m ++ m = all at *
  generalize hM0 : meetL l m = M0 at *
  generalize hL0 : lessL l m = L0 at *
  generalize setN (bothL l m) = X at *
  generalize (setN l).length = nl at *
  generalize (setN m).length = nm at *
  have HALL : Hid (L0 ++ m = all) := hAll
  clear hAll hM0 hL0
  have c1 := A1 _ (Below.refl _ _)
  go_enter Tryz.func3, Tryz.ntmps3
  go_wp2_with fail
  refine c1.mono ?_
  rintro e w1 ⟨rfl, k1⟩
  clear c1
  have e1 := alloc_bel w1 (.cells #[.slice none 0 0, .slice none 0 0, .slice none 0 0] 25)
  have hW : Want (w1.alloc (.cells #[.slice none 0 0, .slice none 0 0, .slice none 0 0] 25)) w1.heap.size (.slice none 0 0) (.slice none 0 0) (.slice none 0 0) := heap_alloc_new _ _
  have hBg : w.heap.size ≤ w1.heap.size := k1.size
  have k2 := bel2 k1 e1
  have c2 := K1 _ k2
  go_wp2_with fail
  refine c2.mono ?_
  rintro e w3 ⟨⟨va, rfl, hola⟩, k3'⟩
  have k3 := bel2 k2 k3'
  replace hW := hW.up k3' hW.lt
  obtain ⟨qa, ca, rfl, _⟩ := hola.lists
  have b3 := k3'.size
  clear c2 k3' e1 k1 K1
  have c3 := K2 _ k3
  go_wp2_with fail
  refine c3.mono ?_
  rintro e w4 ⟨⟨vb, rfl, holb⟩, k4'⟩
  have k4 := bel2 k3 k4'
  have hgb : w1.heap.size < w3.heap.size := hW.lt
  have hBb : w.heap.size ≤ w3.heap.size := k3.size
  have b4 : w3.heap.size ≤ w4.heap.size := k4'.size
  replace hola := hola.below k4' k2.size b3
  replace hW := hW.up k4' hW.lt
  obtain ⟨qb, cb, rfl, _⟩ := holb.lists
  clear c3 K2
  have c4 := K3 _ k4
  go_wp2_with fail
  refine c4.mono ?_
  rintro e w5 ⟨⟨qc, cc, qn, cn, rfl, holc⟩, k5'⟩
  have k5 := bel2 k4 k5'
  have hBc : w.heap.size ≤ w4.heap.size := k4.size
  have b5 : w4.heap.size ≤ w5.heap.size := k5'.size
  replace hola := hola.below k5' k2.size (Nat.le_trans b3 b4)
  replace holb := holb.below k5' hBb b4
  replace hW := hW.up k5' hW.lt
  clear c4 K3
  have c5 := E0 qa ca w5 hola.ll
  go_wp2_with fail
  refine c5.mono ?_
  rintro e w6 ⟨⟨v6, rfl, F0⟩, k6'⟩
  obtain ⟨q6, d6, hew6, hFw6⟩ := F0
  subst hew6
  have F0 : Far w6 (.slice q6 (setN M0).length d6) (setN M0) := ⟨_, _, rfl, hFw6⟩
  clear hFw6
  have k6 := bel2 k5 k6'
  have b6 : w5.heap.size ≤ w6.heap.size := k6'.size
  replace holb := holb.below k6' hBb (Nat.le_trans b4 b5)
  replace holc := holc.below k6' hBc b5
  replace hW := hW.up k6' hW.lt
  clear c5 E0 hola k6' k5' k4'
  have x0 := hW.c0
  have f0 := hW.fr 0
  have Kp := hW.kept w.heap.size 0 hBg (.slice q6 (setN M0).length d6)
  have k6s := k6.trans (setCell_bel (w := w6) (i := 0) hBg (.slice q6 (setN M0).length d6))
  have s6 : (w6.setCell ⟨w1.heap.size, 0, none⟩ (.slice q6 (setN M0).length d6)).heap.size = w6.heap.size := by simp [World.setCell]
  have c6 := E1 qb cb (w6.setCell ⟨w1.heap.size, 0, none⟩ (.slice q6 (setN M0).length d6)) (holb.keptB Kp (by decide) (by decide)).ll
  replace holb := holb.keptB Kp (by decide) (by decide)
  replace holc := holc.keptB Kp (by decide) (by decide)
  replace F0 := F0.kept Kp (by decide)
  have hW6 := hW.s0 (.slice q6 (setN M0).length d6)
  go_wp2_with fail
  refine c6.mono ?_
  rintro e w7 ⟨⟨v7, rfl, F1⟩, k7'⟩
  obtain ⟨q7, d7, hew7, hFw7⟩ := F1
  subst hew7
  have F1 : Far w7 (.slice q7 (setN L0).length d7) (setN L0) := ⟨_, _, rfl, hFw7⟩
  clear hFw7
  have k7 := k6s.trans (k7'.mono (by rw [s6]; exact k6.size))
  have b7 : w6.heap.size ≤ w7.heap.size := by rw [← s6]; exact k7'.size
  replace holb := holb.below k7' hBb (by rw [s6]; omega)
  replace holc := holc.below k7' hBc (by rw [s6]; omega)
  replace hW := hW6.up k7' hW6.lt
  replace F0 := F0.up k7'
  clear c6 E1 k7' Kp x0 f0 hW6 k6s k6 s6
  have x1 := hW.c1
  have f1 := hW.fr 1
  have Kp := hW.kept w.heap.size 1 hBg (.slice q7 (setN L0).length d7)
  have k7s := k7.trans (setCell_bel (w := w7) (i := 1) hBg (.slice q7 (setN L0).length d7))
  have s7 : (w7.setCell ⟨w1.heap.size, 1, none⟩ (.slice q7 (setN L0).length d7)).heap.size = w7.heap.size := by simp [World.setCell]
  replace holb := holb.keptB Kp (by decide) (by decide)
  replace holc := holc.keptB Kp (by decide) (by decide)
  replace F0 := F0.kept Kp (by decide)
  replace F1 := F1.kept Kp (by decide)
  have hW7 := hW.s1 (.slice q7 (setN L0).length d7)
  clear Kp
  have HB : Hid (OLB (w7.setCell ⟨w1.heap.size, 1, none⟩ (.slice q7 (setN L0).length d7)) w3.heap.size w.heap.size (.slice qb L0.length cb) L0) := holb
  have HC : Hid (OLB (w7.setCell ⟨w1.heap.size, 1, none⟩ (.slice q7 (setN L0).length d7)) w4.heap.size w.heap.size (.slice qc m.length cc) m) := holc
  clear holb holc
  have hb7 : w3.heap.size ≤ (w7.setCell ⟨w1.heap.size, 1, none⟩ (.slice q7 (setN L0).length d7)).heap.size := by rw [s7]; omega
  by_cases hfit : X.length ≤ 200
  · obtain ⟨E2, A2⟩ := HX.out hfit
    clear HX HY hfit
    go_wp2_with (first | fail | (at_builtin; refine append_rowB _ rfl (.tmp 46) (.tmp 47) rfl w3.heap.size w.heap.size hBb (.slice qb L0.length cb) L0 rfl HB.out w4.heap.size (.slice qc m.length cc) m HC.out rfl (by omega) hb7 ?_; rw [HALL.out]; intro v8 w8 hol8 hk8; obtain ⟨q8, c8, rfl, h8, _⟩ := hol8.lists))
    refine (E2 q8 c8 w8 h8).mono ?_
    rintro e w9 ⟨⟨v9, rfl, F2⟩, k9'⟩
    obtain ⟨q9, d9, hew9, hFw9⟩ := F2
    subst hew9
    have F2 : Far w9 (.slice q9 X.length d9) X := ⟨_, _, rfl, hFw9⟩
    clear hFw9
    have k8 := k7s.trans (hk8.bel.mono hBb)
    have k9 := bel2 k8 k9'
    have hW8 := hW7.up hk8.bel hgb
    replace F0 := (F0.kept hk8 (by decide)).up k9'
    replace F1 := (F1.kept hk8 (by decide)).up k9'
    have hW9 := hW8.up k9' hW8.lt
    clear hW hW7 hW8 E2 hk8 hol8 h8 HB HC k9' k8 k7s x1 f1
    have x2 := hW9.c2
    have f2 := hW9.fr 2
    have Kp := hW9.kept w.heap.size 2 hBg (.slice q9 X.length d9)
    have k10 := k9.trans (setCell_bel (w := w9) (i := 2) hBg (.slice q9 X.length d9))
    replace F0 := F0.kept Kp (by decide)
    replace F1 := F1.kept Kp (by decide)
    replace F2 := F2.kept Kp (by decide)
    have hW := hW9.s2 (.slice q9 X.length d9)
    clear Kp
    have c8' := A2 _ k10
    go_wp2_with fail
    refine c8'.mono ?_
    rintro e w11 ⟨⟨vu, rfl, hu⟩, k11'⟩
    have k11 := bel2 k10 k11'
    replace hW := hW.up k11' hW.lt; replace F0 := F0.up k11'; replace F1 := F1.up k11'; replace F2 := F2.up k11'
    clear c8' k11' k10 A2 x2 f2 hW9 k9
    have c9 := same_nil 0 w11
    go_wp2_with fail
    refine c9.mono ?_
    rintro e w11' ⟨rfl, rfl⟩
    clear c9
    have x2 := hW.c2
    have c10 := same_at hu F2.at
    rw [same_self] at c10
    go_wp2_with fail
    refine c10.mono ?_
    rintro e w12 ⟨rfl, k12'⟩
    have k12 := bel2 k11 k12'
    replace hW := hW.up k12' hW.lt; replace F0 := F0.up k12'; replace F1 := F1.up k12'
    clear c10 k12' k11 x2 hu F2
    have c11 := A1 _ k12
    go_wp2_with fail
    refine c11.mono ?_
    rintro e w13 ⟨rfl, k13'⟩
    have k13 := bel2 k12 k13'
    replace hW := hW.up k13' hW.lt; replace F0 := F0.up k13'; replace F1 := F1.up k13'
    clear c11 k13' k12 A1
    have c12 := A3 _ k13
    go_wp2_with fail
    refine c12.mono ?_
    rintro e w14 ⟨⟨vm, rfl, hm'⟩, k14'⟩
    have k14 := bel2 k13 k14'
    replace hW := hW.up k14' hW.lt; replace F0 := F0.up k14'; replace F1 := F1.up k14'
    clear c12 k14' k13 A3
    have c13 := same_nil 0 w14
    go_wp2_with fail
    refine c13.mono ?_
    rintro e w14' ⟨rfl, rfl⟩
    clear c13
    have x0 := hW.c0
    have c14 := same_at hm' F0.at
    rw [same_self] at c14
    go_wp2_with fail
    refine c14.mono ?_
    rintro e w15 ⟨rfl, k15'⟩
    have k15 := bel2 k14 k15'
    replace hW := hW.up k15' hW.lt; replace F1 := F1.up k15'
    clear c14 k15' k14 x0 hm' F0
    have c15 := A4 _ k15
    go_wp2_with fail
    refine c15.mono ?_
    rintro e w16 ⟨⟨vl, rfl, hl'⟩, k16'⟩
    have k16 := bel2 k15 k16'
    replace hW := hW.up k16' hW.lt; replace F1 := F1.up k16'
    clear c15 k16' k15 A4
    have c16 := same_nil 0 w16
    go_wp2_with fail
    refine c16.mono ?_
    rintro e w16' ⟨rfl, rfl⟩
    clear c16
    have x1 := hW.c1
    have c17 := same_at hl' F1.at
    rw [same_self] at c17
    go_wp2_with fail
    refine c17.mono ?_
    rintro e w17 ⟨rfl, k17'⟩
    have k17 := bel2 k16 k17'
    clear c17 k17' k16 x1 hl' F1
    go_wp2
    go_ret
    exact ⟨rfl, k17⟩
  · obtain ⟨E2, A2⟩ := HY.out hfit
    clear HX HY hfit
    go_wp2_with (first | fail | (at_builtin; refine append_rowB _ rfl (.tmp 46) (.tmp 47) rfl w3.heap.size w.heap.size hBb (.slice qb L0.length cb) L0 rfl HB.out w4.heap.size (.slice qc m.length cc) m HC.out rfl (by omega) hb7 ?_; rw [HALL.out]; intro v8 w8 hol8 hk8; obtain ⟨q8, c8, rfl, h8, _⟩ := hol8.lists))
    refine (E2 q8 c8 w8 h8).mono ?_
    rintro e w9 ⟨rfl, k9'⟩
    have k8 := k7s.trans (hk8.bel.mono hBb)
    have k9 := bel2 k8 k9'
    have hW8 := hW7.up hk8.bel hgb
    replace F0 := (F0.kept hk8 (by decide)).up k9'
    replace F1 := (F1.kept hk8 (by decide)).up k9'
    have hW9 := hW8.up k9' hW8.lt
    clear hW hW7 hW8 E2 hk8 hol8 h8 HB HC k9' k8 k7s x1 f1
    have x2 := hW9.c2
    have f2 := hW9.fr 2
    have Kp := hW9.kept w.heap.size 2 hBg (.slice none 0 0)
    have k10 := k9.trans (setCell_bel (w := w9) (i := 2) hBg (.slice none 0 0))
    replace F0 := F0.kept Kp (by decide)
    replace F1 := F1.kept Kp (by decide)
    have hW := hW9.s2 (.slice none 0 0)
    clear Kp
    have c8' := A2 _ k10
    go_wp2_with fail
    refine c8'.mono ?_
    rintro e w11 ⟨rfl, k11'⟩
    have k11 := bel2 k10 k11'
    replace hW := hW.up k11' hW.lt; replace F0 := F0.up k11'; replace F1 := F1.up k11'
    clear c8' k11' k10 A2 x2 f2 hW9 k9
    have c9 := same_errno 4 4 w11 (ev_up hg k11)
    go_wp2_with fail
    refine c9.mono ?_
    rintro e w12 ⟨rfl, k12'⟩
    have k12 := bel2 k11 k12'
    replace hW := hW.up k12' hW.lt; replace F0 := F0.up k12'; replace F1 := F1.up k12'
    clear c9 k12' k11
    have x2 := hW.c2
    have c10 := same_at (nil_at w12) (nil_at w12)
    rw [same_self] at c10
    go_wp2_with fail
    refine c10.mono ?_
    rintro e w12b ⟨rfl, k12b'⟩
    have k12b := bel2 k12 k12b'
    replace hW := hW.up k12b' hW.lt; replace F0 := F0.up k12b'; replace F1 := F1.up k12b'
    clear c10 k12b' k12 x2
    have k12 := k12b
    clear k12b
    have c11 := A1 _ k12
    go_wp2_with fail
    refine c11.mono ?_
    rintro e w13 ⟨rfl, k13'⟩
    have k13 := bel2 k12 k13'
    replace hW := hW.up k13' hW.lt; replace F0 := F0.up k13'; replace F1 := F1.up k13'
    clear c11 k13' k12 A1
    have c12 := A3 _ k13
    go_wp2_with fail
    refine c12.mono ?_
    rintro e w14 ⟨⟨vm, rfl, hm'⟩, k14'⟩
    have k14 := bel2 k13 k14'
    replace hW := hW.up k14' hW.lt; replace F0 := F0.up k14'; replace F1 := F1.up k14'
    clear c12 k14' k13 A3
    have c13 := same_nil 0 w14
    go_wp2_with fail
    refine c13.mono ?_
    rintro e w14' ⟨rfl, rfl⟩
    clear c13
    have x0 := hW.c0
    have c14 := same_at hm' F0.at
    rw [same_self] at c14
    go_wp2_with fail
    refine c14.mono ?_
    rintro e w15 ⟨rfl, k15'⟩
    have k15 := bel2 k14 k15'
    replace hW := hW.up k15' hW.lt; replace F1 := F1.up k15'
    clear c14 k15' k14 x0 hm' F0
    have c15 := A4 _ k15
    go_wp2_with fail
    refine c15.mono ?_
    rintro e w16 ⟨⟨vl, rfl, hl'⟩, k16'⟩
    have k16 := bel2 k15 k16'
    replace hW := hW.up k16' hW.lt; replace F1 := F1.up k16'
    clear c15 k16' k15 A4
    have c16 := same_nil 0 w16
    go_wp2_with fail
    refine c16.mono ?_
    rintro e w16' ⟨rfl, rfl⟩
    clear c16
    have x1 := hW.c1
    have c17 := same_at hl' F1.at
    rw [same_self] at c17
    go_wp2_with fail
    refine c17.mono ?_
    rintro e w17 ⟨rfl, k17'⟩
    have k17 := bel2 k16 k17'
    clear c17 k17' k16 x1 hl' F1
    go_wp2
    go_ret
    exact ⟨rfl, k17⟩

theorem bmakes_walk (s t : List Nd) (p q : Option Addr) (c d : Nat) (w : World) (hg : ErrVar w) (hs : NL w p s) (ht : NL w q t) (hc : s.length ≤ c) (hd : t.length ≤ d) (hcm : c ≤ maxLen) (hdm : d ≤ maxLen) :
    Calls Tryz.prog 3 #[.slice p s.length c, .slice q t.length d] w fun e w' => e = .returned (.bool true) ∧ Below w.heap.size w w' := by
  by_cases hz : sfault s t = 0
  · obtain ⟨l, m, hl, hm, rfl, rfl⟩ := sfault_zero hz
    exact bmakes_ok l m p q c d w hg hs ht hc hd hcm hdm hl hm
  · exact bmakes_bad s t _ _ w hg (At.mk hs hc hcm) (At.mk ht hd hdm) hz
end Go.Proofs.YtncmjcjnldhhhaaGreatDoor
