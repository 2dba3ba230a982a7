/- slices.Grow and slices.Concat at lists of nodes: two rows, one behind the other. -/
import Derived.Test.YtncmjcjnldhhhaaDoorShelfGrow
import Derived.Test.YtncmjcjnldhhhaaDoorOwnL
import Derived.Laws.AppendOwnNone
namespace Go.Proofs.YtncmjcjnldhhhaaDoor
open Go.RowKit Go.Shelf
set_option linter.unusedVariables false

theorem grow_any (n : Nat) (w : World) (hn : n ≤ 1099511627776) :
    Calls Tryd.prog 47 #[.slice none 0 0, .int .i64 n] w fun e w' => (∃ v, e = .returned v ∧ OL w' w.heap.size v []) ∧ Below w.heap.size w w' := by
  by_cases h0 : n = 0
  · subst h0
    refine (Any8.slices_Grow_room Tryd.growL none 0 0 0 w (Nat.le_refl _) (by decide) (by decide) (Nat.le_refl _)).mono ?_
    rintro e w' ⟨rfl, rfl⟩
    exact ⟨⟨_, rfl, OL.nil _ _⟩, Below.refl _ _⟩
  · obtain ⟨i0, hi, hz0, hz1, hz2⟩ := info_parts Tryd.infoList
    refine (Any8.slices_Grow_grow Tryd.growL i0 (.slice none 0 0) hi hz0 (by omega) none 0 0 n [] w (Nat.le_refl _) (by omega) (by rw [hz2]; omega) (by omega) (by simp) (fun _ => rfl) (fun a h => by cases h)).mono ?_
    rintro e w' ⟨rfl, rfl⟩
    refine ⟨⟨_, rfl, [], ?_, rfl, fun i u L h => by simp at h⟩, ?_⟩
    · have hge := grownCap_ge w (0 + n) 0 (Tryd.growL_ren.t 25)
      rw [Nat.zero_add] at hge
      refine ⟨rfl, .inr ⟨w.heap.size, _, _, rfl, Nat.le_refl _, heap_alloc_new _ _, Nat.zero_le _, ?_, ?_, ?_⟩⟩
      · exact grownCap_le_maxLen w (0 + n) 0 _ (by unfold maxLen; omega)
      · simp only [Array.size_append, List.size_toArray, size_zeroCells, Value.cells, List.length_nil]
        simp
        omega
      · simp
    · exact ((Below.refl _ w).drew).alloc (Nat.le_refl _) _

theorem LL.values {w : World} {p : Option Addr} : ∀ {vs : List (List Nd)} (n : Nat), n ≤ vs.length → LL w p vs → ∃ xs : List Value, xs.length = n ∧ ∀ (i : Nat) u L, xs[i]? = some u → vs[i]? = some L → ∃ q c, u = .slice q L.length c ∧ NL w q L ∧ L.length ≤ c ∧ c ≤ maxLen ∧ ∀ b off, p = some ⟨b, off, none⟩ → w.cell? ⟨b, off + i, none⟩ = some u := by
  intro vs n
  induction n with
  | zero => intro _ _; exact ⟨[], rfl, fun i u L h => by simp at h⟩
  | succ n ih =>
    intro hn h
    obtain ⟨xs, hl, hx⟩ := ih (by omega) h
    obtain ⟨b, off, q, c, hp, _, hc, hnl, h1, h2⟩ := h.at (i := n) (by omega)
    refine ⟨xs ++ [.slice q vs[n].length c], by simp [hl], fun i u L hu hL => ?_⟩
    by_cases hi : i < xs.length
    · rw [List.getElem?_append_left hi] at hu
      exact hx i u L hu hL
    · have hi2 : i = n := by
        have := (List.getElem?_eq_some_iff.1 hu).1
        simp at this; omega
      subst hi2
      rw [List.getElem?_append_right (by omega), hl] at hu
      simp at hu
      subst hu
      rw [List.getElem?_eq_getElem (by omega)] at hL
      simp at hL
      subst hL
      exact ⟨q, c, rfl, hnl, h1, h2, fun b' off' hp' => by rw [hp] at hp'; cases hp'; exact hc⟩

/-- A row of lists appended to one of the call's own. -/
theorem append_lists (w : World) {ops : Array Oper} {rest : List Oper} {o : Oper} {a : Act} {Q : Exit → Act → World → Prop} (hgd : o.guard = none) (s x : Operand)
    (ho : o.op = .call { callee := .builtin .append, args := #[s, x], argTypes := #[31, 31] })
    (base : Nat) (v : Value) (vs : List (List Nd)) (hs : a.eval s = v) (hown : OL w base v vs) (M : List (List Nd)) (w0 : World) (q : Option Addr) (c : Nat) (h0 : LL w0 q M) (hb0 : base = w0.heap.size) (hk : Below w0.heap.size w0 w) (hq : q = none → c = 0)
    (hx : a.eval x = .slice q M.length c) (hlen : vs.length + M.length ≤ 1099511627776)
    (h : ∀ v' w', OL w' base v' (vs ++ M) → Kept base 22 w w' → wpList Tryd.prog ops Q rest (a.put o.dst v') w') : wpList Tryd.prog ops Q (o :: rest) a w := by
  obtain ⟨xs, hr, hl, he⟩ := hown
  obtain ⟨i0, hi, hz0, hz1, hz2⟩ := info_parts Tryd.infoList
  have hbase : base ≤ w.heap.size := by rw [hb0]; exact hk.size
  cases q with
  | none =>
    have hM : M = [] := by
      rcases h0 with h0 | ⟨b, off, h1, _⟩
      · exact h0
      · cases h1
    subst hM
    have hc0 := hq rfl
    subst hc0
    refine wpList_append_own_none hgd s x 31 ho base 22 i0 1 Tryd.underlying31 hi v xs.length xs hs hr hx ?_
    exact h v w (by rw [List.append_nil]; exact ⟨xs, hr, hl, he⟩) (Kept.refl _ _ _)
  | some ad =>
    obtain ⟨ys, hyl, hy⟩ := h0.values M.length (Nat.le_refl _)
    have hcell : ∀ (j : Nat) u, ys[j]? = some u → w.cell? (ad.add j) = some u := fun j u hu => by
      have hj : j < M.length := by rw [← hyl]; exact (List.getElem?_eq_some_iff.1 hu).1
      obtain ⟨q', c', _, _, _, _, hc⟩ := hy j u M[j] hu (List.getElem?_eq_getElem hj)
      rcases h0 with h0 | ⟨b, off, h1, h2, _⟩
      · rw [h0] at hj; simp at hj
      · cases h1
        have hadd : (⟨b, off, none⟩ : Addr).add j = ⟨b, off + j, none⟩ := by unfold Addr.add; split <;> simp_all
        rw [hadd]
        exact (hk.cell (p := ⟨b, off + j, none⟩) h2).trans (hc b off rfl)
    have hone : ∀ u ∈ ys, u.oneCell' = true := fun u hu => by
      obtain ⟨j, hj, rfl⟩ := List.mem_iff_getElem.1 hu
      obtain ⟨q', c', e, _⟩ := hy j ys[j] M[j] (List.getElem?_eq_getElem hj) (List.getElem?_eq_getElem (by omega))
      rw [e]; rfl
    refine wpList_append_own w hgd s x 31 ho base 22 i0 (.slice none 0 0) 1 24 Tryd.underlying31 hi hz0 hz1 hz2 rfl (by decide) v xs.length xs hs hr ad M.length c ys hx (by omega) hcell hone (by unfold maxLen; omega) (by omega) hbase ?_
    intro v' w' h1 h2 _
    have hkept : Kept base 22 w w' := ⟨(Below.refl base w).grown h2 hbase (fun k hk => (hr.typed k hk).1), fun bb f hf hty => h2.block bb hty.lt (fun e => (hr.typed bb e.symm).2.ne hty (fun hh => hf hh.symm) rfl)⟩
    refine h v' w' ⟨xs ++ ys, by unfold Row1; rw [List.length_append, hyl]; exact h1, by simp [hl, hyl], fun i u L hu hL => ?_⟩ hkept
    by_cases hi : i < xs.length
    · rw [List.getElem?_append_left hi] at hu
      rw [List.getElem?_append_left (by omega)] at hL
      obtain ⟨q', c', e1, e2, e3⟩ := he i u L hu hL
      exact ⟨q', c', e1, e2.kept hkept (by decide), e3⟩
    · rw [List.getElem?_append_right (by omega)] at hu
      rw [List.getElem?_append_right (by omega), ← hl] at hL
      obtain ⟨q', c', e1, e2, e3, e4, _⟩ := hy _ u L hu hL
      have hNT : NT w base q' L := (NT.old e2 hb0).kept (e := 172) ⟨by rw [hb0]; exact hk, fun b f _ ht => hk.block b ht.lt⟩ (by decide)
      exact ⟨q', c', e1, hNT.kept hkept (by decide), e3, e4⟩

/-- The first k of two. -/
def two (l m : List (List Nd)) (k : Nat) : List (List Nd) := (if 0 < k then l else []) ++ (if 1 < k then m else [])

set_option maxHeartbeats 1000000 in
theorem concat_any (l m : List (List Nd)) (g : Nat) (q1 q2 : Option Addr) (c1 c2 : Nat) (w : World) (hg : g < w.heap.size) (x0 : w.cell? ⟨g, 0, none⟩ = some (.slice q1 l.length c1)) (x1 : w.cell? ⟨g, 1, none⟩ = some (.slice q2 m.length c2))
    (h1 : LL w q1 l) (h2 : LL w q2 m) (z1 : q1 = none → c1 = 0) (z2 : q2 = none → c2 = 0) (ll : l.length ≤ 4294967296) (lm : m.length ≤ 4294967296) :
    Calls Tryd.prog 29 #[.slice (some ⟨g, 0, none⟩) 2 2] w fun e w' => (∃ q c, e = .returned (.slice q (l ++ m).length c) ∧ LL w' q (l ++ m) ∧ (l ++ m).length ≤ c ∧ c ≤ maxLen) ∧ Below w.heap.size w w' := by
  have H1 : Hid (LL w q1 l) := h1
  have H2 : Hid (LL w q2 m) := h2
  have Z1 : Hid (q1 = none → c1 = 0) := z1
  have Z2 : Hid (q2 = none → c2 = 0) := z2
  clear h1 h2 z1 z2
  go_enter Tryd.func29, Tryd.ntmps29
  go_wp2
  go_loopw [3, 11] (fun sz i wr => ∃ k : Nat, k ≤ 2 ∧ i = .int .i64 k ∧ sz = .int .i64 ((two l m k).length : Nat) ∧ Below w.heap.size w wr) (fun _ i _ => 2 - (intOf i).toNat)
  case atStart => exact ⟨0, by omega, rfl, rfl, Below.refl _ _⟩
  case round =>
    obtain ⟨k, hk, rfl, rfl, hb⟩ := hrel
    have y0 := (hb.cell (p := ⟨g, 0, none⟩) hg).trans x0
    have y1 := (hb.cell (p := ⟨g, 1, none⟩) hg).trans x1
    rcases k with _ | _ | k
    · rw [show (two l m 0).length = 0 from rfl]
      go_wp2
      go_roundw
      case rel => exact ⟨1, by omega, rfl, by simp [two], hb⟩
      case measure => simp [intOf]
    · rw [show (two l m (0 + 1)).length = l.length by simp [two]]
      go_wp2
      go_roundw
      case rel => exact ⟨2, by omega, rfl, by simp [two], hb⟩
      case measure => simp [intOf]
    · obtain rfl : k = 0 := by omega
      rw [show (two l m (0 + 1 + 1)).length = l.length + m.length by simp [two]]
      have HG := grow_any (l.length + m.length) wr (by omega)
      obtain ⟨wg, rfl⟩ : ∃ wg, wr = wg := ⟨_, rfl⟩
      have L1 : Hid (LL wr q1 l) := H1.out.up hb
      have L2 : Hid (LL wr q2 m) := H2.out.up hb
      obtain ⟨wg, hwg⟩ : ∃ wg, wg = wr := ⟨_, rfl⟩
      rw [← hwg] at HG L1 L2 hb y0 y1 ⊢
      clear hwg H1 H2
      have hgg : g < wg.heap.size := Nat.lt_of_lt_of_le hg hb.size
      go_wp2_with fail
      refine HG.mono ?_
      rintro e w1 ⟨⟨v, rfl, hol⟩, hb1⟩
      clear HG
      go_wp2
      go_loopw [6, 27] (fun ov i wr => ∃ k : Nat, k ≤ 2 ∧ i = .int .i64 k ∧ OL wr wg.heap.size ov (two l m k) ∧ Below wg.heap.size wg wr) (fun _ i _ => 2 - (intOf i).toNat)
      case atStart => exact ⟨0, by omega, rfl, hol, hb1⟩
      case round =>
        obtain ⟨k, hk, rfl, hol2, hb2⟩ := hrel
        have y0 := (hb2.cell (p := ⟨g, 0, none⟩) hgg).trans y0
        have y1 := (hb2.cell (p := ⟨g, 1, none⟩) hgg).trans y1
        have HO : Hid (OL wr wg.heap.size u6 (two l m k)) := hol2
        have HB : Hid (Below wg.heap.size wg wr) := hb2
        clear hol2 hb2 hol hb1
        rcases k with _ | _ | k
        · go_wp2_with (at_builtin; refine append_lists wr rfl (.tmp 31) (.tmp 32) rfl wg.heap.size u6 (two l m 0) rfl HO.out l wg q1 c1 L1.out rfl HB.out Z1.out rfl (by simp [two]; omega) ?_; intro v' w2 hol3 hk3)
          go_roundw
          case rel => exact ⟨1, by omega, rfl, by simpa [two] using hol3, HB.out.trans hk3.bel⟩
          case measure => simp [intOf]
        · go_wp2_with (at_builtin; refine append_lists wr rfl (.tmp 31) (.tmp 32) rfl wg.heap.size u6 (two l m (0 + 1)) rfl HO.out m wg q2 c2 L2.out rfl HB.out Z2.out rfl (by simp [two]; omega) ?_; intro v' w2 hol3 hk3)
          go_roundw
          case rel => exact ⟨2, by omega, rfl, by simpa [two] using hol3, HB.out.trans hk3.bel⟩
          case measure => simp [intOf]
        · obtain rfl : k = 0 := by omega
          have hol3 : OL wr wg.heap.size u6 (l ++ m) := by simpa [two] using HO.out
          obtain ⟨pq, pc, rfl, hpl, hpc, hpm⟩ := hol3.lists
          clear HO hol3
          go_wp2
          go_ret
          exact ⟨⟨pq, pc, rfl, hpl, hpc, hpm⟩, hb.trans (HB.out.mono hb.size)⟩
end Go.Proofs.YtncmjcjnldhhhaaDoor
