/- Package phrase's Print: what is told of every list of nodes, given what slices.Insert does. -/
import Derived.Test.YtdoeinjilnhijaaGreatDoorG14
import Derived.Test.YtdoeinjilnhijaaGreatDoorG19
namespace Go.Proofs.YtdoeinjilnhijaaGreatDoor
open Go.RowKit Go.Shelf
set_option linter.unusedVariables false
set_option maxRecDepth 100000

/-- All of Print: the words, or the error's number. -/
def printL (e : List Nd) : Except Int (List Tk) := if xfault e = 0 then (if 300 < (wrd e).length then .error 4 else .ok (wrd e)) else .error (xfault e)
def PrintE (R : Except Int (List Tk)) (en : Ending) (w' : World) : Prop :=
  match R with
  | .ok ts => ∃ q cc, en = .returned (.tuple #[.slice q ts.length cc, .nilIface]) ∧ TKL w' q ts ∧ ts.length ≤ cc ∧ cc ≤ maxLen
  | .error n => en = .returned (.tuple #[.slice none 0 0, .iface 33 (.int .i64 n)])
set_option maxHeartbeats 600000 in
theorem print_bad (e : List Nd) (p : Option Addr) (c : Nat) (w : World) (h : NL w p e) (hl : e.length ≤ maxLen) (hx : xfault e ≠ 0) :
    Calls Tryz.prog 6 #[.slice p e.length c] w fun en w' => PrintE (.error (xfault e)) en w' ∧ Below w.heap.size w w' := by
  have HC := tcheck_any e p c w h hl
  rw [eV_not hx] at HC
  generalize xfault e = n at *
  go_enter Tryz.func6, Tryz.ntmps6
  go_wp2_with fail
  refine HC.mono ?_
  rintro en w1 ⟨rfl, hb1⟩
  go_wp2
  go_ret2
  exact ⟨rfl, hb1⟩
set_option maxHeartbeats 600000 in
theorem print_good (hins : InsOk) (e : List Nd) (p : Option Addr) (c : Nat) (w : World) (h : NL w p e) (hl : e.length ≤ maxLen) (hx : xfault e = 0) (ht : Tab w) (hN : ∀ x ∈ e, n64 x) :
    Calls Tryz.prog 6 #[.slice p e.length c] w fun en w' => PrintE (if 300 < (wrd e).length then .error 4 else .ok (wrd e)) en w' ∧ Below w.heap.size w w' := by
  have HC := tcheck_any e p c w h hl
  rw [eV_nil hx] at HC
  obtain ⟨hl2, hpast⟩ := xfault_zero hx
  have hne : e ≠ [] := past_ne hpast
  have hgl : 1 < w.heap.size := by
    unfold Tab Lib.TabIs World.var? at ht
    simp only [Tryz.gPow, Option.bind_some] at ht
    rcases Nat.lt_or_ge 1 w.heap.size with h' | h'
    · exact h'
    · rw [Array.getElem?_eq_none h'] at ht; cases ht
  have HWd : Hid (wdE (e.length + 1) e = wrd e) := rfl
  generalize wrd e = ts at *
  by_cases h3 : 300 < ts.length
  · rw [if_pos h3]
    go_enter Tryz.func6, Tryz.ntmps6
    go_wp2_with fail
    refine HC.mono ?_
    rintro en w1 ⟨rfl, hb1⟩
    have hs1 := hb1.size
    have hW : WS (w1.alloc (.cells #[.slice p e.length c, .int .i64 ((0 : Nat) : Int), .slice none 0 0] 44)) w1.heap.size p c e 0 (.slice none 0 0) [] :=
      ⟨heap_alloc_new _ _, OT.nil _ _, (h.up hb1).up ((Below.refl _ _).alloc (Nat.le_refl _) _), fun a ha => by
        rcases h with h0 | ⟨b, o, h0, h1, _⟩
        · exact absurd h0 hne
        · rw [h0] at ha; cases ha; show b < _; omega, Nat.zero_le _, hl2, (ht.keep (hb1.block _ hgl)).keep (((Below.refl w1.heap.size w1).alloc (Nat.le_refl _) _).block _ (by omega)), by omega⟩
    have HP := part_ok (all_bare hins hN (e.length + 1)) _ 0 _ [] [] 0 hW (by rw [List.drop_zero]; exact hpast) (by simp; omega)
    rw [part0, List.drop_zero] at HP
    rw [HWd.out, List.nil_append] at HP
    have hb2 : Below w1.heap.size w1 (w1.alloc (.cells #[.slice p e.length c, .int .i64 ((0 : Nat) : Int), .slice none 0 0] 44)) := (Below.refl _ _).alloc (Nat.le_refl _) _
    go_wp2_with fail
    refine HP.mono ?_
    rintro en w2 ⟨rfl, ⟨⟨v2, h2⟩, k2⟩, l0, l1⟩
    obtain ⟨q2, cc, rfl, hk2, hc1, hc2, _⟩ := h2.own.slice
    have c2 := h2.c2
    have hb3 : Below w.heap.size w w2 := hb1.trans ((hb2.trans k2.bel).mono hs1)
    have hl3 : ts.length ≤ 10000 := by have := l1.1; simp at this; omega
    have i3 : (300 : Int) < (ts.length : Int) := by omega
    go_wp2
    go_ret2
    exact ⟨rfl, hb3⟩
  · rw [if_neg h3]
    go_enter Tryz.func6, Tryz.ntmps6
    go_wp2_with fail
    refine HC.mono ?_
    rintro en w1 ⟨rfl, hb1⟩
    have hs1 := hb1.size
    have hW : WS (w1.alloc (.cells #[.slice p e.length c, .int .i64 ((0 : Nat) : Int), .slice none 0 0] 44)) w1.heap.size p c e 0 (.slice none 0 0) [] :=
      ⟨heap_alloc_new _ _, OT.nil _ _, (h.up hb1).up ((Below.refl _ _).alloc (Nat.le_refl _) _), fun a ha => by
        rcases h with h0 | ⟨b, o, h0, h1, _⟩
        · exact absurd h0 hne
        · rw [h0] at ha; cases ha; show b < _; omega, Nat.zero_le _, hl2, (ht.keep (hb1.block _ hgl)).keep (((Below.refl w1.heap.size w1).alloc (Nat.le_refl _) _).block _ (by omega)), by omega⟩
    have HP := part_ok (all_bare hins hN (e.length + 1)) _ 0 _ [] [] 0 hW (by rw [List.drop_zero]; exact hpast) (by simp; omega)
    rw [part0, List.drop_zero] at HP
    rw [HWd.out, List.nil_append] at HP
    have hb2 : Below w1.heap.size w1 (w1.alloc (.cells #[.slice p e.length c, .int .i64 ((0 : Nat) : Int), .slice none 0 0] 44)) := (Below.refl _ _).alloc (Nat.le_refl _) _
    go_wp2_with fail
    refine HP.mono ?_
    rintro en w2 ⟨rfl, ⟨⟨v2, h2⟩, k2⟩, l0, l1⟩
    obtain ⟨q2, cc, rfl, hk2, hc1, hc2, _⟩ := h2.own.slice
    have c2 := h2.c2
    have hb3 : Below w.heap.size w w2 := hb1.trans ((hb2.trans k2.bel).mono hs1)
    have hl3 : ts.length ≤ 10000 := by have := l1.1; simp at this; omega
    have i3 : ¬ (300 : Int) < (ts.length : Int) := by omega
    go_wp2
    go_ret2
    exact ⟨⟨q2, cc, rfl, hk2, hc1, hc2⟩, hb3⟩
theorem print_any (hins : InsOk) (e : List Nd) (p : Option Addr) (c : Nat) (w : World) (h : NL w p e) (hl : e.length ≤ maxLen) (ht : Tab w) (hN : ∀ x ∈ e, n64 x) :
    Calls Tryz.prog 6 #[.slice p e.length c] w fun en w' => PrintE (printL e) en w' ∧ Below w.heap.size w w' := by
  unfold printL
  by_cases hx : xfault e = 0
  · rw [if_pos hx]; exact print_good hins e p c w h hl hx ht hN
  · rw [if_neg hx]; exact print_bad e p c w h hl hx
end Go.Proofs.YtdoeinjilnhijaaGreatDoor
