/- EntOrder: the walk of the statement's own function. -/
import Derived.Test.YtkpbholhempmmaaEntFact
namespace Go.Proofs.Ytkpbholhempmmaa
open Go.RowKit Go.Maps Go.WideMaps
set_option linter.unusedVariables false
set_option linter.unusedSimpArgs false

theorem bE {W w1 w2 : World} (h : Below W.heap.size W w1) (k : Below w1.heap.size w1 w2) : Below W.heap.size W w2 := h.trans (k.mono h.size)
/-- The cells of three boxes. -/
structure Box3 (w : World) (n : Nat) (a b c : Ui) : Prop where
  a0 : w.cell? ⟨n, 0, none⟩ = some (.string a.t)
  a1 : w.cell? ⟨n, 1, none⟩ = some (.string a.i)
  b0 : w.cell? ⟨n + 1, 0, none⟩ = some (.string b.t)
  b1 : w.cell? ⟨n + 1, 1, none⟩ = some (.string b.i)
  c0 : w.cell? ⟨n + 1 + 1, 0, none⟩ = some (.string c.t)
  c1 : w.cell? ⟨n + 1 + 1, 1, none⟩ = some (.string c.i)
  lt : n + 1 + 1 < w.heap.size
theorem Box3.up {w w' : World} {n : Nat} {a b c : Ui} (h : Box3 w n a b c) (k : Below w.heap.size w w') : Box3 w' n a b c := by
  have hl := h.lt
  have q : ∀ m o, m < w.heap.size → w'.cell? ⟨m, o, none⟩ = w.cell? ⟨m, o, none⟩ := fun m o hm => k.cell (p := ⟨m, o, none⟩) hm
  exact ⟨(q _ _ (by omega)).trans h.a0, (q _ _ (by omega)).trans h.a1, (q _ _ (by omega)).trans h.b0, (q _ _ (by omega)).trans h.b1, (q _ _ (by omega)).trans h.c0, (q _ _ (by omega)).trans h.c1, Nat.lt_of_lt_of_le hl k.size⟩
theorem Box3.made (w : World) (a b c : Ui) (t : TypeId) : Box3 (((w.alloc (.cells #[.string a.t, .string a.i] t)).alloc (.cells #[.string b.t, .string b.i] t)).alloc (.cells #[.string c.t, .string c.i] t)) w.heap.size a b c := by
  refine ⟨?_, ?_, ?_, ?_, ?_, ?_, by simp⟩
  · rw [cell_old (by simp; omega), cell_old (by simp), cell_new rfl]; rfl
  · rw [cell_old (by simp; omega), cell_old (by simp), cell_new rfl]; rfl
  · rw [cell_old (by simp), cell_new (by simp)]; rfl
  · rw [cell_old (by simp), cell_new (by simp)]; rfl
  · rw [cell_new (by simp)]; rfl
  · rw [cell_new (by simp)]; rfl

set_option maxRecDepth 100000 in
set_option maxHeartbeats 4000000 in
theorem eorder_walk (es : List En) (p : Option Addr) (cp : Nat) (a b c : Ui) (w : World) (hl : EL w p es) (ha : UOk a) (hb : UOk b) (hc : UOk c) :
    Calls Try.prog 3 #[.slice p es.length cp, .agg #[.string a.t, .string a.i], .agg #[.string b.t, .string b.i], .agg #[.string c.t, .string c.i]] w fun e w' => e = .returned (.bool true) ∧ Below w.heap.size w w' := by
  have hbx : Below w.heap.size w (((w.alloc (.cells #[.string a.t, .string a.i] 24)).alloc (.cells #[.string b.t, .string b.i] 24)).alloc (.cells #[.string c.t, .string c.i] 24)) :=
    (((Below.refl _ _).alloc (Nat.le_refl _) _).alloc (by simp) _).alloc (by simp; omega) _
  have HB : Hid (Below w.heap.size w _) := hbx
  have HX : Hid (Box3 _ _ _ _ _) := Box3.made w a b c 24
  have HL : Hid (EL w p es) := hl
  clear hbx hl
  go_enter Try.func3, Try.ntmps3
  go_wp2_with fail
  refine (fact_any _).mono ?_
  rintro e w1 ⟨rfl, k1⟩
  replace HB : Hid (Below w.heap.size w w1) := bE HB.out k1
  obtain ⟨a0, a1, b0, b1, c0, c1, lt⟩ := HX.out.up k1
  clear HX k1
  by_cases h0 : sfault es = 0
  · have H0 : Hid (_ = _) := h0
    clear h0
    go_wp2_with fail
    refine (in_ok es p cp a a _ (HL.out.up HB.out) ha ha H0.out).mono ?_
    rintro e w2 ⟨r0, rfl, hr0, k2⟩
    obtain rfl : r0 = true := hr0.2 (.inl rfl)
    replace HB : Hid (Below w.heap.size w w2) := bE HB.out k2
    obtain ⟨a0, a1, b0, b1, c0, c1, lt⟩ := (⟨a0, a1, b0, b1, c0, c1, lt⟩ : Box3 w1 w.heap.size a b c).up k2
    clear hr0 k2
    go_wp2_with fail
    refine (in_ok es p cp a b _ (HL.out.up HB.out) ha hb H0.out).mono ?_
    rintro e w3 ⟨r1, rfl, hr1, k3⟩
    replace HB : Hid (Below w.heap.size w w3) := bE HB.out k3
    obtain ⟨a0, a1, b0, b1, c0, c1, lt⟩ := (⟨a0, a1, b0, b1, c0, c1, lt⟩ : Box3 w2 w.heap.size a b c).up k3
    have HR1 : Hid (_ ↔ _) := hr1
    clear hr1 k3
    go_wp2_with fail
    refine (in_ok es p cp b a _ (HL.out.up HB.out) hb ha H0.out).mono ?_
    rintro e w4 ⟨r2, rfl, hr2, k4⟩
    replace HB : Hid (Below w.heap.size w w4) := bE HB.out k4
    obtain ⟨a0, a1, b0, b1, c0, c1, lt⟩ := (⟨a0, a1, b0, b1, c0, c1, lt⟩ : Box3 w3 w.heap.size a b c).up k4
    have HR2 : Hid (_ ↔ _) := hr2
    clear hr2 k4
    go_wp2_with fail
    refine (in_ok es p cp b c _ (HL.out.up HB.out) hb hc H0.out).mono ?_
    rintro e w5 ⟨r3, rfl, hr3, k5⟩
    replace HB : Hid (Below w.heap.size w w5) := bE HB.out k5
    obtain ⟨a0, a1, b0, b1, c0, c1, lt⟩ := (⟨a0, a1, b0, b1, c0, c1, lt⟩ : Box3 w4 w.heap.size a b c).up k5
    have HR3 : Hid (_ ↔ _) := hr3
    clear hr3 k5
    go_wp2_with fail
    refine (in_ok es p cp a c _ (HL.out.up HB.out) ha hc H0.out).mono ?_
    rintro e w6 ⟨r4, rfl, hr4, k6⟩
    replace HB : Hid (Below w.heap.size w w6) := bE HB.out k6
    obtain ⟨a0, a1, b0, b1, c0, c1, lt⟩ := (⟨a0, a1, b0, b1, c0, c1, lt⟩ : Box3 w5 w.heap.size a b c).up k6
    have hgood := sfault_zero H0.out
    have H1 : Hid (r1 = true → r2 = true → a = b) := fun h k => by
      rcases HR1.out.1 h with q | q
      · exact q
      · rcases HR2.out.1 k with q' | q'
        · exact q'.symm
        · exact (abv_anti hgood.cyc q q').elim
    have H2 : Hid (r1 = true → r3 = true → r4 = true) := fun h k => by
      refine hr4.2 ?_
      rcases HR1.out.1 h with q | q
      · rcases HR3.out.1 k with q' | q'
        · exact .inl (q.trans q')
        · rw [q]; exact .inr q'
      · rcases HR3.out.1 k with q' | q'
        · rw [← q']; exact .inr q
        · exact .inr (q.trans q')
    clear HR1 HR2 HR3 hr4 k6 hgood H0 HL
    cases r1
    · clear H1 H2
      cases r2 <;> cases r3 <;> cases r4 <;> (go_wp2_with fail; go_ret; exact ⟨rfl, HB.out⟩)
    · cases r2
      · clear H1
        cases r3
        · clear H2
          cases r4 <;> (go_wp2_with fail; go_ret; exact ⟨rfl, HB.out⟩)
        · obtain rfl : r4 = true := H2.out rfl rfl
          clear H2
          go_wp2_with fail
          go_ret
          exact ⟨rfl, HB.out⟩
      · obtain rfl : a = b := H1.out rfl rfl
        clear H1
        cases r3
        · clear H2
          cases r4 <;> (go_wp2_with fail; go_ret; exact ⟨rfl, HB.out⟩)
        · obtain rfl : r4 = true := H2.out rfl rfl
          clear H2
          go_wp2_with fail
          go_ret
          exact ⟨rfl, HB.out⟩
  · have H0 : Hid (_ ≠ _) := h0
    clear h0
    go_wp2_with fail
    refine (in_err es p cp a a _ (HL.out.up HB.out) ha ha H0.out).mono ?_
    rintro e w2 ⟨rfl, k2⟩
    replace HB : Hid (Below w.heap.size w w2) := bE HB.out k2
    go_wp2_with fail
    go_ret
    exact ⟨rfl, HB.out⟩
end Go.Proofs.Ytkpbholhempmmaa
