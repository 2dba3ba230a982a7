/- slices.Clone at nodes: by a walk of its own text. -/
import Derived.Test.YtkpbholhempmmaaGreatDoorNdOrd
import Derived.Lib.SliceRun
import Derived.OwnWalk
namespace Go.Proofs.YtkpbholhempmmaaGreatDoor
open Go.RowKit
set_option linter.unusedVariables false

theorem Tryz.infoNodeC : (Tryz.prog.info? 67).map (fun i => (i.zero, i.size, i.bytes)) = some (some (.agg #[.int .i64 0, .int .i64 0, .string ⟨#[]⟩, .string ⟨#[]⟩]), 4, 48) := by kernel_rfl
def ncellsC (L : List Nd) : List Value := L.flatMap fun x => [.int .i64 x.op, .int .i64 x.n, .string x.s, .string x.t]
theorem ncellsC_length (L : List Nd) : (ncellsC L).length = L.length * 4 := by
  induction L with
  | nil => rfl
  | cons x L ih => simp [ncellsC] at *; omega
theorem ncellsC_at (L : List Nd) (i j : Nat) (hj : j < 4) : (ncellsC L)[i * 4 + j]? = (L[i]?).bind fun x => [Value.int .i64 x.op, .int .i64 x.n, .string x.s, .string x.t][j]? := by
  induction L generalizing i with
  | nil => simp [ncellsC]
  | cons x L ih =>
    have e : ncellsC (x :: L) = [.int .i64 x.op, .int .i64 x.n, .string x.s, .string x.t] ++ ncellsC L := by simp [ncellsC]
    rw [e]
    cases i with
    | zero =>
      rw [List.getElem?_append_left (by simp; omega)]
      simp
    | succ i =>
      rw [List.getElem?_append_right (by simp; omega)]
      have := ih i
      simp only [List.length_cons, List.length_nil, List.getElem?_cons_succ]
      rw [← this]
      congr 1; omega
theorem ncellsC_one (L : List Nd) : ∀ u ∈ ncellsC L, u.oneCell' = true := by
  intro u hu
  simp only [ncellsC, List.mem_flatMap] at hu
  obtain ⟨x, _, hu⟩ := hu
  simp at hu
  rcases hu with rfl | rfl | rfl | rfl <;> rfl
theorem NL.cellsC {w : World} {b off : Nat} {L : List Nd} (h : NL w (some ⟨b, off, none⟩) L) : ∀ j u, (ncellsC L)[j]? = some u → w.cell? ⟨b, off + j, none⟩ = some u := by
  intro j u hu
  rcases h with rfl | ⟨b', o', h1, h2, h3⟩
  · simp [ncellsC] at hu
  · cases h1
    have hj : j = (j / 4) * 4 + j % 4 := by omega
    rw [hj, ncellsC_at L (j / 4) (j % 4) (by omega)] at hu
    cases hx : L[j / 4]? with
    | none => rw [hx] at hu; simp at hu
    | some x =>
      rw [hx] at hu
      obtain ⟨c0, c1, c2, c3, _⟩ := h3 _ x hx
      have hm : j % 4 = 0 ∨ j % 4 = 1 ∨ j % 4 = 2 ∨ j % 4 = 3 := by omega
      rw [hj]
      rcases hm with e | e | e | e <;> rw [e] at hu ⊢ <;> simp at hu <;> subst hu
      · exact c0
      · rw [← Nat.add_assoc]; exact c1
      · rw [← Nat.add_assoc]; exact c2
      · rw [← Nat.add_assoc]; exact c3

/-- The nodes of a row of the call's own. -/
theorem NL.of_rowC {w : World} {base : Nat} {v : Value} {L : List Nd} (hw : ∀ x ∈ L, x.wf) (h : w.ownsRow base 67 4 v L.length (ncellsC L)) : ∃ q c, v = .slice q L.length c ∧ NL w q L ∧ L.length ≤ c ∧ c ≤ maxLen := by
  have hc := fun g hg => World.ownsRow.cells h (g := g) hg
  rcases h.2 with ⟨rfl, hn⟩ | ⟨g, cap, cur, rfl, hb, hgg, hle, hm, _⟩
  · obtain rfl := List.eq_nil_of_length_eq_zero hn
    exact ⟨none, 0, rfl, .inl rfl, Nat.le_refl _, Nat.zero_le _⟩
  · refine ⟨_, cap, rfl, .inr ⟨g, 0, rfl, (Array.getElem?_eq_some_iff.1 hgg).1, fun i x hx => ?_⟩, hle, hm⟩
    have q : ∀ j, j < 4 → w.cell? ⟨g, i * 4 + j, none⟩ = [Value.int .i64 x.op, .int .i64 x.n, .string x.s, .string x.t][j]? := fun j hj => by
      have e := ncellsC_at L i j hj
      rw [hx] at e
      have hadd : (⟨g, 0, none⟩ : Addr).add (i * 4 + j) = ⟨g, i * 4 + j, none⟩ := by unfold Addr.add; split <;> simp_all
      obtain ⟨u, hu⟩ : ∃ u, [Value.int .i64 x.op, .int .i64 x.n, .string x.s, .string x.t][j]? = some u := ⟨_, List.getElem?_eq_getElem (by simpa using hj)⟩
      have := hc g rfl (i * 4 + j) u (by rw [e]; exact hu)
      rw [hadd] at this
      rw [this, hu]
    refine ⟨?_, ?_, ?_, ?_, hw x (List.mem_of_getElem? hx)⟩
    · have := q 0 (by omega); simpa using this
    · have := q 1 (by omega); simpa using this
    · have := q 2 (by omega); simpa using this
    · have := q 3 (by omega); simpa using this

theorem NL.wfsC {w : World} {q : Option Addr} {L : List Nd} (h : NL w q L) : ∀ x ∈ L, x.wf := by
  intro x hx
  obtain ⟨i, hi⟩ := List.getElem?_of_mem hx
  rcases h with rfl | ⟨b, o, _, _, h3⟩
  · cases hx
  · exact (h3 i x hi).2.2.2.2

set_option maxRecDepth 100000 in
theorem cloneN_fn (L : List Nd) (b off c : Nat) (w : World) (hv : NL w (some ⟨b, off, none⟩) L) (hl : L.length ≤ 1099511627776) :
    Calls Tryz.prog 25 #[.slice (some ⟨b, off, none⟩) L.length c] w fun e w' => (∃ q c', e = .returned (.slice q L.length c') ∧ NL w' q L ∧ L.length ≤ c' ∧ c' ≤ maxLen) ∧ Below w.heap.size w w' := by
  obtain ⟨i0, hi, hz0, hz1, hz2⟩ := info_parts Tryz.infoNodeC
  have HC : Hid (∀ j u, (ncellsC L)[j]? = some u → w.cell? ⟨b, off + j, none⟩ = some u) := hv.cellsC
  have HW := hv.wfsC
  have q22 : ∀ (w : World) (a : Option Addr) (n c n' c' : Nat), (binOp .eql 28 (.slice a n c) (.slice none n' c')).run Tryz.prog w = .ok (.bool a.isNone) w := fun w a n c n' c' => Lib.run_eql_slice_nil w _ _ a n c n' c' Tryz.underlying28
  go_enter Tryz.func25, Tryz.ntmps25
  go_wp2_with (at_builtin; refine wpList_append_own _ rfl _ _ 28 rfl w.heap.size 67 i0 _ 4 48 Tryz.underlying28 hi hz0 hz1 hz2 rfl (by decide) _ _ _ rfl (World.ownsRow_made w #[] 0 (Nat.le_refl _) (Nat.zero_le _) (by simp)) ⟨b, off, none⟩ L.length c (ncellsC L) rfl ?qc1 ?qc2 ?qc3 ?qc4 ?qc5 ?qc6 ?_)
  case qc1 => exact ncellsC_length L
  case qc2 =>
    intro j u hu
    have hh := HC.out j u hu
    have hlt := World.block_lt_of_cell? w _ hh
    have hadd : (⟨b, off, none⟩ : Addr).add j = ⟨b, off + j, none⟩ := by unfold Addr.add; split <;> simp_all
    rw [hadd]
    exact (Below.cell (p := ⟨b, off + j, none⟩) ((Below.refl w.heap.size w).alloc (Nat.le_refl _) _) hlt).trans hh
  case qc3 => exact ncellsC_one L
  case qc4 => unfold maxLen; omega
  case qc5 => omega
  case qc6 => simp
  intro v' w' h1 h2 h3
  obtain ⟨q, c', rfl, hnt, hl', hm'⟩ := NL.of_rowC HW h1
  have hbel : Below w.heap.size w w' := ((Below.refl w.heap.size w).alloc (Nat.le_refl _) (.cells #[] 67)).grown h2 (by simp) (fun k hk => by simp [Value.ownBlock] at hk; omega)
  clear h1 h2 h3 hi hz0 hz1 hz2
  go_wp2
  go_ret
  exact ⟨⟨q, c', rfl, hnt, hl', hm'⟩, hbel⟩

end Go.Proofs.YtkpbholhempmmaaGreatDoor
