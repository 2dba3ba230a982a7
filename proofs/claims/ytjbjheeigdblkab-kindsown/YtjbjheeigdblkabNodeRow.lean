/- Nodes in a row of the call's own, and nodes appended to it. -/
import Derived.Test.YtjbjheeigdblkabOwnR
namespace Go.Proofs.Ytjbjheeigdblkab
open Go.RowKit
set_option linter.unusedVariables false

def ncells (L : List Nd) : List Value := L.flatMap fun x => [.int .i64 x.op, .int .i64 x.n, .string x.s, .string x.t]
theorem ncells_length (L : List Nd) : (ncells L).length = L.length * 4 := by
  induction L with
  | nil => rfl
  | cons x L ih => simp [ncells] at *; omega
theorem ncells_at (L : List Nd) (i j : Nat) (hj : j < 4) : (ncells L)[i * 4 + j]? = (L[i]?).bind fun x => [Value.int .i64 x.op, .int .i64 x.n, .string x.s, .string x.t][j]? := by
  induction L generalizing i with
  | nil => simp [ncells]
  | cons x L ih =>
    have e : ncells (x :: L) = [.int .i64 x.op, .int .i64 x.n, .string x.s, .string x.t] ++ ncells L := by simp [ncells]
    rw [e]
    cases i with
    | zero =>
      rw [List.getElem?_append_left (by simp; omega)]
      simp
    | succ i =>
      rw [List.getElem?_append_right (by simp; omega)]
      have := ih i
      simp only [List.length_cons, List.length_nil, List.getElem?_cons_succ]
      rw [← this]
      congr 1; omega
theorem ncells_one (L : List Nd) : ∀ u ∈ ncells L, u.oneCell' = true := by
  intro u hu
  simp only [ncells, List.mem_flatMap] at hu
  obtain ⟨x, _, hu⟩ := hu
  simp at hu
  rcases hu with rfl | rfl | rfl | rfl <;> rfl
theorem NL.cells {w : World} {b off : Nat} {L : List Nd} (h : NL w (some ⟨b, off, none⟩) L) : ∀ j u, (ncells L)[j]? = some u → w.cell? ⟨b, off + j, none⟩ = some u := by
  intro j u hu
  rcases h with rfl | ⟨b', o', h1, h2, h3⟩
  · simp [ncells] at hu
  · cases h1
    have hj : j = (j / 4) * 4 + j % 4 := by omega
    rw [hj, ncells_at L (j / 4) (j % 4) (by omega)] at hu
    cases hx : L[j / 4]? with
    | none => rw [hx] at hu; simp at hu
    | some x =>
      rw [hx] at hu
      obtain ⟨c0, c1, c2, c3, _⟩ := h3 _ x hx
      have hm : j % 4 = 0 ∨ j % 4 = 1 ∨ j % 4 = 2 ∨ j % 4 = 3 := by omega
      rw [hj]
      rcases hm with e | e | e | e <;> rw [e] at hu ⊢ <;> simp at hu <;> subst hu
      · exact c0
      · rw [← Nat.add_assoc]; exact c1
      · rw [← Nat.add_assoc]; exact c2
      · rw [← Nat.add_assoc]; exact c3

/-- The nodes of a row of the call's own. -/
theorem NL.of_row {w : World} {base : Nat} {v : Value} {L : List Nd} (hw : ∀ x ∈ L, x.wf) (h : w.ownsRow base 33 4 v L.length (ncells L)) : ∃ q c, v = .slice q L.length c ∧ NT w 0 q L ∧ L.length ≤ c ∧ c ≤ maxLen := by
  have hc := fun g hg => World.ownsRow.cells h (g := g) hg
  rcases h.2 with ⟨rfl, hn⟩ | ⟨g, cap, cur, rfl, hb, hgg, hle, hm, _⟩
  · obtain rfl := List.eq_nil_of_length_eq_zero hn
    exact ⟨none, 0, rfl, ⟨.inl rfl, .inl rfl⟩, Nat.le_refl _, Nat.zero_le _⟩
  · refine ⟨_, cap, rfl, ⟨.inr ⟨g, 0, rfl, (Array.getElem?_eq_some_iff.1 hgg).1, fun i x hx => ?_⟩, .inr ⟨g, 0, rfl, .inr ⟨cur, _, hgg⟩⟩⟩, hle, hm⟩
    have q : ∀ j, j < 4 → w.cell? ⟨g, i * 4 + j, none⟩ = [Value.int .i64 x.op, .int .i64 x.n, .string x.s, .string x.t][j]? := fun j hj => by
      have e := ncells_at L i j hj
      rw [hx] at e
      have hadd : (⟨g, 0, none⟩ : Addr).add (i * 4 + j) = ⟨g, i * 4 + j, none⟩ := by unfold Addr.add; split <;> simp_all
      obtain ⟨u, hu⟩ : ∃ u, [Value.int .i64 x.op, .int .i64 x.n, .string x.s, .string x.t][j]? = some u := ⟨_, List.getElem?_eq_getElem (by simpa using hj)⟩
      have := hc g rfl (i * 4 + j) u (by rw [e]; exact hu)
      rw [hadd] at this
      rw [this, hu]
    refine ⟨?_, ?_, ?_, ?_, hw x (List.mem_of_getElem? hx)⟩
    · have := q 0 (by omega); simpa using this
    · have := q 1 (by omega); simpa using this
    · have := q 2 (by omega); simpa using this
    · have := q 3 (by omega); simpa using this

theorem NT.any {w : World} {base : Nat} {q : Option Addr} {L : List Nd} (h : NT w 0 q L) : NT w base q L :=
  ⟨h.1, h.2.imp id fun ⟨b, o, h1, h2⟩ => ⟨b, o, h1, h2.elim (fun h => absurd h (Nat.not_lt_zero _)) .inr⟩⟩

theorem NL.wfs {w : World} {q : Option Addr} {L : List Nd} (h : NL w q L) : ∀ x ∈ L, x.wf := by
  intro x hx
  obtain ⟨i, hi⟩ := List.getElem?_of_mem hx
  rcases h with rfl | ⟨b, o, _, _, h3⟩
  · cases hx
  · exact (h3 i x hi).2.2.2.2

/-- Nodes in a row of the call's own. -/
def ON (w : World) (base : Nat) (v : Value) (L : List Nd) : Prop := w.ownsRow base 33 4 v L.length (ncells L) ∧ ∀ x ∈ L, x.wf

theorem ON.slice {w : World} {base : Nat} {v : Value} {L : List Nd} (h : ON w base v L) (hne : L ≠ []) : ∃ g cap, v = .slice (some ⟨g, 0, none⟩) L.length cap ∧ base ≤ g ∧ g < w.heap.size ∧ L.length ≤ cap ∧ cap ≤ maxLen ∧ NL w (some ⟨g, 0, none⟩) L ∧ ∀ j, w.frozen? ⟨g, j, none⟩ = false := by
  rcases h.1.2 with ⟨_, hn⟩ | ⟨g, cap, cur, hv, hb, hgg, hle, hm, _⟩
  · exact absurd (List.eq_nil_of_length_eq_zero hn) hne
  · obtain ⟨q, c, e, hnt, _⟩ := NL.of_row h.2 h.1
    rw [hv] at e
    cases e
    refine ⟨g, cap, hv, hb, (Array.getElem?_eq_some_iff.1 hgg).1, hle, hm, hnt.1, fun j => ?_⟩
    simp [World.frozen?, hgg]

theorem ncells_append (a b : List Nd) : ncells (a ++ b) = ncells a ++ ncells b := by simp [ncells]

theorem ON.typed {w : World} {base : Nat} {v : Value} {L : List Nd} (h : ON w base v L) : ∀ g, v.ownBlock = some g → base ≤ g ∧ Typed w g 33 := by
  intro g hg
  rcases h.1.2 with ⟨rfl, _⟩ | ⟨g', cap, cur, rfl, hb, hgg, _⟩
  · simp [Value.ownBlock] at hg
  · simp [Value.ownBlock] at hg
    subst hg
    exact ⟨hb, cur, _, hgg⟩
theorem ON.below {w w' : World} {base : Nat} {v : Value} {L : List Nd} (h : ON w base v L) (k : Below w.heap.size w w') : ON w' base v L := by
  refine ⟨⟨h.1.1, ?_⟩, h.2⟩
  rcases h.1.2 with hn | ⟨g, cap, cur, rfl, hb, hgg, rest⟩
  · exact .inl hn
  · exact .inr ⟨g, cap, cur, rfl, hb, (k.block g (Array.getElem?_eq_some_iff.1 hgg).1).trans hgg, rest⟩

theorem append_nodes (w : World) {ops : Array Oper} {rest : List Oper} {o : Oper} {a : Act} {Q : Exit → Act → World → Prop} (hgd : o.guard = none) (s x : Operand)
    (ho : o.op = .call { callee := .builtin .append, args := #[s, x], argTypes := #[22, 22] })
    (base : Nat) (v : Value) (L : List Nd) (hs : a.eval s = v) (hown : ON w base v L) (M : List Nd) (n : Nat) (hn : M.length = n) (b off c : Nat) (hN : NL w (some ⟨b, off, none⟩) M)
    (hx : a.eval x = .slice (some ⟨b, off, none⟩) n c) (hlen : L.length + M.length ≤ 1099511627776) (hbase : base ≤ w.heap.size)
    (h : ∀ v' w', ON w' base v' (L ++ M) → Kept base 33 w w' → wpList Try.prog ops Q rest (a.put o.dst v') w') : wpList Try.prog ops Q (o :: rest) a w := by
  subst hn
  obtain ⟨i0, hi, hz0, hz1, hz2⟩ := info_parts Try.infoNode
  refine wpList_append_own _ hgd s x 22 ho base 33 i0 _ 4 48 Try.underlying22 hi hz0 hz1 hz2 rfl (by decide) v L.length (ncells L) hs hown.1 ⟨b, off, none⟩ M.length c (ncells M) hx (ncells_length M) ?_ (ncells_one _) (by unfold maxLen; omega) (by omega) hbase ?_
  · intro j u hu
    have hadd : (⟨b, off, none⟩ : Addr).add j = ⟨b, off + j, none⟩ := by unfold Addr.add; split <;> simp_all
    rw [hadd]; exact hN.cells j u hu
  · intro v' w' h1 h2 _
    refine h v' w' ⟨?_, fun x hx => ?_⟩ ⟨(Below.refl base w).grown h2 hbase (fun k hk => (hown.typed k hk).1), fun bb f hf hty => h2.block bb hty.lt (fun e => (hown.typed bb e.symm).2.ne hty (fun hh => hf hh.symm) rfl)⟩
    · rw [ncells_append, List.length_append]; exact h1
    · rcases List.mem_append.1 hx with hx | hx
      · exact hown.2 x hx
      · exact hN.wfs x hx
end Go.Proofs.Ytjbjheeigdblkab
