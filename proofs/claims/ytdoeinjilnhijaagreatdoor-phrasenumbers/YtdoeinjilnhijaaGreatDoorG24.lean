/- The statements' quick: the words of a line, without their places. Rows of words and of nodes of the call's own: one behind another. -/
import Derived.Test.YtdoeinjilnhijaaGreatDoorG22
import Derived.Test.YtdoeinjilnhijaaGreatDoorG23
import Derived.Test.YtdoeinjilnhijaaGreatDoorG6
import Derived.Laws.AppendOwnNone
namespace Go.Proofs.YtdoeinjilnhijaaGreatDoor
open Go.RowKit
set_option linter.unusedVariables false
set_option maxRecDepth 100000

theorem qbt {a b c : World} (h : Below a.heap.size a b) (k : Below b.heap.size b c) : Below a.heap.size a c := h.trans (k.mono h.size)
theorem quick_any (s : ByteArray) (us : List Tk) (w : World) (hs : s.size ≤ maxLen) (h : readL s.data.toList = .ok us) :
    Calls Tryz.prog 9 #[.string s] w fun e w' => BareC us us.length e w' ∧ Below w.heap.size w w' := by
  have HW := words_any s w hs
  rw [h] at HW
  have h3 := read_many h
  clear h
  go_enter Tryz.func9, Tryz.ntmps9
  go_wp2_with fail
  refine HW.mono ?_
  rintro e w1 ⟨⟨q1, c1, rfl, hk1, _⟩, hb1⟩
  go_wp2_with fail
  refine (bare_c us us.length q1 c1 w1 hk1 rfl h3).mono ?_
  rintro e w2 ⟨⟨q2, c2, rfl, hk2⟩, hb2⟩
  go_wp2
  go_ret
  exact ⟨⟨q2, c2, rfl, hk2⟩, qbt hb1 hb2⟩

/-- A row of words behind another. -/
theorem append_toks (w : World) {ops : Array Oper} {rest : List Oper} {o : Oper} {a : Act} {Q : Exit → Act → World → Prop} (hgd : o.guard = none) (s x : Operand)
    (ho : o.op = .call { callee := .builtin .append, args := #[s, x], argTypes := #[23, 23] })
    (base : Nat) (v : Value) (L : List Tk) (hs : a.eval s = v) (hown : OT w base v L) (M : List Tk) (n : Nat) (hn : M.length = n) (q : Option Addr) (c : Nat) (hN : TKL w q M)
    (hx : a.eval x = .slice q n c) (hq : q = none → c = 0) (hlen : L.length + M.length ≤ 1099511627776) (hbase : base ≤ w.heap.size)
    (h : ∀ v' w', OT w' base v' (L ++ M) → Below base w w' → wpList Tryz.prog ops Q rest (a.put o.dst v') w') : wpList Tryz.prog ops Q (o :: rest) a w := by
  subst hn
  obtain ⟨i0, hi, hz0, hz1, hz2⟩ := info_parts Tryz.infoTok
  cases q with
  | none =>
    obtain rfl := hq rfl
    obtain rfl : M = [] := by
      rcases hN with h0 | ⟨b, o, h0, _⟩
      · exact h0
      · cases h0
    refine wpList_append_own_none hgd s x 23 ho base 47 i0 3 Tryz.underlying23 hi v L.length (tcells L) hs hown hx ?_
    exact h v w (by rw [List.append_nil]; exact hown) (Below.refl _ _)
  | some ad =>
    refine wpList_append_own _ hgd s x 23 ho base 47 i0 _ 3 32 Tryz.underlying23 hi hz0 hz1 hz2 rfl (by decide) v L.length (tcells L) hs hown ad M.length c (tcells M) hx (tcells_length M) ?_ ?_ (by unfold maxLen; omega) (by omega) hbase ?_
    · intro j u hu
      have hj : j < M.length * 3 := by rw [← tcells_length]; exact (List.getElem?_eq_some_iff.1 hu).1
      obtain ⟨b, off, rfl, _, h5⟩ : ∃ b off, ad = ⟨b, off, none⟩ ∧ b < w.heap.size ∧ ∀ i x, M[i]? = some x → w.cell? ⟨b, off + i * 3, none⟩ = some (.int .i64 x.kind) ∧ w.cell? ⟨b, off + (i * 3 + 1), none⟩ = some (.string x.s) ∧ w.cell? ⟨b, off + (i * 3 + 2), none⟩ = some (.int .i64 x.at_) := by
        rcases hN with h0 | ⟨b, o, h0, h1, h2⟩
        · subst h0; simp at hj
        · cases h0; exact ⟨b, o, rfl, h1, h2⟩
      have hadd : (⟨b, off, none⟩ : Addr).add j = ⟨b, off + j, none⟩ := by unfold Addr.add; split <;> simp_all
      rw [hadd]
      have hi3 : j / 3 < M.length := by omega
      have hx' := List.getElem?_eq_getElem hi3
      obtain ⟨k1, k2, k3⟩ := tcells_at M (j / 3) _ hx'
      obtain ⟨c1, c2, c3⟩ := h5 (j / 3) _ hx'
      have hj3 : j = j / 3 * 3 ∨ j = j / 3 * 3 + 1 ∨ j = j / 3 * 3 + 2 := by omega
      rcases hj3 with e | e | e
      · rw [e] at hu ⊢; rw [k1] at hu; cases hu; exact c1
      · rw [e] at hu ⊢; rw [k2] at hu; cases hu; exact c2
      · rw [e] at hu ⊢; rw [k3] at hu; cases hu; exact c3
    · intro u hu
      clear hx hN hlen h
      induction M with
      | nil => simp [tcells] at hu
      | cons t r ih =>
        simp only [tcells, List.mem_cons] at hu
        rcases hu with rfl | rfl | rfl | hu
        · rfl
        · rfl
        · rfl
        · exact ih hu
    · intro v' w' h1 h2 _
      refine h v' w' ?_ ((Below.refl base w).grown h2 hbase (fun k hk => (World.ownsRow.lt hown k hk).1))
      unfold OT
      rw [tcells_append, List.length_append]
      exact h1
/-- A row that was just laid. -/
theorem OT.lit (w : World) (t : Tk) : OT (w.alloc (.cells #[.int .i64 t.kind, .string t.s, .int .i64 t.at_] 47)) w.heap.size (.slice (some ⟨w.heap.size, 0, none⟩) 1 1) [t] :=
  ⟨rfl, .inr ⟨w.heap.size, 1, _, rfl, Nat.le_refl _, heap_alloc_new _ _, Nat.le_refl _, by unfold maxLen; omega, rfl, rfl⟩⟩
theorem OT.lit0 (w : World) : OT (w.alloc (.cells #[] 47)) w.heap.size (.slice (some ⟨w.heap.size, 0, none⟩) 0 0) [] :=
  ⟨rfl, .inr ⟨w.heap.size, 0, _, rfl, Nat.le_refl _, heap_alloc_new _ _, Nat.le_refl _, Nat.zero_le _, rfl, rfl⟩⟩
theorem ON.lit2 (w : World) (x y : Nd) (hx : x.wf) (hy : y.wf) : ON (w.alloc (.cells #[.int .i64 x.op, .int .i64 x.n, .string x.s, .string x.t, .int .i64 y.op, .int .i64 y.n, .string y.s, .string y.t] 29)) w.heap.size (.slice (some ⟨w.heap.size, 0, none⟩) 2 2) [x, y] :=
  ⟨⟨rfl, .inr ⟨w.heap.size, 2, _, rfl, Nat.le_refl _, heap_alloc_new _ _, Nat.le_refl _, by unfold maxLen; omega, rfl, rfl⟩⟩, by simp [hx, hy]⟩
end Go.Proofs.YtdoeinjilnhijaaGreatDoor
