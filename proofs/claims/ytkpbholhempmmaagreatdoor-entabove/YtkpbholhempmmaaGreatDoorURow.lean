/- Uids in a row of the call's own. -/
import Derived.Test.YtkpbholhempmmaaGreatDoorUMap
import Derived.WalkKit
import Derived.OwnWalk
namespace Go.Proofs.YtkpbholhempmmaaGreatDoor
open Go.RowKit
set_option linter.unusedVariables false

theorem Tryz.infoUid : (Tryz.prog.info? 24).map (fun i => (i.zero, i.size, i.bytes)) = some (some (.agg #[.string ⟨#[]⟩, .string ⟨#[]⟩]), 2, 32) := by kernel_rfl
def ucells : List Ui → List Value
  | [] => []
  | u :: r => .string u.t :: .string u.i :: ucells r
theorem ucells_length : ∀ L : List Ui, (ucells L).length = L.length * 2
  | [] => rfl
  | u :: r => by simp only [ucells, List.length_cons, ucells_length r]; omega
theorem ucells_append : ∀ L M : List Ui, ucells (L ++ M) = ucells L ++ ucells M
  | [], _ => rfl
  | u :: r, M => by simp [ucells, ucells_append r M]
theorem ucells_one : ∀ L : List Ui, ∀ u ∈ ucells L, u.oneCell' = true
  | [], u, h => by cases h
  | x :: r, u, h => by
    simp only [ucells, List.mem_cons] at h
    rcases h with rfl | rfl | h
    · rfl
    · rfl
    · exact ucells_one r u h
theorem ucells_at : ∀ (L : List Ui) (i : Nat) (x : Ui), L[i]? = some x → (ucells L)[i * 2]? = some (.string x.t) ∧ (ucells L)[i * 2 + 1]? = some (.string x.i)
  | [], i, x, h => by simp at h
  | y :: r, 0, x, h => by simp at h; subst h; exact ⟨rfl, rfl⟩
  | y :: r, i + 1, x, h => by
    have e : (i + 1) * 2 = i * 2 + 1 + 1 := by omega
    rw [e]
    simp only [ucells, List.getElem?_cons_succ] at h ⊢
    exact ucells_at r i x h
theorem ucells_inv : ∀ (L : List Ui) (j : Nat) (v : Value), (ucells L)[j]? = some v → ∃ i x, L[i]? = some x ∧ ((j = i * 2 ∧ v = .string x.t) ∨ (j = i * 2 + 1 ∧ v = .string x.i))
  | [], j, v, h => by simp [ucells] at h
  | y :: r, 0, v, h => by simp [ucells] at h; exact ⟨0, y, rfl, .inl ⟨rfl, h.symm⟩⟩
  | y :: r, 1, v, h => by simp [ucells] at h; exact ⟨0, y, rfl, .inr ⟨rfl, h.symm⟩⟩
  | y :: r, j + 2, v, h => by
    simp only [ucells, List.getElem?_cons_succ] at h
    obtain ⟨i, x, h1, h2⟩ := ucells_inv r j v h
    refine ⟨i + 1, x, by simpa using h1, ?_⟩
    rcases h2 with ⟨h2, h3⟩ | ⟨h2, h3⟩
    · exact .inl ⟨by omega, h3⟩
    · exact .inr ⟨by omega, h3⟩
theorem UL.cells {w : World} {b off : Nat} {M : List Ui} (h : UL w (some ⟨b, off, none⟩) M) (j : Nat) (u : Value) (hu : (ucells M)[j]? = some u) : w.cell? ⟨b, off + j, none⟩ = some u := by
  obtain ⟨i, x, h1, h2⟩ := ucells_inv M j u hu
  rcases h with rfl | ⟨b', off', e, _, h⟩
  · simp at h1
  · simp at e
    obtain ⟨rfl, rfl⟩ := e
    obtain ⟨k1, k2⟩ := h i x h1
    rcases h2 with ⟨rfl, rfl⟩ | ⟨rfl, rfl⟩
    · exact k1
    · rw [show off + (i * 2 + 1) = off + i * 2 + 1 by omega]; exact k2

/-- Uids in a row of the call's own. -/
def OU (w : World) (base : Nat) (v : Value) (L : List Ui) : Prop := w.ownsRow base 24 2 v L.length (ucells L)
theorem OU.nil (w : World) (base : Nat) : OU w base (.slice none 0 0) [] := World.ownsRow_nil _ _ _ _
theorem OU.slice {w : World} {base : Nat} {v : Value} {L : List Ui} (h : OU w base v L) : ∃ q c, v = .slice q L.length c ∧ UL w q L ∧ L.length ≤ c ∧ c ≤ maxLen ∧ ((L = [] ∧ v = .slice none 0 0) ∨ ∃ g, q = some ⟨g, 0, none⟩ ∧ base ≤ g ∧ g < w.heap.size) := by
  rcases h.2 with ⟨rfl, hn⟩ | ⟨g, cap, cur, rfl, hb, hgg, hle, hm, hsz, htk⟩
  · obtain rfl := List.eq_nil_of_length_eq_zero hn
    exact ⟨none, 0, rfl, .inl rfl, Nat.le_refl _, Nat.zero_le _, .inl ⟨rfl, rfl⟩⟩
  · have hlt := (Array.getElem?_eq_some_iff.1 hgg).1
    refine ⟨some ⟨g, 0, none⟩, cap, rfl, .inr ⟨g, 0, rfl, hlt, fun i x hx => ?_⟩, hle, hm, .inr ⟨g, rfl, hb, hlt⟩⟩
    have hi : i < L.length := (List.getElem?_eq_some_iff.1 hx).1
    obtain ⟨k1, k2⟩ := ucells_at L i x hx
    have hc : ∀ j, j < L.length * 2 → w.cell? ⟨g, 0 + j, none⟩ = (ucells L)[j]? := by
      intro j hj
      rw [← htk, List.getElem?_take_of_lt hj]
      simp [World.cell?, hgg]
    rw [← k1, ← k2]
    exact ⟨hc (i * 2) (by omega), hc (i * 2 + 1) (by omega)⟩
theorem OU.below {w w' : World} {base : Nat} {v : Value} {L : List Ui} (h : OU w base v L) (k : Below w.heap.size w w') : OU w' base v L := by
  refine ⟨h.1, ?_⟩
  rcases h.2 with hn | ⟨g, cap, cur, rfl, hb, hgg, rest⟩
  · exact .inl hn
  · exact .inr ⟨g, cap, cur, rfl, hb, (k.block g (Array.getElem?_eq_some_iff.1 hgg).1).trans hgg, rest⟩
theorem OU.own {w : World} {base : Nat} {v : Value} {L : List Ui} (h : OU w base v L) : ∀ g, v.ownBlock = some g → base ≤ g := by
  intro g hg
  rcases h.2 with ⟨rfl, _⟩ | ⟨g', cap, cur, rfl, hb, _⟩
  · simp [Value.ownBlock] at hg
  · simp [Value.ownBlock] at hg
    subst hg
    exact hb
theorem UL.one (w : World) (u : Ui) : UL (w.alloc (.cells #[.string u.t, .string u.i] 24)) (some ⟨w.heap.size, 0, none⟩) [u] := by
  refine .inr ⟨w.heap.size, 0, rfl, by simp, fun i x hx => ?_⟩
  rcases i with _ | i
  · simp at hx
    subst hx
    simp [go_sem]
  · simp at hx
theorem OU.one (w : World) (u : Ui) : OU (w.alloc (.cells #[.string u.t, .string u.i] 24)) w.heap.size (.slice (some ⟨w.heap.size, 0, none⟩) 1 1) [u] := by
  refine ⟨rfl, .inr ⟨w.heap.size, 1, #[.string u.t, .string u.i], rfl, Nat.le_refl _, (MapKept.heap_alloc w _).1, Nat.le_refl _, by unfold maxLen; omega, rfl, rfl⟩⟩

theorem OU.mono {w : World} {base base' : Nat} {v : Value} {L : List Ui} (h : OU w base v L) (hb : base' ≤ base) : OU w base' v L :=
  ⟨h.1, h.2.imp id (fun ⟨g, cap, cur, h1, h2, h3⟩ => ⟨g, cap, cur, h1, Nat.le_trans hb h2, h3⟩)⟩
theorem OU.two (w : World) (u : Ui) : OU ((w.alloc (.cells #[.string u.t, .string u.i] 24)).alloc (.cells #[.string u.t, .string u.i] 24)) w.heap.size (.slice (some ⟨w.heap.size + 1, 0, none⟩) 1 1) [u] := by
  have h := (OU.one (w.alloc (.cells #[.string u.t, .string u.i] 24)) u).mono (base' := w.heap.size) (by simp)
  simpa using h
theorem append_uid (w : World) {ops : Array Oper} {rest : List Oper} {o : Oper} {a : Act} {Q : Exit → Act → World → Prop} (hgd : o.guard = none) (s x : Operand)
    (ho : o.op = .call { callee := .builtin .append, args := #[s, x], argTypes := #[27, 27] })
    (base : Nat) (v : Value) (L : List Ui) (hs : a.eval s = v) (hown : OU w base v L) (M : List Ui) (n : Nat) (hn : M.length = n) (b off c : Nat) (hN : UL w (some ⟨b, off, none⟩) M)
    (hx : a.eval x = .slice (some ⟨b, off, none⟩) n c) (hlen : L.length + M.length ≤ 1099511627776) (hbase : base ≤ w.heap.size)
    (h : ∀ v' w', OU w' base v' (L ++ M) → w.grownBy w' v.ownBlock → Below base w w' → wpList Tryz.prog ops Q rest (a.put o.dst v') w') : wpList Tryz.prog ops Q (o :: rest) a w := by
  subst hn
  obtain ⟨i0, hi, hz0, hz1, hz2⟩ := info_parts Tryz.infoUid
  refine wpList_append_own _ hgd s x 27 ho base 24 i0 _ 2 32 Tryz.underlying27 hi hz0 hz1 hz2 rfl (by decide) v L.length (ucells L) hs hown ⟨b, off, none⟩ M.length c (ucells M) hx (ucells_length M) ?_ (ucells_one _) (by unfold maxLen; omega) (by omega) hbase ?_
  · intro j u hu
    have hadd : (⟨b, off, none⟩ : Addr).add j = ⟨b, off + j, none⟩ := by unfold Addr.add; split <;> simp_all
    rw [hadd]; exact hN.cells j u hu
  · intro v' w' h1 h2 _
    refine h v' w' ?_ h2 ((Below.refl base w).grown h2 hbase (fun k hk => hown.own k hk))
    unfold OU
    rw [ucells_append, List.length_append]; exact h1
end Go.Proofs.YtkpbholhempmmaaGreatDoor
