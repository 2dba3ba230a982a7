/- Nodes appended to a row of the call's own. -/
import Derived.Test.YthmfgnofhbmogabSetN
namespace Go.Proofs.Ythmfgnofhbmogab
open Go.RowKit
set_option linter.unusedVariables false

theorem ON.typed {w : World} {base : Nat} {v : Value} {L : List Nd} (h : ON w base v L) : ∀ g, v.ownBlock = some g → base ≤ g ∧ Typed w g 31 := by
  intro g hg
  rcases h.1.2 with ⟨rfl, _⟩ | ⟨g', cap, cur, rfl, hb, hgg, _⟩
  · simp [Value.ownBlock] at hg
  · simp [Value.ownBlock] at hg
    subst hg
    exact ⟨hb, cur, _, hgg⟩
theorem ON.below {w w' : World} {base : Nat} {v : Value} {L : List Nd} (h : ON w base v L) (k : Below w.heap.size w w') : ON w' base v L := by
  refine ⟨⟨h.1.1, ?_⟩, h.2⟩
  rcases h.1.2 with hn | ⟨g, cap, cur, rfl, hb, hgg, rest⟩
  · exact .inl hn
  · exact .inr ⟨g, cap, cur, rfl, hb, (k.block g (Array.getElem?_eq_some_iff.1 hgg).1).trans hgg, rest⟩

theorem append_nodes (w : World) {ops : Array Oper} {rest : List Oper} {o : Oper} {a : Act} {Q : Exit → Act → World → Prop} (hgd : o.guard = none) (s x : Operand)
    (ho : o.op = .call { callee := .builtin .append, args := #[s, x], argTypes := #[24, 24] })
    (base : Nat) (v : Value) (L : List Nd) (hs : a.eval s = v) (hown : ON w base v L) (M : List Nd) (n : Nat) (hn : M.length = n) (b off c : Nat) (hN : NL w (some ⟨b, off, none⟩) M)
    (hx : a.eval x = .slice (some ⟨b, off, none⟩) n c) (hlen : L.length + M.length ≤ 1099511627776) (hbase : base ≤ w.heap.size)
    (h : ∀ v' w', ON w' base v' (L ++ M) → Kept base 31 w w' → wpList Try.prog ops Q rest (a.put o.dst v') w') : wpList Try.prog ops Q (o :: rest) a w := by
  subst hn
  obtain ⟨i0, hi, hz0, hz1, hz2⟩ := info_parts Try.infoNode
  refine wpList_append_own _ hgd s x 24 ho base 31 i0 _ 4 48 Try.underlying24 hi hz0 hz1 hz2 rfl (by decide) v L.length (ncells L) hs hown.1 ⟨b, off, none⟩ M.length c (ncells M) hx (ncells_length M) ?_ (ncells_one _) (by unfold maxLen; omega) (by omega) hbase ?_
  · intro j u hu
    have hadd : (⟨b, off, none⟩ : Addr).add j = ⟨b, off + j, none⟩ := by unfold Addr.add; split <;> simp_all
    rw [hadd]; exact hN.cells j u hu
  · intro v' w' h1 h2 _
    refine h v' w' ⟨?_, fun x hx => ?_⟩ ⟨(Below.refl base w).grown h2 hbase (fun k hk => (hown.typed k hk).1), fun bb f hf hty => h2.block bb hty.lt (fun e => (hown.typed bb e.symm).2.ne hty (fun hh => hf hh.symm) rfl)⟩
    · rw [ncells_append, List.length_append]; exact h1
    · rcases List.mem_append.1 hx with hx | hx
      · exact hown.2 x hx
      · exact hN.wfs x hx

theorem NL.one (w : World) (s : ByteArray) (hs : s.size ≤ maxLen) : NL (w.alloc (.cells #[.int .i64 7, .int .i64 0, .string s, .string ⟨#[]⟩] 31)) (some ⟨w.heap.size, 0, none⟩) [⟨7, 0, s, ⟨#[]⟩⟩] := by
  refine .inr ⟨w.heap.size, 0, rfl, by simp, fun i x hx => ?_⟩
  rcases i with _ | i
  · simp at hx
    subst hx
    simp [go_sem, Nd.wf, hs]
  · simp at hx
end Go.Proofs.Ythmfgnofhbmogab
