/- Entities in a row of the call's own. -/
import Derived.Test.YtkpbholhempmmaaUMap
import Derived.WalkKit
import Derived.OwnWalk
import Derived.Laws.AppendOwnNone
import Derived.Deep.Slices
namespace Go.Proofs.Ytkpbholhempmmaa
open Go.RowKit Go.Deep
set_option linter.unusedVariables false

theorem Try.infoEnt : (Try.prog.info? 36).map (fun i => (i.zero, i.size, i.bytes)) = some (some (.agg #[.string ⟨#[]⟩, .string ⟨#[]⟩, .slice none 0 0, .slice none 0 0]), 4, 80) := by kernel_rfl
/-- An entity with where its parts lie. -/
structure EA where
  e : En
  pu : Option Addr
  cu : Nat
  pa : Option Addr
  ca : Nat
instance : Inhabited EA := ⟨⟨default, none, 0, none, 0⟩⟩
def EA.v (x : EA) : Value := .agg #[.string x.e.u.t, .string x.e.u.i, .slice x.pu x.e.up.length x.cu, .slice x.pa x.e.nd.length x.ca]
def ecl : List EA → List Value
  | [] => []
  | x :: r => .string x.e.u.t :: .string x.e.u.i :: .slice x.pu x.e.up.length x.cu :: .slice x.pa x.e.nd.length x.ca :: ecl r
theorem ecl_length : ∀ L : List EA, (ecl L).length = L.length * 4
  | [] => rfl
  | u :: r => by simp only [ecl, List.length_cons, ecl_length r]; omega
theorem ecl_append : ∀ L M : List EA, ecl (L ++ M) = ecl L ++ ecl M
  | [], _ => rfl
  | u :: r, M => by simp [ecl, ecl_append r M]
theorem ecl_one : ∀ L : List EA, ∀ u ∈ ecl L, u.oneCell' = true
  | [], u, h => by cases h
  | x :: r, u, h => by
    simp only [ecl, List.mem_cons] at h
    rcases h with rfl | rfl | rfl | rfl | h
    · rfl
    · rfl
    · rfl
    · rfl
    · exact ecl_one r u h
theorem ecl_at : ∀ (L : List EA) (i : Nat) (x : EA), L[i]? = some x → (ecl L)[i * 4]? = some (.string x.e.u.t) ∧ (ecl L)[i * 4 + 1]? = some (.string x.e.u.i) ∧ (ecl L)[i * 4 + 2]? = some (.slice x.pu x.e.up.length x.cu) ∧ (ecl L)[i * 4 + 3]? = some (.slice x.pa x.e.nd.length x.ca)
  | [], i, x, h => by simp at h
  | y :: r, 0, x, h => by simp at h; subst h; exact ⟨rfl, rfl, rfl, rfl⟩
  | y :: r, i + 1, x, h => by
    have e : (i + 1) * 4 = i * 4 + 1 + 1 + 1 + 1 := by omega
    rw [e]
    simp only [ecl, List.getElem?_cons_succ] at h ⊢
    exact ecl_at r i x h
/-- Entities with where their parts lie, behind an address. -/
structure EAL (w : World) (p : Option Addr) (xs : List EA) : Prop where
  parts : ∀ x ∈ xs, EV w x.v x.e
  lies : xs = [] ∨ ∃ b off, p = some ⟨b, off, none⟩ ∧ b < w.heap.size ∧ ∀ j u, (ecl xs)[j]? = some u → w.cell? ⟨b, off + j, none⟩ = some u
theorem EAL.up {w w' : World} {p : Option Addr} {xs : List EA} (h : EAL w p xs) (k : Below w.heap.size w w') : EAL w' p xs := by
  refine ⟨fun x hx => (h.parts x hx).up k, ?_⟩
  rcases h.lies with h | ⟨b, off, h1, h2, h3⟩
  · exact .inl h
  · exact .inr ⟨b, off, h1, Nat.lt_of_lt_of_le h2 k.size, fun j u hu => (k.cell (p := ⟨b, off + j, none⟩) h2).trans (h3 j u hu)⟩
theorem EL.parts {w : World} {p : Option Addr} {es : List En} (h : EL w p es) : ∃ xs : List EA, xs.map (·.e) = es ∧ EAL w p xs := by
  rcases h with rfl | ⟨b, off, h1, h2, h3⟩
  · exact ⟨[], rfl, ⟨fun x hx => (by cases hx), .inl rfl⟩⟩
  · obtain ⟨Y, hY⟩ := choose_lt (α := EA) (n := es.length) (p := fun i y => es[i]? = some y.e ∧ EV w y.v y.e ∧ w.cell? ⟨b, off + i * 4, none⟩ = some (.string y.e.u.t) ∧ w.cell? ⟨b, off + i * 4 + 1, none⟩ = some (.string y.e.u.i) ∧ w.cell? ⟨b, off + i * 4 + 2, none⟩ = some (.slice y.pu y.e.up.length y.cu) ∧ w.cell? ⟨b, off + i * 4 + 3, none⟩ = some (.slice y.pa y.e.nd.length y.ca)) (fun i hi => by
      obtain ⟨pu, cu, pa, ca, k0, k1, k2, k3, k4⟩ := h3 i es[i] (List.getElem?_eq_getElem hi)
      exact ⟨⟨es[i], pu, cu, pa, ca⟩, List.getElem?_eq_getElem hi, k0, k1, k2, k3, k4⟩)
    have hget : ∀ i, i < es.length → ((List.range es.length).map Y)[i]? = some (Y i) := fun i hi => by simp [hi]
    refine ⟨(List.range es.length).map Y, ?_, fun x hx => ?_, .inr ⟨b, off, h1, h2, fun j u hu => ?_⟩⟩
    · apply List.ext_getElem?
      intro i
      by_cases hi : i < es.length
      · rw [List.getElem?_map, hget i hi]
        exact (hY i hi).1.symm
      · rw [List.getElem?_eq_none (by simpa using hi), List.getElem?_eq_none (by simpa using hi)]
    · obtain ⟨i, hi, rfl⟩ := List.mem_map.1 hx
      exact (hY i (List.mem_range.1 hi)).2.1
    · have hj : j < es.length * 4 := by
        have := (List.getElem?_eq_some_iff.1 hu).1
        rw [ecl_length] at this
        simpa using this
      have hi : j / 4 < es.length := by omega
      obtain ⟨_, _, c0, c1, c2, c3⟩ := hY (j / 4) hi
      obtain ⟨k0, k1, k2, k3⟩ := ecl_at _ (j / 4) _ (hget (j / 4) hi)
      have hm : j % 4 = 0 ∨ j % 4 = 1 ∨ j % 4 = 2 ∨ j % 4 = 3 := by omega
      rcases hm with h0 | h0 | h0 | h0
      · rw [show j = j / 4 * 4 by omega] at hu ⊢
        rw [k0] at hu; cases hu; exact c0
      · rw [show j = j / 4 * 4 + 1 by omega] at hu ⊢
        rw [k1] at hu; cases hu; exact c1
      · rw [show j = j / 4 * 4 + 2 by omega] at hu ⊢
        rw [k2] at hu; cases hu; exact c2
      · rw [show j = j / 4 * 4 + 3 by omega] at hu ⊢
        rw [k3] at hu; cases hu; exact c3
theorem EAL.ents {w : World} {p : Option Addr} {xs : List EA} (h : EAL w p xs) : EL w p (xs.map (·.e)) := by
  rcases h.lies with rfl | ⟨b, off, h1, h2, h3⟩
  · exact .inl rfl
  · refine .inr ⟨b, off, h1, h2, fun i e he => ?_⟩
    rw [List.getElem?_map] at he
    cases hx : xs[i]? with
    | none => rw [hx] at he; cases he
    | some x =>
      rw [hx] at he
      cases he
      obtain ⟨k0, k1, k2, k3⟩ := ecl_at xs i x hx
      exact ⟨x.pu, x.cu, x.pa, x.ca, h.parts x (List.mem_of_getElem? hx), h3 _ _ k0, h3 _ _ k1, h3 _ _ k2, h3 _ _ k3⟩

/-- Entities in a row of the call's own. -/
structure OE (w : World) (base : Nat) (v : Value) (xs : List EA) : Prop where
  row : w.ownsRow base 36 4 v xs.length (ecl xs)
  parts : ∀ x ∈ xs, EV w x.v x.e
theorem OE.slice {w : World} {base : Nat} {v : Value} {xs : List EA} (h : OE w base v xs) : ∃ q c, v = .slice q xs.length c ∧ EAL w q xs ∧ xs.length ≤ c ∧ c ≤ maxLen := by
  rcases h.row.2 with ⟨rfl, hn⟩ | ⟨g, cap, cur, rfl, hb, hgg, hle, hm, hsz, htk⟩
  · obtain rfl := List.eq_nil_of_length_eq_zero hn
    exact ⟨none, 0, rfl, ⟨fun x hx => (by cases hx), .inl rfl⟩, Nat.le_refl _, Nat.zero_le _⟩
  · have hlt := (Array.getElem?_eq_some_iff.1 hgg).1
    refine ⟨some ⟨g, 0, none⟩, cap, rfl, ⟨h.parts, .inr ⟨g, 0, rfl, hlt, fun j u hu => ?_⟩⟩, hle, hm⟩
    have hj : j < xs.length * 4 := by
      have := (List.getElem?_eq_some_iff.1 hu).1
      rw [ecl_length] at this
      exact this
    rw [← hu, ← htk, List.getElem?_take_of_lt hj]
    simp [World.cell?, hgg]
theorem OE.own {w : World} {base : Nat} {v : Value} {xs : List EA} (h : OE w base v xs) : ∀ g, v.ownBlock = some g → base ≤ g := by
  intro g hg
  rcases h.row.2 with ⟨rfl, _⟩ | ⟨g', cap, cur, rfl, hb, _⟩
  · simp [Value.ownBlock] at hg
  · simp [Value.ownBlock] at hg
    subst hg
    exact hb

theorem append_ents (w : World) {ops : Array Oper} {rest : List Oper} {o : Oper} {a : Act} {Q : Exit → Act → World → Prop} (hgd : o.guard = none) (s x : Operand)
    (ho : o.op = .call { callee := .builtin .append, args := #[s, x], argTypes := #[22, 22] })
    (base : Nat) (v : Value) (xs : List EA) (hs : a.eval s = v) (hown : OE w base v xs) (hpx : ∀ y ∈ xs, ∀ w', Below base w w' → EV w' y.v y.e)
    (ys : List EA) (n : Nat) (hn : ys.length = n) (p : Option Addr) (c : Nat) (hN : EAL w p ys) (hpy : ∀ y ∈ ys, ∀ w', Below base w w' → EV w' y.v y.e) (hp0 : p = none → c = 0)
    (hx : a.eval x = .slice p n c) (hlen : (xs.length + ys.length) * 80 ≤ 140737488355328) (hbase : base ≤ w.heap.size)
    (h : ∀ v' w', OE w' base v' (xs ++ ys) → Below base w w' → wpList Try.prog ops Q rest (a.put o.dst v') w') : wpList Try.prog ops Q (o :: rest) a w := by
  subst hn
  obtain ⟨i0, hi, hz0, hz1, hz2⟩ := info_parts Try.infoEnt
  cases p with
  | none =>
    have hy : ys = [] := by
      rcases hN.lies with h | ⟨b, off, h1, _⟩
      · exact h
      · cases h1
    subst hy
    rw [hp0 rfl] at hx
    refine wpList_append_own_none hgd s x 22 ho base 36 i0 4 Try.underlying22 hi v xs.length (ecl xs) hs hown.row hx ?_
    exact h v w (by rw [List.append_nil]; exact hown) (Below.refl _ _)
  | some ad =>
    refine wpList_append_own _ hgd s x 22 ho base 36 i0 _ 4 80 Try.underlying22 hi hz0 hz1 hz2 rfl (by decide) v xs.length (ecl xs) hs hown.row ad ys.length c (ecl ys) hx (ecl_length ys) ?_ (ecl_one _) (by unfold maxLen; omega) (by omega) hbase ?_
    · intro j u hu
      rcases hN.lies with rfl | ⟨b, off, h1, _, h3⟩
      · simp [ecl] at hu
      · cases h1
        have hadd : (⟨b, off, none⟩ : Addr).add j = ⟨b, off + j, none⟩ := by unfold Addr.add; split <;> simp_all
        rw [hadd]; exact h3 j u hu
    · intro v' w' h1 h2 _
      have hb : Below base w w' := (Below.refl base w).grown h2 hbase (fun k hk => hown.own k hk)
      refine h v' w' ⟨?_, fun y hy => ?_⟩ hb
      · rw [ecl_append, List.length_append]; exact h1
      · rcases List.mem_append.1 hy with hy | hy
        · exact hpx y hy w' hb
        · exact hpy y hy w' hb
end Go.Proofs.Ytkpbholhempmmaa
