/- Kinds in a row of the call's own (written by gen_krow.py). A kind's type made another, in a row of the call's own. Acts in a row of the call's own (written by gen_krow.py). Acts behind a row of the call's own, at an operation. -/
import Derived.Test.YtpcikfpldmackaaDoorG20
import Derived.WalkKit
import Derived.OwnWalk
import Derived.Laws.AppendOwnNone
import Derived.Deep.Slices
import Derived.Test.YtpcikfpldmackaaDoorG12
import Derived.Test.YtpcikfpldmackaaDoorG14
namespace Go.Proofs.YtpcikfpldmackaaDoor
open Go.RowKit Go.Deep
set_option linter.unusedVariables false

theorem Tryd.infoKk : (Tryd.prog.info? 57).map (fun i => (i.zero, i.size, i.bytes)) = some (some (.agg #[.string ⟨#[]⟩, .slice none 0 0, .slice none 0 0]), 3, 64) := by kernel_rfl
/-- One with where its parts lie. -/
structure KkA where
  k : Kd
  p1 : Option Addr
  c1 : Nat
  p2 : Option Addr
  c2 : Nat
instance : Inhabited KkA := ⟨⟨⟨⟨#[]⟩, [], []⟩, none, 0, none, 0⟩⟩
def kkcl : List KkA → List Value
  | [] => []
  | x :: r => .string x.k.nm :: .slice x.p1 x.k.up.length x.c1 :: .slice x.p2 x.k.ty.length x.c2 :: kkcl r
theorem kkcl_length : ∀ L : List KkA, (kkcl L).length = L.length * 3
  | [] => rfl
  | u :: r => by simp only [kkcl, List.length_cons, kkcl_length r]; omega
theorem kkcl_append : ∀ L M : List KkA, kkcl (L ++ M) = kkcl L ++ kkcl M
  | [], _ => rfl
  | u :: r, M => by simp [kkcl, kkcl_append r M]
theorem kkcl_one : ∀ L : List KkA, ∀ u ∈ kkcl L, u.oneCell' = true
  | [], u, h => by cases h
  | x :: r, u, h => by
    simp only [kkcl, List.mem_cons] at h
    rcases h with rfl | rfl | rfl | h
    · rfl
    · rfl
    · rfl
    · exact kkcl_one r u h
theorem kkcl_at : ∀ (L : List KkA) (i : Nat) (x : KkA), L[i]? = some x → (kkcl L)[i * 3]? = some (.string x.k.nm) ∧ (kkcl L)[i * 3 + 1]? = some (.slice x.p1 x.k.up.length x.c1) ∧ (kkcl L)[i * 3 + 2]? = some (.slice x.p2 x.k.ty.length x.c2)
  | [], i, x, h => by simp at h
  | y :: r, 0, x, h => by simp at h; subst h; exact ⟨rfl, rfl, rfl⟩
  | y :: r, i + 1, x, h => by
    have e : (i + 1) * 3 = i * 3 + 1 + 1 + 1 := by omega
    rw [e]
    simp only [kkcl, List.getElem?_cons_succ] at h ⊢
    exact kkcl_at r i x h
/-- They lie behind an address. -/
structure KkAL (w : World) (p : Option Addr) (xs : List KkA) : Prop where
  parts : ∀ x ∈ xs, KdV w x.k x.p1 x.c1 x.p2 x.c2
  lies : xs = [] ∨ ∃ b off, p = some ⟨b, off, none⟩ ∧ b < w.heap.size ∧ ∀ j u, (kkcl xs)[j]? = some u → w.cell? ⟨b, off + j, none⟩ = some u
theorem KkAL.up {w w' : World} {p : Option Addr} {xs : List KkA} (h : KkAL w p xs) (k : Below w.heap.size w w') : KkAL w' p xs := by
  refine ⟨fun x hx => (h.parts x hx).up k, ?_⟩
  rcases h.lies with h | ⟨b, off, h1, h2, h3⟩
  · exact .inl h
  · exact .inr ⟨b, off, h1, Nat.lt_of_lt_of_le h2 k.size, fun j u hu => (k.cell (p := ⟨b, off + j, none⟩) h2).trans (h3 j u hu)⟩
theorem KdL.parts {w : World} {p : Option Addr} {ks : List Kd} (h : KdL w p ks) : ∃ xs : List KkA, xs.map (·.k) = ks ∧ KkAL w p xs := by
  rcases h with rfl | ⟨b, off, h1, h2, h3⟩
  · exact ⟨[], rfl, ⟨fun x hx => (by cases hx), .inl rfl⟩⟩
  · obtain ⟨Y, hY⟩ := choose_lt (α := KkA) (n := ks.length) (p := fun i y => ks[i]? = some y.k ∧ KdV w y.k y.p1 y.c1 y.p2 y.c2 ∧ w.cell? ⟨b, off + i * 3, none⟩ = some (.string y.k.nm) ∧ w.cell? ⟨b, off + i * 3 + 1, none⟩ = some (.slice y.p1 y.k.up.length y.c1) ∧ w.cell? ⟨b, off + i * 3 + 2, none⟩ = some (.slice y.p2 y.k.ty.length y.c2)) (fun i hi => by
      obtain ⟨q1, d1, q2, d2, k0, kk⟩ := h3 i ks[i] (List.getElem?_eq_getElem hi)
      exact ⟨⟨ks[i], q1, d1, q2, d2⟩, List.getElem?_eq_getElem hi, k0, kk⟩)
    have hget : ∀ i, i < ks.length → ((List.range ks.length).map Y)[i]? = some (Y i) := fun i hi => by simp [hi]
    refine ⟨(List.range ks.length).map Y, ?_, fun x hx => ?_, .inr ⟨b, off, h1, h2, fun j u hu => ?_⟩⟩
    · apply List.ext_getElem?
      intro i
      by_cases hi : i < ks.length
      · rw [List.getElem?_map, hget i hi]
        exact (hY i hi).1.symm
      · rw [List.getElem?_eq_none (by simpa using hi), List.getElem?_eq_none (by simpa using hi)]
    · obtain ⟨i, hi, rfl⟩ := List.mem_map.1 hx
      exact (hY i (List.mem_range.1 hi)).2.1
    · have hj : j < ks.length * 3 := by
        have := (List.getElem?_eq_some_iff.1 hu).1
        rw [kkcl_length] at this
        simpa using this
      have hi : j / 3 < ks.length := by omega
      obtain ⟨_, _, c0, c1, c2⟩ := hY (j / 3) hi
      obtain ⟨k0, k1, k2⟩ := kkcl_at _ (j / 3) _ (hget (j / 3) hi)
      have hm : j % 3 = 0 ∨ j % 3 = 1 ∨ j % 3 = 2 := by omega
      rcases hm with h0 | h0 | h0
      · rw [show j = j / 3 * 3 by omega] at hu ⊢
        rw [k0] at hu; cases hu; exact c0
      · rw [show j = j / 3 * 3 + 1 by omega] at hu ⊢
        rw [k1] at hu; cases hu; exact c1
      · rw [show j = j / 3 * 3 + 2 by omega] at hu ⊢
        rw [k2] at hu; cases hu; exact c2
theorem KkAL.all {w : World} {p : Option Addr} {xs : List KkA} (h : KkAL w p xs) : KdL w p (xs.map (·.k)) := by
  rcases h.lies with rfl | ⟨b, off, h1, h2, h3⟩
  · exact .inl rfl
  · refine .inr ⟨b, off, h1, h2, fun i e he => ?_⟩
    rw [List.getElem?_map] at he
    cases hx : xs[i]? with
    | none => rw [hx] at he; cases he
    | some x =>
      rw [hx] at he
      cases he
      obtain ⟨k0, k1, k2⟩ := kkcl_at xs i x hx
      exact ⟨x.p1, x.c1, x.p2, x.c2, h.parts x (List.mem_of_getElem? hx), h3 _ _ k0, h3 _ _ k1, h3 _ _ k2⟩
/-- In a row of the call's own. -/
structure OKk (w : World) (base : Nat) (v : Value) (xs : List KkA) : Prop where
  row : w.ownsRow base 57 3 v xs.length (kkcl xs)
  parts : ∀ x ∈ xs, KdV w x.k x.p1 x.c1 x.p2 x.c2
theorem OKk.slice {w : World} {base : Nat} {v : Value} {xs : List KkA} (h : OKk w base v xs) : ∃ q c, v = .slice q xs.length c ∧ KkAL w q xs ∧ xs.length ≤ c ∧ c ≤ maxLen := by
  rcases h.row.2 with ⟨rfl, hn⟩ | ⟨g, cap, cur, rfl, hb, hgg, hle, hm, hsz, htk⟩
  · obtain rfl := List.eq_nil_of_length_eq_zero hn
    exact ⟨none, 0, rfl, ⟨fun x hx => (by cases hx), .inl rfl⟩, Nat.le_refl _, Nat.zero_le _⟩
  · have hlt := (Array.getElem?_eq_some_iff.1 hgg).1
    refine ⟨some ⟨g, 0, none⟩, cap, rfl, ⟨h.parts, .inr ⟨g, 0, rfl, hlt, fun j u hu => ?_⟩⟩, hle, hm⟩
    have hj : j < xs.length * 3 := by
      have := (List.getElem?_eq_some_iff.1 hu).1
      rw [kkcl_length] at this
      exact this
    rw [← hu, ← htk, List.getElem?_take_of_lt hj]
    simp [World.cell?, hgg]
theorem OKk.own {w : World} {base : Nat} {v : Value} {xs : List KkA} (h : OKk w base v xs) : ∀ g, v.ownBlock = some g → base ≤ g := by
  intro g hg
  rcases h.row.2 with ⟨rfl, _⟩ | ⟨g', cap, cur, rfl, hb, _⟩
  · simp [Value.ownBlock] at hg
  · simp [Value.ownBlock] at hg
    subst hg
    exact hb
theorem OKk.none (w : World) (base : Nat) (hb : base ≤ w.heap.size) : OKk (w.alloc (.cells #[] 57)) base (.slice (some ⟨w.heap.size, 0, none⟩) 0 0) [] :=
  ⟨World.ownsRow_made w #[] 0 hb (Nat.zero_le _) (by simp), fun x hx => (by cases hx)⟩
theorem OKk.below {w w' : World} {base : Nat} {v : Value} {xs : List KkA} (h : OKk w base v xs) (k : Below w.heap.size w w') : OKk w' base v xs := by
  refine ⟨⟨h.row.1, ?_⟩, fun x hx => (h.parts x hx).up k⟩
  rcases h.row.2 with hn | ⟨g, cap, cur, rfl, hb, hgg, rest⟩
  · exact .inl hn
  · exact .inr ⟨g, cap, cur, rfl, hb, (k.block g (Array.getElem?_eq_some_iff.1 hgg).1).trans hgg, rest⟩
theorem append_kinds (w : World) {ops : Array Oper} {rest : List Oper} {o : Oper} {a : Act} {Q : Exit → Act → World → Prop} (hgd : o.guard = none) (s x : Operand)
    (ho : o.op = .call { callee := .builtin .append, args := #[s, x], argTypes := #[34, 34] })
    (base : Nat) (v : Value) (xs : List KkA) (hs : a.eval s = v) (hown : OKk w base v xs) (hpx : ∀ y ∈ xs, ∀ w', Below base w w' → KdV w' y.k y.p1 y.c1 y.p2 y.c2)
    (ys : List KkA) (n : Nat) (hn : ys.length = n) (p : Option Addr) (c : Nat) (hN : KkAL w p ys) (hpy : ∀ y ∈ ys, ∀ w', Below base w w' → KdV w' y.k y.p1 y.c1 y.p2 y.c2) (hp0 : p = none → c = 0)
    (hx : a.eval x = .slice p n c) (hlen : xs.length + ys.length ≤ 1000) (hbase : base ≤ w.heap.size)
    (h : ∀ v' w', OKk w' base v' (xs ++ ys) → Below base w w' → wpList Tryd.prog ops Q rest (a.put o.dst v') w') : wpList Tryd.prog ops Q (o :: rest) a w := by
  subst hn
  obtain ⟨i0, hi, hz0, hz1, hz2⟩ := info_parts Tryd.infoKk
  cases p with
  | none =>
    have hy : ys = [] := by
      rcases hN.lies with h | ⟨b, off, h1, _⟩
      · exact h
      · cases h1
    subst hy
    rw [hp0 rfl] at hx
    refine wpList_append_own_none hgd s x 34 ho base 57 i0 3 Tryd.underlying34 hi v xs.length (kkcl xs) hs hown.row hx ?_
    exact h v w (by rw [List.append_nil]; exact hown) (Below.refl _ _)
  | some ad =>
    refine wpList_append_own _ hgd s x 34 ho base 57 i0 _ 3 64 Tryd.underlying34 hi hz0 hz1 hz2 rfl (by decide) v xs.length (kkcl xs) hs hown.row ad ys.length c (kkcl ys) hx (kkcl_length ys) ?_ (kkcl_one _) (by unfold maxLen; omega) (by omega) hbase ?_
    · intro j u hu
      rcases hN.lies with rfl | ⟨b, off, h1, _, h3⟩
      · simp [kkcl] at hu
      · cases h1
        have hadd : (⟨b, off, none⟩ : Addr).add j = ⟨b, off + j, none⟩ := by unfold Addr.add; split <;> simp_all
        rw [hadd]; exact h3 j u hu
    · intro v' w' h1 h2 _
      have hb : Below base w w' := (Below.refl base w).grown h2 hbase (fun k hk => hown.own k hk)
      refine h v' w' ⟨?_, fun y hy => ?_⟩ hb
      · rw [kkcl_append, List.length_append]; exact h1
      · rcases List.mem_append.1 hy with hy | hy
        · exact hpx y hy w' hb
        · exact hpy y hy w' hb
end Go.Proofs.YtpcikfpldmackaaDoor
namespace Go.Proofs.YtpcikfpldmackaaDoor
open Go.RowKit Go.Deep
set_option linter.unusedVariables false

theorem okk_put {w : World} {base : Nat} {v : Value} {xs : List KkA} (h : OKk w base v xs) {k : Nat} (hk : k < xs.length) {t : List Nd} {pt : Option Addr} {ct : Nat} (hpx : ∀ y ∈ xs, ∀ w', Below base w w' → KdV w' y.k y.p1 y.c1 y.p2 y.c2) (hT : ∀ w', Below base w w' → AK w' t pt ct) :
    ∃ g cap, v = .slice (some ⟨g, 0, none⟩) xs.length cap ∧ g < w.heap.size ∧ base ≤ g ∧ xs.length ≤ cap ∧ cap ≤ maxLen ∧ w.frozen? ⟨g, k * 3 + 2, none⟩ = false ∧ w.cell? ⟨g, k * 3 + 2, none⟩ = some (.slice xs[k].p2 xs[k].k.ty.length xs[k].c2) ∧
      ∀ w', w' = w.setCell ⟨g, k * 3 + 2, none⟩ (.slice pt t.length ct) → KdL w' (some ⟨g, 0, none⟩) ((xs.map (·.k)).modify k (·.put t)) ∧ Below base w w' := by
  have hn := h.row.1
  rcases h.row.2 with ⟨_, h0⟩ | ⟨g, cap, cur, rfl, hb, hh, h1, h2, h3, h4⟩
  · omega
  have hlt := (Array.getElem?_eq_some_iff.1 hh).1
  have hcl : ∀ (j : Nat) (u : Value), (kkcl xs)[j]? = some u → cur[j]? = some u := by
    intro j u hu
    have hj : j < xs.length * 3 := by
      have := (List.getElem?_eq_some_iff.1 hu).1
      rw [kkcl_length] at this
      exact this
    rw [← h4, List.getElem?_take_of_lt hj] at hu
    simpa using hu
  obtain ⟨_, _, k2⟩ := kkcl_at xs k xs[k] (List.getElem?_eq_getElem hk)
  refine ⟨g, cap, rfl, hlt, hb, h1, h2, by simp [World.frozen?, hh], ?_, ?_⟩
  · have := hcl _ _ k2
    simp only [World.cell?, hh]
    simpa using this
  · intro w' hw
    have e1 := heap_setCell_same w g (k * 3 + 2) _ _ (.slice pt t.length ct) hh
    have hbw : Below base w w' := by rw [hw]; exact (Below.refl _ _).setCell (p := ⟨g, k * 3 + 2, none⟩) hb _
    rw [← hw] at e1
    have hlt' := (Array.getElem?_eq_some_iff.1 e1).1
    refine ⟨.inr ⟨g, 0, rfl, hlt', fun i e he => ?_⟩, hbw⟩
    rw [List.getElem?_modify, List.getElem?_map] at he
    cases hx : xs[i]? with
    | none => rw [hx] at he; simp at he
    | some x =>
      rw [hx] at he
      obtain ⟨q0, q1, q2⟩ := kkcl_at xs i x hx
      have hm := List.mem_of_getElem? hx
      have hc : ∀ (j : Nat) (u : Value), j ≠ k * 3 + 2 → (kkcl xs)[j]? = some u → w'.cell? ⟨g, 0 + j, none⟩ = some u := by
        intro j u hj hu
        have := hcl _ _ hu
        rw [Nat.zero_add]
        simp only [World.cell?, e1]
        simp only [Array.getElem?_setIfInBounds]
        rw [if_neg (show ¬ k * 3 + 2 = j from fun e => hj e.symm)]
        simpa using this
      by_cases hik : k = i
      · subst hik
        simp only [if_pos, Option.map_some, Option.map_eq_map, Option.some.injEq] at he
        subst he
        refine ⟨x.p1, x.c1, pt, ct, ⟨(hpx x hm w' hbw).nm, (hpx x hm w' hbw).us, hT w' hbw⟩, hc _ _ (by omega) q0, ?_, ?_⟩
        · have := hc _ _ (by omega) q1
          rw [← Nat.add_assoc] at this
          exact this
        · have hs : k * 3 + 2 < cur.size := by
            have := hcl _ _ q2
            exact (Array.getElem?_eq_some_iff.1 this).1
          rw [show 0 + k * 3 + 2 = k * 3 + 2 by omega]
          simp only [World.cell?, e1]
          simp [Kd.put, hs]
      · simp only [if_neg hik, Option.map_some, Option.map_eq_map, Option.some.injEq] at he
        subst he
        refine ⟨x.p1, x.c1, x.p2, x.c2, hpx x hm w' hbw, hc _ _ (by omega) q0, ?_, ?_⟩
        · have := hc _ _ (by omega) q1
          rw [← Nat.add_assoc] at this
          exact this
        · have := hc _ _ (by omega) q2
          rw [← Nat.add_assoc] at this
          exact this
end Go.Proofs.YtpcikfpldmackaaDoor
namespace Go.Proofs.YtpcikfpldmackaaDoor
open Go.RowKit Go.Deep
set_option linter.unusedVariables false

theorem Tryd.infoKa : (Tryd.prog.info? 45).map (fun i => (i.zero, i.size, i.bytes)) = some (some (.agg #[.string ⟨#[]⟩, .slice none 0 0, .slice none 0 0, .slice none 0 0]), 4, 88) := by kernel_rfl
/-- One with where its parts lie. -/
structure KaA where
  k : Ac
  p1 : Option Addr
  c1 : Nat
  p2 : Option Addr
  c2 : Nat
  p3 : Option Addr
  c3 : Nat
instance : Inhabited KaA := ⟨⟨⟨⟨#[]⟩, [], [], []⟩, none, 0, none, 0, none, 0⟩⟩
def kacl : List KaA → List Value
  | [] => []
  | x :: r => .string x.k.id :: .slice x.p1 x.k.who.length x.c1 :: .slice x.p2 x.k.what.length x.c2 :: .slice x.p3 x.k.cx.length x.c3 :: kacl r
theorem kacl_length : ∀ L : List KaA, (kacl L).length = L.length * 4
  | [] => rfl
  | u :: r => by simp only [kacl, List.length_cons, kacl_length r]; omega
theorem kacl_append : ∀ L M : List KaA, kacl (L ++ M) = kacl L ++ kacl M
  | [], _ => rfl
  | u :: r, M => by simp [kacl, kacl_append r M]
theorem kacl_one : ∀ L : List KaA, ∀ u ∈ kacl L, u.oneCell' = true
  | [], u, h => by cases h
  | x :: r, u, h => by
    simp only [kacl, List.mem_cons] at h
    rcases h with rfl | rfl | rfl | rfl | h
    · rfl
    · rfl
    · rfl
    · rfl
    · exact kacl_one r u h
theorem kacl_at : ∀ (L : List KaA) (i : Nat) (x : KaA), L[i]? = some x → (kacl L)[i * 4]? = some (.string x.k.id) ∧ (kacl L)[i * 4 + 1]? = some (.slice x.p1 x.k.who.length x.c1) ∧ (kacl L)[i * 4 + 2]? = some (.slice x.p2 x.k.what.length x.c2) ∧ (kacl L)[i * 4 + 3]? = some (.slice x.p3 x.k.cx.length x.c3)
  | [], i, x, h => by simp at h
  | y :: r, 0, x, h => by simp at h; subst h; exact ⟨rfl, rfl, rfl, rfl⟩
  | y :: r, i + 1, x, h => by
    have e : (i + 1) * 4 = i * 4 + 1 + 1 + 1 + 1 := by omega
    rw [e]
    simp only [kacl, List.getElem?_cons_succ] at h ⊢
    exact kacl_at r i x h
/-- They lie behind an address. -/
structure KaAL (w : World) (p : Option Addr) (xs : List KaA) : Prop where
  parts : ∀ x ∈ xs, AcV w x.k x.p1 x.c1 x.p2 x.c2 x.p3 x.c3
  lies : xs = [] ∨ ∃ b off, p = some ⟨b, off, none⟩ ∧ b < w.heap.size ∧ ∀ j u, (kacl xs)[j]? = some u → w.cell? ⟨b, off + j, none⟩ = some u
theorem KaAL.up {w w' : World} {p : Option Addr} {xs : List KaA} (h : KaAL w p xs) (k : Below w.heap.size w w') : KaAL w' p xs := by
  refine ⟨fun x hx => (h.parts x hx).up k, ?_⟩
  rcases h.lies with h | ⟨b, off, h1, h2, h3⟩
  · exact .inl h
  · exact .inr ⟨b, off, h1, Nat.lt_of_lt_of_le h2 k.size, fun j u hu => (k.cell (p := ⟨b, off + j, none⟩) h2).trans (h3 j u hu)⟩
theorem AcL.parts {w : World} {p : Option Addr} {ks : List Ac} (h : AcL w p ks) : ∃ xs : List KaA, xs.map (·.k) = ks ∧ KaAL w p xs := by
  rcases h with rfl | ⟨b, off, h1, h2, h3⟩
  · exact ⟨[], rfl, ⟨fun x hx => (by cases hx), .inl rfl⟩⟩
  · obtain ⟨Y, hY⟩ := choose_lt (α := KaA) (n := ks.length) (p := fun i y => ks[i]? = some y.k ∧ AcV w y.k y.p1 y.c1 y.p2 y.c2 y.p3 y.c3 ∧ w.cell? ⟨b, off + i * 4, none⟩ = some (.string y.k.id) ∧ w.cell? ⟨b, off + i * 4 + 1, none⟩ = some (.slice y.p1 y.k.who.length y.c1) ∧ w.cell? ⟨b, off + i * 4 + 2, none⟩ = some (.slice y.p2 y.k.what.length y.c2) ∧ w.cell? ⟨b, off + i * 4 + 3, none⟩ = some (.slice y.p3 y.k.cx.length y.c3)) (fun i hi => by
      obtain ⟨q1, d1, q2, d2, q3, d3, k0, kk⟩ := h3 i ks[i] (List.getElem?_eq_getElem hi)
      exact ⟨⟨ks[i], q1, d1, q2, d2, q3, d3⟩, List.getElem?_eq_getElem hi, k0, kk⟩)
    have hget : ∀ i, i < ks.length → ((List.range ks.length).map Y)[i]? = some (Y i) := fun i hi => by simp [hi]
    refine ⟨(List.range ks.length).map Y, ?_, fun x hx => ?_, .inr ⟨b, off, h1, h2, fun j u hu => ?_⟩⟩
    · apply List.ext_getElem?
      intro i
      by_cases hi : i < ks.length
      · rw [List.getElem?_map, hget i hi]
        exact (hY i hi).1.symm
      · rw [List.getElem?_eq_none (by simpa using hi), List.getElem?_eq_none (by simpa using hi)]
    · obtain ⟨i, hi, rfl⟩ := List.mem_map.1 hx
      exact (hY i (List.mem_range.1 hi)).2.1
    · have hj : j < ks.length * 4 := by
        have := (List.getElem?_eq_some_iff.1 hu).1
        rw [kacl_length] at this
        simpa using this
      have hi : j / 4 < ks.length := by omega
      obtain ⟨_, _, c0, c1, c2, c3⟩ := hY (j / 4) hi
      obtain ⟨k0, k1, k2, k3⟩ := kacl_at _ (j / 4) _ (hget (j / 4) hi)
      have hm : j % 4 = 0 ∨ j % 4 = 1 ∨ j % 4 = 2 ∨ j % 4 = 3 := by omega
      rcases hm with h0 | h0 | h0 | h0
      · rw [show j = j / 4 * 4 by omega] at hu ⊢
        rw [k0] at hu; cases hu; exact c0
      · rw [show j = j / 4 * 4 + 1 by omega] at hu ⊢
        rw [k1] at hu; cases hu; exact c1
      · rw [show j = j / 4 * 4 + 2 by omega] at hu ⊢
        rw [k2] at hu; cases hu; exact c2
      · rw [show j = j / 4 * 4 + 3 by omega] at hu ⊢
        rw [k3] at hu; cases hu; exact c3
theorem KaAL.all {w : World} {p : Option Addr} {xs : List KaA} (h : KaAL w p xs) : AcL w p (xs.map (·.k)) := by
  rcases h.lies with rfl | ⟨b, off, h1, h2, h3⟩
  · exact .inl rfl
  · refine .inr ⟨b, off, h1, h2, fun i e he => ?_⟩
    rw [List.getElem?_map] at he
    cases hx : xs[i]? with
    | none => rw [hx] at he; cases he
    | some x =>
      rw [hx] at he
      cases he
      obtain ⟨k0, k1, k2, k3⟩ := kacl_at xs i x hx
      exact ⟨x.p1, x.c1, x.p2, x.c2, x.p3, x.c3, h.parts x (List.mem_of_getElem? hx), h3 _ _ k0, h3 _ _ k1, h3 _ _ k2, h3 _ _ k3⟩
/-- In a row of the call's own. -/
structure OKa (w : World) (base : Nat) (v : Value) (xs : List KaA) : Prop where
  row : w.ownsRow base 45 4 v xs.length (kacl xs)
  parts : ∀ x ∈ xs, AcV w x.k x.p1 x.c1 x.p2 x.c2 x.p3 x.c3
theorem OKa.slice {w : World} {base : Nat} {v : Value} {xs : List KaA} (h : OKa w base v xs) : ∃ q c, v = .slice q xs.length c ∧ KaAL w q xs ∧ xs.length ≤ c ∧ c ≤ maxLen := by
  rcases h.row.2 with ⟨rfl, hn⟩ | ⟨g, cap, cur, rfl, hb, hgg, hle, hm, hsz, htk⟩
  · obtain rfl := List.eq_nil_of_length_eq_zero hn
    exact ⟨none, 0, rfl, ⟨fun x hx => (by cases hx), .inl rfl⟩, Nat.le_refl _, Nat.zero_le _⟩
  · have hlt := (Array.getElem?_eq_some_iff.1 hgg).1
    refine ⟨some ⟨g, 0, none⟩, cap, rfl, ⟨h.parts, .inr ⟨g, 0, rfl, hlt, fun j u hu => ?_⟩⟩, hle, hm⟩
    have hj : j < xs.length * 4 := by
      have := (List.getElem?_eq_some_iff.1 hu).1
      rw [kacl_length] at this
      exact this
    rw [← hu, ← htk, List.getElem?_take_of_lt hj]
    simp [World.cell?, hgg]
theorem OKa.own {w : World} {base : Nat} {v : Value} {xs : List KaA} (h : OKa w base v xs) : ∀ g, v.ownBlock = some g → base ≤ g := by
  intro g hg
  rcases h.row.2 with ⟨rfl, _⟩ | ⟨g', cap, cur, rfl, hb, _⟩
  · simp [Value.ownBlock] at hg
  · simp [Value.ownBlock] at hg
    subst hg
    exact hb
theorem OKa.none (w : World) (base : Nat) (hb : base ≤ w.heap.size) : OKa (w.alloc (.cells #[] 45)) base (.slice (some ⟨w.heap.size, 0, none⟩) 0 0) [] :=
  ⟨World.ownsRow_made w #[] 0 hb (Nat.zero_le _) (by simp), fun x hx => (by cases hx)⟩
theorem OKa.below {w w' : World} {base : Nat} {v : Value} {xs : List KaA} (h : OKa w base v xs) (k : Below w.heap.size w w') : OKa w' base v xs := by
  refine ⟨⟨h.row.1, ?_⟩, fun x hx => (h.parts x hx).up k⟩
  rcases h.row.2 with hn | ⟨g, cap, cur, rfl, hb, hgg, rest⟩
  · exact .inl hn
  · exact .inr ⟨g, cap, cur, rfl, hb, (k.block g (Array.getElem?_eq_some_iff.1 hgg).1).trans hgg, rest⟩
theorem append_acts (w : World) {ops : Array Oper} {rest : List Oper} {o : Oper} {a : Act} {Q : Exit → Act → World → Prop} (hgd : o.guard = none) (s x : Operand)
    (ho : o.op = .call { callee := .builtin .append, args := #[s, x], argTypes := #[35, 35] })
    (base : Nat) (v : Value) (xs : List KaA) (hs : a.eval s = v) (hown : OKa w base v xs) (hpx : ∀ y ∈ xs, ∀ w', Below base w w' → AcV w' y.k y.p1 y.c1 y.p2 y.c2 y.p3 y.c3)
    (ys : List KaA) (n : Nat) (hn : ys.length = n) (p : Option Addr) (c : Nat) (hN : KaAL w p ys) (hpy : ∀ y ∈ ys, ∀ w', Below base w w' → AcV w' y.k y.p1 y.c1 y.p2 y.c2 y.p3 y.c3) (hp0 : p = none → c = 0)
    (hx : a.eval x = .slice p n c) (hlen : xs.length + ys.length ≤ 1000) (hbase : base ≤ w.heap.size)
    (h : ∀ v' w', OKa w' base v' (xs ++ ys) → Below base w w' → wpList Tryd.prog ops Q rest (a.put o.dst v') w') : wpList Tryd.prog ops Q (o :: rest) a w := by
  subst hn
  obtain ⟨i0, hi, hz0, hz1, hz2⟩ := info_parts Tryd.infoKa
  cases p with
  | none =>
    have hy : ys = [] := by
      rcases hN.lies with h | ⟨b, off, h1, _⟩
      · exact h
      · cases h1
    subst hy
    rw [hp0 rfl] at hx
    refine wpList_append_own_none hgd s x 35 ho base 45 i0 4 Tryd.underlying35 hi v xs.length (kacl xs) hs hown.row hx ?_
    exact h v w (by rw [List.append_nil]; exact hown) (Below.refl _ _)
  | some ad =>
    refine wpList_append_own _ hgd s x 35 ho base 45 i0 _ 4 88 Tryd.underlying35 hi hz0 hz1 hz2 rfl (by decide) v xs.length (kacl xs) hs hown.row ad ys.length c (kacl ys) hx (kacl_length ys) ?_ (kacl_one _) (by unfold maxLen; omega) (by omega) hbase ?_
    · intro j u hu
      rcases hN.lies with rfl | ⟨b, off, h1, _, h3⟩
      · simp [kacl] at hu
      · cases h1
        have hadd : (⟨b, off, none⟩ : Addr).add j = ⟨b, off + j, none⟩ := by unfold Addr.add; split <;> simp_all
        rw [hadd]; exact h3 j u hu
    · intro v' w' h1 h2 _
      have hb : Below base w w' := (Below.refl base w).grown h2 hbase (fun k hk => hown.own k hk)
      refine h v' w' ⟨?_, fun y hy => ?_⟩ hb
      · rw [kacl_append, List.length_append]; exact h1
      · rcases List.mem_append.1 hy with hy | hy
        · exact hpx y hy w' hb
        · exact hpy y hy w' hb
end Go.Proofs.YtpcikfpldmackaaDoor
namespace Go.Proofs.YtpcikfpldmackaaDoor
open Go.RowKit Go.Deep
set_option linter.unusedVariables false

/-- Acts' cells lie there. -/
def KaC (w : World) (p : Option Addr) (ys : List KaA) : Prop := ys = [] ∨ ∃ b off, p = some ⟨b, off, none⟩ ∧ b < w.heap.size ∧ ∀ j u, (kacl ys)[j]? = some u → w.cell? ⟨b, off + j, none⟩ = some u
theorem KaC.up {w w' : World} {p : Option Addr} {ys : List KaA} (h : KaC w p ys) (k : Below w.heap.size w w') : KaC w' p ys := by
  rcases h with h | ⟨b, off, h1, h2, h3⟩
  · exact .inl h
  · exact .inr ⟨b, off, h1, Nat.lt_of_lt_of_le h2 k.size, fun j u hu => (k.cell (p := ⟨b, off + j, none⟩) h2).trans (h3 j u hu)⟩
theorem wp_append_acts (w : World) {o : Oper} {a : Act} {K : Act → World → Prop} {Q : Exit → Act → World → Prop} (s x : Operand)
    (ho : o.op = .call { callee := .builtin .append, args := #[s, x], argTypes := #[35, 35] })
    (base : Nat) (v : Value) (xs : List KaA) (hs : a.eval s = v) (hown : w.ownsRow base 45 4 v xs.length (kacl xs)) (ys : List KaA) (n : Nat) (hn : ys.length = n) (p : Option Addr) (c : Nat) (hN : KaC w p ys) (hp0 : p = none → c = 0)
    (hx : a.eval x = .slice p n c) (hlen : xs.length + ys.length ≤ 1000) (hbase : base ≤ w.heap.size)
    (h : ∀ v' w', w'.ownsRow base 45 4 v' (xs ++ ys).length (kacl (xs ++ ys)) → w.grownBy w' v.ownBlock → (v'.ownBlock = v.ownBlock ∨ v'.ownBlock = some w.heap.size) → K (a.put o.dst v') w') : o.wp Tryd.prog a w K Q := by
  subst hn
  obtain ⟨i0, hi, hz0, hz1, hz2⟩ := info_parts Tryd.infoKa
  cases p with
  | none =>
    have hy : ys = [] := by
      rcases hN with h | ⟨b, off, h1, _⟩
      · exact h
      · cases h1
    subst hy
    rw [hp0 rfl] at hx
    refine wp_append_none w s x 35 ho base 45 i0 4 Tryd.underlying35 hi v xs.length (kacl xs) hs hown hx ?_
    exact h v w (by rw [List.append_nil]; exact hown) ⟨rfl, rfl, rfl, Nat.le_refl _, fun _ _ _ => rfl⟩ (.inl rfl)
  | some ad =>
    refine wp_append_at w s x 35 ho base 45 i0 _ 4 88 Tryd.underlying35 hi hz0 hz1 hz2 rfl (by decide) v xs.length (kacl xs) hs hown ad ys.length c (kacl ys) hx (kacl_length ys) ?_ (kacl_one _) (by unfold maxLen; omega) (by omega) hbase ?_
    · intro j u hu
      rcases hN with rfl | ⟨b, off, h1, _, h3⟩
      · simp [kacl] at hu
      · cases h1
        have hadd : (⟨b, off, none⟩ : Addr).add j = ⟨b, off + j, none⟩ := by unfold Addr.add; split <;> simp_all
        rw [hadd]; exact h3 j u hu
    · intro v' w' h1 h2 h3
      refine h v' w' ?_ h2 h3
      rw [kacl_append, List.length_append]; exact h1
/-- A row of acts is a list of them. -/
theorem acts_of_row {w : World} {base : Nat} {v : Value} {xs : List KaA} (h : w.ownsRow base 45 4 v xs.length (kacl xs)) (hp : ∀ x ∈ xs, AcV w x.k x.p1 x.c1 x.p2 x.c2 x.p3 x.c3) : ∃ q c, v = .slice q xs.length c ∧ AcL w q (xs.map (·.k)) ∧ xs.length ≤ c ∧ c ≤ maxLen := by
  obtain ⟨q, c, h1, h2, h3, h4⟩ := OKa.slice ⟨h, hp⟩
  exact ⟨q, c, h1, h2.all, h3, h4⟩
end Go.Proofs.YtpcikfpldmackaaDoor
