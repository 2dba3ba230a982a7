/- Nodes in a row of the call's own, and nodes appended to it. The statements' quick: the words of a line, without their places. Rows of words and of nodes of the call's own: one behind another. Whether two lists of nodes are the same: package wicketgatesame's Nodes, by a walk of its own text. Lists of lists of nodes in memory; the first of them that is no value. Rows that a call makes: lists of lists of nodes; what an append does to one of them, and that it leaves the others alone. A reader of words in memory: its block, what is kept but for it. Package phrase's reader: need, itself, ahead, says, passes, pass, take; by walks of their own texts. Package phrase's reader: pass, take; by walks of their own texts. Maps from texts to whole numbers, as the call lays them: made, put, looked up. -/
import Derived.Test.YtpbnjdgedifnoabGreatDoorG5
import Derived.Laws.AppendOwnNone
import Derived.Laws.StructEq
import Derived.Test.YtpbnjdgedifnoabGreatDoorG4
import Derived.Test.YtpbnjdgedifnoabGreatDoorG3
import Derived.StillTailTactics
import Derived.Deep.QuietTactic
import Derived.Maps.OwnSet
namespace Go.Proofs.YtpbnjdgedifnoabGreatDoor
open Go.RowKit
set_option linter.unusedVariables false

def ncells (L : List Nd) : List Value := L.flatMap fun x => [.int .i64 x.op, .int .i64 x.n, .string x.s, .string x.t]
theorem ncells_length (L : List Nd) : (ncells L).length = L.length * 4 := by
  induction L with
  | nil => rfl
  | cons x L ih => simp [ncells] at *; omega
theorem ncells_at (L : List Nd) (i j : Nat) (hj : j < 4) : (ncells L)[i * 4 + j]? = (L[i]?).bind fun x => [Value.int .i64 x.op, .int .i64 x.n, .string x.s, .string x.t][j]? := by
  induction L generalizing i with
  | nil => simp [ncells]
  | cons x L ih =>
    have e : ncells (x :: L) = [.int .i64 x.op, .int .i64 x.n, .string x.s, .string x.t] ++ ncells L := by simp [ncells]
    rw [e]
    cases i with
    | zero =>
      rw [List.getElem?_append_left (by simp; omega)]
      simp
    | succ i =>
      rw [List.getElem?_append_right (by simp; omega)]
      have := ih i
      simp only [List.length_cons, List.length_nil, List.getElem?_cons_succ]
      rw [← this]
      congr 1; omega
theorem ncells_one (L : List Nd) : ∀ u ∈ ncells L, u.oneCell' = true := by
  intro u hu
  simp only [ncells, List.mem_flatMap] at hu
  obtain ⟨x, _, hu⟩ := hu
  simp at hu
  rcases hu with rfl | rfl | rfl | rfl <;> rfl
theorem NL.cells {w : World} {b off : Nat} {L : List Nd} (h : NL w (some ⟨b, off, none⟩) L) : ∀ j u, (ncells L)[j]? = some u → w.cell? ⟨b, off + j, none⟩ = some u := by
  intro j u hu
  rcases h with rfl | ⟨b', o', h1, h2, h3⟩
  · simp [ncells] at hu
  · cases h1
    have hj : j = (j / 4) * 4 + j % 4 := by omega
    rw [hj, ncells_at L (j / 4) (j % 4) (by omega)] at hu
    cases hx : L[j / 4]? with
    | none => rw [hx] at hu; simp at hu
    | some x =>
      rw [hx] at hu
      obtain ⟨c0, c1, c2, c3, _⟩ := h3 _ x hx
      have hm : j % 4 = 0 ∨ j % 4 = 1 ∨ j % 4 = 2 ∨ j % 4 = 3 := by omega
      rw [hj]
      rcases hm with e | e | e | e <;> rw [e] at hu ⊢ <;> simp at hu <;> subst hu
      · exact c0
      · rw [← Nat.add_assoc]; exact c1
      · rw [← Nat.add_assoc]; exact c2
      · rw [← Nat.add_assoc]; exact c3

/-- The nodes of a row of the call's own. -/
theorem NL.of_row {w : World} {base : Nat} {v : Value} {L : List Nd} (hw : ∀ x ∈ L, x.wf) (h : w.ownsRow base 31 4 v L.length (ncells L)) : ∃ q c, v = .slice q L.length c ∧ NT w 0 q L ∧ L.length ≤ c ∧ c ≤ maxLen := by
  have hc := fun g hg => World.ownsRow.cells h (g := g) hg
  rcases h.2 with ⟨rfl, hn⟩ | ⟨g, cap, cur, rfl, hb, hgg, hle, hm, _⟩
  · obtain rfl := List.eq_nil_of_length_eq_zero hn
    exact ⟨none, 0, rfl, ⟨.inl rfl, .inl rfl⟩, Nat.le_refl _, Nat.zero_le _⟩
  · refine ⟨_, cap, rfl, ⟨.inr ⟨g, 0, rfl, (Array.getElem?_eq_some_iff.1 hgg).1, fun i x hx => ?_⟩, .inr ⟨g, 0, rfl, .inr ⟨cur, _, hgg⟩⟩⟩, hle, hm⟩
    have q : ∀ j, j < 4 → w.cell? ⟨g, i * 4 + j, none⟩ = [Value.int .i64 x.op, .int .i64 x.n, .string x.s, .string x.t][j]? := fun j hj => by
      have e := ncells_at L i j hj
      rw [hx] at e
      have hadd : (⟨g, 0, none⟩ : Addr).add (i * 4 + j) = ⟨g, i * 4 + j, none⟩ := by unfold Addr.add; split <;> simp_all
      obtain ⟨u, hu⟩ : ∃ u, [Value.int .i64 x.op, .int .i64 x.n, .string x.s, .string x.t][j]? = some u := ⟨_, List.getElem?_eq_getElem (by simpa using hj)⟩
      have := hc g rfl (i * 4 + j) u (by rw [e]; exact hu)
      rw [hadd] at this
      rw [this, hu]
    refine ⟨?_, ?_, ?_, ?_, hw x (List.mem_of_getElem? hx)⟩
    · have := q 0 (by omega); simpa using this
    · have := q 1 (by omega); simpa using this
    · have := q 2 (by omega); simpa using this
    · have := q 3 (by omega); simpa using this

theorem NT.any {w : World} {base : Nat} {q : Option Addr} {L : List Nd} (h : NT w 0 q L) : NT w base q L :=
  ⟨h.1, h.2.imp id fun ⟨b, o, h1, h2⟩ => ⟨b, o, h1, h2.elim (fun h => absurd h (Nat.not_lt_zero _)) .inr⟩⟩

theorem NL.wfs {w : World} {q : Option Addr} {L : List Nd} (h : NL w q L) : ∀ x ∈ L, x.wf := by
  intro x hx
  obtain ⟨i, hi⟩ := List.getElem?_of_mem hx
  rcases h with rfl | ⟨b, o, _, _, h3⟩
  · cases hx
  · exact (h3 i x hi).2.2.2.2

/-- Nodes in a row of the call's own. -/
def ON (w : World) (base : Nat) (v : Value) (L : List Nd) : Prop := w.ownsRow base 31 4 v L.length (ncells L) ∧ ∀ x ∈ L, x.wf

theorem ON.slice {w : World} {base : Nat} {v : Value} {L : List Nd} (h : ON w base v L) (hne : L ≠ []) : ∃ g cap, v = .slice (some ⟨g, 0, none⟩) L.length cap ∧ base ≤ g ∧ g < w.heap.size ∧ L.length ≤ cap ∧ cap ≤ maxLen ∧ NL w (some ⟨g, 0, none⟩) L ∧ ∀ j, w.frozen? ⟨g, j, none⟩ = false := by
  rcases h.1.2 with ⟨_, hn⟩ | ⟨g, cap, cur, hv, hb, hgg, hle, hm, _⟩
  · exact absurd (List.eq_nil_of_length_eq_zero hn) hne
  · obtain ⟨q, c, e, hnt, _⟩ := NL.of_row h.2 h.1
    rw [hv] at e
    cases e
    refine ⟨g, cap, hv, hb, (Array.getElem?_eq_some_iff.1 hgg).1, hle, hm, hnt.1, fun j => ?_⟩
    simp [World.frozen?, hgg]

theorem ncells_append (a b : List Nd) : ncells (a ++ b) = ncells a ++ ncells b := by simp [ncells]

theorem ON.typed {w : World} {base : Nat} {v : Value} {L : List Nd} (h : ON w base v L) : ∀ g, v.ownBlock = some g → base ≤ g ∧ Typed w g 31 := by
  intro g hg
  rcases h.1.2 with ⟨rfl, _⟩ | ⟨g', cap, cur, rfl, hb, hgg, _⟩
  · simp [Value.ownBlock] at hg
  · simp [Value.ownBlock] at hg
    subst hg
    exact ⟨hb, cur, _, hgg⟩
theorem ON.below {w w' : World} {base : Nat} {v : Value} {L : List Nd} (h : ON w base v L) (k : Below w.heap.size w w') : ON w' base v L := by
  refine ⟨⟨h.1.1, ?_⟩, h.2⟩
  rcases h.1.2 with hn | ⟨g, cap, cur, rfl, hb, hgg, rest⟩
  · exact .inl hn
  · exact .inr ⟨g, cap, cur, rfl, hb, (k.block g (Array.getElem?_eq_some_iff.1 hgg).1).trans hgg, rest⟩

theorem append_nodes (w : World) {ops : Array Oper} {rest : List Oper} {o : Oper} {a : Act} {Q : Exit → Act → World → Prop} (hgd : o.guard = none) (s x : Operand)
    (ho : o.op = .call { callee := .builtin .append, args := #[s, x], argTypes := #[23, 23] })
    (base : Nat) (v : Value) (L : List Nd) (hs : a.eval s = v) (hown : ON w base v L) (M : List Nd) (n : Nat) (hn : M.length = n) (b off c : Nat) (hN : NL w (some ⟨b, off, none⟩) M)
    (hx : a.eval x = .slice (some ⟨b, off, none⟩) n c) (hlen : L.length + M.length ≤ 1099511627776) (hbase : base ≤ w.heap.size)
    (h : ∀ v' w', ON w' base v' (L ++ M) → Kept base 31 w w' → wpList Tryz.prog ops Q rest (a.put o.dst v') w') : wpList Tryz.prog ops Q (o :: rest) a w := by
  subst hn
  obtain ⟨i0, hi, hz0, hz1, hz2⟩ := info_parts Tryz.infoNode
  refine wpList_append_own _ hgd s x 23 ho base 31 i0 _ 4 48 Tryz.underlying23 hi hz0 hz1 hz2 rfl (by decide) v L.length (ncells L) hs hown.1 ⟨b, off, none⟩ M.length c (ncells M) hx (ncells_length M) ?_ (ncells_one _) (by unfold maxLen; omega) (by omega) hbase ?_
  · intro j u hu
    have hadd : (⟨b, off, none⟩ : Addr).add j = ⟨b, off + j, none⟩ := by unfold Addr.add; split <;> simp_all
    rw [hadd]; exact hN.cells j u hu
  · intro v' w' h1 h2 _
    refine h v' w' ⟨?_, fun x hx => ?_⟩ ⟨(Below.refl base w).grown h2 hbase (fun k hk => (hown.typed k hk).1), fun bb f hf hty => h2.block bb hty.lt (fun e => (hown.typed bb e.symm).2.ne hty (fun hh => hf hh.symm) rfl)⟩
    · rw [ncells_append, List.length_append]; exact h1
    · rcases List.mem_append.1 hx with hx | hx
      · exact hown.2 x hx
      · exact hN.wfs x hx
end Go.Proofs.YtpbnjdgedifnoabGreatDoor
namespace Go.Proofs.YtpbnjdgedifnoabGreatDoor
open Go.RowKit
set_option linter.unusedVariables false
set_option maxRecDepth 100000

theorem qbt {a b c : World} (h : Below a.heap.size a b) (k : Below b.heap.size b c) : Below a.heap.size a c := h.trans (k.mono h.size)
theorem quick_any (s : ByteArray) (us : List Tk) (w : World) (hs : s.size ≤ maxLen) (h : readL s.data.toList = .ok us) :
    Calls Tryz.prog 6 #[.string s] w fun e w' => BareC us us.length e w' ∧ Below w.heap.size w w' := by
  have HW := words_any s w hs
  rw [h] at HW
  have h3 := read_many h
  clear h
  go_enter Tryz.func6, Tryz.ntmps6
  go_wp2_with fail
  refine HW.mono ?_
  rintro e w1 ⟨⟨q1, c1, rfl, hk1, _⟩, hb1⟩
  go_wp2_with fail
  refine (bare_c us us.length q1 c1 w1 hk1 rfl h3).mono ?_
  rintro e w2 ⟨⟨q2, c2, rfl, hk2⟩, hb2⟩
  go_wp2
  go_ret
  exact ⟨⟨q2, c2, rfl, hk2⟩, qbt hb1 hb2⟩

/-- A row of words behind another. -/
theorem append_toks (w : World) {ops : Array Oper} {rest : List Oper} {o : Oper} {a : Act} {Q : Exit → Act → World → Prop} (hgd : o.guard = none) (s x : Operand)
    (ho : o.op = .call { callee := .builtin .append, args := #[s, x], argTypes := #[22, 22] })
    (base : Nat) (v : Value) (L : List Tk) (hs : a.eval s = v) (hown : OT w base v L) (M : List Tk) (n : Nat) (hn : M.length = n) (q : Option Addr) (c : Nat) (hN : TKL w q M)
    (hx : a.eval x = .slice q n c) (hq : q = none → c = 0) (hlen : L.length + M.length ≤ 1099511627776) (hbase : base ≤ w.heap.size)
    (h : ∀ v' w', OT w' base v' (L ++ M) → Below base w w' → wpList Tryz.prog ops Q rest (a.put o.dst v') w') : wpList Tryz.prog ops Q (o :: rest) a w := by
  subst hn
  obtain ⟨i0, hi, hz0, hz1, hz2⟩ := info_parts Tryz.infoTok
  cases q with
  | none =>
    obtain rfl := hq rfl
    obtain rfl : M = [] := by
      rcases hN with h0 | ⟨b, o, h0, _⟩
      · exact h0
      · cases h0
    refine wpList_append_own_none hgd s x 22 ho base 37 i0 3 Tryz.underlying22 hi v L.length (tcells L) hs hown hx ?_
    exact h v w (by rw [List.append_nil]; exact hown) (Below.refl _ _)
  | some ad =>
    refine wpList_append_own _ hgd s x 22 ho base 37 i0 _ 3 32 Tryz.underlying22 hi hz0 hz1 hz2 rfl (by decide) v L.length (tcells L) hs hown ad M.length c (tcells M) hx (tcells_length M) ?_ ?_ (by unfold maxLen; omega) (by omega) hbase ?_
    · intro j u hu
      have hj : j < M.length * 3 := by rw [← tcells_length]; exact (List.getElem?_eq_some_iff.1 hu).1
      obtain ⟨b, off, rfl, _, h5⟩ : ∃ b off, ad = ⟨b, off, none⟩ ∧ b < w.heap.size ∧ ∀ i x, M[i]? = some x → w.cell? ⟨b, off + i * 3, none⟩ = some (.int .i64 x.kind) ∧ w.cell? ⟨b, off + (i * 3 + 1), none⟩ = some (.string x.s) ∧ w.cell? ⟨b, off + (i * 3 + 2), none⟩ = some (.int .i64 x.at_) := by
        rcases hN with h0 | ⟨b, o, h0, h1, h2⟩
        · subst h0; simp at hj
        · cases h0; exact ⟨b, o, rfl, h1, h2⟩
      have hadd : (⟨b, off, none⟩ : Addr).add j = ⟨b, off + j, none⟩ := by unfold Addr.add; split <;> simp_all
      rw [hadd]
      have hi3 : j / 3 < M.length := by omega
      have hx' := List.getElem?_eq_getElem hi3
      obtain ⟨k1, k2, k3⟩ := tcells_at M (j / 3) _ hx'
      obtain ⟨c1, c2, c3⟩ := h5 (j / 3) _ hx'
      have hj3 : j = j / 3 * 3 ∨ j = j / 3 * 3 + 1 ∨ j = j / 3 * 3 + 2 := by omega
      rcases hj3 with e | e | e
      · rw [e] at hu ⊢; rw [k1] at hu; cases hu; exact c1
      · rw [e] at hu ⊢; rw [k2] at hu; cases hu; exact c2
      · rw [e] at hu ⊢; rw [k3] at hu; cases hu; exact c3
    · intro u hu
      clear hx hN hlen h
      induction M with
      | nil => simp [tcells] at hu
      | cons t r ih =>
        simp only [tcells, List.mem_cons] at hu
        rcases hu with rfl | rfl | rfl | hu
        · rfl
        · rfl
        · rfl
        · exact ih hu
    · intro v' w' h1 h2 _
      refine h v' w' ?_ ((Below.refl base w).grown h2 hbase (fun k hk => (World.ownsRow.lt hown k hk).1))
      unfold OT
      rw [tcells_append, List.length_append]
      exact h1
/-- A row that was just laid. -/
theorem OT.lit (w : World) (t : Tk) : OT (w.alloc (.cells #[.int .i64 t.kind, .string t.s, .int .i64 t.at_] 37)) w.heap.size (.slice (some ⟨w.heap.size, 0, none⟩) 1 1) [t] :=
  ⟨rfl, .inr ⟨w.heap.size, 1, _, rfl, Nat.le_refl _, heap_alloc_new _ _, Nat.le_refl _, by unfold maxLen; omega, rfl, rfl⟩⟩
theorem OT.lit0 (w : World) : OT (w.alloc (.cells #[] 37)) w.heap.size (.slice (some ⟨w.heap.size, 0, none⟩) 0 0) [] :=
  ⟨rfl, .inr ⟨w.heap.size, 0, _, rfl, Nat.le_refl _, heap_alloc_new _ _, Nat.le_refl _, Nat.zero_le _, rfl, rfl⟩⟩
theorem ON.lit2 (w : World) (x y : Nd) (hx : x.wf) (hy : y.wf) : ON (w.alloc (.cells #[.int .i64 x.op, .int .i64 x.n, .string x.s, .string x.t, .int .i64 y.op, .int .i64 y.n, .string y.s, .string y.t] 31)) w.heap.size (.slice (some ⟨w.heap.size, 0, none⟩) 2 2) [x, y] :=
  ⟨⟨rfl, .inr ⟨w.heap.size, 2, _, rfl, Nat.le_refl _, heap_alloc_new _ _, Nat.le_refl _, by unfold maxLen; omega, rfl, rfl⟩⟩, by simp [hx, hy]⟩
end Go.Proofs.YtpbnjdgedifnoabGreatDoor
namespace Go.Proofs.YtpbnjdgedifnoabGreatDoor
open Go.RowKit
set_option linter.unusedVariables false

def sameNd (a b : List Nd) : Bool := decide (lsC a b = 0)
theorem sameNd_iff (a b : List Nd) : sameNd a b = true ↔ a = b := by unfold sameNd; rw [decide_eq_true_iff, lsC_is.zero]
theorem sameNd_no {a b : List Nd} (h : a ≠ b) : sameNd a b = false := by
  cases e : sameNd a b with
  | false => rfl
  | true => exact absurd ((sameNd_iff a b).1 e) h

theorem ret_b {a b : Bool} (h : a = b) : Ending.returned (.bool a) = .returned (.bool b) := by rw [h]

theorem take_same {a b : List Nd} {k : Nat} (ha : k < a.length) (hb : k < b.length) (h : a.take k = b.take k) (e : a[k] = b[k]) : a.take (k + 1) = b.take (k + 1) := by
  rw [List.take_succ_eq_append_getElem ha, List.take_succ_eq_append_getElem hb, h, e]

set_option maxHeartbeats 4000000 in
theorem sameNodes_any (a b : List Nd) (p q : Option Addr) (c1 c2 : Nat) (w : World) (ha : NL w p a) (hb : NL w q b) (la : a.length ≤ maxLen) (lb : b.length ≤ maxLen) :
    Calls Tryz.prog 7 #[.slice p a.length c1, .slice q b.length c2] w fun e w' => e = .returned (.bool (sameNd a b)) ∧ ∃ n, w' = w.drewN n := by
  unfold maxLen at la lb
  by_cases hl : a.length = b.length
  · have i0 : ((a.length : Int) != (b.length : Int)) = false := by simp [hl]
    go_enter Tryz.func7, Tryz.ntmps7
    go_wp2
    go_loopw [5] (fun i wr => ∃ k n : Nat, k ≤ a.length ∧ i = .int .i64 k ∧ wr = w.drewN n ∧ Hid (a.take k = b.take k)) (fun i _ => a.length - (intOf i).toNat)
    case atStart => exact ⟨0, 0, Nat.zero_le _, rfl, rfl, rfl⟩
    case round =>
      obtain ⟨k, n, hk, rfl, rfl, HD⟩ := hrel
      by_cases hlt : k < a.length
      · have hlt2 : k < b.length := by omega
        obtain ⟨b1, o1, rfl, hb1, x0, x1, x2, x3, xw⟩ := ha.at hlt
        obtain ⟨b2, o2, rfl, hb2, y0, y1, y2, y3, yw⟩ := hb.at hlt2
        have i1 : (k : Int) < (a.length : Int) := by omega
        have i2 : (k : Int) < (b.length : Int) := by omega
        have HE : Hid (a[k] = b[k] → a.take (k + 1) = b.take (k + 1)) := take_same hlt hlt2 HD.out
        have HF : Hid (a[k] ≠ b[k] → a ≠ b) := fun h1 h2 => h1 (by subst h2; rfl)
        generalize a[k] = x at *
        generalize b[k] = y at *
        obtain ⟨xa, xb, xc, xd⟩ := x
        obtain ⟨ya, yb, yc, yd⟩ := y
        simp only at x0 x1 x2 x3 y0 y1 y2 y3
        by_cases h1 : xa = ya
        · subst h1
          by_cases h2 : xb = yb
          · subst h2
            by_cases h3 : xc = yc
            · subst h3
              by_cases h4 : xd = yd
              · subst h4
                have HE2 : Hid (a.take (k + 1) = b.take (k + 1)) := HE.out rfl
                clear HE HF
                go_wp2
                go_quiet (fail)
                go_wp2
                go_roundw
                case rel => exact ⟨k + 1, _, by omega, by go_num, rfl, HE2⟩
                case measure => simp [intOf]; omega
              · have h4' : ¬ xd.toList = yd.toList := fun h => h4 (bytes_inj (by simpa only [ByteArray.toList_eq] using h))
                go_wp2
                go_quiet (fail)
                go_wp2
                go_ret
                exact ⟨ret_b (sameNd_no (HF.out (fun h => h4 (by injection h)))).symm, _, by rw [World.drewN_drewN]⟩
            · have h3' : ¬ xc.toList = yc.toList := fun h => h3 (bytes_inj (by simpa only [ByteArray.toList_eq] using h))
              go_wp2
              go_quiet (fail)
              go_wp2
              go_ret
              exact ⟨ret_b (sameNd_no (HF.out (fun h => h3 (by injection h)))).symm, _, by rw [World.drewN_drewN]⟩
          · go_wp2
            go_quiet (fail)
            go_wp2
            go_ret
            exact ⟨ret_b (sameNd_no (HF.out (fun h => h2 (by injection h)))).symm, _, by rw [World.drewN_drewN]⟩
        · go_wp2
          go_quiet (fail)
          go_wp2
          go_ret
          exact ⟨ret_b (sameNd_no (HF.out (fun h => h1 (by injection h)))).symm, _, by rw [World.drewN_drewN]⟩
      · have i1 : ¬ (k : Int) < (a.length : Int) := by omega
        have HS : Hid (sameNd a b = true) := by
          show _ = _
          rw [sameNd_iff]
          have := HD.out
          rw [List.take_of_length_le (by omega), List.take_of_length_le (by omega)] at this
          exact this
        go_wp2
        go_ret
        exact ⟨ret_b HS.out.symm, _, rfl⟩
  · have i0 : ((a.length : Int) != (b.length : Int)) = true := by simp; omega
    go_enter Tryz.func7, Tryz.ntmps7
    go_wp2
    go_ret
    exact ⟨ret_b (sameNd_no (fun h => hl (by rw [h]))).symm, 0, rfl⟩
end Go.Proofs.YtpbnjdgedifnoabGreatDoor
namespace Go.Proofs.YtpbnjdgedifnoabGreatDoor
open Go.RowKit
set_option linter.unusedVariables false

/-- Lists of nodes lie behind an address, one behind the other. -/
def LL (w : World) (p : Option Addr) (vs : List (List Nd)) : Prop :=
  vs = [] ∨ ∃ b off, p = some ⟨b, off, none⟩ ∧ b < w.heap.size ∧ ∀ i v, vs[i]? = some v → ∃ q c, w.cell? ⟨b, off + i, none⟩ = some (.slice q v.length c) ∧ NL w q v ∧ v.length ≤ c ∧ c ≤ maxLen

theorem LL.up {w w' : World} {p : Option Addr} {vs : List (List Nd)} (h : LL w p vs) (k : Below w.heap.size w w') : LL w' p vs := by
  rcases h with h | ⟨b, off, h1, h2, h3⟩
  · exact .inl h
  · refine .inr ⟨b, off, h1, Nat.lt_of_lt_of_le h2 k.size, fun i v hv => ?_⟩
    obtain ⟨q, c, h4, h5, h6⟩ := h3 i v hv
    exact ⟨q, c, (k.cell (p := ⟨b, off + i, none⟩) h2).trans h4, h5.up k, h6⟩

theorem LL.at {w : World} {p : Option Addr} {vs : List (List Nd)} (h : LL w p vs) {i : Nat} (hi : i < vs.length) : ∃ b off q c, p = some ⟨b, off, none⟩ ∧ b < w.heap.size ∧
    w.cell? ⟨b, off + i, none⟩ = some (.slice q vs[i].length c) ∧ NL w q vs[i] ∧ vs[i].length ≤ c ∧ c ≤ maxLen := by
  rcases h with rfl | ⟨b, off, h1, h2, h3⟩
  · simp at hi
  · obtain ⟨q, c, h4, h5⟩ := h3 i _ (List.getElem?_eq_getElem hi)
    exact ⟨b, off, q, c, h1, h2, h4, h5⟩

def ffault : List (List Nd) → Int
  | [] => 0
  | v :: vs => if vfault v = 0 then ffault vs else vfault v
theorem ffault_step (vs : List (List Nd)) (k : Nat) (hk : k < vs.length) : ffault (vs.drop k) = if vfault vs[k] = 0 then ffault (vs.drop (k + 1)) else vfault vs[k] := by
  rw [List.drop_eq_getElem_cons hk]; rfl
theorem ffault_zero : ∀ (vs : List (List Nd)), ffault vs = 0 ↔ ∀ v ∈ vs, vfault v = 0
  | [] => by simp [ffault]
  | v :: vs => by
    unfold ffault
    by_cases h : vfault v = 0
    · rw [if_pos h, ffault_zero vs]; simp [h]
    · rw [if_neg h]; simp [h]
end Go.Proofs.YtpbnjdgedifnoabGreatDoor
namespace Go.Proofs.YtpbnjdgedifnoabGreatDoor
open Go.RowKit
set_option linter.unusedVariables false

theorem Tryz.infoList : (Tryz.prog.info? 23).map (fun i => (i.zero, i.size, i.bytes)) = some (some (.slice none 0 0), 1, 24) := by kernel_rfl

/-- Lists of nodes in a row of the call's own. -/
def OL (w : World) (base : Nat) (v : Value) (vs : List (List Nd)) : Prop :=
  ∃ xs, Row1 w base 23 v xs ∧ xs.length = vs.length ∧ ∀ (i : Nat) u L, xs[i]? = some u → vs[i]? = some L → ∃ q c, u = .slice q L.length c ∧ NT w base q L ∧ L.length ≤ c ∧ c ≤ maxLen
theorem OL.nil (w : World) (base : Nat) : OL w base (.slice none 0 0) [] := ⟨[], Row1.nil _ _ _, rfl, fun i u L h => by simp at h⟩
theorem OL.kept {w w' : World} {base : Nat} {e : TypeId} {v : Value} {vs : List (List Nd)} (h : OL w base v vs) (k : Kept base e w w') (h1 : 23 ≠ e) (h2 : 31 ≠ e) : OL w' base v vs := by
  obtain ⟨xs, hr, hl, he⟩ := h
  exact ⟨xs, hr.kept k h1, hl, fun i u L hu hL => by
    obtain ⟨q, c, e1, e2, e3⟩ := he i u L hu hL
    exact ⟨q, c, e1, e2.kept k h2, e3⟩⟩
theorem OL.below {w w' : World} {base : Nat} {v : Value} {vs : List (List Nd)} (h : OL w base v vs) (k : Below w.heap.size w w') (hb : base ≤ w.heap.size) : OL w' base v vs :=
  h.kept (e := 186) (Kept.of_below k hb) (by decide) (by decide)
theorem OL.lists {w : World} {base : Nat} {v : Value} {vs : List (List Nd)} (h : OL w base v vs) : ∃ q c, v = .slice q vs.length c ∧ LL w q vs ∧ vs.length ≤ c ∧ c ≤ maxLen := by
  obtain ⟨xs, hr, hl, he⟩ := h
  obtain ⟨q, c, rfl, h1, h2, h3⟩ := hr.slice
  refine ⟨q, c, by rw [hl], ?_, by omega, h2⟩
  rcases h3 with rfl | ⟨g, rfl, ht, _, hc⟩
  · exact .inl (List.eq_nil_of_length_eq_zero (by rw [← hl]; rfl))
  · refine .inr ⟨g, 0, rfl, ht.lt, fun i L hL => ?_⟩
    have hi : i < xs.length := by rw [hl]; exact (List.getElem?_eq_some_iff.1 hL).1
    obtain ⟨q', c', e1, e2, e3⟩ := he i xs[i] L (List.getElem?_eq_getElem hi) hL
    refine ⟨q', c', ?_, e2.1, e3⟩
    rw [Nat.zero_add, ← e1]
    exact hc i _ (List.getElem?_eq_getElem hi)

theorem append_list (w : World) {ops : Array Oper} {rest : List Oper} {o : Oper} {a : Act} {Q : Exit → Act → World → Prop} (hgd : o.guard = none) (s x : Operand)
    (ho : o.op = .call { callee := .builtin .append, args := #[s, x], argTypes := #[89, 89] })
    (base : Nat) (v : Value) (vs : List (List Nd)) (hs : a.eval s = v) (hown : OL w base v vs) (L : List Nd) (q : Option Addr) (c : Nat) (hN : NT w base q L) (hlc : L.length ≤ c) (hcm : c ≤ maxLen)
    (hx : a.eval x = .slice (some ⟨w.heap.size, 0, none⟩) 1 1) (hlen : vs.length + 1 ≤ 1099511627776) (hbase : base ≤ w.heap.size)
    (h : ∀ v' w', OL w' base v' (vs ++ [L]) → Kept base 23 w w' → wpList Tryz.prog ops Q rest (a.put o.dst v') w') : wpList Tryz.prog ops Q (o :: rest) a (w.alloc (.cells #[.slice q L.length c] 23)) := by
  obtain ⟨xs, hr, hl, he⟩ := hown
  refine append_cell w hgd s x 89 23 ho Tryz.underlying89 (.slice none 0 0) 24 Tryz.infoList rfl base v xs hs hr (.slice q L.length c) rfl hx (by unfold maxLen; omega) (by omega) hbase ?_
  intro v' w' h1 k
  refine h v' w' ⟨xs ++ [.slice q L.length c], h1, by simp [hl], fun i u L' hu hL' => ?_⟩ k
  by_cases hi : i < xs.length
  · rw [List.getElem?_append_left hi] at hu
    rw [List.getElem?_append_left (by omega)] at hL'
    obtain ⟨q', c', e1, e2, e3⟩ := he i u L' hu hL'
    exact ⟨q', c', e1, e2.kept k (by decide), e3⟩
  · have hi2 : i = xs.length := by
      have := (List.getElem?_eq_some_iff.1 hu).1
      simp at this; omega
    subst hi2
    rw [List.getElem?_append_right (Nat.le_refl _)] at hu
    rw [List.getElem?_append_right (by omega), hl] at hL'
    simp at hu hL'
    subst hu hL'
    exact ⟨q, c, rfl, hN.kept k (by decide), hlc, hcm⟩
end Go.Proofs.YtpbnjdgedifnoabGreatDoor
namespace Go.Proofs.YtpbnjdgedifnoabGreatDoor
open Go.RowKit
set_option linter.unusedVariables false

/-- All that lay in w is in w' as it was, but for one block. -/
structure BX (B : Nat) (w w' : World) : Prop where
  os : w'.os = w.os
  tape : w'.tape = w.tape
  output : w'.output = w.output
  size : w.heap.size ≤ w'.heap.size
  block : ∀ k, k < w.heap.size → k ≠ B → w'.heap[k]? = w.heap[k]?
theorem BX.refl (B : Nat) (w : World) : BX B w w := ⟨rfl, rfl, rfl, Nat.le_refl _, fun _ _ _ => rfl⟩
theorem BX.trans {B : Nat} {a b c : World} (h : BX B a b) (k : BX B b c) : BX B a c :=
  ⟨k.os.trans h.os, k.tape.trans h.tape, k.output.trans h.output, Nat.le_trans h.size k.size, fun i hi hn => (k.block i (Nat.lt_of_lt_of_le hi h.size) hn).trans (h.block i hi hn)⟩
theorem BX.of_below {B : Nat} {w w' : World} (h : Below w.heap.size w w') : BX B w w' := ⟨h.os, h.tape, h.output, h.size, fun i hi _ => h.block i hi⟩
theorem BX.up {B : Nat} {a w w' : World} (h : BX B a w) (k : Below w.heap.size w w') : BX B a w' := h.trans (BX.of_below k)
theorem BX.set {B : Nat} {a w : World} (h : BX B a w) (i : Nat) (v : Value) : BX B a (w.setCell ⟨B, i, none⟩ v) :=
  h.trans ⟨rfl, rfl, rfl, by simp, fun k _ hn => Below.heap_setCell w ⟨B, i, none⟩ v k hn⟩
theorem BX.cell {B : Nat} {w w' : World} (h : BX B w w') {p : Addr} (hp : p.block < w.heap.size) (hn : p.block ≠ B) : w'.cell? p = w.cell? p := by
  unfold World.cell?; rw [h.block p.block hp hn]
/-- Below a mark that is not above the block nothing has changed. -/
theorem BX.below {B N : Nat} {w w' : World} (h : BX B w w') (hN : N ≤ B) (hB : B < w.heap.size) : Below N w w' :=
  ⟨h.os, h.tape, h.output, h.size, fun k hk => h.block k (by omega) (by omega)⟩

/-- What the variable of errors out of range holds. -/
def ErrIn (w : World) : Prop := ∃ ev, w.cell? ⟨7, 0, none⟩ = some ev ∧ (ev = .nilIface ∨ ∃ te pe, ev = .iface te pe)
/-- A reader of words, so far on. -/
structure RS (w : World) (B : Nat) (p : Option Addr) (c : Nat) (ts : List Tk) (k : Nat) : Prop where
  blk : w.heap[B]? = some (.cells #[.slice p ts.length c, .int .i64 (k : Int)] 56 (0, 0))
  tk : TKL w p ts
  ne : ts = [] ∨ ∀ a, p = some a → a.block ≠ B
  le : k ≤ ts.length
  len : ts.length ≤ 300
  all : AllS ts
  er : ErrIn w
  ge : 7 < B
theorem RS.lt {w : World} {B : Nat} {p : Option Addr} {c : Nat} {ts : List Tk} {k : Nat} (h : RS w B p c ts k) : B < w.heap.size := (Array.getElem?_eq_some_iff.1 h.blk).1
theorem RS.c0 {w : World} {B : Nat} {p : Option Addr} {c : Nat} {ts : List Tk} {k : Nat} (h : RS w B p c ts k) : w.cell? ⟨B, 0, none⟩ = some (.slice p ts.length c) := by
  simp [World.cell?, h.blk]
theorem RS.c1 {w : World} {B : Nat} {p : Option Addr} {c : Nat} {ts : List Tk} {k : Nat} (h : RS w B p c ts k) : w.cell? ⟨B, 1, none⟩ = some (.int .i64 (k : Int)) := by
  simp [World.cell?, h.blk]
theorem RS.fz {w : World} {B : Nat} {p : Option Addr} {c : Nat} {ts : List Tk} {k : Nat} (h : RS w B p c ts k) : w.frozen? ⟨B, 1, none⟩ = false := by
  simp [World.frozen?, h.blk]
theorem TKL.bx {B : Nat} {w w' : World} {p : Option Addr} {L : List Tk} (h : TKL w p L) (hn : L = [] ∨ ∀ a, p = some a → a.block ≠ B) (k : BX B w w') : TKL w' p L := by
  rcases hn with hn | hn
  · exact .inl hn
  rcases h with h | ⟨b, off, h1, h2, h3⟩
  · exact .inl h
  · refine .inr ⟨b, off, h1, Nat.lt_of_lt_of_le h2 k.size, fun i x hx => ?_⟩
    have q : ∀ o, w'.cell? ⟨b, o, none⟩ = w.cell? ⟨b, o, none⟩ := fun o => k.cell (p := ⟨b, o, none⟩) h2 (hn ⟨b, off, none⟩ h1)
    simp only [q]
    exact h3 i x hx
theorem ErrIn.bx {B : Nat} {w w' : World} (h : ErrIn w) (hB : 7 < B) (k : BX B w w') (hlt : B < w.heap.size) : ErrIn w' := by
  obtain ⟨ev, h1, h2⟩ := h
  exact ⟨ev, (k.cell (p := ⟨7, 0, none⟩) (by show 7 < _; omega) (by show 7 ≠ _; omega)).trans h1, h2⟩
/-- What is behind a world that keeps all but the reader, the reader further on. -/
theorem RS.next {w w' : World} {B : Nat} {p : Option Addr} {c : Nat} {ts : List Tk} {k k' : Nat} (h : RS w B p c ts k) (hx : BX B w w') (hk : k' ≤ ts.length)
    (hb : w'.heap[B]? = some (.cells #[.slice p ts.length c, .int .i64 (k' : Int)] 56 (0, 0))) : RS w' B p c ts k' :=
  ⟨hb, h.tk.bx h.ne hx, h.ne, hk, h.len, h.all, h.er.bx h.ge hx h.lt, h.ge⟩
theorem RS.up {w w' : World} {B : Nat} {p : Option Addr} {c : Nat} {ts : List Tk} {k : Nat} (h : RS w B p c ts k) (hb : Below w.heap.size w w') : RS w' B p c ts k :=
  h.next (BX.of_below hb) h.le ((hb.block B h.lt).trans h.blk)
theorem RS.set {w : World} {B : Nat} {p : Option Addr} {c : Nat} {ts : List Tk} {k k' : Nat} (h : RS w B p c ts k) (hk : k' ≤ ts.length) : RS (w.setCell ⟨B, 1, none⟩ (.int .i64 (k' : Int))) B p c ts k' :=
  h.next ((BX.refl B w).set 1 _) hk (heap_setCell_same w B 1 _ _ _ h.blk)
/-- Nodes in a block of nodes. -/
theorem NT.bx {w w' : World} {B : Nat} {p : Option Addr} {c : Nat} {ts : List Tk} {k : Nat} {q : Option Addr} {L : List Nd} (hr : RS w B p c ts k) (h : NT w 0 q L) (hx : BX B w w') : NT w' 0 q L := by
  obtain ⟨h1, h2⟩ := h
  rcases h2 with h2 | ⟨b, o, h2, h3⟩
  · exact ⟨.inl h2, .inl h2⟩
  · rcases h3 with h3 | h3
    · omega
    · have hne : b ≠ B := by
        intro e; subst e
        obtain ⟨cur, fr, hh⟩ := h3
        rw [hr.blk] at hh
        injection hh with hh
        injection hh with _ hh _
        exact absurd hh (by decide)
      have hlt := h3.lt
      refine ⟨?_, .inr ⟨b, o, h2, .inr ?_⟩⟩
      · rcases h1 with h1 | ⟨b', o', e, h4, h5⟩
        · exact .inl h1
        · rw [h2] at e; cases e
          refine .inr ⟨b, o, h2, Nat.lt_of_lt_of_le hlt hx.size, fun i x hi => ?_⟩
          have q : ∀ o, w'.cell? ⟨b, o, none⟩ = w.cell? ⟨b, o, none⟩ := fun o => hx.cell (p := ⟨b, o, none⟩) hlt hne
          simp only [q]
          exact h5 i x hi
      · obtain ⟨cur, fr, hh⟩ := h3
        exact ⟨cur, fr, (hx.block b hlt hne).trans hh⟩
/-- What is thrown. -/
def thrownP (n : Int) : List PanicEntry := [{ v := .iface 58 (.agg #[.iface 42 (.int .i64 n)]), recovered := false }]
/-- How a form is read: its nodes, in memory of their own, and the reader behind it; or a throw, and the reader where it is wrong. -/
def EndP (B : Nat) (p : Option Addr) (c : Nat) (ts : List Tk) (w : World) (res : PRes) (e : Ending) (w' : World) : Prop :=
  match res with
  | .ok x => (∃ q cc, e = .returned (.slice q x.1.length cc) ∧ NT w' 0 q x.1 ∧ x.1.length ≤ cc ∧ cc ≤ maxLen) ∧ RS w' B p c ts (ts.length - x.2.length) ∧ BX B w w'
  | .error y => e = .panicked (thrownP y.2) ∧ RS w' B p c ts (ts.length - y.1) ∧ BX B w w'
/-- A reader that has read so far sees these words. -/
theorem drop_cons {ts r : List Tk} {t : Tk} {k : Nat} (h : ts.drop k = t :: r) : ts.drop (k + 1) = r ∧ k < ts.length ∧ ts.length - r.length = k + 1 := by
  have hl := congrArg List.length h
  rw [List.length_drop, List.length_cons] at hl
  refine ⟨?_, by omega, by omega⟩
  have := congrArg List.tail h
  rwa [List.tail_drop, List.tail_cons] at this
theorem drop_suffix {ts a r : List Tk} {k : Nat} (h : ts.drop k = a ++ r) : ts.drop (ts.length - r.length) = r := by
  have hs : ts = (ts.take k ++ a) ++ r := by rw [List.append_assoc, ← h, List.take_append_drop]
  have hl := congrArg List.length hs
  rw [List.length_append] at hl
  have e : ts.length - r.length = (ts.take k ++ a).length := by omega
  rw [e]
  generalize ts.take k ++ a = m at *
  rw [hs]
  exact List.drop_left ..
end Go.Proofs.YtpbnjdgedifnoabGreatDoor
namespace Go.Proofs.YtpbnjdgedifnoabGreatDoor
open Go.RowKit
set_option linter.unusedVariables false

theorem below_draws' {B : Nat} {a w : World} (h : Below B a w) (n : Nat) : Below B a (w.drewN n) := ⟨h.os, h.tape, h.output, h.size, h.block⟩
theorem pneed_true (v : Value) (w : World) : Calls Tryz.prog 19 #[.bool true, v] w fun e w' => e = .returned (.tuple #[]) ∧ w' = w := by
  go_enter Tryz.func19, Tryz.ntmps19
  go_wp2
  go_end0
  exact ⟨rfl, rfl⟩
theorem pneed_false (n : Int) (w : World) : Calls Tryz.prog 19 #[.bool false, .iface 42 (.int .i64 n)] w fun e w' => e = .panicked (thrownP n) ∧ w' = w := by
  go_enter Tryz.func19, Tryz.ntmps19
  go_wp2
  exact ⟨rfl, rfl, rfl⟩
/-- A word as a value. -/
def tokV (t : Tk) : Value := .agg #[.int .i64 t.kind, .string t.s, .int .i64 t.at_]
def itB (t : Tk) : ByteArray := if t.kind = 1 ∨ t.kind = 5 then t.s else ⟨#[]⟩
theorem itself_any (t : Tk) (w : World) : Calls Tryz.prog 28 #[tokV t] w fun e w' => e = .returned (.string (itB t)) ∧ Below w.heap.size w w' := by
  unfold tokV
  go_enter Tryz.func28, Tryz.ntmps28
  go_wp2
  · rename_i h
    go_ret
    exact ⟨by unfold itB; rw [if_pos (Or.inl h)]; rfl, (Below.refl _ _).alloc (Nat.le_refl _) _⟩
  · rename_i h1 h
    go_ret
    have h5 : t.kind = 5 := by
      rcases h with h | h
      · exact absurd (by simpa using h) h1
      · simpa using h
    exact ⟨by unfold itB; rw [if_pos (Or.inr h5)]; rfl, (Below.refl _ _).alloc (Nat.le_refl _) _⟩
  · rename_i h1 h
    go_ret
    have h5 : ¬ t.kind = 5 := by simpa using h.2
    exact ⟨by unfold itB; rw [if_neg (by rintro (h | h) <;> contradiction)]; rfl, (Below.refl _ _).alloc (Nat.le_refl _) _⟩
theorem hdT_at {ts : List Tk} {k : Nat} (h : k < ts.length) : hdT (ts.drop k) = ts[k] := by
  rw [List.drop_eq_getElem_cons h]; rfl
theorem hdT_end {ts : List Tk} {k : Nat} (h : ¬ k < ts.length) : hdT (ts.drop k) = bT := by
  rw [List.drop_of_length_le (by omega)]; rfl
set_option maxRecDepth 100000 in
set_option maxHeartbeats 1000000 in
theorem ahead_any (w : World) (B : Nat) (p : Option Addr) (c : Nat) (ts : List Tk) (k i : Nat) (h : RS w B p c ts k) (hi : i ≤ 1) :
    Calls Tryz.prog 29 #[.pointer (some ⟨B, 0, none⟩), .int .i64 (i : Int)] w fun e w' => e = .returned (tokV (hdT ((ts.drop k).drop i))) ∧ Below w.heap.size w w' := by
  have hb0 : Below w.heap.size w (w.alloc (.cells #[.int .i64 0, .string ⟨#[]⟩, .int .i64 0] 37)) := (Below.refl _ _).alloc (Nat.le_refl _) _
  have hr := h.up hb0
  have c0 := hr.c0
  have c1 := hr.c1
  have htk := hr.tk
  have hle := h.le
  have hlen := h.len
  have hc : ∀ o, (w.alloc (.cells #[.int .i64 0, .string ⟨#[]⟩, .int .i64 0] 37)).frozen? ⟨w.heap.size, o, none⟩ = false := by intro o; simp [go_sem]
  have d0 : (w.alloc (.cells #[.int .i64 0, .string ⟨#[]⟩, .int .i64 0] 37)).cell? ⟨w.heap.size, 0, none⟩ = some (.int .i64 0) := by simp [go_sem]
  have d1 : (w.alloc (.cells #[.int .i64 0, .string ⟨#[]⟩, .int .i64 0] 37)).cell? ⟨w.heap.size, 1, none⟩ = some (.string ⟨#[]⟩) := by simp [go_sem]
  have d2 : (w.alloc (.cells #[.int .i64 0, .string ⟨#[]⟩, .int .i64 0] 37)).cell? ⟨w.heap.size, 2, none⟩ = some (.int .i64 0) := by simp [go_sem]
  have f0 := hc 0
  have f1 := hc 1
  have f2 := hc 2
  rw [List.drop_drop]
  clear hr h hc
  generalize hW0 : w.alloc (.cells #[.int .i64 0, .string ⟨#[]⟩, .int .i64 0] 37) = w0 at *
  by_cases hlt : k + i < ts.length
  · have i1 : (k : Int) + (i : Int) < (ts.length : Int) := by omega
    have i2 : (k : Int) ≤ 300 := by omega
    have i3 : (i : Int) ≤ 1 := by omega
    obtain ⟨b, off, rfl, hbw, x0, x1, x2⟩ := htk.at hlt
    rw [hdT_at hlt]
    unfold tokV
    generalize ts[k + i] = t at *
    have hwr : IntKind.i64.wrap ((k : Int) + (i : Int)) = (k : Int) + (i : Int) := IntWalk.i64_in _ (by omega)
    have i4 : (0 : Int) ≤ (k : Int) + (i : Int) := by omega
    go_enter Tryz.func29, Tryz.ntmps29
    go_wp2
    go_quiet (fail)
    go_wp2
    have i5 : ((k : Int) + (i : Int)).toNat = k + i := by omega
    have hbd : Below w.heap.size w (w0.drewN nq).drew := (below_draws' hb0 nq).drew
    have y0 : (w0.drewN nq).drew.cell? ⟨b, off + (k + i) * 3, none⟩ = some (.int .i64 t.kind) := x0
    have y1 : (w0.drewN nq).drew.cell? ⟨b, off + (k + i) * 3 + 1, none⟩ = some (.string t.s) := x1
    have y2 : (w0.drewN nq).drew.cell? ⟨b, off + (k + i) * 3 + 2, none⟩ = some (.int .i64 t.at_) := x2
    have e0 : (w0.drewN nq).drew.cell? ⟨w.heap.size, 0, none⟩ = some (.int .i64 0) := d0
    have e1 : (w0.drewN nq).drew.cell? ⟨w.heap.size, 1, none⟩ = some (.string ⟨#[]⟩) := d1
    have e2 : (w0.drewN nq).drew.cell? ⟨w.heap.size, 2, none⟩ = some (.int .i64 0) := d2
    have g0 : (w0.drewN nq).drew.frozen? ⟨w.heap.size, 0, none⟩ = false := f0
    have g1 : (w0.drewN nq).drew.frozen? ⟨w.heap.size, 1, none⟩ = false := f1
    have g2 : (w0.drewN nq).drew.frozen? ⟨w.heap.size, 2, none⟩ = false := f2
    have s0 : (w0.drewN nq).drew.cell? ⟨B, 0, none⟩ = some (.slice (some ⟨b, off, none⟩) ts.length c) := c0
    have s1 : (w0.drewN nq).drew.cell? ⟨B, 1, none⟩ = some (.int .i64 (k : Int)) := c1
    refine wp_region_still_tail 12 (by kernel_rfl) (by kernel_rfl) ?_
    change wpStill _ _ (w0.drewN nq).drew (fun a' => wpList _ _ _ _ a' (w0.drewN nq).drew) _ _
    clear x0 x1 x2 d0 d1 d2 f0 f1 f2 c0 c1 htk hW0 hb0
    generalize (w0.drewN nq).drew = wd at *
    simp only [List.take_succ_cons, List.take_zero, List.drop_succ_cons, List.drop_zero]
    repeat still_step
    refine wpStill_nil ?_
    go_wp2
    refine bodyPost_ret (v := .agg #[.int .i64 t.kind, .string t.s, .int .i64 t.at_]) (by simp [results, Tryz.results29, go_sem, e0, e1, e2]) rfl ⟨rfl, ?_⟩
    exact ((hbd.setCell (Nat.le_refl _) _).setCell (Nat.le_refl _) _).setCell (Nat.le_refl _) _
  · have i1 : ¬ (k : Int) + (i : Int) < (ts.length : Int) := by omega
    have i2 : (k : Int) ≤ 300 := by omega
    have i3 : (i : Int) ≤ 1 := by omega
    have hwr : IntKind.i64.wrap ((k : Int) + (i : Int)) = (k : Int) + (i : Int) := IntWalk.i64_in _ (by omega)
    rw [hdT_end hlt]
    unfold tokV bT
    go_enter Tryz.func29, Tryz.ntmps29
    go_wp2
    go_quiet (fail)
    go_wp2
    refine bodyPost_ret (v := .agg #[.int .i64 0, .string ⟨#[]⟩, .int .i64 0]) (by simp [results, Tryz.results29, go_sem, d0, d1, d2]) rfl ⟨rfl, ?_⟩
    exact (((below_draws' hb0 nq).setCell (Nat.le_refl _) _).setCell (Nat.le_refl _) _).setCell (Nat.le_refl _) _
theorem bytes_beq' (a b : ByteArray) : (a == b) = true ↔ a = b := by
  obtain ⟨x⟩ := a
  obtain ⟨y⟩ := b
  constructor
  · intro h
    have e : x = y := by simpa using (show (x == y) = true from h)
    rw [e]
  · intro h
    injection h with h
    show (x == y) = true
    rw [h]; simp
theorem itB_its (t : Tk) : (itB t).data.toList = its t := by
  unfold itB its
  split
  · rfl
  · rfl
theorem sayB_eq (l : List Tk) (s : ByteArray) : (itB (hdT l) == s) = sayB l s.data.toList := by
  unfold sayB
  rw [Bool.eq_iff_iff]
  simp only [decide_eq_true_eq]
  rw [← itB_its, bytes_beq']
  constructor
  · intro h; rw [h]
  · intro h
    obtain ⟨⟨a⟩⟩ := s
    generalize itB (hdT l) = x at *
    obtain ⟨⟨b⟩⟩ := x
    simp at h
    rw [h]
theorem ahead0_any (w : World) (B : Nat) (p : Option Addr) (c : Nat) (ts : List Tk) (k : Nat) (h : RS w B p c ts k) :
    Calls Tryz.prog 29 #[.pointer (some ⟨B, 0, none⟩), .int .i64 0] w fun e w' => e = .returned (tokV (hdT (ts.drop k))) ∧ Below w.heap.size w w' :=
  ahead_any w B p c ts k 0 h (by omega)
theorem ahead1_any (w : World) (B : Nat) (p : Option Addr) (c : Nat) (ts : List Tk) (k : Nat) (h : RS w B p c ts k) :
    Calls Tryz.prog 29 #[.pointer (some ⟨B, 0, none⟩), .int .i64 1] w fun e w' => e = .returned (tokV (hdT (ts.drop k).tail)) ∧ Below w.heap.size w w' := by
  have := ahead_any w B p c ts k 1 h (by omega)
  rwa [List.drop_one] at this
set_option maxRecDepth 100000 in
set_option maxHeartbeats 1000000 in
theorem says_any (w : World) (B : Nat) (p : Option Addr) (c : Nat) (ts : List Tk) (k : Nat) (s : ByteArray) (h : RS w B p c ts k) :
    Calls Tryz.prog 27 #[.pointer (some ⟨B, 0, none⟩), .string s] w fun e w' => e = .returned (.bool (sayB (ts.drop k) s.data.toList)) ∧ Below w.heap.size w w' := by
  rw [← sayB_eq]
  have H1 := ahead0_any w B p c ts k h
  generalize hdT (ts.drop k) = t at *
  have H2 := itself_any t
  go_enter Tryz.func27, Tryz.ntmps27
  go_wp2_with fail
  refine H1.mono ?_
  rintro e w1 ⟨rfl, hb1⟩
  unfold tokV at *
  go_wp2_with fail
  refine (H2 _).mono ?_
  rintro e w2 ⟨rfl, hb2⟩
  go_wp2
  go_ret
  exact ⟨by rw [beq_toListBytes]; rfl, hb1.trans (hb2.mono hb1.size)⟩
set_option maxRecDepth 100000 in
set_option maxHeartbeats 1000000 in
theorem passes_no (w : World) (B : Nat) (p : Option Addr) (c : Nat) (ts : List Tk) (k : Nat) (s : ByteArray) (h : RS w B p c ts k) (hs : sayB (ts.drop k) s.data.toList = false) :
    Calls Tryz.prog 55 #[.pointer (some ⟨B, 0, none⟩), .string s] w fun e w' => e = .returned (.bool false) ∧ Below w.heap.size w w' := by
  have H1 := says_any w B p c ts k s h
  rw [hs] at H1
  go_enter Tryz.func55, Tryz.ntmps55
  go_wp2_with fail
  refine H1.mono ?_
  rintro e w1 ⟨rfl, hb1⟩
  go_wp2
  go_ret
  exact ⟨rfl, hb1⟩
theorem sayB_lt {ts : List Tk} {k : Nat} {c : UInt8} {s : List UInt8} (h : sayB (ts.drop k) (c :: s) = true) : k < ts.length := by
  by_cases hk : k < ts.length
  · exact hk
  · unfold sayB at h
    rw [hdT_end hk] at h
    simp [its, bT] at h
set_option maxRecDepth 100000 in
set_option maxHeartbeats 1000000 in
theorem passes_yes (w : World) (B : Nat) (p : Option Addr) (c : Nat) (ts : List Tk) (k : Nat) (s : ByteArray) (h : RS w B p c ts k) (hs : sayB (ts.drop k) s.data.toList = true) (hk : k < ts.length) :
    Calls Tryz.prog 55 #[.pointer (some ⟨B, 0, none⟩), .string s] w fun e w' => e = .returned (.bool true) ∧ RS w' B p c ts (k + 1) ∧ BX B w w' := by
  have H1 := says_any w B p c ts k s h
  rw [hs] at H1
  have i1 : (k : Int) ≤ 300 := by have := h.len; omega
  go_enter Tryz.func55, Tryz.ntmps55
  go_wp2_with fail
  refine H1.mono ?_
  rintro e w1 ⟨rfl, hb1⟩
  have h1 := h.up hb1
  have c1 := h1.c1
  have f1 := h1.fz
  go_wp2
  go_ret
  refine ⟨rfl, ?_, ?_⟩
  · exact h1.set (k' := k + 1) (by omega)
  · exact (BX.of_below hb1).set 1 _
end Go.Proofs.YtpbnjdgedifnoabGreatDoor
namespace Go.Proofs.YtpbnjdgedifnoabGreatDoor
open Go.RowKit
set_option linter.unusedVariables false
set_option maxRecDepth 100000

set_option maxHeartbeats 1000000 in
theorem pass_ok (w : World) (B : Nat) (p : Option Addr) (c : Nat) (ts : List Tk) (k : Nat) (s : ByteArray) (h : RS w B p c ts k) (hs : sayB (ts.drop k) s.data.toList = true) (hk : k < ts.length) :
    Calls Tryz.prog 31 #[.pointer (some ⟨B, 0, none⟩), .string s] w fun e w' => e = .returned (.tuple #[]) ∧ RS w' B p c ts (k + 1) ∧ BX B w w' := by
  have H1 := passes_yes w B p c ts k s h hs hk
  go_enter Tryz.func31, Tryz.ntmps31
  go_wp2_with fail
  refine H1.mono ?_
  rintro e w1 ⟨rfl, h1, hx1⟩
  go_wp2_with fail
  refine (pneed_true _ _).mono ?_
  rintro e w2 ⟨rfl, rfl⟩
  go_wp2
  go_end0
  exact ⟨rfl, h1, hx1⟩
set_option maxHeartbeats 1000000 in
theorem pass_bad (w : World) (B : Nat) (p : Option Addr) (c : Nat) (ts : List Tk) (k : Nat) (s : ByteArray) (h : RS w B p c ts k) (hs : sayB (ts.drop k) s.data.toList = false) :
    Calls Tryz.prog 31 #[.pointer (some ⟨B, 0, none⟩), .string s] w fun e w' => e = .panicked (thrownP 1) ∧ RS w' B p c ts k ∧ BX B w w' := by
  have H1 := passes_no w B p c ts k s h hs
  go_enter Tryz.func31, Tryz.ntmps31
  go_wp2_with fail
  refine H1.mono ?_
  rintro e w1 ⟨rfl, hb1⟩
  go_wp2_with fail
  refine (pneed_false _ _).mono ?_
  rintro e w2 ⟨rfl, rfl⟩
  go_wp2
  exact ⟨rfl, rfl, h.up hb1, BX.of_below hb1⟩
set_option maxHeartbeats 1000000 in
theorem take_ok (w : World) (B : Nat) (p : Option Addr) (c : Nat) (ts : List Tk) (k : Nat) (kd : Int) (h : RS w B p c ts k) (hk : k < ts.length) (hd : (hdT (ts.drop k)).kind = kd) :
    Calls Tryz.prog 100 #[.pointer (some ⟨B, 0, none⟩), .int .i64 kd] w fun e w' => e = .returned (.string (hdT (ts.drop k)).s) ∧ RS w' B p c ts (k + 1) ∧ BX B w w' := by
  have H1 := ahead0_any w B p c ts k h
  have i1 : (k : Int) ≤ 300 := by have := h.len; omega
  generalize hdT (ts.drop k) = t at *
  unfold tokV at H1
  subst hd
  go_enter Tryz.func100, Tryz.ntmps100
  go_wp2_with fail
  refine H1.mono ?_
  rintro e w1 ⟨rfl, hb1⟩
  have hbt : Below w1.heap.size w1 (w1.alloc (.cells #[.int .i64 t.kind, .string t.s, .int .i64 t.at_] 37)) := (Below.refl _ _).alloc (Nat.le_refl _) _
  have h1 := (h.up hb1).up hbt
  have c1 := h1.c1
  have f1 := h1.fz
  go_wp2_with fail
  refine (pneed_true _ _).mono ?_
  rintro e w2 ⟨rfl, rfl⟩
  have hsz : w1.heap.size ≠ B := by have := (h.up hb1).lt; omega
  go_wp2
  go_ret
  exact ⟨rfl, h1.set (k' := k + 1) (by omega), ((BX.of_below hb1).up hbt).set 1 _⟩
set_option maxHeartbeats 1000000 in
theorem take_bad (w : World) (B : Nat) (p : Option Addr) (c : Nat) (ts : List Tk) (k : Nat) (kd : Int) (h : RS w B p c ts k) (hd : ((hdT (ts.drop k)).kind == kd) = false) :
    Calls Tryz.prog 100 #[.pointer (some ⟨B, 0, none⟩), .int .i64 kd] w fun e w' => e = .panicked (thrownP 1) ∧ RS w' B p c ts k ∧ BX B w w' := by
  have H1 := ahead0_any w B p c ts k h
  generalize hdT (ts.drop k) = t at *
  unfold tokV at H1
  go_enter Tryz.func100, Tryz.ntmps100
  go_wp2_with fail
  refine H1.mono ?_
  rintro e w1 ⟨rfl, hb1⟩
  have hbt : Below w1.heap.size w1 (w1.alloc (.cells #[.int .i64 t.kind, .string t.s, .int .i64 t.at_] 37)) := (Below.refl _ _).alloc (Nat.le_refl _) _
  go_wp2_with fail
  refine (pneed_false _ _).mono ?_
  rintro e w2 ⟨rfl, rfl⟩
  go_wp2
  exact ⟨rfl, rfl, (h.up hb1).up hbt, (BX.of_below hb1).up hbt⟩
end Go.Proofs.YtpbnjdgedifnoabGreatDoor
namespace Go.Proofs.YtpbnjdgedifnoabGreatDoor
open Go.RowKit Go.Maps Go.WideMaps
set_option linter.unusedVariables false
set_option maxRecDepth 100000

theorem key_law : Keyed Tryz.prog 9 := string_keyed Tryz.underlying9
theorem zero_int (w : World) : (zeroValue 3).run Tryz.prog w = .ok (.int .i64 0) w := by kernel_rfl

/-- A map tells what a function tells of each text. -/
structure OpsM (D : DataW Unit) (f : List UInt8 → Option Int) : Prop where
  has : ∀ x : List UInt8, Maps.has D (.string x) = (f x).isSome
  val : ∀ x : List UInt8, D.atKey (.string x) (.lit (.int .i64 0)) = .lit (.int .i64 ((f x).getD 0))
def putF (f : List UInt8 → Option Int) (k : List UInt8) (o : Int) : List UInt8 → Option Int := fun x => if x = k then some o else f x
def noF : List UInt8 → Option Int := fun _ => none
theorem OpsM.start : OpsM (.map []) noF := ⟨fun x => by simp [Maps.has, noF], fun x => rfl⟩
theorem OpsM.put {D : DataW Unit} {f : List UInt8 → Option Int} (h : OpsM D f) (ht : Tidy D) (k : List UInt8) (o : Int) : OpsM (D.put (.string k) (.lit (.int .i64 o))) (putF f k o) := by
  have hkl : WideAt.IsKeyLit (.string k) := trivial
  refine ⟨fun x => ?_, fun x => ?_⟩
  · by_cases e : x = k
    · subst e
      rw [has_put_same ht.isMap hkl]
      simp [putF]
    · rw [has_put_other (fun q => e (by injection q)), h.has]
      simp [putF, e]
  · by_cases e : x = k
    · subst e
      rw [atKey_put_same ht.isMap hkl]
      simp [putF]
    · rw [atKey_put_other (fun q => e (by injection q)), h.val]
      simp [putF, e]
/-- A map of the call's own in a block, with at most so many names. -/
def OM (w : World) (b n : Nat) (f : List UInt8 → Option Int) : Prop := ∃ D, w.ownsMap Tryz.prog 9 (plainElem Tryz.prog 3) b n D ∧ OpsM D f
theorem OM.made (w : World) : OM (w.alloc (.map #[] 0)) w.heap.size 0 noF := ⟨.map [], World.ownsMap_made _ _ _ _, OpsM.start⟩
theorem OM.put {w : World} {b n : Nat} {f : List UInt8 → Option Int} (h : OM w b n f) (hn : n ≤ 10) (k : ByteArray) (hk : k.size ≤ maxLen) (o : Int) (ho : 0 ≤ o) (ho2 : o ≤ 100) :
    ∃ w', (Instr.mapUpdate 88 (.map (some b)) (.string k) (.int .i64 o)).run Tryz.prog w = .ok () w' ∧ OM w' b (n + 1) (putF f k.data.toList o) ∧ w.grownBy w' (some b) := by
  obtain ⟨D, h1, h2⟩ := h
  obtain ⟨w', r1, r2, r3⟩ := h1.update (t := 88) (e := 3) key_law Tryz.underlying88 (by unfold maxLen; omega) (keyOf_string_mk Tryz.underlying9 hk) (plainElem_int Tryz.underlying3 (WalkArith.wf_i64 (n := o) (by omega)))
  exact ⟨w', r1, ⟨_, r2, h2.put (h1.tidy key_law) _ _⟩, r3⟩
theorem OM.lt {w : World} {b n : Nat} {f : List UInt8 → Option Int} (h : OM w b n f) : b < w.heap.size := by
  obtain ⟨D, h1, h2⟩ := h; exact h1.lt
theorem OM.of_block {w w' : World} {b n : Nat} {f : List UInt8 → Option Int} (h : OM w b n f) (hb : w'.heap[b]? = w.heap[b]?) : OM w' b n f := by
  obtain ⟨D, ⟨es, clock, h1, h3⟩, h2⟩ := h
  exact ⟨D, ⟨es, clock, hb.trans h1, h3⟩, h2⟩
theorem OM.ne {w : World} {b n : Nat} {f : List UInt8 → Option Int} {B : Nat} {p : Option Addr} {c : Nat} {ts : List Tk} {k : Nat} (h : OM w b n f) (hr : RS w B p c ts k) : b ≠ B := by
  intro e; subst e
  obtain ⟨D, ⟨es, clock, h1, h3⟩, h2⟩ := h
  rw [hr.blk] at h1
  injection h1 with h1
  cases h1
theorem OM.bx {w w' : World} {b n : Nat} {f : List UInt8 → Option Int} {B : Nat} {p : Option Addr} {c : Nat} {ts : List Tk} {k : Nat} (h : OM w b n f) (hr : RS w B p c ts k) (hx : BX B w w') : OM w' b n f :=
  h.of_block (hx.block b h.lt (h.ne hr))
theorem OM.up {w w' : World} {b n : Nat} {f : List UInt8 → Option Int} (h : OM w b n f) (hb : Below w.heap.size w w') : OM w' b n f := h.of_block (hb.block b h.lt)
/-- A map that is laid in a block above all that lay there keeps what lay there. -/
theorem grown_below {w0 w w' : World} {b : Nat} (h : Below w0.heap.size w0 w) (hg : w.grownBy w' (some b)) (hb : w0.heap.size ≤ b) : Below w0.heap.size w0 w' :=
  h.grown hg h.size (fun j hj => by cases hj; exact hb)
theorem lookup_op (w : World) {ops : Array Oper} {rest : List Oper} {o : Oper} {a : Act} {Q : Exit → Act → World → Prop} (hg : o.guard = none) (m x : Operand) (hop : o.op = Op.lookup 88 m x true)
    (b n : Nat) (f : List UInt8 → Option Int) (hm : a.eval m = .map (some b)) (hown : OM w b n f) (s : ByteArray) (hx : a.eval x = .string s) (hs : s.size ≤ maxLen)
    (hK : wpList Tryz.prog ops Q rest (a.put o.dst (.tuple #[.int .i64 ((f s.data.toList).getD 0), .bool (f s.data.toList).isSome])) w) : wpList Tryz.prog ops Q (o :: rest) a w := by
  obtain ⟨D, h1, h2⟩ := hown
  exact wpList_lookup_own_ok_int w hg m x 88 hop 9 3 .i64 key_law Tryz.underlying88 Tryz.underlying3 (zero_int _) b n D hm h1 _ _ hx (keyOf_string_mk Tryz.underlying9 hs) (fun c hat _ => by
    rw [h2.val] at hat
    injection hat with h1
    injection h1 with _ h3
    rw [← h3, h2.has]; exact hK)
end Go.Proofs.YtpbnjdgedifnoabGreatDoor
