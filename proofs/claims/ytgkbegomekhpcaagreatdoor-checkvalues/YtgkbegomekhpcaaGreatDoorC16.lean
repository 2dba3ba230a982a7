/- A block of cells; an append at an operation: for whatever type. A list of nodes as an argument. (Parted out of KrF, KrO.) A list of nodes appended to a row, wherever it lies; what a grown row keeps. (Parted out of KrQ.) Lists of nodes one behind the other; a list that is told in new memory. (Parted out of ChF.) A row of lists of nodes of the call's own, which lie anywhere beside it. (Parted out of ChR.) Parts of package check in memory: rows of parts, each with the row of its own and all its nodes; in which blocks they lie. Package check: count, by a walk of its own text. Package check: first, whole, by walks of their own texts. Package kinds: fit, by a walk of its own text. -/
import Derived.Test.YtgkbegomekhpcaaGreatDoorC15
import Derived.Maps.AppendAt
import Derived.Laws.AppendOwnNone
import Derived.Test.YtgkbegomekhpcaaGreatDoorC10
import Derived.Test.YtgkbegomekhpcaaGreatDoorC11
namespace Go.Proofs.YtgkbegomekhpcaaGreatDoor
open Go.RowKit
set_option linter.unusedVariables false

/-- A block holds these cells. -/
structure Blk (w : World) (B : Nat) (cs : Array Value) (T : TypeId) : Prop where
  blk : w.heap[B]? = some (.cells cs T)
theorem Blk.lt {w : World} {B : Nat} {cs : Array Value} {T : TypeId} (h : Blk w B cs T) : B < w.heap.size := (Array.getElem?_eq_some_iff.1 h.blk).1
theorem Blk.low {N : Nat} {w w' : World} {B : Nat} {cs : Array Value} {T : TypeId} (h : Blk w B cs T) (k : Below N w w') (hB : B < N) : Blk w' B cs T := ⟨(k.block B hB).trans h.blk⟩
theorem Blk.up {w w' : World} {B : Nat} {cs : Array Value} {T : TypeId} (h : Blk w B cs T) (k : Below w.heap.size w w') : Blk w' B cs T := h.low k h.lt
theorem Blk.grown {w w' : World} {B : Nat} {cs : Array Value} {T : TypeId} {r : Option Nat} (h : Blk w B cs T) (k : w.grownBy w' r) (hr : r ≠ some B) : Blk w' B cs T := ⟨(k.block B h.lt (fun e => hr e.symm)).trans h.blk⟩
theorem Blk.keep {S : Nat → Prop} {w w' : World} {B : Nat} {cs : Array Value} {T : TypeId} (h : Blk w B cs T) (k : Keep S w w') (hr : ¬ S B) : Blk w' B cs T := ⟨(k.block B h.lt hr).trans h.blk⟩
theorem Blk.cell {w : World} {B : Nat} {cs : Array Value} {T : TypeId} (h : Blk w B cs T) (j : Nat) : w.cell? ⟨B, j, none⟩ = cs[j]? := by simp [World.cell?, h.blk]
theorem Blk.free {w : World} {B : Nat} {cs : Array Value} {T : TypeId} (h : Blk w B cs T) (j : Nat) : w.frozen? ⟨B, j, none⟩ = false := by simp [World.frozen?, h.blk]
theorem Blk.new (w : World) {B : Nat} (cs : Array Value) (T : TypeId) (hB : B = w.heap.size) : Blk (w.alloc (.cells cs T)) B cs T := by subst hB; exact ⟨(MapKept.heap_alloc w _).1⟩
theorem Blk.set {w w' : World} {B j : Nat} {cs : Array Value} {T : TypeId} {z : Value} (h : Blk w B cs T) (hw : w' = w.setCell ⟨B, j, none⟩ z) : Blk w' B (cs.setIfInBounds j z) T ∧ Keep (fun a => a = B) w w' := by
  subst hw
  exact ⟨⟨heap_setCell_same w B j _ _ z h.blk⟩, keep_set w B j z⟩
theorem grown_belowG {N : Nat} {w w' : World} {r : Option Nat} (h : w.grownBy w' r) (hr : ∀ g, r = some g → N ≤ g) (hN : N ≤ w.heap.size) : Below N w w' := ⟨h.os, h.tape, h.output, h.size, fun a ha => h.block a (by omega) (fun e => by have := hr a e.symm; omega)⟩
/-- append at an operation. -/
theorem wp_append_at {P : Program} (w : World) {o : Oper} {a : Act} {K : Act → World → Prop} {Q : Exit → Act → World → Prop} (s x : Operand) (t : TypeId)
    (ho : o.op = .call { callee := .builtin .append, args := #[s, x], argTypes := #[t, t] })
    (base : Nat) (e : TypeId) (i : TypeInfo) (z : Value) (size bytes : Nat) (ht : P.underlying t = some (.slice e)) (hi : P.info? e = some i) (hz : i.zero = some z)
    (hsize : i.size = size) (hby : i.bytes = bytes) (hzs : z.cells.size = size) (hsz : 0 < size)
    (v : Value) (n : Nat) (xs : List Value) (hs : a.eval s = v) (hown : w.ownsRow base e size v n xs)
    (ad : Addr) (m c : Nat) (news : List Value) (hx : a.eval x = .slice (some ad) m c) (hl : news.length = m * size) (hnews : ∀ j u, news[j]? = some u → w.cell? (ad.add j) = some u) (h1 : ∀ u ∈ news, u.oneCell' = true)
    (h63 : n + m ≤ maxLen) (hbytes : (n + m) * bytes ≤ 140737488355328) (hbase : base ≤ w.heap.size)
    (h : ∀ v' w', w'.ownsRow base e size v' (n + m) (xs ++ news) → w.grownBy w' v.ownBlock → (v'.ownBlock = v.ownBlock ∨ v'.ownBlock = some w.heap.size) → K (a.put o.dst v') w') : o.wp P a w K Q := by
  obtain ⟨v', w', hr, h2, h3, h4, h5⟩ := run_append_own_at (P := P) w base t o.type e i z size bytes ht hi hz hsize hby hzs hsz v n xs hown ad m c news hl hnews h1 h63 hbytes hbase
  unfold Oper.wp execOp
  simp only [ho, resolve, invoke, builtin, Sem.run_bind, Sem.run_pure, Result.andThen_ok, List.map_toArray, List.map_cons, List.map_nil, hs, hx, hr]
  exact h v' w' h2 h3 h5
/-- append of nothing, at an operation. -/
theorem wp_append_none {P : Program} (w : World) {o : Oper} {a : Act} {K : Act → World → Prop} {Q : Exit → Act → World → Prop} (s x : Operand) (t : TypeId)
    (ho : o.op = .call { callee := .builtin .append, args := #[s, x], argTypes := #[t, t] })
    (base : Nat) (e : TypeId) (i : TypeInfo) (size : Nat) (ht : P.underlying t = some (.slice e)) (hi : P.info? e = some i)
    (v : Value) (n : Nat) (xs : List Value) (hs : a.eval s = v) (hown : w.ownsRow base e size v n xs) (hx : a.eval x = .slice none 0 0)
    (h : K (a.put o.dst v) w) : o.wp P a w K Q := by
  have hrun := run_append_owned_none (P := P) (w := w) base t o.type e i size ht hi v n xs hown
  unfold Oper.wp
  simp [execOp, ho, resolve, invoke, builtin, hs, hx, hrun, Result.andThen]
  exact h
end Go.Proofs.YtgkbegomekhpcaaGreatDoor
namespace Go.Proofs.YtgkbegomekhpcaaGreatDoor
open Go.RowKit
set_option linter.unusedVariables false
set_option linter.unusedSimpArgs false
set_option maxRecDepth 100000

/-- A list of nodes as an argument. -/
structure AK0 (w : World) (a : List Nd) (p : Option Addr) (c : Nat) : Prop where
  nl : NL w p a
  le : a.length ≤ c
  cm : c ≤ maxLen
theorem AK0.up {w w' : World} {a : List Nd} {p : Option Addr} {c : Nat} (h : AK0 w a p c) (hb : Below w.heap.size w w') : AK0 w' a p c := ⟨h.nl.up hb, h.le, h.cm⟩
/-- A type is told: where it lies. -/
def KRet (w' : World) (l : List Nd) (e : Ending) : Prop := ∃ q c', e = .returned (.slice q l.length c') ∧ AK0 w' l q c'
/-- A new list of one node. -/
theorem one_newN {w W' : World} {B : Nat} (x : Nd) (hx : x.wf) (hB : B = w.heap.size) (hb : Below (w.alloc (.cells #[.int .i64 x.op, .int .i64 x.n, .string x.s, .string x.t] 33)).heap.size (w.alloc (.cells #[.int .i64 x.op, .int .i64 x.n, .string x.s, .string x.t] 33)) W') : KRet W' [x] (.returned (.slice (some ⟨B, 0, none⟩) 1 1)) := by
  have hk := (Blk.new w (B := B) #[.int .i64 x.op, .int .i64 x.n, .string x.s, .string x.t] 33 hB).up hb
  refine ⟨_, _, rfl, ⟨.inr ⟨B, 0, rfl, hk.lt, fun i z hz => ?_⟩, Nat.le_refl _, by unfold maxLen; omega⟩⟩
  cases i with
  | succ i => simp at hz
  | zero =>
    simp only [List.getElem?_cons_zero, Option.some.injEq] at hz
    subst hz
    exact ⟨hk.cell 0, hk.cell 1, hk.cell 2, hk.cell 3, hx⟩
theorem lf_wf (o : Int) (h : o ≤ 100) : (lfN o).wf := by
  simp [lfN, e0, Nd.wf, maxLen]
  exact Nat.zero_le _
end Go.Proofs.YtgkbegomekhpcaaGreatDoor
namespace Go.Proofs.YtgkbegomekhpcaaGreatDoor
open Go.RowKit
set_option linter.unusedVariables false
set_option linter.unusedSimpArgs false
set_option maxRecDepth 100000

theorem append_nodesG (w : World) {ops : Array Oper} {rest : List Oper} {o : Oper} {a : Act} {Q : Exit → Act → World → Prop} (hgd : o.guard = none) (s x : Operand)
    (ho : o.op = .call { callee := .builtin .append, args := #[s, x], argTypes := #[26, 26] })
    (base : Nat) (v : Value) (L : List Nd) (hs : a.eval s = v) (hown : ON w base v L) (M : List Nd) (n : Nat) (hn : M.length = n) (b off c : Nat) (hN : NL w (some ⟨b, off, none⟩) M)
    (hx : a.eval x = .slice (some ⟨b, off, none⟩) n c) (hlen : L.length + M.length ≤ 1099511627776) (hbase : base ≤ w.heap.size)
    (h : ∀ v' w', ON w' base v' (L ++ M) → w.grownBy w' v.ownBlock → (v'.ownBlock = v.ownBlock ∨ v'.ownBlock = some w.heap.size) → wpList Tryz.prog ops Q rest (a.put o.dst v') w') : wpList Tryz.prog ops Q (o :: rest) a w := by
  subst hn
  obtain ⟨i0, hi, hz0, hz1, hz2⟩ := info_parts Tryz.infoNode
  refine wpList_append_own_at _ hgd s x 26 ho base 33 i0 _ 4 48 Tryz.underlying26 hi hz0 hz1 hz2 rfl (by decide) v L.length (ncells L) hs hown.1 ⟨b, off, none⟩ M.length c (ncells M) hx (ncells_length M) ?_ (ncells_one _) (by unfold maxLen; omega) (by omega) hbase ?_
  · intro j u hu
    have hadd : (⟨b, off, none⟩ : Addr).add j = ⟨b, off + j, none⟩ := by unfold Addr.add; split <;> simp_all
    rw [hadd]; exact hN.cells j u hu
  · intro v' w' h1 h2 _ h4
    refine h v' w' ⟨?_, fun x hx => ?_⟩ h2 h4
    · rw [ncells_append, List.length_append]; exact h1
    · rcases List.mem_append.1 hx with hx | hx
      · exact hown.2 x hx
      · exact hN.wfs x hx
theorem NL.keep {S : Nat → Prop} {w w' : World} {b off : Nat} {L : List Nd} (h : NL w (some ⟨b, off, none⟩) L) (k : Keep S w w') (hS : ¬ S b) : NL w' (some ⟨b, off, none⟩) L := by
  rcases h with h | ⟨b', off', h1, h2, h3⟩
  · exact .inl h
  · cases h1
    refine .inr ⟨b, off, rfl, Nat.lt_of_lt_of_le h2 k.size, fun i x hx => ?_⟩
    have q : ∀ o, w'.cell? ⟨b, o, none⟩ = w.cell? ⟨b, o, none⟩ := fun o => k.cell (p := ⟨b, o, none⟩) h2 hS
    obtain ⟨a1, a2, a3, a4, a5⟩ := h3 i x hx
    exact ⟨(q _).trans a1, (q _).trans a2, (q _).trans a3, (q _).trans a4, a5⟩
theorem keep_grown {w w' : World} {r : Option Nat} (h : w.grownBy w' r) : Keep (fun a => r = some a) w w' := ⟨h.os, h.tape, h.output, h.size, fun a ha hn => h.block a ha (fun e => hn e.symm)⟩
theorem ON.emptyK (w : World) (base : Nat) : ON w base (.slice none 0 0) [] := ⟨World.ownsRow_nil _ _ _ _, fun x hx => by cases hx⟩
theorem ON.cap {w : World} {base : Nat} {q : Option Addr} {n c : Nat} {L : List Nd} (h : ON w base (.slice q n c) L) : L.length ≤ c ∧ c ≤ maxLen := by
  rcases h.1.2 with ⟨e, h0⟩ | ⟨g, cap, cur, e, _, _, h2, h3, _⟩
  · cases e; exact ⟨by omega, Nat.zero_le _⟩
  · cases e; exact ⟨h2, h3⟩
theorem ON.nl {w : World} {base : Nat} {q : Option Addr} {c : Nat} {L : List Nd} (h : ON w base (.slice q L.length c) L) : NL w q L := by
  obtain ⟨q', c', e, h1, _⟩ := NL.of_row h.2 h.1
  cases e
  exact h1.1
end Go.Proofs.YtgkbegomekhpcaaGreatDoor
namespace Go.Proofs.YtgkbegomekhpcaaGreatDoor
open Go.RowKit
set_option linter.unusedVariables false
set_option linter.unusedSimpArgs false
set_option maxRecDepth 100000

/-- Nodes are told, which lie in new memory. -/
def KRetF (w w' : World) (L : List Nd) (e : Ending) : Prop := ∃ q c', e = .returned (.slice q L.length c') ∧ AK0 w' L q c' ∧ ∀ b o, q = some ⟨b, o, none⟩ → w.heap.size ≤ b
theorem KRetF.ret {w w' : World} {L : List Nd} {e : Ending} (h : KRetF w w' L e) : KRet w' L e := by
  obtain ⟨q, c, h1, h2, _⟩ := h
  exact ⟨q, c, h1, h2⟩
def catL : List (List Nd) → List Nd
  | [] => []
  | l :: r => l ++ catL r
theorem catL_app : ∀ a b : List (List Nd), catL (a ++ b) = catL a ++ catL b
  | [], b => rfl
  | l :: r, b => by simp [catL, catL_app r b]
theorem LL.here {w : World} {p : Option Addr} {a r : List (List Nd)} {l : List Nd} (h : LL w p (a ++ l :: r)) : ∃ b off q c, p = some ⟨b, off, none⟩ ∧ b < w.heap.size ∧ w.cell? ⟨b, off + a.length, none⟩ = some (.slice q l.length c) ∧ NL w q l ∧ l.length ≤ c ∧ c ≤ maxLen := by
  rcases h with h | ⟨b, off, h1, h2, h3⟩
  · simp at h
  · obtain ⟨q, c, h4⟩ := h3 a.length l (by simp)
    exact ⟨b, off, q, c, h1, h2, h4⟩
end Go.Proofs.YtgkbegomekhpcaaGreatDoor
namespace Go.Proofs.YtgkbegomekhpcaaGreatDoor
open Go.RowKit
set_option linter.unusedVariables false
set_option maxRecDepth 100000

/-- Lists in a row of the call's own. -/
def TRow (w : World) (base : Nat) (v : Value) (vs : List (List Nd)) : Prop := ∃ xs : List Value, w.ownsRow base 26 1 v vs.length xs ∧ ∀ (i : Nat) u L, xs[i]? = some u → vs[i]? = some L → ∃ q c, u = .slice q L.length c ∧ AK0 w L q c ∧ ∀ b o, q = some ⟨b, o, none⟩ → b < w.heap.size ∧ v.ownBlock ≠ some b
theorem TRow.nil (w : World) (base : Nat) : TRow w base (.slice none 0 0) [] := ⟨[], World.ownsRow_nil _ _ _ _, fun i u L h => by simp at h⟩
theorem TRow.up {w w' : World} {base : Nat} {v : Value} {vs : List (List Nd)} (h : TRow w base v vs) (k : Below w.heap.size w w') : TRow w' base v vs := by
  obtain ⟨xs, h1, h2⟩ := h
  refine ⟨xs, ownP_agree h1 (fun g _ hl => k.block g hl), fun i u L hu hL => ?_⟩
  obtain ⟨q, c, h3, h4, h5⟩ := h2 i u L hu hL
  exact ⟨q, c, h3, h4.up k, fun b o e => ⟨Nat.lt_of_lt_of_le (h5 b o e).1 k.size, (h5 b o e).2⟩⟩
theorem TRow.slice {w : World} {base : Nat} {v : Value} {vs : List (List Nd)} (h : TRow w base v vs) : ∃ q c, v = .slice q vs.length c ∧ LL w q vs := by
  obtain ⟨xs, h1, h2⟩ := h
  obtain ⟨q, c, rfl⟩ := ownP_slice h1
  refine ⟨q, c, rfl, ?_⟩
  by_cases h0 : vs = []
  · exact .inl h0
  · have hl : xs.length = vs.length := by have := h1.1; omega
    have hpos : 0 < xs.length := by rw [hl]; exact List.length_pos_iff.2 h0
    obtain ⟨g, cap, e, hg, _, _⟩ := ownP_cell h1 (j := 0) (u := xs[0]) (List.getElem?_eq_getElem hpos)
    cases e
    refine .inr ⟨g, 0, rfl, hg, fun i L hL => ?_⟩
    have hi : i < xs.length := by rw [hl]; exact (List.getElem?_eq_some_iff.1 hL).1
    obtain ⟨q', c', h3, h4, _⟩ := h2 i xs[i] L (List.getElem?_eq_getElem hi) hL
    obtain ⟨g', cap', e', _, hc, _⟩ := ownP_cell h1 (j := i) (u := xs[i]) (List.getElem?_eq_getElem hi)
    cases e'
    exact ⟨q', c', by rw [Nat.zero_add, hc, h3], h4.nl, h4.le, h4.cm⟩
/-- One more behind the row. -/
theorem append_rowT (w : World) {ops : Array Oper} {rest : List Oper} {o : Oper} {a : Act} {Q : Exit → Act → World → Prop} (hgd : o.guard = none) (s x : Operand)
    (ho : o.op = .call { callee := .builtin .append, args := #[s, x], argTypes := #[87, 87] })
    (base : Nat) (v : Value) (vs : List (List Nd)) (hs : a.eval s = v) (hown : TRow w base v vs) (L : List Nd) (q : Option Addr) (c : Nat) (hA : AK0 w L q c) (hap : ∀ b o, q = some ⟨b, o, none⟩ → b < w.heap.size ∧ v.ownBlock ≠ some b)
    (hx : a.eval x = .slice (some ⟨w.heap.size, 0, none⟩) 1 1) (hlen : vs.length + 1 ≤ 1000000) (hbase : base ≤ w.heap.size) {n : Nat} (hn : L.length = n)
    (h : ∀ v' w', TRow w' base v' (vs ++ [L]) → Keep (fun b => v.ownBlock = some b) w w' → wpList Tryz.prog ops Q rest (a.put o.dst v') w') :
    wpList Tryz.prog ops Q (o :: rest) a (w.alloc (.cells #[.slice q n c] 26)) := by
  subst hn
  obtain ⟨i0, hi, hz0, hz1, hz2⟩ := info_parts Tryz.infoList
  obtain ⟨xs, h1, h2⟩ := hown
  have hb : Below w.heap.size w (w.alloc (.cells #[.slice q L.length c] 26)) := (Below.refl _ _).alloc (Nat.le_refl _) _
  have hown2 := ownP_agree (w' := w.alloc (.cells #[.slice q L.length c] 26)) h1 (fun g _ hg => hb.block g hg)
  refine wpList_append_own_at _ hgd s x 87 ho base 26 i0 _ 1 24 Tryz.underlying87 hi hz0 hz1 hz2 rfl (by decide) v vs.length xs hs hown2 ⟨w.heap.size, 0, none⟩ 1 1 [.slice q L.length c] hx rfl ?_ ?_ (by unfold maxLen; omega) (by omega) (Nat.le_trans hbase hb.size) ?_
  · intro j t hj
    match j, hj with
    | 0, hj => simp at hj; subst hj; simp [Addr.add]
    | (j + 1), hj => simp at hj
  · intro t ht
    simp only [List.mem_singleton] at ht
    subst ht
    rfl
  · intro v' w' g1 g2 _ g4
    have hs2 : (w.alloc (.cells #[.slice q L.length c] 26)).heap.size = w.heap.size + 1 := by simp
    have hK : Keep (fun b => v.ownBlock = some b) w w' := ⟨g2.os.trans hb.os, g2.tape.trans hb.tape, g2.output.trans hb.output, Nat.le_trans hb.size g2.size, fun k hk hne => (g2.block k (by omega) (fun e => hne e.symm)).trans (hb.block k hk)⟩
    have hnew : ∀ b, b < w.heap.size → v.ownBlock ≠ some b → v'.ownBlock ≠ some b := fun b hb1 hne e => by
      rcases g4 with g4 | g4
      · rw [g4] at e; exact hne e
      · rw [g4] at e; injection e with e; omega
    have hxl : xs.length = vs.length := by have := h1.1; omega
    have hak : ∀ {M : List Nd} {q' : Option Addr} {c' : Nat}, AK0 w M q' c' → (∀ b o, q' = some ⟨b, o, none⟩ → b < w.heap.size ∧ v.ownBlock ≠ some b) → AK0 w' M q' c' := fun {M q' c'} hM hq => by
      refine ⟨?_, hM.le, hM.cm⟩
      rcases hM.nl with e | ⟨b, o, e, _⟩
      · exact .inl e
      · subst e
        exact NL.keep hM.nl hK (hq b o rfl).2
    refine h v' w' ⟨xs ++ [.slice q L.length c], by rw [List.length_append]; exact g1, fun i u M hu hM => ?_⟩ hK
    by_cases hi2 : i < xs.length
    · rw [List.getElem?_append_left hi2] at hu
      rw [List.getElem?_append_left (by omega)] at hM
      obtain ⟨q', c', e1, e2, e3⟩ := h2 i u M hu hM
      exact ⟨q', c', e1, hak e2 e3, fun b o e => ⟨Nat.lt_of_lt_of_le (e3 b o e).1 hK.size, hnew b (e3 b o e).1 (e3 b o e).2⟩⟩
    · rw [List.getElem?_append_right (by omega)] at hu
      rw [List.getElem?_append_right (by omega), ← hxl] at hM
      have h0 : i - xs.length = 0 := by have := (List.getElem?_eq_some_iff.1 hu).1; simp at this; omega
      rw [h0] at hu hM
      simp at hu hM
      subst hu hM
      exact ⟨q, c, rfl, hak hA hap, fun b o e => ⟨Nat.lt_of_lt_of_le (hap b o e).1 hK.size, hnew b (hap b o e).1 (hap b o e).2⟩⟩
end Go.Proofs.YtgkbegomekhpcaaGreatDoor
namespace Go.Proofs.YtgkbegomekhpcaaGreatDoor
open Go.RowKit
set_option linter.unusedVariables false
set_option maxRecDepth 100000

theorem Tryz.infoPartC : (Tryz.prog.info? 76).map (fun i => (i.zero, i.size, i.bytes)) = some (some (.agg #[.int .i64 0, .int .i64 0, .string ⟨#[]⟩, .string ⟨#[]⟩, .slice none 0 0, .slice none 0 0]), 6, 96) := by kernel_rfl
def pcl6 (x : Nd) (v u : Value) : List Value := [.int .i64 x.op, .int .i64 x.n, .string x.s, .string x.t, v, u]
def partC (x : Nd) (v u : Value) : Value := .agg #[.int .i64 x.op, .int .i64 x.n, .string x.s, .string x.t, v, u]
/-- A part's nodes. -/
def NdsC (w0 : World) (x : Nd) (k : Tp) (u : Value) : Prop := ∃ q c, u = .slice q (k.flat.length + 1) c ∧ AK0 w0 (x :: k.flat) q c
/-- A row of parts by its cells; what lies below it lies in blocks of S; the nodes lie in an elder world. -/
def RC (w0 w : World) : Tp → List Value → (Nat → Prop) → Prop
  | .nil, l, S => l = []
  | .cons x k r, l, S => ∃ (v u : Value) (l' lk : List Value), l = pcl6 x v u ++ l' ∧ x.wf ∧ NdsC w0 x k u ∧ w.ownsRow 0 76 6 v k.len lk ∧ (∀ g, v.ownBlock = some g → S g) ∧ RC w0 w k lk S ∧ RC w0 w r l' S
/-- The value that leads to a row of parts. -/
def VC (w0 w : World) (k : Tp) (v : Value) (S : Nat → Prop) : Prop :=
  ∃ lk : List Value, w.ownsRow 0 76 6 v k.len lk ∧ (∀ g, v.ownBlock = some g → S g) ∧ RC w0 w k lk S
theorem RC.cons_iff {w0 w : World} {x : Nd} {k r : Tp} {l : List Value} {S : Nat → Prop} : RC w0 w (.cons x k r) l S ↔ ∃ (v u : Value) (l' : List Value), l = pcl6 x v u ++ l' ∧ x.wf ∧ NdsC w0 x k u ∧ VC w0 w k v S ∧ RC w0 w r l' S := by
  constructor
  · rintro ⟨v, u, l', lk, h1, h2, h0, h3, h4, h5, h6⟩
    exact ⟨v, u, l', h1, h2, h0, ⟨lk, h3, h4, h5⟩, h6⟩
  · rintro ⟨v, u, l', h1, h2, h0, ⟨lk, h3, h4, h5⟩, h6⟩
    exact ⟨v, u, l', lk, h1, h2, h0, h3, h4, h5, h6⟩
theorem RC.agree {w0 w w' : World} : ∀ {t : Tp} {l : List Value} {S : Nat → Prop}, RC w0 w t l S → (∀ a, S a → a < w.heap.size → w'.heap[a]? = w.heap[a]?) → RC w0 w' t l S
  | .nil, l, S, h, _ => h
  | .cons x k r, l, S, h, hw => by
    obtain ⟨v, u, l', lk, h1, h2, h0, h3, h4, h5, h6⟩ := h
    exact ⟨v, u, l', lk, h1, h2, h0, ownP_agree h3 (fun g hg => hw g (h4 g hg)), h4, h5.agree hw, h6.agree hw⟩
theorem VC.agree {w0 w w' : World} {k : Tp} {v : Value} {S : Nat → Prop} (h : VC w0 w k v S) (hw : ∀ a, S a → a < w.heap.size → w'.heap[a]? = w.heap[a]?) : VC w0 w' k v S := by
  obtain ⟨lk, h1, h2, h3⟩ := h
  exact ⟨lk, ownP_agree h1 (fun g hg => hw g (h2 g hg)), h2, h3.agree hw⟩
theorem VC.up {w0 w w' : World} {k : Tp} {v : Value} {S : Nat → Prop} (h : VC w0 w k v S) (hb : Below w.heap.size w w') : VC w0 w' k v S := h.agree (fun a _ ha => hb.block a ha)
theorem RC.up {w0 w w' : World} {k : Tp} {v : List Value} {S : Nat → Prop} (h : RC w0 w k v S) (hb : Below w.heap.size w w') : RC w0 w' k v S := h.agree (fun a _ ha => hb.block a ha)
theorem RC.sub {w0 w : World} : ∀ {t : Tp} {l : List Value} {S S2 : Nat → Prop}, RC w0 w t l S → (∀ a, S a → S2 a) → RC w0 w t l S2
  | .nil, l, S, S2, h, _ => h
  | .cons x k r, l, S, S2, h, hs => by
    obtain ⟨v, u, l', lk, h1, h2, h0, h3, h4, h5, h6⟩ := h
    exact ⟨v, u, l', lk, h1, h2, h0, h3, fun g hg => hs g (h4 g hg), h5.sub hs, h6.sub hs⟩
theorem VC.sub {w0 w : World} {k : Tp} {v : Value} {S S2 : Nat → Prop} (h : VC w0 w k v S) (hs : ∀ a, S a → S2 a) : VC w0 w k v S2 := by
  obtain ⟨lk, h1, h2, h3⟩ := h
  exact ⟨lk, h1, fun g hg => hs g (h2 g hg), h3.sub hs⟩
theorem VC.nil (w0 w : World) (S : Nat → Prop) : VC w0 w .nil (.slice none 0 0) S := ⟨[], ⟨rfl, .inl ⟨rfl, rfl⟩⟩, fun g hg => by simp [Value.ownBlock] at hg, rfl⟩
theorem VC.slice {w0 w : World} {k : Tp} {v : Value} {S : Nat → Prop} (h : VC w0 w k v S) : ∃ q c, v = .slice q k.len c ∧ k.len ≤ c ∧ c ≤ maxLen := by
  obtain ⟨lk, h1, _⟩ := h
  rcases h1.2 with ⟨rfl, h0⟩ | ⟨g, cap, cur, rfl, _, _, h2, h3, _⟩
  · exact ⟨none, 0, by rw [h0], by omega, Nat.zero_le _⟩
  · exact ⟨_, cap, rfl, h2, h3⟩
theorem RC.real {w0 w : World} : ∀ {t : Tp} {l : List Value} {S : Nat → Prop}, RC w0 w t l S → RC w0 w t l (fun a => S a ∧ a < w.heap.size)
  | .nil, l, S, h => h
  | .cons x k r, l, S, h => by
    obtain ⟨v, u, l', lk, h1, h2, h0, h3, h4, h5, h6⟩ := h
    exact ⟨v, u, l', lk, h1, h2, h0, h3, fun g hg => ⟨h4 g hg, (ownP_lt h3 hg).1⟩, h5.real, h6.real⟩
/-- Only the blocks that are there. -/
theorem VC.real {w0 w : World} {k : Tp} {v : Value} {S : Nat → Prop} (h : VC w0 w k v S) : VC w0 w k v (fun a => S a ∧ a < w.heap.size) := by
  obtain ⟨lk, h1, h2, h3⟩ := h
  exact ⟨lk, h1, fun g hg => ⟨h2 g hg, (ownP_lt h1 hg).1⟩, h3.real⟩
theorem RC.len {w0 w : World} : ∀ {t : Tp} {l : List Value} {S : Nat → Prop}, RC w0 w t l S → l.length = t.len * 6
  | .nil, l, S, h => by rw [show l = [] from h]; simp [Tp.len]
  | .cons x k r, l, S, h => by
    obtain ⟨v, u, l', rfl, _, _, _, h5⟩ := RC.cons_iff.1 h
    simp [pcl6, Tp.len, h5.len]
    omega
theorem RC.split {w0 w : World} : ∀ {a b : Tp} {l : List Value} {S : Nat → Prop}, RC w0 w (a.app b) l S → ∃ la lb, l = la ++ lb ∧ RC w0 w a la S ∧ RC w0 w b lb S
  | .nil, b, l, S, h => ⟨[], l, rfl, rfl, h⟩
  | .cons x k r, b, l, S, h => by
    obtain ⟨v, u, l', rfl, h2, h0, h3, h4⟩ := RC.cons_iff.1 h
    obtain ⟨la, lb, rfl, h7, h8⟩ := RC.split h4
    exact ⟨pcl6 x v u ++ la, lb, by simp, RC.cons_iff.2 ⟨v, u, la, rfl, h2, h0, h3, h7⟩, h8⟩
theorem RC.join {w0 w : World} : ∀ {a b : Tp} {la lb : List Value} {S : Nat → Prop}, RC w0 w a la S → RC w0 w b lb S → RC w0 w (a.app b) (la ++ lb) S
  | .nil, b, la, lb, S, ha, hb => by rw [show la = [] from ha]; exact hb
  | .cons x k r, b, la, lb, S, ha, hb => by
    obtain ⟨v, u, l', rfl, g2, g0, g3, g4⟩ := RC.cons_iff.1 ha
    exact RC.cons_iff.2 ⟨v, u, l' ++ lb, by simp, g2, g0, g3, RC.join g4 hb⟩
theorem RC.one {w0 w : World} {x : Nd} {k : Tp} {v u : Value} {S : Nat → Prop} (hx : x.wf) (hn : NdsC w0 x k u) (h : VC w0 w k v S) : RC w0 w (.cons x k .nil) (pcl6 x v u) S := RC.cons_iff.2 ⟨v, u, [], by simp, hx, hn, h, rfl⟩
/-- A part's cells, at its place. -/
structure PC6 (w : World) (g o : Nat) (x : Nd) (v u : Value) : Prop where
  lt : g < w.heap.size
  cells : w.cell? ⟨g, o, none⟩ = some (.int .i64 x.op) ∧ w.cell? ⟨g, o + 1, none⟩ = some (.int .i64 x.n) ∧ w.cell? ⟨g, o + 2, none⟩ = some (.string x.s) ∧ w.cell? ⟨g, o + 3, none⟩ = some (.string x.t) ∧ w.cell? ⟨g, o + 4, none⟩ = some v ∧ w.cell? ⟨g, o + 5, none⟩ = some u
theorem PC6.up {w w' : World} {g o : Nat} {x : Nd} {v u : Value} (h : PC6 w g o x v u) (k : Below w.heap.size w w') : PC6 w' g o x v u := by
  obtain ⟨h0, h1, h2, h3, h4, h5⟩ := h.cells
  have hl := h.lt
  exact ⟨Nat.lt_of_lt_of_le h.lt k.size, (k.cell (p := ⟨g, o, none⟩) hl).trans h0, (k.cell (p := ⟨g, o + 1, none⟩) hl).trans h1, (k.cell (p := ⟨g, o + 2, none⟩) hl).trans h2, (k.cell (p := ⟨g, o + 3, none⟩) hl).trans h3, (k.cell (p := ⟨g, o + 4, none⟩) hl).trans h4, (k.cell (p := ⟨g, o + 5, none⟩) hl).trans h5⟩
/-- The part at a place of a row. -/
theorem VC.at {w0 w : World} {a r k : Tp} {x : Nd} {v : Value} {S : Nat → Prop} (h : VC w0 w (a.app (.cons x k r)) v S) : ∃ g cap z u, v = .slice (some ⟨g, 0, none⟩) (a.len + (r.len + 1)) cap ∧ PC6 w g (a.len * 6) x z u ∧ x.wf ∧ NdsC w0 x k u ∧ VC w0 w k z S ∧ S g := by
  obtain ⟨lk, h1, h2, h3⟩ := h
  obtain ⟨la, lb, rfl, h5, h6⟩ := RC.split h3
  obtain ⟨z, u, l', rfl, g2, g0, g3, g4⟩ := RC.cons_iff.1 h6
  have hla := h5.len
  have hc : ∀ j, j < 6 → (la ++ (pcl6 x z u ++ l'))[a.len * 6 + j]? = (pcl6 x z u)[j]? := fun j hj => by
    rw [List.getElem?_append_right (by omega), List.getElem?_append_left (by simp [pcl6]; omega)]
    congr 1; omega
  obtain ⟨g, cap, rfl, hg, c0, _⟩ := ownP_cell h1 (hc 0 (by omega))
  obtain ⟨_, _, e1, _, c1, _⟩ := ownP_cell h1 (hc 1 (by omega))
  cases e1
  obtain ⟨_, _, e1, _, c2, _⟩ := ownP_cell h1 (hc 2 (by omega))
  cases e1
  obtain ⟨_, _, e1, _, c3, _⟩ := ownP_cell h1 (hc 3 (by omega))
  cases e1
  obtain ⟨_, _, e1, _, c4, _⟩ := ownP_cell h1 (hc 4 (by omega))
  cases e1
  obtain ⟨_, _, e1, _, c5, _⟩ := ownP_cell h1 (hc 5 (by omega))
  cases e1
  exact ⟨g, cap, z, u, by rw [tp_app_len]; rfl, ⟨hg, c0, c1, c2, c3, c4, c5⟩, g2, g0, g3, h2 g rfl⟩
/-- A part in a block of its own. -/
structure PBc (w : World) (B : Nat) (x : Nd) (v u : Value) : Prop where
  blk : w.heap[B]? = some (.cells #[.int .i64 x.op, .int .i64 x.n, .string x.s, .string x.t, v, u] 76 (0, 0))
theorem PBc.lt {w : World} {B : Nat} {x : Nd} {v u : Value} (h : PBc w B x v u) : B < w.heap.size := (Array.getElem?_eq_some_iff.1 h.blk).1
theorem PBc.up {w w' : World} {B : Nat} {x : Nd} {v u : Value} (h : PBc w B x v u) (hb : Below w.heap.size w w') : PBc w' B x v u := ⟨(hb.block B h.lt).trans h.blk⟩
theorem PBc.keep {S : Nat → Prop} {w w' : World} {B : Nat} {x : Nd} {v u : Value} (h : PBc w B x v u) (hb : Keep S w w') (hl : ¬ S B) : PBc w' B x v u := ⟨(hb.block B h.lt hl).trans h.blk⟩
theorem PBc.new (w : World) (x : Nd) (v u : Value) {N : Nat} (h : N = w.heap.size) : PBc (w.alloc (.cells #[.int .i64 x.op, .int .i64 x.n, .string x.s, .string x.t, v, u] 76)) N x v u := ⟨fnew_at h⟩
theorem PBc.cells {w : World} {B : Nat} {x : Nd} {v u : Value} (h : PBc w B x v u) : w.cell? ⟨B, 0, none⟩ = some (.int .i64 x.op) ∧ w.cell? ⟨B, 1, none⟩ = some (.int .i64 x.n) ∧ w.cell? ⟨B, 2, none⟩ = some (.string x.s) ∧ w.cell? ⟨B, 3, none⟩ = some (.string x.t) ∧ w.cell? ⟨B, 4, none⟩ = some v ∧ w.cell? ⟨B, 5, none⟩ = some u := by
  have := h.blk
  simp [World.cell?, this]
theorem PBc.free {w : World} {B : Nat} {x : Nd} {v u : Value} (h : PBc w B x v u) (j : Nat) : w.frozen? ⟨B, j, none⟩ = false := by
  have := h.blk
  simp [World.frozen?, this]
theorem PBc.put {w w' : World} {B : Nat} {x y : Nd} {u v u2 v2 : Value} (h : PBc w B y v2 u2) (hw : w' = (((((w.setCell ⟨B, 0, none⟩ (.int .i64 x.op)).setCell ⟨B, 1, none⟩ (.int .i64 x.n)).setCell ⟨B, 2, none⟩ (.string x.s)).setCell ⟨B, 3, none⟩ (.string x.t)).setCell ⟨B, 4, none⟩ v).setCell ⟨B, 5, none⟩ u) : PBc w' B x v u ∧ Keep (fun a => a = B) w w' := by
  have e1 := heap_setCell_same w B 0 _ _ (.int .i64 x.op) h.blk
  have e2 := heap_setCell_same _ B 1 _ _ (.int .i64 x.n) e1
  have e3 := heap_setCell_same _ B 2 _ _ (.string x.s) e2
  have e4 := heap_setCell_same _ B 3 _ _ (.string x.t) e3
  have e5 := heap_setCell_same _ B 4 _ _ v e4
  have e6 := heap_setCell_same _ B 5 _ _ u e5
  subst hw
  have q : ∀ (W : World) (o : Nat) (z : Value), Keep (fun a => a = B) W (W.setCell ⟨B, o, none⟩ z) := fun W o z => keep_set W B o z
  have t : ∀ {a b c : World}, Keep (fun a => a = B) a b → Keep (fun a => a = B) b c → Keep (fun a => a = B) a c := fun h k => h.trans k (fun _ e => .inl e)
  exact ⟨⟨e6⟩, t (t (t (t (t (q _ _ _) (q _ _ _)) (q _ _ _)) (q _ _ _)) (q _ _ _)) (q _ _ _)⟩
theorem PBc.put4 {w w' : World} {B : Nat} {x : Nd} {u v v2 : Value} (h : PBc w B x v2 u) (hw : w' = w.setCell ⟨B, 4, none⟩ v) : PBc w' B x v u ∧ Keep (fun a => a = B) w w' := by
  have e5 := heap_setCell_same _ B 4 _ _ v h.blk
  subst hw
  exact ⟨⟨e5⟩, keep_set w B 4 v⟩
theorem PBc.put5 {w w' : World} {B : Nat} {x : Nd} {u v u2 : Value} (h : PBc w B x v u2) (hw : w' = w.setCell ⟨B, 5, none⟩ u) : PBc w' B x v u ∧ Keep (fun a => a = B) w w' := by
  have e5 := heap_setCell_same _ B 5 _ _ u h.blk
  subst hw
  exact ⟨⟨e5⟩, keep_set w B 5 u⟩
def zN6 : Nd := ⟨0, 0, ⟨#[]⟩, ⟨#[]⟩⟩
/-- One more behind a row. -/
theorem append_partC (w : World) {ops : Array Oper} {rest : List Oper} {o : Oper} {a : Act} {Q : Exit → Act → World → Prop} (hgd : o.guard = none) (s x : Operand)
    (ho : o.op = .call { callee := .builtin .append, args := #[s, x], argTypes := #[74, 74] })
    (v : Value) (n : Nat) (l : List Value) (hs : a.eval s = v) (hown : w.ownsRow 0 76 6 v n l) (y : Nd) (z u : Value) (hz : z.oneCell' = true) (hu : u.oneCell' = true)
    (hx : a.eval x = .slice (some ⟨w.heap.size, 0, none⟩) 1 1) (hlen : n + 1 ≤ 1000000)
    (h : ∀ v' w', w'.ownsRow 0 76 6 v' (n + 1) (l ++ pcl6 y z u) → w.grownBy w' v.ownBlock → (∀ g, v'.ownBlock = some g → v.ownBlock = some g ∨ w.heap.size ≤ g) → wpList Tryz.prog ops Q rest (a.put o.dst v') w') :
    wpList Tryz.prog ops Q (o :: rest) a (w.alloc (.cells #[.int .i64 y.op, .int .i64 y.n, .string y.s, .string y.t, z, u] 76)) := by
  obtain ⟨i0, hi, hz0, hz1, hz2⟩ := info_parts Tryz.infoPartC
  have hb : Below w.heap.size w (w.alloc (.cells #[.int .i64 y.op, .int .i64 y.n, .string y.s, .string y.t, z, u] 76)) := (Below.refl _ _).alloc (Nat.le_refl _) _
  have hown2 := ownP_agree (w' := w.alloc (.cells #[.int .i64 y.op, .int .i64 y.n, .string y.s, .string y.t, z, u] 76)) hown (fun g _ hg => hb.block g hg)
  refine wpList_append_own_at _ hgd s x 74 ho 0 76 i0 _ 6 96 Tryz.underlying74 hi hz0 hz1 hz2 rfl (by decide) v n l hs hown2 ⟨w.heap.size, 0, none⟩ 1 1 (pcl6 y z u) hx rfl ?_ ?_ (by unfold maxLen; omega) (by omega) (Nat.zero_le _) ?_
  · intro j t hj
    match j, hj with
    | 0, hj => simp [pcl6] at hj; subst hj; simp [Addr.add]
    | 1, hj => simp [pcl6] at hj; subst hj; simp [Addr.add]
    | 2, hj => simp [pcl6] at hj; subst hj; simp [Addr.add]
    | 3, hj => simp [pcl6] at hj; subst hj; simp [Addr.add]
    | 4, hj => simp [pcl6] at hj; subst hj; simp [Addr.add]
    | 5, hj => simp [pcl6] at hj; subst hj; simp [Addr.add]
  · intro t ht
    simp only [pcl6, List.mem_cons, List.not_mem_nil, or_false] at ht
    rcases ht with rfl | rfl | rfl | rfl | rfl | rfl
    · rfl
    · rfl
    · rfl
    · rfl
    · exact hz
    · exact hu
  · intro v' w' h1 h2 _ h4
    have hs2 : (w.alloc (.cells #[.int .i64 y.op, .int .i64 y.n, .string y.s, .string y.t, z, u] 76)).heap.size = w.heap.size + 1 := by simp
    refine h v' w' h1 ⟨h2.os.trans hb.os, h2.tape.trans hb.tape, h2.output.trans hb.output, Nat.le_trans hb.size h2.size, fun k hk hne => (h2.block k (by omega) hne).trans (hb.block k hk)⟩ (fun g hg => ?_)
    rcases h4 with h4 | h4
    · exact .inl (by rw [← h4]; exact hg)
    · rw [h4] at hg
      injection hg with hg
      exact .inr (by omega)
end Go.Proofs.YtgkbegomekhpcaaGreatDoor
namespace Go.Proofs.YtgkbegomekhpcaaGreatDoor
open Go.RowKit
set_option linter.unusedVariables false
set_option maxRecDepth 100000

/-- How many parts stand behind a node, as the program counts. -/
def cntC (x : Nd) : Int := if x.op = 5 ∨ x.op = 6 ∨ x.op = 46 then x.n else if x.op = 7 ∨ x.op = 9 ∨ x.op = 10 ∨ x.op = 21 ∨ x.op = 22 ∨ x.op = 23 ∨ x.op = 24 ∨ x.op = 45 ∨ x.op = 47 then 1
  else if x.op = 11 ∨ x.op = 12 ∨ x.op = 14 ∨ x.op = 15 ∨ x.op = 16 ∨ x.op = 17 ∨ x.op = 18 ∨ x.op = 19 ∨ x.op = 20 ∨ x.op = 25 ∨ x.op = 26 ∨ x.op = 27 then 2 else if x.op = 13 then 3 else 0
/-- Each node has as many parts as it should. -/
def arC : Tp → Prop
  | .nil => True
  | .cons x k r => (cntC x).toNat = k.len ∧ arC k ∧ arC r
theorem arC_app : ∀ {a b : Tp}, arC (a.app b) ↔ arC a ∧ arC b
  | .nil, b => by simp [Tp.app, arC]
  | .cons x k r, b => by simp [Tp.app, arC, arC_app (a := r) (b := b), and_assoc]
set_option maxHeartbeats 4000000 in
theorem countC_any (x : Nd) (v u : Value) (w : World) :
    Calls Tryz.prog 126 #[partC x v u] w fun e w' => e = .returned (.int .i64 (cntC x)) ∧ Below w.heap.size w w' := by
  obtain ⟨xo, xn, xs, xt⟩ := x
  unfold partC cntC
  dsimp only
  by_cases hd : xo = 5 ∨ xo = 6 ∨ xo = 46 ∨ xo = 7 ∨ xo = 9 ∨ xo = 10 ∨ xo = 21 ∨ xo = 22 ∨ xo = 23 ∨ xo = 24 ∨ xo = 45 ∨ xo = 47 ∨ xo = 11 ∨ xo = 12 ∨ xo = 14 ∨ xo = 15 ∨ xo = 16 ∨ xo = 17 ∨ xo = 18 ∨ xo = 19 ∨ xo = 20 ∨ xo = 25 ∨ xo = 26 ∨ xo = 27 ∨ xo = 13
  · rcases hd with rfl | rfl | rfl | rfl | rfl | rfl | rfl | rfl | rfl | rfl | rfl | rfl | rfl | rfl | rfl | rfl | rfl | rfl | rfl | rfl | rfl | rfl | rfl | rfl | rfl
    all_goals
      go_enter Tryz.func126, Tryz.ntmps126
      go_wp2
      go_ret
      exact ⟨rfl, (Below.refl _ _).alloc (Nat.le_refl _) _⟩
  · rw [if_neg (by omega), if_neg (by omega), if_neg (by omega), if_neg (by omega)]
    have e : ∀ c : Int, c = 5 ∨ c = 6 ∨ c = 46 ∨ c = 7 ∨ c = 9 ∨ c = 10 ∨ c = 21 ∨ c = 22 ∨ c = 23 ∨ c = 24 ∨ c = 45 ∨ c = 47 ∨ c = 11 ∨ c = 12 ∨ c = 14 ∨ c = 15 ∨ c = 16 ∨ c = 17 ∨ c = 18 ∨ c = 19 ∨ c = 20 ∨ c = 25 ∨ c = 26 ∨ c = 27 ∨ c = 13 → (xo == c) = false := fun c hc => by rw [beq_eq_false_iff_ne]; omega
    have e1 := e 5 (by omega); have e2 := e 6 (by omega); have e3 := e 46 (by omega); have e4 := e 7 (by omega); have e5 := e 9 (by omega); have e6 := e 10 (by omega); have e7 := e 21 (by omega); have e8 := e 22 (by omega); have e9 := e 23 (by omega); have e10 := e 24 (by omega); have e11 := e 45 (by omega); have e12 := e 47 (by omega); have e13 := e 11 (by omega); have e14 := e 12 (by omega); have e15 := e 14 (by omega); have e16 := e 15 (by omega); have e17 := e 16 (by omega); have e18 := e 17 (by omega); have e19 := e 18 (by omega); have e20 := e 19 (by omega); have e21 := e 20 (by omega); have e22 := e 25 (by omega); have e23 := e 26 (by omega); have e24 := e 27 (by omega); have e25 := e 13 (by omega)
    clear hd e
    go_enter Tryz.func126, Tryz.ntmps126
    go_wp2
    go_ret
    exact ⟨rfl, (Below.refl _ _).alloc (Nat.le_refl _) _⟩
end Go.Proofs.YtgkbegomekhpcaaGreatDoor
namespace Go.Proofs.YtgkbegomekhpcaaGreatDoor
open Go.RowKit
set_option linter.unusedVariables false
set_option maxRecDepth 100000

/-- What first tells of a list that begins with a part. -/
def FirstC (x : Nd) (k : Tp) : Prop := ∀ (z : List Nd) (w0 w : World) (n : Nat) (p : Option Addr) (c : Nat), Below w0.heap.size w0 w → NL w0 p (x :: (k.flat ++ z)) → n = k.flat.length + z.length + 1 → n ≤ c → c ≤ maxLen → n ≤ 1000 → arC (.cons x k .nil) →
  Calls Tryz.prog 66 #[.slice p n c] w fun en w' => (∃ (v u : Value) (q : Option Addr) (c' : Nat), en = .returned (.tuple #[partC x v u, .slice q z.length c']) ∧ x.wf ∧ NdsC w0 x k u ∧ VC w0 w' k v (fun a => w.heap.size ≤ a) ∧ NL w0 q z ∧ z.length ≤ c' ∧ c' ≤ maxLen) ∧ Below w.heap.size w w'
set_option maxHeartbeats 4000000 in
theorem firstC_step (x : Nd) (k : Tp) (ih : ∀ y ky, ky.flat.length < k.flat.length → FirstC y ky) : FirstC x k := by
  intro z w0 w n p c hb0 hv hn hnc hcm hn9 har
  obtain ⟨b, off, rfl, hbw0, x0, x1, x2, x3, xw⟩ := hv.head
  replace x0 := (hb0.cell (p := ⟨b, off, none⟩) hbw0).trans x0
  replace x1 := (hb0.cell (p := ⟨b, off + 1, none⟩) hbw0).trans x1
  replace x2 := (hb0.cell (p := ⟨b, off + 2, none⟩) hbw0).trans x2
  replace x3 := (hb0.cell (p := ⟨b, off + 3, none⟩) hbw0).trans x3
  have hbw : b < w.heap.size := Nat.lt_of_lt_of_le hbw0 hb0.size
  obtain ⟨pr, hpr, hnr⟩ : ∃ pr, (if c = 1 then some (⟨b, off, none⟩ : Addr) else some ⟨b, off + 4, none⟩) = some ⟨b, pr, none⟩ ∧ NL w0 (some ⟨b, pr, none⟩) (k.flat ++ z) := by
    by_cases h : c = 1
    · exact ⟨off, if_pos h, .inl (List.eq_nil_of_length_eq_zero (by rw [List.length_append]; omega))⟩
    · exact ⟨off + 4, if_neg h, hv.tail⟩
  have HXW : Hid x.wf := xw
  clear xw
  have i00 : (0 : Int) < (n : Int) := by omega
  have i1 : (1 : Int) ≤ (n : Int) := by omega
  have HC := fun w1 v u => countC_any x v u w1
  have HCx : Hid ((cntC x).toNat = k.len) := har.1
  have HAR : Hid (arC k) := har.2.1
  obtain ⟨C, hC⟩ : ∃ C, C = cntC x := ⟨_, rfl⟩
  have hCk : C.toNat = k.len := by rw [hC]; exact har.1
  rw [← hC] at HC
  clear hC har
  have HIH : Hid (∀ y ky, ky.flat.length < k.flat.length → FirstC y ky) := ih
  have HN : Hid (n = k.flat.length + z.length + 1) := hn
  have HNL : Hid (NL w0 (some ⟨b, off, none⟩) (x :: k.flat)) := by
    have := hv.take (k.flat.length + 1)
    rw [List.take_succ_cons, List.take_left'] at this
    · exact this
    · rfl
  have hpr2 : (c = 1 ∧ off = pr) ∨ (¬ c = 1 ∧ off + 4 = pr) := by
    by_cases h : c = 1
    · rw [if_pos h] at hpr; exact .inl ⟨h, by simpa using hpr⟩
    · rw [if_neg h] at hpr; exact .inr ⟨h, by simpa using hpr⟩
  clear ih hn hv hpr
  unfold partC at *
  obtain ⟨W, hW⟩ : ∃ W, W = ((w.alloc (.cells #[.int .i64 0, .int .i64 0, .string ⟨#[]⟩, .string ⟨#[]⟩, .slice none 0 0, .slice none 0 0] 76)).alloc (.cells #[.int .i64 x.op, .int .i64 x.n, .string x.s, .string x.t, .slice none 0 0, .slice none 0 0] 76)).drew := ⟨_, rfl⟩
  have hb_0 : Below w.heap.size w W := by rw [hW]; exact (((Below.refl _ _).alloc (Nat.le_refl _) _).alloc (by simp) _).drew
  have hr_0 : PBc W w.heap.size zN6 (.slice none 0 0) (.slice none 0 0) := by rw [hW]; exact ((PBc.new w zN6 _ _ rfl).up ((Below.refl _ _).alloc (Nat.le_refl _) _)).up (Below.refl _ _).drew
  have hp_0 : PBc W (w.heap.size + 1) x (.slice none 0 0) (.slice none 0 0) := by rw [hW]; exact (PBc.new _ x _ _ (by simp)).up (Below.refl _ _).drew
  have hWs : W.heap.size = w.heap.size + 2 := by rw [hW]; simp [World.drew]
  have HB0 : Hid (Below w0.heap.size w0 w) := hb0
  clear hb0
  rcases hpr2 with ⟨rfl, rfl⟩ | ⟨hc1, rfl⟩
  · go_enter Tryz.func66, Tryz.ntmps66
    go_wp2
    go_region
    go_wp2_with fail
    rw [← hW]
    refine (HC _ _ _).mono ?_
    rintro _ w1 ⟨rfl, hbb⟩
    have hb_1 : Below w.heap.size w w1 := hb_0.trans (hbb.mono (by omega))
    have hr_1 := hr_0.up hbb
    have hp_1 := hp_0.up hbb
    have hs_1 : w.heap.size + 2 ≤ w1.heap.size := by have := hbb.size; omega
    clear hW hb_0 hr_0 hp_0 hbb HC x0 x1 x2 x3
    go_wp2_with fail
    go_loopw [5, 6, 15] (fun rv _ i wr => ∃ (done todo : Tp) (q : Option Addr) (m c' : Nat) (qv : Option Addr) (cv : Nat) (ld : List Value) (Sd : Nat → Prop), Hid (k = done.app todo) ∧ i = .int .i64 (done.len : Int) ∧ rv = .slice q m c' ∧ Hid (m = todo.flat.length + z.length) ∧ Hid (NL w0 q (todo.flat ++ z)) ∧ m ≤ c' ∧ c' ≤ maxLen ∧ PBc wr (w.heap.size + 1) x (.slice qv done.len cv) (.slice none 0 0) ∧ PBc wr w.heap.size zN6 (.slice none 0 0) (.slice none 0 0) ∧ Hid (wr.ownsRow 0 76 6 (.slice qv done.len cv) done.len ld) ∧ Hid (RC w0 wr done ld Sd) ∧ Hid (∀ a, Sd a → w.heap.size + 2 ≤ a ∧ a < wr.heap.size) ∧ Hid (∀ g, (Value.slice qv done.len cv).ownBlock = some g → w.heap.size + 2 ≤ g ∧ ¬ Sd g) ∧ Below w.heap.size w wr ∧ w.heap.size + 2 ≤ wr.heap.size) (fun _ _ i _ => k.len - (intOf i).toNat)
    case atStart => exact ⟨.nil, k, _, _, _, none, 0, [], fun _ => False, rfl, rfl, rfl, (by have := HN.out; show _ = _; omega), hnr, by omega, by omega, hp_1, hr_1, ⟨rfl, .inl ⟨rfl, rfl⟩⟩, rfl, (fun a h => h.elim), (fun g h => by simp [Value.ownBlock] at h), hb_1, hs_1⟩
    case round =>
      rename World => w3
      obtain ⟨done, todo, q, m, c', qv, cv, ld, Sd, HD, rfl, rfl, HM, hn_3, hmc, hcm', hp_3, hr_3, HO, HT, HS, HG, hb_3, hs_3⟩ := hrel
      have hdl : done.len + todo.len = k.len := by rw [HD.out, tp_app_len]
      have hdf : done.flat.length + todo.flat.length = k.flat.length := by rw [HD.out, tp_app_flat, List.length_append]
      have hk9 : k.len ≤ 1000 := by have := tp_len_flat k; have := HN.out; omega
      cases todo with
      | nil =>
        have hd : done = k := by have := HD.out; rw [tp_app_nil] at this; exact this.symm
        subst hd
        have hm : m = z.length := by have := HM.out; simpa [Tp.flat] using this
        have HMZ : Hid (m = z.length) := hm
        have HD : Hid (n - m = done.flat.length + 1) := by have := HN.out; show _ = _; omega
        have hmn : m ≤ n := by have := HN.out; omega
        have hsub : (n : Int) - (m : Int) = ((n - m : Nat) : Int) := by omega
        have j1 : ¬ (done.len : Int) < C := by omega
        have hn3 : NL w0 q z := by have := hn_3.out; simpa [Tp.flat] using this
        obtain ⟨d0, d1, d2, d3, d4, d5⟩ := hp_3.cells
        have fd := hp_3.free
        obtain ⟨r0, r1, r2, r3, r4, r5⟩ := hr_3.cells
        have fr := hr_3.free
        obtain ⟨V4, hV4⟩ : ∃ V4, V4 = w3.setCell ⟨w.heap.size + 1, 5, none⟩ (.slice (some ⟨b, off, none⟩) (n - m) 1) := ⟨_, rfl⟩
        obtain ⟨hp_4, hK4⟩ := hp_3.put5 hV4
        have hr_4 := hr_3.keep hK4 (by omega)
        obtain ⟨V5, hV5⟩ : ∃ V5, V5 = (((((V4.setCell ⟨w.heap.size, 0, none⟩ (.int .i64 x.op)).setCell ⟨w.heap.size, 1, none⟩ (.int .i64 x.n)).setCell ⟨w.heap.size, 2, none⟩ (.string x.s)).setCell ⟨w.heap.size, 3, none⟩ (.string x.t)).setCell ⟨w.heap.size, 4, none⟩ (.slice qv done.len cv)).setCell ⟨w.heap.size, 5, none⟩ (.slice (some ⟨b, off, none⟩) (n - m) 1) := ⟨_, rfl⟩
        obtain ⟨hr_5, hK5⟩ := hr_4.put (x := x) (v := .slice qv done.len cv) (u := .slice (some ⟨b, off, none⟩) (n - m) 1) hV5
        obtain ⟨p0, p1, p2, p3, p4, p5⟩ := hp_4.cells
        obtain ⟨g0, g1, g2, g3, g4, g5⟩ := hr_4.cells
        have fg := hr_4.free
        obtain ⟨t0, t1, t2, t3, t4, t5⟩ := hr_5.cells
        have hb4 : Below w.heap.size w V4 := hb_3.trans (hK4.below (by have := hb_3.size; omega) (fun a e => by omega))
        have hb5 : Below w.heap.size w V5 := hb4.trans (hK5.below (by have := hb4.size; omega) (fun a e => by omega))
        have HV5 : Hid (VC w0 V5 done (.slice qv done.len cv) (fun a => w.heap.size ≤ a)) := by
          refine ⟨ld, ownP_agree HO.out (fun g hg hl => ?_), fun g hg => by have := (HG.out g hg).1; omega, (HT.out.agree (fun a ha hl => ?_)).sub (fun a ha => by have := (HS.out a ha).1; omega)⟩
          · have := (HG.out g hg).1
            exact (hK5.block g (by have := hK4.size; omega) (by omega)).trans (hK4.block g hl (by omega))
          · have := (HS.out a ha).1
            exact (hK5.block a (by have := hK4.size; omega) (by omega)).trans (hK4.block a hl (by omega))
        have HRET : Hid (NdsC w0 x done (.slice (some ⟨b, off, none⟩) (n - m) 1)) := ⟨_, _, by rw [HD.out], ⟨HNL.out, by have := HN.out; simp only [List.length_cons]; omega, hcm⟩⟩
        rw [hV4] at p0 p1 p2 p3 p4 p5 g0 g1 g2 g3 g4 g5
        clear HM hn_3 hp_3 HO HT HS HG hdl hdf hm
        go_wp2
        rw [← hV4, ← hV5]
        refine bodyPost_ret (v := .tuple #[.agg #[.int .i64 x.op, .int .i64 x.n, .string x.s, .string x.t, .slice qv done.len cv, .slice (some ⟨b, off, none⟩) (n - m) 1], .slice q m c']) (by simp [results, Tryz.results66, go_sem, t0, t1, t2, t3, t4, t5]) rfl ⟨⟨_, _, q, c', by rw [HMZ.out], HXW.out, HRET.out, HV5.out, hn3, by have := HMZ.out; omega, hcm'⟩, hb5⟩
      | cons y ky r =>
        simp only [Tp.len, Tp.flat, List.length_cons, List.length_append] at hdl hdf
        have j1 : (done.len : Int) < C := by omega
        obtain ⟨V4, hV4⟩ : ∃ V4, V4 = w3.alloc (.cells #[.int .i64 0, .int .i64 0, .string ⟨#[]⟩, .string ⟨#[]⟩, .slice none 0 0, .slice none 0 0] 76) := ⟨_, rfl⟩
        have hb34 : Below w3.heap.size w3 V4 := by rw [hV4]; exact kqx
        have hz_4 : PBc V4 w3.heap.size zN6 (.slice none 0 0) (.slice none 0 0) := by rw [hV4]; exact PBc.new w3 zN6 _ _ rfl
        have hs34 : V4.heap.size = w3.heap.size + 1 := by rw [hV4]; simp
        have hb04 : Below w0.heap.size w0 V4 := (HB0.out.trans (hb_3.mono HB0.out.size)).trans (hb34.mono (by have := HB0.out.size; have := hb_3.size; omega))
        have hary : arC (.cons y ky .nil) := by
          have h := HAR.out
          rw [HD.out, arC_app] at h
          exact ⟨h.2.1, h.2.2.1, trivial⟩
        have hny : NL w0 q (y :: (ky.flat ++ (r.flat ++ z))) := by have := hn_3.out; simpa [Tp.flat] using this
        have hC1 := HIH.out y ky (by omega) (r.flat ++ z) w0 V4 m q c' hb04 hny (by have := HM.out; simp only [Tp.flat, List.length_cons, List.length_append] at this ⊢; omega) hmc hcm' (by have := HM.out; have := HN.out; simp only [Tp.flat, List.length_cons, List.length_append] at *; omega) hary
        have HDn : Hid (k = (done.app (.cons y ky .nil)).app r) := by show _ = _; rw [tp_app_assoc, HD.out]; rfl
        have hal : (done.app (.cons y ky .nil)).len = done.len + 1 := by rw [tp_app_len]; rfl
        have HAL : Hid ((done.app (.cons y ky .nil)).len = done.len + 1) := hal
        have hdl2 : done.len + 1 ≤ 1000000 := by omega
        have HDL : Hid (done.len + (r.len + 1) = k.len) := hdl
        clear hal hary hny hdl hdf
        unfold partC at hC1
        go_wp2_with fail
        rw [← hV4]
        clear hV4
        refine hC1.mono ?_
        rintro _ w5 ⟨⟨v5, u5, q5, c5, rfl, hyw, hnd5, hu_5, hn_5, hle5, hcm5⟩, hb5⟩
        obtain ⟨qu, cu, rfl, _⟩ := hu_5.slice
        obtain ⟨qn, cn, rfl, hAKn⟩ := hnd5
        have hz_5 := hz_4.up hb5
        obtain ⟨z0, z1, z2, z3, z4, z5⟩ := hz_5.cells
        have fz := hz_5.free
        have hp_5 := hp_3.up (kqt hb34 hb5)
        obtain ⟨M5, hM5⟩ : ∃ M5, M5 = (r.flat ++ z).length := ⟨_, rfl⟩
        have HM5 : Hid (M5 = r.flat.length + z.length) := by show _ = _; rw [hM5, List.length_append]
        rw [← hM5] at hle5 ⊢
        clear hM5 hC1
        obtain ⟨V6, hV6⟩ : ∃ V6, V6 = (((((w5.setCell ⟨w3.heap.size, 0, none⟩ (.int .i64 y.op)).setCell ⟨w3.heap.size, 1, none⟩ (.int .i64 y.n)).setCell ⟨w3.heap.size, 2, none⟩ (.string y.s)).setCell ⟨w3.heap.size, 3, none⟩ (.string y.t)).setCell ⟨w3.heap.size, 4, none⟩ (.slice qu ky.len cu)).setCell ⟨w3.heap.size, 5, none⟩ (.slice qn (ky.flat.length + 1) cn) := ⟨_, rfl⟩
        obtain ⟨hy_6, hK6⟩ := hz_5.put (x := y) (v := .slice qu ky.len cu) (u := .slice qn (ky.flat.length + 1) cn) hV6
        have hs36 : w3.heap.size + 1 ≤ V6.heap.size := by have := hb5.size; have := hK6.size; omega
        have hVs : V6.heap.size = w5.heap.size := by rw [hV6]; simp
        have hb36 : Below w3.heap.size w3 V6 := (kqt hb34 hb5).trans (hK6.below (by have := (kqt hb34 hb5).size; omega) (fun a e => by omega))
        have hp_6 := hp_5.keep hK6 (by omega)
        have hr_6 := hr_3.up hb36
        have hO6 : V6.ownsRow 0 76 6 (.slice qv done.len cv) done.len ld := ownP_agree HO.out (fun g hg hl => hb36.block g hl)
        have HT6 : Hid (RC w0 V6 done ld Sd) := HT.out.up hb36
        have HU6 : Hid (VC w0 V6 ky (.slice qu ky.len cu) (fun a => w3.heap.size + 1 ≤ a ∧ a < w5.heap.size)) := (hu_5.real.agree (fun a ha hl => hK6.block a hl (fun e => by have := ha.1; omega))).sub (fun a h => ⟨by have := h.1; omega, h.2⟩)
        have hb6 : Below w.heap.size w V6 := hb_3.trans (hb36.mono hb_3.size)
        have HGL : Hid (∀ g, (Value.slice qv done.len cv).ownBlock = some g → g < w3.heap.size) := fun g hg => (ownP_lt HO.out hg).1
        have HN5 : Hid (NL w0 q5 (r.flat ++ z)) := hn_5
        have HND : Hid (NdsC w0 y ky (.slice qn (ky.flat.length + 1) cn)) := ⟨qn, cn, rfl, hAKn⟩
        obtain ⟨y0, y1, y2, y3, y4, y5⟩ := hy_6.cells
        obtain ⟨b0, b1, b2, b3, b4, b5⟩ := hp_6.cells
        rw [hV6] at y0 y1 y2 y3 y4 y5 b4
        clear hu_5 hn_5 hb5 hb34 hAKn b0 b1 b2 b3 b5
        go_wp2_with (first | (at_builtin; rw [← hV6]; refine Hid.out ?_))
        show wpList _ _ _ _ _ _
        refine append_partC V6 rfl (.tmp 23) (.tmp 25) rfl (.slice qv done.len cv) done.len ld rfl hO6 y (.slice qu ky.len cu) (.slice qn (ky.flat.length + 1) cn) rfl rfl (by rw [hVs]; rfl) hdl2 ?_
        intro v7 w7 hO7 hg7 hat7
        obtain ⟨q7, c7, rfl⟩ := ownP_slice hO7
        have hp_7 : PBc w7 (w.heap.size + 1) x (.slice qv done.len cv) (.slice none 0 0) := ⟨(hg7.block _ hp_6.lt (fun e => by have := (HG.out _ e.symm).1; omega)).trans hp_6.blk⟩
        obtain ⟨d0, d1, d2, d3, d4, d5⟩ := hp_7.cells
        have fd := hp_7.free
        clear y0 y1 y2 y3 y4 y5 b4 z0 z1 z2 z3 z4 z5 fz hV6
        go_wp2_with fail
        obtain ⟨V8, hV8⟩ : ∃ V8, V8 = w7.setCell ⟨w.heap.size + 1, 4, none⟩ (.slice q7 (done.len + 1) c7) := ⟨_, rfl⟩
        rw [← hV8]
        obtain ⟨hp_8, hK8⟩ := hp_7.put4 hV8
        have hr_8 : PBc V8 w.heap.size zN6 (.slice none 0 0) (.slice none 0 0) := ⟨(hK8.block _ (Nat.lt_of_lt_of_le hr_6.lt hg7.size) (by omega)).trans ((hg7.block _ hr_6.lt (fun e => by have := (HG.out _ e.symm).1; omega)).trans hr_6.blk)⟩
        have hold : ∀ a, a < V6.heap.size → w.heap.size + 2 ≤ a → (Value.slice qv done.len cv).ownBlock ≠ some a → V8.heap[a]? = V6.heap[a]? := fun a h1 h2 h3 => (hK8.block a (Nat.lt_of_lt_of_le h1 hg7.size) (by omega)).trans (hg7.block a h1 (fun e => h3 e.symm))
        have hO8 : V8.ownsRow 0 76 6 (.slice q7 (done.len + 1) c7) (done.len + 1) (ld ++ pcl6 y (.slice qu ky.len cu) (.slice qn (ky.flat.length + 1) cn)) := ownP_agree hO7 (fun g hg hl => hK8.block g hl (fun e => by
          rcases hat7 g hg with h | h
          · have := (HG.out g h).1; omega
          · omega))
        have hT8 : RC w0 V8 (done.app (.cons y ky .nil)) (ld ++ pcl6 y (.slice qu ky.len cu) (.slice qn (ky.flat.length + 1) cn)) (fun a => Sd a ∨ (w3.heap.size + 1 ≤ a ∧ a < w5.heap.size)) := by
          refine RC.join ((HT6.out.agree (fun a ha hl => hold a hl (HS.out a ha).1 (fun e => (HG.out a e).2 ha))).sub (fun a h => .inl h)) (RC.one hyw HND.out ((HU6.out.agree (fun a ha hl => hold a hl (by omega) (fun e => by have := HGL.out a e; omega))).sub (fun a h => .inr h)))
        have hb8 : Below w.heap.size w V8 := by
          refine hb6.trans ?_
          have h1 : Below w.heap.size V6 w7 := ⟨hg7.os, hg7.tape, hg7.output, hg7.size, fun a ha => hg7.block a (by omega) (fun e => by have := (HG.out a e.symm).1; omega)⟩
          exact h1.trans (hK8.below (by have := hg7.size; omega) (fun a e => by omega))
        have hs8 : V6.heap.size ≤ V8.heap.size := Nat.le_trans hg7.size hK8.size
        go_roundw
        case rel =>
          refine ⟨done.app (.cons y ky .nil), r, q5, M5, c5, q7, c7, ld ++ pcl6 y (.slice qu ky.len cu) (.slice qn (ky.flat.length + 1) cn), (fun a => Sd a ∨ (w3.heap.size + 1 ≤ a ∧ a < w5.heap.size)), HDn, by rw [HAL.out]; go_num, rfl, HM5, HN5, hle5, hcm5, by rw [HAL.out]; exact hp_8, hr_8, by rw [HAL.out]; exact hO8, hT8, ?_, ?_, hb8, by omega⟩
          · intro a ha
            rcases ha with ha | ha
            · have := HS.out a ha; omega
            · omega
          · intro g hg
            rw [HAL.out] at hg
            rcases hat7 g hg with h | h
            · have h1 := HG.out g h
              have h2 := HGL.out g h
              exact ⟨h1.1, fun e => e.elim h1.2 (fun e => by omega)⟩
            · exact ⟨by omega, fun e => e.elim (fun e => by have := (HS.out g e).2; omega) (fun e => by omega)⟩
        case measure => have := HDL.out; simp [intOf]; omega
  · go_enter Tryz.func66, Tryz.ntmps66
    go_wp2
    go_region
    go_wp2_with fail
    rw [← hW]
    refine (HC _ _ _).mono ?_
    rintro _ w1 ⟨rfl, hbb⟩
    have hb_1 : Below w.heap.size w w1 := hb_0.trans (hbb.mono (by omega))
    have hr_1 := hr_0.up hbb
    have hp_1 := hp_0.up hbb
    have hs_1 : w.heap.size + 2 ≤ w1.heap.size := by have := hbb.size; omega
    clear hW hb_0 hr_0 hp_0 hbb HC x0 x1 x2 x3
    go_wp2_with fail
    go_loopw [5, 6, 15] (fun rv _ i wr => ∃ (done todo : Tp) (q : Option Addr) (m c' : Nat) (qv : Option Addr) (cv : Nat) (ld : List Value) (Sd : Nat → Prop), Hid (k = done.app todo) ∧ i = .int .i64 (done.len : Int) ∧ rv = .slice q m c' ∧ Hid (m = todo.flat.length + z.length) ∧ Hid (NL w0 q (todo.flat ++ z)) ∧ m ≤ c' ∧ c' ≤ maxLen ∧ PBc wr (w.heap.size + 1) x (.slice qv done.len cv) (.slice none 0 0) ∧ PBc wr w.heap.size zN6 (.slice none 0 0) (.slice none 0 0) ∧ Hid (wr.ownsRow 0 76 6 (.slice qv done.len cv) done.len ld) ∧ Hid (RC w0 wr done ld Sd) ∧ Hid (∀ a, Sd a → w.heap.size + 2 ≤ a ∧ a < wr.heap.size) ∧ Hid (∀ g, (Value.slice qv done.len cv).ownBlock = some g → w.heap.size + 2 ≤ g ∧ ¬ Sd g) ∧ Below w.heap.size w wr ∧ w.heap.size + 2 ≤ wr.heap.size) (fun _ _ i _ => k.len - (intOf i).toNat)
    case atStart => exact ⟨.nil, k, _, _, _, none, 0, [], fun _ => False, rfl, rfl, rfl, (by have := HN.out; show _ = _; omega), hnr, by omega, by omega, hp_1, hr_1, ⟨rfl, .inl ⟨rfl, rfl⟩⟩, rfl, (fun a h => h.elim), (fun g h => by simp [Value.ownBlock] at h), hb_1, hs_1⟩
    case round =>
      rename World => w3
      obtain ⟨done, todo, q, m, c', qv, cv, ld, Sd, HD, rfl, rfl, HM, hn_3, hmc, hcm', hp_3, hr_3, HO, HT, HS, HG, hb_3, hs_3⟩ := hrel
      have hdl : done.len + todo.len = k.len := by rw [HD.out, tp_app_len]
      have hdf : done.flat.length + todo.flat.length = k.flat.length := by rw [HD.out, tp_app_flat, List.length_append]
      have hk9 : k.len ≤ 1000 := by have := tp_len_flat k; have := HN.out; omega
      cases todo with
      | nil =>
        have hd : done = k := by have := HD.out; rw [tp_app_nil] at this; exact this.symm
        subst hd
        have hm : m = z.length := by have := HM.out; simpa [Tp.flat] using this
        have HMZ : Hid (m = z.length) := hm
        have HD : Hid (n - m = done.flat.length + 1) := by have := HN.out; show _ = _; omega
        have hmn : m ≤ n := by have := HN.out; omega
        have hsub : (n : Int) - (m : Int) = ((n - m : Nat) : Int) := by omega
        have j1 : ¬ (done.len : Int) < C := by omega
        have hn3 : NL w0 q z := by have := hn_3.out; simpa [Tp.flat] using this
        obtain ⟨d0, d1, d2, d3, d4, d5⟩ := hp_3.cells
        have fd := hp_3.free
        obtain ⟨r0, r1, r2, r3, r4, r5⟩ := hr_3.cells
        have fr := hr_3.free
        obtain ⟨V4, hV4⟩ : ∃ V4, V4 = w3.setCell ⟨w.heap.size + 1, 5, none⟩ (.slice (some ⟨b, off, none⟩) (n - m) c) := ⟨_, rfl⟩
        obtain ⟨hp_4, hK4⟩ := hp_3.put5 hV4
        have hr_4 := hr_3.keep hK4 (by omega)
        obtain ⟨V5, hV5⟩ : ∃ V5, V5 = (((((V4.setCell ⟨w.heap.size, 0, none⟩ (.int .i64 x.op)).setCell ⟨w.heap.size, 1, none⟩ (.int .i64 x.n)).setCell ⟨w.heap.size, 2, none⟩ (.string x.s)).setCell ⟨w.heap.size, 3, none⟩ (.string x.t)).setCell ⟨w.heap.size, 4, none⟩ (.slice qv done.len cv)).setCell ⟨w.heap.size, 5, none⟩ (.slice (some ⟨b, off, none⟩) (n - m) c) := ⟨_, rfl⟩
        obtain ⟨hr_5, hK5⟩ := hr_4.put (x := x) (v := .slice qv done.len cv) (u := .slice (some ⟨b, off, none⟩) (n - m) c) hV5
        obtain ⟨p0, p1, p2, p3, p4, p5⟩ := hp_4.cells
        obtain ⟨g0, g1, g2, g3, g4, g5⟩ := hr_4.cells
        have fg := hr_4.free
        obtain ⟨t0, t1, t2, t3, t4, t5⟩ := hr_5.cells
        have hb4 : Below w.heap.size w V4 := hb_3.trans (hK4.below (by have := hb_3.size; omega) (fun a e => by omega))
        have hb5 : Below w.heap.size w V5 := hb4.trans (hK5.below (by have := hb4.size; omega) (fun a e => by omega))
        have HV5 : Hid (VC w0 V5 done (.slice qv done.len cv) (fun a => w.heap.size ≤ a)) := by
          refine ⟨ld, ownP_agree HO.out (fun g hg hl => ?_), fun g hg => by have := (HG.out g hg).1; omega, (HT.out.agree (fun a ha hl => ?_)).sub (fun a ha => by have := (HS.out a ha).1; omega)⟩
          · have := (HG.out g hg).1
            exact (hK5.block g (by have := hK4.size; omega) (by omega)).trans (hK4.block g hl (by omega))
          · have := (HS.out a ha).1
            exact (hK5.block a (by have := hK4.size; omega) (by omega)).trans (hK4.block a hl (by omega))
        have HRET : Hid (NdsC w0 x done (.slice (some ⟨b, off, none⟩) (n - m) c)) := ⟨_, _, by rw [HD.out], ⟨HNL.out, by have := HN.out; simp only [List.length_cons]; omega, hcm⟩⟩
        rw [hV4] at p0 p1 p2 p3 p4 p5 g0 g1 g2 g3 g4 g5
        clear HM hn_3 hp_3 HO HT HS HG hdl hdf hm
        go_wp2
        rw [← hV4, ← hV5]
        refine bodyPost_ret (v := .tuple #[.agg #[.int .i64 x.op, .int .i64 x.n, .string x.s, .string x.t, .slice qv done.len cv, .slice (some ⟨b, off, none⟩) (n - m) c], .slice q m c']) (by simp [results, Tryz.results66, go_sem, t0, t1, t2, t3, t4, t5]) rfl ⟨⟨_, _, q, c', by rw [HMZ.out], HXW.out, HRET.out, HV5.out, hn3, by have := HMZ.out; omega, hcm'⟩, hb5⟩
      | cons y ky r =>
        simp only [Tp.len, Tp.flat, List.length_cons, List.length_append] at hdl hdf
        have j1 : (done.len : Int) < C := by omega
        obtain ⟨V4, hV4⟩ : ∃ V4, V4 = w3.alloc (.cells #[.int .i64 0, .int .i64 0, .string ⟨#[]⟩, .string ⟨#[]⟩, .slice none 0 0, .slice none 0 0] 76) := ⟨_, rfl⟩
        have hb34 : Below w3.heap.size w3 V4 := by rw [hV4]; exact kqx
        have hz_4 : PBc V4 w3.heap.size zN6 (.slice none 0 0) (.slice none 0 0) := by rw [hV4]; exact PBc.new w3 zN6 _ _ rfl
        have hs34 : V4.heap.size = w3.heap.size + 1 := by rw [hV4]; simp
        have hb04 : Below w0.heap.size w0 V4 := (HB0.out.trans (hb_3.mono HB0.out.size)).trans (hb34.mono (by have := HB0.out.size; have := hb_3.size; omega))
        have hary : arC (.cons y ky .nil) := by
          have h := HAR.out
          rw [HD.out, arC_app] at h
          exact ⟨h.2.1, h.2.2.1, trivial⟩
        have hny : NL w0 q (y :: (ky.flat ++ (r.flat ++ z))) := by have := hn_3.out; simpa [Tp.flat] using this
        have hC1 := HIH.out y ky (by omega) (r.flat ++ z) w0 V4 m q c' hb04 hny (by have := HM.out; simp only [Tp.flat, List.length_cons, List.length_append] at this ⊢; omega) hmc hcm' (by have := HM.out; have := HN.out; simp only [Tp.flat, List.length_cons, List.length_append] at *; omega) hary
        have HDn : Hid (k = (done.app (.cons y ky .nil)).app r) := by show _ = _; rw [tp_app_assoc, HD.out]; rfl
        have hal : (done.app (.cons y ky .nil)).len = done.len + 1 := by rw [tp_app_len]; rfl
        have HAL : Hid ((done.app (.cons y ky .nil)).len = done.len + 1) := hal
        have hdl2 : done.len + 1 ≤ 1000000 := by omega
        have HDL : Hid (done.len + (r.len + 1) = k.len) := hdl
        clear hal hary hny hdl hdf
        unfold partC at hC1
        go_wp2_with fail
        rw [← hV4]
        clear hV4
        refine hC1.mono ?_
        rintro _ w5 ⟨⟨v5, u5, q5, c5, rfl, hyw, hnd5, hu_5, hn_5, hle5, hcm5⟩, hb5⟩
        obtain ⟨qu, cu, rfl, _⟩ := hu_5.slice
        obtain ⟨qn, cn, rfl, hAKn⟩ := hnd5
        have hz_5 := hz_4.up hb5
        obtain ⟨z0, z1, z2, z3, z4, z5⟩ := hz_5.cells
        have fz := hz_5.free
        have hp_5 := hp_3.up (kqt hb34 hb5)
        obtain ⟨M5, hM5⟩ : ∃ M5, M5 = (r.flat ++ z).length := ⟨_, rfl⟩
        have HM5 : Hid (M5 = r.flat.length + z.length) := by show _ = _; rw [hM5, List.length_append]
        rw [← hM5] at hle5 ⊢
        clear hM5 hC1
        obtain ⟨V6, hV6⟩ : ∃ V6, V6 = (((((w5.setCell ⟨w3.heap.size, 0, none⟩ (.int .i64 y.op)).setCell ⟨w3.heap.size, 1, none⟩ (.int .i64 y.n)).setCell ⟨w3.heap.size, 2, none⟩ (.string y.s)).setCell ⟨w3.heap.size, 3, none⟩ (.string y.t)).setCell ⟨w3.heap.size, 4, none⟩ (.slice qu ky.len cu)).setCell ⟨w3.heap.size, 5, none⟩ (.slice qn (ky.flat.length + 1) cn) := ⟨_, rfl⟩
        obtain ⟨hy_6, hK6⟩ := hz_5.put (x := y) (v := .slice qu ky.len cu) (u := .slice qn (ky.flat.length + 1) cn) hV6
        have hs36 : w3.heap.size + 1 ≤ V6.heap.size := by have := hb5.size; have := hK6.size; omega
        have hVs : V6.heap.size = w5.heap.size := by rw [hV6]; simp
        have hb36 : Below w3.heap.size w3 V6 := (kqt hb34 hb5).trans (hK6.below (by have := (kqt hb34 hb5).size; omega) (fun a e => by omega))
        have hp_6 := hp_5.keep hK6 (by omega)
        have hr_6 := hr_3.up hb36
        have hO6 : V6.ownsRow 0 76 6 (.slice qv done.len cv) done.len ld := ownP_agree HO.out (fun g hg hl => hb36.block g hl)
        have HT6 : Hid (RC w0 V6 done ld Sd) := HT.out.up hb36
        have HU6 : Hid (VC w0 V6 ky (.slice qu ky.len cu) (fun a => w3.heap.size + 1 ≤ a ∧ a < w5.heap.size)) := (hu_5.real.agree (fun a ha hl => hK6.block a hl (fun e => by have := ha.1; omega))).sub (fun a h => ⟨by have := h.1; omega, h.2⟩)
        have hb6 : Below w.heap.size w V6 := hb_3.trans (hb36.mono hb_3.size)
        have HGL : Hid (∀ g, (Value.slice qv done.len cv).ownBlock = some g → g < w3.heap.size) := fun g hg => (ownP_lt HO.out hg).1
        have HN5 : Hid (NL w0 q5 (r.flat ++ z)) := hn_5
        have HND : Hid (NdsC w0 y ky (.slice qn (ky.flat.length + 1) cn)) := ⟨qn, cn, rfl, hAKn⟩
        obtain ⟨y0, y1, y2, y3, y4, y5⟩ := hy_6.cells
        obtain ⟨b0, b1, b2, b3, b4, b5⟩ := hp_6.cells
        rw [hV6] at y0 y1 y2 y3 y4 y5 b4
        clear hu_5 hn_5 hb5 hb34 hAKn b0 b1 b2 b3 b5
        go_wp2_with (first | (at_builtin; rw [← hV6]; refine Hid.out ?_))
        show wpList _ _ _ _ _ _
        refine append_partC V6 rfl (.tmp 23) (.tmp 25) rfl (.slice qv done.len cv) done.len ld rfl hO6 y (.slice qu ky.len cu) (.slice qn (ky.flat.length + 1) cn) rfl rfl (by rw [hVs]; rfl) hdl2 ?_
        intro v7 w7 hO7 hg7 hat7
        obtain ⟨q7, c7, rfl⟩ := ownP_slice hO7
        have hp_7 : PBc w7 (w.heap.size + 1) x (.slice qv done.len cv) (.slice none 0 0) := ⟨(hg7.block _ hp_6.lt (fun e => by have := (HG.out _ e.symm).1; omega)).trans hp_6.blk⟩
        obtain ⟨d0, d1, d2, d3, d4, d5⟩ := hp_7.cells
        have fd := hp_7.free
        clear y0 y1 y2 y3 y4 y5 b4 z0 z1 z2 z3 z4 z5 fz hV6
        go_wp2_with fail
        obtain ⟨V8, hV8⟩ : ∃ V8, V8 = w7.setCell ⟨w.heap.size + 1, 4, none⟩ (.slice q7 (done.len + 1) c7) := ⟨_, rfl⟩
        rw [← hV8]
        obtain ⟨hp_8, hK8⟩ := hp_7.put4 hV8
        have hr_8 : PBc V8 w.heap.size zN6 (.slice none 0 0) (.slice none 0 0) := ⟨(hK8.block _ (Nat.lt_of_lt_of_le hr_6.lt hg7.size) (by omega)).trans ((hg7.block _ hr_6.lt (fun e => by have := (HG.out _ e.symm).1; omega)).trans hr_6.blk)⟩
        have hold : ∀ a, a < V6.heap.size → w.heap.size + 2 ≤ a → (Value.slice qv done.len cv).ownBlock ≠ some a → V8.heap[a]? = V6.heap[a]? := fun a h1 h2 h3 => (hK8.block a (Nat.lt_of_lt_of_le h1 hg7.size) (by omega)).trans (hg7.block a h1 (fun e => h3 e.symm))
        have hO8 : V8.ownsRow 0 76 6 (.slice q7 (done.len + 1) c7) (done.len + 1) (ld ++ pcl6 y (.slice qu ky.len cu) (.slice qn (ky.flat.length + 1) cn)) := ownP_agree hO7 (fun g hg hl => hK8.block g hl (fun e => by
          rcases hat7 g hg with h | h
          · have := (HG.out g h).1; omega
          · omega))
        have hT8 : RC w0 V8 (done.app (.cons y ky .nil)) (ld ++ pcl6 y (.slice qu ky.len cu) (.slice qn (ky.flat.length + 1) cn)) (fun a => Sd a ∨ (w3.heap.size + 1 ≤ a ∧ a < w5.heap.size)) := by
          refine RC.join ((HT6.out.agree (fun a ha hl => hold a hl (HS.out a ha).1 (fun e => (HG.out a e).2 ha))).sub (fun a h => .inl h)) (RC.one hyw HND.out ((HU6.out.agree (fun a ha hl => hold a hl (by omega) (fun e => by have := HGL.out a e; omega))).sub (fun a h => .inr h)))
        have hb8 : Below w.heap.size w V8 := by
          refine hb6.trans ?_
          have h1 : Below w.heap.size V6 w7 := ⟨hg7.os, hg7.tape, hg7.output, hg7.size, fun a ha => hg7.block a (by omega) (fun e => by have := (HG.out a e.symm).1; omega)⟩
          exact h1.trans (hK8.below (by have := hg7.size; omega) (fun a e => by omega))
        have hs8 : V6.heap.size ≤ V8.heap.size := Nat.le_trans hg7.size hK8.size
        go_roundw
        case rel =>
          refine ⟨done.app (.cons y ky .nil), r, q5, M5, c5, q7, c7, ld ++ pcl6 y (.slice qu ky.len cu) (.slice qn (ky.flat.length + 1) cn), (fun a => Sd a ∨ (w3.heap.size + 1 ≤ a ∧ a < w5.heap.size)), HDn, by rw [HAL.out]; go_num, rfl, HM5, HN5, hle5, hcm5, by rw [HAL.out]; exact hp_8, hr_8, by rw [HAL.out]; exact hO8, hT8, ?_, ?_, hb8, by omega⟩
          · intro a ha
            rcases ha with ha | ha
            · have := HS.out a ha; omega
            · omega
          · intro g hg
            rw [HAL.out] at hg
            rcases hat7 g hg with h | h
            · have h1 := HG.out g h
              have h2 := HGL.out g h
              exact ⟨h1.1, fun e => e.elim h1.2 (fun e => by omega)⟩
            · exact ⟨by omega, fun e => e.elim (fun e => by have := (HS.out g e).2; omega) (fun e => by omega)⟩
        case measure => have := HDL.out; simp [intOf]; omega
theorem firstC_any : ∀ (N : Nat) (x : Nd) (k : Tp), k.flat.length < N → FirstC x k
  | 0, x, k, h => by omega
  | N + 1, x, k, h => firstC_step x k (fun y ky hy => firstC_any N y ky (by omega))
theorem firstC (x : Nd) (k : Tp) : FirstC x k := firstC_any _ x k (Nat.lt_succ_self _)
set_option maxHeartbeats 1000000 in
theorem wholeC_any (x : Nd) (k : Tp) (w0 w : World) (p : Option Addr) (c : Nat) (hb0 : Below w0.heap.size w0 w) (hv : AK0 w0 (x :: k.flat) p c) (hl : k.flat.length < 1000) (har : arC (.cons x k .nil)) :
    Calls Tryz.prog 27 #[.slice p (k.flat.length + 1) c] w fun en w' => (∃ (v u : Value), en = .returned (partC x v u) ∧ x.wf ∧ NdsC w0 x k u ∧ VC w0 w' k v (fun a => w.heap.size ≤ a)) ∧ Below w.heap.size w w' := by
  have HF := fun W (hW : Below w.heap.size w W) => firstC x k [] w0 W (k.flat.length + 1) p c (hb0.trans (hW.mono hb0.size)) (by rw [List.append_nil]; exact hv.nl) (by simp) (by have := hv.le; simpa using this) hv.cm (by omega) har
  clear hv
  unfold partC at *
  obtain ⟨V, hV⟩ : ∃ V, V = w.alloc (.cells #[.int .i64 0, .int .i64 0, .string ⟨#[]⟩, .string ⟨#[]⟩, .slice none 0 0, .slice none 0 0] 76) := ⟨_, rfl⟩
  have hbV : Below w.heap.size w V := by rw [hV]; exact kqx
  have hz_0 : PBc V w.heap.size zN6 (.slice none 0 0) (.slice none 0 0) := by rw [hV]; exact PBc.new w zN6 _ _ rfl
  go_enter Tryz.func27, Tryz.ntmps27
  go_wp2_with fail
  rw [← hV]
  clear hV
  refine (HF _ hbV).mono ?_
  rintro _ w1 ⟨⟨v, u, q, c', rfl, hxw, hnd, hvc, _, _, _⟩, hb1⟩
  obtain ⟨qv, cv, rfl, _⟩ := hvc.slice
  obtain ⟨qn, cn, rfl, hak⟩ := hnd
  have hz_1 := hz_0.up hb1
  obtain ⟨z0, z1, z2, z3, z4, z5⟩ := hz_1.cells
  have fz := hz_1.free
  clear z0 z1 z2 z3 z4 z5 fz
  have HXW : Hid x.wf := hxw
  have HAK : Hid (AK0 w0 (x :: k.flat) qn cn) := hak
  obtain ⟨V2, hV2⟩ : ∃ V2, V2 = w1.alloc (.cells #[.int .i64 x.op, .int .i64 x.n, .string x.s, .string x.t, .slice qv k.len cv, .slice qn (k.flat.length + 1) cn] 76) := ⟨_, rfl⟩
  have hb12 : Below w1.heap.size w1 V2 := by rw [hV2]; exact kqx
  have hz_2 := hz_1.up hb12
  obtain ⟨V3, hV3⟩ : ∃ V3, V3 = (((((V2.setCell ⟨w.heap.size, 0, none⟩ (.int .i64 x.op)).setCell ⟨w.heap.size, 1, none⟩ (.int .i64 x.n)).setCell ⟨w.heap.size, 2, none⟩ (.string x.s)).setCell ⟨w.heap.size, 3, none⟩ (.string x.t)).setCell ⟨w.heap.size, 4, none⟩ (.slice qv k.len cv)).setCell ⟨w.heap.size, 5, none⟩ (.slice qn (k.flat.length + 1) cn) := ⟨_, rfl⟩
  obtain ⟨hr_3, hK3⟩ := hz_2.put (x := x) (v := .slice qv k.len cv) (u := .slice qn (k.flat.length + 1) cn) hV3
  obtain ⟨t0, t1, t2, t3, t4, t5⟩ := hr_3.cells
  have hb02 := kqt hbV (kqt hb1 hb12)
  have hb3 : Below w.heap.size w V3 := hb02.trans (hK3.below (by have := hb02.size; omega) (fun a e => by omega))
  have HVC : Hid (VC w0 V3 k (.slice qv k.len cv) (fun a => w.heap.size ≤ a)) := ((hvc.up hb12).agree (fun a ha hl => hK3.block a hl (fun e => by have := hz_0.lt; omega))).sub (fun a ha => by have := hz_0.lt; omega)
  obtain ⟨y0, y1, y2, y3, y4, y5⟩ := hz_2.cells
  have fy := hz_2.free
  rw [hV2] at y0 y1 y2 y3 y4 y5 fy
  clear hvc hxw hak HF
  go_wp2
  rw [← hV2, ← hV3]
  exact bodyPost_ret (v := .agg #[.int .i64 x.op, .int .i64 x.n, .string x.s, .string x.t, .slice qv k.len cv, .slice qn (k.flat.length + 1) cn]) (by simp [results, Tryz.results27, go_sem, t0, t1, t2, t3, t4, t5]) rfl ⟨⟨_, _, rfl, HXW.out, ⟨_, _, rfl, HAK.out⟩, HVC.out⟩, hb3⟩
end Go.Proofs.YtgkbegomekhpcaaGreatDoor
namespace Go.Proofs.YtgkbegomekhpcaaGreatDoor
open Go.RowKit
set_option linter.unusedVariables false
set_option linter.unusedSectionVars false
set_option maxRecDepth 100000

/-- What fit and Join tell: the nodes, or that they are too many. -/
def FitRet (w' : World) (L : List Nd) (en : Ending) : Prop :=
  (L.length ≤ 200 ∧ ∃ q c, en = .returned (.tuple #[.slice q L.length c, .nilIface]) ∧ NL w' q L ∧ L.length ≤ c ∧ c ≤ maxLen) ∨ (200 < L.length ∧ en = .returned (.tuple #[.slice none 0 0, .iface 36 (.int .i64 4)]))
set_option maxHeartbeats 2000000 in
theorem fit_any (x : Nd) (k : Tp) (w : World) (v : Value) (S : Nat → Prop) (hv : VK w k v S) (hx : x.wf) (hl : k.flat.length ≤ 100000) :
    Calls Tryz.prog 32 #[partV x v] w fun e w' => FitRet w' (x :: k.flat) e ∧ Below w.heap.size w w' := by
  obtain ⟨q, c, rfl, _⟩ := hv.slice
  obtain ⟨W, hW⟩ : ∃ W, W = w.alloc (.cells #[.int .i64 x.op, .int .i64 x.n, .string x.s, .string x.t, .slice q k.len c] 81) := ⟨_, rfl⟩
  have hbW : Below w.heap.size w W := by rw [hW]; exact kqx
  have hC := ontoK_any (k.flat.length + 1) x k (Nat.lt_succ_self _) W _ _ w.heap.size (.slice none 0 0) [] (hv.real.up hbW) (fun a h => h.2) hx hbW.size (ON.emptyK _ _) (by simp; omega)
  rw [List.nil_append] at hC
  have hlL : (x :: k.flat).length ≤ 100001 := by simp; omega
  generalize x :: k.flat = L at *
  unfold partV at *
  clear hv hl
  by_cases h : 200 < L.length
  · have i1 : (200 : Int) < (L.length : Int) := by omega
    have HF : Hid (200 < L.length) := h
    clear h
    go_enter Tryz.func32, Tryz.ntmps32
    go_wp2_with fail
    rw [← hW]
    refine hC.mono ?_
    rintro _ w1 ⟨⟨ev, rfl, hO⟩, hk⟩
    obtain ⟨q1, c1, rfl⟩ := hO.any
    have hb1 : Below w.heap.size w w1 := hbW.trans hk.bel
    go_wp2
    exact bodyPost_ret (v := .tuple #[.slice none 0 0, .iface 36 (.int .i64 4)]) (by simp [results, Tryz.results32, go_sem]) rfl ⟨.inr ⟨HF.out, rfl⟩, hb1⟩
  · have i1 : ¬ (200 : Int) < (L.length : Int) := by omega
    have HF : Hid (L.length ≤ 200) := by show _ ≤ _; omega
    clear h
    go_enter Tryz.func32, Tryz.ntmps32
    go_wp2_with fail
    rw [← hW]
    refine hC.mono ?_
    rintro _ w1 ⟨⟨ev, rfl, hO⟩, hk⟩
    obtain ⟨q1, c1, rfl⟩ := hO.any
    have hb1 : Below w.heap.size w w1 := hbW.trans hk.bel
    obtain ⟨hc1, hc2⟩ := hO.cap
    go_wp2
    exact bodyPost_ret (v := .tuple #[.slice q1 L.length c1, .nilIface]) (by simp [results, Tryz.results32, go_sem]) rfl ⟨.inl ⟨HF.out, q1, c1, rfl, hO.nl, hc1, hc2⟩, hb1⟩
end Go.Proofs.YtgkbegomekhpcaaGreatDoor
