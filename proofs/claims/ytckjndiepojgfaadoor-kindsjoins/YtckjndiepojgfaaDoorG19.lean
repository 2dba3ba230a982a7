/- Package kinds: joinFields, by a walk of its own text. Package kinds: join, by walks of its own text. Package kinds: join at sets and records, and whole. Package kinds: fit, Join, by walks of their own texts. The statements on kinds: arguments, and the fact that they share. The statements on kinds: the ways of Join; what a join is, as nodes. -/
import Derived.Test.YtckjndiepojgfaaDoorG12
import Derived.Test.YtckjndiepojgfaaDoorG18
import Derived.Test.YtckjndiepojgfaaDoorG14
import Derived.Deep.RegionHeld
import Derived.Test.YtckjndiepojgfaaDoorG3
namespace Go.Proofs.YtckjndiepojgfaaDoor
open Go.RowKit
set_option linter.unusedVariables false
set_option maxRecDepth 100000
set_option linter.unusedSimpArgs false

theorem jn_app (l : Tp) : ∀ a b : Tp, jn true (a.app b) l = (jn true a l).app (jn true b l)
  | .nil, b => by simp [Tp.app, jn]
  | .cons f kf r, b => by
    simp only [Tp.app, jn_flds]
    rw [jn_app l r b]
    cases l.find f.s <;> rfl
theorem jn_len (l : Tp) : ∀ a : Tp, (jn true a l).len = a.len
  | .nil => by simp [jn]
  | .cons f kf r => by
    rw [jn_flds]
    cases l.find f.s <;> simp [Tp.len, jn_len l r]
/-- What join does. -/
def JRet (S : Nat → Prop) (w w' : World) (t : Tp) (en : Ending) : Prop := ∃ (x : Nd) (k : Tp) (q : Option Addr) (c : Nat), t = .cons x k .nil ∧ en = .returned (.agg #[.int .i64 x.op, .int .i64 x.n, .string x.s, .string x.t, .slice q k.len c]) ∧ x.wf ∧ VK w' k (.slice q k.len c) (fun a => S a ∨ w.heap.size ≤ a)
def JoinK (x : Nd) (k : Tp) : Prop := ∀ (y : Nd) (l : Tp) (w : World) (v u : Value) (S : Nat → Prop), VK w k v S → VK w l u S → x.wf → y.wf → TyC x k → TyC y l → k.flat.length ≤ 1000 → l.flat.length ≤ 1000 →
  Calls Tryd.prog 19 #[partV x v, partV y u] w fun e w' => JRet S w w' (jn false (.cons x k .nil) (.cons y l .nil)) e ∧ Below w.heap.size w w'
/-- The cells that a field of the join is made of. -/
abbrev HJ (A B ga gb : Nat) (fa fb : Int) (f z z2 : Nd) (uf ug uz uz2 : Value) (w : World) : Prop :=
  w.cell? ⟨A, 1, none⟩ = some (.int .i64 fa) ∧ w.cell? ⟨A, 2, none⟩ = some (.string f.s) ∧ w.cell? ⟨A, 4, none⟩ = some uf ∧ w.cell? ⟨B, 1, none⟩ = some (.int .i64 fb) ∧ w.cell? ⟨B, 4, none⟩ = some ug ∧
  w.cell? ⟨ga, 0, none⟩ = some (.int .i64 z.op) ∧ w.cell? ⟨ga, 1, none⟩ = some (.int .i64 z.n) ∧ w.cell? ⟨ga, 2, none⟩ = some (.string z.s) ∧ w.cell? ⟨ga, 3, none⟩ = some (.string z.t) ∧ w.cell? ⟨ga, 4, none⟩ = some uz ∧
  w.cell? ⟨gb, 0, none⟩ = some (.int .i64 z2.op) ∧ w.cell? ⟨gb, 1, none⟩ = some (.int .i64 z2.n) ∧ w.cell? ⟨gb, 2, none⟩ = some (.string z2.s) ∧ w.cell? ⟨gb, 3, none⟩ = some (.string z2.t) ∧ w.cell? ⟨gb, 4, none⟩ = some uz2
abbrev HJ1 (A ga : Nat) (f z : Nd) (uf uz : Value) (w : World) : Prop :=
  w.cell? ⟨A, 2, none⟩ = some (.string f.s) ∧ w.cell? ⟨A, 4, none⟩ = some uf ∧
  w.cell? ⟨ga, 0, none⟩ = some (.int .i64 z.op) ∧ w.cell? ⟨ga, 1, none⟩ = some (.int .i64 z.n) ∧ w.cell? ⟨ga, 2, none⟩ = some (.string z.s) ∧ w.cell? ⟨ga, 3, none⟩ = some (.string z.t) ∧ w.cell? ⟨ga, 4, none⟩ = some uz
theorem HJ.of {w : World} {A B ga gb : Nat} {fa fb : Int} {f g z z2 : Nd} {uf ug uz uz2 : Value} (h1 : PBk w A f uf) (h2 : PBk w B g ug) (h3 : PC w ga 0 z uz) (h4 : PC w gb 0 z2 uz2) (ea : f.n = fa) (eb : g.n = fb) : HJ A B ga gb fa fb f z z2 uf ug uz uz2 w := by
  subst ea eb
  obtain ⟨a0, a1, a2, a3, a4⟩ := h1.cells
  obtain ⟨b0, b1, b2, b3, b4⟩ := h2.cells
  obtain ⟨c0, c1, c2, c3, c4⟩ := h3.cells
  obtain ⟨d0, d1, d2, d3, d4⟩ := h4.cells
  exact ⟨a1, a2, a4, b1, b4, c0, c1, c2, c3, c4, d0, d1, d2, d3, d4⟩
theorem HJ1.of {w : World} {A ga : Nat} {f z : Nd} {uf uz : Value} (h1 : PBk w A f uf) (h3 : PC w ga 0 z uz) : HJ1 A ga f z uf uz w := by
  obtain ⟨a0, a1, a2, a3, a4⟩ := h1.cells
  obtain ⟨c0, c1, c2, c3, c4⟩ := h3.cells
  exact ⟨a2, a4, c0, c1, c2, c3, c4⟩
theorem PBk.grown {w w' : World} {B : Nat} {x : Nd} {v : Value} {o : Option Nat} (h : PBk w B x v) (hg : w.grownBy w' o) (hne : o ≠ some B) : PBk w' B x v := ⟨(hg.block B h.lt (fun e => hne e.symm)).trans h.blk⟩
theorem PC.grown {w w' : World} {g j : Nat} {x : Nd} {v : Value} {o : Option Nat} (h : PC w g j x v) (hg : w.grownBy w' o) (hne : o ≠ some g) : PC w' g j x v := by
  have e := hg.block g h.lt (fun e => hne e.symm)
  obtain ⟨c0, c1, c2, c3, c4⟩ := h.cells
  exact ⟨Nat.lt_of_lt_of_le h.lt hg.size, (World.cell?_of_block e).trans c0, (World.cell?_of_block e).trans c1, (World.cell?_of_block e).trans c2, (World.cell?_of_block e).trans c3, (World.cell?_of_block e).trans c4⟩
/-- The fields that are gathered: a row of the call's own, its parts elsewhere. -/
structure Gath (w0 w : World) (S : Nat → Prop) (F : Tp) (v : Value) : Prop where
  ex : ∃ (ld : List Value) (Sd : Nat → Prop), w.ownsRow 0 43 5 v F.len ld ∧ RK w F ld Sd ∧ (∀ a, Sd a → a < w.heap.size ∧ (S a ∨ w0.heap.size ≤ a)) ∧ (∀ g, v.ownBlock = some g → w0.heap.size ≤ g ∧ g < w.heap.size ∧ ¬ Sd g)
theorem Gath.slice {w0 w : World} {S : Nat → Prop} {F : Tp} {v : Value} (h : Gath w0 w S F v) : ∃ q c, v = .slice q F.len c := by
  obtain ⟨ld, Sd, h1, _⟩ := h.ex
  exact ownP_slice h1
theorem Gath.up {w0 w w' : World} {S : Nat → Prop} {F : Tp} {v : Value} (h : Gath w0 w S F v) (hb : Below w.heap.size w w') : Gath w0 w' S F v := by
  obtain ⟨ld, Sd, h1, h2, h3, h4⟩ := h.ex
  exact ⟨ld, Sd, ownP_agree h1 (fun g _ hl => hb.block g hl), h2.up hb, fun a ha => ⟨Nat.lt_of_lt_of_le (h3 a ha).1 hb.size, (h3 a ha).2⟩, fun g hg => ⟨(h4 g hg).1, Nat.lt_of_lt_of_le (h4 g hg).2.1 hb.size, (h4 g hg).2.2⟩⟩
theorem Gath.nil (w0 w : World) (S : Nat → Prop) : Gath w0 w S .nil (.slice none 0 0) := ⟨[], fun _ => False, ⟨rfl, .inl ⟨rfl, rfl⟩⟩, rfl, fun a h => h.elim, fun g hg => by simp [Value.ownBlock] at hg⟩
/-- One field more. -/
theorem Gath.more {w0 w w8 w9 : World} {S : Nat → Prop} {F : Tp} {v v' : Value} {ld : List Value} {Sd : Nat → Prop} {x : Nd} {k : Tp} {u : Value} (hx : x.wf)
    (h1 : w8.ownsRow 0 43 5 v F.len ld) (h2 : RK w8 F ld Sd) (h3 : ∀ a, Sd a → a < w.heap.size ∧ (S a ∨ w0.heap.size ≤ a)) (h4 : ∀ g, v.ownBlock = some g → w0.heap.size ≤ g ∧ g < w.heap.size ∧ ¬ Sd g) (hw : w.heap.size ≤ w8.heap.size) (h0 : w0.heap.size ≤ w.heap.size) (hS : ∀ a, S a → a < w0.heap.size)
    (hk : VK w8 k u (fun a => S a ∨ w.heap.size ≤ a)) (ho : w9.ownsRow 0 43 5 v' (F.len + 1) (ld ++ pcl x u)) (hg : w8.grownBy w9 v.ownBlock) (hat : ∀ g, v'.ownBlock = some g → v.ownBlock = some g ∨ w8.heap.size ≤ g) : Gath w0 w9 S (F.app (.cons x k .nil)) v' := by
  refine ⟨ld ++ pcl x u, fun a => Sd a ∨ ((S a ∨ w.heap.size ≤ a) ∧ a < w8.heap.size), by rw [tp_app_len]; exact ho, RK.join ((h2.agree (fun a ha hl => hg.block a hl (fun e => (h4 a e.symm).2.2 ha))).sub (fun a h => .inl h)) (RK.one hx ((hk.real.agree (fun a ha hl => hg.block a hl (fun e => ?_))).sub (fun a h => .inr h))), fun a ha => ?_, fun g hg' => ?_⟩
  · have h5 := h4 a e.symm
    rcases ha.1 with h | h
    · have := hS a h; omega
    · omega
  · rcases ha with ha | ⟨ha, hl⟩
    · have h5 := h3 a ha
      exact ⟨by have := hg.size; omega, h5.2⟩
    · refine ⟨by have := hg.size; omega, ha.elim .inl (fun h => .inr (by omega))⟩
  · have hlt := (ownP_lt ho hg').1
    rcases hat g hg' with h | h
    · have h5 := h4 g h
      refine ⟨h5.1, hlt, fun e => e.elim h5.2.2 (fun e => ?_)⟩
      rcases e.1 with h6 | h6
      · have := hS g h6; omega
      · omega
    · refine ⟨by omega, hlt, fun e => e.elim (fun e => by have := (h3 g e).1; omega) (fun e => by omega)⟩
theorem those_len (k : Tp) : ∀ a : Tp, (thoseF k a).len ≤ a.len
  | .nil => by simp [thoseF]
  | .cons f kf r => by
    have := those_len k r
    rw [thoseF]
    split <;> simp only [Tp.len] <;> omega
theorem bits_and {a b : Int} (h : (a = 0 ∧ b = 0) ∨ (a = 0 ∧ b = 1) ∨ (a = 1 ∧ b = 0) ∨ (a = 1 ∧ b = 1)) : bits BinOp.and IntKind.i64 a b = if a = 1 ∧ b = 1 then 1 else 0 := by
  rcases h with ⟨rfl, rfl⟩ | ⟨rfl, rfl⟩ | ⟨rfl, rfl⟩ | ⟨rfl, rfl⟩ <;> decide
theorem fdwf {f : Nd} (h : f.wf) {n : Int} (hn : n = 0 ∨ n = 1) : (fdN f.s n).wf := by
  refine ⟨h.1, (by show (⟨#[]⟩ : ByteArray).size ≤ maxLen; unfold maxLen; decide), ?_⟩
  show n ≤ _
  omega
/-- One part more behind a row: the run itself. -/
theorem run_appendP (w : World) (v : Value) (n : Nat) (l : List Value) (hown : w.ownsRow 0 43 5 v n l) (y : Nd) (u : Value) (hu : u.oneCell' = true) (hlen : n + 1 ≤ 1000000) {B : Nat} (hB : B = w.heap.size) :
    ∃ v' w', (Builtin.append_ #[41, 41] 41 #[v, .slice (some ⟨B, 0, none⟩) 1 1]).run Tryd.prog (w.alloc (.cells #[.int .i64 y.op, .int .i64 y.n, .string y.s, .string y.t, u] 43)) = .ok v' w' ∧ w'.ownsRow 0 43 5 v' (n + 1) (l ++ pcl y u) ∧ w.grownBy w' v.ownBlock ∧ (∀ g, v'.ownBlock = some g → v.ownBlock = some g ∨ w.heap.size ≤ g) := by
  subst hB
  obtain ⟨i0, hi, hz0, hz1, hz2⟩ := info_parts Tryd.infoPartK
  have hb : Below w.heap.size w (w.alloc (.cells #[.int .i64 y.op, .int .i64 y.n, .string y.s, .string y.t, u] 43)) := kqx
  have hown2 := ownP_agree (w' := w.alloc (.cells #[.int .i64 y.op, .int .i64 y.n, .string y.s, .string y.t, u] 43)) hown (fun g _ hg => hb.block g hg)
  obtain ⟨v', w', hr, h1, h2, _, h4⟩ := run_append_own_at (P := Tryd.prog) _ 0 41 41 43 i0 _ 5 72 Tryd.underlying41 hi hz0 hz1 hz2 rfl (by decide) v n l hown2 ⟨w.heap.size, 0, none⟩ 1 1 (pcl y u) rfl (by
    intro j z hj
    match j, hj with
    | 0, hj => simp [pcl] at hj; subst hj; simp [Addr.add]
    | 1, hj => simp [pcl] at hj; subst hj; simp [Addr.add]
    | 2, hj => simp [pcl] at hj; subst hj; simp [Addr.add]
    | 3, hj => simp [pcl] at hj; subst hj; simp [Addr.add]
    | 4, hj => simp [pcl] at hj; subst hj; simp [Addr.add]) (by
    intro z hz
    simp only [pcl, List.mem_cons, List.not_mem_nil, or_false] at hz
    rcases hz with rfl | rfl | rfl | rfl | rfl
    · rfl
    · rfl
    · rfl
    · rfl
    · exact hu) (by unfold maxLen; omega) (by omega) (Nat.zero_le _)
  have hs2 : (w.alloc (.cells #[.int .i64 y.op, .int .i64 y.n, .string y.s, .string y.t, u] 43)).heap.size = w.heap.size + 1 := by simp
  refine ⟨v', w', hr, h1, ⟨h2.os.trans hb.os, h2.tape.trans hb.tape, h2.output.trans hb.output, Nat.le_trans hb.size h2.size, fun k hk hne => (h2.block k (by omega) hne).trans (hb.block k hk)⟩, (fun g hg => ?_)⟩
  rcases h4 with h4 | h4
  · exact .inl (by rw [← h4]; exact hg)
  · rw [h4] at hg
    injection hg with hg
    exact .inr (by omega)
/-- One part more behind a row, at the operation. -/
theorem wp_appendP (w : World) {o : Oper} {a : Act} {K : Act → World → Prop} {Q : Exit → Act → World → Prop} (s x : Operand) (ho : o.op = .call { callee := .builtin .append, args := #[s, x], argTypes := #[41, 41] }) (hty : o.type = 41) (v : Value) (n : Nat) (l : List Value) (hs : a.eval s = v) (hown : w.ownsRow 0 43 5 v n l) (y : Nd) (u : Value) (hu : u.oneCell' = true) (hlen : n + 1 ≤ 1000000) (B : Nat) (hx : a.eval x = .slice (some ⟨B, 0, none⟩) 1 1) (hB : B = w.heap.size)
    (h : ∀ v' w', w'.ownsRow 0 43 5 v' (n + 1) (l ++ pcl y u) → w.grownBy w' v.ownBlock → (∀ g, v'.ownBlock = some g → v.ownBlock = some g ∨ w.heap.size ≤ g) → K (a.put o.dst v') w') :
    o.wp Tryd.prog a (w.alloc (.cells #[.int .i64 y.op, .int .i64 y.n, .string y.s, .string y.t, u] 43)) K Q := by
  obtain ⟨v', w', hr, h2, h3, h4⟩ := run_appendP w v n l hown y u hu hlen hB
  unfold Oper.wp execOp
  simp only [ho, hty, resolve, invoke, builtin, Sem.run_bind, Sem.run_pure, Result.andThen_ok, List.map_toArray, List.map_cons, List.map_nil, hs, hx, hr]
  exact h v' w' h2 h3 h4
set_option maxHeartbeats 4000000 in
theorem joinFields_any (x y : Nd) (k l : Tp) (ih : ∀ z kz, kz.flat.length < k.flat.length → JoinK z kz) (w : World) (v u : Value) (S : Nat → Prop) (hv : VK w k v S) (hu : VK w l u S) (hfk : Fl e0 k) (hfl : Fl e0 l) (hk1 : k.flat.length ≤ 1000) (hl1 : l.flat.length ≤ 1000) :
    Calls Tryd.prog 28 #[partV x v, partV y u] w fun e w' => JRet S w w' (.cons ⟨46, (addF k l (jn true k l)).len, e0, e0⟩ (addF k l (jn true k l)) .nil) e ∧ Below w.heap.size w w' := by
  obtain ⟨q, c, rfl, hkc, hcm⟩ := hv.slice
  obtain ⟨q2, c2, rfl, hkc2, hcm2⟩ := hu.slice
  have HV : Hid (VK w k (.slice q k.len c) (fun a => S a ∧ a < w.heap.size)) := hv.real
  have HU : Hid (VK w l (.slice q2 l.len c2) (fun a => S a ∧ a < w.heap.size)) := hu.real
  have HK1 : Hid (k.flat.length ≤ 1000) := hk1
  have HL1 : Hid (l.flat.length ≤ 1000) := hl1
  have HIH : Hid (∀ z kz, kz.flat.length < k.flat.length → JoinK z kz) := ih
  have HFl : Hid (Fl e0 l) := hfl
  have hkb : k.len ≤ 1000 := by have := tp_len_flat k; omega
  have hlb : l.len ≤ 1000 := by have := tp_len_flat l; omega
  have HFk : Hid (Fl e0 k) := hfk
  clear hv hu hk1 hl1 ih hfk hfl
  obtain ⟨W, hW⟩ : ∃ W, W = ((w.alloc (.cells #[.int .i64 x.op, .int .i64 x.n, .string x.s, .string x.t, .slice q k.len c] 43)).alloc (.cells #[.int .i64 y.op, .int .i64 y.n, .string y.s, .string y.t, .slice q2 l.len c2] 43)).alloc (.cells #[.int .i64 0, .int .i64 0, .string ⟨#[]⟩, .string ⟨#[]⟩, .slice none 0 0] 43) := ⟨_, rfl⟩
  have hb0 : Below w.heap.size w W := by rw [hW]; exact kqx
  unfold partV
  go_enter Tryd.func28, Tryd.ntmps28
  have hWs : W.heap.size = w.heap.size + 3 := by rw [hW]; simp
  have hx_0 : PBk W w.heap.size x (.slice q k.len c) := by rw [hW]; exact (PBk.new w x _ rfl).up kqx
  have hy_0 : PBk W (w.heap.size + 1) y (.slice q2 l.len c2) := by rw [hW]; exact (PBk.new (w.alloc (.cells #[.int .i64 x.op, .int .i64 x.n, .string x.s, .string x.t, .slice q k.len c] 43)) y _ (by simp)).up kqx
  have hr_0 : PBk W (w.heap.size + 2) zN (.slice none 0 0) := by rw [hW]; exact PBk.new _ zN _ (by simp)
  have HS0 : Hid (∀ a, (S a ∧ a < w.heap.size) → a < W.heap.size) := fun a h => by omega
  have HX0 : Hid (PBk W w.heap.size x (.slice q k.len c)) := hx_0
  have HY0 : Hid (PBk W (w.heap.size + 1) y (.slice q2 l.len c2)) := hy_0
  have HR0 : Hid (PBk W (w.heap.size + 2) zN (.slice none 0 0)) := hr_0
  have HW0 : Hid (Below w.heap.size w W) := hb0
  go_wp2
  rw [← hW]
  clear hW hx_0 hy_0 hr_0 hb0
  go_loopw [5, 17] (fun fv i wr => ∃ (done todo : Tp) (m : ByteArray), Hid (done.app todo = k) ∧ i = .int .i64 (done.len : Int) ∧ Gath W wr (fun a => S a ∧ a < w.heap.size) (jn true done l) fv ∧ Hid (Fl m todo) ∧ Below W.heap.size W wr) (fun _ i _ => k.len - (intOf i).toNat)
  case atStart => exact ⟨.nil, k, e0, rfl, rfl, by rw [show jn true .nil l = .nil by rw [jn]]; exact Gath.nil _ _ _, HFk, Below.refl _ _⟩
  case round =>
    rename World => w3
    obtain ⟨done, todo, m, HD, rfl, hG, HT, hb3⟩ := hrel
    have hbw3 := kqt HW0.out hb3
    have hs3 : W.heap.size ≤ w3.heap.size := hb3.size
    cases todo with
    | nil =>
      have hd : done = k := by have := HD.out; rw [tp_app_nil] at this; exact this
      subst hd
      have i1 : ¬ (done.len : Int) < (done.len : Int) := by omega
      obtain ⟨q5, c5, rfl⟩ := hG.slice
      have hx_3 := HX0.out.up hb3
      have hy_3 := HY0.out.up hb3
      obtain ⟨b0, b1, b2, b3, b4⟩ := hy_3.cells
      go_wp2
      clear b0 b1 b2 b3 b4 hx_3 hy_3
      have HFm : Hid ((jn true done l).len + l.len + 1 ≤ 1000000) := by show _ ≤ _; rw [jn_len]; omega
      go_loopw [5, 68] (fun fv i wr => ∃ (d2 t2 : Tp) (m : ByteArray), Hid (d2.app t2 = l) ∧ i = .int .i64 (d2.len : Int) ∧ Gath W wr (fun a => S a ∧ a < w.heap.size) ((jn true done l).app (thoseF done d2)) fv ∧ Hid (Fl m t2) ∧ Below W.heap.size W wr) (fun _ i _ => l.len - (intOf i).toNat)
      case atStart => exact ⟨.nil, l, e0, rfl, rfl, by rw [show thoseF done .nil = .nil by rw [thoseF], tp_app_nil]; exact hG, HFl, hb3⟩
      case round =>
        rename World => w4
        obtain ⟨d2, t2, m2, HD2, rfl, hG2, HT2, hb4⟩ := hrel
        have hbw4 := kqt HW0.out hb4
        have hs4 : W.heap.size ≤ w4.heap.size := hb4.size
        cases t2 with
        | nil =>
          have hd2 : d2 = l := by have := HD2.out; rw [tp_app_nil] at this; exact this
          subst hd2
          have i2 : ¬ (d2.len : Int) < (d2.len : Int) := by omega
          obtain ⟨q6, c6, rfl⟩ := hG2.slice
          obtain ⟨ld, Sd, hO3, hR3, hSd, hSg3⟩ := hG2.ex
          have hlen : ((jn true done d2).app (thoseF done d2)).len ≤ 1000000 := by rw [tp_app_len]; have := those_len done d2; have := HFm.out; omega
          have hC := sortRow_any _ w4 _ ld Sd hO3 hR3 (fun g hg => (hSg3 g hg).2.2) hlen
          have HSd : Hid (∀ a, Sd a → a < w4.heap.size ∧ ((S a ∧ a < w.heap.size) ∨ W.heap.size ≤ a)) := hSd
          have HP : Hid (∀ t, (toL t).Perm (toL ((jn true done d2).app (thoseF done d2))) → t.len = ((jn true done d2).app (thoseF done d2)).len ∧ ((toL t).Pairwise (fun a b => ¬ cmpB b.1.s a.1.s < 0) → t = addF done d2 (jn true done d2))) := fun t h => ⟨by rw [← toL_len, h.length_eq, toL_len], fun h2 => sort_join HFk.out HFl.out h h2⟩
          obtain ⟨M, hM⟩ : ∃ M, M = ((jn true done d2).app (thoseF done d2)).len := ⟨_, rfl⟩
          have HG3 : Hid (∀ g, (Value.slice q6 M c6).ownBlock = some g → W.heap.size ≤ g ∧ g < w4.heap.size ∧ ¬ Sd g) := by rw [hM]; exact hSg3
          have hM1 : M ≤ 1000000 := by omega
          rw [← hM] at hC HP ⊢
          clear hO3 hR3 hSd hSg3 hG2 hlen hM
          go_wp2_with fail
          refine hC.mono ?_
          rintro _ w5 ⟨rfl, t', l', hp, hs, hO5, hR5, hg5⟩
          obtain ⟨ht1, ht2⟩ := HP.out t' hp
          have HT' : Hid (t' = addF done d2 (jn true done d2)) := ht2 hs
          have HL' : Hid (t'.len = M) := ht1
          have HO5 : Hid (w5.ownsRow 0 43 5 (.slice q6 M c6) t'.len l') := hO5
          have HR5 : Hid (RK w5 t' l' Sd) := hR5
          have hb5 : Below W.heap.size W w5 := hb4.trans ⟨hg5.os, hg5.tape, hg5.output, hg5.size, fun a ha => hg5.block a (Nat.lt_of_lt_of_le ha hb4.size) (fun e => by have := (HG3.out a e.symm).1; omega)⟩
          have hg5s := hg5.size
          clear hC hp hs ht1 ht2 hO5 hR5 hg5
          go_wp2_with fail
          refine (recOf_any q6 M c6 w5).mono ?_
          rintro _ w6 ⟨rfl, hb6⟩
          have hb06 := kqt hb5 hb6
          have hr_6 := HR0.out.up hb06
          obtain ⟨r0, r1, r2, r3, r4⟩ := hr_6.cells
          have fr := hr_6.free
          go_wp2
          obtain ⟨V, hV⟩ : ∃ V, V = ((((w6.setCell ⟨w.heap.size + 2, 0, none⟩ (.int .i64 46)).setCell ⟨w.heap.size + 2, 1, none⟩ (.int .i64 M)).setCell ⟨w.heap.size + 2, 2, none⟩ (.string ⟨#[]⟩)).setCell ⟨w.heap.size + 2, 3, none⟩ (.string ⟨#[]⟩)).setCell ⟨w.heap.size + 2, 4, none⟩ (.slice q6 M c6) := ⟨_, rfl⟩
          rw [← hV]
          obtain ⟨hPV, hKV⟩ := hr_6.put (x := ⟨46, M, ⟨#[]⟩, ⟨#[]⟩⟩) (u := .slice q6 M c6) hV
          obtain ⟨t0, t1, t2, t3, t4⟩ := hPV.cells
          have hbV : Below w.heap.size w6 V := hKV.below (by have := hr_6.lt; omega) (fun a e => by omega)
          have hbf : Below w.heap.size w V := (kqt HW0.out hb06).trans hbV
          refine bodyPost_ret (v := .agg #[.int .i64 46, .int .i64 M, .string ⟨#[]⟩, .string ⟨#[]⟩, .slice q6 M c6]) (by simp [results, Tryd.results28, go_sem, t0, t1, t2, t3, t4]) rfl ⟨⟨⟨46, t'.len, Go.Proofs.YtckjndiepojgfaaDoor.e0, Go.Proofs.YtckjndiepojgfaaDoor.e0⟩, t', q6, c6, by rw [HT'.out], by rw [HL'.out]; rfl, ⟨(by show (⟨#[]⟩ : ByteArray).size ≤ maxLen; unfold maxLen; decide), (by show (⟨#[]⟩ : ByteArray).size ≤ maxLen; unfold maxLen; decide), (by rw [HL'.out]; show (M : Int) ≤ _; omega)⟩, ?_⟩, hbf⟩
          rw [HL'.out]
          refine ⟨l', ownP_agree (ownP_agree HO5.out (fun g _ hl => hb6.block g hl)) (fun g hg hl => hKV.block g hl (fun e => by have := (HG3.out g hg).1; omega)), fun g hg => .inr (by have := (HG3.out g hg).1; omega), ?_⟩
          refine ((HR5.out.up hb6).agree (fun a ha hl => hKV.block a hl (fun e => ?_))).sub (fun a ha => ?_)
          · rcases (HSd.out a ha).2 with h | h
            · omega
            · omega
          · rcases (HSd.out a ha).2 with h | h
            · exact .inl h.1
            · exact .inr (by omega)
        | cons f kf r =>
          have hv4 : VK w4 l (.slice q2 l.len c2) (fun a => S a ∧ a < w.heap.size) := HU.out.up hbw4
          have hkl : l.len = d2.len + (r.len + 1) := by rw [← HD2.out, tp_app_len]; rfl
          have i2 : (d2.len : Int) < (l.len : Int) := by omega
          rw [← HD2.out] at hv4
          obtain ⟨g, cap, u, hu, hP, hfw, hvk, hSg⟩ := hv4.at
          rw [HD2.out, ← hkl] at hu
          cases hu
          obtain ⟨-, hT1, hFr⟩ := Fl.cons_iff.1 HT2.out
          obtain ⟨z, kz, rfl, hTz⟩ := hT1.of
          obtain ⟨gf, cf, uz, rfl, hPz, hzw, hvz⟩ := hvk.single
          have hgf : gf < w.heap.size := by
            obtain ⟨lk, h1, h2, _⟩ := hvk
            exact (h2 gf rfl).2
          obtain ⟨qz, cz, rfl, _⟩ := hvz.slice
          obtain ⟨p0, p1, p2, p3, p4⟩ := hP.cells
          have HDn : Hid ((d2.app (.cons f (.cons z kz .nil) .nil)).app r = l) := by show _ = _; rw [tp_app_assoc, ← HD2.out]; rfl
          have HKL : Hid (l.len = d2.len + (r.len + 1)) := hkl
          obtain ⟨W4, hW4⟩ : ∃ W4, W4 = w4.alloc (.cells #[.int .i64 f.op, .int .i64 f.n, .string f.s, .string f.t, .slice (some ⟨gf, 0, none⟩) 1 cf] 43) := ⟨_, rfl⟩
          have hb4' : Below w4.heap.size w4 W4 := by rw [hW4]; exact kqx
          have hB4 : PBk W4 w4.heap.size f (.slice (some ⟨gf, 0, none⟩) 1 cf) := by rw [hW4]; exact PBk.new w4 f _ rfl
          have hC := field_any x done f.s W4 _ _ ((HV.out.up hbw4).up hb4') HK1.out
          unfold partV at hC
          obtain ⟨b0, b1, b2, b3, b4⟩ := ((HX0.out.up hb4).up hb4').cells
          rw [hW4] at b0 b1 b2 b3 b4
          have HVz : Hid (VK w4 kz (.slice qz kz.len cz) (fun a => S a ∧ a < w.heap.size)) := hvz
          have HFr : Hid (Fl f.s r) := hFr
          obtain ⟨q6, c6, rfl⟩ := hG2.slice
          clear hv4 hP hkl hvk hvz hFr hT1
          cases hf : done.find f.s with
          | some pp =>
            obtain ⟨o, ko⟩ := pp
            rw [hf] at hC
            have HJ2 : Hid (thoseF done (d2.app (.cons f (.cons z kz .nil) .nil)) = thoseF done d2) := by show _ = _; rw [those_app]; simp [thoseF, hf, tp_app_nil]
            clear hf
            go_wp2_with fail
            rw [← hW4]
            refine hC.mono ?_
            rintro _ w5 ⟨⟨qo, co, rfl, how, hvo⟩, hb5⟩
            obtain ⟨V6, hV6⟩ : ∃ V6, V6 = w5.alloc (.cells #[.int .i64 o.op, .int .i64 o.n, .string o.s, .string o.t, .slice qo ko.len co] 43) := ⟨_, rfl⟩
            have hb36 : Below w4.heap.size w4 V6 := by rw [hV6]; exact kqA (kqt hb4' hb5)
            have hG6 := hG2.up hb36
            clear b0 b1 b2 b3 b4 p0 p1 p2 p3 p4 hC hvo
            obtain ⟨M, hM⟩ : ∃ M, M = ((jn true done l).app (thoseF done d2)).len := ⟨_, rfl⟩
            rw [← hM] at hG6 ⊢
            rw [← HJ2.out] at hG6
            clear hM
            go_wp2_with fail
            rw [← hV6]
            go_roundw
            case rel => exact ⟨d2.app (.cons f (.cons z kz .nil) .nil), r, f.s, HDn, by rw [tp_app_len]; simp only [Tp.len]; go_num, hG6, HFr, kqt hb4 hb36⟩
            case measure => have := HKL.out; simp [intOf]; omega
          | none =>
            rw [hf] at hC
            have HJ2 : Hid ((jn true done l).app (thoseF done (d2.app (.cons f (.cons z kz .nil) .nil))) = ((jn true done l).app (thoseF done d2)).app (.cons (fdN f.s 0) (.cons z kz .nil) .nil)) := by show _ = _; rw [those_app, tp_app_assoc]; simp [thoseF, hf]
            clear hf
            obtain ⟨ld, Sd, hO3, hR3, hSd, hSg3⟩ := hG2.ex
            have hFlen : ((jn true done l).app (thoseF done d2)).len + 1 ≤ 1000000 := by rw [tp_app_len]; have := those_len done d2; have := HFm.out; omega
            obtain ⟨M, hM⟩ : ∃ M, M = ((jn true done l).app (thoseF done d2)).len := ⟨_, rfl⟩
            have HM : Hid (M = ((jn true done l).app (thoseF done d2)).len) := hM
            have HG3 : Hid (∀ g, (Value.slice q6 M c6).ownBlock = some g → W.heap.size ≤ g ∧ g < w4.heap.size ∧ ¬ Sd g) := by rw [hM]; exact hSg3
            have HSd : Hid (∀ a, Sd a → a < w4.heap.size ∧ ((S a ∧ a < w.heap.size) ∨ W.heap.size ≤ a)) := hSd
            have HR3 : Hid (RK w4 ((jn true done l).app (thoseF done d2)) ld Sd) := hR3
            have HO3 : Hid (w4.ownsRow 0 43 5 (.slice q6 M c6) M ld) := by rw [hM]; exact hO3
            rw [← hM] at hFlen ⊢
            clear hO3 hR3 hSd hSg3 hG2 hM
            go_wp2_with fail
            rw [← hW4]
            refine hC.mono ?_
            rintro _ w5 ⟨rfl, hb5⟩
            obtain ⟨V6, hV6⟩ : ∃ V6, V6 = w5.alloc (.cells #[.int .i64 0, .int .i64 0, .string ⟨#[]⟩, .string ⟨#[]⟩, .slice none 0 0] 43) := ⟨_, rfl⟩
            have hb56 : Below w5.heap.size w5 V6 := by rw [hV6]; exact kqx
            have hb36 : Below w4.heap.size w4 V6 := kqt (kqt hb4' hb5) hb56
            have hB6 : PBk V6 w4.heap.size f (.slice (some ⟨gf, 0, none⟩) 1 cf) := (hB4.up hb5).up hb56
            have hPz6 := hPz.up hb36
            have hd6 : Below V6.heap.size V6 V6.drew := kqx
            have hS0 := HJ1.of (hB6.up hd6) (hPz6.up hd6)
            have hcall := fun W9 (h9 : Below V6.heap.size V6 W9) => fieldOf_any f.s 0 z kz W9 _ _ ((HVz.out.up hb36).up h9) hzw
            unfold partV at hcall
            have hgB : (Value.slice q6 M c6).ownBlock ≠ some gf := fun hg => by have := (HG3.out gf hg).1; omega
            have hgC : (Value.slice q6 M c6).ownBlock ≠ some w4.heap.size := fun hg => by have := (HG3.out _ hg).2.1; omega
            clear b0 b1 b2 b3 b4 p0 p1 p2 p3 p4 hC
            go_wp2_with fail
            rw [← hV6]
            clear hV6
            refine wp_region_held_drew (S := HJ1 w4.heap.size gf f z (.slice (some ⟨gf, 0, none⟩) 1 cf) (.slice qz kz.len cz)) (by kernel_rfl) hS0 (fun hHeld => ?_)
            refine wpAnyH_take (i := 0) (v := ?_) rfl (by kernel_rfl) (by kernel_rfl) (by kernel_rfl) (fun _ _ _ h => h) (Or.inl ⟨by rfl, ?_⟩) (by assumption) ?_
            rotate_left
            · intro w hSw
              go_simp
              all_goals with_reducible rfl
            try simp only [Act.put, List.setIfInBounds_toArray, List.set_cons_zero, List.set_cons_succ]
            refine wpAnyH_take (i := 1) (v := ?_) rfl (by kernel_rfl) (by kernel_rfl) (by kernel_rfl) (fun _ _ _ h => h) (Or.inl ⟨by rfl, ?_⟩) (by assumption) ?_
            rotate_left
            · intro w hSw
              go_simp
              all_goals with_reducible rfl
            try simp only [Act.put, List.setIfInBounds_toArray, List.set_cons_zero, List.set_cons_succ]
            refine wpAnyH_take (i := 2) (v := ?_) rfl (by kernel_rfl) (by kernel_rfl) (by kernel_rfl) (fun _ _ _ h => h) (Or.inl ⟨by rfl, ?_⟩) (by assumption) ?_
            rotate_left
            · intro w hSw
              go_simp
              all_goals with_reducible rfl
            try simp only [Act.put, List.setIfInBounds_toArray, List.set_cons_zero, List.set_cons_succ]
            refine wpAnyH_take (i := 3) (v := ?_) rfl (by kernel_rfl) (by kernel_rfl) (by kernel_rfl) (fun _ _ _ h => h) (Or.inl ⟨by rfl, ?_⟩) (by assumption) ?_
            rotate_left
            · intro w hSw
              go_simp
              all_goals with_reducible rfl
            try simp only [Act.put, List.setIfInBounds_toArray, List.set_cons_zero, List.set_cons_succ]
            refine wpAnyH_take (i := 4) (v := ?_) rfl (by kernel_rfl) (by kernel_rfl) (by kernel_rfl) (fun _ _ _ h => h) (Or.inl ⟨by rfl, ?_⟩) (by assumption) ?_
            rotate_left
            · intro w hSw
              go_simp
              all_goals with_reducible rfl
            try simp only [Act.put, List.setIfInBounds_toArray, List.set_cons_zero, List.set_cons_succ]
            refine wpAnyH_take (i := 5) (v := ?_) rfl (by kernel_rfl) (by kernel_rfl) (by kernel_rfl) (fun _ _ _ h => h) (Or.inl ⟨by rfl, ?_⟩) (by assumption) ?_
            rotate_left
            · intro w hSw
              go_simp
              all_goals with_reducible rfl
            try simp only [Act.put, List.setIfInBounds_toArray, List.set_cons_zero, List.set_cons_succ]
            refine wpAnyH_take (i := 6) (v := ?_) rfl (by kernel_rfl) (by kernel_rfl) (by kernel_rfl) (fun _ _ _ h => h) (Or.inl ⟨by rfl, ?_⟩) (by assumption) ?_
            rotate_left
            · intro w hSw
              go_simp
              all_goals with_reducible rfl
            try simp only [Act.put, List.setIfInBounds_toArray, List.set_cons_zero, List.set_cons_succ]
            refine wpAnyH_take (i := 7) (v := ?_) rfl (by kernel_rfl) (by kernel_rfl) (by kernel_rfl) (fun _ _ _ h => h) (Or.inl ⟨by rfl, ?_⟩) (by assumption) ?_
            rotate_left
            · intro w hSw
              go_simp
              all_goals with_reducible rfl
            try simp only [Act.put, List.setIfInBounds_toArray, List.set_cons_zero, List.set_cons_succ]
            refine wpAnyH_ready (rs := [8]) (by kernel_rfl) (by simp) ?_
            refine AllReadyH.cons rfl (fun K hK => ?_) AllReadyH.nil
            go_simp
            go_wp2_with fail
            refine (hcall _ hd6).mono ?_
            rintro _ w8 ⟨⟨q8, c8, rfl, hv8⟩, hb8⟩
            have hb68 : Below V6.heap.size V6 w8 := kqt hd6 hb8
            have hB8 := hB6.up hb68
            have hP8 := hPz6.up hb68
            have hO8 : w8.ownsRow 0 43 5 (.slice q6 M c6) M ld := ownP_agree HO3.out (fun g hg hl => (kqt hb36 hb68).block g hl)
            refine hK.out _ _ (HJ1.of hB8 hP8) (fun hHeld => ?_)
            clear hK K
            refine wpAnyH_ready (rs := [9]) (by kernel_rfl) (by simp) ?_
            refine AllReadyH.cons rfl (fun K hK => ?_) AllReadyH.nil
            go_simp
            refine hK.out _ _ (HJ1.of (hB8.up kqx) (hP8.up kqx)) (fun hHeld => ?_)
            clear hK K
            refine wpAnyH_ready (rs := [10]) (by kernel_rfl) (by simp) ?_
            refine AllReadyH.cons rfl (fun K hK => ?_) AllReadyH.nil
            rw [if_pos (by rfl)]
            refine wp_appendP w8 (.tmp 82) (.tmp 91) rfl rfl (.slice q6 M c6) M ld rfl hO8 (fdN f.s 0) (.slice q8 1 c8) rfl hFlen w8.heap.size rfl rfl ?_
            intro v9 w9 hO9 hg9 hat9
            obtain ⟨q9, c9, rfl⟩ := ownP_slice hO9
            refine hK.out _ _ (HJ1.of (hB8.grown hg9 hgC) (hP8.grown hg9 hgB)) (fun hHeld => ?_)
            clear hK K
            try simp only [Act.put, List.setIfInBounds_toArray, List.set_cons_zero, List.set_cons_succ]
            refine wpAnyH_take (i := 11) (v := ?_) rfl (by kernel_rfl) (by kernel_rfl) (by kernel_rfl) (fun _ _ _ h => h) (Or.inl ⟨by rfl, ?_⟩) (by assumption) ?_
            rotate_left
            · intro w hSw
              go_simp
              all_goals with_reducible rfl
            try simp only [Act.put, List.setIfInBounds_toArray, List.set_cons_zero, List.set_cons_succ]
            refine wpAnyH_done (by kernel_rfl) ?_ _
            have hs8 : w4.heap.size ≤ w8.heap.size := (kqt hb36 hb68).size
            have hG9 : Gath W w9 (fun a => S a ∧ a < w.heap.size) (((jn true done l).app (thoseF done d2)).app (.cons (fdN f.s 0) (.cons z kz .nil) .nil)) (.slice q9 (M + 1) c9) := Gath.more (w := w4) (fdwf hfw (.inl rfl)) (by rw [← HM.out]; exact hO8) (HR3.out.up (kqt hb36 hb68)) HSd.out HG3.out hs8 hs4 HS0.out ((hv8.sub (fun a h => h.elim .inl (fun h => .inr (by have := hb36.size; have : V6.drew.heap.size = V6.heap.size := rfl; omega))))) (by rw [← HM.out]; exact hO9) hg9 hat9
            rw [← HJ2.out] at hG9
            have hb9 : Below W.heap.size W w9 := by
              have h1 : Below W.heap.size W w8 := kqt hb4 (kqt hb36 hb68)
              exact h1.trans ⟨hg9.os, hg9.tape, hg9.output, hg9.size, fun a ha => hg9.block a (Nat.lt_of_lt_of_le ha h1.size) (fun e => by have := (HG3.out a e.symm).1; omega)⟩
            clear hHeld hB8 hP8 hO8 hv8 hO9 hcall
            go_wp2_with fail
            go_roundw
            case rel => exact ⟨d2.app (.cons f (.cons z kz .nil) .nil), r, f.s, HDn, by rw [tp_app_len]; simp only [Tp.len]; go_num, hG9, HFr, hb9⟩
            case measure => have := HKL.out; simp [intOf]; omega
    | cons f kf r =>
      have hv3 : VK w3 k (.slice q k.len c) (fun a => S a ∧ a < w.heap.size) := HV.out.up hbw3
      have hkl : k.len = done.len + (r.len + 1) := by rw [← HD.out, tp_app_len]; rfl
      have hkf : k.flat.length = done.flat.length + (kf.flat.length + r.flat.length + 1) := by rw [← HD.out, tp_app_flat]; simp [Tp.flat] <;> omega
      have i1 : (done.len : Int) < (k.len : Int) := by omega
      rw [← HD.out] at hv3
      obtain ⟨g, cap, u, hu, hP, hfw, hvk, hSg⟩ := hv3.at
      rw [HD.out, ← hkl] at hu
      cases hu
      obtain ⟨⟨-, hfn, -, -, -⟩, hT1, hFr⟩ := Fl.cons_iff.1 HT.out
      obtain ⟨z, kz, rfl, hTz⟩ := hT1.of
      obtain ⟨gf, cf, uz, rfl, hPz, hzw, hvz⟩ := hvk.single
      have hgf : gf < w.heap.size := by
        obtain ⟨lk, h1, h2, _⟩ := hvk
        exact (h2 gf rfl).2
      obtain ⟨qz, cz, rfl, _⟩ := hvz.slice
      obtain ⟨p0, p1, p2, p3, p4⟩ := hP.cells
      have HDn : Hid ((done.app (.cons f (.cons z kz .nil) .nil)).app r = k) := by show _ = _; rw [tp_app_assoc, ← HD.out]; rfl
      have HKL : Hid (k.len = done.len + (r.len + 1)) := hkl
      obtain ⟨W4, hW4⟩ : ∃ W4, W4 = w3.alloc (.cells #[.int .i64 f.op, .int .i64 f.n, .string f.s, .string f.t, .slice (some ⟨gf, 0, none⟩) 1 cf] 43) := ⟨_, rfl⟩
      have hb4 : Below w3.heap.size w3 W4 := by rw [hW4]; exact kqx
      have hB4 : PBk W4 w3.heap.size f (.slice (some ⟨gf, 0, none⟩) 1 cf) := by rw [hW4]; exact PBk.new w3 f _ rfl
      have hC := field_any y l f.s W4 _ _ ((HU.out.up hbw3).up hb4) HL1.out
      unfold partV at hC
      obtain ⟨b0, b1, b2, b3, b4⟩ := ((HY0.out.up hb3).up hb4).cells
      rw [hW4] at b0 b1 b2 b3 b4
      have HJX : Hid (jn true (done.app (.cons f (.cons z kz .nil) .nil)) l = (jn true done l).app (jn true (.cons f (.cons z kz .nil) .nil) l)) := jn_app _ _ _
      have HVz : Hid (VK w3 kz (.slice qz kz.len cz) (fun a => S a ∧ a < w.heap.size)) := hvz
      have HFr : Hid (Fl f.s r) := hFr
      obtain ⟨ld, Sd, hO3, hR3, hSd, hSg3⟩ := hG.ex
      have HG3 : Hid (∀ g, u5.ownBlock = some g → W.heap.size ≤ g ∧ g < w3.heap.size ∧ ¬ Sd g) := hSg3
      have HSd : Hid (∀ a, Sd a → a < w3.heap.size ∧ ((S a ∧ a < w.heap.size) ∨ W.heap.size ≤ a)) := hSd
      have HR3 : Hid (RK w3 (jn true done l) ld Sd) := hR3
      have HO3 : Hid (w3.ownsRow 0 43 5 u5 (jn true done l).len ld) := hO3
      have hFlen : (jn true done l).len + 1 ≤ 1000000 := by rw [jn_len]; omega
      obtain ⟨q5, c5, rfl⟩ := hG.slice
      obtain ⟨M, hM⟩ : ∃ M, M = (jn true done l).len := ⟨_, rfl⟩
      have HM : Hid (M = (jn true done l).len) := hM
      rw [← hM] at HO3 hFlen HG3 ⊢
      clear hv3 hP hkl hvk hvz hFr hT1 hO3 hR3 hSd hSg3 hG hM
      cases hf : l.find f.s with
      | none =>
        rw [hf] at hC
        have HJ2 : Hid (jn true (done.app (.cons f (.cons z kz .nil) .nil)) l = (jn true done l).app (.cons (fdN f.s 0) (.cons z kz .nil) .nil)) := by show _ = _; rw [HJX.out, jn_flds, hf]; simp [jn]
        clear hf HJX
        go_wp2_with fail
        rw [← hW4]
        refine hC.mono ?_
        rintro _ w5 ⟨rfl, hb5⟩
        obtain ⟨V6, hV6⟩ : ∃ V6, V6 = w5.alloc (.cells #[.int .i64 0, .int .i64 0, .string ⟨#[]⟩, .string ⟨#[]⟩, .slice none 0 0] 43) := ⟨_, rfl⟩
        have hb56 : Below w5.heap.size w5 V6 := by rw [hV6]; exact kqx
        have hb36 : Below w3.heap.size w3 V6 := kqt (kqt hb4 hb5) hb56
        have hB6 : PBk V6 w3.heap.size f (.slice (some ⟨gf, 0, none⟩) 1 cf) := (hB4.up hb5).up hb56
        have hPz6 := hPz.up hb36
        have hd6 : Below V6.heap.size V6 V6.drew := kqx
        have hS0 := HJ1.of (hB6.up hd6) (hPz6.up hd6)
        have hcall := fun W9 (h9 : Below V6.heap.size V6 W9) => fieldOf_any f.s 0 z kz W9 _ _ ((HVz.out.up hb36).up h9) hzw
        unfold partV at hcall
        have hgA : ∀ g, (Value.slice q5 M c5).ownBlock = some g → g < w3.heap.size := fun g hg => (HG3.out g hg).2.1
        have hgB : (Value.slice q5 M c5).ownBlock ≠ some gf := fun hg => by have := (HG3.out gf hg).1; omega
        have hgC : (Value.slice q5 M c5).ownBlock ≠ some w3.heap.size := fun hg => by have := (HG3.out _ hg).2.1; omega
        have HgA : Hid (∀ g, (Value.slice q5 M c5).ownBlock = some g → g < w3.heap.size) := hgA
        clear b0 b1 b2 b3 b4 p0 p1 p2 p3 p4 hC hgA
        go_wp2_with fail
        rw [← hV6]
        clear hV6
        refine wp_region_held_drew (S := HJ1 w3.heap.size gf f z (.slice (some ⟨gf, 0, none⟩) 1 cf) (.slice qz kz.len cz)) (by kernel_rfl) hS0 (fun hHeld => ?_)
        refine wpAnyH_take (i := 0) (v := ?_) rfl (by kernel_rfl) (by kernel_rfl) (by kernel_rfl) (fun _ _ _ h => h) (Or.inl ⟨by rfl, ?_⟩) (by assumption) ?_
        rotate_left
        · intro w hSw
          go_simp
          all_goals with_reducible rfl
        try simp only [Act.put, List.setIfInBounds_toArray, List.set_cons_zero, List.set_cons_succ]
        refine wpAnyH_take (i := 1) (v := ?_) rfl (by kernel_rfl) (by kernel_rfl) (by kernel_rfl) (fun _ _ _ h => h) (Or.inl ⟨by rfl, ?_⟩) (by assumption) ?_
        rotate_left
        · intro w hSw
          go_simp
          all_goals with_reducible rfl
        try simp only [Act.put, List.setIfInBounds_toArray, List.set_cons_zero, List.set_cons_succ]
        refine wpAnyH_take (i := 2) (v := ?_) rfl (by kernel_rfl) (by kernel_rfl) (by kernel_rfl) (fun _ _ _ h => h) (Or.inl ⟨by rfl, ?_⟩) (by assumption) ?_
        rotate_left
        · intro w hSw
          go_simp
          all_goals with_reducible rfl
        try simp only [Act.put, List.setIfInBounds_toArray, List.set_cons_zero, List.set_cons_succ]
        refine wpAnyH_take (i := 3) (v := ?_) rfl (by kernel_rfl) (by kernel_rfl) (by kernel_rfl) (fun _ _ _ h => h) (Or.inl ⟨by rfl, ?_⟩) (by assumption) ?_
        rotate_left
        · intro w hSw
          go_simp
          all_goals with_reducible rfl
        try simp only [Act.put, List.setIfInBounds_toArray, List.set_cons_zero, List.set_cons_succ]
        refine wpAnyH_take (i := 4) (v := ?_) rfl (by kernel_rfl) (by kernel_rfl) (by kernel_rfl) (fun _ _ _ h => h) (Or.inl ⟨by rfl, ?_⟩) (by assumption) ?_
        rotate_left
        · intro w hSw
          go_simp
          all_goals with_reducible rfl
        try simp only [Act.put, List.setIfInBounds_toArray, List.set_cons_zero, List.set_cons_succ]
        refine wpAnyH_take (i := 5) (v := ?_) rfl (by kernel_rfl) (by kernel_rfl) (by kernel_rfl) (fun _ _ _ h => h) (Or.inl ⟨by rfl, ?_⟩) (by assumption) ?_
        rotate_left
        · intro w hSw
          go_simp
          all_goals with_reducible rfl
        try simp only [Act.put, List.setIfInBounds_toArray, List.set_cons_zero, List.set_cons_succ]
        refine wpAnyH_take (i := 6) (v := ?_) rfl (by kernel_rfl) (by kernel_rfl) (by kernel_rfl) (fun _ _ _ h => h) (Or.inl ⟨by rfl, ?_⟩) (by assumption) ?_
        rotate_left
        · intro w hSw
          go_simp
          all_goals with_reducible rfl
        try simp only [Act.put, List.setIfInBounds_toArray, List.set_cons_zero, List.set_cons_succ]
        refine wpAnyH_take (i := 7) (v := ?_) rfl (by kernel_rfl) (by kernel_rfl) (by kernel_rfl) (fun _ _ _ h => h) (Or.inl ⟨by rfl, ?_⟩) (by assumption) ?_
        rotate_left
        · intro w hSw
          go_simp
          all_goals with_reducible rfl
        try simp only [Act.put, List.setIfInBounds_toArray, List.set_cons_zero, List.set_cons_succ]
        refine wpAnyH_ready (rs := [8]) (by kernel_rfl) (by simp) ?_
        refine AllReadyH.cons rfl (fun K hK => ?_) AllReadyH.nil
        go_simp
        go_wp2_with fail
        refine (hcall _ hd6).mono ?_
        rintro _ w8 ⟨⟨q8, c8, rfl, hv8⟩, hb8⟩
        have hb68 : Below V6.heap.size V6 w8 := kqt hd6 hb8
        have hB8 := hB6.up hb68
        have hP8 := hPz6.up hb68
        have hO8 : w8.ownsRow 0 43 5 (.slice q5 M c5) M ld := ownP_agree HO3.out (fun g hg hl => (kqt hb36 hb68).block g hl)
        refine hK.out _ _ (HJ1.of hB8 hP8) (fun hHeld => ?_)
        clear hK K
        refine wpAnyH_ready (rs := [9]) (by kernel_rfl) (by simp) ?_
        refine AllReadyH.cons rfl (fun K hK => ?_) AllReadyH.nil
        go_simp
        refine hK.out _ _ (HJ1.of (hB8.up kqx) (hP8.up kqx)) (fun hHeld => ?_)
        clear hK K
        refine wpAnyH_ready (rs := [10]) (by kernel_rfl) (by simp) ?_
        refine AllReadyH.cons rfl (fun K hK => ?_) AllReadyH.nil
        rw [if_pos (by rfl)]
        refine wp_appendP w8 (.tmp 53) (.tmp 62) rfl rfl (.slice q5 M c5) M ld rfl hO8 (fdN f.s 0) (.slice q8 1 c8) rfl hFlen w8.heap.size rfl rfl ?_
        intro v9 w9 hO9 hg9 hat9
        obtain ⟨q9, c9, rfl⟩ := ownP_slice hO9
        refine hK.out _ _ (HJ1.of (hB8.grown hg9 hgC) (hP8.grown hg9 hgB)) (fun hHeld => ?_)
        clear hK K
        try simp only [Act.put, List.setIfInBounds_toArray, List.set_cons_zero, List.set_cons_succ]
        refine wpAnyH_take (i := 11) (v := ?_) rfl (by kernel_rfl) (by kernel_rfl) (by kernel_rfl) (fun _ _ _ h => h) (Or.inl ⟨by rfl, ?_⟩) (by assumption) ?_
        rotate_left
        · intro w hSw
          go_simp
          all_goals with_reducible rfl
        try simp only [Act.put, List.setIfInBounds_toArray, List.set_cons_zero, List.set_cons_succ]
        refine wpAnyH_done (by kernel_rfl) ?_ _
        have hs8 : w3.heap.size ≤ w8.heap.size := (kqt hb36 hb68).size
        have hG9 : Gath W w9 (fun a => S a ∧ a < w.heap.size) ((jn true done l).app (.cons (fdN f.s 0) (.cons z kz .nil) .nil)) (.slice q9 (M + 1) c9) := Gath.more (w := w3) (fdwf hfw (.inl rfl)) (by rw [← HM.out]; exact hO8) (HR3.out.up (kqt hb36 hb68)) HSd.out HG3.out hs8 hs3 HS0.out ((hv8.sub (fun a h => h.elim .inl (fun h => .inr (by have := hb36.size; have : V6.drew.heap.size = V6.heap.size := rfl; omega))))) (by rw [← HM.out]; exact hO9) hg9 hat9
        rw [← HJ2.out] at hG9
        have hb9 : Below W.heap.size W w9 := by
          have h1 : Below W.heap.size W w8 := kqt hb3 (kqt hb36 hb68)
          exact h1.trans ⟨hg9.os, hg9.tape, hg9.output, hg9.size, fun a ha => hg9.block a (Nat.lt_of_lt_of_le ha h1.size) (fun e => by have := (HG3.out a e.symm).1; omega)⟩
        clear hHeld hB8 hP8 hO8 hv8 hO9 hcall
        go_wp2_with fail
        go_roundw
        case rel => exact ⟨done.app (.cons f (.cons z kz .nil) .nil), r, f.s, HDn, by rw [tp_app_len]; simp only [Tp.len]; go_num, hG9, HFr, hb9⟩
        case measure => have := HKL.out; simp [intOf]; omega
      | some pp =>
        obtain ⟨o, ko⟩ := pp
        obtain ⟨-, hon, -, -, hTo⟩ := HFl.out.find hf
        obtain ⟨z2, kz2, rfl, hTz2⟩ := hTo.of
        have hof := find_flat hf
        simp only [Tp.flat, List.append_nil, List.length_cons] at hof hkf
        rw [hf] at hC
        have HJ2 : Hid (jn true (done.app (.cons f (.cons z kz .nil) .nil)) l = (jn true done l).app (.cons (fdN f.s (if f.n = 1 ∧ o.n = 1 then 1 else 0)) (jn false (.cons z kz .nil) (.cons z2 kz2 .nil)) .nil)) := by show _ = _; rw [HJX.out, jn_flds, hf]; simp [jn]
        have HBC := fun W9 (h9 : Below w3.heap.size w3 W9) u2 (h2 : VK W9 kz2 u2 (fun a => S a ∧ a < w.heap.size)) (hw2 : z2.wf) => HIH.out z kz (by omega) z2 kz2 W9 _ u2 _ (HVz.out.up h9) h2 hzw hw2 hTz hTz2 (by have := HK1.out; omega) (by have := HL1.out; omega)
        clear hf HJX hTo hof hkf
        go_wp2_with fail
        rw [← hW4]
        refine hC.mono ?_
        rintro _ w5 ⟨⟨qo, co, rfl, how, hvo⟩, hb5⟩
        obtain ⟨go_, co2, uo, huo, hPo, hz2w, hvz2⟩ := hvo.single
        cases huo
        have hgo : go_ < w.heap.size := by
          obtain ⟨lk, h1, h2, _⟩ := hvo
          exact (h2 go_ rfl).2
        obtain ⟨qz2, cz2, rfl, _⟩ := hvz2.slice
        obtain ⟨V6, hV6⟩ : ∃ V6, V6 = w5.alloc (.cells #[.int .i64 o.op, .int .i64 o.n, .string o.s, .string o.t, .slice (some ⟨go_, 0, none⟩) 1 co] 43) := ⟨_, rfl⟩
        have hb56 : Below w5.heap.size w5 V6 := by rw [hV6]; exact kqx
        have hb36 : Below w3.heap.size w3 V6 := kqt (kqt hb4 hb5) hb56
        have hB6 : PBk V6 w3.heap.size f (.slice (some ⟨gf, 0, none⟩) 1 cf) := (hB4.up hb5).up hb56
        have hO6 : PBk V6 w5.heap.size o (.slice (some ⟨go_, 0, none⟩) 1 co) := by rw [hV6]; exact PBk.new w5 o _ rfl
        have hPz6 := hPz.up hb36
        have hPo6 := hPo.up hb56
        have hd6 : Below V6.heap.size V6 V6.drew := kqx
        have hcall := HBC V6.drew (kqt hb36 hd6) _ ((hvz2.up hb56).up hd6) hz2w
        unfold partV at hcall
        have hs35 : w3.heap.size ≤ w5.heap.size := (kqt hb4 hb5).size
        have hgA : ∀ g, (Value.slice q5 M c5).ownBlock = some g → g < w3.heap.size := fun g hg => (HG3.out g hg).2.1
        have hgB : (Value.slice q5 M c5).ownBlock ≠ some gf := fun hg => by have := (HG3.out gf hg).1; omega
        have hgC : (Value.slice q5 M c5).ownBlock ≠ some w3.heap.size := fun hg => by have := (HG3.out _ hg).2.1; omega
        have hgD : (Value.slice q5 M c5).ownBlock ≠ some go_ := fun hg => by have := (HG3.out go_ hg).1; omega
        have hgE : (Value.slice q5 M c5).ownBlock ≠ some w5.heap.size := fun hg => by have := (HG3.out _ hg).2.1; omega
        obtain ⟨fa, hfa⟩ : ∃ fa, fa = f.n := ⟨_, rfl⟩
        obtain ⟨fb, hfb⟩ : ∃ fb, fb = o.n := ⟨_, rfl⟩
        have HFA : Hid (f.n = fa) := hfa.symm
        have HFB : Hid (o.n = fb) := hfb.symm
        have hab : (fa = 0 ∧ fb = 0) ∨ (fa = 0 ∧ fb = 1) ∨ (fa = 1 ∧ fb = 0) ∨ (fa = 1 ∧ fb = 1) := by omega
        have HAB : Hid (bits BinOp.and IntKind.i64 fa fb = if f.n = 1 ∧ o.n = 1 then 1 else 0) := by show _ = _; rw [← hfa, ← hfb]; exact bits_and hab
        have HMU : Hid (bits BinOp.and IntKind.i64 fa fb = 0 ∨ bits BinOp.and IntKind.i64 fa fb = 1) := by show _ ∨ _; rw [bits_and hab]; split <;> simp
        have hS0 := HJ.of (hB6.up hd6) (hO6.up hd6) (hPz6.up hd6) (hPo6.up hd6) hfa.symm hfb.symm
        have HFA2 : Hid (f.n = 1 ∧ o.n = 1 ↔ fa = 1 ∧ fb = 1) := by show _ ↔ _; rw [hfa, hfb]
        clear b0 b1 b2 b3 b4 p0 p1 p2 p3 p4 hC hgA HBC hfa hfb hfn hon hab HFA2
        have hl1 : (Tp.cons z2 kz2 .nil).len = 1 := rfl
        go_wp2_with fail
        rw [← hV6]
        clear hV6
        refine wp_region_held_drew (S := HJ w3.heap.size w5.heap.size gf go_ _ _ f z z2 (.slice (some ⟨gf, 0, none⟩) 1 cf) (.slice (some ⟨go_, 0, none⟩) 1 co) (.slice qz kz.len cz) (.slice qz2 kz2.len cz2)) (by kernel_rfl) hS0 (fun hHeld => ?_)
        refine wpAnyH_take (i := 0) (v := ?_) rfl (by kernel_rfl) (by kernel_rfl) (by kernel_rfl) (fun _ _ _ h => h) (Or.inl ⟨by rfl, ?_⟩) (by assumption) ?_
        rotate_left
        · intro w hSw
          go_simp
          all_goals with_reducible rfl
        try simp only [Act.put, List.setIfInBounds_toArray, List.set_cons_zero, List.set_cons_succ]
        refine wpAnyH_take (i := 1) (v := ?_) rfl (by kernel_rfl) (by kernel_rfl) (by kernel_rfl) (fun _ _ _ h => h) (Or.inl ⟨by rfl, ?_⟩) (by assumption) ?_
        rotate_left
        · intro w hSw
          go_simp
          all_goals with_reducible rfl
        try simp only [Act.put, List.setIfInBounds_toArray, List.set_cons_zero, List.set_cons_succ]
        refine wpAnyH_take (i := 2) (v := ?_) rfl (by kernel_rfl) (by kernel_rfl) (by kernel_rfl) (fun _ _ _ h => h) (Or.inl ⟨by rfl, ?_⟩) (by assumption) ?_
        rotate_left
        · intro w hSw
          go_simp
          all_goals with_reducible rfl
        try simp only [Act.put, List.setIfInBounds_toArray, List.set_cons_zero, List.set_cons_succ]
        refine wpAnyH_take (i := 3) (v := ?_) rfl (by kernel_rfl) (by kernel_rfl) (by kernel_rfl) (fun _ _ _ h => h) (Or.inl ⟨by rfl, ?_⟩) (by assumption) ?_
        rotate_left
        · intro w hSw
          go_simp
          all_goals with_reducible rfl
        try simp only [Act.put, List.setIfInBounds_toArray, List.set_cons_zero, List.set_cons_succ]
        refine wpAnyH_take (i := 4) (v := ?_) rfl (by kernel_rfl) (by kernel_rfl) (by kernel_rfl) (fun _ _ _ h => h) (Or.inl ⟨by rfl, ?_⟩) (by assumption) ?_
        rotate_left
        · intro w hSw
          go_simp
          all_goals with_reducible rfl
        try simp only [Act.put, List.setIfInBounds_toArray, List.set_cons_zero, List.set_cons_succ]
        refine wpAnyH_take (i := 5) (v := ?_) rfl (by kernel_rfl) (by kernel_rfl) (by kernel_rfl) (fun _ _ _ h => h) (Or.inl ⟨by rfl, ?_⟩) (by assumption) ?_
        rotate_left
        · intro w hSw
          go_simp
          all_goals with_reducible rfl
        try simp only [Act.put, List.setIfInBounds_toArray, List.set_cons_zero, List.set_cons_succ]
        refine wpAnyH_take (i := 6) (v := ?_) rfl (by kernel_rfl) (by kernel_rfl) (by kernel_rfl) (fun _ _ _ h => h) (Or.inl ⟨by rfl, ?_⟩) (by assumption) ?_
        rotate_left
        · intro w hSw
          go_simp
          all_goals with_reducible rfl
        try simp only [Act.put, List.setIfInBounds_toArray, List.set_cons_zero, List.set_cons_succ]
        refine wpAnyH_take (i := 7) (v := ?_) rfl (by kernel_rfl) (by kernel_rfl) (by kernel_rfl) (fun _ _ _ h => h) (Or.inl ⟨by rfl, ?_⟩) (by assumption) ?_
        rotate_left
        · intro w hSw
          go_simp
          all_goals with_reducible rfl
        try simp only [Act.put, List.setIfInBounds_toArray, List.set_cons_zero, List.set_cons_succ]
        refine wpAnyH_take (i := 8) (v := ?_) rfl (by kernel_rfl) (by kernel_rfl) (by kernel_rfl) (fun _ _ _ h => h) (Or.inl ⟨by rfl, ?_⟩) (by assumption) ?_
        rotate_left
        · intro w hSw
          go_simp
          all_goals with_reducible rfl
        try simp only [Act.put, List.setIfInBounds_toArray, List.set_cons_zero, List.set_cons_succ]
        refine wpAnyH_take (i := 9) (v := ?_) rfl (by kernel_rfl) (by kernel_rfl) (by kernel_rfl) (fun _ _ _ h => h) (Or.inl ⟨by rfl, ?_⟩) (by assumption) ?_
        rotate_left
        · intro w hSw
          go_simp
          all_goals with_reducible rfl
        try simp only [Act.put, List.setIfInBounds_toArray, List.set_cons_zero, List.set_cons_succ]
        refine wpAnyH_take (i := 10) (v := ?_) rfl (by kernel_rfl) (by kernel_rfl) (by kernel_rfl) (fun _ _ _ h => h) (Or.inl ⟨by rfl, ?_⟩) (by assumption) ?_
        rotate_left
        · intro w hSw
          go_simp
          all_goals with_reducible rfl
        try simp only [Act.put, List.setIfInBounds_toArray, List.set_cons_zero, List.set_cons_succ]
        refine wpAnyH_take (i := 11) (v := ?_) rfl (by kernel_rfl) (by kernel_rfl) (by kernel_rfl) (fun _ _ _ h => h) (Or.inl ⟨by rfl, ?_⟩) (by assumption) ?_
        rotate_left
        · intro w hSw
          go_simp
          all_goals with_reducible rfl
        try simp only [Act.put, List.setIfInBounds_toArray, List.set_cons_zero, List.set_cons_succ]
        refine wpAnyH_take (i := 12) (v := ?_) rfl (by kernel_rfl) (by kernel_rfl) (by kernel_rfl) (fun _ _ _ h => h) (Or.inl ⟨by rfl, ?_⟩) (by assumption) ?_
        rotate_left
        · intro w hSw
          go_simp
          all_goals with_reducible rfl
        try simp only [Act.put, List.setIfInBounds_toArray, List.set_cons_zero, List.set_cons_succ]
        refine wpAnyH_take (i := 13) (v := ?_) rfl (by kernel_rfl) (by kernel_rfl) (by kernel_rfl) (fun _ _ _ h => h) (Or.inl ⟨by rfl, ?_⟩) (by assumption) ?_
        rotate_left
        · intro w hSw
          go_simp
          all_goals with_reducible rfl
        try simp only [Act.put, List.setIfInBounds_toArray, List.set_cons_zero, List.set_cons_succ]
        refine wpAnyH_take (i := 14) (v := ?_) rfl (by kernel_rfl) (by kernel_rfl) (by kernel_rfl) (fun _ _ _ h => h) (Or.inl ⟨by rfl, ?_⟩) (by assumption) ?_
        rotate_left
        · intro w hSw
          go_simp
          all_goals with_reducible rfl
        try simp only [Act.put, List.setIfInBounds_toArray, List.set_cons_zero, List.set_cons_succ]
        refine wpAnyH_take (i := 15) (v := ?_) rfl (by kernel_rfl) (by kernel_rfl) (by kernel_rfl) (fun _ _ _ h => h) (Or.inl ⟨by rfl, ?_⟩) (by assumption) ?_
        rotate_left
        · intro w hSw
          go_simp
          all_goals with_reducible rfl
        try simp only [Act.put, List.setIfInBounds_toArray, List.set_cons_zero, List.set_cons_succ]
        refine wpAnyH_take (i := 16) (v := ?_) rfl (by kernel_rfl) (by kernel_rfl) (by kernel_rfl) (fun _ _ _ h => h) (Or.inl ⟨by rfl, ?_⟩) (by assumption) ?_
        rotate_left
        · intro w hSw
          go_simp
          all_goals with_reducible rfl
        try simp only [Act.put, List.setIfInBounds_toArray, List.set_cons_zero, List.set_cons_succ]
        refine wpAnyH_take (i := 17) (v := ?_) rfl (by kernel_rfl) (by kernel_rfl) (by kernel_rfl) (fun _ _ _ h => h) (Or.inl ⟨by rfl, ?_⟩) (by assumption) ?_
        rotate_left
        · intro w hSw
          go_simp
          all_goals with_reducible rfl
        try simp only [Act.put, List.setIfInBounds_toArray, List.set_cons_zero, List.set_cons_succ]
        refine wpAnyH_take (i := 18) (v := ?_) rfl (by kernel_rfl) (by kernel_rfl) (by kernel_rfl) (fun _ _ _ h => h) (Or.inl ⟨by rfl, ?_⟩) (by assumption) ?_
        rotate_left
        · intro w hSw
          go_simp
          all_goals with_reducible rfl
        try simp only [Act.put, List.setIfInBounds_toArray, List.set_cons_zero, List.set_cons_succ]
        refine wpAnyH_ready (rs := [19]) (by kernel_rfl) (by simp) ?_
        refine AllReadyH.cons rfl (fun K hK => ?_) AllReadyH.nil
        go_simp
        go_wp2_with fail
        refine hcall.mono ?_
        rintro _ w7 ⟨⟨xj, kj, qj, cj, hjn, rfl, hxj, hvj⟩, hb7⟩
        have HJN : Hid (jn false (.cons z kz .nil) (.cons z2 kz2 .nil) = .cons xj kj .nil) := hjn
        clear hjn
        have hb67 : Below V6.heap.size V6 w7 := kqt hd6 hb7
        have hB7 := hB6.up hb67
        have hO7 := hO6.up hb67
        have hP7 := hPz6.up hb67
        have hQ7 := hPo6.up hb67
        refine hK.out _ _ (HJ.of hB7 hO7 hP7 hQ7 HFA.out HFB.out) (fun hHeld => ?_)
        clear hK K
        refine wpAnyH_ready (rs := [20]) (by kernel_rfl) (by simp) ?_
        refine AllReadyH.cons rfl (fun K hK => ?_) AllReadyH.nil
        go_simp
        go_wp2_with fail
        refine (fieldOf_any f.s (bits BinOp.and IntKind.i64 fa fb) xj kj w7 _ _ hvj hxj).mono ?_
        rintro _ w8 ⟨⟨q8, c8, rfl, hv8⟩, hb8⟩
        have hb68 : Below V6.heap.size V6 w8 := kqt hb67 hb8
        have hB8 := hB6.up hb68
        have hQ8 := hO6.up hb68
        have hP8 := hPz6.up hb68
        have hR8 := hPo6.up hb68
        have hO8 : w8.ownsRow 0 43 5 (.slice q5 M c5) M ld := ownP_agree HO3.out (fun g hg hl => (kqt hb36 hb68).block g hl)
        refine hK.out _ _ (HJ.of hB8 hQ8 hP8 hR8 HFA.out HFB.out) (fun hHeld => ?_)
        clear hK K
        refine wpAnyH_ready (rs := [21]) (by kernel_rfl) (by simp) ?_
        refine AllReadyH.cons rfl (fun K hK => ?_) AllReadyH.nil
        go_simp
        refine hK.out _ _ (HJ.of (hB8.up kqx) (hQ8.up kqx) (hP8.up kqx) (hR8.up kqx) HFA.out HFB.out) (fun hHeld => ?_)
        clear hK K
        refine wpAnyH_ready (rs := [22]) (by kernel_rfl) (by simp) ?_
        refine AllReadyH.cons rfl (fun K hK => ?_) AllReadyH.nil
        rw [if_pos (by rfl)]
        refine wp_appendP w8 (.tmp 30) (.tmp 51) rfl rfl (.slice q5 M c5) M ld rfl hO8 (fdN f.s (bits BinOp.and IntKind.i64 fa fb)) (.slice q8 1 c8) rfl hFlen w8.heap.size rfl rfl ?_
        intro v9 w9 hO9 hg9 hat9
        obtain ⟨q9, c9, rfl⟩ := ownP_slice hO9
        refine hK.out _ _ (HJ.of (hB8.grown hg9 hgC) (hQ8.grown hg9 hgE) (hP8.grown hg9 hgB) (hR8.grown hg9 hgD) HFA.out HFB.out) (fun hHeld => ?_)
        clear hK K
        try simp only [Act.put, List.setIfInBounds_toArray, List.set_cons_zero, List.set_cons_succ]
        refine wpAnyH_take (i := 23) (v := ?_) rfl (by kernel_rfl) (by kernel_rfl) (by kernel_rfl) (fun _ _ _ h => h) (Or.inl ⟨by rfl, ?_⟩) (by assumption) ?_
        rotate_left
        · intro w hSw
          go_simp
          all_goals with_reducible rfl
        try simp only [Act.put, List.setIfInBounds_toArray, List.set_cons_zero, List.set_cons_succ]
        refine wpAnyH_done (by kernel_rfl) ?_ _
        have hs8 : w3.heap.size ≤ w8.heap.size := (kqt hb36 hb68).size
        have hG9 : Gath W w9 (fun a => S a ∧ a < w.heap.size) ((jn true done l).app (.cons (fdN f.s (bits BinOp.and IntKind.i64 fa fb)) (.cons xj kj .nil) .nil)) (.slice q9 (M + 1) c9) := Gath.more (w := w3) (fdwf hfw HMU.out) (by rw [← HM.out]; exact hO8) (HR3.out.up (kqt hb36 hb68)) HSd.out HG3.out hs8 hs3 HS0.out ((hv8.sub (fun a h => h.elim (fun h => h.elim .inl (fun h => .inr (by have := hb36.size; have : V6.drew.heap.size = V6.heap.size := rfl; omega))) (fun h => .inr (by have := hb36.size; have := hb67.size; omega))))) (by rw [← HM.out]; exact hO9) hg9 hat9
        rw [HAB.out, ← HJN.out, ← HJ2.out] at hG9
        have hb9 : Below W.heap.size W w9 := by
          have h1 : Below W.heap.size W w8 := kqt hb3 (kqt hb36 hb68)
          exact h1.trans ⟨hg9.os, hg9.tape, hg9.output, hg9.size, fun a ha => hg9.block a (Nat.lt_of_lt_of_le ha h1.size) (fun e => by have := (HG3.out a e.symm).1; omega)⟩
        clear hHeld hB8 hP8 hO8 hv8 hO9 hcall hQ8 hR8
        go_wp2_with fail
        go_roundw
        case rel => exact ⟨done.app (.cons f (.cons z kz .nil) .nil), r, f.s, HDn, by rw [tp_app_len]; simp only [Tp.len]; go_num, hG9, HFr, hb9⟩
        case measure => have := HKL.out; simp [intOf]; omega
end Go.Proofs.YtckjndiepojgfaaDoor
namespace Go.Proofs.YtckjndiepojgfaaDoor
open Go.RowKit
set_option linter.unusedVariables false
set_option linter.unusedSectionVars false
set_option maxRecDepth 100000

/-- The start of join: both boxed, and the block of what is told. -/
structure JS (w W : World) (x y : Nd) (v u : Value) : Prop where
  bel : Below w.heap.size w W
  sz : W.heap.size = w.heap.size + 3
  bx : PBk W w.heap.size x v
  by_ : PBk W (w.heap.size + 1) y u
  br : PBk W (w.heap.size + 2) zN (.slice none 0 0)
theorem JS.new (w : World) (x y : Nd) (v u : Value) : JS w (((w.alloc (.cells #[.int .i64 x.op, .int .i64 x.n, .string x.s, .string x.t, v] 43)).alloc (.cells #[.int .i64 y.op, .int .i64 y.n, .string y.s, .string y.t, u] 43)).alloc (.cells #[.int .i64 0, .int .i64 0, .string ⟨#[]⟩, .string ⟨#[]⟩, .slice none 0 0] 43)) x y v u where
  bel := kqx
  sz := by simp
  bx := (PBk.new w x _ rfl).up kqx
  by_ := (PBk.new (w.alloc (.cells #[.int .i64 x.op, .int .i64 x.n, .string x.s, .string x.t, v] 43)) y _ (by simp)).up kqx
  br := PBk.new _ zN _ (by simp)
theorem lfwf (o : Int) : (lfN o).wf := ⟨(by show (⟨#[]⟩ : ByteArray).size ≤ maxLen; unfold maxLen; decide), (by show (⟨#[]⟩ : ByteArray).size ≤ maxLen; unfold maxLen; decide), (by show (0 : Int) ≤ _; omega)⟩
section
variable (x y : Nd) (k l : Tp) (w : World) (v u : Value) (S : Nat → Prop) (hv : VK w k v S) (hu : VK w l u S) (hxw : x.wf) (hyw : y.wf)
include hv hu hxw hyw
set_option maxHeartbeats 4000000 in
theorem join_first (h1 : x.op = 49) :
    Calls Tryd.prog 19 #[partV x v, partV y u] w fun e w' => JRet S w w' (.cons y l .nil) e ∧ Below w.heap.size w w' := by
  obtain ⟨q, c, rfl, _⟩ := hv.slice
  obtain ⟨q2, c2, rfl, _⟩ := hu.slice
  have HV : Hid (VK w k (.slice q k.len c) S) := hv
  have HU : Hid (VK w l (.slice q2 l.len c2) S) := hu
  have e1 : (x.op == 49) = true := by rw [h1]; rfl
  clear hv hu h1
  unfold partV
  go_enter Tryd.func19, Tryd.ntmps19
  go_wp2
  exact bodyPost_ret (v := .agg #[.int .i64 y.op, .int .i64 y.n, .string y.s, .string y.t, .slice q2 l.len c2]) (by simp [results, Tryd.results19, go_sem]) rfl ⟨⟨y, l, _, _, rfl, rfl, hyw, (HU.out.up kqx).sub (fun a h => .inl h)⟩, kqx⟩
set_option maxHeartbeats 4000000 in
theorem join_second (h1 : x.op ≠ 49) (h2 : y.op = 49) :
    Calls Tryd.prog 19 #[partV x v, partV y u] w fun e w' => JRet S w w' (.cons x k .nil) e ∧ Below w.heap.size w w' := by
  obtain ⟨q, c, rfl, _⟩ := hv.slice
  obtain ⟨q2, c2, rfl, _⟩ := hu.slice
  have HV : Hid (VK w k (.slice q k.len c) S) := hv
  have HU : Hid (VK w l (.slice q2 l.len c2) S) := hu
  have e1 : (x.op == 49) = false := by simp [h1]
  have e2 : (y.op == 49) = true := by rw [h2]; rfl
  clear hv hu h1 h2
  unfold partV
  go_enter Tryd.func19, Tryd.ntmps19
  go_wp2
  exact bodyPost_ret (v := .agg #[.int .i64 x.op, .int .i64 x.n, .string x.s, .string x.t, .slice q k.len c]) (by simp [results, Tryd.results19, go_sem]) rfl ⟨⟨x, k, _, _, rfl, rfl, hxw, (HV.out.up kqx).sub (fun a h => .inl h)⟩, kqx⟩
set_option maxHeartbeats 4000000 in
theorem join_same (h1 : x.op ≠ 49) (h5 : x.op ≠ 45) (h6 : x.op ≠ 46) (hxy : x = y) :
    Calls Tryd.prog 19 #[partV x v, partV y u] w fun e w' => JRet S w w' (.cons x k .nil) e ∧ Below w.heap.size w w' := by
  subst hxy
  obtain ⟨q, c, rfl, _⟩ := hv.slice
  obtain ⟨q2, c2, rfl, _⟩ := hu.slice
  have HV : Hid (VK w k (.slice q k.len c) S) := hv
  have HU : Hid (VK w l (.slice q2 l.len c2) S) := hu
  have e1 : (x.op == 49) = false := by simp [h1]
  have e2 : (x.op == 45) = false := by simp [h5]
  have e3 : (x.op == 46) = false := by simp [h6]
  clear hv hu h1 h5 h6
  unfold partV
  go_enter Tryd.func19, Tryd.ntmps19
  go_wp2
  exact bodyPost_ret (v := .agg #[.int .i64 x.op, .int .i64 x.n, .string x.s, .string x.t, .slice q k.len c]) (by simp [results, Tryd.results19, go_sem]) rfl ⟨⟨x, k, _, _, rfl, rfl, hxw, (HV.out.up kqx).sub (fun a h => .inl h)⟩, kqx⟩
set_option maxHeartbeats 4000000 in
theorem join_diff (h1 : x.op ≠ 49) (h2 : y.op ≠ 49) (h3 : x.op ≠ y.op) :
    Calls Tryd.prog 19 #[partV x v, partV y u] w fun e w' => JRet S w w' (.cons (lfN 48) .nil .nil) e ∧ Below w.heap.size w w' := by
  obtain ⟨q, c, rfl, _⟩ := hv.slice
  obtain ⟨q2, c2, rfl, _⟩ := hu.slice
  have HV : Hid (VK w k (.slice q k.len c) S) := hv
  have HU : Hid (VK w l (.slice q2 l.len c2) S) := hu
  obtain ⟨xo, xn, xs, xt⟩ := x
  obtain ⟨yo, yn, ys, yt⟩ := y
  dsimp only at h1 h2 h3
  have e1 : (xo == 49) = false := by simp [h1]
  have e2 : (yo == 49) = false := by simp [h2]
  have e5 : (xo == yo) = false := by simp [h3]
  have HLf := fun W => leaf_any 48 W
  unfold partV
  dsimp only
  have hw : (xo = 45 ∧ yo ≠ 45) ∨ (xo = 46 ∧ yo ≠ 46) ∨ (xo ≠ 45 ∧ xo ≠ 46) := by omega
  clear hv hu h1 h2 h3
  rcases hw with ⟨rfl, c⟩ | ⟨rfl, c⟩ | ⟨c, c'⟩
  · have e6 : (yo == 45) = false := by simp [c]
    clear c
    go_enter Tryd.func19, Tryd.ntmps19
    go_wp2_with fail
    refine (HLf _).mono ?_
    rintro _ w1 ⟨rfl, hb1⟩
    have hJ := JS.new w ⟨45, xn, xs, xt⟩ ⟨yo, yn, ys, yt⟩ (.slice q k.len c) (.slice q2 l.len c2)
    have hr_1 := hJ.br.up hb1
    have hb01 := kqt hJ.bel hb1
    obtain ⟨r0, r1, r2, r3, r4⟩ := hr_1.cells
    have fr := hr_1.free
    go_wp2
    obtain ⟨V, hV⟩ : ∃ V, V = ((((w1.setCell ⟨w.heap.size + 2, 0, none⟩ (.int .i64 48)).setCell ⟨w.heap.size + 2, 1, none⟩ (.int .i64 0)).setCell ⟨w.heap.size + 2, 2, none⟩ (.string ⟨#[]⟩)).setCell ⟨w.heap.size + 2, 3, none⟩ (.string ⟨#[]⟩)).setCell ⟨w.heap.size + 2, 4, none⟩ (.slice none 0 0) := ⟨_, rfl⟩
    rw [← hV]
    obtain ⟨hPV, hKV⟩ := hr_1.put (x := ⟨48, 0, ⟨#[]⟩, ⟨#[]⟩⟩) (u := .slice none 0 0) hV
    obtain ⟨t0, t1, t2, t3, t4⟩ := hPV.cells
    have hbV : Below w.heap.size w1 V := hKV.below (by have := hr_1.lt; omega) (fun a e => by omega)
    exact bodyPost_ret (v := .agg #[.int .i64 48, .int .i64 0, .string ⟨#[]⟩, .string ⟨#[]⟩, .slice none 0 0]) (by simp [results, Tryd.results19, go_sem, t0, t1, t2, t3, t4]) rfl ⟨⟨lfN 48, .nil, none, 0, rfl, rfl, lfwf 48, VK.nil _ _⟩, hb01.trans hbV⟩
  · have e6 : (yo == 46) = false := by simp [c]
    clear c
    go_enter Tryd.func19, Tryd.ntmps19
    go_wp2_with fail
    refine (HLf _).mono ?_
    rintro _ w1 ⟨rfl, hb1⟩
    have hJ := JS.new w ⟨46, xn, xs, xt⟩ ⟨yo, yn, ys, yt⟩ (.slice q k.len c) (.slice q2 l.len c2)
    have hr_1 := hJ.br.up hb1
    have hb01 := kqt hJ.bel hb1
    obtain ⟨r0, r1, r2, r3, r4⟩ := hr_1.cells
    have fr := hr_1.free
    go_wp2
    obtain ⟨V, hV⟩ : ∃ V, V = ((((w1.setCell ⟨w.heap.size + 2, 0, none⟩ (.int .i64 48)).setCell ⟨w.heap.size + 2, 1, none⟩ (.int .i64 0)).setCell ⟨w.heap.size + 2, 2, none⟩ (.string ⟨#[]⟩)).setCell ⟨w.heap.size + 2, 3, none⟩ (.string ⟨#[]⟩)).setCell ⟨w.heap.size + 2, 4, none⟩ (.slice none 0 0) := ⟨_, rfl⟩
    rw [← hV]
    obtain ⟨hPV, hKV⟩ := hr_1.put (x := ⟨48, 0, ⟨#[]⟩, ⟨#[]⟩⟩) (u := .slice none 0 0) hV
    obtain ⟨t0, t1, t2, t3, t4⟩ := hPV.cells
    have hbV : Below w.heap.size w1 V := hKV.below (by have := hr_1.lt; omega) (fun a e => by omega)
    exact bodyPost_ret (v := .agg #[.int .i64 48, .int .i64 0, .string ⟨#[]⟩, .string ⟨#[]⟩, .slice none 0 0]) (by simp [results, Tryd.results19, go_sem, t0, t1, t2, t3, t4]) rfl ⟨⟨lfN 48, .nil, none, 0, rfl, rfl, lfwf 48, VK.nil _ _⟩, hb01.trans hbV⟩
  · have e6 : (xo == 45) = false := by simp [c]
    have e7 : (xo == 46) = false := by simp [c']
    clear c c'
    go_enter Tryd.func19, Tryd.ntmps19
    go_wp2_with fail
    refine (HLf _).mono ?_
    rintro _ w1 ⟨rfl, hb1⟩
    have hJ := JS.new w ⟨xo, xn, xs, xt⟩ ⟨yo, yn, ys, yt⟩ (.slice q k.len c) (.slice q2 l.len c2)
    have hr_1 := hJ.br.up hb1
    have hb01 := kqt hJ.bel hb1
    obtain ⟨r0, r1, r2, r3, r4⟩ := hr_1.cells
    have fr := hr_1.free
    go_wp2
    obtain ⟨V, hV⟩ : ∃ V, V = ((((w1.setCell ⟨w.heap.size + 2, 0, none⟩ (.int .i64 48)).setCell ⟨w.heap.size + 2, 1, none⟩ (.int .i64 0)).setCell ⟨w.heap.size + 2, 2, none⟩ (.string ⟨#[]⟩)).setCell ⟨w.heap.size + 2, 3, none⟩ (.string ⟨#[]⟩)).setCell ⟨w.heap.size + 2, 4, none⟩ (.slice none 0 0) := ⟨_, rfl⟩
    rw [← hV]
    obtain ⟨hPV, hKV⟩ := hr_1.put (x := ⟨48, 0, ⟨#[]⟩, ⟨#[]⟩⟩) (u := .slice none 0 0) hV
    obtain ⟨t0, t1, t2, t3, t4⟩ := hPV.cells
    have hbV : Below w.heap.size w1 V := hKV.below (by have := hr_1.lt; omega) (fun a e => by omega)
    exact bodyPost_ret (v := .agg #[.int .i64 48, .int .i64 0, .string ⟨#[]⟩, .string ⟨#[]⟩, .slice none 0 0]) (by simp [results, Tryd.results19, go_sem, t0, t1, t2, t3, t4]) rfl ⟨⟨lfN 48, .nil, none, 0, rfl, rfl, lfwf 48, VK.nil _ _⟩, hb01.trans hbV⟩
set_option maxHeartbeats 4000000 in
theorem join_ents (s t : ByteArray) (hx : x = ⟨44, 0, s, e0⟩) (hy : y = ⟨44, 0, t, e0⟩) (h : s ≠ t) :
    Calls Tryd.prog 19 #[partV x v, partV y u] w fun e w' => JRet S w w' (.cons (lfN 48) .nil .nil) e ∧ Below w.heap.size w w' := by
  obtain ⟨q, c, rfl, _⟩ := hv.slice
  obtain ⟨q2, c2, rfl, _⟩ := hu.slice
  subst hx hy
  have h3 : ¬ s.toList = t.toList := fun e => h (bytes_inj (by simpa only [ByteArray.toList_eq] using e))
  have HLf := fun W => leaf_any 48 W
  clear hv hu h
  unfold partV e0
  dsimp only
  have : True := trivial
  · go_enter Tryd.func19, Tryd.ntmps19
    go_wp2_with fail
    refine (HLf _).mono ?_
    rintro _ w1 ⟨rfl, hb1⟩
    have hJ := JS.new w ⟨44, 0, s, ⟨#[]⟩⟩ ⟨44, 0, t, ⟨#[]⟩⟩ (.slice q k.len c) (.slice q2 l.len c2)
    have hr_1 := hJ.br.up hb1
    have hb01 := kqt hJ.bel hb1
    obtain ⟨r0, r1, r2, r3, r4⟩ := hr_1.cells
    have fr := hr_1.free
    go_wp2
    obtain ⟨V, hV⟩ : ∃ V, V = ((((w1.setCell ⟨w.heap.size + 2, 0, none⟩ (.int .i64 48)).setCell ⟨w.heap.size + 2, 1, none⟩ (.int .i64 0)).setCell ⟨w.heap.size + 2, 2, none⟩ (.string ⟨#[]⟩)).setCell ⟨w.heap.size + 2, 3, none⟩ (.string ⟨#[]⟩)).setCell ⟨w.heap.size + 2, 4, none⟩ (.slice none 0 0) := ⟨_, rfl⟩
    rw [← hV]
    obtain ⟨hPV, hKV⟩ := hr_1.put (x := ⟨48, 0, ⟨#[]⟩, ⟨#[]⟩⟩) (u := .slice none 0 0) hV
    obtain ⟨t0, t1, t2, t3, t4⟩ := hPV.cells
    have hbV : Below w.heap.size w1 V := hKV.below (by have := hr_1.lt; omega) (fun a e => by omega)
    exact bodyPost_ret (v := .agg #[.int .i64 48, .int .i64 0, .string ⟨#[]⟩, .string ⟨#[]⟩, .slice none 0 0]) (by simp [results, Tryd.results19, go_sem, t0, t1, t2, t3, t4]) rfl ⟨⟨lfN 48, .nil, none, 0, rfl, rfl, lfwf 48, VK.nil _ _⟩, hb01.trans hbV⟩
end
end Go.Proofs.YtckjndiepojgfaaDoor
namespace Go.Proofs.YtckjndiepojgfaaDoor
open Go.RowKit
set_option linter.unusedVariables false
set_option linter.unusedSectionVars false
set_option linter.unusedSimpArgs false
set_option maxRecDepth 100000

section
variable (x y : Nd) (k l : Tp) (w : World) (v u : Value) (S : Nat → Prop) (hv : VK w k v S) (hu : VK w l u S) (hxw : x.wf) (hyw : y.wf)
include hv hu hxw hyw
set_option maxHeartbeats 4000000 in
theorem join_set (ih : ∀ z kz, kz.flat.length < k.flat.length → JoinK z kz) (hx : x = lfN 45) (hy : y = lfN 45) (hk : T1 k) (hl : T1 l) (hk1 : k.flat.length ≤ 1000) (hl1 : l.flat.length ≤ 1000) :
    Calls Tryd.prog 19 #[partV x v, partV y u] w fun e w' => JRet S w w' (.cons (lfN 45) (jn false k l) .nil) e ∧ Below w.heap.size w w' := by
  obtain ⟨z, kz, rfl, hz⟩ := hk.of
  obtain ⟨z2, kz2, rfl, hz2⟩ := hl.of
  obtain ⟨g, cap, uz, rfl, hP, hzw, hvz⟩ := hv.single
  obtain ⟨g2, cap2, uz2, rfl, hP2, hzw2, hvz2⟩ := hu.single
  obtain ⟨qz, cz, rfl, _⟩ := hvz.slice
  obtain ⟨qz2, cz2, rfl, _⟩ := hvz2.slice
  simp only [Tp.flat, List.append_nil, List.length_cons] at ih hk1 hl1
  subst hx hy
  have hJ := JS.new w (lfN 45) (lfN 45) (.slice (some ⟨g, 0, none⟩) 1 cap) (.slice (some ⟨g2, 0, none⟩) 1 cap2)
  obtain ⟨W, hW⟩ : ∃ W, W = ((w.alloc (.cells #[.int .i64 45, .int .i64 0, .string ⟨#[]⟩, .string ⟨#[]⟩, .slice (some ⟨g, 0, none⟩) 1 cap] 43)).alloc (.cells #[.int .i64 45, .int .i64 0, .string ⟨#[]⟩, .string ⟨#[]⟩, .slice (some ⟨g2, 0, none⟩) 1 cap2] 43)).alloc (.cells #[.int .i64 0, .int .i64 0, .string ⟨#[]⟩, .string ⟨#[]⟩, .slice none 0 0] 43) := ⟨_, rfl⟩
  replace hJ : JS w W (lfN 45) (lfN 45) (.slice (some ⟨g, 0, none⟩) 1 cap) (.slice (some ⟨g2, 0, none⟩) 1 cap2) := by rw [hW]; exact hJ
  have HC := fun W9 (h9 : Below w.heap.size w W9) => ih z kz (by omega) z2 kz2 W9 _ _ (fun a => S a ∧ a < w.heap.size) (hvz.real.up h9) (hvz2.real.up h9) hzw hzw2 hz hz2 (by omega) (by omega)
  clear hv hu ih hk hl hk1 hl1 hz hz2
  unfold partV at *
  unfold lfN e0
  dsimp only
  go_enter Tryd.func19, Tryd.ntmps19
  go_wp2_with fail
  rw [← hW]
  clear hW
  have hd : Below W.heap.size W W.drew := kqx
  have hJx := hJ.bx.up hd
  have hJy := hJ.by_.up hd
  have hJr := hJ.br.up hd
  have hbd : Below w.heap.size w W.drew := kqt hJ.bel hd
  have hPd := hP.up hbd
  have hP2d := hP2.up hbd
  have hds : W.drew.heap.size = w.heap.size + 3 := hJ.sz
  refine wp_region_still_tail 8 (by kernel_rfl) (by kernel_rfl) ?_
  change wpStill _ _ W.drew (fun a' => wpList _ _ _ _ a' W.drew) _ _
  generalize W.drew = wd at *
  have d4 := hJx.cells.2.2.2.2
  have o4 := hJy.cells.2.2.2.2
  obtain ⟨a0, a1, a2, a3, a4⟩ := hPd.cells
  obtain ⟨f0, f1, f2, f3, f4⟩ := hP2d.cells
  dsimp only [Nat.zero_add, Nat.reduceAdd] at a0 a1 a2 a3 a4 f0 f1 f2 f3 f4
  simp only [List.take_succ_cons, List.take_zero, List.drop_succ_cons, List.drop_zero]
  repeat still_step
  refine wpStill_nil ?_
  go_wp2_with fail
  refine (HC wd hbd).mono ?_
  rintro _ w5 ⟨⟨xj, kj, qj, cj, hjn, rfl, hxj, hvj⟩, hb5⟩
  have HJN : Hid (jn false (.cons z kz .nil) (.cons z2 kz2 .nil) = .cons xj kj .nil) := hjn
  clear hjn HC a0 a1 a2 a3 a4 f0 f1 f2 f3 f4 d4 o4
  have hS := setOf_any xj kj w5 _ _ hvj hxj
  unfold partV at hS
  go_wp2_with fail
  refine hS.mono ?_
  rintro _ w6 ⟨⟨q6, c6, rfl, hv6⟩, hb6⟩
  have hb56 := kqt hb5 hb6
  have hr_6 := hJr.up hb56
  obtain ⟨r0, r1, r2, r3, r4⟩ := hr_6.cells
  have fr := hr_6.free
  have hb06 := kqt hbd hb56
  go_wp2
  obtain ⟨V, hV⟩ : ∃ V, V = ((((w6.setCell ⟨w.heap.size + 2, 0, none⟩ (.int .i64 45)).setCell ⟨w.heap.size + 2, 1, none⟩ (.int .i64 0)).setCell ⟨w.heap.size + 2, 2, none⟩ (.string ⟨#[]⟩)).setCell ⟨w.heap.size + 2, 3, none⟩ (.string ⟨#[]⟩)).setCell ⟨w.heap.size + 2, 4, none⟩ (.slice q6 1 c6) := ⟨_, rfl⟩
  rw [← hV]
  obtain ⟨hPV, hKV⟩ := hr_6.put (x := ⟨45, 0, ⟨#[]⟩, ⟨#[]⟩⟩) (u := .slice q6 1 c6) hV
  obtain ⟨t0, t1, t2, t3, t4⟩ := hPV.cells
  have hbV : Below w.heap.size w6 V := hKV.below (by have := hr_6.lt; omega) (fun a e => by omega)
  refine bodyPost_ret (v := .agg #[.int .i64 45, .int .i64 0, .string ⟨#[]⟩, .string ⟨#[]⟩, .slice q6 1 c6]) (by simp [results, Tryd.results19, go_sem, t0, t1, t2, t3, t4]) rfl ⟨⟨lfN 45, .cons xj kj .nil, q6, c6, by rw [HJN.out]; rfl, rfl, lfwf 45, ?_⟩, hb06.trans hbV⟩
  have hs5 : w.heap.size + 3 ≤ w5.heap.size := by have := hb5.size; omega
  exact (hv6.agree (fun a ha hl => hKV.block a hl (fun e => by
    rcases ha with (ha | ha) | ha
    · omega
    · omega
    · omega))).sub (fun a ha => by
    rcases ha with (ha | ha) | ha
    · exact .inl ha.1
    · exact .inr (by omega)
    · exact .inr (by omega))
set_option maxHeartbeats 4000000 in
theorem join_rcd (ih : ∀ z kz, kz.flat.length < k.flat.length → JoinK z kz) (m n : Int) (hx : x = ⟨46, m, e0, e0⟩) (hy : y = ⟨46, n, e0, e0⟩) (hk : Fl e0 k) (hl : Fl e0 l) (hk1 : k.flat.length ≤ 1000) (hl1 : l.flat.length ≤ 1000) :
    Calls Tryd.prog 19 #[partV x v, partV y u] w fun e w' => JRet S w w' (.cons ⟨46, (addF k l (jn true k l)).len, e0, e0⟩ (addF k l (jn true k l)) .nil) e ∧ Below w.heap.size w w' := by
  obtain ⟨q, c, rfl, _⟩ := hv.slice
  obtain ⟨q2, c2, rfl, _⟩ := hu.slice
  subst hx hy
  have hJ := JS.new w ⟨46, m, ⟨#[]⟩, ⟨#[]⟩⟩ ⟨46, n, ⟨#[]⟩, ⟨#[]⟩⟩ (.slice q k.len c) (.slice q2 l.len c2)
  obtain ⟨W, hW⟩ : ∃ W, W = ((w.alloc (.cells #[.int .i64 46, .int .i64 m, .string ⟨#[]⟩, .string ⟨#[]⟩, .slice q k.len c] 43)).alloc (.cells #[.int .i64 46, .int .i64 n, .string ⟨#[]⟩, .string ⟨#[]⟩, .slice q2 l.len c2] 43)).alloc (.cells #[.int .i64 0, .int .i64 0, .string ⟨#[]⟩, .string ⟨#[]⟩, .slice none 0 0] 43) := ⟨_, rfl⟩
  replace hJ : JS w W ⟨46, m, ⟨#[]⟩, ⟨#[]⟩⟩ ⟨46, n, ⟨#[]⟩, ⟨#[]⟩⟩ (.slice q k.len c) (.slice q2 l.len c2) := by rw [hW]; exact hJ
  have HC := joinFields_any ⟨46, m, ⟨#[]⟩, ⟨#[]⟩⟩ ⟨46, n, ⟨#[]⟩, ⟨#[]⟩⟩ k l ih W _ _ (fun a => S a ∧ a < w.heap.size) (hv.real.up hJ.bel) (hu.real.up hJ.bel) hk hl hk1 hl1
  clear hv hu ih hk hl hk1 hl1
  generalize addF k l (jn true k l) = T at *
  unfold partV at *
  unfold e0 at *
  dsimp only at *
  go_enter Tryd.func19, Tryd.ntmps19
  go_wp2_with fail
  rw [← hW]
  refine HC.mono ?_
  rintro _ w6 ⟨⟨xj, kj, qj, cj, hjn, rfl, hxj, hvj⟩, hb6⟩
  cases hjn
  have hr_6 := hJ.br.up hb6
  obtain ⟨r0, r1, r2, r3, r4⟩ := hr_6.cells
  have fr := hr_6.free
  have hb06 := kqt hJ.bel hb6
  have hWs := hJ.sz
  clear HC hW
  dsimp only at *
  go_wp2
  obtain ⟨V, hV⟩ : ∃ V, V = ((((w6.setCell ⟨w.heap.size + 2, 0, none⟩ (.int .i64 46)).setCell ⟨w.heap.size + 2, 1, none⟩ (.int .i64 T.len)).setCell ⟨w.heap.size + 2, 2, none⟩ (.string ⟨#[]⟩)).setCell ⟨w.heap.size + 2, 3, none⟩ (.string ⟨#[]⟩)).setCell ⟨w.heap.size + 2, 4, none⟩ (.slice qj T.len cj) := ⟨_, rfl⟩
  rw [← hV]
  obtain ⟨hPV, hKV⟩ := hr_6.put (x := ⟨46, T.len, ⟨#[]⟩, ⟨#[]⟩⟩) (u := .slice qj T.len cj) hV
  obtain ⟨t0, t1, t2, t3, t4⟩ := hPV.cells
  have hbV : Below w.heap.size w6 V := hKV.below (by have := hr_6.lt; omega) (fun a e => by omega)
  refine bodyPost_ret (v := .agg #[.int .i64 46, .int .i64 T.len, .string ⟨#[]⟩, .string ⟨#[]⟩, .slice qj T.len cj]) (by simp [results, Tryd.results19, go_sem, t0, t1, t2, t3, t4]) rfl ⟨⟨_, T, qj, cj, rfl, rfl, hxj, ?_⟩, hb06.trans hbV⟩
  exact (hvj.agree (fun a ha hl => hKV.block a hl (fun e => by
    rcases ha with ha | ha
    · omega
    · omega))).sub (fun a ha => by
    rcases ha with ha | ha
    · exact .inl ha.1
    · exact .inr (by omega))
end
theorem joinK_any : ∀ (N : Nat) (x : Nd) (k : Tp), k.flat.length < N → JoinK x k
  | 0, x, k, h => by omega
  | N + 1, x, k, h => by
    have ih : ∀ z kz, kz.flat.length < k.flat.length → JoinK z kz := fun z kz hz => joinK_any N z kz (by omega)
    intro y l w v u S hv hu hxw hyw hx hy hk1 hl1
    rw [jn_cons]
    by_cases h1 : x.op = 49
    · rw [if_pos h1]
      exact join_first x y k l w v u S hv hu hxw hyw h1
    rw [if_neg h1]
    by_cases h2 : y.op = 49
    · rw [if_pos h2]
      exact join_second x y k l w v u S hv hu hxw hyw h1 h2
    rw [if_neg h2]
    by_cases h5 : x.op = 45 ∧ y.op = 45
    · rw [if_pos h5]
      cases hx with
      | leaf o ho => have := h5.1; have e : (lfN o).op = o := rfl; omega
      | ent s h => have := h5.1; simp at this
      | rcd k h => have := h5.1; simp at this
      | set k hk =>
        cases hy with
        | leaf o ho => have := h5.2; have e : (lfN o).op = o := rfl; omega
        | ent s h => have := h5.2; simp at this
        | rcd k h => have := h5.2; simp at this
        | set l hl => exact join_set _ _ k l w v u S hv hu hxw hyw ih rfl rfl hk hl hk1 hl1
    rw [if_neg h5]
    by_cases h6 : x.op = 46 ∧ y.op = 46
    · rw [if_pos h6]
      cases hx with
      | leaf o ho => have := h6.1; have e : (lfN o).op = o := rfl; omega
      | ent s h => have := h6.1; simp at this
      | set k h => have := h6.1; simp [lfN] at this
      | rcd k hk =>
        cases hy with
        | leaf o ho => have := h6.2; have e : (lfN o).op = o := rfl; omega
        | ent s h => have := h6.2; simp at this
        | set k h => have := h6.2; simp [lfN] at this
        | rcd l hl => exact join_rcd _ _ k l w v u S hv hu hxw hyw ih _ _ rfl rfl hk hl hk1 hl1
    rw [if_neg h6]
    by_cases he : x = y
    · subst he
      rw [if_pos (ndEq_iff.2 rfl)]
      exact join_same x x k l w v u S hv hu hxw hyw h1 (fun e => h5 ⟨e, e⟩) (fun e => h6 ⟨e, e⟩) rfl
    · rw [if_neg (fun e => he (ndEq_iff.1 e))]
      by_cases hop : x.op = y.op
      · cases hx with
        | leaf o ho =>
          cases hy with
          | leaf o2 ho2 => exact absurd (by have e : o = o2 := hop; rw [e]) he
          | ent s h => have e : o = 44 := hop; omega
          | set k h => have e : o = 45 := hop; omega
          | rcd k h => have e : o = 46 := hop; omega
        | ent s hs =>
          cases hy with
          | leaf o2 ho2 => have e : 44 = o2 := hop; omega
          | ent t ht => exact join_ents _ _ _ _ w v u S hv hu hxw hyw s t rfl rfl (fun e => he (by rw [e]))
          | set k h => simp [lfN] at hop
          | rcd k h => simp at hop
        | set k hk => exact absurd ⟨rfl, hop.symm⟩ h5
        | rcd k hk => exact absurd ⟨rfl, hop.symm⟩ h6
      · exact join_diff x y k l w v u S hv hu hxw hyw h1 h2 hop
theorem joinK (x : Nd) (k : Tp) : JoinK x k := joinK_any _ x k (Nat.lt_succ_self _)
end Go.Proofs.YtckjndiepojgfaaDoor
namespace Go.Proofs.YtckjndiepojgfaaDoor
open Go.RowKit
set_option linter.unusedVariables false
set_option linter.unusedSectionVars false
set_option maxRecDepth 100000

/-- What fit and Join tell: the nodes, or that they are too many. -/
def FitRet (w' : World) (L : List Nd) (en : Ending) : Prop :=
  (L.length ≤ 200 ∧ ∃ q c, en = .returned (.tuple #[.slice q L.length c, .nilIface]) ∧ NL w' q L ∧ L.length ≤ c ∧ c ≤ maxLen) ∨ (200 < L.length ∧ en = .returned (.tuple #[.slice none 0 0, .iface 23 (.int .i64 4)]))
theorem ON.emptyK (w : World) (base : Nat) : ON w base (.slice none 0 0) [] := ⟨World.ownsRow_nil _ _ _ _, fun x hx => by cases hx⟩
theorem ON.cap {w : World} {base : Nat} {q : Option Addr} {n c : Nat} {L : List Nd} (h : ON w base (.slice q n c) L) : L.length ≤ c ∧ c ≤ maxLen := by
  rcases h.1.2 with ⟨e, h0⟩ | ⟨g, cap, cur, e, _, _, h2, h3, _⟩
  · cases e; exact ⟨by omega, Nat.zero_le _⟩
  · cases e; exact ⟨h2, h3⟩
theorem ON.nl {w : World} {base : Nat} {q : Option Addr} {c : Nat} {L : List Nd} (h : ON w base (.slice q L.length c) L) : NL w q L := by
  obtain ⟨q', c', e, h1, _⟩ := NL.of_row h.2 h.1
  cases e
  exact h1.1
set_option maxHeartbeats 2000000 in
theorem fit_any (x : Nd) (k : Tp) (w : World) (v : Value) (S : Nat → Prop) (hv : VK w k v S) (hx : x.wf) (hl : k.flat.length ≤ 100000) :
    Calls Tryd.prog 20 #[partV x v] w fun e w' => FitRet w' (x :: k.flat) e ∧ Below w.heap.size w w' := by
  obtain ⟨q, c, rfl, _⟩ := hv.slice
  obtain ⟨W, hW⟩ : ∃ W, W = w.alloc (.cells #[.int .i64 x.op, .int .i64 x.n, .string x.s, .string x.t, .slice q k.len c] 43) := ⟨_, rfl⟩
  have hbW : Below w.heap.size w W := by rw [hW]; exact kqx
  have hC := ontoK_any (k.flat.length + 1) x k (Nat.lt_succ_self _) W _ _ w.heap.size (.slice none 0 0) [] (hv.real.up hbW) (fun a h => h.2) hx hbW.size (ON.emptyK _ _) (by simp; omega)
  rw [List.nil_append] at hC
  have hlL : (x :: k.flat).length ≤ 100001 := by simp; omega
  generalize x :: k.flat = L at *
  unfold partV at *
  clear hv hl
  by_cases h : 200 < L.length
  · have i1 : (200 : Int) < (L.length : Int) := by omega
    have HF : Hid (200 < L.length) := h
    clear h
    go_enter Tryd.func20, Tryd.ntmps20
    go_wp2_with fail
    rw [← hW]
    refine hC.mono ?_
    rintro _ w1 ⟨⟨ev, rfl, hO⟩, hk⟩
    obtain ⟨q1, c1, rfl⟩ := hO.any
    have hb1 : Below w.heap.size w w1 := hbW.trans hk.bel
    go_wp2
    exact bodyPost_ret (v := .tuple #[.slice none 0 0, .iface 23 (.int .i64 4)]) (by simp [results, Tryd.results20, go_sem]) rfl ⟨.inr ⟨HF.out, rfl⟩, hb1⟩
  · have i1 : ¬ (200 : Int) < (L.length : Int) := by omega
    have HF : Hid (L.length ≤ 200) := by show _ ≤ _; omega
    clear h
    go_enter Tryd.func20, Tryd.ntmps20
    go_wp2_with fail
    rw [← hW]
    refine hC.mono ?_
    rintro _ w1 ⟨⟨ev, rfl, hO⟩, hk⟩
    obtain ⟨q1, c1, rfl⟩ := hO.any
    have hb1 : Below w.heap.size w w1 := hbW.trans hk.bel
    obtain ⟨hc1, hc2⟩ := hO.cap
    go_wp2
    exact bodyPost_ret (v := .tuple #[.slice q1 L.length c1, .nilIface]) (by simp [results, Tryd.results20, go_sem]) rfl ⟨.inl ⟨HF.out, q1, c1, rfl, hO.nl, hc1, hc2⟩, hb1⟩
section
variable (a b : List Nd) (w : World) (p q : Option Addr) (c d : Nat) (ha : NL w p a) (hb : NL w q b) (hc : a.length ≤ c) (hcm : c ≤ maxLen) (hd : b.length ≤ d) (hdm : d ≤ maxLen)
include ha hb hc hcm hd hdm
theorem kjoin_err (h : bfault a b ≠ 0) :
    Calls Tryd.prog 9 #[.slice p a.length c, .slice q b.length d] w fun e w' => e = .returned (.tuple #[.slice none 0 0, .iface 23 (.int .i64 (bfault a b))]) ∧ Below w.heap.size w w' := by
  have hC := readBoth_err a b w p q c d ha hb hc hcm hd hdm h
  generalize bfault a b = n at *
  clear ha hb
  go_enter Tryd.func9, Tryd.ntmps9
  go_wp2_with fail
  refine hC.mono ?_
  rintro _ w1 ⟨rfl, hb1⟩
  go_wp2
  exact bodyPost_ret (v := .tuple #[.slice none 0 0, .iface 23 (.int .i64 n)]) (by simp [results, Tryd.results9, go_sem]) rfl ⟨rfl, kqA (kqA hb1)⟩
theorem kjoin_ok (x y : Nd) (k l : Tp) (hla : a.length ≤ 200) (hlb : b.length ≤ 200) (hk : KTy a x k) (hl : KTy b y l) :
    Calls Tryd.prog 9 #[.slice p a.length c, .slice q b.length d] w fun e w' => FitRet w' (jn false (.cons x k .nil) (.cons y l .nil)).flat e ∧ Below w.heap.size w w' := by
  have hC := readBoth_ok a b w p q c d ha hb hc hcm hd hdm x y k l hla hlb hk hl
  have hkf : k.flat.length ≤ 1000 := by rw [hk.2] at hla; simp at hla; omega
  have hlf : l.flat.length ≤ 1000 := by rw [hl.2] at hlb; simp at hlb; omega
  have HB := fun W v u S h1 h2 h3 h4 => joinK x k y l W v u S h1 h2 h3 h4 (T1.iff.1 hk.1) (T1.iff.1 hl.1) hkf hlf
  have HN : Hid ((jn false (.cons x k .nil) (.cons y l .nil)).flat.length ≤ 100001) := by
    have := jn_flat _ _ (Nat.lt_succ_self _) hk.1 hl.1
    simp only [Tp.flat, List.length_cons, List.length_append, List.length_nil] at this
    show _ ≤ _
    omega
  generalize jn false (.cons x k .nil) (.cons y l .nil) = R at *
  clear ha hb hk hl hkf hlf
  unfold partV at HB
  go_enter Tryd.func9, Tryd.ntmps9
  go_wp2_with fail
  refine hC.mono ?_
  rintro _ w1 ⟨⟨q1, c1, q2, c2, rfl, hxw, hyw, hu, hv⟩, hb1⟩
  have hbk : ∀ o1 o2, Below w1.heap.size w1 ((w1.alloc o1).alloc o2) := fun o1 o2 => kqx
  have HC := fun o1 o2 => HB _ _ _ _ (hu.up (hbk o1 o2)) (hv.up (hbk o1 o2)) hxw hyw
  clear hC HB hu hv
  go_wp2_with fail
  refine (HC _ _).mono ?_
  rintro _ w2 ⟨⟨xj, kj, qj, cj, hR, rfl, hxj, hvj⟩, hb2⟩
  have HR : Hid (R.flat = xj :: kj.flat) := by show _ = _; rw [hR]; simp [Tp.flat]
  clear hR
  have hF := fit_any xj kj w2 _ _ hvj hxj (by have := HN.out; rw [HR.out] at this; simp at this; omega)
  unfold partV at hF
  clear HC
  go_wp2_with fail
  refine hF.mono ?_
  rintro en w3 ⟨hR, hb3⟩
  have hb03 := kqt hb1 (kqt (hbk _ _) (kqt hb2 hb3))
  rcases hR with ⟨hL, q3, c3, rfl, hn3, h1, h2⟩ | ⟨hL, rfl⟩
  · have HL : Hid ((xj :: kj.flat).length ≤ 200) := hL
    clear hL
    generalize xj :: kj.flat = L at *
    go_wp2
    exact bodyPost_ret (v := .tuple #[.slice q3 L.length c3, .nilIface]) (by simp [results, Tryd.results9, go_sem]) rfl ⟨by rw [HR.out]; exact .inl ⟨HL.out, q3, c3, rfl, hn3, h1, h2⟩, hb03⟩
  · have HL : Hid (200 < (xj :: kj.flat).length) := hL
    clear hL
    generalize xj :: kj.flat = L at *
    go_wp2
    exact bodyPost_ret (v := .tuple #[.slice none 0 0, .iface 23 (.int .i64 4)]) (by simp [results, Tryd.results9, go_sem]) rfl ⟨by rw [HR.out]; exact .inr ⟨HL.out, rfl⟩, hb03⟩
end
end Go.Proofs.YtckjndiepojgfaaDoor
namespace Go.Proofs.YtckjndiepojgfaaDoor
open Go.RowKit
set_option linter.unusedVariables false
set_option maxRecDepth 100000

theorem AK.one (W : World) (x : Nd) (hx : x.wf) {B : Nat} (hB : B = W.heap.size) : AK (W.alloc (.cells #[.int .i64 x.op, .int .i64 x.n, .string x.s, .string x.t] 36)) [x] (some ⟨B, 0, none⟩) 1 := ⟨NL.oneK W B x hx hB.symm, by simp, by unfold maxLen; omega⟩
/-- Leaves are types. -/
theorem kty_leaf (o : Int) (h : o = 41 ∨ o = 42 ∨ o = 43 ∨ o = 48 ∨ o = 49) : KTy [lfN o] (lfN o) .nil := ⟨T1.iff.2 (.leaf o h), rfl⟩
theorem kfault_leaf (o : Int) (h : o = 41 ∨ o = 42 ∨ o = 43 ∨ o = 48 ∨ o = 49) : kfault [lfN o] = 0 := kfault_ok (by simp) (kty_leaf o h)
section
variable {a b : List Nd} {w : World} {p q : Option Addr} {c d : Nat} (ha : AK w a p c) (hb : AK w b q d)
include ha
include hb
theorem AK.join_err (h : bfault a b ≠ 0) : Calls Tryd.prog 9 #[.slice p a.length c, .slice q b.length d] w fun e w' => e = .returned (.tuple #[.slice none 0 0, .iface 23 (.int .i64 (bfault a b))]) ∧ Below w.heap.size w w' := kjoin_err a b w p q c d ha.nl hb.nl ha.le ha.cm hb.le hb.cm h
/-- Join, where it has room. -/
theorem AK.join {x y : Nd} {k l : Tp} (hla : a.length ≤ 200) (hlb : b.length ≤ 200) (hk : KTy a x k) (hl : KTy b y l) (hR : (jn false (.cons x k .nil) (.cons y l .nil)).flat.length ≤ 200) : Calls Tryd.prog 9 #[.slice p a.length c, .slice q b.length d] w fun e w' => (∃ q' c', e = .returned (.tuple #[.slice q' (jn false (.cons x k .nil) (.cons y l .nil)).flat.length c', .nilIface]) ∧ AK w' (jn false (.cons x k .nil) (.cons y l .nil)).flat q' c') ∧ Below w.heap.size w w' := by
  refine (kjoin_ok a b w p q c d ha.nl hb.nl ha.le ha.cm hb.le hb.cm x y k l hla hlb hk hl).mono ?_
  rintro en w' ⟨⟨_, q', c', rfl, h1, h2, h3⟩ | ⟨h, _⟩, hb⟩
  · exact ⟨⟨q', c', rfl, ⟨h1, h2, h3⟩⟩, hb⟩
  · omega
theorem AK.join_full {x y : Nd} {k l : Tp} (hla : a.length ≤ 200) (hlb : b.length ≤ 200) (hk : KTy a x k) (hl : KTy b y l) (hR : 200 < (jn false (.cons x k .nil) (.cons y l .nil)).flat.length) : Calls Tryd.prog 9 #[.slice p a.length c, .slice q b.length d] w fun e w' => e = .returned (.tuple #[.slice none 0 0, .iface 23 (.int .i64 4)]) ∧ Below w.heap.size w w' := by
  refine (kjoin_ok a b w p q c d ha.nl hb.nl ha.le ha.cm hb.le hb.cm x y k l hla hlb hk hl).mono ?_
  rintro en w' ⟨⟨h, q', c', rfl, h1, h2, h3⟩ | ⟨_, h⟩, hb⟩
  · omega
  · exact ⟨h, hb⟩
end
end Go.Proofs.YtckjndiepojgfaaDoor
namespace Go.Proofs.YtckjndiepojgfaaDoor
open Go.RowKit
set_option linter.unusedVariables false
set_option maxRecDepth 100000

/-- Join has an answer. -/
def JoinsTo (a b : List Nd) (x y : Nd) (k l : Tp) (z : Nd) (m : Tp) : Prop := a.length ≤ 200 ∧ b.length ≤ 200 ∧ KTy a x k ∧ KTy b y l ∧ jn false (.cons x k .nil) (.cons y l .nil) = .cons z m .nil ∧ m.flat.length + 1 ≤ 200
theorem JoinsTo.kty {a b : List Nd} {x y z : Nd} {k l m : Tp} (h : JoinsTo a b x y k l z m) : KTy (z :: m.flat) z m ∧ (z :: m.flat).length ≤ 200 := by
  obtain ⟨_, _, h1, h2, h3, h4⟩ := h
  have := h1.1.jn h2.1
  rw [h3] at this
  exact ⟨⟨this, rfl⟩, by simp; omega⟩
theorem JoinsTo.calls {a b : List Nd} {x y z : Nd} {k l m : Tp} (h : JoinsTo a b x y k l z m) {w : World} {p q : Option Addr} {c d : Nat} (ha : AK w a p c) (hb : AK w b q d) : Calls Tryd.prog 9 #[.slice p a.length c, .slice q b.length d] w fun e w' => (∃ q' c', e = .returned (.tuple #[.slice q' (z :: m.flat).length c', .nilIface]) ∧ AK w' (z :: m.flat) q' c') ∧ Below w.heap.size w w' := by
  obtain ⟨la, lb, h1, h2, h3, h4⟩ := h
  have hf : (Tp.cons z m .nil).flat = z :: m.flat := by simp [Tp.flat]
  have := AK.join ha hb la lb h1 h2 (by rw [h3, hf]; simp; omega)
  rw [h3, hf] at this
  exact this
/-- Join answers, or tells an error. -/
theorem join_ways (a b : List Nd) : (∃ x y k l z m, JoinsTo a b x y k l z m) ∨ ∃ n : Int, ∀ (w : World) (p q : Option Addr) (c d : Nat), AK w a p c → AK w b q d → Calls Tryd.prog 9 #[.slice p a.length c, .slice q b.length d] w fun e w' => e = .returned (.tuple #[.slice none 0 0, .iface 23 (.int .i64 n)]) ∧ Below w.heap.size w w' := by
  by_cases h : bfault a b = 0
  · have h1 : kfault a = 0 := by
      unfold bfault at h
      split at h
      · assumption
      · exact h
    have h2 : kfault b = 0 := by unfold bfault at h; rw [if_pos h1] at h; exact h
    obtain ⟨la, x, k, hx⟩ := kfault_zero h1
    obtain ⟨lb, y, l, hy⟩ := kfault_zero h2
    obtain ⟨z, m, hj, _⟩ := (hx.1.jn hy.1).of
    by_cases hs : m.flat.length + 1 ≤ 200
    · exact .inl ⟨x, y, k, l, z, m, la, lb, hx, hy, hj, hs⟩
    · refine .inr ⟨4, fun w p q c d ha hb => AK.join_full ha hb la lb hx hy ?_⟩
      rw [hj]
      simp [Tp.flat]
      omega
  · exact .inr ⟨_, fun w p q c d ha hb => AK.join_err ha hb h⟩
/-- Below answers, or tells an error: by what is wrong. -/
theorem bfault_second {a b : List Nd} {x : Nd} {k : Tp} (la : a.length ≤ 200) (h : KTy a x k) (hb : kfault b ≠ 0) : bfault a b ≠ 0 := by
  unfold bfault
  rw [if_pos (kfault_ok la h)]
  exact hb
/-- Whichever two come first. -/
theorem joined_same {a b c R Q : List Nd} {x y z y' t z' x2 y2 z2 x3 y3 z3 : Nd} {k l m l' o m' k2 l2 m2 k3 l3 m3 : Tp} (hJ : JoinsTo a b x y k l z m) (hK : JoinsTo b c y' t l' o z' m') (hR : R = z :: m.flat) (hQ : Q = z' :: m'.flat) (hP : JoinsTo R c x2 y2 k2 l2 z2 m2) (hN : JoinsTo a Q x3 y3 k3 l3 z3 m3) : z2 :: m2.flat = z3 :: m3.flat := by
  subst hR hQ
  have e1 := hJ.kty.1
  have e2 := hK.kty.1
  obtain ⟨_, _, j1, j2, j3, _⟩ := hJ
  obtain ⟨_, _, g1, g2, g3, _⟩ := hK
  obtain ⟨_, _, p1, p2, p3, _⟩ := hP
  obtain ⟨_, _, n1, n2, n3, _⟩ := hN
  obtain ⟨rfl, rfl⟩ := j2.uniq g1
  obtain ⟨rfl, rfl⟩ := p1.uniq e1
  obtain ⟨rfl, rfl⟩ := n2.uniq e2
  obtain ⟨rfl, rfl⟩ := p2.uniq g2
  obtain ⟨rfl, rfl⟩ := n1.uniq j1
  have := jn_assoc j1.1 j2.1 g2.1
  rw [j3, g3, p3, n3] at this
  cases this
  rfl
/-- Joined with one below it, it is it. -/
theorem joined_below {a b R : List Nd} {x y z : Nd} {k l m : Tp} (hJ : JoinsTo a b x y k l z m) (hR : R = z :: m.flat) : blw false (.cons y l .nil) (.cons x k .nil) = sameNd R a := by
  have e1 := hJ.kty.1
  obtain ⟨_, _, j1, j2, j3, _⟩ := hJ
  have := jn_eq_iff j1.1 j2.1
  rw [j3] at this
  rw [Bool.eq_iff_iff, sameNd_iff]
  show Le _ _ ↔ _
  rw [← this]
  constructor
  · intro e; cases e; rw [hR, j1.2]
  · intro e
    rw [hR] at e
    rw [e] at e1
    obtain ⟨rfl, rfl⟩ := e1.uniq j1
    rfl
end Go.Proofs.YtckjndiepojgfaaDoor
