/- Package kinds: joinFields, by a walk of its own text. Package kinds: join, by walks of its own text. Package kinds: join at sets and records, and whole. Package kinds: own, by walks of its own text. Package kinds: own at records, and whole; Own: by walks of their own texts. -/
import Derived.Test.YtgkbegomekhpcaaGreatDoorC15
import Derived.Test.YtgkbegomekhpcaaGreatDoorC20
import Derived.Test.YtgkbegomekhpcaaGreatDoorC18
import Derived.Deep.RegionHeld
import Derived.Test.YtgkbegomekhpcaaGreatDoorC10
namespace Go.Proofs.YtgkbegomekhpcaaGreatDoor
open Go.RowKit
set_option linter.unusedVariables false
set_option maxRecDepth 100000
set_option linter.unusedSimpArgs false

theorem jn_app (l : Tp) : ∀ a b : Tp, jn true (a.app b) l = (jn true a l).app (jn true b l)
  | .nil, b => by simp [Tp.app, jn]
  | .cons f kf r, b => by
    simp only [Tp.app, jn_flds]
    rw [jn_app l r b]
    cases l.find f.s <;> rfl
theorem jn_len (l : Tp) : ∀ a : Tp, (jn true a l).len = a.len
  | .nil => by simp [jn]
  | .cons f kf r => by
    rw [jn_flds]
    cases l.find f.s <;> simp [Tp.len, jn_len l r]
/-- What join does. -/
def JRet (S : Nat → Prop) (w w' : World) (t : Tp) (en : Ending) : Prop := ∃ (x : Nd) (k : Tp) (q : Option Addr) (c : Nat), t = .cons x k .nil ∧ en = .returned (.agg #[.int .i64 x.op, .int .i64 x.n, .string x.s, .string x.t, .slice q k.len c]) ∧ x.wf ∧ VK w' k (.slice q k.len c) (fun a => S a ∨ w.heap.size ≤ a)
def JoinK (x : Nd) (k : Tp) : Prop := ∀ (y : Nd) (l : Tp) (w : World) (v u : Value) (S : Nat → Prop), VK w k v S → VK w l u S → x.wf → y.wf → TyC x k → TyC y l → k.flat.length ≤ 1000 → l.flat.length ≤ 1000 →
  Calls Tryz.prog 70 #[partV x v, partV y u] w fun e w' => JRet S w w' (jn false (.cons x k .nil) (.cons y l .nil)) e ∧ Below w.heap.size w w'
/-- The cells that a field of the join is made of. -/
abbrev HJ (A B ga gb : Nat) (fa fb : Int) (f z z2 : Nd) (uf ug uz uz2 : Value) (w : World) : Prop :=
  w.cell? ⟨A, 1, none⟩ = some (.int .i64 fa) ∧ w.cell? ⟨A, 2, none⟩ = some (.string f.s) ∧ w.cell? ⟨A, 4, none⟩ = some uf ∧ w.cell? ⟨B, 1, none⟩ = some (.int .i64 fb) ∧ w.cell? ⟨B, 4, none⟩ = some ug ∧
  w.cell? ⟨ga, 0, none⟩ = some (.int .i64 z.op) ∧ w.cell? ⟨ga, 1, none⟩ = some (.int .i64 z.n) ∧ w.cell? ⟨ga, 2, none⟩ = some (.string z.s) ∧ w.cell? ⟨ga, 3, none⟩ = some (.string z.t) ∧ w.cell? ⟨ga, 4, none⟩ = some uz ∧
  w.cell? ⟨gb, 0, none⟩ = some (.int .i64 z2.op) ∧ w.cell? ⟨gb, 1, none⟩ = some (.int .i64 z2.n) ∧ w.cell? ⟨gb, 2, none⟩ = some (.string z2.s) ∧ w.cell? ⟨gb, 3, none⟩ = some (.string z2.t) ∧ w.cell? ⟨gb, 4, none⟩ = some uz2
abbrev HJ1 (A ga : Nat) (f z : Nd) (uf uz : Value) (w : World) : Prop :=
  w.cell? ⟨A, 2, none⟩ = some (.string f.s) ∧ w.cell? ⟨A, 4, none⟩ = some uf ∧
  w.cell? ⟨ga, 0, none⟩ = some (.int .i64 z.op) ∧ w.cell? ⟨ga, 1, none⟩ = some (.int .i64 z.n) ∧ w.cell? ⟨ga, 2, none⟩ = some (.string z.s) ∧ w.cell? ⟨ga, 3, none⟩ = some (.string z.t) ∧ w.cell? ⟨ga, 4, none⟩ = some uz
theorem HJ.of {w : World} {A B ga gb : Nat} {fa fb : Int} {f g z z2 : Nd} {uf ug uz uz2 : Value} (h1 : PBk w A f uf) (h2 : PBk w B g ug) (h3 : PC w ga 0 z uz) (h4 : PC w gb 0 z2 uz2) (ea : f.n = fa) (eb : g.n = fb) : HJ A B ga gb fa fb f z z2 uf ug uz uz2 w := by
  subst ea eb
  obtain ⟨a0, a1, a2, a3, a4⟩ := h1.cells
  obtain ⟨b0, b1, b2, b3, b4⟩ := h2.cells
  obtain ⟨c0, c1, c2, c3, c4⟩ := h3.cells
  obtain ⟨d0, d1, d2, d3, d4⟩ := h4.cells
  exact ⟨a1, a2, a4, b1, b4, c0, c1, c2, c3, c4, d0, d1, d2, d3, d4⟩
theorem HJ1.of {w : World} {A ga : Nat} {f z : Nd} {uf uz : Value} (h1 : PBk w A f uf) (h3 : PC w ga 0 z uz) : HJ1 A ga f z uf uz w := by
  obtain ⟨a0, a1, a2, a3, a4⟩ := h1.cells
  obtain ⟨c0, c1, c2, c3, c4⟩ := h3.cells
  exact ⟨a2, a4, c0, c1, c2, c3, c4⟩
theorem PBk.grown {w w' : World} {B : Nat} {x : Nd} {v : Value} {o : Option Nat} (h : PBk w B x v) (hg : w.grownBy w' o) (hne : o ≠ some B) : PBk w' B x v := ⟨(hg.block B h.lt (fun e => hne e.symm)).trans h.blk⟩
theorem PC.grown {w w' : World} {g j : Nat} {x : Nd} {v : Value} {o : Option Nat} (h : PC w g j x v) (hg : w.grownBy w' o) (hne : o ≠ some g) : PC w' g j x v := by
  have e := hg.block g h.lt (fun e => hne e.symm)
  obtain ⟨c0, c1, c2, c3, c4⟩ := h.cells
  exact ⟨Nat.lt_of_lt_of_le h.lt hg.size, (World.cell?_of_block e).trans c0, (World.cell?_of_block e).trans c1, (World.cell?_of_block e).trans c2, (World.cell?_of_block e).trans c3, (World.cell?_of_block e).trans c4⟩
/-- The fields that are gathered: a row of the call's own, its parts elsewhere. -/
structure Gath (w0 w : World) (S : Nat → Prop) (F : Tp) (v : Value) : Prop where
  ex : ∃ (ld : List Value) (Sd : Nat → Prop), w.ownsRow 0 81 5 v F.len ld ∧ RK w F ld Sd ∧ (∀ a, Sd a → a < w.heap.size ∧ (S a ∨ w0.heap.size ≤ a)) ∧ (∀ g, v.ownBlock = some g → w0.heap.size ≤ g ∧ g < w.heap.size ∧ ¬ Sd g)
theorem Gath.slice {w0 w : World} {S : Nat → Prop} {F : Tp} {v : Value} (h : Gath w0 w S F v) : ∃ q c, v = .slice q F.len c := by
  obtain ⟨ld, Sd, h1, _⟩ := h.ex
  exact ownP_slice h1
theorem Gath.up {w0 w w' : World} {S : Nat → Prop} {F : Tp} {v : Value} (h : Gath w0 w S F v) (hb : Below w.heap.size w w') : Gath w0 w' S F v := by
  obtain ⟨ld, Sd, h1, h2, h3, h4⟩ := h.ex
  exact ⟨ld, Sd, ownP_agree h1 (fun g _ hl => hb.block g hl), h2.up hb, fun a ha => ⟨Nat.lt_of_lt_of_le (h3 a ha).1 hb.size, (h3 a ha).2⟩, fun g hg => ⟨(h4 g hg).1, Nat.lt_of_lt_of_le (h4 g hg).2.1 hb.size, (h4 g hg).2.2⟩⟩
theorem Gath.nil (w0 w : World) (S : Nat → Prop) : Gath w0 w S .nil (.slice none 0 0) := ⟨[], fun _ => False, ⟨rfl, .inl ⟨rfl, rfl⟩⟩, rfl, fun a h => h.elim, fun g hg => by simp [Value.ownBlock] at hg⟩
/-- One field more. -/
theorem Gath.more {w0 w w8 w9 : World} {S : Nat → Prop} {F : Tp} {v v' : Value} {ld : List Value} {Sd : Nat → Prop} {x : Nd} {k : Tp} {u : Value} (hx : x.wf)
    (h1 : w8.ownsRow 0 81 5 v F.len ld) (h2 : RK w8 F ld Sd) (h3 : ∀ a, Sd a → a < w.heap.size ∧ (S a ∨ w0.heap.size ≤ a)) (h4 : ∀ g, v.ownBlock = some g → w0.heap.size ≤ g ∧ g < w.heap.size ∧ ¬ Sd g) (hw : w.heap.size ≤ w8.heap.size) (h0 : w0.heap.size ≤ w.heap.size) (hS : ∀ a, S a → a < w0.heap.size)
    (hk : VK w8 k u (fun a => S a ∨ w.heap.size ≤ a)) (ho : w9.ownsRow 0 81 5 v' (F.len + 1) (ld ++ pcl x u)) (hg : w8.grownBy w9 v.ownBlock) (hat : ∀ g, v'.ownBlock = some g → v.ownBlock = some g ∨ w8.heap.size ≤ g) : Gath w0 w9 S (F.app (.cons x k .nil)) v' := by
  refine ⟨ld ++ pcl x u, fun a => Sd a ∨ ((S a ∨ w.heap.size ≤ a) ∧ a < w8.heap.size), by rw [tp_app_len]; exact ho, RK.join ((h2.agree (fun a ha hl => hg.block a hl (fun e => (h4 a e.symm).2.2 ha))).sub (fun a h => .inl h)) (RK.one hx ((hk.real.agree (fun a ha hl => hg.block a hl (fun e => ?_))).sub (fun a h => .inr h))), fun a ha => ?_, fun g hg' => ?_⟩
  · have h5 := h4 a e.symm
    rcases ha.1 with h | h
    · have := hS a h; omega
    · omega
  · rcases ha with ha | ⟨ha, hl⟩
    · have h5 := h3 a ha
      exact ⟨by have := hg.size; omega, h5.2⟩
    · refine ⟨by have := hg.size; omega, ha.elim .inl (fun h => .inr (by omega))⟩
  · have hlt := (ownP_lt ho hg').1
    rcases hat g hg' with h | h
    · have h5 := h4 g h
      refine ⟨h5.1, hlt, fun e => e.elim h5.2.2 (fun e => ?_)⟩
      rcases e.1 with h6 | h6
      · have := hS g h6; omega
      · omega
    · refine ⟨by omega, hlt, fun e => e.elim (fun e => by have := (h3 g e).1; omega) (fun e => by omega)⟩
theorem those_len (k : Tp) : ∀ a : Tp, (thoseF k a).len ≤ a.len
  | .nil => by simp [thoseF]
  | .cons f kf r => by
    have := those_len k r
    rw [thoseF]
    split <;> simp only [Tp.len] <;> omega
theorem bits_and {a b : Int} (h : (a = 0 ∧ b = 0) ∨ (a = 0 ∧ b = 1) ∨ (a = 1 ∧ b = 0) ∨ (a = 1 ∧ b = 1)) : bits BinOp.and IntKind.i64 a b = if a = 1 ∧ b = 1 then 1 else 0 := by
  rcases h with ⟨rfl, rfl⟩ | ⟨rfl, rfl⟩ | ⟨rfl, rfl⟩ | ⟨rfl, rfl⟩ <;> decide
theorem fdwf {f : Nd} (h : f.wf) {n : Int} (hn : n = 0 ∨ n = 1) : (fdN f.s n).wf := by
  refine ⟨h.1, (by show (⟨#[]⟩ : ByteArray).size ≤ maxLen; unfold maxLen; decide), ?_⟩
  show n ≤ _
  omega
/-- One part more behind a row: the run itself. -/
theorem run_appendP (w : World) (v : Value) (n : Nat) (l : List Value) (hown : w.ownsRow 0 81 5 v n l) (y : Nd) (u : Value) (hu : u.oneCell' = true) (hlen : n + 1 ≤ 1000000) {B : Nat} (hB : B = w.heap.size) :
    ∃ v' w', (Builtin.append_ #[79, 79] 79 #[v, .slice (some ⟨B, 0, none⟩) 1 1]).run Tryz.prog (w.alloc (.cells #[.int .i64 y.op, .int .i64 y.n, .string y.s, .string y.t, u] 81)) = .ok v' w' ∧ w'.ownsRow 0 81 5 v' (n + 1) (l ++ pcl y u) ∧ w.grownBy w' v.ownBlock ∧ (∀ g, v'.ownBlock = some g → v.ownBlock = some g ∨ w.heap.size ≤ g) := by
  subst hB
  obtain ⟨i0, hi, hz0, hz1, hz2⟩ := info_parts Tryz.infoPartK
  have hb : Below w.heap.size w (w.alloc (.cells #[.int .i64 y.op, .int .i64 y.n, .string y.s, .string y.t, u] 81)) := kqx
  have hown2 := ownP_agree (w' := w.alloc (.cells #[.int .i64 y.op, .int .i64 y.n, .string y.s, .string y.t, u] 81)) hown (fun g _ hg => hb.block g hg)
  obtain ⟨v', w', hr, h1, h2, _, h4⟩ := run_append_own_at (P := Tryz.prog) _ 0 79 79 81 i0 _ 5 72 Tryz.underlying79 hi hz0 hz1 hz2 rfl (by decide) v n l hown2 ⟨w.heap.size, 0, none⟩ 1 1 (pcl y u) rfl (by
    intro j z hj
    match j, hj with
    | 0, hj => simp [pcl] at hj; subst hj; simp [Addr.add]
    | 1, hj => simp [pcl] at hj; subst hj; simp [Addr.add]
    | 2, hj => simp [pcl] at hj; subst hj; simp [Addr.add]
    | 3, hj => simp [pcl] at hj; subst hj; simp [Addr.add]
    | 4, hj => simp [pcl] at hj; subst hj; simp [Addr.add]) (by
    intro z hz
    simp only [pcl, List.mem_cons, List.not_mem_nil, or_false] at hz
    rcases hz with rfl | rfl | rfl | rfl | rfl
    · rfl
    · rfl
    · rfl
    · rfl
    · exact hu) (by unfold maxLen; omega) (by omega) (Nat.zero_le _)
  have hs2 : (w.alloc (.cells #[.int .i64 y.op, .int .i64 y.n, .string y.s, .string y.t, u] 81)).heap.size = w.heap.size + 1 := by simp
  refine ⟨v', w', hr, h1, ⟨h2.os.trans hb.os, h2.tape.trans hb.tape, h2.output.trans hb.output, Nat.le_trans hb.size h2.size, fun k hk hne => (h2.block k (by omega) hne).trans (hb.block k hk)⟩, (fun g hg => ?_)⟩
  rcases h4 with h4 | h4
  · exact .inl (by rw [← h4]; exact hg)
  · rw [h4] at hg
    injection hg with hg
    exact .inr (by omega)
/-- One part more behind a row, at the operation. -/
theorem wp_appendP (w : World) {o : Oper} {a : Act} {K : Act → World → Prop} {Q : Exit → Act → World → Prop} (s x : Operand) (ho : o.op = .call { callee := .builtin .append, args := #[s, x], argTypes := #[79, 79] }) (hty : o.type = 79) (v : Value) (n : Nat) (l : List Value) (hs : a.eval s = v) (hown : w.ownsRow 0 81 5 v n l) (y : Nd) (u : Value) (hu : u.oneCell' = true) (hlen : n + 1 ≤ 1000000) (B : Nat) (hx : a.eval x = .slice (some ⟨B, 0, none⟩) 1 1) (hB : B = w.heap.size)
    (h : ∀ v' w', w'.ownsRow 0 81 5 v' (n + 1) (l ++ pcl y u) → w.grownBy w' v.ownBlock → (∀ g, v'.ownBlock = some g → v.ownBlock = some g ∨ w.heap.size ≤ g) → K (a.put o.dst v') w') :
    o.wp Tryz.prog a (w.alloc (.cells #[.int .i64 y.op, .int .i64 y.n, .string y.s, .string y.t, u] 81)) K Q := by
  obtain ⟨v', w', hr, h2, h3, h4⟩ := run_appendP w v n l hown y u hu hlen hB
  unfold Oper.wp execOp
  simp only [ho, hty, resolve, invoke, builtin, Sem.run_bind, Sem.run_pure, Result.andThen_ok, List.map_toArray, List.map_cons, List.map_nil, hs, hx, hr]
  exact h v' w' h2 h3 h4
set_option maxHeartbeats 4000000 in
theorem joinFields_any (x y : Nd) (k l : Tp) (ih : ∀ z kz, kz.flat.length < k.flat.length → JoinK z kz) (w : World) (v u : Value) (S : Nat → Prop) (hv : VK w k v S) (hu : VK w l u S) (hfk : Fl e0 k) (hfl : Fl e0 l) (hk1 : k.flat.length ≤ 1000) (hl1 : l.flat.length ≤ 1000) :
    Calls Tryz.prog 130 #[partV x v, partV y u] w fun e w' => JRet S w w' (.cons ⟨46, (addF k l (jn true k l)).len, e0, e0⟩ (addF k l (jn true k l)) .nil) e ∧ Below w.heap.size w w' := by
  obtain ⟨q, c, rfl, hkc, hcm⟩ := hv.slice
  obtain ⟨q2, c2, rfl, hkc2, hcm2⟩ := hu.slice
  have HV : Hid (VK w k (.slice q k.len c) (fun a => S a ∧ a < w.heap.size)) := hv.real
  have HU : Hid (VK w l (.slice q2 l.len c2) (fun a => S a ∧ a < w.heap.size)) := hu.real
  have HK1 : Hid (k.flat.length ≤ 1000) := hk1
  have HL1 : Hid (l.flat.length ≤ 1000) := hl1
  have HIH : Hid (∀ z kz, kz.flat.length < k.flat.length → JoinK z kz) := ih
  have HFl : Hid (Fl e0 l) := hfl
  have hkb : k.len ≤ 1000 := by have := tp_len_flat k; omega
  have hlb : l.len ≤ 1000 := by have := tp_len_flat l; omega
  have HFk : Hid (Fl e0 k) := hfk
  clear hv hu hk1 hl1 ih hfk hfl
  obtain ⟨W, hW⟩ : ∃ W, W = ((w.alloc (.cells #[.int .i64 x.op, .int .i64 x.n, .string x.s, .string x.t, .slice q k.len c] 81)).alloc (.cells #[.int .i64 y.op, .int .i64 y.n, .string y.s, .string y.t, .slice q2 l.len c2] 81)).alloc (.cells #[.int .i64 0, .int .i64 0, .string ⟨#[]⟩, .string ⟨#[]⟩, .slice none 0 0] 81) := ⟨_, rfl⟩
  have hb0 : Below w.heap.size w W := by rw [hW]; exact kqx
  unfold partV
  go_enter Tryz.func130, Tryz.ntmps130
  have hWs : W.heap.size = w.heap.size + 3 := by rw [hW]; simp
  have hx_0 : PBk W w.heap.size x (.slice q k.len c) := by rw [hW]; exact (PBk.new w x _ rfl).up kqx
  have hy_0 : PBk W (w.heap.size + 1) y (.slice q2 l.len c2) := by rw [hW]; exact (PBk.new (w.alloc (.cells #[.int .i64 x.op, .int .i64 x.n, .string x.s, .string x.t, .slice q k.len c] 81)) y _ (by simp)).up kqx
  have hr_0 : PBk W (w.heap.size + 2) zN (.slice none 0 0) := by rw [hW]; exact PBk.new _ zN _ (by simp)
  have HS0 : Hid (∀ a, (S a ∧ a < w.heap.size) → a < W.heap.size) := fun a h => by omega
  have HX0 : Hid (PBk W w.heap.size x (.slice q k.len c)) := hx_0
  have HY0 : Hid (PBk W (w.heap.size + 1) y (.slice q2 l.len c2)) := hy_0
  have HR0 : Hid (PBk W (w.heap.size + 2) zN (.slice none 0 0)) := hr_0
  have HW0 : Hid (Below w.heap.size w W) := hb0
  go_wp2
  rw [← hW]
  clear hW hx_0 hy_0 hr_0 hb0
  go_loopw [5, 17] (fun fv i wr => ∃ (done todo : Tp) (m : ByteArray), Hid (done.app todo = k) ∧ i = .int .i64 (done.len : Int) ∧ Gath W wr (fun a => S a ∧ a < w.heap.size) (jn true done l) fv ∧ Hid (Fl m todo) ∧ Below W.heap.size W wr) (fun _ i _ => k.len - (intOf i).toNat)
  case atStart => exact ⟨.nil, k, e0, rfl, rfl, by rw [show jn true .nil l = .nil by rw [jn]]; exact Gath.nil _ _ _, HFk, Below.refl _ _⟩
  case round =>
    rename World => w3
    obtain ⟨done, todo, m, HD, rfl, hG, HT, hb3⟩ := hrel
    have hbw3 := kqt HW0.out hb3
    have hs3 : W.heap.size ≤ w3.heap.size := hb3.size
    cases todo with
    | nil =>
      have hd : done = k := by have := HD.out; rw [tp_app_nil] at this; exact this
      subst hd
      have i1 : ¬ (done.len : Int) < (done.len : Int) := by omega
      obtain ⟨q5, c5, rfl⟩ := hG.slice
      have hx_3 := HX0.out.up hb3
      have hy_3 := HY0.out.up hb3
      obtain ⟨b0, b1, b2, b3, b4⟩ := hy_3.cells
      go_wp2
      clear b0 b1 b2 b3 b4 hx_3 hy_3
      have HFm : Hid ((jn true done l).len + l.len + 1 ≤ 1000000) := by show _ ≤ _; rw [jn_len]; omega
      go_loopw [5, 68] (fun fv i wr => ∃ (d2 t2 : Tp) (m : ByteArray), Hid (d2.app t2 = l) ∧ i = .int .i64 (d2.len : Int) ∧ Gath W wr (fun a => S a ∧ a < w.heap.size) ((jn true done l).app (thoseF done d2)) fv ∧ Hid (Fl m t2) ∧ Below W.heap.size W wr) (fun _ i _ => l.len - (intOf i).toNat)
      case atStart => exact ⟨.nil, l, e0, rfl, rfl, by rw [show thoseF done .nil = .nil by rw [thoseF], tp_app_nil]; exact hG, HFl, hb3⟩
      case round =>
        rename World => w4
        obtain ⟨d2, t2, m2, HD2, rfl, hG2, HT2, hb4⟩ := hrel
        have hbw4 := kqt HW0.out hb4
        have hs4 : W.heap.size ≤ w4.heap.size := hb4.size
        cases t2 with
        | nil =>
          have hd2 : d2 = l := by have := HD2.out; rw [tp_app_nil] at this; exact this
          subst hd2
          have i2 : ¬ (d2.len : Int) < (d2.len : Int) := by omega
          obtain ⟨q6, c6, rfl⟩ := hG2.slice
          obtain ⟨ld, Sd, hO3, hR3, hSd, hSg3⟩ := hG2.ex
          have hlen : ((jn true done d2).app (thoseF done d2)).len ≤ 1000000 := by rw [tp_app_len]; have := those_len done d2; have := HFm.out; omega
          have hC := sortRow_any _ w4 _ ld Sd hO3 hR3 (fun g hg => (hSg3 g hg).2.2) hlen
          have HSd : Hid (∀ a, Sd a → a < w4.heap.size ∧ ((S a ∧ a < w.heap.size) ∨ W.heap.size ≤ a)) := hSd
          have HP : Hid (∀ t, (toL t).Perm (toL ((jn true done d2).app (thoseF done d2))) → t.len = ((jn true done d2).app (thoseF done d2)).len ∧ ((toL t).Pairwise (fun a b => ¬ cmpB b.1.s a.1.s < 0) → t = addF done d2 (jn true done d2))) := fun t h => ⟨by rw [← toL_len, h.length_eq, toL_len], fun h2 => sort_join HFk.out HFl.out h h2⟩
          obtain ⟨M, hM⟩ : ∃ M, M = ((jn true done d2).app (thoseF done d2)).len := ⟨_, rfl⟩
          have HG3 : Hid (∀ g, (Value.slice q6 M c6).ownBlock = some g → W.heap.size ≤ g ∧ g < w4.heap.size ∧ ¬ Sd g) := by rw [hM]; exact hSg3
          have hM1 : M ≤ 1000000 := by omega
          rw [← hM] at hC HP ⊢
          clear hO3 hR3 hSd hSg3 hG2 hlen hM
          go_wp2_with fail
          refine hC.mono ?_
          rintro _ w5 ⟨rfl, t', l', hp, hs, hO5, hR5, hg5⟩
          obtain ⟨ht1, ht2⟩ := HP.out t' hp
          have HT' : Hid (t' = addF done d2 (jn true done d2)) := ht2 hs
          have HL' : Hid (t'.len = M) := ht1
          have HO5 : Hid (w5.ownsRow 0 81 5 (.slice q6 M c6) t'.len l') := hO5
          have HR5 : Hid (RK w5 t' l' Sd) := hR5
          have hb5 : Below W.heap.size W w5 := hb4.trans ⟨hg5.os, hg5.tape, hg5.output, hg5.size, fun a ha => hg5.block a (Nat.lt_of_lt_of_le ha hb4.size) (fun e => by have := (HG3.out a e.symm).1; omega)⟩
          have hg5s := hg5.size
          clear hC hp hs ht1 ht2 hO5 hR5 hg5
          go_wp2_with fail
          refine (recOf_any q6 M c6 w5).mono ?_
          rintro _ w6 ⟨rfl, hb6⟩
          have hb06 := kqt hb5 hb6
          have hr_6 := HR0.out.up hb06
          obtain ⟨r0, r1, r2, r3, r4⟩ := hr_6.cells
          have fr := hr_6.free
          go_wp2
          obtain ⟨V, hV⟩ : ∃ V, V = ((((w6.setCell ⟨w.heap.size + 2, 0, none⟩ (.int .i64 46)).setCell ⟨w.heap.size + 2, 1, none⟩ (.int .i64 M)).setCell ⟨w.heap.size + 2, 2, none⟩ (.string ⟨#[]⟩)).setCell ⟨w.heap.size + 2, 3, none⟩ (.string ⟨#[]⟩)).setCell ⟨w.heap.size + 2, 4, none⟩ (.slice q6 M c6) := ⟨_, rfl⟩
          rw [← hV]
          obtain ⟨hPV, hKV⟩ := hr_6.put (x := ⟨46, M, ⟨#[]⟩, ⟨#[]⟩⟩) (u := .slice q6 M c6) hV
          obtain ⟨t0, t1, t2, t3, t4⟩ := hPV.cells
          have hbV : Below w.heap.size w6 V := hKV.below (by have := hr_6.lt; omega) (fun a e => by omega)
          have hbf : Below w.heap.size w V := (kqt HW0.out hb06).trans hbV
          refine bodyPost_ret (v := .agg #[.int .i64 46, .int .i64 M, .string ⟨#[]⟩, .string ⟨#[]⟩, .slice q6 M c6]) (by simp [results, Tryz.results130, go_sem, t0, t1, t2, t3, t4]) rfl ⟨⟨⟨46, t'.len, Go.Proofs.YtgkbegomekhpcaaGreatDoor.e0, Go.Proofs.YtgkbegomekhpcaaGreatDoor.e0⟩, t', q6, c6, by rw [HT'.out], by rw [HL'.out]; rfl, ⟨(by show (⟨#[]⟩ : ByteArray).size ≤ maxLen; unfold maxLen; decide), (by show (⟨#[]⟩ : ByteArray).size ≤ maxLen; unfold maxLen; decide), (by rw [HL'.out]; show (M : Int) ≤ _; omega)⟩, ?_⟩, hbf⟩
          rw [HL'.out]
          refine ⟨l', ownP_agree (ownP_agree HO5.out (fun g _ hl => hb6.block g hl)) (fun g hg hl => hKV.block g hl (fun e => by have := (HG3.out g hg).1; omega)), fun g hg => .inr (by have := (HG3.out g hg).1; omega), ?_⟩
          refine ((HR5.out.up hb6).agree (fun a ha hl => hKV.block a hl (fun e => ?_))).sub (fun a ha => ?_)
          · rcases (HSd.out a ha).2 with h | h
            · omega
            · omega
          · rcases (HSd.out a ha).2 with h | h
            · exact .inl h.1
            · exact .inr (by omega)
        | cons f kf r =>
          have hv4 : VK w4 l (.slice q2 l.len c2) (fun a => S a ∧ a < w.heap.size) := HU.out.up hbw4
          have hkl : l.len = d2.len + (r.len + 1) := by rw [← HD2.out, tp_app_len]; rfl
          have i2 : (d2.len : Int) < (l.len : Int) := by omega
          rw [← HD2.out] at hv4
          obtain ⟨g, cap, u, hu, hP, hfw, hvk, hSg⟩ := hv4.at
          rw [HD2.out, ← hkl] at hu
          cases hu
          obtain ⟨-, hT1, hFr⟩ := Fl.cons_iff.1 HT2.out
          obtain ⟨z, kz, rfl, hTz⟩ := hT1.of
          obtain ⟨gf, cf, uz, rfl, hPz, hzw, hvz⟩ := hvk.single
          have hgf : gf < w.heap.size := by
            obtain ⟨lk, h1, h2, _⟩ := hvk
            exact (h2 gf rfl).2
          obtain ⟨qz, cz, rfl, _⟩ := hvz.slice
          obtain ⟨p0, p1, p2, p3, p4⟩ := hP.cells
          have HDn : Hid ((d2.app (.cons f (.cons z kz .nil) .nil)).app r = l) := by show _ = _; rw [tp_app_assoc, ← HD2.out]; rfl
          have HKL : Hid (l.len = d2.len + (r.len + 1)) := hkl
          obtain ⟨W4, hW4⟩ : ∃ W4, W4 = w4.alloc (.cells #[.int .i64 f.op, .int .i64 f.n, .string f.s, .string f.t, .slice (some ⟨gf, 0, none⟩) 1 cf] 81) := ⟨_, rfl⟩
          have hb4' : Below w4.heap.size w4 W4 := by rw [hW4]; exact kqx
          have hB4 : PBk W4 w4.heap.size f (.slice (some ⟨gf, 0, none⟩) 1 cf) := by rw [hW4]; exact PBk.new w4 f _ rfl
          have hC := field_any x done f.s W4 _ _ ((HV.out.up hbw4).up hb4') HK1.out
          unfold partV at hC
          obtain ⟨b0, b1, b2, b3, b4⟩ := ((HX0.out.up hb4).up hb4').cells
          rw [hW4] at b0 b1 b2 b3 b4
          have HVz : Hid (VK w4 kz (.slice qz kz.len cz) (fun a => S a ∧ a < w.heap.size)) := hvz
          have HFr : Hid (Fl f.s r) := hFr
          obtain ⟨q6, c6, rfl⟩ := hG2.slice
          clear hv4 hP hkl hvk hvz hFr hT1
          cases hf : done.find f.s with
          | some pp =>
            obtain ⟨o, ko⟩ := pp
            rw [hf] at hC
            have HJ2 : Hid (thoseF done (d2.app (.cons f (.cons z kz .nil) .nil)) = thoseF done d2) := by show _ = _; rw [those_app]; simp [thoseF, hf, tp_app_nil]
            clear hf
            go_wp2_with fail
            rw [← hW4]
            refine hC.mono ?_
            rintro _ w5 ⟨⟨qo, co, rfl, how, hvo⟩, hb5⟩
            obtain ⟨V6, hV6⟩ : ∃ V6, V6 = w5.alloc (.cells #[.int .i64 o.op, .int .i64 o.n, .string o.s, .string o.t, .slice qo ko.len co] 81) := ⟨_, rfl⟩
            have hb36 : Below w4.heap.size w4 V6 := by rw [hV6]; exact kqA (kqt hb4' hb5)
            have hG6 := hG2.up hb36
            clear b0 b1 b2 b3 b4 p0 p1 p2 p3 p4 hC hvo
            obtain ⟨M, hM⟩ : ∃ M, M = ((jn true done l).app (thoseF done d2)).len := ⟨_, rfl⟩
            rw [← hM] at hG6 ⊢
            rw [← HJ2.out] at hG6
            clear hM
            go_wp2_with fail
            rw [← hV6]
            go_roundw
            case rel => exact ⟨d2.app (.cons f (.cons z kz .nil) .nil), r, f.s, HDn, by rw [tp_app_len]; simp only [Tp.len]; go_num, hG6, HFr, kqt hb4 hb36⟩
            case measure => have := HKL.out; simp [intOf]; omega
          | none =>
            rw [hf] at hC
            have HJ2 : Hid ((jn true done l).app (thoseF done (d2.app (.cons f (.cons z kz .nil) .nil))) = ((jn true done l).app (thoseF done d2)).app (.cons (fdN f.s 0) (.cons z kz .nil) .nil)) := by show _ = _; rw [those_app, tp_app_assoc]; simp [thoseF, hf]
            clear hf
            obtain ⟨ld, Sd, hO3, hR3, hSd, hSg3⟩ := hG2.ex
            have hFlen : ((jn true done l).app (thoseF done d2)).len + 1 ≤ 1000000 := by rw [tp_app_len]; have := those_len done d2; have := HFm.out; omega
            obtain ⟨M, hM⟩ : ∃ M, M = ((jn true done l).app (thoseF done d2)).len := ⟨_, rfl⟩
            have HM : Hid (M = ((jn true done l).app (thoseF done d2)).len) := hM
            have HG3 : Hid (∀ g, (Value.slice q6 M c6).ownBlock = some g → W.heap.size ≤ g ∧ g < w4.heap.size ∧ ¬ Sd g) := by rw [hM]; exact hSg3
            have HSd : Hid (∀ a, Sd a → a < w4.heap.size ∧ ((S a ∧ a < w.heap.size) ∨ W.heap.size ≤ a)) := hSd
            have HR3 : Hid (RK w4 ((jn true done l).app (thoseF done d2)) ld Sd) := hR3
            have HO3 : Hid (w4.ownsRow 0 81 5 (.slice q6 M c6) M ld) := by rw [hM]; exact hO3
            rw [← hM] at hFlen ⊢
            clear hO3 hR3 hSd hSg3 hG2 hM
            go_wp2_with fail
            rw [← hW4]
            refine hC.mono ?_
            rintro _ w5 ⟨rfl, hb5⟩
            obtain ⟨V6, hV6⟩ : ∃ V6, V6 = w5.alloc (.cells #[.int .i64 0, .int .i64 0, .string ⟨#[]⟩, .string ⟨#[]⟩, .slice none 0 0] 81) := ⟨_, rfl⟩
            have hb56 : Below w5.heap.size w5 V6 := by rw [hV6]; exact kqx
            have hb36 : Below w4.heap.size w4 V6 := kqt (kqt hb4' hb5) hb56
            have hB6 : PBk V6 w4.heap.size f (.slice (some ⟨gf, 0, none⟩) 1 cf) := (hB4.up hb5).up hb56
            have hPz6 := hPz.up hb36
            have hd6 : Below V6.heap.size V6 V6.drew := kqx
            have hS0 := HJ1.of (hB6.up hd6) (hPz6.up hd6)
            have hcall := fun W9 (h9 : Below V6.heap.size V6 W9) => fieldOf_any f.s 0 z kz W9 _ _ ((HVz.out.up hb36).up h9) hzw
            unfold partV at hcall
            have hgB : (Value.slice q6 M c6).ownBlock ≠ some gf := fun hg => by have := (HG3.out gf hg).1; omega
            have hgC : (Value.slice q6 M c6).ownBlock ≠ some w4.heap.size := fun hg => by have := (HG3.out _ hg).2.1; omega
            clear b0 b1 b2 b3 b4 p0 p1 p2 p3 p4 hC
            go_wp2_with fail
            rw [← hV6]
            clear hV6
            refine wp_region_held_drew (S := HJ1 w4.heap.size gf f z (.slice (some ⟨gf, 0, none⟩) 1 cf) (.slice qz kz.len cz)) (by kernel_rfl) hS0 (fun hHeld => ?_)
            refine wpAnyH_take (i := 0) (v := ?_) rfl (by kernel_rfl) (by kernel_rfl) (by kernel_rfl) (fun _ _ _ h => h) (Or.inl ⟨by rfl, ?_⟩) (by assumption) ?_
            rotate_left
            · intro w hSw
              go_simp
              all_goals with_reducible rfl
            try simp only [Act.put, List.setIfInBounds_toArray, List.set_cons_zero, List.set_cons_succ]
            refine wpAnyH_take (i := 1) (v := ?_) rfl (by kernel_rfl) (by kernel_rfl) (by kernel_rfl) (fun _ _ _ h => h) (Or.inl ⟨by rfl, ?_⟩) (by assumption) ?_
            rotate_left
            · intro w hSw
              go_simp
              all_goals with_reducible rfl
            try simp only [Act.put, List.setIfInBounds_toArray, List.set_cons_zero, List.set_cons_succ]
            refine wpAnyH_take (i := 2) (v := ?_) rfl (by kernel_rfl) (by kernel_rfl) (by kernel_rfl) (fun _ _ _ h => h) (Or.inl ⟨by rfl, ?_⟩) (by assumption) ?_
            rotate_left
            · intro w hSw
              go_simp
              all_goals with_reducible rfl
            try simp only [Act.put, List.setIfInBounds_toArray, List.set_cons_zero, List.set_cons_succ]
            refine wpAnyH_take (i := 3) (v := ?_) rfl (by kernel_rfl) (by kernel_rfl) (by kernel_rfl) (fun _ _ _ h => h) (Or.inl ⟨by rfl, ?_⟩) (by assumption) ?_
            rotate_left
            · intro w hSw
              go_simp
              all_goals with_reducible rfl
            try simp only [Act.put, List.setIfInBounds_toArray, List.set_cons_zero, List.set_cons_succ]
            refine wpAnyH_take (i := 4) (v := ?_) rfl (by kernel_rfl) (by kernel_rfl) (by kernel_rfl) (fun _ _ _ h => h) (Or.inl ⟨by rfl, ?_⟩) (by assumption) ?_
            rotate_left
            · intro w hSw
              go_simp
              all_goals with_reducible rfl
            try simp only [Act.put, List.setIfInBounds_toArray, List.set_cons_zero, List.set_cons_succ]
            refine wpAnyH_take (i := 5) (v := ?_) rfl (by kernel_rfl) (by kernel_rfl) (by kernel_rfl) (fun _ _ _ h => h) (Or.inl ⟨by rfl, ?_⟩) (by assumption) ?_
            rotate_left
            · intro w hSw
              go_simp
              all_goals with_reducible rfl
            try simp only [Act.put, List.setIfInBounds_toArray, List.set_cons_zero, List.set_cons_succ]
            refine wpAnyH_take (i := 6) (v := ?_) rfl (by kernel_rfl) (by kernel_rfl) (by kernel_rfl) (fun _ _ _ h => h) (Or.inl ⟨by rfl, ?_⟩) (by assumption) ?_
            rotate_left
            · intro w hSw
              go_simp
              all_goals with_reducible rfl
            try simp only [Act.put, List.setIfInBounds_toArray, List.set_cons_zero, List.set_cons_succ]
            refine wpAnyH_take (i := 7) (v := ?_) rfl (by kernel_rfl) (by kernel_rfl) (by kernel_rfl) (fun _ _ _ h => h) (Or.inl ⟨by rfl, ?_⟩) (by assumption) ?_
            rotate_left
            · intro w hSw
              go_simp
              all_goals with_reducible rfl
            try simp only [Act.put, List.setIfInBounds_toArray, List.set_cons_zero, List.set_cons_succ]
            refine wpAnyH_ready (rs := [8]) (by kernel_rfl) (by simp) ?_
            refine AllReadyH.cons rfl (fun K hK => ?_) AllReadyH.nil
            go_simp
            go_wp2_with fail
            refine (hcall _ hd6).mono ?_
            rintro _ w8 ⟨⟨q8, c8, rfl, hv8⟩, hb8⟩
            have hb68 : Below V6.heap.size V6 w8 := kqt hd6 hb8
            have hB8 := hB6.up hb68
            have hP8 := hPz6.up hb68
            have hO8 : w8.ownsRow 0 81 5 (.slice q6 M c6) M ld := ownP_agree HO3.out (fun g hg hl => (kqt hb36 hb68).block g hl)
            refine hK.out _ _ (HJ1.of hB8 hP8) (fun hHeld => ?_)
            clear hK K
            refine wpAnyH_ready (rs := [9]) (by kernel_rfl) (by simp) ?_
            refine AllReadyH.cons rfl (fun K hK => ?_) AllReadyH.nil
            go_simp
            refine hK.out _ _ (HJ1.of (hB8.up kqx) (hP8.up kqx)) (fun hHeld => ?_)
            clear hK K
            refine wpAnyH_ready (rs := [10]) (by kernel_rfl) (by simp) ?_
            refine AllReadyH.cons rfl (fun K hK => ?_) AllReadyH.nil
            rw [if_pos (by rfl)]
            refine wp_appendP w8 (.tmp 82) (.tmp 91) rfl rfl (.slice q6 M c6) M ld rfl hO8 (fdN f.s 0) (.slice q8 1 c8) rfl hFlen w8.heap.size rfl rfl ?_
            intro v9 w9 hO9 hg9 hat9
            obtain ⟨q9, c9, rfl⟩ := ownP_slice hO9
            refine hK.out _ _ (HJ1.of (hB8.grown hg9 hgC) (hP8.grown hg9 hgB)) (fun hHeld => ?_)
            clear hK K
            try simp only [Act.put, List.setIfInBounds_toArray, List.set_cons_zero, List.set_cons_succ]
            refine wpAnyH_take (i := 11) (v := ?_) rfl (by kernel_rfl) (by kernel_rfl) (by kernel_rfl) (fun _ _ _ h => h) (Or.inl ⟨by rfl, ?_⟩) (by assumption) ?_
            rotate_left
            · intro w hSw
              go_simp
              all_goals with_reducible rfl
            try simp only [Act.put, List.setIfInBounds_toArray, List.set_cons_zero, List.set_cons_succ]
            refine wpAnyH_done (by kernel_rfl) ?_ _
            have hs8 : w4.heap.size ≤ w8.heap.size := (kqt hb36 hb68).size
            have hG9 : Gath W w9 (fun a => S a ∧ a < w.heap.size) (((jn true done l).app (thoseF done d2)).app (.cons (fdN f.s 0) (.cons z kz .nil) .nil)) (.slice q9 (M + 1) c9) := Gath.more (w := w4) (fdwf hfw (.inl rfl)) (by rw [← HM.out]; exact hO8) (HR3.out.up (kqt hb36 hb68)) HSd.out HG3.out hs8 hs4 HS0.out ((hv8.sub (fun a h => h.elim .inl (fun h => .inr (by have := hb36.size; have : V6.drew.heap.size = V6.heap.size := rfl; omega))))) (by rw [← HM.out]; exact hO9) hg9 hat9
            rw [← HJ2.out] at hG9
            have hb9 : Below W.heap.size W w9 := by
              have h1 : Below W.heap.size W w8 := kqt hb4 (kqt hb36 hb68)
              exact h1.trans ⟨hg9.os, hg9.tape, hg9.output, hg9.size, fun a ha => hg9.block a (Nat.lt_of_lt_of_le ha h1.size) (fun e => by have := (HG3.out a e.symm).1; omega)⟩
            clear hHeld hB8 hP8 hO8 hv8 hO9 hcall
            go_wp2_with fail
            go_roundw
            case rel => exact ⟨d2.app (.cons f (.cons z kz .nil) .nil), r, f.s, HDn, by rw [tp_app_len]; simp only [Tp.len]; go_num, hG9, HFr, hb9⟩
            case measure => have := HKL.out; simp [intOf]; omega
    | cons f kf r =>
      have hv3 : VK w3 k (.slice q k.len c) (fun a => S a ∧ a < w.heap.size) := HV.out.up hbw3
      have hkl : k.len = done.len + (r.len + 1) := by rw [← HD.out, tp_app_len]; rfl
      have hkf : k.flat.length = done.flat.length + (kf.flat.length + r.flat.length + 1) := by rw [← HD.out, tp_app_flat]; simp [Tp.flat] <;> omega
      have i1 : (done.len : Int) < (k.len : Int) := by omega
      rw [← HD.out] at hv3
      obtain ⟨g, cap, u, hu, hP, hfw, hvk, hSg⟩ := hv3.at
      rw [HD.out, ← hkl] at hu
      cases hu
      obtain ⟨⟨-, hfn, -, -, -⟩, hT1, hFr⟩ := Fl.cons_iff.1 HT.out
      obtain ⟨z, kz, rfl, hTz⟩ := hT1.of
      obtain ⟨gf, cf, uz, rfl, hPz, hzw, hvz⟩ := hvk.single
      have hgf : gf < w.heap.size := by
        obtain ⟨lk, h1, h2, _⟩ := hvk
        exact (h2 gf rfl).2
      obtain ⟨qz, cz, rfl, _⟩ := hvz.slice
      obtain ⟨p0, p1, p2, p3, p4⟩ := hP.cells
      have HDn : Hid ((done.app (.cons f (.cons z kz .nil) .nil)).app r = k) := by show _ = _; rw [tp_app_assoc, ← HD.out]; rfl
      have HKL : Hid (k.len = done.len + (r.len + 1)) := hkl
      obtain ⟨W4, hW4⟩ : ∃ W4, W4 = w3.alloc (.cells #[.int .i64 f.op, .int .i64 f.n, .string f.s, .string f.t, .slice (some ⟨gf, 0, none⟩) 1 cf] 81) := ⟨_, rfl⟩
      have hb4 : Below w3.heap.size w3 W4 := by rw [hW4]; exact kqx
      have hB4 : PBk W4 w3.heap.size f (.slice (some ⟨gf, 0, none⟩) 1 cf) := by rw [hW4]; exact PBk.new w3 f _ rfl
      have hC := field_any y l f.s W4 _ _ ((HU.out.up hbw3).up hb4) HL1.out
      unfold partV at hC
      obtain ⟨b0, b1, b2, b3, b4⟩ := ((HY0.out.up hb3).up hb4).cells
      rw [hW4] at b0 b1 b2 b3 b4
      have HJX : Hid (jn true (done.app (.cons f (.cons z kz .nil) .nil)) l = (jn true done l).app (jn true (.cons f (.cons z kz .nil) .nil) l)) := jn_app _ _ _
      have HVz : Hid (VK w3 kz (.slice qz kz.len cz) (fun a => S a ∧ a < w.heap.size)) := hvz
      have HFr : Hid (Fl f.s r) := hFr
      obtain ⟨ld, Sd, hO3, hR3, hSd, hSg3⟩ := hG.ex
      have HG3 : Hid (∀ g, u5.ownBlock = some g → W.heap.size ≤ g ∧ g < w3.heap.size ∧ ¬ Sd g) := hSg3
      have HSd : Hid (∀ a, Sd a → a < w3.heap.size ∧ ((S a ∧ a < w.heap.size) ∨ W.heap.size ≤ a)) := hSd
      have HR3 : Hid (RK w3 (jn true done l) ld Sd) := hR3
      have HO3 : Hid (w3.ownsRow 0 81 5 u5 (jn true done l).len ld) := hO3
      have hFlen : (jn true done l).len + 1 ≤ 1000000 := by rw [jn_len]; omega
      obtain ⟨q5, c5, rfl⟩ := hG.slice
      obtain ⟨M, hM⟩ : ∃ M, M = (jn true done l).len := ⟨_, rfl⟩
      have HM : Hid (M = (jn true done l).len) := hM
      rw [← hM] at HO3 hFlen HG3 ⊢
      clear hv3 hP hkl hvk hvz hFr hT1 hO3 hR3 hSd hSg3 hG hM
      cases hf : l.find f.s with
      | none =>
        rw [hf] at hC
        have HJ2 : Hid (jn true (done.app (.cons f (.cons z kz .nil) .nil)) l = (jn true done l).app (.cons (fdN f.s 0) (.cons z kz .nil) .nil)) := by show _ = _; rw [HJX.out, jn_flds, hf]; simp [jn]
        clear hf HJX
        go_wp2_with fail
        rw [← hW4]
        refine hC.mono ?_
        rintro _ w5 ⟨rfl, hb5⟩
        obtain ⟨V6, hV6⟩ : ∃ V6, V6 = w5.alloc (.cells #[.int .i64 0, .int .i64 0, .string ⟨#[]⟩, .string ⟨#[]⟩, .slice none 0 0] 81) := ⟨_, rfl⟩
        have hb56 : Below w5.heap.size w5 V6 := by rw [hV6]; exact kqx
        have hb36 : Below w3.heap.size w3 V6 := kqt (kqt hb4 hb5) hb56
        have hB6 : PBk V6 w3.heap.size f (.slice (some ⟨gf, 0, none⟩) 1 cf) := (hB4.up hb5).up hb56
        have hPz6 := hPz.up hb36
        have hd6 : Below V6.heap.size V6 V6.drew := kqx
        have hS0 := HJ1.of (hB6.up hd6) (hPz6.up hd6)
        have hcall := fun W9 (h9 : Below V6.heap.size V6 W9) => fieldOf_any f.s 0 z kz W9 _ _ ((HVz.out.up hb36).up h9) hzw
        unfold partV at hcall
        have hgA : ∀ g, (Value.slice q5 M c5).ownBlock = some g → g < w3.heap.size := fun g hg => (HG3.out g hg).2.1
        have hgB : (Value.slice q5 M c5).ownBlock ≠ some gf := fun hg => by have := (HG3.out gf hg).1; omega
        have hgC : (Value.slice q5 M c5).ownBlock ≠ some w3.heap.size := fun hg => by have := (HG3.out _ hg).2.1; omega
        have HgA : Hid (∀ g, (Value.slice q5 M c5).ownBlock = some g → g < w3.heap.size) := hgA
        clear b0 b1 b2 b3 b4 p0 p1 p2 p3 p4 hC hgA
        go_wp2_with fail
        rw [← hV6]
        clear hV6
        refine wp_region_held_drew (S := HJ1 w3.heap.size gf f z (.slice (some ⟨gf, 0, none⟩) 1 cf) (.slice qz kz.len cz)) (by kernel_rfl) hS0 (fun hHeld => ?_)
        refine wpAnyH_take (i := 0) (v := ?_) rfl (by kernel_rfl) (by kernel_rfl) (by kernel_rfl) (fun _ _ _ h => h) (Or.inl ⟨by rfl, ?_⟩) (by assumption) ?_
        rotate_left
        · intro w hSw
          go_simp
          all_goals with_reducible rfl
        try simp only [Act.put, List.setIfInBounds_toArray, List.set_cons_zero, List.set_cons_succ]
        refine wpAnyH_take (i := 1) (v := ?_) rfl (by kernel_rfl) (by kernel_rfl) (by kernel_rfl) (fun _ _ _ h => h) (Or.inl ⟨by rfl, ?_⟩) (by assumption) ?_
        rotate_left
        · intro w hSw
          go_simp
          all_goals with_reducible rfl
        try simp only [Act.put, List.setIfInBounds_toArray, List.set_cons_zero, List.set_cons_succ]
        refine wpAnyH_take (i := 2) (v := ?_) rfl (by kernel_rfl) (by kernel_rfl) (by kernel_rfl) (fun _ _ _ h => h) (Or.inl ⟨by rfl, ?_⟩) (by assumption) ?_
        rotate_left
        · intro w hSw
          go_simp
          all_goals with_reducible rfl
        try simp only [Act.put, List.setIfInBounds_toArray, List.set_cons_zero, List.set_cons_succ]
        refine wpAnyH_take (i := 3) (v := ?_) rfl (by kernel_rfl) (by kernel_rfl) (by kernel_rfl) (fun _ _ _ h => h) (Or.inl ⟨by rfl, ?_⟩) (by assumption) ?_
        rotate_left
        · intro w hSw
          go_simp
          all_goals with_reducible rfl
        try simp only [Act.put, List.setIfInBounds_toArray, List.set_cons_zero, List.set_cons_succ]
        refine wpAnyH_take (i := 4) (v := ?_) rfl (by kernel_rfl) (by kernel_rfl) (by kernel_rfl) (fun _ _ _ h => h) (Or.inl ⟨by rfl, ?_⟩) (by assumption) ?_
        rotate_left
        · intro w hSw
          go_simp
          all_goals with_reducible rfl
        try simp only [Act.put, List.setIfInBounds_toArray, List.set_cons_zero, List.set_cons_succ]
        refine wpAnyH_take (i := 5) (v := ?_) rfl (by kernel_rfl) (by kernel_rfl) (by kernel_rfl) (fun _ _ _ h => h) (Or.inl ⟨by rfl, ?_⟩) (by assumption) ?_
        rotate_left
        · intro w hSw
          go_simp
          all_goals with_reducible rfl
        try simp only [Act.put, List.setIfInBounds_toArray, List.set_cons_zero, List.set_cons_succ]
        refine wpAnyH_take (i := 6) (v := ?_) rfl (by kernel_rfl) (by kernel_rfl) (by kernel_rfl) (fun _ _ _ h => h) (Or.inl ⟨by rfl, ?_⟩) (by assumption) ?_
        rotate_left
        · intro w hSw
          go_simp
          all_goals with_reducible rfl
        try simp only [Act.put, List.setIfInBounds_toArray, List.set_cons_zero, List.set_cons_succ]
        refine wpAnyH_take (i := 7) (v := ?_) rfl (by kernel_rfl) (by kernel_rfl) (by kernel_rfl) (fun _ _ _ h => h) (Or.inl ⟨by rfl, ?_⟩) (by assumption) ?_
        rotate_left
        · intro w hSw
          go_simp
          all_goals with_reducible rfl
        try simp only [Act.put, List.setIfInBounds_toArray, List.set_cons_zero, List.set_cons_succ]
        refine wpAnyH_ready (rs := [8]) (by kernel_rfl) (by simp) ?_
        refine AllReadyH.cons rfl (fun K hK => ?_) AllReadyH.nil
        go_simp
        go_wp2_with fail
        refine (hcall _ hd6).mono ?_
        rintro _ w8 ⟨⟨q8, c8, rfl, hv8⟩, hb8⟩
        have hb68 : Below V6.heap.size V6 w8 := kqt hd6 hb8
        have hB8 := hB6.up hb68
        have hP8 := hPz6.up hb68
        have hO8 : w8.ownsRow 0 81 5 (.slice q5 M c5) M ld := ownP_agree HO3.out (fun g hg hl => (kqt hb36 hb68).block g hl)
        refine hK.out _ _ (HJ1.of hB8 hP8) (fun hHeld => ?_)
        clear hK K
        refine wpAnyH_ready (rs := [9]) (by kernel_rfl) (by simp) ?_
        refine AllReadyH.cons rfl (fun K hK => ?_) AllReadyH.nil
        go_simp
        refine hK.out _ _ (HJ1.of (hB8.up kqx) (hP8.up kqx)) (fun hHeld => ?_)
        clear hK K
        refine wpAnyH_ready (rs := [10]) (by kernel_rfl) (by simp) ?_
        refine AllReadyH.cons rfl (fun K hK => ?_) AllReadyH.nil
        rw [if_pos (by rfl)]
        refine wp_appendP w8 (.tmp 53) (.tmp 62) rfl rfl (.slice q5 M c5) M ld rfl hO8 (fdN f.s 0) (.slice q8 1 c8) rfl hFlen w8.heap.size rfl rfl ?_
        intro v9 w9 hO9 hg9 hat9
        obtain ⟨q9, c9, rfl⟩ := ownP_slice hO9
        refine hK.out _ _ (HJ1.of (hB8.grown hg9 hgC) (hP8.grown hg9 hgB)) (fun hHeld => ?_)
        clear hK K
        try simp only [Act.put, List.setIfInBounds_toArray, List.set_cons_zero, List.set_cons_succ]
        refine wpAnyH_take (i := 11) (v := ?_) rfl (by kernel_rfl) (by kernel_rfl) (by kernel_rfl) (fun _ _ _ h => h) (Or.inl ⟨by rfl, ?_⟩) (by assumption) ?_
        rotate_left
        · intro w hSw
          go_simp
          all_goals with_reducible rfl
        try simp only [Act.put, List.setIfInBounds_toArray, List.set_cons_zero, List.set_cons_succ]
        refine wpAnyH_done (by kernel_rfl) ?_ _
        have hs8 : w3.heap.size ≤ w8.heap.size := (kqt hb36 hb68).size
        have hG9 : Gath W w9 (fun a => S a ∧ a < w.heap.size) ((jn true done l).app (.cons (fdN f.s 0) (.cons z kz .nil) .nil)) (.slice q9 (M + 1) c9) := Gath.more (w := w3) (fdwf hfw (.inl rfl)) (by rw [← HM.out]; exact hO8) (HR3.out.up (kqt hb36 hb68)) HSd.out HG3.out hs8 hs3 HS0.out ((hv8.sub (fun a h => h.elim .inl (fun h => .inr (by have := hb36.size; have : V6.drew.heap.size = V6.heap.size := rfl; omega))))) (by rw [← HM.out]; exact hO9) hg9 hat9
        rw [← HJ2.out] at hG9
        have hb9 : Below W.heap.size W w9 := by
          have h1 : Below W.heap.size W w8 := kqt hb3 (kqt hb36 hb68)
          exact h1.trans ⟨hg9.os, hg9.tape, hg9.output, hg9.size, fun a ha => hg9.block a (Nat.lt_of_lt_of_le ha h1.size) (fun e => by have := (HG3.out a e.symm).1; omega)⟩
        clear hHeld hB8 hP8 hO8 hv8 hO9 hcall
        go_wp2_with fail
        go_roundw
        case rel => exact ⟨done.app (.cons f (.cons z kz .nil) .nil), r, f.s, HDn, by rw [tp_app_len]; simp only [Tp.len]; go_num, hG9, HFr, hb9⟩
        case measure => have := HKL.out; simp [intOf]; omega
      | some pp =>
        obtain ⟨o, ko⟩ := pp
        obtain ⟨-, hon, -, -, hTo⟩ := HFl.out.find hf
        obtain ⟨z2, kz2, rfl, hTz2⟩ := hTo.of
        have hof := find_flat hf
        simp only [Tp.flat, List.append_nil, List.length_cons] at hof hkf
        rw [hf] at hC
        have HJ2 : Hid (jn true (done.app (.cons f (.cons z kz .nil) .nil)) l = (jn true done l).app (.cons (fdN f.s (if f.n = 1 ∧ o.n = 1 then 1 else 0)) (jn false (.cons z kz .nil) (.cons z2 kz2 .nil)) .nil)) := by show _ = _; rw [HJX.out, jn_flds, hf]; simp [jn]
        have HBC := fun W9 (h9 : Below w3.heap.size w3 W9) u2 (h2 : VK W9 kz2 u2 (fun a => S a ∧ a < w.heap.size)) (hw2 : z2.wf) => HIH.out z kz (by omega) z2 kz2 W9 _ u2 _ (HVz.out.up h9) h2 hzw hw2 hTz hTz2 (by have := HK1.out; omega) (by have := HL1.out; omega)
        clear hf HJX hTo hof hkf
        go_wp2_with fail
        rw [← hW4]
        refine hC.mono ?_
        rintro _ w5 ⟨⟨qo, co, rfl, how, hvo⟩, hb5⟩
        obtain ⟨go_, co2, uo, huo, hPo, hz2w, hvz2⟩ := hvo.single
        cases huo
        have hgo : go_ < w.heap.size := by
          obtain ⟨lk, h1, h2, _⟩ := hvo
          exact (h2 go_ rfl).2
        obtain ⟨qz2, cz2, rfl, _⟩ := hvz2.slice
        obtain ⟨V6, hV6⟩ : ∃ V6, V6 = w5.alloc (.cells #[.int .i64 o.op, .int .i64 o.n, .string o.s, .string o.t, .slice (some ⟨go_, 0, none⟩) 1 co] 81) := ⟨_, rfl⟩
        have hb56 : Below w5.heap.size w5 V6 := by rw [hV6]; exact kqx
        have hb36 : Below w3.heap.size w3 V6 := kqt (kqt hb4 hb5) hb56
        have hB6 : PBk V6 w3.heap.size f (.slice (some ⟨gf, 0, none⟩) 1 cf) := (hB4.up hb5).up hb56
        have hO6 : PBk V6 w5.heap.size o (.slice (some ⟨go_, 0, none⟩) 1 co) := by rw [hV6]; exact PBk.new w5 o _ rfl
        have hPz6 := hPz.up hb36
        have hPo6 := hPo.up hb56
        have hd6 : Below V6.heap.size V6 V6.drew := kqx
        have hcall := HBC V6.drew (kqt hb36 hd6) _ ((hvz2.up hb56).up hd6) hz2w
        unfold partV at hcall
        have hs35 : w3.heap.size ≤ w5.heap.size := (kqt hb4 hb5).size
        have hgA : ∀ g, (Value.slice q5 M c5).ownBlock = some g → g < w3.heap.size := fun g hg => (HG3.out g hg).2.1
        have hgB : (Value.slice q5 M c5).ownBlock ≠ some gf := fun hg => by have := (HG3.out gf hg).1; omega
        have hgC : (Value.slice q5 M c5).ownBlock ≠ some w3.heap.size := fun hg => by have := (HG3.out _ hg).2.1; omega
        have hgD : (Value.slice q5 M c5).ownBlock ≠ some go_ := fun hg => by have := (HG3.out go_ hg).1; omega
        have hgE : (Value.slice q5 M c5).ownBlock ≠ some w5.heap.size := fun hg => by have := (HG3.out _ hg).2.1; omega
        obtain ⟨fa, hfa⟩ : ∃ fa, fa = f.n := ⟨_, rfl⟩
        obtain ⟨fb, hfb⟩ : ∃ fb, fb = o.n := ⟨_, rfl⟩
        have HFA : Hid (f.n = fa) := hfa.symm
        have HFB : Hid (o.n = fb) := hfb.symm
        have hab : (fa = 0 ∧ fb = 0) ∨ (fa = 0 ∧ fb = 1) ∨ (fa = 1 ∧ fb = 0) ∨ (fa = 1 ∧ fb = 1) := by omega
        have HAB : Hid (bits BinOp.and IntKind.i64 fa fb = if f.n = 1 ∧ o.n = 1 then 1 else 0) := by show _ = _; rw [← hfa, ← hfb]; exact bits_and hab
        have HMU : Hid (bits BinOp.and IntKind.i64 fa fb = 0 ∨ bits BinOp.and IntKind.i64 fa fb = 1) := by show _ ∨ _; rw [bits_and hab]; split <;> simp
        have hS0 := HJ.of (hB6.up hd6) (hO6.up hd6) (hPz6.up hd6) (hPo6.up hd6) hfa.symm hfb.symm
        have HFA2 : Hid (f.n = 1 ∧ o.n = 1 ↔ fa = 1 ∧ fb = 1) := by show _ ↔ _; rw [hfa, hfb]
        clear b0 b1 b2 b3 b4 p0 p1 p2 p3 p4 hC hgA HBC hfa hfb hfn hon hab HFA2
        have hl1 : (Tp.cons z2 kz2 .nil).len = 1 := rfl
        go_wp2_with fail
        rw [← hV6]
        clear hV6
        refine wp_region_held_drew (S := HJ w3.heap.size w5.heap.size gf go_ _ _ f z z2 (.slice (some ⟨gf, 0, none⟩) 1 cf) (.slice (some ⟨go_, 0, none⟩) 1 co) (.slice qz kz.len cz) (.slice qz2 kz2.len cz2)) (by kernel_rfl) hS0 (fun hHeld => ?_)
        refine wpAnyH_take (i := 0) (v := ?_) rfl (by kernel_rfl) (by kernel_rfl) (by kernel_rfl) (fun _ _ _ h => h) (Or.inl ⟨by rfl, ?_⟩) (by assumption) ?_
        rotate_left
        · intro w hSw
          go_simp
          all_goals with_reducible rfl
        try simp only [Act.put, List.setIfInBounds_toArray, List.set_cons_zero, List.set_cons_succ]
        refine wpAnyH_take (i := 1) (v := ?_) rfl (by kernel_rfl) (by kernel_rfl) (by kernel_rfl) (fun _ _ _ h => h) (Or.inl ⟨by rfl, ?_⟩) (by assumption) ?_
        rotate_left
        · intro w hSw
          go_simp
          all_goals with_reducible rfl
        try simp only [Act.put, List.setIfInBounds_toArray, List.set_cons_zero, List.set_cons_succ]
        refine wpAnyH_take (i := 2) (v := ?_) rfl (by kernel_rfl) (by kernel_rfl) (by kernel_rfl) (fun _ _ _ h => h) (Or.inl ⟨by rfl, ?_⟩) (by assumption) ?_
        rotate_left
        · intro w hSw
          go_simp
          all_goals with_reducible rfl
        try simp only [Act.put, List.setIfInBounds_toArray, List.set_cons_zero, List.set_cons_succ]
        refine wpAnyH_take (i := 3) (v := ?_) rfl (by kernel_rfl) (by kernel_rfl) (by kernel_rfl) (fun _ _ _ h => h) (Or.inl ⟨by rfl, ?_⟩) (by assumption) ?_
        rotate_left
        · intro w hSw
          go_simp
          all_goals with_reducible rfl
        try simp only [Act.put, List.setIfInBounds_toArray, List.set_cons_zero, List.set_cons_succ]
        refine wpAnyH_take (i := 4) (v := ?_) rfl (by kernel_rfl) (by kernel_rfl) (by kernel_rfl) (fun _ _ _ h => h) (Or.inl ⟨by rfl, ?_⟩) (by assumption) ?_
        rotate_left
        · intro w hSw
          go_simp
          all_goals with_reducible rfl
        try simp only [Act.put, List.setIfInBounds_toArray, List.set_cons_zero, List.set_cons_succ]
        refine wpAnyH_take (i := 5) (v := ?_) rfl (by kernel_rfl) (by kernel_rfl) (by kernel_rfl) (fun _ _ _ h => h) (Or.inl ⟨by rfl, ?_⟩) (by assumption) ?_
        rotate_left
        · intro w hSw
          go_simp
          all_goals with_reducible rfl
        try simp only [Act.put, List.setIfInBounds_toArray, List.set_cons_zero, List.set_cons_succ]
        refine wpAnyH_take (i := 6) (v := ?_) rfl (by kernel_rfl) (by kernel_rfl) (by kernel_rfl) (fun _ _ _ h => h) (Or.inl ⟨by rfl, ?_⟩) (by assumption) ?_
        rotate_left
        · intro w hSw
          go_simp
          all_goals with_reducible rfl
        try simp only [Act.put, List.setIfInBounds_toArray, List.set_cons_zero, List.set_cons_succ]
        refine wpAnyH_take (i := 7) (v := ?_) rfl (by kernel_rfl) (by kernel_rfl) (by kernel_rfl) (fun _ _ _ h => h) (Or.inl ⟨by rfl, ?_⟩) (by assumption) ?_
        rotate_left
        · intro w hSw
          go_simp
          all_goals with_reducible rfl
        try simp only [Act.put, List.setIfInBounds_toArray, List.set_cons_zero, List.set_cons_succ]
        refine wpAnyH_take (i := 8) (v := ?_) rfl (by kernel_rfl) (by kernel_rfl) (by kernel_rfl) (fun _ _ _ h => h) (Or.inl ⟨by rfl, ?_⟩) (by assumption) ?_
        rotate_left
        · intro w hSw
          go_simp
          all_goals with_reducible rfl
        try simp only [Act.put, List.setIfInBounds_toArray, List.set_cons_zero, List.set_cons_succ]
        refine wpAnyH_take (i := 9) (v := ?_) rfl (by kernel_rfl) (by kernel_rfl) (by kernel_rfl) (fun _ _ _ h => h) (Or.inl ⟨by rfl, ?_⟩) (by assumption) ?_
        rotate_left
        · intro w hSw
          go_simp
          all_goals with_reducible rfl
        try simp only [Act.put, List.setIfInBounds_toArray, List.set_cons_zero, List.set_cons_succ]
        refine wpAnyH_take (i := 10) (v := ?_) rfl (by kernel_rfl) (by kernel_rfl) (by kernel_rfl) (fun _ _ _ h => h) (Or.inl ⟨by rfl, ?_⟩) (by assumption) ?_
        rotate_left
        · intro w hSw
          go_simp
          all_goals with_reducible rfl
        try simp only [Act.put, List.setIfInBounds_toArray, List.set_cons_zero, List.set_cons_succ]
        refine wpAnyH_take (i := 11) (v := ?_) rfl (by kernel_rfl) (by kernel_rfl) (by kernel_rfl) (fun _ _ _ h => h) (Or.inl ⟨by rfl, ?_⟩) (by assumption) ?_
        rotate_left
        · intro w hSw
          go_simp
          all_goals with_reducible rfl
        try simp only [Act.put, List.setIfInBounds_toArray, List.set_cons_zero, List.set_cons_succ]
        refine wpAnyH_take (i := 12) (v := ?_) rfl (by kernel_rfl) (by kernel_rfl) (by kernel_rfl) (fun _ _ _ h => h) (Or.inl ⟨by rfl, ?_⟩) (by assumption) ?_
        rotate_left
        · intro w hSw
          go_simp
          all_goals with_reducible rfl
        try simp only [Act.put, List.setIfInBounds_toArray, List.set_cons_zero, List.set_cons_succ]
        refine wpAnyH_take (i := 13) (v := ?_) rfl (by kernel_rfl) (by kernel_rfl) (by kernel_rfl) (fun _ _ _ h => h) (Or.inl ⟨by rfl, ?_⟩) (by assumption) ?_
        rotate_left
        · intro w hSw
          go_simp
          all_goals with_reducible rfl
        try simp only [Act.put, List.setIfInBounds_toArray, List.set_cons_zero, List.set_cons_succ]
        refine wpAnyH_take (i := 14) (v := ?_) rfl (by kernel_rfl) (by kernel_rfl) (by kernel_rfl) (fun _ _ _ h => h) (Or.inl ⟨by rfl, ?_⟩) (by assumption) ?_
        rotate_left
        · intro w hSw
          go_simp
          all_goals with_reducible rfl
        try simp only [Act.put, List.setIfInBounds_toArray, List.set_cons_zero, List.set_cons_succ]
        refine wpAnyH_take (i := 15) (v := ?_) rfl (by kernel_rfl) (by kernel_rfl) (by kernel_rfl) (fun _ _ _ h => h) (Or.inl ⟨by rfl, ?_⟩) (by assumption) ?_
        rotate_left
        · intro w hSw
          go_simp
          all_goals with_reducible rfl
        try simp only [Act.put, List.setIfInBounds_toArray, List.set_cons_zero, List.set_cons_succ]
        refine wpAnyH_take (i := 16) (v := ?_) rfl (by kernel_rfl) (by kernel_rfl) (by kernel_rfl) (fun _ _ _ h => h) (Or.inl ⟨by rfl, ?_⟩) (by assumption) ?_
        rotate_left
        · intro w hSw
          go_simp
          all_goals with_reducible rfl
        try simp only [Act.put, List.setIfInBounds_toArray, List.set_cons_zero, List.set_cons_succ]
        refine wpAnyH_take (i := 17) (v := ?_) rfl (by kernel_rfl) (by kernel_rfl) (by kernel_rfl) (fun _ _ _ h => h) (Or.inl ⟨by rfl, ?_⟩) (by assumption) ?_
        rotate_left
        · intro w hSw
          go_simp
          all_goals with_reducible rfl
        try simp only [Act.put, List.setIfInBounds_toArray, List.set_cons_zero, List.set_cons_succ]
        refine wpAnyH_take (i := 18) (v := ?_) rfl (by kernel_rfl) (by kernel_rfl) (by kernel_rfl) (fun _ _ _ h => h) (Or.inl ⟨by rfl, ?_⟩) (by assumption) ?_
        rotate_left
        · intro w hSw
          go_simp
          all_goals with_reducible rfl
        try simp only [Act.put, List.setIfInBounds_toArray, List.set_cons_zero, List.set_cons_succ]
        refine wpAnyH_ready (rs := [19]) (by kernel_rfl) (by simp) ?_
        refine AllReadyH.cons rfl (fun K hK => ?_) AllReadyH.nil
        go_simp
        go_wp2_with fail
        refine hcall.mono ?_
        rintro _ w7 ⟨⟨xj, kj, qj, cj, hjn, rfl, hxj, hvj⟩, hb7⟩
        have HJN : Hid (jn false (.cons z kz .nil) (.cons z2 kz2 .nil) = .cons xj kj .nil) := hjn
        clear hjn
        have hb67 : Below V6.heap.size V6 w7 := kqt hd6 hb7
        have hB7 := hB6.up hb67
        have hO7 := hO6.up hb67
        have hP7 := hPz6.up hb67
        have hQ7 := hPo6.up hb67
        refine hK.out _ _ (HJ.of hB7 hO7 hP7 hQ7 HFA.out HFB.out) (fun hHeld => ?_)
        clear hK K
        refine wpAnyH_ready (rs := [20]) (by kernel_rfl) (by simp) ?_
        refine AllReadyH.cons rfl (fun K hK => ?_) AllReadyH.nil
        go_simp
        go_wp2_with fail
        refine (fieldOf_any f.s (bits BinOp.and IntKind.i64 fa fb) xj kj w7 _ _ hvj hxj).mono ?_
        rintro _ w8 ⟨⟨q8, c8, rfl, hv8⟩, hb8⟩
        have hb68 : Below V6.heap.size V6 w8 := kqt hb67 hb8
        have hB8 := hB6.up hb68
        have hQ8 := hO6.up hb68
        have hP8 := hPz6.up hb68
        have hR8 := hPo6.up hb68
        have hO8 : w8.ownsRow 0 81 5 (.slice q5 M c5) M ld := ownP_agree HO3.out (fun g hg hl => (kqt hb36 hb68).block g hl)
        refine hK.out _ _ (HJ.of hB8 hQ8 hP8 hR8 HFA.out HFB.out) (fun hHeld => ?_)
        clear hK K
        refine wpAnyH_ready (rs := [21]) (by kernel_rfl) (by simp) ?_
        refine AllReadyH.cons rfl (fun K hK => ?_) AllReadyH.nil
        go_simp
        refine hK.out _ _ (HJ.of (hB8.up kqx) (hQ8.up kqx) (hP8.up kqx) (hR8.up kqx) HFA.out HFB.out) (fun hHeld => ?_)
        clear hK K
        refine wpAnyH_ready (rs := [22]) (by kernel_rfl) (by simp) ?_
        refine AllReadyH.cons rfl (fun K hK => ?_) AllReadyH.nil
        rw [if_pos (by rfl)]
        refine wp_appendP w8 (.tmp 30) (.tmp 51) rfl rfl (.slice q5 M c5) M ld rfl hO8 (fdN f.s (bits BinOp.and IntKind.i64 fa fb)) (.slice q8 1 c8) rfl hFlen w8.heap.size rfl rfl ?_
        intro v9 w9 hO9 hg9 hat9
        obtain ⟨q9, c9, rfl⟩ := ownP_slice hO9
        refine hK.out _ _ (HJ.of (hB8.grown hg9 hgC) (hQ8.grown hg9 hgE) (hP8.grown hg9 hgB) (hR8.grown hg9 hgD) HFA.out HFB.out) (fun hHeld => ?_)
        clear hK K
        try simp only [Act.put, List.setIfInBounds_toArray, List.set_cons_zero, List.set_cons_succ]
        refine wpAnyH_take (i := 23) (v := ?_) rfl (by kernel_rfl) (by kernel_rfl) (by kernel_rfl) (fun _ _ _ h => h) (Or.inl ⟨by rfl, ?_⟩) (by assumption) ?_
        rotate_left
        · intro w hSw
          go_simp
          all_goals with_reducible rfl
        try simp only [Act.put, List.setIfInBounds_toArray, List.set_cons_zero, List.set_cons_succ]
        refine wpAnyH_done (by kernel_rfl) ?_ _
        have hs8 : w3.heap.size ≤ w8.heap.size := (kqt hb36 hb68).size
        have hG9 : Gath W w9 (fun a => S a ∧ a < w.heap.size) ((jn true done l).app (.cons (fdN f.s (bits BinOp.and IntKind.i64 fa fb)) (.cons xj kj .nil) .nil)) (.slice q9 (M + 1) c9) := Gath.more (w := w3) (fdwf hfw HMU.out) (by rw [← HM.out]; exact hO8) (HR3.out.up (kqt hb36 hb68)) HSd.out HG3.out hs8 hs3 HS0.out ((hv8.sub (fun a h => h.elim (fun h => h.elim .inl (fun h => .inr (by have := hb36.size; have : V6.drew.heap.size = V6.heap.size := rfl; omega))) (fun h => .inr (by have := hb36.size; have := hb67.size; omega))))) (by rw [← HM.out]; exact hO9) hg9 hat9
        rw [HAB.out, ← HJN.out, ← HJ2.out] at hG9
        have hb9 : Below W.heap.size W w9 := by
          have h1 : Below W.heap.size W w8 := kqt hb3 (kqt hb36 hb68)
          exact h1.trans ⟨hg9.os, hg9.tape, hg9.output, hg9.size, fun a ha => hg9.block a (Nat.lt_of_lt_of_le ha h1.size) (fun e => by have := (HG3.out a e.symm).1; omega)⟩
        clear hHeld hB8 hP8 hO8 hv8 hO9 hcall hQ8 hR8
        go_wp2_with fail
        go_roundw
        case rel => exact ⟨done.app (.cons f (.cons z kz .nil) .nil), r, f.s, HDn, by rw [tp_app_len]; simp only [Tp.len]; go_num, hG9, HFr, hb9⟩
        case measure => have := HKL.out; simp [intOf]; omega
end Go.Proofs.YtgkbegomekhpcaaGreatDoor
namespace Go.Proofs.YtgkbegomekhpcaaGreatDoor
open Go.RowKit
set_option linter.unusedVariables false
set_option linter.unusedSectionVars false
set_option maxRecDepth 100000

/-- The start of join: both boxed, and the block of what is told. -/
structure JS (w W : World) (x y : Nd) (v u : Value) : Prop where
  bel : Below w.heap.size w W
  sz : W.heap.size = w.heap.size + 3
  bx : PBk W w.heap.size x v
  by_ : PBk W (w.heap.size + 1) y u
  br : PBk W (w.heap.size + 2) zN (.slice none 0 0)
theorem JS.new (w : World) (x y : Nd) (v u : Value) : JS w (((w.alloc (.cells #[.int .i64 x.op, .int .i64 x.n, .string x.s, .string x.t, v] 81)).alloc (.cells #[.int .i64 y.op, .int .i64 y.n, .string y.s, .string y.t, u] 81)).alloc (.cells #[.int .i64 0, .int .i64 0, .string ⟨#[]⟩, .string ⟨#[]⟩, .slice none 0 0] 81)) x y v u where
  bel := kqx
  sz := by simp
  bx := (PBk.new w x _ rfl).up kqx
  by_ := (PBk.new (w.alloc (.cells #[.int .i64 x.op, .int .i64 x.n, .string x.s, .string x.t, v] 81)) y _ (by simp)).up kqx
  br := PBk.new _ zN _ (by simp)
theorem lfwf (o : Int) : (lfN o).wf := ⟨(by show (⟨#[]⟩ : ByteArray).size ≤ maxLen; unfold maxLen; decide), (by show (⟨#[]⟩ : ByteArray).size ≤ maxLen; unfold maxLen; decide), (by show (0 : Int) ≤ _; omega)⟩
section
variable (x y : Nd) (k l : Tp) (w : World) (v u : Value) (S : Nat → Prop) (hv : VK w k v S) (hu : VK w l u S) (hxw : x.wf) (hyw : y.wf)
include hv hu hxw hyw
set_option maxHeartbeats 4000000 in
theorem join_first (h1 : x.op = 49) :
    Calls Tryz.prog 70 #[partV x v, partV y u] w fun e w' => JRet S w w' (.cons y l .nil) e ∧ Below w.heap.size w w' := by
  obtain ⟨q, c, rfl, _⟩ := hv.slice
  obtain ⟨q2, c2, rfl, _⟩ := hu.slice
  have HV : Hid (VK w k (.slice q k.len c) S) := hv
  have HU : Hid (VK w l (.slice q2 l.len c2) S) := hu
  have e1 : (x.op == 49) = true := by rw [h1]; rfl
  clear hv hu h1
  unfold partV
  go_enter Tryz.func70, Tryz.ntmps70
  go_wp2
  exact bodyPost_ret (v := .agg #[.int .i64 y.op, .int .i64 y.n, .string y.s, .string y.t, .slice q2 l.len c2]) (by simp [results, Tryz.results70, go_sem]) rfl ⟨⟨y, l, _, _, rfl, rfl, hyw, (HU.out.up kqx).sub (fun a h => .inl h)⟩, kqx⟩
set_option maxHeartbeats 4000000 in
theorem join_second (h1 : x.op ≠ 49) (h2 : y.op = 49) :
    Calls Tryz.prog 70 #[partV x v, partV y u] w fun e w' => JRet S w w' (.cons x k .nil) e ∧ Below w.heap.size w w' := by
  obtain ⟨q, c, rfl, _⟩ := hv.slice
  obtain ⟨q2, c2, rfl, _⟩ := hu.slice
  have HV : Hid (VK w k (.slice q k.len c) S) := hv
  have HU : Hid (VK w l (.slice q2 l.len c2) S) := hu
  have e1 : (x.op == 49) = false := by simp [h1]
  have e2 : (y.op == 49) = true := by rw [h2]; rfl
  clear hv hu h1 h2
  unfold partV
  go_enter Tryz.func70, Tryz.ntmps70
  go_wp2
  exact bodyPost_ret (v := .agg #[.int .i64 x.op, .int .i64 x.n, .string x.s, .string x.t, .slice q k.len c]) (by simp [results, Tryz.results70, go_sem]) rfl ⟨⟨x, k, _, _, rfl, rfl, hxw, (HV.out.up kqx).sub (fun a h => .inl h)⟩, kqx⟩
set_option maxHeartbeats 4000000 in
theorem join_same (h1 : x.op ≠ 49) (h5 : x.op ≠ 45) (h6 : x.op ≠ 46) (hxy : x = y) :
    Calls Tryz.prog 70 #[partV x v, partV y u] w fun e w' => JRet S w w' (.cons x k .nil) e ∧ Below w.heap.size w w' := by
  subst hxy
  obtain ⟨q, c, rfl, _⟩ := hv.slice
  obtain ⟨q2, c2, rfl, _⟩ := hu.slice
  have HV : Hid (VK w k (.slice q k.len c) S) := hv
  have HU : Hid (VK w l (.slice q2 l.len c2) S) := hu
  have e1 : (x.op == 49) = false := by simp [h1]
  have e2 : (x.op == 45) = false := by simp [h5]
  have e3 : (x.op == 46) = false := by simp [h6]
  clear hv hu h1 h5 h6
  unfold partV
  go_enter Tryz.func70, Tryz.ntmps70
  go_wp2
  exact bodyPost_ret (v := .agg #[.int .i64 x.op, .int .i64 x.n, .string x.s, .string x.t, .slice q k.len c]) (by simp [results, Tryz.results70, go_sem]) rfl ⟨⟨x, k, _, _, rfl, rfl, hxw, (HV.out.up kqx).sub (fun a h => .inl h)⟩, kqx⟩
set_option maxHeartbeats 4000000 in
theorem join_diff (h1 : x.op ≠ 49) (h2 : y.op ≠ 49) (h3 : x.op ≠ y.op) :
    Calls Tryz.prog 70 #[partV x v, partV y u] w fun e w' => JRet S w w' (.cons (lfN 48) .nil .nil) e ∧ Below w.heap.size w w' := by
  obtain ⟨q, c, rfl, _⟩ := hv.slice
  obtain ⟨q2, c2, rfl, _⟩ := hu.slice
  have HV : Hid (VK w k (.slice q k.len c) S) := hv
  have HU : Hid (VK w l (.slice q2 l.len c2) S) := hu
  obtain ⟨xo, xn, xs, xt⟩ := x
  obtain ⟨yo, yn, ys, yt⟩ := y
  dsimp only at h1 h2 h3
  have e1 : (xo == 49) = false := by simp [h1]
  have e2 : (yo == 49) = false := by simp [h2]
  have e5 : (xo == yo) = false := by simp [h3]
  have HLf := fun W => leaf_any 48 W
  unfold partV
  dsimp only
  have hw : (xo = 45 ∧ yo ≠ 45) ∨ (xo = 46 ∧ yo ≠ 46) ∨ (xo ≠ 45 ∧ xo ≠ 46) := by omega
  clear hv hu h1 h2 h3
  rcases hw with ⟨rfl, c⟩ | ⟨rfl, c⟩ | ⟨c, c'⟩
  · have e6 : (yo == 45) = false := by simp [c]
    clear c
    go_enter Tryz.func70, Tryz.ntmps70
    go_wp2_with fail
    refine (HLf _).mono ?_
    rintro _ w1 ⟨rfl, hb1⟩
    have hJ := JS.new w ⟨45, xn, xs, xt⟩ ⟨yo, yn, ys, yt⟩ (.slice q k.len c) (.slice q2 l.len c2)
    have hr_1 := hJ.br.up hb1
    have hb01 := kqt hJ.bel hb1
    obtain ⟨r0, r1, r2, r3, r4⟩ := hr_1.cells
    have fr := hr_1.free
    go_wp2
    obtain ⟨V, hV⟩ : ∃ V, V = ((((w1.setCell ⟨w.heap.size + 2, 0, none⟩ (.int .i64 48)).setCell ⟨w.heap.size + 2, 1, none⟩ (.int .i64 0)).setCell ⟨w.heap.size + 2, 2, none⟩ (.string ⟨#[]⟩)).setCell ⟨w.heap.size + 2, 3, none⟩ (.string ⟨#[]⟩)).setCell ⟨w.heap.size + 2, 4, none⟩ (.slice none 0 0) := ⟨_, rfl⟩
    rw [← hV]
    obtain ⟨hPV, hKV⟩ := hr_1.put (x := ⟨48, 0, ⟨#[]⟩, ⟨#[]⟩⟩) (u := .slice none 0 0) hV
    obtain ⟨t0, t1, t2, t3, t4⟩ := hPV.cells
    have hbV : Below w.heap.size w1 V := hKV.below (by have := hr_1.lt; omega) (fun a e => by omega)
    exact bodyPost_ret (v := .agg #[.int .i64 48, .int .i64 0, .string ⟨#[]⟩, .string ⟨#[]⟩, .slice none 0 0]) (by simp [results, Tryz.results70, go_sem, t0, t1, t2, t3, t4]) rfl ⟨⟨lfN 48, .nil, none, 0, rfl, rfl, lfwf 48, VK.nil _ _⟩, hb01.trans hbV⟩
  · have e6 : (yo == 46) = false := by simp [c]
    clear c
    go_enter Tryz.func70, Tryz.ntmps70
    go_wp2_with fail
    refine (HLf _).mono ?_
    rintro _ w1 ⟨rfl, hb1⟩
    have hJ := JS.new w ⟨46, xn, xs, xt⟩ ⟨yo, yn, ys, yt⟩ (.slice q k.len c) (.slice q2 l.len c2)
    have hr_1 := hJ.br.up hb1
    have hb01 := kqt hJ.bel hb1
    obtain ⟨r0, r1, r2, r3, r4⟩ := hr_1.cells
    have fr := hr_1.free
    go_wp2
    obtain ⟨V, hV⟩ : ∃ V, V = ((((w1.setCell ⟨w.heap.size + 2, 0, none⟩ (.int .i64 48)).setCell ⟨w.heap.size + 2, 1, none⟩ (.int .i64 0)).setCell ⟨w.heap.size + 2, 2, none⟩ (.string ⟨#[]⟩)).setCell ⟨w.heap.size + 2, 3, none⟩ (.string ⟨#[]⟩)).setCell ⟨w.heap.size + 2, 4, none⟩ (.slice none 0 0) := ⟨_, rfl⟩
    rw [← hV]
    obtain ⟨hPV, hKV⟩ := hr_1.put (x := ⟨48, 0, ⟨#[]⟩, ⟨#[]⟩⟩) (u := .slice none 0 0) hV
    obtain ⟨t0, t1, t2, t3, t4⟩ := hPV.cells
    have hbV : Below w.heap.size w1 V := hKV.below (by have := hr_1.lt; omega) (fun a e => by omega)
    exact bodyPost_ret (v := .agg #[.int .i64 48, .int .i64 0, .string ⟨#[]⟩, .string ⟨#[]⟩, .slice none 0 0]) (by simp [results, Tryz.results70, go_sem, t0, t1, t2, t3, t4]) rfl ⟨⟨lfN 48, .nil, none, 0, rfl, rfl, lfwf 48, VK.nil _ _⟩, hb01.trans hbV⟩
  · have e6 : (xo == 45) = false := by simp [c]
    have e7 : (xo == 46) = false := by simp [c']
    clear c c'
    go_enter Tryz.func70, Tryz.ntmps70
    go_wp2_with fail
    refine (HLf _).mono ?_
    rintro _ w1 ⟨rfl, hb1⟩
    have hJ := JS.new w ⟨xo, xn, xs, xt⟩ ⟨yo, yn, ys, yt⟩ (.slice q k.len c) (.slice q2 l.len c2)
    have hr_1 := hJ.br.up hb1
    have hb01 := kqt hJ.bel hb1
    obtain ⟨r0, r1, r2, r3, r4⟩ := hr_1.cells
    have fr := hr_1.free
    go_wp2
    obtain ⟨V, hV⟩ : ∃ V, V = ((((w1.setCell ⟨w.heap.size + 2, 0, none⟩ (.int .i64 48)).setCell ⟨w.heap.size + 2, 1, none⟩ (.int .i64 0)).setCell ⟨w.heap.size + 2, 2, none⟩ (.string ⟨#[]⟩)).setCell ⟨w.heap.size + 2, 3, none⟩ (.string ⟨#[]⟩)).setCell ⟨w.heap.size + 2, 4, none⟩ (.slice none 0 0) := ⟨_, rfl⟩
    rw [← hV]
    obtain ⟨hPV, hKV⟩ := hr_1.put (x := ⟨48, 0, ⟨#[]⟩, ⟨#[]⟩⟩) (u := .slice none 0 0) hV
    obtain ⟨t0, t1, t2, t3, t4⟩ := hPV.cells
    have hbV : Below w.heap.size w1 V := hKV.below (by have := hr_1.lt; omega) (fun a e => by omega)
    exact bodyPost_ret (v := .agg #[.int .i64 48, .int .i64 0, .string ⟨#[]⟩, .string ⟨#[]⟩, .slice none 0 0]) (by simp [results, Tryz.results70, go_sem, t0, t1, t2, t3, t4]) rfl ⟨⟨lfN 48, .nil, none, 0, rfl, rfl, lfwf 48, VK.nil _ _⟩, hb01.trans hbV⟩
set_option maxHeartbeats 4000000 in
theorem join_ents (s t : ByteArray) (hx : x = ⟨44, 0, s, e0⟩) (hy : y = ⟨44, 0, t, e0⟩) (h : s ≠ t) :
    Calls Tryz.prog 70 #[partV x v, partV y u] w fun e w' => JRet S w w' (.cons (lfN 48) .nil .nil) e ∧ Below w.heap.size w w' := by
  obtain ⟨q, c, rfl, _⟩ := hv.slice
  obtain ⟨q2, c2, rfl, _⟩ := hu.slice
  subst hx hy
  have h3 : ¬ s.toList = t.toList := fun e => h (bytes_inj (by simpa only [ByteArray.toList_eq] using e))
  have HLf := fun W => leaf_any 48 W
  clear hv hu h
  unfold partV e0
  dsimp only
  have : True := trivial
  · go_enter Tryz.func70, Tryz.ntmps70
    go_wp2_with fail
    refine (HLf _).mono ?_
    rintro _ w1 ⟨rfl, hb1⟩
    have hJ := JS.new w ⟨44, 0, s, ⟨#[]⟩⟩ ⟨44, 0, t, ⟨#[]⟩⟩ (.slice q k.len c) (.slice q2 l.len c2)
    have hr_1 := hJ.br.up hb1
    have hb01 := kqt hJ.bel hb1
    obtain ⟨r0, r1, r2, r3, r4⟩ := hr_1.cells
    have fr := hr_1.free
    go_wp2
    obtain ⟨V, hV⟩ : ∃ V, V = ((((w1.setCell ⟨w.heap.size + 2, 0, none⟩ (.int .i64 48)).setCell ⟨w.heap.size + 2, 1, none⟩ (.int .i64 0)).setCell ⟨w.heap.size + 2, 2, none⟩ (.string ⟨#[]⟩)).setCell ⟨w.heap.size + 2, 3, none⟩ (.string ⟨#[]⟩)).setCell ⟨w.heap.size + 2, 4, none⟩ (.slice none 0 0) := ⟨_, rfl⟩
    rw [← hV]
    obtain ⟨hPV, hKV⟩ := hr_1.put (x := ⟨48, 0, ⟨#[]⟩, ⟨#[]⟩⟩) (u := .slice none 0 0) hV
    obtain ⟨t0, t1, t2, t3, t4⟩ := hPV.cells
    have hbV : Below w.heap.size w1 V := hKV.below (by have := hr_1.lt; omega) (fun a e => by omega)
    exact bodyPost_ret (v := .agg #[.int .i64 48, .int .i64 0, .string ⟨#[]⟩, .string ⟨#[]⟩, .slice none 0 0]) (by simp [results, Tryz.results70, go_sem, t0, t1, t2, t3, t4]) rfl ⟨⟨lfN 48, .nil, none, 0, rfl, rfl, lfwf 48, VK.nil _ _⟩, hb01.trans hbV⟩
end
end Go.Proofs.YtgkbegomekhpcaaGreatDoor
namespace Go.Proofs.YtgkbegomekhpcaaGreatDoor
open Go.RowKit
set_option linter.unusedVariables false
set_option linter.unusedSectionVars false
set_option linter.unusedSimpArgs false
set_option maxRecDepth 100000

section
variable (x y : Nd) (k l : Tp) (w : World) (v u : Value) (S : Nat → Prop) (hv : VK w k v S) (hu : VK w l u S) (hxw : x.wf) (hyw : y.wf)
include hv hu hxw hyw
set_option maxHeartbeats 4000000 in
theorem join_set (ih : ∀ z kz, kz.flat.length < k.flat.length → JoinK z kz) (hx : x = lfN 45) (hy : y = lfN 45) (hk : T1 k) (hl : T1 l) (hk1 : k.flat.length ≤ 1000) (hl1 : l.flat.length ≤ 1000) :
    Calls Tryz.prog 70 #[partV x v, partV y u] w fun e w' => JRet S w w' (.cons (lfN 45) (jn false k l) .nil) e ∧ Below w.heap.size w w' := by
  obtain ⟨z, kz, rfl, hz⟩ := hk.of
  obtain ⟨z2, kz2, rfl, hz2⟩ := hl.of
  obtain ⟨g, cap, uz, rfl, hP, hzw, hvz⟩ := hv.single
  obtain ⟨g2, cap2, uz2, rfl, hP2, hzw2, hvz2⟩ := hu.single
  obtain ⟨qz, cz, rfl, _⟩ := hvz.slice
  obtain ⟨qz2, cz2, rfl, _⟩ := hvz2.slice
  simp only [Tp.flat, List.append_nil, List.length_cons] at ih hk1 hl1
  subst hx hy
  have hJ := JS.new w (lfN 45) (lfN 45) (.slice (some ⟨g, 0, none⟩) 1 cap) (.slice (some ⟨g2, 0, none⟩) 1 cap2)
  obtain ⟨W, hW⟩ : ∃ W, W = ((w.alloc (.cells #[.int .i64 45, .int .i64 0, .string ⟨#[]⟩, .string ⟨#[]⟩, .slice (some ⟨g, 0, none⟩) 1 cap] 81)).alloc (.cells #[.int .i64 45, .int .i64 0, .string ⟨#[]⟩, .string ⟨#[]⟩, .slice (some ⟨g2, 0, none⟩) 1 cap2] 81)).alloc (.cells #[.int .i64 0, .int .i64 0, .string ⟨#[]⟩, .string ⟨#[]⟩, .slice none 0 0] 81) := ⟨_, rfl⟩
  replace hJ : JS w W (lfN 45) (lfN 45) (.slice (some ⟨g, 0, none⟩) 1 cap) (.slice (some ⟨g2, 0, none⟩) 1 cap2) := by rw [hW]; exact hJ
  have HC := fun W9 (h9 : Below w.heap.size w W9) => ih z kz (by omega) z2 kz2 W9 _ _ (fun a => S a ∧ a < w.heap.size) (hvz.real.up h9) (hvz2.real.up h9) hzw hzw2 hz hz2 (by omega) (by omega)
  clear hv hu ih hk hl hk1 hl1 hz hz2
  unfold partV at *
  unfold lfN e0
  dsimp only
  go_enter Tryz.func70, Tryz.ntmps70
  go_wp2_with fail
  rw [← hW]
  clear hW
  have hd : Below W.heap.size W W.drew := kqx
  have hJx := hJ.bx.up hd
  have hJy := hJ.by_.up hd
  have hJr := hJ.br.up hd
  have hbd : Below w.heap.size w W.drew := kqt hJ.bel hd
  have hPd := hP.up hbd
  have hP2d := hP2.up hbd
  have hds : W.drew.heap.size = w.heap.size + 3 := hJ.sz
  refine wp_region_still_tail 8 (by kernel_rfl) (by kernel_rfl) ?_
  change wpStill _ _ W.drew (fun a' => wpList _ _ _ _ a' W.drew) _ _
  generalize W.drew = wd at *
  have d4 := hJx.cells.2.2.2.2
  have o4 := hJy.cells.2.2.2.2
  obtain ⟨a0, a1, a2, a3, a4⟩ := hPd.cells
  obtain ⟨f0, f1, f2, f3, f4⟩ := hP2d.cells
  dsimp only [Nat.zero_add, Nat.reduceAdd] at a0 a1 a2 a3 a4 f0 f1 f2 f3 f4
  simp only [List.take_succ_cons, List.take_zero, List.drop_succ_cons, List.drop_zero]
  repeat still_step
  refine wpStill_nil ?_
  go_wp2_with fail
  refine (HC wd hbd).mono ?_
  rintro _ w5 ⟨⟨xj, kj, qj, cj, hjn, rfl, hxj, hvj⟩, hb5⟩
  have HJN : Hid (jn false (.cons z kz .nil) (.cons z2 kz2 .nil) = .cons xj kj .nil) := hjn
  clear hjn HC a0 a1 a2 a3 a4 f0 f1 f2 f3 f4 d4 o4
  have hS := setOf_any xj kj w5 _ _ hvj hxj
  unfold partV at hS
  go_wp2_with fail
  refine hS.mono ?_
  rintro _ w6 ⟨⟨q6, c6, rfl, hv6⟩, hb6⟩
  have hb56 := kqt hb5 hb6
  have hr_6 := hJr.up hb56
  obtain ⟨r0, r1, r2, r3, r4⟩ := hr_6.cells
  have fr := hr_6.free
  have hb06 := kqt hbd hb56
  go_wp2
  obtain ⟨V, hV⟩ : ∃ V, V = ((((w6.setCell ⟨w.heap.size + 2, 0, none⟩ (.int .i64 45)).setCell ⟨w.heap.size + 2, 1, none⟩ (.int .i64 0)).setCell ⟨w.heap.size + 2, 2, none⟩ (.string ⟨#[]⟩)).setCell ⟨w.heap.size + 2, 3, none⟩ (.string ⟨#[]⟩)).setCell ⟨w.heap.size + 2, 4, none⟩ (.slice q6 1 c6) := ⟨_, rfl⟩
  rw [← hV]
  obtain ⟨hPV, hKV⟩ := hr_6.put (x := ⟨45, 0, ⟨#[]⟩, ⟨#[]⟩⟩) (u := .slice q6 1 c6) hV
  obtain ⟨t0, t1, t2, t3, t4⟩ := hPV.cells
  have hbV : Below w.heap.size w6 V := hKV.below (by have := hr_6.lt; omega) (fun a e => by omega)
  refine bodyPost_ret (v := .agg #[.int .i64 45, .int .i64 0, .string ⟨#[]⟩, .string ⟨#[]⟩, .slice q6 1 c6]) (by simp [results, Tryz.results70, go_sem, t0, t1, t2, t3, t4]) rfl ⟨⟨lfN 45, .cons xj kj .nil, q6, c6, by rw [HJN.out]; rfl, rfl, lfwf 45, ?_⟩, hb06.trans hbV⟩
  have hs5 : w.heap.size + 3 ≤ w5.heap.size := by have := hb5.size; omega
  exact (hv6.agree (fun a ha hl => hKV.block a hl (fun e => by
    rcases ha with (ha | ha) | ha
    · omega
    · omega
    · omega))).sub (fun a ha => by
    rcases ha with (ha | ha) | ha
    · exact .inl ha.1
    · exact .inr (by omega)
    · exact .inr (by omega))
set_option maxHeartbeats 4000000 in
theorem join_rcd (ih : ∀ z kz, kz.flat.length < k.flat.length → JoinK z kz) (m n : Int) (hx : x = ⟨46, m, e0, e0⟩) (hy : y = ⟨46, n, e0, e0⟩) (hk : Fl e0 k) (hl : Fl e0 l) (hk1 : k.flat.length ≤ 1000) (hl1 : l.flat.length ≤ 1000) :
    Calls Tryz.prog 70 #[partV x v, partV y u] w fun e w' => JRet S w w' (.cons ⟨46, (addF k l (jn true k l)).len, e0, e0⟩ (addF k l (jn true k l)) .nil) e ∧ Below w.heap.size w w' := by
  obtain ⟨q, c, rfl, _⟩ := hv.slice
  obtain ⟨q2, c2, rfl, _⟩ := hu.slice
  subst hx hy
  have hJ := JS.new w ⟨46, m, ⟨#[]⟩, ⟨#[]⟩⟩ ⟨46, n, ⟨#[]⟩, ⟨#[]⟩⟩ (.slice q k.len c) (.slice q2 l.len c2)
  obtain ⟨W, hW⟩ : ∃ W, W = ((w.alloc (.cells #[.int .i64 46, .int .i64 m, .string ⟨#[]⟩, .string ⟨#[]⟩, .slice q k.len c] 81)).alloc (.cells #[.int .i64 46, .int .i64 n, .string ⟨#[]⟩, .string ⟨#[]⟩, .slice q2 l.len c2] 81)).alloc (.cells #[.int .i64 0, .int .i64 0, .string ⟨#[]⟩, .string ⟨#[]⟩, .slice none 0 0] 81) := ⟨_, rfl⟩
  replace hJ : JS w W ⟨46, m, ⟨#[]⟩, ⟨#[]⟩⟩ ⟨46, n, ⟨#[]⟩, ⟨#[]⟩⟩ (.slice q k.len c) (.slice q2 l.len c2) := by rw [hW]; exact hJ
  have HC := joinFields_any ⟨46, m, ⟨#[]⟩, ⟨#[]⟩⟩ ⟨46, n, ⟨#[]⟩, ⟨#[]⟩⟩ k l ih W _ _ (fun a => S a ∧ a < w.heap.size) (hv.real.up hJ.bel) (hu.real.up hJ.bel) hk hl hk1 hl1
  clear hv hu ih hk hl hk1 hl1
  generalize addF k l (jn true k l) = T at *
  unfold partV at *
  unfold e0 at *
  dsimp only at *
  go_enter Tryz.func70, Tryz.ntmps70
  go_wp2_with fail
  rw [← hW]
  refine HC.mono ?_
  rintro _ w6 ⟨⟨xj, kj, qj, cj, hjn, rfl, hxj, hvj⟩, hb6⟩
  cases hjn
  have hr_6 := hJ.br.up hb6
  obtain ⟨r0, r1, r2, r3, r4⟩ := hr_6.cells
  have fr := hr_6.free
  have hb06 := kqt hJ.bel hb6
  have hWs := hJ.sz
  clear HC hW
  dsimp only at *
  go_wp2
  obtain ⟨V, hV⟩ : ∃ V, V = ((((w6.setCell ⟨w.heap.size + 2, 0, none⟩ (.int .i64 46)).setCell ⟨w.heap.size + 2, 1, none⟩ (.int .i64 T.len)).setCell ⟨w.heap.size + 2, 2, none⟩ (.string ⟨#[]⟩)).setCell ⟨w.heap.size + 2, 3, none⟩ (.string ⟨#[]⟩)).setCell ⟨w.heap.size + 2, 4, none⟩ (.slice qj T.len cj) := ⟨_, rfl⟩
  rw [← hV]
  obtain ⟨hPV, hKV⟩ := hr_6.put (x := ⟨46, T.len, ⟨#[]⟩, ⟨#[]⟩⟩) (u := .slice qj T.len cj) hV
  obtain ⟨t0, t1, t2, t3, t4⟩ := hPV.cells
  have hbV : Below w.heap.size w6 V := hKV.below (by have := hr_6.lt; omega) (fun a e => by omega)
  refine bodyPost_ret (v := .agg #[.int .i64 46, .int .i64 T.len, .string ⟨#[]⟩, .string ⟨#[]⟩, .slice qj T.len cj]) (by simp [results, Tryz.results70, go_sem, t0, t1, t2, t3, t4]) rfl ⟨⟨_, T, qj, cj, rfl, rfl, hxj, ?_⟩, hb06.trans hbV⟩
  exact (hvj.agree (fun a ha hl => hKV.block a hl (fun e => by
    rcases ha with ha | ha
    · omega
    · omega))).sub (fun a ha => by
    rcases ha with ha | ha
    · exact .inl ha.1
    · exact .inr (by omega))
end
theorem joinK_any : ∀ (N : Nat) (x : Nd) (k : Tp), k.flat.length < N → JoinK x k
  | 0, x, k, h => by omega
  | N + 1, x, k, h => by
    have ih : ∀ z kz, kz.flat.length < k.flat.length → JoinK z kz := fun z kz hz => joinK_any N z kz (by omega)
    intro y l w v u S hv hu hxw hyw hx hy hk1 hl1
    rw [jn_cons]
    by_cases h1 : x.op = 49
    · rw [if_pos h1]
      exact join_first x y k l w v u S hv hu hxw hyw h1
    rw [if_neg h1]
    by_cases h2 : y.op = 49
    · rw [if_pos h2]
      exact join_second x y k l w v u S hv hu hxw hyw h1 h2
    rw [if_neg h2]
    by_cases h5 : x.op = 45 ∧ y.op = 45
    · rw [if_pos h5]
      cases hx with
      | leaf o ho => have := h5.1; have e : (lfN o).op = o := rfl; omega
      | ent s h => have := h5.1; simp at this
      | rcd k h => have := h5.1; simp at this
      | set k hk =>
        cases hy with
        | leaf o ho => have := h5.2; have e : (lfN o).op = o := rfl; omega
        | ent s h => have := h5.2; simp at this
        | rcd k h => have := h5.2; simp at this
        | set l hl => exact join_set _ _ k l w v u S hv hu hxw hyw ih rfl rfl hk hl hk1 hl1
    rw [if_neg h5]
    by_cases h6 : x.op = 46 ∧ y.op = 46
    · rw [if_pos h6]
      cases hx with
      | leaf o ho => have := h6.1; have e : (lfN o).op = o := rfl; omega
      | ent s h => have := h6.1; simp at this
      | set k h => have := h6.1; simp [lfN] at this
      | rcd k hk =>
        cases hy with
        | leaf o ho => have := h6.2; have e : (lfN o).op = o := rfl; omega
        | ent s h => have := h6.2; simp at this
        | set k h => have := h6.2; simp [lfN] at this
        | rcd l hl => exact join_rcd _ _ k l w v u S hv hu hxw hyw ih _ _ rfl rfl hk hl hk1 hl1
    rw [if_neg h6]
    by_cases he : x = y
    · subst he
      rw [if_pos (ndEq_iff.2 rfl)]
      exact join_same x x k l w v u S hv hu hxw hyw h1 (fun e => h5 ⟨e, e⟩) (fun e => h6 ⟨e, e⟩) rfl
    · rw [if_neg (fun e => he (ndEq_iff.1 e))]
      by_cases hop : x.op = y.op
      · cases hx with
        | leaf o ho =>
          cases hy with
          | leaf o2 ho2 => exact absurd (by have e : o = o2 := hop; rw [e]) he
          | ent s h => have e : o = 44 := hop; omega
          | set k h => have e : o = 45 := hop; omega
          | rcd k h => have e : o = 46 := hop; omega
        | ent s hs =>
          cases hy with
          | leaf o2 ho2 => have e : 44 = o2 := hop; omega
          | ent t ht => exact join_ents _ _ _ _ w v u S hv hu hxw hyw s t rfl rfl (fun e => he (by rw [e]))
          | set k h => simp [lfN] at hop
          | rcd k h => simp at hop
        | set k hk => exact absurd ⟨rfl, hop.symm⟩ h5
        | rcd k hk => exact absurd ⟨rfl, hop.symm⟩ h6
      · exact join_diff x y k l w v u S hv hu hxw hyw h1 h2 hop
theorem joinK (x : Nd) (k : Tp) : JoinK x k := joinK_any _ x k (Nat.lt_succ_self _)
end Go.Proofs.YtgkbegomekhpcaaGreatDoor
namespace Go.Proofs.YtgkbegomekhpcaaGreatDoor
open Go.RowKit
set_option linter.unusedVariables false
set_option linter.unusedSectionVars false
set_option linter.unusedSimpArgs false
set_option maxRecDepth 100000

/-- How many nodes there are at most in what a value has of its own. -/
theorem jall_flat {N : Nat} : ∀ (t acc : Tp), isTy none t = true → T1 acc → (jall acc t).flat.length ≤ acc.flat.length + t.flat.length
  | .nil, acc, _, _ => by simp [jall, Tp.flat]
  | .cons x k r, acc, ht, ha => by
    obtain ⟨h1, h2⟩ := isTy_none_cons.1 ht
    have hx := T1.iff.2 h1
    have h3 := jall_flat (N := N) r _ h2 (ha.jn hx)
    have h4 := jn_flat acc _ (Nat.lt_succ_self _) ha hx
    rw [jall]
    simp [Tp.flat] at h4 ⊢
    omega
theorem ow_flat : ∀ (t : Tp), (okV none t → (ow false t).flat.length ≤ 2 * t.flat.length) ∧ (∀ m, okV (some m) t → (ow true t).flat.length ≤ 2 * t.flat.length)
  | .nil => ⟨fun _ => by simp [ow, Tp.flat], fun m _ => by simp [ow, Tp.flat]⟩
  | .cons y l r => by
    refine ⟨fun h => ?_, fun m h => ?_⟩
    · obtain ⟨⟨h7, hy, hl⟩, hr⟩ := okV.none_iff.1 h
      have r1 := (ow_flat r).1 hr
      rw [ow_cons]
      split
      · simp [Tp.flat]; omega
      split
      · simp [Tp.flat]; omega
      split
      · simp [Tp.flat]; omega
      split
      · simp [Tp.flat]; omega
      split
      · rename_i h5
        rcases hl with ⟨_, _, hk⟩ | ⟨h6, _⟩ | ⟨h6, _⟩
        · have l1 := (ow_flat l).1 hk
          have l2 := jall_flat (N := 0) (ow false l) (.cons (lfN 49) .nil .nil) ((ow_ok l).1 hk).1 T1.none
          simp [Tp.flat] at l2 ⊢
          omega
        · omega
        · exact absurd h5 h6
      · rename_i h5
        rcases hl with ⟨h5', _⟩ | ⟨_, _, hk⟩ | ⟨_, h6, rfl⟩
        · exact absurd h5' h5
        · have l1 := (ow_flat l).2 _ hk
          simp [Tp.flat]
          omega
        · simp [Tp.flat, ow]; omega
    · obtain ⟨_, ⟨_, hk⟩, hr⟩ := okV.some_iff.1 h
      have r1 := (ow_flat r).2 _ hr
      have l1 := (ow_flat l).1 hk
      rw [ow_flds]
      simp [Tp.flat]
      omega
theorem jall_app : ∀ (a b acc : Tp), jall acc (a.app b) = jall (jall acc a) b
  | .nil, b, acc => rfl
  | .cons x k r, b, acc => by simp only [Tp.app, jall]; exact jall_app r b _
theorem ow_app : ∀ (a b : Tp), ow false (a.app b) = (ow false a).app (ow false b)
  | .nil, b => by simp [ow, Tp.app]
  | .cons y l r, b => by
    simp only [Tp.app, ow_cons]
    rw [ow_app r b]
    repeat' split
    all_goals rfl
theorem owF_app : ∀ (a b : Tp), ow true (a.app b) = (ow true a).app (ow true b)
  | .nil, b => by simp [ow, Tp.app]
  | .cons y l r, b => by simp only [Tp.app, ow_flds]; rw [owF_app r b]
theorem okV_app : ∀ {a b : Tp}, okV none (a.app b) ↔ okV none a ∧ okV none b
  | .nil, b => by simp [Tp.app, okV]
  | .cons y l r, b => by simp only [Tp.app, okV.none_iff, okV_app (a := r) (b := b), and_assoc]
/-- What own does. -/
def OwnK (y : Nd) (l : Tp) : Prop := ∀ (w : World) (u : Value) (S : Nat → Prop), VK w l u S → y.wf → okV none (.cons y l .nil) → l.flat.length ≤ 300 →
  Calls Tryz.prog 31 #[partV y u] w fun e w' => JRet (fun _ => False) w w' (ow false (.cons y l .nil)) e ∧ Below w.heap.size w w'
section
variable (y : Nd) (l : Tp) (w : World) (u : Value) (S : Nat → Prop) (hu : VK w l u S) (hyw : y.wf)
include hu hyw
set_option maxHeartbeats 4000000 in
theorem own_leaf (o : Int) (ho : o = 1 ∨ o = 2 ∨ o = 3) (hy : y.op = o) :
    Calls Tryz.prog 31 #[partV y u] w fun e w' => JRet (fun _ => False) w w' (.cons (lfN (o + 40)) .nil .nil) e ∧ Below w.heap.size w w' := by
  obtain ⟨q, c, rfl, _⟩ := hu.slice
  obtain ⟨yo, yn, ys, yt⟩ := y
  dsimp only at hy
  subst hy
  have HLf := fun n W => leaf_any n W
  clear hu hyw
  unfold partV
  dsimp only
  obtain ⟨W, hW⟩ : ∃ W, W = (w.alloc (.cells #[.int .i64 yo, .int .i64 yn, .string ys, .string yt, .slice q l.len c] 81)).alloc (.cells #[.int .i64 0, .int .i64 0, .string ⟨#[]⟩, .string ⟨#[]⟩, .slice none 0 0] 81) := ⟨_, rfl⟩
  have hbW : Below w.heap.size w W := by rw [hW]; exact kqx
  have hrW : PBk W (w.heap.size + 1) zN (.slice none 0 0) := by rw [hW]; exact PBk.new _ zN _ (by simp)
  rcases ho with rfl | rfl | rfl
  · go_enter Tryz.func31, Tryz.ntmps31
    go_wp2_with fail
    rw [← hW]
    refine (HLf 41 W).mono ?_
    rintro _ w1 ⟨rfl, hb1⟩
    have hr_1 := hrW.up hb1
    obtain ⟨r0, r1, r2, r3, r4⟩ := hr_1.cells
    have fr := hr_1.free
    go_wp2
    obtain ⟨V, hV⟩ : ∃ V, V = ((((w1.setCell ⟨w.heap.size + 1, 0, none⟩ (.int .i64 41)).setCell ⟨w.heap.size + 1, 1, none⟩ (.int .i64 0)).setCell ⟨w.heap.size + 1, 2, none⟩ (.string ⟨#[]⟩)).setCell ⟨w.heap.size + 1, 3, none⟩ (.string ⟨#[]⟩)).setCell ⟨w.heap.size + 1, 4, none⟩ (.slice none 0 0) := ⟨_, rfl⟩
    rw [← hV]
    obtain ⟨hPV, hKV⟩ := hr_1.put (x := ⟨41, 0, ⟨#[]⟩, ⟨#[]⟩⟩) (u := .slice none 0 0) hV
    obtain ⟨t0, t1, t2, t3, t4⟩ := hPV.cells
    have hbV : Below w.heap.size w1 V := hKV.below (by have := hr_1.lt; omega) (fun a e => by omega)
    exact bodyPost_ret (v := .agg #[.int .i64 41, .int .i64 0, .string ⟨#[]⟩, .string ⟨#[]⟩, .slice none 0 0]) (by simp [results, Tryz.results31, go_sem, t0, t1, t2, t3, t4]) rfl ⟨⟨lfN 41, .nil, none, 0, rfl, rfl, lfwf 41, VK.nil _ _⟩, (kqt hbW hb1).trans hbV⟩
  · go_enter Tryz.func31, Tryz.ntmps31
    go_wp2_with fail
    rw [← hW]
    refine (HLf 42 W).mono ?_
    rintro _ w1 ⟨rfl, hb1⟩
    have hr_1 := hrW.up hb1
    obtain ⟨r0, r1, r2, r3, r4⟩ := hr_1.cells
    have fr := hr_1.free
    go_wp2
    obtain ⟨V, hV⟩ : ∃ V, V = ((((w1.setCell ⟨w.heap.size + 1, 0, none⟩ (.int .i64 42)).setCell ⟨w.heap.size + 1, 1, none⟩ (.int .i64 0)).setCell ⟨w.heap.size + 1, 2, none⟩ (.string ⟨#[]⟩)).setCell ⟨w.heap.size + 1, 3, none⟩ (.string ⟨#[]⟩)).setCell ⟨w.heap.size + 1, 4, none⟩ (.slice none 0 0) := ⟨_, rfl⟩
    rw [← hV]
    obtain ⟨hPV, hKV⟩ := hr_1.put (x := ⟨42, 0, ⟨#[]⟩, ⟨#[]⟩⟩) (u := .slice none 0 0) hV
    obtain ⟨t0, t1, t2, t3, t4⟩ := hPV.cells
    have hbV : Below w.heap.size w1 V := hKV.below (by have := hr_1.lt; omega) (fun a e => by omega)
    exact bodyPost_ret (v := .agg #[.int .i64 42, .int .i64 0, .string ⟨#[]⟩, .string ⟨#[]⟩, .slice none 0 0]) (by simp [results, Tryz.results31, go_sem, t0, t1, t2, t3, t4]) rfl ⟨⟨lfN 42, .nil, none, 0, rfl, rfl, lfwf 42, VK.nil _ _⟩, (kqt hbW hb1).trans hbV⟩
  · go_enter Tryz.func31, Tryz.ntmps31
    go_wp2_with fail
    rw [← hW]
    refine (HLf 43 W).mono ?_
    rintro _ w1 ⟨rfl, hb1⟩
    have hr_1 := hrW.up hb1
    obtain ⟨r0, r1, r2, r3, r4⟩ := hr_1.cells
    have fr := hr_1.free
    go_wp2
    obtain ⟨V, hV⟩ : ∃ V, V = ((((w1.setCell ⟨w.heap.size + 1, 0, none⟩ (.int .i64 43)).setCell ⟨w.heap.size + 1, 1, none⟩ (.int .i64 0)).setCell ⟨w.heap.size + 1, 2, none⟩ (.string ⟨#[]⟩)).setCell ⟨w.heap.size + 1, 3, none⟩ (.string ⟨#[]⟩)).setCell ⟨w.heap.size + 1, 4, none⟩ (.slice none 0 0) := ⟨_, rfl⟩
    rw [← hV]
    obtain ⟨hPV, hKV⟩ := hr_1.put (x := ⟨43, 0, ⟨#[]⟩, ⟨#[]⟩⟩) (u := .slice none 0 0) hV
    obtain ⟨t0, t1, t2, t3, t4⟩ := hPV.cells
    have hbV : Below w.heap.size w1 V := hKV.below (by have := hr_1.lt; omega) (fun a e => by omega)
    exact bodyPost_ret (v := .agg #[.int .i64 43, .int .i64 0, .string ⟨#[]⟩, .string ⟨#[]⟩, .slice none 0 0]) (by simp [results, Tryz.results31, go_sem, t0, t1, t2, t3, t4]) rfl ⟨⟨lfN 43, .nil, none, 0, rfl, rfl, lfwf 43, VK.nil _ _⟩, (kqt hbW hb1).trans hbV⟩
set_option maxHeartbeats 4000000 in
theorem own_ent (hy : y.op = 4) :
    Calls Tryz.prog 31 #[partV y u] w fun e w' => JRet (fun _ => False) w w' (.cons ⟨44, 0, y.s, e0⟩ .nil .nil) e ∧ Below w.heap.size w w' := by
  obtain ⟨q, c, rfl, _⟩ := hu.slice
  have HW : Hid ((⟨44, 0, y.s, e0⟩ : Nd).wf) := ⟨hyw.1, (by show (⟨#[]⟩ : ByteArray).size ≤ maxLen; unfold maxLen; decide), (by show (0 : Int) ≤ _; omega)⟩
  obtain ⟨yo, yn, ys, yt⟩ := y
  dsimp only at hy
  subst hy
  clear hu hyw
  unfold partV
  dsimp only at *
  go_enter Tryz.func31, Tryz.ntmps31
  go_wp2
  exact bodyPost_ret (v := .agg #[.int .i64 44, .int .i64 0, .string ys, .string ⟨#[]⟩, .slice none 0 0]) (by simp [results, Tryz.results31, go_sem]) rfl ⟨⟨⟨44, 0, ys, e0⟩, .nil, none, 0, rfl, rfl, HW.out, VK.nil _ _⟩, kqx⟩
set_option maxHeartbeats 4000000 in
theorem own_set (ih : ∀ z kz, kz.flat.length < l.flat.length → OwnK z kz) (hy : y.op = 5) (hl : okV none l) (hl1 : l.flat.length ≤ 300) :
    Calls Tryz.prog 31 #[partV y u] w fun e w' => JRet (fun _ => False) w w' (.cons (lfN 45) (jall (.cons (lfN 49) .nil .nil) (ow false l)) .nil) e ∧ Below w.heap.size w w' := by
  obtain ⟨q, c, rfl, _⟩ := hu.slice
  obtain ⟨yo, yn, ys, yt⟩ := y
  dsimp only at hy
  subst hy
  unfold partV
  dsimp only
  obtain ⟨W, hW⟩ : ∃ W, W = (w.alloc (.cells #[.int .i64 5, .int .i64 yn, .string ys, .string yt, .slice q l.len c] 81)).alloc (.cells #[.int .i64 0, .int .i64 0, .string ⟨#[]⟩, .string ⟨#[]⟩, .slice none 0 0] 81) := ⟨_, rfl⟩
  have hbW : Below w.heap.size w W := by rw [hW]; exact kqx
  have hrW : PBk W (w.heap.size + 1) zN (.slice none 0 0) := by rw [hW]; exact PBk.new _ zN _ (by simp)
  have hyW : PBk W w.heap.size ⟨5, yn, ys, yt⟩ (.slice q l.len c) := by rw [hW]; exact (PBk.new w ⟨5, yn, ys, yt⟩ _ rfl).up kqx
  have hWs : W.heap.size = w.heap.size + 2 := by rw [hW]; simp
  go_enter Tryz.func31, Tryz.ntmps31
  go_wp2_with fail
  rw [← hW]
  refine (leaf_any 49 W).mono ?_
  rintro _ w1 ⟨rfl, hb1⟩
  obtain ⟨V1, hV1⟩ : ∃ V1, V1 = w1.alloc (.cells #[.int .i64 49, .int .i64 0, .string ⟨#[]⟩, .string ⟨#[]⟩, .slice none 0 0] 81) := ⟨_, rfl⟩
  have hb11 : Below W.heap.size W V1 := by rw [hV1]; exact kqA hb1
  have hA1 : PBk V1 w1.heap.size (lfN 49) (.slice none 0 0) := by rw [hV1]; exact PBk.new w1 (lfN 49) _ rfl
  have c4 := (hyW.up hb11).cells.2.2.2.2
  rw [hV1] at c4
  have hs1 : w.heap.size + 2 ≤ w1.heap.size := by have := hb1.size; omega
  have hsB : W.heap.size ≤ w1.heap.size := hb1.size
  have HU : Hid (VK w l (.slice q l.len c) S) := hu
  have HIH : Hid (∀ z kz, kz.flat.length < l.flat.length → OwnK z kz) := ih
  have HL0 : Hid (okV none l) := hl
  have HL1 : Hid (l.flat.length ≤ 300) := hl1
  have hkb : l.len ≤ 1000 := by have := tp_len_flat l; omega
  have HRW : Hid (PBk W (w.heap.size + 1) zN (.slice none 0 0)) := hrW
  have HBW : Hid (Below w.heap.size w W) := hbW
  obtain ⟨B, hB⟩ : ∃ B, B = w1.heap.size := ⟨_, rfl⟩
  have hV1s : B < V1.heap.size := by rw [hV1, hB]; simp
  rw [← hB] at hA1 hs1 hsB
  go_wp2
  rw [← hV1, ← hB]
  clear hV1 hu ih hl hl1 hrW hbW hyW hW c4 hb1 hB
  go_loopw [34] (fun i wr => ∃ (done todo : Tp) (xa : Nd) (ka : Tp) (qa : Option Addr) (ca : Nat), Hid (done.app todo = l) ∧ i = .int .i64 (done.len : Int) ∧ Hid (jall (.cons (lfN 49) .nil .nil) (ow false done) = .cons xa ka .nil) ∧ xa.wf ∧ PBk wr B xa (.slice qa ka.len ca) ∧ Hid (VK wr ka (.slice qa ka.len ca) (fun a => W.heap.size ≤ a ∧ a ≠ B)) ∧ Below W.heap.size W wr ∧ B < wr.heap.size) (fun i _ => l.len - (intOf i).toNat)
  case atStart => exact ⟨.nil, l, lfN 49, .nil, none, 0, rfl, rfl, (by show _ = _; rw [show ow false .nil = .nil by rw [ow]]; rfl), lfwf 49, hA1, VK.nil _ _, hb11, hV1s⟩
  case round =>
    rename World => w3
    obtain ⟨done, todo, xa, ka, qa, ca, HD, rfl, HJ, hxa, hA3, HV3, hb3, hs3⟩ := hrel
    have hbw3 := kqt HBW.out hb3
    cases todo with
    | nil =>
      have hd : done = l := by have := HD.out; rw [tp_app_nil] at this; exact this
      subst hd
      have i1 : ¬ (done.len : Int) < (done.len : Int) := by omega
      obtain ⟨a0, a1, a2, a3, a4⟩ := hA3.cells
      have hS := setOf_any xa ka w3 _ _ HV3.out hxa
      unfold partV at hS
      go_wp2_with fail
      refine hS.mono ?_
      rintro _ w6 ⟨⟨q6, c6, rfl, hv6⟩, hb6⟩
      have hb06 := kqt hb3 hb6
      have hr_6 := HRW.out.up hb06
      obtain ⟨r0, r1, r2, r3, r4⟩ := hr_6.cells
      have fr := hr_6.free
      clear hS a0 a1 a2 a3 a4
      go_wp2
      obtain ⟨V, hV⟩ : ∃ V, V = ((((w6.setCell ⟨w.heap.size + 1, 0, none⟩ (.int .i64 45)).setCell ⟨w.heap.size + 1, 1, none⟩ (.int .i64 0)).setCell ⟨w.heap.size + 1, 2, none⟩ (.string ⟨#[]⟩)).setCell ⟨w.heap.size + 1, 3, none⟩ (.string ⟨#[]⟩)).setCell ⟨w.heap.size + 1, 4, none⟩ (.slice q6 1 c6) := ⟨_, rfl⟩
      rw [← hV]
      obtain ⟨hPV, hKV⟩ := hr_6.put (x := ⟨45, 0, ⟨#[]⟩, ⟨#[]⟩⟩) (u := .slice q6 1 c6) hV
      obtain ⟨t0, t1, t2, t3, t4⟩ := hPV.cells
      have hbV : Below w.heap.size w6 V := hKV.below (by have := hr_6.lt; omega) (fun a e => by omega)
      refine bodyPost_ret (v := .agg #[.int .i64 45, .int .i64 0, .string ⟨#[]⟩, .string ⟨#[]⟩, .slice q6 1 c6]) (by simp [results, Tryz.results31, go_sem, t0, t1, t2, t3, t4]) rfl ⟨⟨lfN 45, .cons xa ka .nil, q6, c6, by rw [HJ.out], rfl, lfwf 45, ?_⟩, (kqt HBW.out hb06).trans hbV⟩
      have hs36 : W.heap.size ≤ w3.heap.size := hb3.size
      exact (hv6.agree (fun a ha hl => hKV.block a hl (fun e => by
        rcases ha with ha | ha
        · omega
        · omega))).sub (fun a ha => by
        rcases ha with ha | ha
        · exact .inr (by omega)
        · exact .inr (by omega))
    | cons y ky r =>
      have hu3 : VK w3 l (.slice q l.len c) S := HU.out.up hbw3
      have hkl : l.len = done.len + (r.len + 1) := by rw [← HD.out, tp_app_len]; rfl
      have hkf : l.flat.length = done.flat.length + (ky.flat.length + r.flat.length + 1) := by rw [← HD.out, tp_app_flat]; simp [Tp.flat] <;> omega
      have i1 : (done.len : Int) < (l.len : Int) := by omega
      rw [← HD.out] at hu3
      obtain ⟨g, cap, u, hu, hP, hyw', hvk, hSg⟩ := hu3.at
      rw [HD.out, ← hkl] at hu
      cases hu
      obtain ⟨qu, cu, rfl, _⟩ := hvk.slice
      obtain ⟨p0, p1, p2, p3, p4⟩ := hP.cells
      have hok := okV_app.1 (by rw [HD.out]; exact HL0.out)
      obtain ⟨hy1, hr1⟩ := okV.none_iff.1 hok.2
      have hy2 : okV none (.cons y ky .nil) := okV.none_iff.2 ⟨hy1, okV.nil⟩
      obtain ⟨hT1, _⟩ := own_ok hy2
      have hdo := (ow_ok done).1 hok.1
      have hTa : T1 (.cons xa ka .nil) := by rw [← HJ.out]; exact (jall_ok T1.none (ow false done) _ hdo.1 T1.none).1
      have hfa : ka.flat.length ≤ 1000 := by
        have h1 := jall_flat (N := 0) (ow false done) (.cons (lfN 49) .nil .nil) hdo.1 T1.none
        have h2 := (ow_flat done).1 hok.1
        rw [HJ.out] at h1
        simp [Tp.flat] at h1
        have := HL1.out
        omega
      have hfo := (ow_flat (.cons y ky .nil)).1 hy2
      have HDn : Hid ((done.app (.cons y ky .nil)).app r = l) := by show _ = _; rw [tp_app_assoc, ← HD.out]; rfl
      have HKL : Hid (l.len = done.len + (r.len + 1)) := hkl
      have HOW : Hid (ow false (done.app (.cons y ky .nil)) = (ow false done).app (ow false (.cons y ky .nil))) := ow_app _ _
      obtain ⟨W4, hW4⟩ : ∃ W4, W4 = w3.alloc (.cells #[.int .i64 y.op, .int .i64 y.n, .string y.s, .string y.t, .slice qu ky.len cu] 81) := ⟨_, rfl⟩
      have hb4 : Below w3.heap.size w3 W4 := by rw [hW4]; exact kqx
      have hd4 : Below W4.heap.size W4 W4.drew := kqx
      have hb4d := kqt hb4 hd4
      have hs4 : w3.heap.size < W4.drew.heap.size := by rw [hW4]; simp [World.drew]
      have hY4 : PBk W4.drew w3.heap.size y (.slice qu ky.len cu) := by rw [hW4]; exact (PBk.new w3 y _ rfl).up kqx
      have hA4 := hA3.up hb4d
      have hO := HIH.out y ky (by omega) W4.drew _ S (hvk.up hb4d) hyw' hy2 (by have := HL1.out; omega)
      have hJn := fun (xo : Nd) (ko : Tp) (hR : ow false (.cons y ky .nil) = .cons xo ko .nil) w5 (h5 : Below w3.heap.size w3 w5) u5 (h6 : VK w5 ko u5 (fun a => W.heap.size ≤ a ∧ a ≠ B)) (hxo : xo.wf) => joinK xa ka xo ko w5 _ u5 _ (HV3.out.up h5) h6 hxa hxo (T1.iff.1 hTa) (T1.iff.1 (by rw [← hR]; exact hT1)) hfa (by rw [hR] at hfo; simp [Tp.flat] at hfo; have := HL1.out; omega)
      have HJn : Hid (∀ (xo : Nd) (ko : Tp) (hR : ow false (.cons y ky .nil) = .cons xo ko .nil) w5 (h5 : Below w3.heap.size w3 w5) u5 (h6 : VK w5 ko u5 (fun a => W.heap.size ≤ a ∧ a ≠ B)) (hxo : xo.wf), _) := hJn
      unfold partV at hO
      obtain ⟨a0, a1, a2, a3, a4⟩ := hA4.cells
      obtain ⟨y0, y1, y2, y3, y4⟩ := hY4.cells
      have hsW : W.heap.size ≤ w3.heap.size := hb3.size
      clear hu3 hP hkl hvk hkf hok hy1 hr1 hy2 hT1 hdo hTa hfa hfo hJn
      go_wp2_with fail
      rw [← hW4]
      clear hW4 p0 p1 p2 p3 p4
      go_region_with (first
        | (go_at_call 31
           refine hO.mono ?_
           rintro _ w5 ⟨⟨xo, ko, qo, co, hRo, rfl, hxo, hvo⟩, hb5⟩
           have HRo : Hid (ow false (.cons y ky .nil) = .cons xo ko .nil) := hRo
           have hb35 := kqt hb4d hb5
           have hJ5 := HJn.out xo ko hRo w5 hb35 _ (hvo.sub (fun a h => h.elim (fun h => h.elim) (fun h => ⟨by omega, by omega⟩))) hxo
           unfold partV at hJ5
           clear hRo
           have hA5 := hA4.up hb5
           obtain ⟨e0', e1', e2', e3', e4'⟩ := hA5.cells)
        | (go_at_call 70
           refine hJ5.mono ?_
           rintro _ w6 ⟨⟨xj, kj, qj, cj, hRj, rfl, hxj, hvj⟩, hb6⟩
           have HRj : Hid (jn false (.cons xa ka .nil) (.cons xo ko .nil) = .cons xj kj .nil) := hRj
           clear hRj
           have hA6 := hA5.up hb6
           obtain ⟨g0, g1, g2, g3, g4⟩ := hA6.cells
           have fg := hA6.free))
      all_goals
        obtain ⟨V7, hV7⟩ : ∃ V7, V7 = ((((w6.setCell ⟨B, 0, none⟩ (.int .i64 xj.op)).setCell ⟨B, 1, none⟩ (.int .i64 xj.n)).setCell ⟨B, 2, none⟩ (.string xj.s)).setCell ⟨B, 3, none⟩ (.string xj.t)).setCell ⟨B, 4, none⟩ (.slice qj kj.len cj) := ⟨_, rfl⟩
        rw [← hV7]
        obtain ⟨hA7, hK7⟩ := hA6.put hV7
        have hs5 : w3.heap.size ≤ w5.heap.size := hb35.size
        have HV7 : Hid (VK V7 kj (.slice qj kj.len cj) (fun a => W.heap.size ≤ a ∧ a ≠ B)) := (hvj.agree (fun a ha hl => hK7.block a hl (fun e => by
          rcases ha with ha | ha
          · exact ha.2 e
          · omega))).sub (fun a ha => by
          rcases ha with ha | ha
          · exact ha
          · exact ⟨by omega, by omega⟩)
        have HJ7 : Hid (jall (.cons (lfN 49) .nil .nil) (ow false (done.app (.cons y ky .nil))) = .cons xj kj .nil) := by
          show _ = _
          rw [HOW.out, jall_app, HJ.out, HRo.out]
          simp only [jall]
          exact HRj.out
        have hb7 : Below W.heap.size W V7 := (kqt hb3 (kqt hb35 hb6)).trans (hK7.below (by have := (kqt hb3 (kqt hb35 hb6)).size; omega) (fun a e => by have := hb11.size; omega))
        have hs7 : B < V7.heap.size := hA7.lt
        clear hO hJ5 hvj hvo hV7 hK7 hA6 hA5 hA4 hY4 g0 g1 g2 g3 g4 fg e0' e1' e2' e3' e4' a0 a1 a2 a3 a4 y0 y1 y2 y3 y4 HJn
        go_wp2_with fail
        go_roundw
        case rel => exact ⟨done.app (.cons y ky .nil), r, xj, kj, qj, cj, HDn, by rw [tp_app_len]; simp only [Tp.len]; go_num, HJ7, hxj, hA7, HV7, hb7, hs7⟩
        case measure => have := HKL.out; simp [intOf]; omega
end
end Go.Proofs.YtgkbegomekhpcaaGreatDoor
namespace Go.Proofs.YtgkbegomekhpcaaGreatDoor
open Go.RowKit
set_option linter.unusedVariables false
set_option linter.unusedSectionVars false
set_option linter.unusedSimpArgs false
set_option maxRecDepth 100000

theorem owT_len : ∀ a : Tp, (ow true a).len = a.len
  | .nil => by simp [ow]
  | .cons f kf r => by rw [ow_flds]; simp [Tp.len, owT_len r]
theorem okF_app : ∀ {a b : Tp} {m : ByteArray}, okV (some m) (a.app b) → ∃ m', okV (some m') b
  | .nil, b, m, h => ⟨m, h⟩
  | .cons y l r, b, m, h => okF_app (okV.some_iff.1 h).2.2
section
variable (y : Nd) (l : Tp) (w : World) (u : Value) (S : Nat → Prop) (hu : VK w l u S) (hyw : y.wf)
include hu hyw
set_option maxHeartbeats 4000000 in
theorem own_rcd (ih : ∀ z kz, kz.flat.length < l.flat.length → OwnK z kz) (hy : y.op = 6) (hl : okV (some e0) l) (hl1 : l.flat.length ≤ 300) :
    Calls Tryz.prog 31 #[partV y u] w fun e w' => JRet (fun _ => False) w w' (.cons ⟨46, (ow true l).len, e0, e0⟩ (ow true l) .nil) e ∧ Below w.heap.size w w' := by
  obtain ⟨q, c, rfl, _⟩ := hu.slice
  obtain ⟨yo, yn, ys, yt⟩ := y
  dsimp only at hy
  subst hy
  unfold partV
  dsimp only
  obtain ⟨W, hW⟩ : ∃ W, W = (w.alloc (.cells #[.int .i64 6, .int .i64 yn, .string ys, .string yt, .slice q l.len c] 81)).alloc (.cells #[.int .i64 0, .int .i64 0, .string ⟨#[]⟩, .string ⟨#[]⟩, .slice none 0 0] 81) := ⟨_, rfl⟩
  have hbW : Below w.heap.size w W := by rw [hW]; exact kqx
  have hrW : PBk W (w.heap.size + 1) zN (.slice none 0 0) := by rw [hW]; exact PBk.new _ zN _ (by simp)
  have hWs : W.heap.size = w.heap.size + 2 := by rw [hW]; simp
  have HU : Hid (VK w l (.slice q l.len c) (fun a => S a ∧ a < w.heap.size)) := hu.real
  have HIH : Hid (∀ z kz, kz.flat.length < l.flat.length → OwnK z kz) := ih
  have HL0 : Hid (okV (some e0) l) := hl
  have HL1 : Hid (l.flat.length ≤ 300) := hl1
  have hkb : l.len ≤ 1000 := by have := tp_len_flat l; omega
  have HRW : Hid (PBk W (w.heap.size + 1) zN (.slice none 0 0)) := hrW
  have HBW : Hid (Below w.heap.size w W) := hbW
  clear hu ih hl hl1 hrW hbW
  go_enter Tryz.func31, Tryz.ntmps31
  go_wp2
  rw [← hW]
  clear hW
  go_loopw [6, 48] (fun fv i wr => ∃ (done todo : Tp) (m : ByteArray), Hid (done.app todo = l) ∧ i = .int .i64 (done.len : Int) ∧ Gath W wr (fun _ => False) (ow true done) fv ∧ Hid (okV (some m) todo) ∧ Below W.heap.size W wr) (fun _ i _ => l.len - (intOf i).toNat)
  case atStart => exact ⟨.nil, l, e0, rfl, rfl, by rw [show ow true .nil = .nil by rw [ow]]; exact Gath.nil _ _ _, HL0, Below.refl _ _⟩
  case round =>
    rename World => w3
    obtain ⟨done, todo, m, HD, rfl, hG, HT, hb3⟩ := hrel
    have hbw3 := kqt HBW.out hb3
    have hs3 : W.heap.size ≤ w3.heap.size := hb3.size
    cases todo with
    | nil =>
      have hd : done = l := by have := HD.out; rw [tp_app_nil] at this; exact this
      subst hd
      have i1 : ¬ (done.len : Int) < (done.len : Int) := by omega
      obtain ⟨q6, c6, rfl⟩ := hG.slice
      obtain ⟨ld, Sd, hO3, hR3, hSd, hSg3⟩ := hG.ex
      have HT' : Hid ((ow true done).len ≤ 1000) := by show _ ≤ _; rw [owT_len]; omega
      have HSd : Hid (∀ a, Sd a → W.heap.size ≤ a) := fun a h => (hSd a h).2.elim (fun e => e.elim) id
      obtain ⟨M, hM⟩ : ∃ M, M = (ow true done).len := ⟨_, rfl⟩
      have HM : Hid (M = (ow true done).len) := hM
      have HO3 : Hid (w3.ownsRow 0 81 5 (.slice q6 M c6) (ow true done).len ld) := by rw [hM]; exact hO3
      have HG3 : Hid (∀ g, (Value.slice q6 M c6).ownBlock = some g → W.heap.size ≤ g) := by rw [hM]; exact fun g hg => (hSg3 g hg).1
      have HR3 : Hid (RK w3 (ow true done) ld Sd) := hR3
      rw [← hM]
      clear hO3 hR3 hSd hSg3 hG hM
      go_wp2_with fail
      refine (recOf_any q6 M c6 w3).mono ?_
      rintro _ w6 ⟨rfl, hb6⟩
      have hb06 := kqt hb3 hb6
      have hr_6 := HRW.out.up hb06
      obtain ⟨r0, r1, r2, r3, r4⟩ := hr_6.cells
      have fr := hr_6.free
      go_wp2
      obtain ⟨V, hV⟩ : ∃ V, V = ((((w6.setCell ⟨w.heap.size + 1, 0, none⟩ (.int .i64 46)).setCell ⟨w.heap.size + 1, 1, none⟩ (.int .i64 M)).setCell ⟨w.heap.size + 1, 2, none⟩ (.string ⟨#[]⟩)).setCell ⟨w.heap.size + 1, 3, none⟩ (.string ⟨#[]⟩)).setCell ⟨w.heap.size + 1, 4, none⟩ (.slice q6 M c6) := ⟨_, rfl⟩
      rw [← hV]
      obtain ⟨hPV, hKV⟩ := hr_6.put (x := ⟨46, M, ⟨#[]⟩, ⟨#[]⟩⟩) (u := .slice q6 M c6) hV
      obtain ⟨t0, t1, t2, t3, t4⟩ := hPV.cells
      have hbV : Below w.heap.size w6 V := hKV.below (by have := hr_6.lt; omega) (fun a e => by omega)
      refine bodyPost_ret (v := .agg #[.int .i64 46, .int .i64 M, .string ⟨#[]⟩, .string ⟨#[]⟩, .slice q6 M c6]) (by simp [results, Tryz.results31, go_sem, t0, t1, t2, t3, t4]) rfl ⟨⟨⟨46, (ow true done).len, Go.Proofs.YtgkbegomekhpcaaGreatDoor.e0, Go.Proofs.YtgkbegomekhpcaaGreatDoor.e0⟩, ow true done, q6, c6, rfl, by rw [← HM.out]; rfl, ⟨(by show (⟨#[]⟩ : ByteArray).size ≤ maxLen; unfold maxLen; decide), (by show (⟨#[]⟩ : ByteArray).size ≤ maxLen; unfold maxLen; decide), (by have := HT'.out; show ((ow true done).len : Int) ≤ _; omega)⟩, ?_⟩, (kqt HBW.out hb06).trans hbV⟩
      rw [← HM.out]
      refine ⟨ld, ownP_agree (ownP_agree HO3.out (fun g _ hl => hb6.block g hl)) (fun g hg hl => hKV.block g hl (fun e => by have := HG3.out g hg; omega)), fun g hg => .inr (by have := HG3.out g hg; omega), ?_⟩
      exact ((HR3.out.up hb6).agree (fun a ha hl => hKV.block a hl (fun e => by have := HSd.out a ha; omega))).sub (fun a ha => .inr (by have := HSd.out a ha; omega))
    | cons f kf r =>
      have hv3 : VK w3 l (.slice q l.len c) (fun a => S a ∧ a < w.heap.size) := HU.out.up hbw3
      have hkl : l.len = done.len + (r.len + 1) := by rw [← HD.out, tp_app_len]; rfl
      have hkf : l.flat.length = done.flat.length + (kf.flat.length + r.flat.length + 1) := by rw [← HD.out, tp_app_flat]; simp [Tp.flat] <;> omega
      have i1 : (done.len : Int) < (l.len : Int) := by omega
      rw [← HD.out] at hv3
      obtain ⟨g, cap, u, hu, hP, hfw, hvk, hSg⟩ := hv3.at
      rw [HD.out, ← hkl] at hu
      cases hu
      obtain ⟨-, ⟨hl1, hkz⟩, hFr⟩ := okV.some_iff.1 HT.out
      obtain ⟨z, kz, rfl⟩ := tp_len1 hl1
      clear hl1
      obtain ⟨gf, cf, uz, rfl, hPz, hzw, hvz⟩ := hvk.single
      have hgf : gf < w.heap.size := by
        obtain ⟨lk, h1, h2, _⟩ := hvk
        exact (h2 gf rfl).2
      obtain ⟨qz, cz, rfl, _⟩ := hvz.slice
      obtain ⟨p0, p1, p2, p3, p4⟩ := hP.cells
      simp only [Tp.flat, List.append_nil, List.length_cons] at hkf
      have HDn : Hid ((done.app (.cons f (.cons z kz .nil) .nil)).app r = l) := by show _ = _; rw [tp_app_assoc, ← HD.out]; rfl
      have HKL : Hid (l.len = done.len + (r.len + 1)) := hkl
      have HFr : Hid (okV (some f.s) r) := hFr
      have HJ2 : Hid (ow true (done.app (.cons f (.cons z kz .nil) .nil)) = (ow true done).app (.cons (fdN f.s 1) (ow false (.cons z kz .nil)) .nil)) := by show _ = _; rw [owF_app, ow_flds]; simp [ow]
      obtain ⟨V6, hV6⟩ : ∃ W4, W4 = w3.alloc (.cells #[.int .i64 f.op, .int .i64 f.n, .string f.s, .string f.t, .slice (some ⟨gf, 0, none⟩) 1 cf] 81) := ⟨_, rfl⟩
      have hb36 : Below w3.heap.size w3 V6 := by rw [hV6]; exact kqx
      have hB6 : PBk V6 w3.heap.size f (.slice (some ⟨gf, 0, none⟩) 1 cf) := by rw [hV6]; exact PBk.new w3 f _ rfl
      have hPz6 := hPz.up hb36
      have hd6 : Below V6.heap.size V6 V6.drew := kqx
      have hS0 := HJ1.of (hB6.up hd6) (hPz6.up hd6)
      have hcall := HIH.out z kz (by omega) V6.drew _ _ (hvz.up (kqt hb36 hd6)) hzw hkz (by have := HL1.out; omega)
      unfold partV at hcall
      obtain ⟨ld, Sd, hO3, hR3, hSd, hSg3⟩ := hG.ex
      have hFlen : (ow true done).len + 1 ≤ 1000000 := by rw [owT_len]; omega
      obtain ⟨q5, c5, rfl⟩ := hG.slice
      obtain ⟨M, hM⟩ : ∃ M, M = (ow true done).len := ⟨_, rfl⟩
      have HM : Hid (M = (ow true done).len) := hM
      have HG3 : Hid (∀ g, (Value.slice q5 M c5).ownBlock = some g → W.heap.size ≤ g ∧ g < w3.heap.size ∧ ¬ Sd g) := by rw [hM]; exact hSg3
      have HSd : Hid (∀ a, Sd a → a < w3.heap.size ∧ (False ∨ W.heap.size ≤ a)) := hSd
      have HR3 : Hid (RK w3 (ow true done) ld Sd) := hR3
      have HO3 : Hid (w3.ownsRow 0 81 5 (.slice q5 M c5) M ld) := by rw [hM]; exact hO3
      rw [← hM] at hFlen ⊢
      have hgB : (Value.slice q5 M c5).ownBlock ≠ some gf := fun hg => by have := (HG3.out gf hg).1; omega
      have hgC : (Value.slice q5 M c5).ownBlock ≠ some w3.heap.size := fun hg => by have := (HG3.out _ hg).2.1; omega
      clear hv3 hP hkl hvk hvz hFr hkz hO3 hR3 hSd hSg3 hG hM hkf
      go_wp2_with fail
      rw [← hV6]
      clear hV6 p0 p1 p2 p3 p4
      refine wp_region_held_drew (S := HJ1 w3.heap.size gf f z (.slice (some ⟨gf, 0, none⟩) 1 cf) (.slice qz kz.len cz)) (by kernel_rfl) hS0 (fun hHeld => ?_)
      refine wpAnyH_take (i := 0) (v := ?_) rfl (by kernel_rfl) (by kernel_rfl) (by kernel_rfl) (fun _ _ _ h => h) (Or.inl ⟨by rfl, ?_⟩) (by assumption) ?_
      rotate_left
      · intro w hSw
        go_simp
        all_goals with_reducible rfl
      try simp only [Act.put, List.setIfInBounds_toArray, List.set_cons_zero, List.set_cons_succ]
      refine wpAnyH_take (i := 1) (v := ?_) rfl (by kernel_rfl) (by kernel_rfl) (by kernel_rfl) (fun _ _ _ h => h) (Or.inl ⟨by rfl, ?_⟩) (by assumption) ?_
      rotate_left
      · intro w hSw
        go_simp
        all_goals with_reducible rfl
      try simp only [Act.put, List.setIfInBounds_toArray, List.set_cons_zero, List.set_cons_succ]
      refine wpAnyH_take (i := 2) (v := ?_) rfl (by kernel_rfl) (by kernel_rfl) (by kernel_rfl) (fun _ _ _ h => h) (Or.inl ⟨by rfl, ?_⟩) (by assumption) ?_
      rotate_left
      · intro w hSw
        go_simp
        all_goals with_reducible rfl
      try simp only [Act.put, List.setIfInBounds_toArray, List.set_cons_zero, List.set_cons_succ]
      refine wpAnyH_take (i := 3) (v := ?_) rfl (by kernel_rfl) (by kernel_rfl) (by kernel_rfl) (fun _ _ _ h => h) (Or.inl ⟨by rfl, ?_⟩) (by assumption) ?_
      rotate_left
      · intro w hSw
        go_simp
        all_goals with_reducible rfl
      try simp only [Act.put, List.setIfInBounds_toArray, List.set_cons_zero, List.set_cons_succ]
      refine wpAnyH_take (i := 4) (v := ?_) rfl (by kernel_rfl) (by kernel_rfl) (by kernel_rfl) (fun _ _ _ h => h) (Or.inl ⟨by rfl, ?_⟩) (by assumption) ?_
      rotate_left
      · intro w hSw
        go_simp
        all_goals with_reducible rfl
      try simp only [Act.put, List.setIfInBounds_toArray, List.set_cons_zero, List.set_cons_succ]
      refine wpAnyH_take (i := 5) (v := ?_) rfl (by kernel_rfl) (by kernel_rfl) (by kernel_rfl) (fun _ _ _ h => h) (Or.inl ⟨by rfl, ?_⟩) (by assumption) ?_
      rotate_left
      · intro w hSw
        go_simp
        all_goals with_reducible rfl
      try simp only [Act.put, List.setIfInBounds_toArray, List.set_cons_zero, List.set_cons_succ]
      refine wpAnyH_take (i := 6) (v := ?_) rfl (by kernel_rfl) (by kernel_rfl) (by kernel_rfl) (fun _ _ _ h => h) (Or.inl ⟨by rfl, ?_⟩) (by assumption) ?_
      rotate_left
      · intro w hSw
        go_simp
        all_goals with_reducible rfl
      try simp only [Act.put, List.setIfInBounds_toArray, List.set_cons_zero, List.set_cons_succ]
      refine wpAnyH_take (i := 7) (v := ?_) rfl (by kernel_rfl) (by kernel_rfl) (by kernel_rfl) (fun _ _ _ h => h) (Or.inl ⟨by rfl, ?_⟩) (by assumption) ?_
      rotate_left
      · intro w hSw
        go_simp
        all_goals with_reducible rfl
      try simp only [Act.put, List.setIfInBounds_toArray, List.set_cons_zero, List.set_cons_succ]
      refine wpAnyH_ready (rs := [8]) (by kernel_rfl) (by simp) ?_
      refine AllReadyH.cons rfl (fun K hK => ?_) AllReadyH.nil
      go_simp
      go_wp2_with fail
      refine hcall.mono ?_
      rintro _ w7 ⟨⟨xj, kj, qj, cj, hjn, rfl, hxj, hvj⟩, hb7⟩
      have HJN : Hid (ow false (.cons z kz .nil) = .cons xj kj .nil) := hjn
      clear hjn
      have hb67 : Below V6.heap.size V6 w7 := kqt hd6 hb7
      refine hK.out _ _ (HJ1.of (hB6.up hb67) (hPz6.up hb67)) (fun hHeld => ?_)
      clear hK K
      refine wpAnyH_ready (rs := [9]) (by kernel_rfl) (by simp) ?_
      refine AllReadyH.cons rfl (fun K hK => ?_) AllReadyH.nil
      go_simp
      go_wp2_with fail
      refine (fieldOf_any f.s 1 xj kj w7 _ _ hvj hxj).mono ?_
      rintro _ w8 ⟨⟨q8, c8, rfl, hv8⟩, hb8⟩
      have hb68 : Below V6.heap.size V6 w8 := kqt hb67 hb8
      have hB8 := hB6.up hb68
      have hP8 := hPz6.up hb68
      have hO8 : w8.ownsRow 0 81 5 (.slice q5 M c5) M ld := ownP_agree HO3.out (fun g hg hl => (kqt hb36 hb68).block g hl)
      refine hK.out _ _ (HJ1.of hB8 hP8) (fun hHeld => ?_)
      clear hK K
      refine wpAnyH_ready (rs := [10]) (by kernel_rfl) (by simp) ?_
      refine AllReadyH.cons rfl (fun K hK => ?_) AllReadyH.nil
      go_simp
      refine hK.out _ _ (HJ1.of (hB8.up kqx) (hP8.up kqx)) (fun hHeld => ?_)
      clear hK K
      refine wpAnyH_ready (rs := [11]) (by kernel_rfl) (by simp) ?_
      refine AllReadyH.cons rfl (fun K hK => ?_) AllReadyH.nil
      rw [if_pos (by rfl)]
      refine wp_appendP w8 (.tmp 52) (.tmp 62) rfl rfl (.slice q5 M c5) M ld rfl hO8 (fdN f.s 1) (.slice q8 1 c8) rfl hFlen w8.heap.size rfl rfl ?_
      intro v9 w9 hO9 hg9 hat9
      obtain ⟨q9, c9, rfl⟩ := ownP_slice hO9
      refine hK.out _ _ (HJ1.of (hB8.grown hg9 hgC) (hP8.grown hg9 hgB)) (fun hHeld => ?_)
      clear hK K
      try simp only [Act.put, List.setIfInBounds_toArray, List.set_cons_zero, List.set_cons_succ]
      refine wpAnyH_take (i := 12) (v := ?_) rfl (by kernel_rfl) (by kernel_rfl) (by kernel_rfl) (fun _ _ _ h => h) (Or.inl ⟨by rfl, ?_⟩) (by assumption) ?_
      rotate_left
      · intro w hSw
        go_simp
        all_goals with_reducible rfl
      try simp only [Act.put, List.setIfInBounds_toArray, List.set_cons_zero, List.set_cons_succ]
      refine wpAnyH_done (by kernel_rfl) ?_ _
      have hs8 : w3.heap.size ≤ w8.heap.size := (kqt hb36 hb68).size
      have hG9 : Gath W w9 (fun _ => False) ((ow true done).app (.cons (fdN f.s 1) (.cons xj kj .nil) .nil)) (.slice q9 (M + 1) c9) := Gath.more (w := w3) (fdwf hfw (.inr rfl)) (by rw [← HM.out]; exact hO8) (HR3.out.up (kqt hb36 hb68)) HSd.out HG3.out hs8 hs3 (fun a h => h.elim) ((hv8.sub (fun a h => h.elim (fun h => h.elim .inl (fun h => .inr (by have := hb36.size; have : V6.drew.heap.size = V6.heap.size := rfl; omega))) (fun h => .inr (by have := hb36.size; have := hb67.size; omega))))) (by rw [← HM.out]; exact hO9) hg9 hat9
      rw [← HJN.out, ← HJ2.out] at hG9
      have hb9 : Below W.heap.size W w9 := by
        have h1 : Below W.heap.size W w8 := kqt hb3 (kqt hb36 hb68)
        exact h1.trans ⟨hg9.os, hg9.tape, hg9.output, hg9.size, fun a ha => hg9.block a (Nat.lt_of_lt_of_le ha h1.size) (fun e => by have := (HG3.out a e.symm).1; omega)⟩
      clear hHeld hB8 hP8 hO8 hv8 hO9 hcall hvj
      go_wp2_with fail
      go_roundw
      case rel => exact ⟨done.app (.cons f (.cons z kz .nil) .nil), r, f.s, HDn, by rw [tp_app_len]; simp only [Tp.len]; go_num, hG9, HFr, hb9⟩
      case measure => have := HKL.out; simp [intOf]; omega
end
theorem ownK_any : ∀ (N : Nat) (y : Nd) (l : Tp), l.flat.length < N → OwnK y l
  | 0, y, l, h => by omega
  | N + 1, y, l, h => by
    have ih : ∀ z kz, kz.flat.length < l.flat.length → OwnK z kz := fun z kz hz => ownK_any N z kz (by omega)
    intro w u S hu hyw hy hl1
    obtain ⟨⟨h7, hnd, hway⟩, _⟩ := okV.none_iff.1 hy
    rw [ow_cons, show ow false .nil = .nil by rw [ow]]
    rcases hway with ⟨h5, _, hk⟩ | ⟨h6, _, hk⟩ | ⟨h5, h6, rfl⟩
    · rw [if_neg (by omega), if_neg (by omega), if_neg (by omega), if_neg (by omega), if_pos h5]
      exact own_set y l w u S hu hyw ih h5 hk hl1
    · rw [if_neg (by omega), if_neg (by omega), if_neg (by omega), if_neg (by omega), if_neg (by omega)]
      exact own_rcd y l w u S hu hyw ih h6 hk hl1
    · have ho : y.op = 1 ∨ y.op = 2 ∨ y.op = 3 ∨ y.op = 4 := by
        unfold ndOk at hnd
        repeat' split at hnd
        all_goals first | omega | cases hnd
      rcases ho with e | e | e | e
      · rw [if_pos e]; exact own_leaf y _ w u S hu hyw 1 (by omega) e
      · rw [if_neg (by omega), if_pos e]; exact own_leaf y _ w u S hu hyw 2 (by omega) e
      · rw [if_neg (by omega), if_neg (by omega), if_pos e]; exact own_leaf y _ w u S hu hyw 3 (by omega) e
      · rw [if_neg (by omega), if_neg (by omega), if_neg (by omega), if_pos e]; exact own_ent y _ w u S hu hyw e
theorem ownK (y : Nd) (l : Tp) : OwnK y l := ownK_any _ y l (Nat.lt_succ_self _)
end Go.Proofs.YtgkbegomekhpcaaGreatDoor
