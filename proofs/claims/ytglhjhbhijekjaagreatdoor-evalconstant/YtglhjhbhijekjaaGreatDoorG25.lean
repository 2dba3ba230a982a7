/- Package eval's asker in memory: its block, what is kept but for it; record, found, has, in. Package eval: record, by a walk of its own text; found; has; in. Package eval: record as a whole, has, in: by walks of their own texts. Package eval: in, by a walk of its own text. -/
import Derived.Test.YtglhjhbhijekjaaGreatDoorG19
import Derived.Test.YtglhjhbhijekjaaGreatDoorG21
import Derived.Test.YtglhjhbhijekjaaGreatDoorG23
import Derived.Test.YtglhjhbhijekjaaGreatDoorG24
import Derived.Test.YtglhjhbhijekjaaGreatDoorG12
namespace Go.Proofs.YtglhjhbhijekjaaGreatDoor
open Go.RowKit
set_option linter.unusedVariables false
set_option maxRecDepth 100000

/-- What an expression's value is asked of: the memory ahead of it, the store, the request, the expression. -/
structure EvEnv where
  w0 : World
  es : List En
  ps : Option Addr
  cs : Nat
  q : Rq
  pq : Option Addr
  cq : Nat
  e : List Nd
  p : Option Addr
  c : Nat
structure EvEnv.Ok (E : EvEnv) : Prop where
  el : EL E.w0 E.ps E.es
  nq : NL E.w0 E.pq E.q.cx
  ne : NL E.w0 E.p E.e
  env : EnvOk E.es E.q
  xf : xfault E.e = 0
  n64 : N64 E.e
  er : ErrVar E.w0
  cqm : E.q.cx.length ≤ E.cq ∧ E.cq ≤ maxLen
theorem EvEnv.Ok.len {E : EvEnv} (h : E.Ok) : E.e.length ≤ 200 := (xfault_zero h.xf).1
/-- The asker's block B, so far on. -/
structure AS (E : EvEnv) (w : World) (B k : Nat) : Prop where
  blk : w.heap[B]? = some (.cells #[.slice E.ps E.es.length E.cs, .string E.q.who.t, .string E.q.who.i, .string E.q.act.t, .string E.q.act.i, .string E.q.what.t, .string E.q.what.i, .slice E.pq E.q.cx.length E.cq, .slice E.p E.e.length E.c, .int .i64 (k : Int)] 69 (0, 0))
  bel : Below E.w0.heap.size E.w0 w
  ge : E.w0.heap.size ≤ B
  le : k ≤ E.e.length
section
variable {E : EvEnv} {w w' : World} {B k : Nat}
theorem AS.lt (h : AS E w B k) : B < w.heap.size := (Array.getElem?_eq_some_iff.1 h.blk).1
theorem AS.c0 (h : AS E w B k) : w.cell? ⟨B, 0, none⟩ = some (.slice E.ps E.es.length E.cs) := by simp [World.cell?, h.blk]
theorem AS.c1 (h : AS E w B k) : w.cell? ⟨B, 1, none⟩ = some (.string E.q.who.t) := by simp [World.cell?, h.blk]
theorem AS.c2 (h : AS E w B k) : w.cell? ⟨B, 2, none⟩ = some (.string E.q.who.i) := by simp [World.cell?, h.blk]
theorem AS.c3 (h : AS E w B k) : w.cell? ⟨B, 3, none⟩ = some (.string E.q.act.t) := by simp [World.cell?, h.blk]
theorem AS.c4 (h : AS E w B k) : w.cell? ⟨B, 4, none⟩ = some (.string E.q.act.i) := by simp [World.cell?, h.blk]
theorem AS.c5 (h : AS E w B k) : w.cell? ⟨B, 5, none⟩ = some (.string E.q.what.t) := by simp [World.cell?, h.blk]
theorem AS.c6 (h : AS E w B k) : w.cell? ⟨B, 6, none⟩ = some (.string E.q.what.i) := by simp [World.cell?, h.blk]
theorem AS.c7 (h : AS E w B k) : w.cell? ⟨B, 7, none⟩ = some (.slice E.pq E.q.cx.length E.cq) := by simp [World.cell?, h.blk]
theorem AS.c8 (h : AS E w B k) : w.cell? ⟨B, 8, none⟩ = some (.slice E.p E.e.length E.c) := by simp [World.cell?, h.blk]
theorem AS.c9 (h : AS E w B k) : w.cell? ⟨B, 9, none⟩ = some (.int .i64 (k : Int)) := by simp [World.cell?, h.blk]
theorem AS.fz (h : AS E w B k) (i : Nat) : w.frozen? ⟨B, i, none⟩ = false := by simp [World.frozen?, h.blk]
theorem AS.up (h : AS E w B k) (hb : Below w.heap.size w w') : AS E w' B k := ⟨(hb.block B h.lt).trans h.blk, h.bel.trans (hb.mono h.bel.size), h.ge, h.le⟩
theorem AS.setAt (h : AS E w B k) {j : Nat} (hj : j ≤ E.e.length) : AS E (w.setCell ⟨B, 9, none⟩ (.int .i64 (j : Int))) B j :=
  ⟨heap_setCell_same w B 9 _ _ _ h.blk, h.bel.setCell h.ge _, h.ge, hj⟩
theorem AS.el (h : AS E w B k) (ho : E.Ok) : EL w E.ps E.es := ho.el.up h.bel
theorem AS.nq (h : AS E w B k) (ho : E.Ok) : NL w E.pq E.q.cx := ho.nq.up h.bel
theorem AS.ne (h : AS E w B k) (ho : E.Ok) : NL w E.p E.e := ho.ne.up h.bel
theorem AS.er (h : AS E w B k) (ho : E.Ok) : ErrVar w := errVar_below ho.er h.bel (Nat.le_refl _)
end
/-- All that lay in w is in w' as it was, but for one block. -/
structure BX (B : Nat) (w w' : World) : Prop where
  os : w'.os = w.os
  tape : w'.tape = w.tape
  output : w'.output = w.output
  size : w.heap.size ≤ w'.heap.size
  block : ∀ k, k < w.heap.size → k ≠ B → w'.heap[k]? = w.heap[k]?
theorem BX.refl (B : Nat) (w : World) : BX B w w := ⟨rfl, rfl, rfl, Nat.le_refl _, fun _ _ _ => rfl⟩
theorem BX.trans {B : Nat} {a b c : World} (h : BX B a b) (k : BX B b c) : BX B a c :=
  ⟨k.os.trans h.os, k.tape.trans h.tape, k.output.trans h.output, Nat.le_trans h.size k.size, fun i hi hn => (k.block i (Nat.lt_of_lt_of_le hi h.size) hn).trans (h.block i hi hn)⟩
theorem BX.of_below {B : Nat} {w w' : World} (h : Below w.heap.size w w') : BX B w w' := ⟨h.os, h.tape, h.output, h.size, fun i hi _ => h.block i hi⟩
theorem BX.up {B : Nat} {a w w' : World} (h : BX B a w) (k : Below w.heap.size w w') : BX B a w' := h.trans (BX.of_below k)
theorem BX.set {B : Nat} {a w : World} (h : BX B a w) (i : Nat) (v : Value) : BX B a (w.setCell ⟨B, i, none⟩ v) :=
  h.trans ⟨rfl, rfl, rfl, by simp, fun k _ hn => Below.heap_setCell w ⟨B, i, none⟩ v k hn⟩
theorem BX.below {B N : Nat} {w w' : World} (h : BX B w w') (hN : N ≤ B) (hB : B < w.heap.size) : Below N w w' :=
  ⟨h.os, h.tape, h.output, h.size, fun k hk => h.block k (by omega) (by omega)⟩
theorem BX.cell {B : Nat} {w w' : World} (h : BX B w w') {p : Addr} (hp : p.block < w.heap.size) (hn : p.block ≠ B) : w'.cell? p = w.cell? p := by
  unfold World.cell?; rw [h.block p.block hp hn]
/-- No value lies in the asker's block. -/
theorem AS.apart {E : EvEnv} {w : World} {B k : Nat} (h : AS E w B k) {q : Option Addr} {a : List Nd} (hn : NL w q a) (hne : a ≠ []) : ∀ d, q = some d → d.block ≠ B := by
  rintro d rfl e
  rcases hn with hn | ⟨b, off, h1, h2, h3⟩
  · exact hne hn
  · cases h1
    obtain ⟨x, r, rfl⟩ := List.exists_cons_of_ne_nil hne
    obtain ⟨d0, d1, _⟩ := h3 0 x rfl
    have eb : b = B := e
    subst eb
    simp only [World.cell?, h.blk] at d0 d1
    match off, d0, d1 with
    | 0, d0, _ => simp at d0
    | 1, d0, _ => simp at d0
    | 2, d0, _ => simp at d0
    | 3, d0, _ => simp at d0
    | 4, d0, _ => simp at d0
    | 5, d0, _ => simp at d0
    | 6, d0, _ => simp at d0
    | 7, d0, _ => simp at d0
    | 8, d0, _ => simp at d0
    | 9, _, d1 => simp at d1
    | n + 10, d0, _ => simp at d0
theorem NL.bx {B : Nat} {w w' : World} {q : Option Addr} {a : List Nd} (h : NL w q a) (hn : ∀ d, q = some d → d.block ≠ B) (k : BX B w w') : NL w' q a := by
  rcases h with h | ⟨b, off, h1, h2, h3⟩
  · exact .inl h
  · refine .inr ⟨b, off, h1, Nat.lt_of_lt_of_le h2 k.size, fun i x hx => ?_⟩
    have q : ∀ o, w'.cell? ⟨b, o, none⟩ = w.cell? ⟨b, o, none⟩ := fun o => k.cell (p := ⟨b, o, none⟩) h2 (hn ⟨b, off, none⟩ h1)
    simp only [q]
    exact h3 i x hx
theorem VArg.bx {E : EvEnv} {w w' : World} {B k : Nat} {a : List Nd} {n : Nat} {q : Option Addr} {c : Nat} (h : VArg w a n q c) (hs : AS E w B k) (hx : BX B w w') : VArg w' a n q c :=
  ⟨h.len, h.nl.bx (hs.apart h.nl h.is.ne) hx, h.le, h.cm, h.is⟩
end Go.Proofs.YtglhjhbhijekjaaGreatDoor
namespace Go.Proofs.YtglhjhbhijekjaaGreatDoor
open Go.RowKit
set_option linter.unusedVariables false
set_option maxRecDepth 100000

section
variable {E : EvEnv} (w : World) (B k : Nat) (a : List Nd) (n : Nat) (q : Option Addr) (c : Nat)
theorem record_self (hs : AS E w B k) (h : VArg w a n q c) (h6 : opV a = 6) :
    Calls Tryz.prog 138 #[.pointer (some ⟨B, 0, none⟩), .slice q n c] w fun e w' => e = .returned (.tuple #[.slice q n c, .nilIface]) ∧ w' = w := by
  obtain ⟨x, r, b, off, rfl, rfl, hb, c0, c1, c2, c3, _, h1⟩ := h.head
  have hx : x.op = 6 := h6
  have e1 : (x.op == 6) = true := by simpa using hx
  have i1 : (0 : Int) < (n : Int) := by omega
  clear h6 hx h
  go_enter Tryz.func138, Tryz.ntmps138
  go_wp2
  go_ret2
  exact ⟨rfl, rfl⟩
set_option maxHeartbeats 600000 in
theorem record_found (ho : E.Ok) (hs : AS E w B k) (h : VArg w a n q c) (h4 : opV a = 4) (x : En) (hx : x ∈ E.es) (hu : x.u = uidV a) :
    Calls Tryz.prog 138 #[.pointer (some ⟨B, 0, none⟩), .slice q n c] w fun e w' => (∃ q' c', e = .returned (.tuple #[.slice q' x.nd.length c', .nilIface]) ∧ VArg w' x.nd x.nd.length q' c') ∧ Below w.heap.size w w' := by
  have HU2 := fun w1 (hb : Below w.heap.size w w1) => uidOf_ok w1 a n q c (h.up hb) h4
  have hv := ho.env.ent hx
  have ha0 := hs.c0
  have hg := (stf_zero ho.env.st).uids x hx
  have HA := fun w1 (hb : Below w.heap.size w w1) => attrs_full E.es E.ps E.cs x w1 ((hs.up hb).el ho) hx (uf_ok hg) ho.env.st
  rw [← hu] at HU2
  obtain ⟨y, r, b, off, rfl, rfl, hb, c0, c1, c2, c3, _, h1⟩ := h.head
  have hy : y.op = 4 := h4
  have e1 : (y.op == 6) = false := by simp [hy]
  have i1 : (0 : Int) < (n : Int) := by omega
  clear h4 hy h hu
  go_enter Tryz.func138, Tryz.ntmps138
  have hw1 : Below w.heap.size w w.drew := (Below.refl _ _).drew
  have ha1 := (hs.up hw1).c0
  go_wp2_with fail
  go_region_with (first
    | (go_at_call 142; refine (HU2 _ hw1).mono ?_; rintro e w1 ⟨rfl, hb1⟩; have ha2 := ((hs.up hw1).up hb1).c0)
    | (go_at_call 166; refine (HA w1 (qbt hw1 hb1)).mono ?_; rintro e w2 ⟨⟨q2, c2, rfl, hn2, hl2, hm2⟩, hb2⟩))
  all_goals
    go_wp2
    go_ret2
    exact ⟨⟨q2, c2, rfl, rfl, hn2, hl2, hm2, hv.1⟩, qbt (qbt hw1 hb1) hb2⟩
set_option maxHeartbeats 600000 in
theorem record_lost (ho : E.Ok) (hs : AS E w B k) (h : VArg w a n q c) (h4 : opV a = 4) (hx : ∀ e ∈ E.es, e.u ≠ uidV a) :
    Calls Tryz.prog 138 #[.pointer (some ⟨B, 0, none⟩), .slice q n c] w fun e w' => e = .returned (.tuple #[.slice none 0 0, .iface 31 (.int .i64 8)]) ∧ Below w.heap.size w w' := by
  have HU2 := fun w1 (hb : Below w.heap.size w w1) => uidOf_ok w1 a n q c (h.up hb) h4
  have ha0 := hs.c0
  have hok : UOk (uidV a) := by
    obtain ⟨y, r, b, off, rfl, rfl, hb, c0, c1, c2, c3, hwf, h1⟩ := h.head
    exact ⟨hwf.1, hwf.2.1⟩
  have HA := fun w1 (hb : Below w.heap.size w w1) => attrs_lost E.es E.ps E.cs (uidV a) w1 ((hs.up hb).el ho) hx hok ho.env.st
  rw [eV_not (by decide)] at HA
  generalize uidV a = u at *
  obtain ⟨y, r, b, off, rfl, rfl, hb, c0, c1, c2, c3, _, h1⟩ := h.head
  have hy : y.op = 4 := h4
  have e1 : (y.op == 6) = false := by simp [hy]
  have i1 : (0 : Int) < (n : Int) := by omega
  clear h4 hy h hx hok
  go_enter Tryz.func138, Tryz.ntmps138
  have hw1 : Below w.heap.size w w.drew := (Below.refl _ _).drew
  have ha1 := (hs.up hw1).c0
  go_wp2_with fail
  go_region_with (first
    | (go_at_call 142; refine (HU2 _ hw1).mono ?_; rintro e w1 ⟨rfl, hb1⟩; have ha2 := ((hs.up hw1).up hb1).c0)
    | (go_at_call 166; refine (HA w1 (qbt hw1 hb1)).mono ?_; rintro e w2 ⟨rfl, hb2⟩))
  all_goals
    go_wp2
    go_ret2
    exact ⟨rfl, qbt (qbt hw1 hb1) hb2⟩
set_option maxHeartbeats 600000 in
theorem record_bad (hs : AS E w B k) (h : VArg w a n q c) (h6 : opV a ≠ 6) (h4 : opV a ≠ 4) :
    Calls Tryz.prog 138 #[.pointer (some ⟨B, 0, none⟩), .slice q n c] w fun e w' => e = .panicked (thrownE 2) ∧ Below w.heap.size w w' := by
  have HU2 := fun w1 (hb : Below w.heap.size w w1) => uidOf_bad w1 a n q c (h.up hb) h4
  have ha0 := hs.c0
  obtain ⟨y, r, b, off, rfl, rfl, hb, c0, c1, c2, c3, _, h1⟩ := h.head
  have hy : y.op ≠ 6 := h6
  have e1 : (y.op == 6) = false := by simpa using hy
  have i1 : (0 : Int) < (n : Int) := by omega
  clear h4 h6 hy h
  have hw1 : Below w.heap.size w w.drew := (Below.refl _ _).drew
  have ha1 : w.drew.cell? ⟨B, 0, none⟩ = some (.slice E.ps E.es.length E.cs) := ha0
  go_enter Tryz.func138, Tryz.ntmps138
  go_wp2_with fail
  refine wp_mono (Q := fun e a w' => e = .panic (thrownE 2) ∧ a.defers = [] ∧ Below w.heap.size w w') ?_ ?_
  rotate_left
  · rintro _ a w5 ⟨rfl, hd, hb5⟩
    go_wp2
    exact ⟨hd, rfl, hb5⟩
  refine wp_region_any (by kernel_rfl) ?_
  refine wpAny_take (i := 0) (v := ?_) rfl (by kernel_rfl) (by kernel_rfl) (by kernel_rfl) (fun _ _ _ h => h) (Or.inl ⟨by rfl, ?_⟩) ?_
  rotate_left
  · intro w; go_simp; with_reducible rfl
  refine wpAny_take (i := 1) (v := ?_) rfl (by kernel_rfl) (by kernel_rfl) (by kernel_rfl) (fun _ _ _ h => h) (Or.inl ⟨by rfl, ?_⟩) ?_
  rotate_left
  · intro w; go_simp; with_reducible rfl
  refine wpAny_take (i := 2) (v := ?_) rfl (by kernel_rfl) (by kernel_rfl) (by kernel_rfl) (fun _ _ _ h => h) (Or.inl ⟨by rfl, ?_⟩) ?_
  rotate_left
  · intro w; go_simp; with_reducible rfl
  refine wpAny_take (i := 4) (v := ?_) rfl (by kernel_rfl) (by kernel_rfl) (by kernel_rfl) (fun _ _ _ h => h) (Or.inl ⟨by rfl, ?_⟩) ?_
  rotate_left
  · intro w; go_simp; with_reducible rfl
  refine wpAny_ready (rs := [3, 5]) (by kernel_rfl) (by simp) ?_
  have HU3 := HU2 w.drew hw1
  refine AllReady.cons rfl (fun K hK => ?_) ?_
  · go_simp
    refine hK _ _ ?_
    clear hK K
    refine wpAny_ready (rs := [5]) (by kernel_rfl) (by simp) ?_
    refine AllReady.cons rfl (fun K hK => ?_) AllReady.nil
    go_simp
    refine HU3.mono ?_
    rintro e w5 ⟨rfl, hb5⟩
    exact ⟨rfl, qbt hw1 hb5⟩
  · refine AllReady.cons rfl (fun K hK => ?_) AllReady.nil
    go_simp
    refine HU3.mono ?_
    rintro e w5 ⟨rfl, hb5⟩
    exact ⟨rfl, qbt hw1 hb5⟩
end
theorem as_nil (t : Addr) (w : World) : Calls Tryz.prog 38 #[.nilIface, .iface 78 (.pointer (some t))] w fun e w' => e = .returned (.bool false) ∧ w' = w := by
  go_enter Tryz.func38, Tryz.ntmps38
  go_wp2
  go_ret
  exact ⟨rfl, rfl⟩
set_option maxHeartbeats 600000 in
theorem found_ok (q : Option Addr) (n c : Nat) (w : World) : Calls Tryz.prog 164 #[.slice q n c, .nilIface] w fun e w' => e = .returned (.tuple #[.slice q n c, .bool true]) ∧ Below w.heap.size w w' := by
  have hb0 : Below w.heap.size w (w.alloc (.cells #[.int .i64 0] 31)) := (Below.refl _ _).alloc (Nat.le_refl _) _
  go_enter Tryz.func164, Tryz.ntmps164
  go_wp2_with fail
  refine (as_nil ⟨w.heap.size, 0, none⟩ _).mono ?_
  rintro e w1 ⟨rfl, rfl⟩
  go_wp2_with fail
  refine (sureN_ok _ q n c).mono ?_
  rintro e w2 ⟨rfl, rfl⟩
  go_wp2
  go_ret2
  exact ⟨rfl, hb0⟩
set_option maxHeartbeats 1000000 in
theorem found_not (q : Option Addr) (n c : Nat) (k : Int) (hk : k = 8 ∨ k = 3) (w : World) (hg : ErrVar w) : Calls Tryz.prog 164 #[.slice q n c, .iface 31 (.int .i64 k)] w fun e w' => e = .returned (.tuple #[.slice q n c, .bool false]) ∧ Below w.heap.size w w' := by
  have Hg : Hid (ErrVar _) := errVar_alloc hg (.cells #[.int .i64 0] 31)
  have c0 : (w.alloc (.cells #[.int .i64 0] 31)).cell? ⟨w.heap.size, 0, none⟩ = some (.int .i64 0) := by simp
  have f0 : (w.alloc (.cells #[.int .i64 0] 31)).frozen? ⟨w.heap.size, 0, none⟩ = false := by simp
  clear hg
  rcases hk with rfl | rfl
  · go_enter Tryz.func164, Tryz.ntmps164
    go_wp2_with fail
    refine (as_hit 8 ⟨w.heap.size, 0, none⟩ (.int .i64 0) _ Hg.out c0 f0).mono ?_
    rintro e w' ⟨rfl, rfl⟩
    go_wp2
    go_ret2
    refine ⟨rfl, ?_⟩
    repeat (first | exact Below.refl _ _ | refine Below.setCell ?_ (by simp) _ | refine Below.alloc ?_ (by simp <;> omega) _)
  · go_enter Tryz.func164, Tryz.ntmps164
    go_wp2_with fail
    refine (as_hit 3 ⟨w.heap.size, 0, none⟩ (.int .i64 0) _ Hg.out c0 f0).mono ?_
    rintro e w' ⟨rfl, rfl⟩
    go_wp2
    go_ret2
    refine ⟨rfl, ?_⟩
    repeat (first | exact Below.refl _ _ | refine Below.setCell ?_ (by simp) _ | refine Below.alloc ?_ (by simp <;> omega) _)
/-- val.Get at a record that is a value. -/
theorem get_field (r : List Nd) (n : Nat) (q : Option Addr) (c : Nat) (s : ByteArray) (w : World) (h : VArg w r n q c) (h6 : opV r = 6) :
    Calls Tryz.prog 137 #[.slice q n c, .string s] w fun e w' => (match fldV r s with | some u => ∃ q' c', e = .returned (.tuple #[.slice q' u.length c', .nilIface]) ∧ VArg w' u u.length q' c' | none => ∃ q' c', e = .returned (.tuple #[.slice q' 0 c', .iface 31 (.int .i64 3)])) ∧ Below w.heap.size w w' := by
  have hi := h.is
  have hl := h.len
  have hn := h.nl
  have hc := h.le
  have hcm := h.cm
  obtain ⟨x, r', b, off, rfl, rfl, hb, _⟩ := h.head
  subst hl
  obtain ⟨ss, hss, e⟩ := fldV_spec hi.val h6 s
  have HF : ∀ u, fldV (x :: r') s = some u → IsV u := fun u hu => fldV_is hi h6 hu
  rw [e] at HF ⊢
  refine (get_ok _ x r' ss hss b off c s w hn hc hcm hi.val h6).mono ?_
  rintro en w' ⟨⟨q', c', rfl, h1, h2, h3⟩, hb'⟩
  refine ⟨?_, hb'⟩
  cases hf : findS s ss with
  | none =>
    rw [hf] at h1 h2
    exact ⟨q', c', rfl⟩
  | some u =>
    rw [hf] at h1 h2
    exact ⟨q', c', rfl, rfl, h1, h2, h3, HF u hf⟩
/-- What has tells, or throws. -/
def BoolEnd (R : Except Int Bool) (e : Ending) (w' : World) : Prop := match R with | .ok b => e = .returned (.bool b) | .error n => e = .panicked (thrownE n)
end Go.Proofs.YtglhjhbhijekjaaGreatDoor
namespace Go.Proofs.YtglhjhbhijekjaaGreatDoor
open Go.RowKit
set_option linter.unusedVariables false
set_option maxRecDepth 100000

def RecEnd (R : Except Int (List Nd)) (e : Ending) (w' : World) : Prop :=
  match R with
  | .ok r => ∃ q c, e = .returned (.tuple #[.slice q r.length c, .nilIface]) ∧ VArg w' r r.length q c ∧ opV r = 6
  | .error n => (n = 8 ∧ e = .returned (.tuple #[.slice none 0 0, .iface 31 (.int .i64 8)])) ∨ (n = 2 ∧ e = .panicked (thrownE 2))
section
variable {E : EvEnv} (w : World) (B k : Nat) (a : List Nd) (n : Nat) (q : Option Addr) (c : Nat)
theorem record_any (ho : E.Ok) (hs : AS E w B k) (h : VArg w a n q c) :
    Calls Tryz.prog 138 #[.pointer (some ⟨B, 0, none⟩), .slice q n c] w fun e w' => RecEnd (attE E.es a) e w' ∧ Below w.heap.size w w' := by
  unfold attE
  by_cases h6 : opV a = 6
  · rw [if_pos h6]
    refine (record_self w B k a n q c hs h h6).mono ?_
    rintro e w' ⟨rfl, rfl⟩
    have hl := h.len
    subst hl
    exact ⟨⟨q, c, rfl, h, h6⟩, Below.refl _ _⟩
  · rw [if_neg h6]
    by_cases h4 : opV a = 4
    · rw [if_pos h4]
      cases hf : E.es.find? (fun e => decide (e.u = uidV a)) with
      | none =>
        refine (record_lost w B k a n q c ho hs h h4 (fun e he hu => ?_)).mono ?_
        · have := List.find?_eq_none.1 hf e he
          exact this (by simpa using hu)
        · rintro e w' ⟨rfl, hb⟩
          exact ⟨.inl ⟨rfl, rfl⟩, hb⟩
      | some x =>
        have hx := List.mem_of_find?_eq_some hf
        have hu : x.u = uidV a := by simpa using List.find?_some hf
        refine (record_found w B k a n q c ho hs h h4 x hx hu).mono ?_
        rintro e w' ⟨⟨q', c', rfl, hv⟩, hb⟩
        exact ⟨⟨q', c', rfl, hv, (ho.env.ent hx).2⟩, hb⟩
    · rw [if_neg h4]
      refine (record_bad w B k a n q c hs h h6 h4).mono ?_
      rintro e w' ⟨rfl, hb⟩
      exact ⟨.inr ⟨rfl, rfl⟩, hb⟩
/-- Is the name there? -/
noncomputable def hasB (es : List En) (v : List Nd) (s : ByteArray) : Except Int Bool :=
  match attE es v with
  | .ok r => .ok (fldV r s).isSome
  | .error n => if n = 8 then .ok false else .error n
set_option maxHeartbeats 600000 in
theorem ehas_any (ho : E.Ok) (hs : AS E w B k) (h : VArg w a n q c) (s : ByteArray) :
    Calls Tryz.prog 136 #[.pointer (some ⟨B, 0, none⟩), .slice q n c, .string s] w fun e w' => BoolEnd (hasB E.es a s) e w' ∧ Below w.heap.size w w' := by
  have HR := record_any w B k a n q c ho hs h
  have HG := fun w1 (hb : Below w.heap.size w w1) => (hs.up hb).er ho
  have HB : Hid (hasB E.es a s = match attE E.es a with | .ok r => .ok (fldV r s).isSome | .error n => if n = 8 then .ok false else .error n) := rfl
  rw [HB.out]
  clear HB
  cases hR : attE E.es a with
  | error m =>
    rw [hR] at HR
    simp only
    go_enter Tryz.func136, Tryz.ntmps136
    go_wp2_with fail
    refine HR.mono ?_
    rintro e w1 ⟨⟨rfl, rfl⟩ | ⟨rfl, rfl⟩, hb1⟩
    · go_wp2_with fail
      refine (found_not none 0 0 8 (.inl rfl) w1 (HG w1 hb1)).mono ?_
      rintro e w2 ⟨rfl, hb2⟩
      go_wp2
      go_ret
      exact ⟨rfl, qbt hb1 hb2⟩
    · exact ⟨rfl, rfl, hb1⟩
  | ok r =>
    rw [hR] at HR
    simp only
    go_enter Tryz.func136, Tryz.ntmps136
    go_wp2_with fail
    refine HR.mono ?_
    rintro e w1 ⟨⟨q1, c1, rfl, hv1, h6⟩, hb1⟩
    go_wp2_with fail
    refine (found_ok q1 _ c1 w1).mono ?_
    rintro e w2 ⟨rfl, hb2'⟩
    have hb2 := qbt hb1 hb2'
    have HF := get_field r _ q1 c1 s w2 (hv1.up hb2') h6
    cases hf : fldV r s with
    | some u =>
      rw [hf] at HF
      simp only at HF
      go_wp2_with fail
      refine HF.mono ?_
      rintro e w3 ⟨⟨q3, c3, rfl, _⟩, hb3'⟩
      have hb3 := qbt hb2 hb3'
      go_wp2_with fail
      refine (found_ok q3 _ c3 w3).mono ?_
      rintro e w4 ⟨rfl, hb4⟩
      go_wp2
      go_ret
      exact ⟨by rw [hf]; rfl, qbt hb3 hb4⟩
    | none =>
      rw [hf] at HF
      simp only at HF
      go_wp2_with fail
      refine HF.mono ?_
      rintro e w3 ⟨⟨q3, c3, rfl⟩, hb3'⟩
      have hb3 := qbt hb2 hb3'
      go_wp2_with fail
      refine (found_not q3 0 c3 3 (.inr rfl) w3 (HG w3 hb3)).mono ?_
      rintro e w4 ⟨rfl, hb4⟩
      go_wp2
      go_ret
      exact ⟨by rw [hf]; rfl, qbt hb3 hb4⟩
end
end Go.Proofs.YtglhjhbhijekjaaGreatDoor
namespace Go.Proofs.YtglhjhbhijekjaaGreatDoor
open Go.RowKit
set_option linter.unusedVariables false
set_option maxRecDepth 100000

section
variable {E : EvEnv} (w : World) (B k : Nat) (a : List Nd) (n : Nat) (q : Option Addr) (c : Nat)
theorem UL.apart {w : World} {g : Nat} {q : Option Addr} {L : List Ui} (h : UL w q L) (hg : w.heap[g]? = some (.cells #[.slice none 0 0] 56 (0, 0))) (v : Value) : UL (w.setCell ⟨g, 0, none⟩ v) q L := by
  rcases h with h | ⟨b, off, h1, h2, h3⟩
  · exact .inl h
  · by_cases hL : L = []
    · exact .inl hL
    · have hne : b ≠ g := by
        rintro rfl
        obtain ⟨x, r, rfl⟩ := List.exists_cons_of_ne_nil hL
        obtain ⟨d0, _⟩ := h3 0 x rfl
        simp only [World.cell?, hg] at d0
        match off, d0 with
        | 0, d0 => simp at d0
        | n + 1, d0 => simp at d0
      refine .inr ⟨b, off, h1, by simpa using h2, fun i x hx => ?_⟩
      rw [World.cell?_setCell_other _ _ _ _ (by intro e; exact hne (congrArg Addr.block e).symm), World.cell?_setCell_other _ _ _ _ (by intro e; exact hne (congrArg Addr.block e).symm)]
      exact h3 i x hx
open Classical in
theorem in_last (A g : Nat) (u : Ui) (qa : Option Addr) (la : List Ui) (ca : Nat) (V : World) (us : List Ui) (q : Option Addr) (c : Nat) (hA : A < V.heap.size) (hg : g < V.heap.size) (a0 : V.cell? ⟨A, 0, none⟩ = some (.string u.t)) (a1 : V.cell? ⟨A, 1, none⟩ = some (.string u.i)) (hc : V.cell? ⟨g, 0, none⟩ = some (.slice qa la.length ca))
    (hua : UL V qa la) (hia : IsAbove E.es u la) (hq : UL V q us) (hl : us.length ≤ 1000) (hla : la.length ≤ maxLen) :
    Calls Tryz.prog 172 #[.slice q us.length c, .func (.func 173) #[] #[.pointer (some ⟨A, 0, none⟩), .pointer (some ⟨g, 0, none⟩)]] V fun e w' => e = .returned (.bool (decide (∃ t ∈ us, t = u ∨ Abv E.es u t))) ∧ Below V.heap.size V w' := by
  refine (containsFuncU_any us _ rfl q c _ _ V hq (by unfold maxLen; omega) (in_asks A g u qa la ca V hA hg a0 a1 hc hua hla)).mono ?_
  rintro e w' ⟨rfl, hb⟩
  refine ⟨?_, hb⟩
  congr 2
  rw [Bool.eq_iff_iff, List.any_eq_true, decide_eq_true_iff]
  constructor
  · rintro ⟨t, ht, h⟩
    exact ⟨t, ht, by have := of_decide_eq_true h; rwa [hia.2] at this⟩
  · rintro ⟨t, ht, h⟩
    exact ⟨t, ht, decide_eq_true (by rwa [hia.2])⟩
open Classical in
set_option maxHeartbeats 8000000 in
theorem ein_any (ho : E.Ok) (hs : AS E w B k) (u : Ui) (hu : UOk u) (us : List Ui) (hq : UL w q us) (hl : us.length ≤ 1000) :
    Calls Tryz.prog 144 #[.pointer (some ⟨B, 0, none⟩), .agg #[.string u.t, .string u.i], .slice q us.length c] w fun e w' => e = .returned (.bool (decide (∃ t ∈ us, t = u ∨ Abv E.es u t))) ∧ Below w.heap.size w w' := by
  have HA := fun w1 (hb : Below w.heap.size w w1) => entAbove_any E.es E.ps E.cs u w1 ((hs.up hb).el ho) hu
  have hst := ho.env.st
  obtain ⟨ut, ui⟩ := u
  have hbL : Below w.heap.size w (w.alloc (.cells #[.string ut, .string ui] 23)) := (Below.refl _ _).alloc (Nat.le_refl _) _
  have z0 : (w.alloc (.cells #[.string ut, .string ui] 23)).cell? ⟨w.heap.size, 0, none⟩ = some (.string ut) := by simp
  have z1 : (w.alloc (.cells #[.string ut, .string ui] 23)).cell? ⟨w.heap.size, 1, none⟩ = some (.string ui) := by simp
  have hsz : w.heap.size < (w.alloc (.cells #[.string ut, .string ui] 23)).heap.size := by simp
  have ha0 := (hs.up hbL).c0
  have hB0 := (hs.up hbL).lt
  have hu0 := hq.up hbL
  go_enter Tryz.func144, Tryz.ntmps144
  go_wp2_with fail
  generalize w.alloc (.cells #[.string ut, .string ui] 23) = W at *
  have HA2 := fun w1 (hb : Below W.heap.size W w1) => HA w1 (qbt hbL hb)
  clear HA hs hq
  go_region_with (first
    | (go_at_call 171
       refine (HA2 _ (by repeat (first | exact Below.refl _ _ | exact (Below.refl _ _).alloc (Nat.le_refl _) _ | apply Below.drew))).mono ?_
       rintro e w1 ⟨⟨_, qa, ca, la, rfl, hua, hia, hca, hcb⟩ | ⟨h0, _⟩, hb1⟩
       rotate_left
       exact absurd hst h0
       have hgg := fun h => hb1.cell (p := ⟨W.heap.size, 0, none⟩) h
       have hgf := fun h => hb1.frozen (p := ⟨W.heap.size, 0, none⟩) h
       dsimp only at hgg hgf)
    | (go_at_call 170; refine (sureU_ok _ qa _ ca).mono ?_; rintro e w2 ⟨rfl, hw2⟩; have hw3 := hw2.symm; clear hw2; subst hw3))
  all_goals
    have hbW : Below W.heap.size W w1 := Below.trans (by repeat (first | exact Below.refl _ _ | exact (Below.refl _ _).alloc (Nat.le_refl _) _ | apply Below.drew)) (hb1.mono (by simp))
    go_wp2_with fail
    first
      | (have hbV := hbW.alloc hbW.size (.cells #[.slice qa la.length ca] 56)
         refine (in_last w.heap.size w1.heap.size ⟨ut, ui⟩ qa la ca _ us q c (Nat.lt_of_lt_of_le hsz hbV.size) (by simp) ((hbV.cell (p := ⟨w.heap.size, 0, none⟩) hsz).trans z0) ((hbV.cell (p := ⟨w.heap.size, 1, none⟩) hsz).trans z1) (by simp) (hua.up ((Below.refl _ _).alloc (Nat.le_refl _) _)) hia (hu0.up hbV) hl (Nat.le_trans hca hcb)).mono ?_
         rintro e w5 ⟨rfl, hb5⟩
         go_wp2
         go_ret
         exact ⟨rfl, qbt (qbt hbL hbV) hb5⟩)
      | (have hgb : w1.heap[W.heap.size]? = some (.cells #[.slice none 0 0] 56 (0, 0)) := (hb1.block W.heap.size (by simp)).trans (heap_alloc_new _ _)
         have hbV := hbW.setCell (p := ⟨W.heap.size, 0, none⟩) (Nat.le_refl _) (.slice qa la.length ca)
         have hg0 : w1.cell? ⟨W.heap.size, 0, none⟩ = some (.slice none 0 0) := by simp [World.cell?, hgb]
         refine (in_last w.heap.size W.heap.size ⟨ut, ui⟩ qa la ca _ us q c (Nat.lt_of_lt_of_le hsz hbV.size) (by have := (Array.getElem?_eq_some_iff.1 hgb).1; simpa using this) ((hbV.cell (p := ⟨w.heap.size, 0, none⟩) hsz).trans z0) ((hbV.cell (p := ⟨w.heap.size, 1, none⟩) hsz).trans z1) (World.cell?_setCell_same _ _ _ hg0) (hua.apart hgb _) hia (hu0.up hbV) hl (Nat.le_trans hca hcb)).mono ?_
         rintro e w5 ⟨rfl, hb5⟩
         go_wp2
         go_ret
         exact ⟨rfl, qbt (qbt hbL hbV) hb5⟩)
end
end Go.Proofs.YtglhjhbhijekjaaGreatDoor
