/- A reader of words in memory: its block, what is kept but for it. Package phrase's reader: need, itself, ahead, says, passes, pass, take; by walks of their own texts. Package phrase's reader: pass, take; by walks of their own texts. Maps from texts to whole numbers, as the call lays them: made, put, looked up. -/
import Derived.Test.YtpbnjdgedifnoaaGreatDoorG5
import Derived.Test.YtpbnjdgedifnoaaGreatDoorG11
import Derived.Test.YtpbnjdgedifnoaaGreatDoorG13
import Derived.Test.YtpbnjdgedifnoaaGreatDoorG2
import Derived.StillTailTactics
import Derived.Deep.QuietTactic
import Derived.Maps.OwnSet
namespace Go.Proofs.YtpbnjdgedifnoaaGreatDoor
open Go.RowKit
set_option linter.unusedVariables false

/-- All that lay in w is in w' as it was, but for one block. -/
structure BX (B : Nat) (w w' : World) : Prop where
  os : w'.os = w.os
  tape : w'.tape = w.tape
  output : w'.output = w.output
  size : w.heap.size ≤ w'.heap.size
  block : ∀ k, k < w.heap.size → k ≠ B → w'.heap[k]? = w.heap[k]?
theorem BX.refl (B : Nat) (w : World) : BX B w w := ⟨rfl, rfl, rfl, Nat.le_refl _, fun _ _ _ => rfl⟩
theorem BX.trans {B : Nat} {a b c : World} (h : BX B a b) (k : BX B b c) : BX B a c :=
  ⟨k.os.trans h.os, k.tape.trans h.tape, k.output.trans h.output, Nat.le_trans h.size k.size, fun i hi hn => (k.block i (Nat.lt_of_lt_of_le hi h.size) hn).trans (h.block i hi hn)⟩
theorem BX.of_below {B : Nat} {w w' : World} (h : Below w.heap.size w w') : BX B w w' := ⟨h.os, h.tape, h.output, h.size, fun i hi _ => h.block i hi⟩
theorem BX.up {B : Nat} {a w w' : World} (h : BX B a w) (k : Below w.heap.size w w') : BX B a w' := h.trans (BX.of_below k)
theorem BX.set {B : Nat} {a w : World} (h : BX B a w) (i : Nat) (v : Value) : BX B a (w.setCell ⟨B, i, none⟩ v) :=
  h.trans ⟨rfl, rfl, rfl, by simp, fun k _ hn => Below.heap_setCell w ⟨B, i, none⟩ v k hn⟩
theorem BX.cell {B : Nat} {w w' : World} (h : BX B w w') {p : Addr} (hp : p.block < w.heap.size) (hn : p.block ≠ B) : w'.cell? p = w.cell? p := by
  unfold World.cell?; rw [h.block p.block hp hn]
/-- Below a mark that is not above the block nothing has changed. -/
theorem BX.below {B N : Nat} {w w' : World} (h : BX B w w') (hN : N ≤ B) (hB : B < w.heap.size) : Below N w w' :=
  ⟨h.os, h.tape, h.output, h.size, fun k hk => h.block k (by omega) (by omega)⟩

/-- What the variable of errors out of range holds. -/
def ErrIn (w : World) : Prop := ∃ ev, w.cell? ⟨8, 0, none⟩ = some ev ∧ (ev = .nilIface ∨ ∃ te pe, ev = .iface te pe)
/-- A reader of words, so far on. -/
structure RS (w : World) (B : Nat) (p : Option Addr) (c : Nat) (ts : List Tk) (k : Nat) : Prop where
  blk : w.heap[B]? = some (.cells #[.slice p ts.length c, .int .i64 (k : Int)] 76 (0, 0))
  tk : TKL w p ts
  ne : ts = [] ∨ ∀ a, p = some a → a.block ≠ B
  le : k ≤ ts.length
  len : ts.length ≤ 300
  all : AllS ts
  er : ErrIn w
  ge : 8 < B
theorem RS.lt {w : World} {B : Nat} {p : Option Addr} {c : Nat} {ts : List Tk} {k : Nat} (h : RS w B p c ts k) : B < w.heap.size := (Array.getElem?_eq_some_iff.1 h.blk).1
theorem RS.c0 {w : World} {B : Nat} {p : Option Addr} {c : Nat} {ts : List Tk} {k : Nat} (h : RS w B p c ts k) : w.cell? ⟨B, 0, none⟩ = some (.slice p ts.length c) := by
  simp [World.cell?, h.blk]
theorem RS.c1 {w : World} {B : Nat} {p : Option Addr} {c : Nat} {ts : List Tk} {k : Nat} (h : RS w B p c ts k) : w.cell? ⟨B, 1, none⟩ = some (.int .i64 (k : Int)) := by
  simp [World.cell?, h.blk]
theorem RS.fz {w : World} {B : Nat} {p : Option Addr} {c : Nat} {ts : List Tk} {k : Nat} (h : RS w B p c ts k) : w.frozen? ⟨B, 1, none⟩ = false := by
  simp [World.frozen?, h.blk]
theorem TKL.bx {B : Nat} {w w' : World} {p : Option Addr} {L : List Tk} (h : TKL w p L) (hn : L = [] ∨ ∀ a, p = some a → a.block ≠ B) (k : BX B w w') : TKL w' p L := by
  rcases hn with hn | hn
  · exact .inl hn
  rcases h with h | ⟨b, off, h1, h2, h3⟩
  · exact .inl h
  · refine .inr ⟨b, off, h1, Nat.lt_of_lt_of_le h2 k.size, fun i x hx => ?_⟩
    have q : ∀ o, w'.cell? ⟨b, o, none⟩ = w.cell? ⟨b, o, none⟩ := fun o => k.cell (p := ⟨b, o, none⟩) h2 (hn ⟨b, off, none⟩ h1)
    simp only [q]
    exact h3 i x hx
theorem ErrIn.bx {B : Nat} {w w' : World} (h : ErrIn w) (hB : 8 < B) (k : BX B w w') (hlt : B < w.heap.size) : ErrIn w' := by
  obtain ⟨ev, h1, h2⟩ := h
  exact ⟨ev, (k.cell (p := ⟨8, 0, none⟩) (by show 8 < _; omega) (by show 8 ≠ _; omega)).trans h1, h2⟩
/-- What is behind a world that keeps all but the reader, the reader further on. -/
theorem RS.next {w w' : World} {B : Nat} {p : Option Addr} {c : Nat} {ts : List Tk} {k k' : Nat} (h : RS w B p c ts k) (hx : BX B w w') (hk : k' ≤ ts.length)
    (hb : w'.heap[B]? = some (.cells #[.slice p ts.length c, .int .i64 (k' : Int)] 76 (0, 0))) : RS w' B p c ts k' :=
  ⟨hb, h.tk.bx h.ne hx, h.ne, hk, h.len, h.all, h.er.bx h.ge hx h.lt, h.ge⟩
theorem RS.up {w w' : World} {B : Nat} {p : Option Addr} {c : Nat} {ts : List Tk} {k : Nat} (h : RS w B p c ts k) (hb : Below w.heap.size w w') : RS w' B p c ts k :=
  h.next (BX.of_below hb) h.le ((hb.block B h.lt).trans h.blk)
theorem RS.set {w : World} {B : Nat} {p : Option Addr} {c : Nat} {ts : List Tk} {k k' : Nat} (h : RS w B p c ts k) (hk : k' ≤ ts.length) : RS (w.setCell ⟨B, 1, none⟩ (.int .i64 (k' : Int))) B p c ts k' :=
  h.next ((BX.refl B w).set 1 _) hk (heap_setCell_same w B 1 _ _ _ h.blk)
/-- Nodes in a block of nodes. -/
theorem NT.bx {w w' : World} {B : Nat} {p : Option Addr} {c : Nat} {ts : List Tk} {k : Nat} {q : Option Addr} {L : List Nd} (hr : RS w B p c ts k) (h : NT w 0 q L) (hx : BX B w w') : NT w' 0 q L := by
  obtain ⟨h1, h2⟩ := h
  rcases h2 with h2 | ⟨b, o, h2, h3⟩
  · exact ⟨.inl h2, .inl h2⟩
  · rcases h3 with h3 | h3
    · omega
    · have hne : b ≠ B := by
        intro e; subst e
        obtain ⟨cur, fr, hh⟩ := h3
        rw [hr.blk] at hh
        injection hh with hh
        injection hh with _ hh _
        exact absurd hh (by decide)
      have hlt := h3.lt
      refine ⟨?_, .inr ⟨b, o, h2, .inr ?_⟩⟩
      · rcases h1 with h1 | ⟨b', o', e, h4, h5⟩
        · exact .inl h1
        · rw [h2] at e; cases e
          refine .inr ⟨b, o, h2, Nat.lt_of_lt_of_le hlt hx.size, fun i x hi => ?_⟩
          have q : ∀ o, w'.cell? ⟨b, o, none⟩ = w.cell? ⟨b, o, none⟩ := fun o => hx.cell (p := ⟨b, o, none⟩) hlt hne
          simp only [q]
          exact h5 i x hi
      · obtain ⟨cur, fr, hh⟩ := h3
        exact ⟨cur, fr, (hx.block b hlt hne).trans hh⟩
/-- What is thrown. -/
def thrownP (n : Int) : List PanicEntry := [{ v := .iface 78 (.agg #[.iface 31 (.int .i64 n)]), recovered := false }]
/-- How a form is read: its nodes, in memory of their own, and the reader behind it; or a throw, and the reader where it is wrong. -/
def EndP (B : Nat) (p : Option Addr) (c : Nat) (ts : List Tk) (w : World) (res : PRes) (e : Ending) (w' : World) : Prop :=
  match res with
  | .ok x => (∃ q cc, e = .returned (.slice q x.1.length cc) ∧ NT w' 0 q x.1 ∧ x.1.length ≤ cc ∧ cc ≤ maxLen) ∧ RS w' B p c ts (ts.length - x.2.length) ∧ BX B w w'
  | .error y => e = .panicked (thrownP y.2) ∧ RS w' B p c ts (ts.length - y.1) ∧ BX B w w'
/-- A reader that has read so far sees these words. -/
theorem drop_cons {ts r : List Tk} {t : Tk} {k : Nat} (h : ts.drop k = t :: r) : ts.drop (k + 1) = r ∧ k < ts.length ∧ ts.length - r.length = k + 1 := by
  have hl := congrArg List.length h
  rw [List.length_drop, List.length_cons] at hl
  refine ⟨?_, by omega, by omega⟩
  have := congrArg List.tail h
  rwa [List.tail_drop, List.tail_cons] at this
theorem drop_suffix {ts a r : List Tk} {k : Nat} (h : ts.drop k = a ++ r) : ts.drop (ts.length - r.length) = r := by
  have hs : ts = (ts.take k ++ a) ++ r := by rw [List.append_assoc, ← h, List.take_append_drop]
  have hl := congrArg List.length hs
  rw [List.length_append] at hl
  have e : ts.length - r.length = (ts.take k ++ a).length := by omega
  rw [e]
  generalize ts.take k ++ a = m at *
  rw [hs]
  exact List.drop_left ..
end Go.Proofs.YtpbnjdgedifnoaaGreatDoor
namespace Go.Proofs.YtpbnjdgedifnoaaGreatDoor
open Go.RowKit
set_option linter.unusedVariables false

theorem below_draws' {B : Nat} {a w : World} (h : Below B a w) (n : Nat) : Below B a (w.drewN n) := ⟨h.os, h.tape, h.output, h.size, h.block⟩
theorem pneed_true (v : Value) (w : World) : Calls Tryz.prog 40 #[.bool true, v] w fun e w' => e = .returned (.tuple #[]) ∧ w' = w := by
  go_enter Tryz.func40, Tryz.ntmps40
  go_wp2
  go_end0
  exact ⟨rfl, rfl⟩
theorem pneed_false (n : Int) (w : World) : Calls Tryz.prog 40 #[.bool false, .iface 31 (.int .i64 n)] w fun e w' => e = .panicked (thrownP n) ∧ w' = w := by
  go_enter Tryz.func40, Tryz.ntmps40
  go_wp2
  exact ⟨rfl, rfl, rfl⟩
/-- A word as a value. -/
def tokV (t : Tk) : Value := .agg #[.int .i64 t.kind, .string t.s, .int .i64 t.at_]
def itB (t : Tk) : ByteArray := if t.kind = 1 ∨ t.kind = 5 then t.s else ⟨#[]⟩
theorem itself_any (t : Tk) (w : World) : Calls Tryz.prog 75 #[tokV t] w fun e w' => e = .returned (.string (itB t)) ∧ Below w.heap.size w w' := by
  unfold tokV
  go_enter Tryz.func75, Tryz.ntmps75
  go_wp2
  · rename_i h
    go_ret
    exact ⟨by unfold itB; rw [if_pos (Or.inl h)]; rfl, (Below.refl _ _).alloc (Nat.le_refl _) _⟩
  · rename_i h1 h
    go_ret
    have h5 : t.kind = 5 := by
      rcases h with h | h
      · exact absurd (by simpa using h) h1
      · simpa using h
    exact ⟨by unfold itB; rw [if_pos (Or.inr h5)]; rfl, (Below.refl _ _).alloc (Nat.le_refl _) _⟩
  · rename_i h1 h
    go_ret
    have h5 : ¬ t.kind = 5 := by simpa using h.2
    exact ⟨by unfold itB; rw [if_neg (by rintro (h | h) <;> contradiction)]; rfl, (Below.refl _ _).alloc (Nat.le_refl _) _⟩
theorem hdT_at {ts : List Tk} {k : Nat} (h : k < ts.length) : hdT (ts.drop k) = ts[k] := by
  rw [List.drop_eq_getElem_cons h]; rfl
theorem hdT_end {ts : List Tk} {k : Nat} (h : ¬ k < ts.length) : hdT (ts.drop k) = bT := by
  rw [List.drop_of_length_le (by omega)]; rfl
set_option maxRecDepth 100000 in
set_option maxHeartbeats 1000000 in
theorem ahead_any (w : World) (B : Nat) (p : Option Addr) (c : Nat) (ts : List Tk) (k i : Nat) (h : RS w B p c ts k) (hi : i ≤ 1) :
    Calls Tryz.prog 76 #[.pointer (some ⟨B, 0, none⟩), .int .i64 (i : Int)] w fun e w' => e = .returned (tokV (hdT ((ts.drop k).drop i))) ∧ Below w.heap.size w w' := by
  have hb0 : Below w.heap.size w (w.alloc (.cells #[.int .i64 0, .string ⟨#[]⟩, .int .i64 0] 47)) := (Below.refl _ _).alloc (Nat.le_refl _) _
  have hr := h.up hb0
  have c0 := hr.c0
  have c1 := hr.c1
  have htk := hr.tk
  have hle := h.le
  have hlen := h.len
  have hc : ∀ o, (w.alloc (.cells #[.int .i64 0, .string ⟨#[]⟩, .int .i64 0] 47)).frozen? ⟨w.heap.size, o, none⟩ = false := by intro o; simp [go_sem]
  have d0 : (w.alloc (.cells #[.int .i64 0, .string ⟨#[]⟩, .int .i64 0] 47)).cell? ⟨w.heap.size, 0, none⟩ = some (.int .i64 0) := by simp [go_sem]
  have d1 : (w.alloc (.cells #[.int .i64 0, .string ⟨#[]⟩, .int .i64 0] 47)).cell? ⟨w.heap.size, 1, none⟩ = some (.string ⟨#[]⟩) := by simp [go_sem]
  have d2 : (w.alloc (.cells #[.int .i64 0, .string ⟨#[]⟩, .int .i64 0] 47)).cell? ⟨w.heap.size, 2, none⟩ = some (.int .i64 0) := by simp [go_sem]
  have f0 := hc 0
  have f1 := hc 1
  have f2 := hc 2
  rw [List.drop_drop]
  clear hr h hc
  generalize hW0 : w.alloc (.cells #[.int .i64 0, .string ⟨#[]⟩, .int .i64 0] 47) = w0 at *
  by_cases hlt : k + i < ts.length
  · have i1 : (k : Int) + (i : Int) < (ts.length : Int) := by omega
    have i2 : (k : Int) ≤ 300 := by omega
    have i3 : (i : Int) ≤ 1 := by omega
    obtain ⟨b, off, rfl, hbw, x0, x1, x2⟩ := htk.at hlt
    rw [hdT_at hlt]
    unfold tokV
    generalize ts[k + i] = t at *
    have hwr : IntKind.i64.wrap ((k : Int) + (i : Int)) = (k : Int) + (i : Int) := IntWalk.i64_in _ (by omega)
    have i4 : (0 : Int) ≤ (k : Int) + (i : Int) := by omega
    go_enter Tryz.func76, Tryz.ntmps76
    go_wp2
    go_quiet (fail)
    go_wp2
    have i5 : ((k : Int) + (i : Int)).toNat = k + i := by omega
    have hbd : Below w.heap.size w (w0.drewN nq).drew := (below_draws' hb0 nq).drew
    have y0 : (w0.drewN nq).drew.cell? ⟨b, off + (k + i) * 3, none⟩ = some (.int .i64 t.kind) := x0
    have y1 : (w0.drewN nq).drew.cell? ⟨b, off + (k + i) * 3 + 1, none⟩ = some (.string t.s) := x1
    have y2 : (w0.drewN nq).drew.cell? ⟨b, off + (k + i) * 3 + 2, none⟩ = some (.int .i64 t.at_) := x2
    have e0 : (w0.drewN nq).drew.cell? ⟨w.heap.size, 0, none⟩ = some (.int .i64 0) := d0
    have e1 : (w0.drewN nq).drew.cell? ⟨w.heap.size, 1, none⟩ = some (.string ⟨#[]⟩) := d1
    have e2 : (w0.drewN nq).drew.cell? ⟨w.heap.size, 2, none⟩ = some (.int .i64 0) := d2
    have g0 : (w0.drewN nq).drew.frozen? ⟨w.heap.size, 0, none⟩ = false := f0
    have g1 : (w0.drewN nq).drew.frozen? ⟨w.heap.size, 1, none⟩ = false := f1
    have g2 : (w0.drewN nq).drew.frozen? ⟨w.heap.size, 2, none⟩ = false := f2
    have s0 : (w0.drewN nq).drew.cell? ⟨B, 0, none⟩ = some (.slice (some ⟨b, off, none⟩) ts.length c) := c0
    have s1 : (w0.drewN nq).drew.cell? ⟨B, 1, none⟩ = some (.int .i64 (k : Int)) := c1
    refine wp_region_still_tail 12 (by kernel_rfl) (by kernel_rfl) ?_
    change wpStill _ _ (w0.drewN nq).drew (fun a' => wpList _ _ _ _ a' (w0.drewN nq).drew) _ _
    clear x0 x1 x2 d0 d1 d2 f0 f1 f2 c0 c1 htk hW0 hb0
    generalize (w0.drewN nq).drew = wd at *
    simp only [List.take_succ_cons, List.take_zero, List.drop_succ_cons, List.drop_zero]
    repeat still_step
    refine wpStill_nil ?_
    go_wp2
    refine bodyPost_ret (v := .agg #[.int .i64 t.kind, .string t.s, .int .i64 t.at_]) (by simp [results, Tryz.results76, go_sem, e0, e1, e2]) rfl ⟨rfl, ?_⟩
    exact ((hbd.setCell (Nat.le_refl _) _).setCell (Nat.le_refl _) _).setCell (Nat.le_refl _) _
  · have i1 : ¬ (k : Int) + (i : Int) < (ts.length : Int) := by omega
    have i2 : (k : Int) ≤ 300 := by omega
    have i3 : (i : Int) ≤ 1 := by omega
    have hwr : IntKind.i64.wrap ((k : Int) + (i : Int)) = (k : Int) + (i : Int) := IntWalk.i64_in _ (by omega)
    rw [hdT_end hlt]
    unfold tokV bT
    go_enter Tryz.func76, Tryz.ntmps76
    go_wp2
    go_quiet (fail)
    go_wp2
    refine bodyPost_ret (v := .agg #[.int .i64 0, .string ⟨#[]⟩, .int .i64 0]) (by simp [results, Tryz.results76, go_sem, d0, d1, d2]) rfl ⟨rfl, ?_⟩
    exact (((below_draws' hb0 nq).setCell (Nat.le_refl _) _).setCell (Nat.le_refl _) _).setCell (Nat.le_refl _) _
theorem bytes_beq' (a b : ByteArray) : (a == b) = true ↔ a = b := by
  obtain ⟨x⟩ := a
  obtain ⟨y⟩ := b
  constructor
  · intro h
    have e : x = y := by simpa using (show (x == y) = true from h)
    rw [e]
  · intro h
    injection h with h
    show (x == y) = true
    rw [h]; simp
theorem itB_its (t : Tk) : (itB t).data.toList = its t := by
  unfold itB its
  split
  · rfl
  · rfl
theorem sayB_eq (l : List Tk) (s : ByteArray) : (itB (hdT l) == s) = sayB l s.data.toList := by
  unfold sayB
  rw [Bool.eq_iff_iff]
  simp only [decide_eq_true_eq]
  rw [← itB_its, bytes_beq']
  constructor
  · intro h; rw [h]
  · intro h
    obtain ⟨⟨a⟩⟩ := s
    generalize itB (hdT l) = x at *
    obtain ⟨⟨b⟩⟩ := x
    simp at h
    rw [h]
theorem ahead0_any (w : World) (B : Nat) (p : Option Addr) (c : Nat) (ts : List Tk) (k : Nat) (h : RS w B p c ts k) :
    Calls Tryz.prog 76 #[.pointer (some ⟨B, 0, none⟩), .int .i64 0] w fun e w' => e = .returned (tokV (hdT (ts.drop k))) ∧ Below w.heap.size w w' :=
  ahead_any w B p c ts k 0 h (by omega)
theorem ahead1_any (w : World) (B : Nat) (p : Option Addr) (c : Nat) (ts : List Tk) (k : Nat) (h : RS w B p c ts k) :
    Calls Tryz.prog 76 #[.pointer (some ⟨B, 0, none⟩), .int .i64 1] w fun e w' => e = .returned (tokV (hdT (ts.drop k).tail)) ∧ Below w.heap.size w w' := by
  have := ahead_any w B p c ts k 1 h (by omega)
  rwa [List.drop_one] at this
set_option maxRecDepth 100000 in
set_option maxHeartbeats 1000000 in
theorem says_any (w : World) (B : Nat) (p : Option Addr) (c : Nat) (ts : List Tk) (k : Nat) (s : ByteArray) (h : RS w B p c ts k) :
    Calls Tryz.prog 74 #[.pointer (some ⟨B, 0, none⟩), .string s] w fun e w' => e = .returned (.bool (sayB (ts.drop k) s.data.toList)) ∧ Below w.heap.size w w' := by
  rw [← sayB_eq]
  have H1 := ahead0_any w B p c ts k h
  generalize hdT (ts.drop k) = t at *
  have H2 := itself_any t
  go_enter Tryz.func74, Tryz.ntmps74
  go_wp2_with fail
  refine H1.mono ?_
  rintro e w1 ⟨rfl, hb1⟩
  unfold tokV at *
  go_wp2_with fail
  refine (H2 _).mono ?_
  rintro e w2 ⟨rfl, hb2⟩
  go_wp2
  go_ret
  exact ⟨by rw [beq_toListBytes]; rfl, hb1.trans (hb2.mono hb1.size)⟩
set_option maxRecDepth 100000 in
set_option maxHeartbeats 1000000 in
theorem passes_no (w : World) (B : Nat) (p : Option Addr) (c : Nat) (ts : List Tk) (k : Nat) (s : ByteArray) (h : RS w B p c ts k) (hs : sayB (ts.drop k) s.data.toList = false) :
    Calls Tryz.prog 118 #[.pointer (some ⟨B, 0, none⟩), .string s] w fun e w' => e = .returned (.bool false) ∧ Below w.heap.size w w' := by
  have H1 := says_any w B p c ts k s h
  rw [hs] at H1
  go_enter Tryz.func118, Tryz.ntmps118
  go_wp2_with fail
  refine H1.mono ?_
  rintro e w1 ⟨rfl, hb1⟩
  go_wp2
  go_ret
  exact ⟨rfl, hb1⟩
theorem sayB_lt {ts : List Tk} {k : Nat} {c : UInt8} {s : List UInt8} (h : sayB (ts.drop k) (c :: s) = true) : k < ts.length := by
  by_cases hk : k < ts.length
  · exact hk
  · unfold sayB at h
    rw [hdT_end hk] at h
    simp [its, bT] at h
set_option maxRecDepth 100000 in
set_option maxHeartbeats 1000000 in
theorem passes_yes (w : World) (B : Nat) (p : Option Addr) (c : Nat) (ts : List Tk) (k : Nat) (s : ByteArray) (h : RS w B p c ts k) (hs : sayB (ts.drop k) s.data.toList = true) (hk : k < ts.length) :
    Calls Tryz.prog 118 #[.pointer (some ⟨B, 0, none⟩), .string s] w fun e w' => e = .returned (.bool true) ∧ RS w' B p c ts (k + 1) ∧ BX B w w' := by
  have H1 := says_any w B p c ts k s h
  rw [hs] at H1
  have i1 : (k : Int) ≤ 300 := by have := h.len; omega
  go_enter Tryz.func118, Tryz.ntmps118
  go_wp2_with fail
  refine H1.mono ?_
  rintro e w1 ⟨rfl, hb1⟩
  have h1 := h.up hb1
  have c1 := h1.c1
  have f1 := h1.fz
  go_wp2
  go_ret
  refine ⟨rfl, ?_, ?_⟩
  · exact h1.set (k' := k + 1) (by omega)
  · exact (BX.of_below hb1).set 1 _
end Go.Proofs.YtpbnjdgedifnoaaGreatDoor
namespace Go.Proofs.YtpbnjdgedifnoaaGreatDoor
open Go.RowKit
set_option linter.unusedVariables false
set_option maxRecDepth 100000

set_option maxHeartbeats 1000000 in
theorem pass_ok (w : World) (B : Nat) (p : Option Addr) (c : Nat) (ts : List Tk) (k : Nat) (s : ByteArray) (h : RS w B p c ts k) (hs : sayB (ts.drop k) s.data.toList = true) (hk : k < ts.length) :
    Calls Tryz.prog 78 #[.pointer (some ⟨B, 0, none⟩), .string s] w fun e w' => e = .returned (.tuple #[]) ∧ RS w' B p c ts (k + 1) ∧ BX B w w' := by
  have H1 := passes_yes w B p c ts k s h hs hk
  go_enter Tryz.func78, Tryz.ntmps78
  go_wp2_with fail
  refine H1.mono ?_
  rintro e w1 ⟨rfl, h1, hx1⟩
  go_wp2_with fail
  refine (pneed_true _ _).mono ?_
  rintro e w2 ⟨rfl, rfl⟩
  go_wp2
  go_end0
  exact ⟨rfl, h1, hx1⟩
set_option maxHeartbeats 1000000 in
theorem pass_bad (w : World) (B : Nat) (p : Option Addr) (c : Nat) (ts : List Tk) (k : Nat) (s : ByteArray) (h : RS w B p c ts k) (hs : sayB (ts.drop k) s.data.toList = false) :
    Calls Tryz.prog 78 #[.pointer (some ⟨B, 0, none⟩), .string s] w fun e w' => e = .panicked (thrownP 1) ∧ RS w' B p c ts k ∧ BX B w w' := by
  have H1 := passes_no w B p c ts k s h hs
  go_enter Tryz.func78, Tryz.ntmps78
  go_wp2_with fail
  refine H1.mono ?_
  rintro e w1 ⟨rfl, hb1⟩
  go_wp2_with fail
  refine (pneed_false _ _).mono ?_
  rintro e w2 ⟨rfl, rfl⟩
  go_wp2
  exact ⟨rfl, rfl, h.up hb1, BX.of_below hb1⟩
set_option maxHeartbeats 1000000 in
theorem take_ok (w : World) (B : Nat) (p : Option Addr) (c : Nat) (ts : List Tk) (k : Nat) (kd : Int) (h : RS w B p c ts k) (hk : k < ts.length) (hd : (hdT (ts.drop k)).kind = kd) :
    Calls Tryz.prog 171 #[.pointer (some ⟨B, 0, none⟩), .int .i64 kd] w fun e w' => e = .returned (.string (hdT (ts.drop k)).s) ∧ RS w' B p c ts (k + 1) ∧ BX B w w' := by
  have H1 := ahead0_any w B p c ts k h
  have i1 : (k : Int) ≤ 300 := by have := h.len; omega
  generalize hdT (ts.drop k) = t at *
  unfold tokV at H1
  subst hd
  go_enter Tryz.func171, Tryz.ntmps171
  go_wp2_with fail
  refine H1.mono ?_
  rintro e w1 ⟨rfl, hb1⟩
  have hbt : Below w1.heap.size w1 (w1.alloc (.cells #[.int .i64 t.kind, .string t.s, .int .i64 t.at_] 47)) := (Below.refl _ _).alloc (Nat.le_refl _) _
  have h1 := (h.up hb1).up hbt
  have c1 := h1.c1
  have f1 := h1.fz
  go_wp2_with fail
  refine (pneed_true _ _).mono ?_
  rintro e w2 ⟨rfl, rfl⟩
  have hsz : w1.heap.size ≠ B := by have := (h.up hb1).lt; omega
  go_wp2
  go_ret
  exact ⟨rfl, h1.set (k' := k + 1) (by omega), ((BX.of_below hb1).up hbt).set 1 _⟩
set_option maxHeartbeats 1000000 in
theorem take_bad (w : World) (B : Nat) (p : Option Addr) (c : Nat) (ts : List Tk) (k : Nat) (kd : Int) (h : RS w B p c ts k) (hd : ((hdT (ts.drop k)).kind == kd) = false) :
    Calls Tryz.prog 171 #[.pointer (some ⟨B, 0, none⟩), .int .i64 kd] w fun e w' => e = .panicked (thrownP 1) ∧ RS w' B p c ts k ∧ BX B w w' := by
  have H1 := ahead0_any w B p c ts k h
  generalize hdT (ts.drop k) = t at *
  unfold tokV at H1
  go_enter Tryz.func171, Tryz.ntmps171
  go_wp2_with fail
  refine H1.mono ?_
  rintro e w1 ⟨rfl, hb1⟩
  have hbt : Below w1.heap.size w1 (w1.alloc (.cells #[.int .i64 t.kind, .string t.s, .int .i64 t.at_] 47)) := (Below.refl _ _).alloc (Nat.le_refl _) _
  go_wp2_with fail
  refine (pneed_false _ _).mono ?_
  rintro e w2 ⟨rfl, rfl⟩
  go_wp2
  exact ⟨rfl, rfl, (h.up hb1).up hbt, (BX.of_below hb1).up hbt⟩
end Go.Proofs.YtpbnjdgedifnoaaGreatDoor
namespace Go.Proofs.YtpbnjdgedifnoaaGreatDoor
open Go.RowKit Go.Maps Go.WideMaps
set_option linter.unusedVariables false
set_option maxRecDepth 100000

theorem key_law : Keyed Tryz.prog 9 := string_keyed Tryz.underlying9
theorem zero_int (w : World) : (zeroValue 3).run Tryz.prog w = .ok (.int .i64 0) w := by kernel_rfl

/-- A map tells what a function tells of each text. -/
structure OpsM (D : DataW Unit) (f : List UInt8 → Option Int) : Prop where
  has : ∀ x : List UInt8, Maps.has D (.string x) = (f x).isSome
  val : ∀ x : List UInt8, D.atKey (.string x) (.lit (.int .i64 0)) = .lit (.int .i64 ((f x).getD 0))
def putF (f : List UInt8 → Option Int) (k : List UInt8) (o : Int) : List UInt8 → Option Int := fun x => if x = k then some o else f x
def noF : List UInt8 → Option Int := fun _ => none
theorem OpsM.start : OpsM (.map []) noF := ⟨fun x => by simp [Maps.has, noF], fun x => rfl⟩
theorem OpsM.put {D : DataW Unit} {f : List UInt8 → Option Int} (h : OpsM D f) (ht : Tidy D) (k : List UInt8) (o : Int) : OpsM (D.put (.string k) (.lit (.int .i64 o))) (putF f k o) := by
  have hkl : WideAt.IsKeyLit (.string k) := trivial
  refine ⟨fun x => ?_, fun x => ?_⟩
  · by_cases e : x = k
    · subst e
      rw [has_put_same ht.isMap hkl]
      simp [putF]
    · rw [has_put_other (fun q => e (by injection q)), h.has]
      simp [putF, e]
  · by_cases e : x = k
    · subst e
      rw [atKey_put_same ht.isMap hkl]
      simp [putF]
    · rw [atKey_put_other (fun q => e (by injection q)), h.val]
      simp [putF, e]
/-- A map of the call's own in a block, with at most so many names. -/
def OM (w : World) (b n : Nat) (f : List UInt8 → Option Int) : Prop := ∃ D, w.ownsMap Tryz.prog 9 (plainElem Tryz.prog 3) b n D ∧ OpsM D f
theorem OM.made (w : World) : OM (w.alloc (.map #[] 0)) w.heap.size 0 noF := ⟨.map [], World.ownsMap_made _ _ _ _, OpsM.start⟩
theorem OM.put {w : World} {b n : Nat} {f : List UInt8 → Option Int} (h : OM w b n f) (hn : n ≤ 10) (k : ByteArray) (hk : k.size ≤ maxLen) (o : Int) (ho : 0 ≤ o) (ho2 : o ≤ 100) :
    ∃ w', (Instr.mapUpdate 144 (.map (some b)) (.string k) (.int .i64 o)).run Tryz.prog w = .ok () w' ∧ OM w' b (n + 1) (putF f k.data.toList o) ∧ w.grownBy w' (some b) := by
  obtain ⟨D, h1, h2⟩ := h
  obtain ⟨w', r1, r2, r3⟩ := h1.update (t := 144) (e := 3) key_law Tryz.underlying144 (by unfold maxLen; omega) (keyOf_string_mk Tryz.underlying9 hk) (plainElem_int Tryz.underlying3 (WalkArith.wf_i64 (n := o) (by omega)))
  exact ⟨w', r1, ⟨_, r2, h2.put (h1.tidy key_law) _ _⟩, r3⟩
theorem OM.lt {w : World} {b n : Nat} {f : List UInt8 → Option Int} (h : OM w b n f) : b < w.heap.size := by
  obtain ⟨D, h1, h2⟩ := h; exact h1.lt
theorem OM.of_block {w w' : World} {b n : Nat} {f : List UInt8 → Option Int} (h : OM w b n f) (hb : w'.heap[b]? = w.heap[b]?) : OM w' b n f := by
  obtain ⟨D, ⟨es, clock, h1, h3⟩, h2⟩ := h
  exact ⟨D, ⟨es, clock, hb.trans h1, h3⟩, h2⟩
theorem OM.ne {w : World} {b n : Nat} {f : List UInt8 → Option Int} {B : Nat} {p : Option Addr} {c : Nat} {ts : List Tk} {k : Nat} (h : OM w b n f) (hr : RS w B p c ts k) : b ≠ B := by
  intro e; subst e
  obtain ⟨D, ⟨es, clock, h1, h3⟩, h2⟩ := h
  rw [hr.blk] at h1
  injection h1 with h1
  cases h1
theorem OM.bx {w w' : World} {b n : Nat} {f : List UInt8 → Option Int} {B : Nat} {p : Option Addr} {c : Nat} {ts : List Tk} {k : Nat} (h : OM w b n f) (hr : RS w B p c ts k) (hx : BX B w w') : OM w' b n f :=
  h.of_block (hx.block b h.lt (h.ne hr))
theorem OM.up {w w' : World} {b n : Nat} {f : List UInt8 → Option Int} (h : OM w b n f) (hb : Below w.heap.size w w') : OM w' b n f := h.of_block (hb.block b h.lt)
/-- A map that is laid in a block above all that lay there keeps what lay there. -/
theorem grown_below {w0 w w' : World} {b : Nat} (h : Below w0.heap.size w0 w) (hg : w.grownBy w' (some b)) (hb : w0.heap.size ≤ b) : Below w0.heap.size w0 w' :=
  h.grown hg h.size (fun j hj => by cases hj; exact hb)
theorem lookup_op (w : World) {ops : Array Oper} {rest : List Oper} {o : Oper} {a : Act} {Q : Exit → Act → World → Prop} (hg : o.guard = none) (m x : Operand) (hop : o.op = Op.lookup 144 m x true)
    (b n : Nat) (f : List UInt8 → Option Int) (hm : a.eval m = .map (some b)) (hown : OM w b n f) (s : ByteArray) (hx : a.eval x = .string s) (hs : s.size ≤ maxLen)
    (hK : wpList Tryz.prog ops Q rest (a.put o.dst (.tuple #[.int .i64 ((f s.data.toList).getD 0), .bool (f s.data.toList).isSome])) w) : wpList Tryz.prog ops Q (o :: rest) a w := by
  obtain ⟨D, h1, h2⟩ := hown
  exact wpList_lookup_own_ok_int w hg m x 144 hop 9 3 .i64 key_law Tryz.underlying144 Tryz.underlying3 (zero_int _) b n D hm h1 _ _ hx (keyOf_string_mk Tryz.underlying9 hs) (fun c hat _ => by
    rw [h2.val] at hat
    injection hat with h1
    injection h1 with _ h3
    rw [← h3, h2.has]; exact hK)
end Go.Proofs.YtpbnjdgedifnoaaGreatDoor
