/- Package fold: chosen, better, by walks of their own texts (written by a script of our own). Package fold: joined, chosen, better, whole. Package fold: best, by a walk of its own text. Package fold: Better, by a walk of its own text; what it tells of two plus three. -/
import Derived.Test.YtnilaghbbhmkgaaGreatDoorF46
import Derived.Test.YtnilaghbbhmkgaaGreatDoorF33
import Derived.WalkMore
import Derived.ScopeJumps
namespace Go.Proofs.YtnilaghbbhmkgaaGreatDoor
open Go.RowKit
set_option linter.unusedVariables false
set_option linter.unusedSectionVars false
set_option maxRecDepth 100000

/-- The rows of three parts. -/
theorem KV.three {w : World} {a b c : Nd} {ka kb kc : Fo} {v : Value} {S : Nat → Prop} (h : KV w (.cons a ka (.cons b kb (.cons c kc .nil))) v S) : ∃ g cap ua ub uc Sa Sb Sc, v = .slice (some ⟨g, 0, none⟩) 3 cap ∧ PC w g 0 a ua ∧ PC w g 5 b ub ∧ PC w g 10 c uc ∧ a.wf ∧ b.wf ∧ c.wf ∧ KV w ka ua Sa ∧ KV w kb ub Sb ∧ KV w kc uc Sc ∧ (∀ d, Sb d → S d) ∧ (∀ d, Sc d → S d) := by
  obtain ⟨g, cap, ua, Sa, hv, h1, h2, h3, h4, _⟩ := KV.at (a := .nil) h
  obtain ⟨g', cap', ub, Sb, hv', h5, h6, h7, h8, _⟩ := KV.at (a := .cons a ka .nil) h
  rw [hv] at hv'
  cases hv'
  obtain ⟨g', cap', uc, Sc, hv', h9, h10, h11, h12, _⟩ := KV.at (a := .cons a ka (.cons b kb .nil)) h
  rw [hv] at hv'
  cases hv'
  refine ⟨g, cap, ua, ub, uc, Sa, Sb, Sc, hv, ?_, ?_, ?_, h2, h6, h10, h3, h7, h11, fun d hd => (h8 d hd).1, fun d hd => (h12 d hd).1⟩
  · simpa [Fo.len] using h1
  · simpa [Fo.len] using h5
  · simpa [Fo.len] using h9
/-- The row of one part. -/
theorem KV.single {w : World} {a : Nd} {ka : Fo} {v : Value} {S : Nat → Prop} (h : KV w (.cons a ka .nil) v S) : ∃ g cap ua Sa, v = .slice (some ⟨g, 0, none⟩) 1 cap ∧ PC w g 0 a ua ∧ a.wf ∧ KV w ka ua Sa ∧ (∀ d, Sa d → S d) := by
  obtain ⟨g, cap, ua, Sa, hv, h1, h2, h3, h4, _⟩ := KV.at (a := .nil) h
  refine ⟨g, cap, ua, Sa, hv, ?_, h2, h3, fun d hd => (h4 d hd).1⟩
  simpa [Fo.len] using h1
/-- BRet, with what is told named. -/
def BY (Y : Nd × Fo) (b : Bool) (S : Nat → Prop) (w : World) (en : Ending) (w' : World) : Prop :=
  (∃ (v' : Value) (S' : Nat → Prop), en = .returned (.tuple #[partV Y.1 v', .bool b]) ∧ Y.1.wf ∧ KV w' Y.2 v' S' ∧ (∀ a, S' a → S a ∨ w.heap.size ≤ a)) ∧ Below w.heap.size w w'
section
variable (x : Nd) (w : World) (v : Value) (S : Nat → Prop)
set_option maxHeartbeats 2000000 in
theorem chosen_no (a b c : Nd) (ka kb kc : Fo) (hv : KV w (.cons a ka (.cons b kb (.cons c kc .nil))) v S) (hB : Bd w S) (hx : x.wf) (h1 : (a.op == 1) = false) :
    Calls Tryz.prog 94 #[partV x v] w fun en w' => BRet (none) x (.cons a ka (.cons b kb (.cons c kc .nil))) S w en w' := by
  obtain ⟨g, cap, ua, ub, uc, Sa, Sb, Sc, rfl, hPa, hPb, hPc, haw, hbw, hcw, hva, hvb, hvc, hSb, hSc⟩ := hv.three
  obtain ⟨qa, ca, rfl, _⟩ := hva.slice
  obtain ⟨qb, cb, rfl, _⟩ := hvb.slice
  obtain ⟨qc, cc, rfl, _⟩ := hvc.slice
  have HV : Hid (KV w (.cons a ka (.cons b kb (.cons c kc .nil))) (.slice (some ⟨g, 0, none⟩) 3 cap) S) := hv
  clear hv
  obtain ⟨a0, a1, a2, a3, a4⟩ := hPa.cells
  obtain ⟨b0, b1, b2, b3, b4⟩ := hPb.cells
  obtain ⟨d0, d1, d2, d3, d4⟩ := hPc.cells
  have hgl := hPa.lt
  have n1 : ¬ g = w.heap.size := by omega
  have n2 : ¬ g = w.heap.size + 1 := by omega
  have n3 : ¬ g = w.heap.size + 1 + 1 := by omega
  have hoff := hB.off (n := w.heap.size + 1) (by omega)
  unfold partV at *
  dsimp only [Nat.zero_add, Nat.reduceAdd] at a0 a1 a2 a3 a4 b0 b1 b2 b3 b4 d0 d1 d2 d3 d4
  have hb3 : ∀ o1 o2 o3, Below w.heap.size w (((w.alloc o1).alloc o2).alloc o3) := fun o1 o2 o3 => fbA (fbA (fbA (Below.refl _ _)))
  have p0 := fun o1 o2 o3 => (hPb.up (hb3 o1 o2 o3)).cells.1
  have p1 := fun o1 o2 o3 => (hPb.up (hb3 o1 o2 o3)).cells.2.1
  have p2 := fun o1 o2 o3 => (hPb.up (hb3 o1 o2 o3)).cells.2.2.1
  have p3 := fun o1 o2 o3 => (hPb.up (hb3 o1 o2 o3)).cells.2.2.2.1
  have p4 := fun o1 o2 o3 => (hPb.up (hb3 o1 o2 o3)).cells.2.2.2.2
  have q0 := fun o1 o2 o3 => (hPc.up (hb3 o1 o2 o3)).cells.1
  have q1 := fun o1 o2 o3 => (hPc.up (hb3 o1 o2 o3)).cells.2.1
  have q2 := fun o1 o2 o3 => (hPc.up (hb3 o1 o2 o3)).cells.2.2.1
  have q3 := fun o1 o2 o3 => (hPc.up (hb3 o1 o2 o3)).cells.2.2.2.1
  have q4 := fun o1 o2 o3 => (hPc.up (hb3 o1 o2 o3)).cells.2.2.2.2
  dsimp only [Nat.zero_add, Nat.reduceAdd] at p0 p1 p2 p3 p4 q0 q1 q2 q3 q4
  go_enter Tryz.func94, Tryz.ntmps94
  go_wp2
  exact bodyPost_ret (v := .tuple #[.agg #[.int .i64 x.op, .int .i64 x.n, .string x.s, .string x.t, .slice (some ⟨g, 0, none⟩) 3 cap], .bool false]) (by simp [results, Tryz.results94, go_sem]) rfl ⟨⟨_, S, rfl, hx, HV.out.up (hb3 _ _ _), fun d hd => .inl hd⟩, hb3 _ _ _⟩
set_option maxHeartbeats 2000000 in
theorem chosen_yes (a b c : Nd) (ka kb kc : Fo) (hv : KV w (.cons a ka (.cons b kb (.cons c kc .nil))) v S) (hB : Bd w S) (hx : x.wf) (h1 : (a.op != 1) = false) (h2 : (a.n == 1) = true) :
    Calls Tryz.prog 94 #[partV x v] w fun en w' => BRet (some (b, kb)) x (.cons a ka (.cons b kb (.cons c kc .nil))) S w en w' := by
  obtain ⟨g, cap, ua, ub, uc, Sa, Sb, Sc, rfl, hPa, hPb, hPc, haw, hbw, hcw, hva, hvb, hvc, hSb, hSc⟩ := hv.three
  obtain ⟨qa, ca, rfl, _⟩ := hva.slice
  obtain ⟨qb, cb, rfl, _⟩ := hvb.slice
  obtain ⟨qc, cc, rfl, _⟩ := hvc.slice
  have HV : Hid (KV w (.cons a ka (.cons b kb (.cons c kc .nil))) (.slice (some ⟨g, 0, none⟩) 3 cap) S) := hv
  clear hv
  obtain ⟨a0, a1, a2, a3, a4⟩ := hPa.cells
  obtain ⟨b0, b1, b2, b3, b4⟩ := hPb.cells
  obtain ⟨d0, d1, d2, d3, d4⟩ := hPc.cells
  have hgl := hPa.lt
  have n1 : ¬ g = w.heap.size := by omega
  have n2 : ¬ g = w.heap.size + 1 := by omega
  have n3 : ¬ g = w.heap.size + 1 + 1 := by omega
  have hoff := hB.off (n := w.heap.size + 1) (by omega)
  unfold partV at *
  dsimp only [Nat.zero_add, Nat.reduceAdd] at a0 a1 a2 a3 a4 b0 b1 b2 b3 b4 d0 d1 d2 d3 d4
  have hb3 : ∀ o1 o2 o3, Below w.heap.size w (((w.alloc o1).alloc o2).alloc o3) := fun o1 o2 o3 => fbA (fbA (fbA (Below.refl _ _)))
  have p0 := fun o1 o2 o3 => (hPb.up (hb3 o1 o2 o3)).cells.1
  have p1 := fun o1 o2 o3 => (hPb.up (hb3 o1 o2 o3)).cells.2.1
  have p2 := fun o1 o2 o3 => (hPb.up (hb3 o1 o2 o3)).cells.2.2.1
  have p3 := fun o1 o2 o3 => (hPb.up (hb3 o1 o2 o3)).cells.2.2.2.1
  have p4 := fun o1 o2 o3 => (hPb.up (hb3 o1 o2 o3)).cells.2.2.2.2
  have q0 := fun o1 o2 o3 => (hPc.up (hb3 o1 o2 o3)).cells.1
  have q1 := fun o1 o2 o3 => (hPc.up (hb3 o1 o2 o3)).cells.2.1
  have q2 := fun o1 o2 o3 => (hPc.up (hb3 o1 o2 o3)).cells.2.2.1
  have q3 := fun o1 o2 o3 => (hPc.up (hb3 o1 o2 o3)).cells.2.2.2.1
  have q4 := fun o1 o2 o3 => (hPc.up (hb3 o1 o2 o3)).cells.2.2.2.2
  dsimp only [Nat.zero_add, Nat.reduceAdd] at p0 p1 p2 p3 p4 q0 q1 q2 q3 q4
  go_enter Tryz.func94, Tryz.ntmps94
  go_wp2
  exact bodyPost_ret (v := .tuple #[.agg #[.int .i64 b.op, .int .i64 b.n, .string b.s, .string b.t, .slice qb kb.len cb], .bool true]) (by simp [results, Tryz.results94, go_sem]) rfl ⟨⟨_, Sb, rfl, hbw, hvb.up (hb3 _ _ _), fun d hd => .inl (hSb d hd)⟩, hb3 _ _ _⟩
set_option maxHeartbeats 2000000 in
theorem chosen_else (a b c : Nd) (ka kb kc : Fo) (hv : KV w (.cons a ka (.cons b kb (.cons c kc .nil))) v S) (hB : Bd w S) (hx : x.wf) (h1 : (a.op != 1) = false) (h2 : (a.n == 1) = false) :
    Calls Tryz.prog 94 #[partV x v] w fun en w' => BRet (some (c, kc)) x (.cons a ka (.cons b kb (.cons c kc .nil))) S w en w' := by
  obtain ⟨g, cap, ua, ub, uc, Sa, Sb, Sc, rfl, hPa, hPb, hPc, haw, hbw, hcw, hva, hvb, hvc, hSb, hSc⟩ := hv.three
  obtain ⟨qa, ca, rfl, _⟩ := hva.slice
  obtain ⟨qb, cb, rfl, _⟩ := hvb.slice
  obtain ⟨qc, cc, rfl, _⟩ := hvc.slice
  have HV : Hid (KV w (.cons a ka (.cons b kb (.cons c kc .nil))) (.slice (some ⟨g, 0, none⟩) 3 cap) S) := hv
  clear hv
  obtain ⟨a0, a1, a2, a3, a4⟩ := hPa.cells
  obtain ⟨b0, b1, b2, b3, b4⟩ := hPb.cells
  obtain ⟨d0, d1, d2, d3, d4⟩ := hPc.cells
  have hgl := hPa.lt
  have n1 : ¬ g = w.heap.size := by omega
  have n2 : ¬ g = w.heap.size + 1 := by omega
  have n3 : ¬ g = w.heap.size + 1 + 1 := by omega
  have hoff := hB.off (n := w.heap.size + 1) (by omega)
  unfold partV at *
  dsimp only [Nat.zero_add, Nat.reduceAdd] at a0 a1 a2 a3 a4 b0 b1 b2 b3 b4 d0 d1 d2 d3 d4
  have hb3 : ∀ o1 o2 o3, Below w.heap.size w (((w.alloc o1).alloc o2).alloc o3) := fun o1 o2 o3 => fbA (fbA (fbA (Below.refl _ _)))
  have p0 := fun o1 o2 o3 => (hPb.up (hb3 o1 o2 o3)).cells.1
  have p1 := fun o1 o2 o3 => (hPb.up (hb3 o1 o2 o3)).cells.2.1
  have p2 := fun o1 o2 o3 => (hPb.up (hb3 o1 o2 o3)).cells.2.2.1
  have p3 := fun o1 o2 o3 => (hPb.up (hb3 o1 o2 o3)).cells.2.2.2.1
  have p4 := fun o1 o2 o3 => (hPb.up (hb3 o1 o2 o3)).cells.2.2.2.2
  have q0 := fun o1 o2 o3 => (hPc.up (hb3 o1 o2 o3)).cells.1
  have q1 := fun o1 o2 o3 => (hPc.up (hb3 o1 o2 o3)).cells.2.1
  have q2 := fun o1 o2 o3 => (hPc.up (hb3 o1 o2 o3)).cells.2.2.1
  have q3 := fun o1 o2 o3 => (hPc.up (hb3 o1 o2 o3)).cells.2.2.2.1
  have q4 := fun o1 o2 o3 => (hPc.up (hb3 o1 o2 o3)).cells.2.2.2.2
  dsimp only [Nat.zero_add, Nat.reduceAdd] at p0 p1 p2 p3 p4 q0 q1 q2 q3 q4
  go_enter Tryz.func94, Tryz.ntmps94
  go_wp2
  exact bodyPost_ret (v := .tuple #[.agg #[.int .i64 c.op, .int .i64 c.n, .string c.s, .string c.t, .slice qc kc.len cc], .bool true]) (by simp [results, Tryz.results94, go_sem]) rfl ⟨⟨_, Sc, rfl, hcw, hvc.up (hb3 _ _ _), fun d hd => .inl (hSc d hd)⟩, hb3 _ _ _⟩
set_option maxHeartbeats 2000000 in
theorem bt_and (k : Fo) (hv : KV w k v S) (hB : Bd w S) (Y : Nd × Fo) (b : Bool) (HC : ∀ W, En2 w W x v → Calls Tryz.prog 93 #[partV x v, .int .i64 1] W fun en w' => BY Y b S W en w') (e11 : (x.op == 11) = true) :
    Calls Tryz.prog 54 #[partV x v] w fun en w' => BY Y b S w en w' := by
  obtain ⟨q, c, rfl, _⟩ := hv.slice
  obtain ⟨W, hW⟩ : ∃ W, W = (w.alloc (.cells #[.int .i64 x.op, .int .i64 x.n, .string x.s, .string x.t, .slice q k.len c] 63)).alloc (.cells #[.int .i64 0, .int .i64 0, .string ⟨#[]⟩, .string ⟨#[]⟩, .slice none 0 0] 63) := ⟨_, rfl⟩
  have hE_0 : En2 w W x (.slice q k.len c) := by rw [hW]; exact En2.new w x _
  have hoff := hB.off (n := w.heap.size + 1) (by omega)
  obtain ⟨c0, c1, c2, c3, c4⟩ := hE_0.box.cells
  clear hv
  unfold partV at HC ⊢
  go_enter Tryz.func54, Tryz.ntmps54
  go_wp2_with fail
  rw [← hW]
  clear hW
  refine (HC _ hE_0).mono ?_
  rintro _ w9 ⟨⟨u, S9, rfl, hyw, hku, hS9⟩, hbb9⟩
  have hE_9 := hE_0.up hbb9
  obtain ⟨qu, cu, rfl, _⟩ := hku.slice
  obtain ⟨y, ky⟩ := Y
  dsimp only at hyw hku
  have hlt9 := hE_0.res.lt
  clear c0 c1 c2 c3 c4
  obtain ⟨r0, r1, r2, r3, r4⟩ := hE_9.res.cells
  have fr := hE_9.res.free
  unfold partV
  dsimp only
  go_wp2
  obtain ⟨V, hV⟩ : ∃ V, V = ((((w9.setCell ⟨w.heap.size + 1, 0, none⟩ (.int .i64 y.op)).setCell ⟨w.heap.size + 1, 1, none⟩ (.int .i64 y.n)).setCell ⟨w.heap.size + 1, 2, none⟩ (.string y.s)).setCell ⟨w.heap.size + 1, 3, none⟩ (.string y.t)).setCell ⟨w.heap.size + 1, 4, none⟩ (.slice qu ky.len cu) := ⟨_, rfl⟩
  rw [← hV]
  obtain ⟨hP, hbV, hKV⟩ := hE_9.tell (y := y) hV
  obtain ⟨t0, t1, t2, t3, t4⟩ := hP.cells
  exact bodyPost_ret (v := .tuple #[.agg #[.int .i64 y.op, .int .i64 y.n, .string y.s, .string y.t, .slice qu ky.len cu], .bool b]) (by simp [results, Tryz.results54, go_sem, t0, t1, t2, t3, t4]) rfl ⟨⟨_, S9, rfl, hyw, hKV hku (fun e => (hS9 _ e).elim hoff (by omega)), fun d hd => (hS9 d hd).imp id (fun h => by have := hE_0.bel.size; omega)⟩, hbV⟩
set_option maxHeartbeats 2000000 in
theorem bt_or (k : Fo) (hv : KV w k v S) (hB : Bd w S) (Y : Nd × Fo) (b : Bool) (HC : ∀ W, En2 w W x v → Calls Tryz.prog 93 #[partV x v, .int .i64 0] W fun en w' => BY Y b S W en w') (e11 : (x.op == 11) = false) (e12 : (x.op == 12) = true) :
    Calls Tryz.prog 54 #[partV x v] w fun en w' => BY Y b S w en w' := by
  obtain ⟨q, c, rfl, _⟩ := hv.slice
  obtain ⟨W, hW⟩ : ∃ W, W = (w.alloc (.cells #[.int .i64 x.op, .int .i64 x.n, .string x.s, .string x.t, .slice q k.len c] 63)).alloc (.cells #[.int .i64 0, .int .i64 0, .string ⟨#[]⟩, .string ⟨#[]⟩, .slice none 0 0] 63) := ⟨_, rfl⟩
  have hE_0 : En2 w W x (.slice q k.len c) := by rw [hW]; exact En2.new w x _
  have hoff := hB.off (n := w.heap.size + 1) (by omega)
  obtain ⟨c0, c1, c2, c3, c4⟩ := hE_0.box.cells
  clear hv
  unfold partV at HC ⊢
  go_enter Tryz.func54, Tryz.ntmps54
  go_wp2_with fail
  rw [← hW]
  clear hW
  refine (HC _ hE_0).mono ?_
  rintro _ w9 ⟨⟨u, S9, rfl, hyw, hku, hS9⟩, hbb9⟩
  have hE_9 := hE_0.up hbb9
  obtain ⟨qu, cu, rfl, _⟩ := hku.slice
  obtain ⟨y, ky⟩ := Y
  dsimp only at hyw hku
  have hlt9 := hE_0.res.lt
  clear c0 c1 c2 c3 c4
  obtain ⟨r0, r1, r2, r3, r4⟩ := hE_9.res.cells
  have fr := hE_9.res.free
  unfold partV
  dsimp only
  go_wp2
  obtain ⟨V, hV⟩ : ∃ V, V = ((((w9.setCell ⟨w.heap.size + 1, 0, none⟩ (.int .i64 y.op)).setCell ⟨w.heap.size + 1, 1, none⟩ (.int .i64 y.n)).setCell ⟨w.heap.size + 1, 2, none⟩ (.string y.s)).setCell ⟨w.heap.size + 1, 3, none⟩ (.string y.t)).setCell ⟨w.heap.size + 1, 4, none⟩ (.slice qu ky.len cu) := ⟨_, rfl⟩
  rw [← hV]
  obtain ⟨hP, hbV, hKV⟩ := hE_9.tell (y := y) hV
  obtain ⟨t0, t1, t2, t3, t4⟩ := hP.cells
  exact bodyPost_ret (v := .tuple #[.agg #[.int .i64 y.op, .int .i64 y.n, .string y.s, .string y.t, .slice qu ky.len cu], .bool b]) (by simp [results, Tryz.results54, go_sem, t0, t1, t2, t3, t4]) rfl ⟨⟨_, S9, rfl, hyw, hKV hku (fun e => (hS9 _ e).elim hoff (by omega)), fun d hd => (hS9 d hd).imp id (fun h => by have := hE_0.bel.size; omega)⟩, hbV⟩
set_option maxHeartbeats 2000000 in
theorem bt_if (k : Fo) (hv : KV w k v S) (hB : Bd w S) (Y : Nd × Fo) (b : Bool) (HC : ∀ W, En2 w W x v → Calls Tryz.prog 94 #[partV x v] W fun en w' => BY Y b S W en w') (e11 : (x.op == 11) = false) (e12 : (x.op == 12) = false) (e13 : (x.op == 13) = true) :
    Calls Tryz.prog 54 #[partV x v] w fun en w' => BY Y b S w en w' := by
  obtain ⟨q, c, rfl, _⟩ := hv.slice
  obtain ⟨W, hW⟩ : ∃ W, W = (w.alloc (.cells #[.int .i64 x.op, .int .i64 x.n, .string x.s, .string x.t, .slice q k.len c] 63)).alloc (.cells #[.int .i64 0, .int .i64 0, .string ⟨#[]⟩, .string ⟨#[]⟩, .slice none 0 0] 63) := ⟨_, rfl⟩
  have hE_0 : En2 w W x (.slice q k.len c) := by rw [hW]; exact En2.new w x _
  have hoff := hB.off (n := w.heap.size + 1) (by omega)
  obtain ⟨c0, c1, c2, c3, c4⟩ := hE_0.box.cells
  clear hv
  unfold partV at HC ⊢
  go_enter Tryz.func54, Tryz.ntmps54
  go_wp2_with fail
  rw [← hW]
  clear hW
  refine (HC _ hE_0).mono ?_
  rintro _ w9 ⟨⟨u, S9, rfl, hyw, hku, hS9⟩, hbb9⟩
  have hE_9 := hE_0.up hbb9
  obtain ⟨qu, cu, rfl, _⟩ := hku.slice
  obtain ⟨y, ky⟩ := Y
  dsimp only at hyw hku
  have hlt9 := hE_0.res.lt
  clear c0 c1 c2 c3 c4
  obtain ⟨r0, r1, r2, r3, r4⟩ := hE_9.res.cells
  have fr := hE_9.res.free
  unfold partV
  dsimp only
  go_wp2
  obtain ⟨V, hV⟩ : ∃ V, V = ((((w9.setCell ⟨w.heap.size + 1, 0, none⟩ (.int .i64 y.op)).setCell ⟨w.heap.size + 1, 1, none⟩ (.int .i64 y.n)).setCell ⟨w.heap.size + 1, 2, none⟩ (.string y.s)).setCell ⟨w.heap.size + 1, 3, none⟩ (.string y.t)).setCell ⟨w.heap.size + 1, 4, none⟩ (.slice qu ky.len cu) := ⟨_, rfl⟩
  rw [← hV]
  obtain ⟨hP, hbV, hKV⟩ := hE_9.tell (y := y) hV
  obtain ⟨t0, t1, t2, t3, t4⟩ := hP.cells
  exact bodyPost_ret (v := .tuple #[.agg #[.int .i64 y.op, .int .i64 y.n, .string y.s, .string y.t, .slice qu ky.len cu], .bool b]) (by simp [results, Tryz.results54, go_sem, t0, t1, t2, t3, t4]) rfl ⟨⟨_, S9, rfl, hyw, hKV hku (fun e => (hS9 _ e).elim hoff (by omega)), fun d hd => (hS9 d hd).imp id (fun h => by have := hE_0.bel.size; omega)⟩, hbV⟩
set_option maxHeartbeats 2000000 in
theorem bt_var (k : Fo) (hv : KV w k v S) (hB : Bd w S) (hx : x.wf) (e11 : (x.op == 11) = false) (e12 : (x.op == 12) = false) (e13 : (x.op == 13) = false) (e8 : (x.op == 8) = true) :
    Calls Tryz.prog 54 #[partV x v] w fun en w' => BRet none x k S w en w' := by
  obtain ⟨q, c, rfl, _⟩ := hv.slice
  have HV : Hid (KV w k (.slice q k.len c) S) := hv
  clear hv
  unfold partV
  go_enter Tryz.func54, Tryz.ntmps54
  go_wp2
  have hb2 : ∀ o1 o2, Below w.heap.size w ((w.alloc o1).alloc o2) := fun o1 o2 => fbA (fbA (Below.refl _ _))
  exact bodyPost_ret (v := .tuple #[.agg #[.int .i64 x.op, .int .i64 x.n, .string x.s, .string x.t, .slice q k.len c], .bool false]) (by simp [results, Tryz.results54, go_sem]) rfl ⟨⟨_, S, rfl, hx, HV.out.up (hb2 _ _), fun d hd => .inl hd⟩, hb2 _ _⟩
set_option maxHeartbeats 2000000 in
theorem bt_field (k : Fo) (hv : KV w k v S) (hB : Bd w S) (hx : x.wf) (e11 : (x.op == 11) = false) (e12 : (x.op == 12) = false) (e13 : (x.op == 13) = false) (e8 : (x.op == 8) = false) (e7 : (x.op == 7) = true) :
    Calls Tryz.prog 54 #[partV x v] w fun en w' => BRet none x k S w en w' := by
  obtain ⟨q, c, rfl, _⟩ := hv.slice
  have HV : Hid (KV w k (.slice q k.len c) S) := hv
  clear hv
  unfold partV
  go_enter Tryz.func54, Tryz.ntmps54
  go_wp2
  have hb2 : ∀ o1 o2, Below w.heap.size w ((w.alloc o1).alloc o2) := fun o1 o2 => fbA (fbA (Below.refl _ _))
  exact bodyPost_ret (v := .tuple #[.agg #[.int .i64 x.op, .int .i64 x.n, .string x.s, .string x.t, .slice q k.len c], .bool false]) (by simp [results, Tryz.results54, go_sem]) rfl ⟨⟨_, S, rfl, hx, HV.out.up (hb2 _ _), fun d hd => .inl hd⟩, hb2 _ _⟩
set_option maxHeartbeats 4000000 in
theorem bt_no (a : Nd) (ka : Fo) (hv : KV w (.cons a ka .nil) v S) (hB : Bd w S) (hx : x.wf) (Y : Nd × Fo) (b : Bool) (HC : ∀ W, En2 w W x v → Calls Tryz.prog 96 #[partV x v] W fun en w' => BY Y b S W en w') (e11 : (x.op == 11) = false) (e12 : (x.op == 12) = false) (e13 : (x.op == 13) = false) (e8 : (x.op == 8) = false) (e7 : (x.op == 7) = false) (e9 : (x.op == 9) = true) (ha : (a.op == 9) = false) :
    Calls Tryz.prog 54 #[partV x v] w fun en w' => BY Y b S w en w' := by
  obtain ⟨g, cap, ua, Sa, rfl, hPa, haw, hva, hSa⟩ := hv.single
  obtain ⟨qa, ca, rfl, _⟩ := hva.slice
  obtain ⟨W, hW⟩ : ∃ W, W = (w.alloc (.cells #[.int .i64 x.op, .int .i64 x.n, .string x.s, .string x.t, .slice (some ⟨g, 0, none⟩) 1 cap] 63)).alloc (.cells #[.int .i64 0, .int .i64 0, .string ⟨#[]⟩, .string ⟨#[]⟩, .slice none 0 0] 63) := ⟨_, rfl⟩
  have hE_0 : En2 w W x (.slice (some ⟨g, 0, none⟩) 1 cap) := by rw [hW]; exact En2.new w x _
  have hoff := hB.off (n := w.heap.size + 1) (by omega)
  obtain ⟨c0, c1, c2, c3, c4⟩ := hE_0.box.cells
  have hgl := hPa.lt
  have n1 : ¬ g = w.heap.size := by omega
  have n2 : ¬ g = w.heap.size + 1 := by omega
  obtain ⟨a0, a1, a2, a3, a4⟩ := hPa.cells
  dsimp only [Nat.zero_add, Nat.reduceAdd] at a0 a1 a2 a3 a4
  have hb2 : ∀ o1 o2, Below w.heap.size w ((w.alloc o1).alloc o2) := fun o1 o2 => fbA (fbA (Below.refl _ _))
  have p0 := fun o1 o2 => (hPa.up (hb2 o1 o2)).cells.1
  have p1 := fun o1 o2 => (hPa.up (hb2 o1 o2)).cells.2.1
  have p2 := fun o1 o2 => (hPa.up (hb2 o1 o2)).cells.2.2.1
  have p3 := fun o1 o2 => (hPa.up (hb2 o1 o2)).cells.2.2.2.1
  have p4 := fun o1 o2 => (hPa.up (hb2 o1 o2)).cells.2.2.2.2
  dsimp only [Nat.zero_add, Nat.reduceAdd] at p0 p1 p2 p3 p4
  unfold partV at HC ⊢
  go_enter Tryz.func54, Tryz.ntmps54
  go_wp2_with fail
  rw [← hW]
  clear hW
  refine (HC _ hE_0).mono ?_
  rintro _ w9 ⟨⟨u, S9, rfl, hyw, hku, hS9⟩, hbb9⟩
  have hE_9 := hE_0.up hbb9
  obtain ⟨qu, cu, rfl, _⟩ := hku.slice
  obtain ⟨y, ky⟩ := Y
  dsimp only at hyw hku
  have hlt9 := hE_0.res.lt
  clear c0 c1 c2 c3 c4
  obtain ⟨r0, r1, r2, r3, r4⟩ := hE_9.res.cells
  have fr := hE_9.res.free
  unfold partV
  dsimp only
  go_wp2
  obtain ⟨V, hV⟩ : ∃ V, V = ((((w9.setCell ⟨w.heap.size + 1, 0, none⟩ (.int .i64 y.op)).setCell ⟨w.heap.size + 1, 1, none⟩ (.int .i64 y.n)).setCell ⟨w.heap.size + 1, 2, none⟩ (.string y.s)).setCell ⟨w.heap.size + 1, 3, none⟩ (.string y.t)).setCell ⟨w.heap.size + 1, 4, none⟩ (.slice qu ky.len cu) := ⟨_, rfl⟩
  rw [← hV]
  obtain ⟨hP, hbV, hKV⟩ := hE_9.tell (y := y) hV
  obtain ⟨t0, t1, t2, t3, t4⟩ := hP.cells
  exact bodyPost_ret (v := .tuple #[.agg #[.int .i64 y.op, .int .i64 y.n, .string y.s, .string y.t, .slice qu ky.len cu], .bool b]) (by simp [results, Tryz.results54, go_sem, t0, t1, t2, t3, t4]) rfl ⟨⟨_, S9, rfl, hyw, hKV hku (fun e => (hS9 _ e).elim hoff (by omega)), fun d hd => (hS9 d hd).imp id (fun h => by have := hE_0.bel.size; omega)⟩, hbV⟩
set_option maxHeartbeats 4000000 in
theorem bt_yes (a : Nd) (y0 : Nd) (ky0 : Fo) (hv : KV w (.cons a (.cons y0 ky0 .nil) .nil) v S) (hB : Bd w S) (hx : x.wf) (e11 : (x.op == 11) = false) (e12 : (x.op == 12) = false) (e13 : (x.op == 13) = false) (e8 : (x.op == 8) = false) (e7 : (x.op == 7) = false) (e9 : (x.op == 9) = true) (ha : (a.op == 9) = true) (ht : truthB y0 = true) :
    Calls Tryz.prog 54 #[partV x v] w fun en w' => BRet (some (y0, ky0)) x (.cons a (.cons y0 ky0 .nil) .nil) S w en w' := by
  obtain ⟨g, cap, ua, Sa, rfl, hPa, haw, hva, hSa⟩ := hv.single
  obtain ⟨g2, cap2, uy, Sy, rfl, hPy, hyw0, hvy, hSy⟩ := hva.single
  obtain ⟨qy, cy, rfl, _⟩ := hvy.slice
  obtain ⟨W, hW⟩ : ∃ W, W = (w.alloc (.cells #[.int .i64 x.op, .int .i64 x.n, .string x.s, .string x.t, .slice (some ⟨g, 0, none⟩) 1 cap] 63)).alloc (.cells #[.int .i64 0, .int .i64 0, .string ⟨#[]⟩, .string ⟨#[]⟩, .slice none 0 0] 63) := ⟨_, rfl⟩
  have hE_0 : En2 w W x (.slice (some ⟨g, 0, none⟩) 1 cap) := by rw [hW]; exact En2.new w x _
  have hoff := hB.off (n := w.heap.size + 1) (by omega)
  obtain ⟨c0, c1, c2, c3, c4⟩ := hE_0.box.cells
  have hgl := hPa.lt
  have n1 : ¬ g = w.heap.size := by omega
  have n2 : ¬ g = w.heap.size + 1 := by omega
  obtain ⟨a0, a1, a2, a3, a4⟩ := hPa.cells
  dsimp only [Nat.zero_add, Nat.reduceAdd] at a0 a1 a2 a3 a4
  have hb2 : ∀ o1 o2, Below w.heap.size w ((w.alloc o1).alloc o2) := fun o1 o2 => fbA (fbA (Below.refl _ _))
  have p0 := fun o1 o2 => (hPa.up (hb2 o1 o2)).cells.1
  have p1 := fun o1 o2 => (hPa.up (hb2 o1 o2)).cells.2.1
  have p2 := fun o1 o2 => (hPa.up (hb2 o1 o2)).cells.2.2.1
  have p3 := fun o1 o2 => (hPa.up (hb2 o1 o2)).cells.2.2.2.1
  have p4 := fun o1 o2 => (hPa.up (hb2 o1 o2)).cells.2.2.2.2
  dsimp only [Nat.zero_add, Nat.reduceAdd] at p0 p1 p2 p3 p4
  have hgl2 := hPy.lt
  have n3 : ¬ g2 = w.heap.size := by omega
  have n4 : ¬ g2 = w.heap.size + 1 := by omega
  obtain ⟨y0_, y1_, y2_, y3_, y4_⟩ := hPy.cells
  dsimp only [Nat.zero_add, Nat.reduceAdd] at y0_ y1_ y2_ y3_ y4_
  have s0 := fun o1 o2 => (hPy.up (hb2 o1 o2)).cells.1
  have s1 := fun o1 o2 => (hPy.up (hb2 o1 o2)).cells.2.1
  have s2 := fun o1 o2 => (hPy.up (hb2 o1 o2)).cells.2.2.1
  have s3 := fun o1 o2 => (hPy.up (hb2 o1 o2)).cells.2.2.2.1
  have s4 := fun o1 o2 => (hPy.up (hb2 o1 o2)).cells.2.2.2.2
  dsimp only [Nat.zero_add, Nat.reduceAdd] at s0 s1 s2 s3 s4
  have HT := fun w1 v1 => ofTruth_any y0 v1 w1
  rw [ht] at HT
  unfold partV at HT
  unfold partV at ⊢
  go_enter Tryz.func54, Tryz.ntmps54
  go_wp2_with fail
  rw [← hW]
  clear hW
  refine (HT _ _).mono ?_
  rintro _ w1 ⟨rfl, hbb⟩
  have hE_1 := hE_0.up hbb
  have hP1 := (hPa.up hE_0.bel).up hbb
  have hP2 := (hPy.up hE_0.bel).up hbb
  clear c0 c1 c2 c3 c4 a0 a1 a2 a3 a4 p0 p1 p2 p3 p4 y0_ y1_ y2_ y3_ y4_ s0 s1 s2 s3 s4
  obtain ⟨c0, c1, c2, c3, c4⟩ := hE_1.box.cells
  obtain ⟨a0, a1, a2, a3, a4⟩ := hP1.cells
  obtain ⟨d0, d1, d2, d3, d4⟩ := hP2.cells
  dsimp only [Nat.zero_add, Nat.reduceAdd] at a0 a1 a2 a3 a4 d0 d1 d2 d3 d4
  obtain ⟨r0, r1, r2, r3, r4⟩ := hE_1.res.cells
  have fr := hE_1.res.free
  go_wp2
  obtain ⟨V, hV⟩ : ∃ V, V = ((((w1.setCell ⟨w.heap.size + 1, 0, none⟩ (.int .i64 y0.op)).setCell ⟨w.heap.size + 1, 1, none⟩ (.int .i64 y0.n)).setCell ⟨w.heap.size + 1, 2, none⟩ (.string y0.s)).setCell ⟨w.heap.size + 1, 3, none⟩ (.string y0.t)).setCell ⟨w.heap.size + 1, 4, none⟩ (.slice qy ky0.len cy) := ⟨_, rfl⟩
  rw [← hV]
  obtain ⟨hP, hbV, hKV⟩ := hE_1.tell (y := y0) hV
  obtain ⟨t0, t1, t2, t3, t4⟩ := hP.cells
  exact bodyPost_ret (v := .tuple #[.agg #[.int .i64 y0.op, .int .i64 y0.n, .string y0.s, .string y0.t, .slice qy ky0.len cy], .bool true]) (by simp [results, Tryz.results54, go_sem, t0, t1, t2, t3, t4]) rfl ⟨⟨_, Sy, rfl, hyw0, hKV (hvy.up hE_1.bel) (fun e => hoff (hSa _ (hSy _ e))), fun d hd => .inl (hSa d (hSy d hd))⟩, hbV⟩
set_option maxHeartbeats 4000000 in
theorem bt_not (a : Nd) (y0 : Nd) (ky0 : Fo) (hv : KV w (.cons a (.cons y0 ky0 .nil) .nil) v S) (hB : Bd w S) (hx : x.wf) (Y : Nd × Fo) (b : Bool) (HC : ∀ W, En2 w W x v → Calls Tryz.prog 96 #[partV x v] W fun en w' => BY Y b S W en w') (e11 : (x.op == 11) = false) (e12 : (x.op == 12) = false) (e13 : (x.op == 13) = false) (e8 : (x.op == 8) = false) (e7 : (x.op == 7) = false) (e9 : (x.op == 9) = true) (ha : (a.op == 9) = true) (ht : truthB y0 = false) :
    Calls Tryz.prog 54 #[partV x v] w fun en w' => BY Y b S w en w' := by
  obtain ⟨g, cap, ua, Sa, rfl, hPa, haw, hva, hSa⟩ := hv.single
  obtain ⟨g2, cap2, uy, Sy, rfl, hPy, hyw0, hvy, hSy⟩ := hva.single
  obtain ⟨qy, cy, rfl, _⟩ := hvy.slice
  obtain ⟨W, hW⟩ : ∃ W, W = (w.alloc (.cells #[.int .i64 x.op, .int .i64 x.n, .string x.s, .string x.t, .slice (some ⟨g, 0, none⟩) 1 cap] 63)).alloc (.cells #[.int .i64 0, .int .i64 0, .string ⟨#[]⟩, .string ⟨#[]⟩, .slice none 0 0] 63) := ⟨_, rfl⟩
  have hE_0 : En2 w W x (.slice (some ⟨g, 0, none⟩) 1 cap) := by rw [hW]; exact En2.new w x _
  have hoff := hB.off (n := w.heap.size + 1) (by omega)
  obtain ⟨c0, c1, c2, c3, c4⟩ := hE_0.box.cells
  have hgl := hPa.lt
  have n1 : ¬ g = w.heap.size := by omega
  have n2 : ¬ g = w.heap.size + 1 := by omega
  obtain ⟨a0, a1, a2, a3, a4⟩ := hPa.cells
  dsimp only [Nat.zero_add, Nat.reduceAdd] at a0 a1 a2 a3 a4
  have hb2 : ∀ o1 o2, Below w.heap.size w ((w.alloc o1).alloc o2) := fun o1 o2 => fbA (fbA (Below.refl _ _))
  have p0 := fun o1 o2 => (hPa.up (hb2 o1 o2)).cells.1
  have p1 := fun o1 o2 => (hPa.up (hb2 o1 o2)).cells.2.1
  have p2 := fun o1 o2 => (hPa.up (hb2 o1 o2)).cells.2.2.1
  have p3 := fun o1 o2 => (hPa.up (hb2 o1 o2)).cells.2.2.2.1
  have p4 := fun o1 o2 => (hPa.up (hb2 o1 o2)).cells.2.2.2.2
  dsimp only [Nat.zero_add, Nat.reduceAdd] at p0 p1 p2 p3 p4
  have hgl2 := hPy.lt
  have n3 : ¬ g2 = w.heap.size := by omega
  have n4 : ¬ g2 = w.heap.size + 1 := by omega
  obtain ⟨y0_, y1_, y2_, y3_, y4_⟩ := hPy.cells
  dsimp only [Nat.zero_add, Nat.reduceAdd] at y0_ y1_ y2_ y3_ y4_
  have s0 := fun o1 o2 => (hPy.up (hb2 o1 o2)).cells.1
  have s1 := fun o1 o2 => (hPy.up (hb2 o1 o2)).cells.2.1
  have s2 := fun o1 o2 => (hPy.up (hb2 o1 o2)).cells.2.2.1
  have s3 := fun o1 o2 => (hPy.up (hb2 o1 o2)).cells.2.2.2.1
  have s4 := fun o1 o2 => (hPy.up (hb2 o1 o2)).cells.2.2.2.2
  dsimp only [Nat.zero_add, Nat.reduceAdd] at s0 s1 s2 s3 s4
  have HT := fun w1 v1 => ofTruth_any y0 v1 w1
  rw [ht] at HT
  unfold partV at HT
  unfold partV at HC ⊢
  go_enter Tryz.func54, Tryz.ntmps54
  go_wp2_with fail
  rw [← hW]
  clear hW
  refine (HT _ _).mono ?_
  rintro _ w1 ⟨rfl, hbb⟩
  have hE_1 := hE_0.up hbb
  have hP1 := (hPa.up hE_0.bel).up hbb
  have hP2 := (hPy.up hE_0.bel).up hbb
  clear c0 c1 c2 c3 c4 a0 a1 a2 a3 a4 p0 p1 p2 p3 p4 y0_ y1_ y2_ y3_ y4_ s0 s1 s2 s3 s4
  obtain ⟨c0, c1, c2, c3, c4⟩ := hE_1.box.cells
  obtain ⟨a0, a1, a2, a3, a4⟩ := hP1.cells
  obtain ⟨d0, d1, d2, d3, d4⟩ := hP2.cells
  dsimp only [Nat.zero_add, Nat.reduceAdd] at a0 a1 a2 a3 a4 d0 d1 d2 d3 d4
  go_wp2_with fail
  refine (HC _ hE_1).mono ?_
  rintro _ w9 ⟨⟨u, S9, rfl, hyw, hku, hS9⟩, hbb9⟩
  have hE_9 := hE_1.up hbb9
  obtain ⟨qu, cu, rfl, _⟩ := hku.slice
  obtain ⟨y, ky⟩ := Y
  dsimp only at hyw hku
  have hlt9 := hE_1.res.lt
  clear c0 c1 c2 c3 c4
  obtain ⟨r0, r1, r2, r3, r4⟩ := hE_9.res.cells
  have fr := hE_9.res.free
  unfold partV
  dsimp only
  go_wp2
  obtain ⟨V, hV⟩ : ∃ V, V = ((((w9.setCell ⟨w.heap.size + 1, 0, none⟩ (.int .i64 y.op)).setCell ⟨w.heap.size + 1, 1, none⟩ (.int .i64 y.n)).setCell ⟨w.heap.size + 1, 2, none⟩ (.string y.s)).setCell ⟨w.heap.size + 1, 3, none⟩ (.string y.t)).setCell ⟨w.heap.size + 1, 4, none⟩ (.slice qu ky.len cu) := ⟨_, rfl⟩
  rw [← hV]
  obtain ⟨hP, hbV, hKV⟩ := hE_9.tell (y := y) hV
  obtain ⟨t0, t1, t2, t3, t4⟩ := hP.cells
  exact bodyPost_ret (v := .tuple #[.agg #[.int .i64 y.op, .int .i64 y.n, .string y.s, .string y.t, .slice qu ky.len cu], .bool b]) (by simp [results, Tryz.results54, go_sem, t0, t1, t2, t3, t4]) rfl ⟨⟨_, S9, rfl, hyw, hKV hku (fun e => (hS9 _ e).elim hoff (by omega)), fun d hd => (hS9 d hd).imp id (fun h => by have := hE_1.bel.size; omega)⟩, hbV⟩
set_option maxHeartbeats 2000000 in
theorem bt_any (k : Fo) (hv : KV w k v S) (hB : Bd w S) (Y : Nd × Fo) (b : Bool) (HC : ∀ W, En2 w W x v → Calls Tryz.prog 96 #[partV x v] W fun en w' => BY Y b S W en w') (e11 : (x.op == 11) = false) (e12 : (x.op == 12) = false) (e13 : (x.op == 13) = false) (e8 : (x.op == 8) = false) (e7 : (x.op == 7) = false) (e9 : (x.op == 9) = false) :
    Calls Tryz.prog 54 #[partV x v] w fun en w' => BY Y b S w en w' := by
  obtain ⟨q, c, rfl, _⟩ := hv.slice
  obtain ⟨W, hW⟩ : ∃ W, W = (w.alloc (.cells #[.int .i64 x.op, .int .i64 x.n, .string x.s, .string x.t, .slice q k.len c] 63)).alloc (.cells #[.int .i64 0, .int .i64 0, .string ⟨#[]⟩, .string ⟨#[]⟩, .slice none 0 0] 63) := ⟨_, rfl⟩
  have hE_0 : En2 w W x (.slice q k.len c) := by rw [hW]; exact En2.new w x _
  have hoff := hB.off (n := w.heap.size + 1) (by omega)
  obtain ⟨c0, c1, c2, c3, c4⟩ := hE_0.box.cells
  clear hv
  unfold partV at HC ⊢
  go_enter Tryz.func54, Tryz.ntmps54
  go_wp2_with fail
  rw [← hW]
  clear hW
  refine (HC _ hE_0).mono ?_
  rintro _ w9 ⟨⟨u, S9, rfl, hyw, hku, hS9⟩, hbb9⟩
  have hE_9 := hE_0.up hbb9
  obtain ⟨qu, cu, rfl, _⟩ := hku.slice
  obtain ⟨y, ky⟩ := Y
  dsimp only at hyw hku
  have hlt9 := hE_0.res.lt
  clear c0 c1 c2 c3 c4
  obtain ⟨r0, r1, r2, r3, r4⟩ := hE_9.res.cells
  have fr := hE_9.res.free
  unfold partV
  dsimp only
  go_wp2
  obtain ⟨V, hV⟩ : ∃ V, V = ((((w9.setCell ⟨w.heap.size + 1, 0, none⟩ (.int .i64 y.op)).setCell ⟨w.heap.size + 1, 1, none⟩ (.int .i64 y.n)).setCell ⟨w.heap.size + 1, 2, none⟩ (.string y.s)).setCell ⟨w.heap.size + 1, 3, none⟩ (.string y.t)).setCell ⟨w.heap.size + 1, 4, none⟩ (.slice qu ky.len cu) := ⟨_, rfl⟩
  rw [← hV]
  obtain ⟨hP, hbV, hKV⟩ := hE_9.tell (y := y) hV
  obtain ⟨t0, t1, t2, t3, t4⟩ := hP.cells
  exact bodyPost_ret (v := .tuple #[.agg #[.int .i64 y.op, .int .i64 y.n, .string y.s, .string y.t, .slice qu ky.len cu], .bool b]) (by simp [results, Tryz.results54, go_sem, t0, t1, t2, t3, t4]) rfl ⟨⟨_, S9, rfl, hyw, hKV hku (fun e => (hS9 _ e).elim hoff (by omega)), fun d hd => (hS9 d hd).imp id (fun h => by have := hE_0.bel.size; omega)⟩, hbV⟩
end
end Go.Proofs.YtnilaghbbhmkgaaGreatDoor
namespace Go.Proofs.YtnilaghbbhmkgaaGreatDoor
open Go.RowKit
set_option linter.unusedVariables false
set_option maxRecDepth 100000

theorem bool_node {a : Nd} (hx : exOk a = true) (h : a.op = 1) : a = ⟨1, a.n, ⟨#[]⟩, ⟨#[]⟩⟩ := by
  have h1 := atom_tN hx h
  simp only [tN, List.cons.injEq, and_true] at h1
  have h2 := congrArg Nd.s h1
  have h3 := congrArg Nd.t h1
  obtain ⟨o, n, s, t⟩ := a
  simp only at h h2 h3
  subst h h2 h3
  rfl
theorem truth_one {b : Nd} (h : truthB b = false) : (b.op == 1) = false := by
  rw [beq_eq_false_iff_ne]
  intro e
  unfold truthB at h
  rw [decide_eq_false_iff_not] at h
  exact h (.inl e)
section
variable (x : Nd) (w : World) (v : Value) (S : Nat → Prop)
theorem joined_any (i : Int) (a b : Nd) (ka kb : Fo) (hv : KV w (.cons a ka (.cons b kb .nil)) v S) (hB : Bd w S) (hx : x.wf) (ha : exOk a = true) (hb : exOk b = true) :
    Calls Tryz.prog 93 #[partV x v, .int .i64 i] w fun en w' => BRet (joinT i (.cons a ka (.cons b kb .nil))) x (.cons a ka (.cons b kb .nil)) S w en w' := by
  by_cases h1 : a.op = 1
  · have hform := bool_node ha h1
    by_cases hi : a.n = i
    · have hai : a = bN i := by rw [hform, hi]; rfl
      cases ht : truthB b with
      | true =>
        have hj : joinT i (.cons a ka (.cons b kb .nil)) = some (b, kb) := by
          simp only [joinT]
          rw [if_neg (fun e => e.2 hai), if_pos ⟨hai, ht⟩]
        rw [hj]
        exact joined_two x w v S i a b ka kb hv hB hx hai ht
      | false =>
        have hb1 := truth_one ht
        have hj : joinT i (.cons a ka (.cons b kb .nil)) = none := by
          simp only [joinT]
          rw [if_neg (fun e => e.2 hai), if_neg (fun e => by rw [ht] at e; cases e.2), if_neg (fun e => by rw [e.1] at hb1; simp [bN] at hb1)]
        rw [hj]
        exact joined_three x w v S i a b ka kb hv hB hx hai ht hb1
    · have hj : joinT i (.cons a ka (.cons b kb .nil)) = some (a, ka) := by
        simp only [joinT]
        rw [if_pos ⟨h1, fun e => hi (by rw [e]; rfl)⟩]
      rw [hj]
      exact joined_one x w v S i a b ka kb hv hB hx a.n hform (by simpa using hi)
  · have ha1 : (a.op == 1) = false := by simpa using h1
    have c1 : ¬ (a.op = 1 ∧ a ≠ bN i) := fun e => h1 e.1
    have c2 : ¬ (a = bN i ∧ truthB b = true) := fun e => h1 (by rw [e.1]; rfl)
    by_cases hb1 : b.op = 1
    · have hform := bool_node hb hb1
      by_cases hi : b.n = i
      · have hbi : b = bN i := by rw [hform, hi]; rfl
        cases ht : truthB a with
        | true =>
          have hj : joinT i (.cons a ka (.cons b kb .nil)) = some (a, ka) := by
            simp only [joinT]
            rw [if_neg c1, if_neg c2, if_pos ⟨hbi, ht⟩]
          rw [hj]
          exact joined_four x w v S i a b ka kb hv hB hx hbi ht ha1
        | false =>
          have hj : joinT i (.cons a ka (.cons b kb .nil)) = none := by
            simp only [joinT]
            rw [if_neg c1, if_neg c2, if_neg (fun e => by rw [ht] at e; cases e.2)]
          rw [hj]
          exact joined_five x w v S i a b ka kb hv hB hx hbi ht ha1
      · have hj : joinT i (.cons a ka (.cons b kb .nil)) = none := by
          simp only [joinT]
          rw [if_neg c1, if_neg c2, if_neg (fun e => hi (by rw [e.1]; rfl))]
        rw [hj]
        exact joined_six x w v S i a b ka kb hv hB hx b.n hform (by simpa using hi) ha1
    · have hj : joinT i (.cons a ka (.cons b kb .nil)) = none := by
        simp only [joinT]
        rw [if_neg c1, if_neg c2, if_neg (fun e => hb1 (by rw [e.1]; rfl))]
      rw [hj]
      exact joined_seven x w v S i a b ka kb hv hB hx (by simpa using hb1) ha1
theorem chosen_any (a b c : Nd) (ka kb kc : Fo) (hv : KV w (.cons a ka (.cons b kb (.cons c kc .nil))) v S) (hB : Bd w S) (hx : x.wf) :
    Calls Tryz.prog 94 #[partV x v] w fun en w' => BRet (pickT (.cons a ka (.cons b kb (.cons c kc .nil)))) x (.cons a ka (.cons b kb (.cons c kc .nil))) S w en w' := by
  by_cases h1 : a.op = 1
  · by_cases h2 : a.n = 1
    · have hj : pickT (.cons a ka (.cons b kb (.cons c kc .nil))) = some (b, kb) := by
        simp only [pickT]
        rw [if_neg (by omega), if_pos h2]
      rw [hj]
      exact chosen_yes x w v S a b c ka kb kc hv hB hx (by simp [h1]) (by simp [h2])
    · have hj : pickT (.cons a ka (.cons b kb (.cons c kc .nil))) = some (c, kc) := by
        simp only [pickT]
        rw [if_neg (by omega), if_neg h2]
      rw [hj]
      exact chosen_else x w v S a b c ka kb kc hv hB hx (by simp [h1]) (by simpa using h2)
  · have hj : pickT (.cons a ka (.cons b kb (.cons c kc .nil))) = none := by
      simp only [pickT]
      rw [if_pos h1]
    rw [hj]
    exact chosen_no x w v S a b c ka kb kc hv hB hx (by simpa using h1)
theorem beq_no {a : Int} {n : Int} (h : a ≠ n) : (a == n) = false := by simpa using h
theorem Bd.up {w w' : World} {S : Nat → Prop} (h : Bd w S) (k : Below w.heap.size w w') : Bd w' S := fun a ha => Nat.lt_of_lt_of_le (h a ha) k.size
theorem better_field (k : Fo) (hv : KV w k v S) (hB : Bd w S) (hx : x.wf) (h7 : x.op = 7) :
    Calls Tryz.prog 54 #[partV x v] w fun en w' => BRet (betterT x k) x k S w en w' := by
  have hj : betterT x k = none := by
    unfold betterT
    rw [if_neg (by omega), if_neg (by omega), if_neg (by omega), if_pos (.inr h7)]
  rw [hj]
  exact bt_field x w v S k hv hB hx (beq_no (by omega)) (beq_no (by omega)) (beq_no (by omega)) (beq_no (by omega)) (by simp [h7])
theorem better_any (k : Fo) (hv : KV w k v S) (hB : Bd w S) (hx : x.wf) (ho : okT none (.cons x k .nil)) (hl : k.flat.length + 1 ≤ 200) (hN : N64 (x :: k.flat)) (he : ErrVar w) :
    Calls Tryz.prog 54 #[partV x v] w fun en w' => BRet (betterT x k) x k S w en w' := by
  obtain ⟨h7, hxo, hk, _⟩ := okT.none_cons.1 ho
  have hcn := ho.cnt
  unfold cntT at hcn
  rw [if_neg h7] at hcn
  have HK : ∀ W, En2 w W x v → Calls Tryz.prog 96 #[partV x v] W fun en w' => BY ((knownT x k).getD (x, k)) (knownT x k).isSome S W en w' := fun W hE =>
    known_any x k W v S (hv.up hE.bel) (hB.up hE.bel) hx hl (errVar_below he hE.bel (Nat.le_refl _)) hN
  unfold betterT
  by_cases c11 : x.op = 11
  · rw [if_pos c11]
    have h2 : k.len = 2 := by rw [hcn]; unfold prt; rw [c11]; rfl
    obtain ⟨a, ka, b, kb, rfl⟩ := len_two h2
    obtain ⟨_, _, xa, xb⟩ := kids_two ho (by omega)
    exact bt_and x w v S _ hv hB _ _ (fun W hE => joined_any x W v S 1 a b ka kb (hv.up hE.bel) (hB.up hE.bel) hx xa xb) (by simp [c11])
  rw [if_neg c11]
  by_cases c12 : x.op = 12
  · rw [if_pos c12]
    have h2 : k.len = 2 := by rw [hcn]; unfold prt; rw [c12]; rfl
    obtain ⟨a, ka, b, kb, rfl⟩ := len_two h2
    obtain ⟨_, _, xa, xb⟩ := kids_two ho (by omega)
    exact bt_or x w v S _ hv hB _ _ (fun W hE => joined_any x W v S 0 a b ka kb (hv.up hE.bel) (hB.up hE.bel) hx xa xb) (beq_no c11) (by simp [c12])
  rw [if_neg c12]
  by_cases c13 : x.op = 13
  · rw [if_pos c13]
    have h3 : k.len = 3 := by rw [hcn]; unfold prt; rw [c13]; rfl
    obtain ⟨a, ka, b, kb, c, kc, rfl⟩ := len_three h3
    exact bt_if x w v S _ hv hB _ _ (fun W hE => chosen_any x W v S a b c ka kb kc (hv.up hE.bel) (hB.up hE.bel) hx) (beq_no c11) (beq_no c12) (by simp [c13])
  rw [if_neg c13]
  by_cases c8 : x.op = 8
  · rw [if_pos (.inl c8)]
    exact bt_var x w v S k hv hB hx (beq_no c11) (beq_no c12) (beq_no c13) (by simp [c8])
  rw [if_neg (by omega)]
  by_cases c9 : x.op = 9
  · have h1 : k.len = 1 := by rw [hcn]; unfold prt; rw [c9]; rfl
    obtain ⟨a, ka, rfl⟩ := len_one h1
    have hka : okT none (.cons a ka .nil) := by
      rcases hk with ⟨e, _⟩ | ⟨_, _, hk⟩
      · omega
      · exact hk
    by_cases ha : a.op = 9
    · have hca := hka.cnt
      have hla : ka.len = 1 := by rw [hca]; unfold cntT; rw [if_neg (by omega)]; unfold prt; rw [ha]; rfl
      obtain ⟨y, ky, rfl⟩ := len_one hla
      cases ht : truthB y with
      | true =>
        have hn : notT (.cons a (.cons y ky .nil) .nil) = some (y, ky) := by
          simp only [notT]
          rw [if_pos ⟨ha, ht⟩]
        rw [if_pos ⟨c9, by rw [hn]; rfl⟩, hn]
        exact bt_yes x w v S a y ky hv hB hx (beq_no c11) (beq_no c12) (beq_no c13) (beq_no c8) (beq_no h7) (by simp [c9]) (by simp [ha]) ht
      | false =>
        have hn : notT (.cons a (.cons y ky .nil) .nil) = none := by
          simp only [notT]
          rw [if_neg (fun e => by rw [ht] at e; cases e.2)]
        rw [if_neg (fun e => by rw [hn] at e; cases e.2)]
        exact bt_not x w v S a y ky hv hB hx _ _ HK (beq_no c11) (beq_no c12) (beq_no c13) (beq_no c8) (beq_no h7) (by simp [c9]) (by simp [ha]) ht
    · have hn : notT (.cons a ka .nil) = none := by
        unfold notT
        split
        · rename_i e
          cases e
          rw [if_neg (fun e => ha e.1)]
        · rfl
      rw [if_neg (fun e => by rw [hn] at e; cases e.2)]
      exact bt_no x w v S a ka hv hB hx _ _ HK (beq_no c11) (beq_no c12) (beq_no c13) (beq_no c8) (beq_no h7) (by simp [c9]) (beq_no ha)
  · rw [if_neg (fun e => c9 e.1)]
    exact bt_any x w v S k hv hB _ _ HK (beq_no c11) (beq_no c12) (beq_no c13) (beq_no c8) (beq_no h7) (beq_no c9)
end
end Go.Proofs.YtnilaghbbhmkgaaGreatDoor
namespace Go.Proofs.YtnilaghbbhmkgaaGreatDoor
open Go.RowKit
set_option linter.unusedVariables false
set_option maxRecDepth 100000

/-- What best tells. -/
def BestRet (Y : Nd × Fo) (S : Nat → Prop) (w : World) (en : Ending) (w' : World) : Prop :=
  ∃ (v' : Value) (S' : Nat → Prop), en = .returned (partV Y.1 v') ∧ Y.1.wf ∧ KV w' Y.2 v' S' ∧ Bd w' S' ∧ (∀ a, S' a → S a ∨ w.heap.size ≤ a) ∧ Keep S w w'
def okP (x : Nd) (k : Fo) : Prop := okT none (.cons x k .nil) ∨ ∃ l, okT (some l) (.cons x k .nil)
def BestOk (x : Nd) (k : Fo) : Prop := ∀ (w0 w : World) (v : Value) (S : Nat → Prop), ErrVar w0 → Below w0.heap.size w0 w → (∀ a, S a → w0.heap.size ≤ a) → KV w k v S → Bd w S → x.wf → okP x k → N64 (x :: k.flat) → k.flat.length + 1 ≤ 200 →
  Calls Tryz.prog 27 #[partV x v] w fun en w' => BestRet (topT x (bstF k)) S w en w'
theorem okP.kids {x : Nd} {k : Fo} (h : okP x k) : ∃ m, okT m k := by
  rcases h with h | ⟨l, h⟩
  · obtain ⟨_, _, hk, _⟩ := okT.none_cons.1 h
    rcases hk with ⟨_, _, hk⟩ | ⟨_, _, hk⟩
    · exact ⟨_, hk⟩
    · exact ⟨_, hk⟩
  · obtain ⟨_, ⟨_, hk⟩, _⟩ := okT.some_cons.1 h
    exact ⟨_, hk⟩
theorem okT.mid : ∀ {a r ky : Fo} {y : Nd} {m : Option ByteArray}, okT m (a.app (.cons y ky r)) → okP y ky
  | .nil, r, ky, y, none, h => by
    obtain ⟨h1, h2, h3, _⟩ := okT.none_cons.1 h
    exact .inl (okT.none_cons.2 ⟨h1, h2, h3, okT.nil⟩)
  | .nil, r, ky, y, some l, h => by
    obtain ⟨h1, h2, _⟩ := okT.some_cons.1 h
    exact .inr ⟨l, okT.some_cons.2 ⟨h1, h2, okT.nil⟩⟩
  | .cons x k a, r, ky, y, none, h => okT.mid (okT.none_cons.1 h).2.2.2
  | .cons x k a, r, ky, y, some l, h => okT.mid (okT.some_cons.1 h).2.2
/-- What a loop over the parts keeps. -/
structure BL (w0 w W wr : World) (x : Nd) (v : Value) (k done todo : Fo) (S : Nat → Prop) (ld lt : List Value) (Sd St : Nat → Prop) : Prop where
  eq : done.app todo = k
  own : wr.ownsRow 0 63 5 v k.len (ld ++ lt)
  rd : RT wr (bstF done) ld Sd
  rt : RT wr todo lt St
  dis : ∀ a, Sd a → ¬ St a
  gS : ∀ g, v.ownBlock = some g → S g ∧ ¬ Sd g ∧ ¬ St g
  sd : ∀ a, Sd a → (S a ∨ W.heap.size ≤ a) ∧ a < wr.heap.size
  st : ∀ a, St a → S a
  keep : Keep S W wr
theorem BL.bel {w0 w W wr : World} {x : Nd} {v : Value} {k done todo : Fo} {S : Nat → Prop} {ld lt : List Value} {Sd St : Nat → Prop} (h : BL w0 w W wr x v k done todo S ld lt Sd St) (hW : Below w.heap.size w W) (h0 : Below w0.heap.size w0 w) (hS : ∀ a, S a → w0.heap.size ≤ a) : Below w0.heap.size w0 wr :=
  (h0.trans (hW.mono h0.size)).trans (h.keep.below (Nat.le_trans h0.size hW.size) hS)
theorem ownP_free {w : World} {base : Nat} {T : TypeId} {m : Nat} {v : Value} {n : Nat} {l : List Value} (h : w.ownsRow base T m v n l) {g : Nat} (hg : v.ownBlock = some g) (j : Nat) : w.frozen? ⟨g, j, none⟩ = false := by
  rcases h.2 with ⟨rfl, _⟩ | ⟨g', cap, cur, rfl, hb, hh, _⟩
  · simp [Value.ownBlock] at hg
  · simp only [Value.ownBlock, Option.some.injEq] at hg
    subst hg
    simp [World.frozen?, hh]
/-- What holds where it goes once more. -/
def JB (w W : World) (x : Nd) (k : Fo) (S : Nat → Prop) (a' : Act) (wj : World) : Prop := ∃ (u0 u3 u4 u5 u6 u7 u8 u9 u10 u11 u12 u13 u14 u15 u16 u17 u18 u19 u20 u21 u22 u23 u24 u25 u26 u27 u28 u29 : Value), a' = { tmps := #[u0, .pointer (some ⟨w.heap.size, 0, none⟩), .pointer (some ⟨w.heap.size + 1, 0, none⟩), u3, u4, u5, u6, u7, u8, u9, u10, u11, u12, u13, u14, u15, u16, u17, u18, u19, u20, u21, u22, u23, u24, u25, u26, u27, u28, u29], defers := [] } ∧ ∃ (p : Nd × Fo) (u : Value) (Sp : Nat → Prop), Hid (betterT x (bstF k) = some p) ∧ PB wj w.heap.size p.1 u ∧ PB wj (w.heap.size + 1) z0 (.slice none 0 0) ∧ Hid (KV wj p.2 u Sp) ∧ Hid (∀ a, Sp a → (S a ∨ W.heap.size ≤ a) ∧ a < wj.heap.size) ∧ Hid (p.1.wf) ∧ Hid (Keep S w wj)
theorem okP.bst {x : Nd} {k : Fo} (h : okP x k) (hN : N64 (x :: k.flat)) (hl : k.flat.length + 1 ≤ 200) : okP x (bstF k) ∧ N64 (x :: (bstF k).flat) ∧ (bstF k).flat.length + 1 ≤ 200 ∧ bestR (bstF k) := by
  have nk : N64 k.flat := hN.sub (fun y hy => by simp [hy])
  have fin : ∀ m, okT m k → N64 (x :: (bstF k).flat) ∧ (bstF k).flat.length + 1 ≤ 200 ∧ bestR (bstF k) := fun m hm => by
    obtain ⟨_, k2, k3, _⟩ := bst_good k m hm nk (by omega)
    refine ⟨fun y hy => ?_, by omega, best_all k m hm nk (by omega)⟩
    rcases List.mem_cons.1 hy with rfl | hy
    · exact hN y (by simp)
    · exact k2 y hy
  rcases h with h | ⟨l, h⟩
  · obtain ⟨h7, hx, hk, _⟩ := okT.none_cons.1 h
    rcases hk with ⟨h6, hlk, hk⟩ | ⟨h6, hlk, hk⟩
    · obtain ⟨k1, _⟩ := bst_good k _ hk nk (by omega)
      exact ⟨.inl (okT.none_cons.2 ⟨h7, hx, .inl ⟨h6, by rw [bstF_len, hlk], k1⟩, okT.nil⟩), fin _ hk⟩
    · obtain ⟨k1, _⟩ := bst_good k _ hk nk (by omega)
      exact ⟨.inl (okT.none_cons.2 ⟨h7, hx, .inr ⟨h6, by rw [bstF_len, hlk], k1⟩, okT.nil⟩), fin _ hk⟩
  · obtain ⟨hh, ⟨hlk, hk⟩, _⟩ := okT.some_cons.1 h
    obtain ⟨k1, _⟩ := bst_good k none hk nk (by omega)
    exact ⟨.inr ⟨l, okT.some_cons.2 ⟨hh, ⟨by rw [bstF_len, hlk], k1⟩, okT.nil⟩⟩, fin _ hk⟩
theorem better_ok (x : Nd) (k : Fo) (w : World) (v : Value) (S : Nat → Prop) (hv : KV w k v S) (hB : Bd w S) (hx : x.wf) (hok : okP x k) (hN : N64 (x :: k.flat)) (hl : k.flat.length + 1 ≤ 200) (he : ErrVar w) :
    Calls Tryz.prog 54 #[partV x v] w fun en w' => BRet (betterT x k) x k S w en w' := by
  rcases hok with h | ⟨l, h⟩
  · exact better_any x w v S k hv hB hx h hl hN he
  · obtain ⟨⟨h7, _⟩, _⟩ := okT.some_cons.1 h
    exact better_field x w v S k hv hB hx h7
theorem better_okP {x : Nd} {k : Fo} (hok : okP x k) (hN : N64 (x :: k.flat)) (hl : k.flat.length + 1 ≤ 200) {p : Nd × Fo} (hb : betterT x k = some p) : okT none (.cons p.1 p.2 .nil) ∧ N64 (p.1 :: p.2.flat) ∧ p.2.flat.length + 1 ≤ 200 := by
  rcases hok with h | ⟨l, h⟩
  · have := better_same h hl hN hb
    exact ⟨this.ok, this.num, by have := this.len; omega⟩
  · obtain ⟨⟨h7, _⟩, _⟩ := okT.some_cons.1 h
    unfold betterT at hb
    rw [if_neg (by omega), if_neg (by omega), if_neg (by omega), if_pos (.inr h7)] at hb
    cases hb
set_option maxHeartbeats 4000000 in
theorem best_step (x : Nd) (k : Fo) (ih : ∀ y ky, ky.flat.length < k.flat.length → BestOk y ky) : BestOk x k := by
  intro w0 w v S he h0 hS0 hv hB hx hok hN hl
  obtain ⟨lk, S', hown, hrt, hg, hsub⟩ := hv
  obtain ⟨q, c, rfl⟩ := ownP_slice hown
  obtain ⟨W, hW⟩ : ∃ W, W = (w.alloc (.cells #[.int .i64 x.op, .int .i64 x.n, .string x.s, .string x.t, .slice q k.len c] 63)).alloc (.cells #[.int .i64 0, .int .i64 0, .string ⟨#[]⟩, .string ⟨#[]⟩, .slice none 0 0] 63) := ⟨_, rfl⟩
  have hE_0 : En2 w W x (.slice q k.len c) := by rw [hW]; exact En2.new w x _
  have hWs : W.heap.size = w.heap.size + 2 := by rw [hW]; simp
  have HL0 : Hid (BL w0 w W W x (.slice q k.len c) k .nil k S [] lk (fun _ => False) S') := ⟨rfl, ownP_agree hown (fun g _ hl => hE_0.bel.block g hl), rfl, hrt.agree (fun a _ hl => hE_0.bel.block a hl), fun a e => e.elim, fun g e => ⟨(hg g e).1, fun e => e, (hg g e).2⟩, fun a e => e.elim, hsub, Keep.refl _ _⟩
  have HB : Hid (Bd w S) := hB
  have HE : Hid (ErrVar w0) := he
  have H0 : Hid (Below w0.heap.size w0 w) := h0
  have HS0 : Hid (∀ a, S a → w0.heap.size ≤ a) := hS0
  have HX : Hid x.wf := hx
  have HOK : Hid (okP x k) := hok
  have HN : Hid (N64 (x :: k.flat)) := hN
  have HLN : Hid (k.flat.length + 1 ≤ 200) := hl
  have HIH : Hid (∀ y ky, ky.flat.length < k.flat.length → BestOk y ky) := ih
  have hkb : k.len ≤ 1000 := by have := len_flat k; omega
  have HBW : Hid (Below w.heap.size w W) := hE_0.bel
  clear ih hown hrt hg hsub hB he h0 hS0 hx hok hN hl
  unfold partV
  obtain ⟨c0, c1, c2, c3, c4⟩ := hE_0.box.cells
  go_enter Tryz.func27, Tryz.ntmps27
  go_wp2_with fail
  rw [← hW]
  clear hW
  refine wp_scope_jumps 0 (JB w W x k S) (fun _ _ => 0) rfl ?_ ?_
  · go_wp2_with fail
    go_loopw [10] (fun i wr => ∃ (done todo : Fo) (ld lt : List Value) (Sd St : Nat → Prop), i = .int .i64 (done.len : Int) ∧ Hid (BL w0 w W wr x (.slice q k.len c) k done todo S ld lt Sd St) ∧ PB wr w.heap.size x (.slice q k.len c) ∧ PB wr (w.heap.size + 1) z0 (.slice none 0 0)) (fun i _ => k.len - (intOf i).toNat)
    case atStart => exact ⟨.nil, k, [], lk, _, _, rfl, HL0, hE_0.box, hE_0.res⟩
    case round =>
      rename World => w3
      obtain ⟨done, todo, ld, lt, Sd, St, rfl, HL, hp_3, hr_3⟩ := hrel
      cases todo with
      | nil =>
        have hd : done = k := by have := HL.out.eq; rw [app_nil] at this; exact this
        subst hd
        have i1 : ¬ (done.len : Int) < (done.len : Int) := by omega
        have hlt : lt = [] := HL.out.rt
        subst hlt
        obtain ⟨o1, o2, o3, o4⟩ := HOK.out.bst HN.out HLN.out
        have HKV : Hid (KV w3 (bstF done) (.slice q done.len c) (fun a => (S a ∨ W.heap.size ≤ a) ∧ a < w3.heap.size)) := ⟨ld, Sd, by rw [bstF_len]; have := HL.out.own; rw [List.append_nil] at this; exact this, HL.out.rd, fun g hg => ⟨⟨.inl (HL.out.gS g hg).1, (ownP_lt HL.out.own hg).1⟩, (HL.out.gS g hg).2.1⟩, fun a ha => HL.out.sd a ha⟩
        have hw03 := HL.out.bel HBW.out H0.out HS0.out
        have HC := better_ok x (bstF done) w3 (.slice q done.len c) _ HKV.out (fun a ha => ha.2) HX.out o1 o2 o3 (errVar_below HE.out hw03 (Nat.le_refl _))
        have HK3 : Hid (Keep S W w3) := HL.out.keep
        have hW3 : W.heap.size ≤ w3.heap.size := HL.out.keep.size
        unfold partV at HC
        clear HL HL0 hw03 HIH
        obtain ⟨b0, b1, b2, b3, b4⟩ := hp_3.cells
        go_wp2_with fail
        go_step3
        go_wp2_with fail
        cases hbt : betterT x (bstF done) with
        | none =>
          rw [hbt] at HC
          have HTP : Hid (topT x (bstF done) = (x, bstF done)) := by show _ = _; unfold topT; rw [hbt]; rfl
          clear hbt
          refine HC.mono ?_
          rintro _ w6 ⟨⟨v6, S6, rfl, _, hk6, _⟩, hbb⟩
          obtain ⟨q6, c6, rfl, _⟩ := hk6.slice
          have hp_6 := hp_3.up hbb
          have hr_6 := hr_3.up hbb
          obtain ⟨d0, d1, d2, d3, d4⟩ := hp_6.cells
          obtain ⟨r0, r1, r2, r3, r4⟩ := hr_6.cells
          have fr := hr_6.free
          have hl6 : w.heap.size + 1 < w6.heap.size := hr_6.lt
          have hne1 : ¬ w.heap.size + 1 = w6.heap.size := by omega
          have hne2 : ¬ w6.heap.size = w.heap.size + 1 := by omega
          have hne3 : ¬ w.heap.size = w6.heap.size := by omega
          have hbY : ∀ o, Below w6.heap.size w6 (w6.alloc o) := fun o => fbA (Below.refl _ _)
          have s0 := fun o => (hp_6.up (hbY o)).cells.1
          have s1 := fun o => (hp_6.up (hbY o)).cells.2.1
          have s2 := fun o => (hp_6.up (hbY o)).cells.2.2.1
          have s3 := fun o => (hp_6.up (hbY o)).cells.2.2.2.1
          have s4 := fun o => (hp_6.up (hbY o)).cells.2.2.2.2
          clear b0 b1 b2 b3 b4
          simp only [Option.getD_none, Option.isSome_none]
          unfold partV
          go_wp2_with fail
          obtain ⟨V, hV⟩ : ∃ V, V = ((((w6.setCell ⟨w.heap.size + 1, 0, none⟩ (.int .i64 x.op)).setCell ⟨w.heap.size + 1, 1, none⟩ (.int .i64 x.n)).setCell ⟨w.heap.size + 1, 2, none⟩ (.string x.s)).setCell ⟨w.heap.size + 1, 3, none⟩ (.string x.t)).setCell ⟨w.heap.size + 1, 4, none⟩ (.slice q done.len c) := ⟨_, rfl⟩
          rw [← hV]
          obtain ⟨hPV, hKV⟩ := hr_6.put hV
          have hbF : ∀ o, Below V.heap.size V (V.alloc o) := fun o => fbA (Below.refl _ _)
          have t0 := fun o => (hPV.up (hbF o)).cells.1
          have t1 := fun o => (hPV.up (hbF o)).cells.2.1
          have t2 := fun o => (hPV.up (hbF o)).cells.2.2.1
          have t3 := fun o => (hPV.up (hbF o)).cells.2.2.2.1
          have t4 := fun o => (hPV.up (hbF o)).cells.2.2.2.2
          have hKE : ∀ o, Keep S w (V.alloc o) := fun o => ((((Keep.of_below HBW.out : Keep S w W).trans HK3.out (fun a e => .inl e)).trans (Keep.of_below hbb : Keep S w3 w6) (fun a e => .inl e)).trans hKV (fun a e => .inr (by omega))).trans (Keep.of_below (hbF o) : Keep S V _) (fun a e => .inl e)
          have hKF : ∀ o, KV (V.alloc o) (bstF done) (.slice q done.len c) (fun a => (S a ∨ W.heap.size ≤ a) ∧ a < w3.heap.size) := fun o => (((HKV.out.up hbb).agree (fun a ha hl' => hKV.block a hl' (fun e => by
            rcases ha.1 with h | h
            · have := HB.out a h; omega
            · omega)))).up (hbF o)
          simp only [Exit.jump]
          refine bodyPost_ret (v := .agg #[.int .i64 x.op, .int .i64 x.n, .string x.s, .string x.t, .slice q done.len c]) (by simp [results, Tryz.results27, go_sem, t0, t1, t2, t3, t4]) rfl ?_
          rw [HTP.out]
          exact ⟨_, _, rfl, HX.out, hKF _, fun a ha => by have := hbb.size; have := hKV.size; have := (hbF (.cells #[] 0)).size; simp; omega, fun a ha => ha.1.imp id (by omega), hKE _⟩
        | some p =>
          rw [hbt] at HC
          have HBT : Hid (betterT x (bstF done) = some p) := hbt
          clear hbt
          obtain ⟨y, ky⟩ := p
          refine HC.mono ?_
          rintro _ w6 ⟨⟨v6, S6, rfl, hyw6, hk6, hS6⟩, hbb⟩
          simp only [Option.getD_some] at hyw6 hk6
          obtain ⟨q6, c6, rfl, _⟩ := hk6.slice
          have hp_6 := hp_3.up hbb
          have hr_6 := hr_3.up hbb
          obtain ⟨d0, d1, d2, d3, d4⟩ := hp_6.cells
          have fp := hp_6.free
          have hl6 : w.heap.size + 1 < w6.heap.size := hr_6.lt
          have hne1 : ¬ w.heap.size = w6.heap.size := by omega
          have hne2 : ¬ w6.heap.size = w.heap.size := by omega
          have hk7 := hk6.real
          have hlb6 : w.heap.size < w6.heap.size := by omega
          have hbY : ∀ o, Below w6.heap.size w6 (w6.alloc o) := fun o => fbA (Below.refl _ _)
          have s0 := fun o => (hp_6.up (hbY o)).cells.1
          have s1 := fun o => (hp_6.up (hbY o)).cells.2.1
          have s2 := fun o => (hp_6.up (hbY o)).cells.2.2.1
          have s3 := fun o => (hp_6.up (hbY o)).cells.2.2.2.1
          have s4 := fun o => (hp_6.up (hbY o)).cells.2.2.2.2
          have fs := fun o => (hp_6.up (hbY o)).free
          clear b0 b1 b2 b3 b4
          simp only [Option.getD_some, Option.isSome_some]
          unfold partV
          go_wp2_with fail
          go_step3
          obtain ⟨V, hV⟩ : ∃ V, V = ((((w6.setCell ⟨w.heap.size, 0, none⟩ (.int .i64 y.op)).setCell ⟨w.heap.size, 1, none⟩ (.int .i64 y.n)).setCell ⟨w.heap.size, 2, none⟩ (.string y.s)).setCell ⟨w.heap.size, 3, none⟩ (.string y.t)).setCell ⟨w.heap.size, 4, none⟩ (.slice q6 ky.len c6) := ⟨_, rfl⟩
          rw [← hV]
          obtain ⟨hPV, hKV⟩ := hp_6.put (x := y) hV
          have hbF : ∀ o, Below V.heap.size V (V.alloc o) := fun o => fbA (Below.refl _ _)
          have hrV := hr_6.keep hKV (by omega)
          have hSn : ∀ a, S6 a → (S a ∨ W.heap.size ≤ a) := fun a ha => (hS6 a ha).elim (fun h => h.1) (fun h => .inr (by omega))
          refine ⟨rfl, _, _, _, _, _, _, _, _, _, _, _, _, _, _, _, _, _, _, _, _, _, _, _, _, _, _, _, _, rfl, (y, ky), .slice q6 ky.len c6, (fun a => S6 a ∧ a < w6.heap.size), HBT, hPV.up (hbF _), hrV.up (hbF _), ?_, ?_, hyw6, ?_⟩
          · exact (hk7.agree (fun a ha hl' => hKV.block a hl' (fun e => by
              rcases hSn a ha.1 with h | h
              · have := HB.out a h; omega
              · omega))).up (hbF _)
          · exact fun a ha => ⟨hSn a ha.1, by have := hKV.size; have := ha.2; simp; omega⟩
          · exact ((((Keep.of_below HBW.out : Keep S w W).trans HK3.out (fun a e => .inl e)).trans (Keep.of_below hbb : Keep S w3 w6) (fun a e => .inl e)).trans hKV (fun a e => .inr (by omega))).trans (Keep.of_below (hbF _) : Keep S V _) (fun a e => .inl e)
      | cons y ky r =>
        have HD := HL.out.eq
        have hkl : k.len = done.len + (r.len + 1) := by rw [← HD, app_len]; rfl
        have hkf : k.flat.length = done.flat.length + (ky.flat.length + r.flat.length + 1) := by rw [← HD, app_flat]; simp [Fo.flat] <;> omega
        have i1 : (done.len : Int) < (k.len : Int) := by omega
        obtain ⟨u, lt', Sk, Sr, rfl, hyw, hSk, hSr, hrt', hvk⟩ := RT.cons_iff.1 HL.out.rt
        obtain ⟨qu, cu, rfl, _⟩ := hvk.slice
        have hld : ld.length = done.len * 5 := by rw [HL.out.rd.len, bstF_len]
        have hcl : ∀ j, j < 5 → (ld ++ (pcl y (.slice qu ky.len cu) ++ lt'))[done.len * 5 + j]? = (pcl y (.slice qu ky.len cu))[j]? := fun j hj => by
          rw [List.getElem?_append_right (by omega), List.getElem?_append_left (by simp [pcl]; omega)]
          congr 1; omega
        obtain ⟨g, cap, hu, hg, p0, f0⟩ := ownP_cell HL.out.own (hcl 0 (by omega))
        cases hu
        obtain ⟨_, _, e1, _, p1, f1⟩ := ownP_cell HL.out.own (hcl 1 (by omega))
        cases e1
        obtain ⟨_, _, e1, _, p2, f2⟩ := ownP_cell HL.out.own (hcl 2 (by omega))
        cases e1
        obtain ⟨_, _, e1, _, p3, f3⟩ := ownP_cell HL.out.own (hcl 3 (by omega))
        cases e1
        obtain ⟨_, _, e1, _, p4, f4⟩ := ownP_cell HL.out.own (hcl 4 (by omega))
        cases e1
        obtain ⟨hgS, hgd, hgt⟩ := HL.out.gS g rfl
        have hSw : ∀ a, S a → a < w.heap.size := HB.out
        obtain ⟨W4, hW4⟩ : ∃ W4, W4 = w3.alloc (.cells #[.int .i64 y.op, .int .i64 y.n, .string y.s, .string y.t, .slice qu ky.len cu] 63) := ⟨_, rfl⟩
        have hb4 : Below w3.heap.size w3 W4 := by rw [hW4]; exact (Below.refl _ _).alloc (Nat.le_refl _) _
        have hy_4 : PB W4 w3.heap.size y (.slice qu ky.len cu) := by rw [hW4]; exact PB.new w3 y _ rfl
        have hp_4 := hp_3.up hb4
        have hr_4 := hr_3.up hb4
        have hW3 : W.heap.size ≤ w3.heap.size := HL.out.keep.size
        have hP3 : PC w3 g (done.len * 5) y (.slice qu ky.len cu) := ⟨hg, p0, p1, p2, p3, p4⟩
        have hP4 := hP3.up hb4
        have ff : ∀ j, w3.frozen? ⟨g, j, none⟩ = false := ownP_free HL.out.own rfl
        clear p0 p1 p2 p3 p4 f0 f1 f2 f3 f4
        obtain ⟨p0, p1, p2, p3, p4⟩ := hP3.cells
        obtain ⟨m, hkm⟩ := HOK.out.kids
        have hoky : okP y ky := okT.mid (a := done) (r := r) (m := m) (by rw [HD]; exact hkm)
        have hNy : N64 (y :: ky.flat) := HN.out.sub (fun z hz => by rw [← HD, app_flat]; simp [Fo.flat] at hz ⊢; rcases hz with hz | hz <;> simp [hz])
        have hw03 := HL.out.bel HBW.out H0.out HS0.out
        have HBk : Hid (Bd w3 Sk) := fun a ha => by have := hSw a (HL.out.st a (hSk a ha).1); have := HBW.out.size; omega
        obtain ⟨⟨y5, k5⟩, hY⟩ : ∃ Y, Y = topT y (bstF ky) := ⟨_, rfl⟩
        have HY : Hid ((y5, k5) = topT y (bstF ky)) := hY
        have HC : Hid (∀ Z, Below W4.heap.size W4 Z → Calls Tryz.prog 27 #[.agg #[.int .i64 y.op, .int .i64 y.n, .string y.s, .string y.t, .slice qu ky.len cu]] Z fun en w' => ∃ q5 c5 S5, en = .returned (.agg #[.int .i64 y5.op, .int .i64 y5.n, .string y5.s, .string y5.t, .slice q5 k5.len c5]) ∧ y5.wf ∧ KV w' k5 (.slice q5 k5.len c5) S5 ∧ Bd w' S5 ∧ (∀ a, S5 a → Sk a ∨ W4.heap.size ≤ a) ∧ Keep Sk W4 w') := fun Z hZ => by
          refine (HIH.out y ky (by omega) w0 Z _ Sk HE.out (hw03.trans ((hb4.trans (hZ.mono hb4.size)).mono hw03.size)) (fun a ha => HS0.out a (HL.out.st a (hSk a ha).1)) ((hvk.up hb4).up hZ) (fun a ha => Nat.lt_of_lt_of_le (HBk.out a ha) (Nat.le_trans hb4.size hZ.size)) hyw hoky hNy (by have := HLN.out; omega)).mono ?_
          rintro en w' ⟨v', S5, h1, h2, h3, h4, h5, h6⟩
          rw [← hY] at h1 h2 h3
          obtain ⟨q5, c5, rfl, _⟩ := h3.slice
          exact ⟨q5, c5, S5, h1, h2, h3, h4, fun a ha => (h5 a ha).imp id (fun h => Nat.le_trans hZ.size h), (Keep.of_below hZ).trans h6 (fun a e => .inl e)⟩
        clear hY
        have HKL : Hid (k.len = done.len + (r.len + 1)) := hkl
        have HKF : Hid (k.flat.length = done.flat.length + (ky.flat.length + r.flat.length + 1)) := hkf
        obtain ⟨b0, b1, b2, b3, b4⟩ := hp_3.cells
        have hbo : ¬ Sk w.heap.size := fun e => by have := hSw _ (HL.out.st _ (hSk _ e).1); omega
        have hgk : ¬ Sk g := fun e => hgt (hSk g e).1
        have hro : ¬ Sk (w.heap.size + 1) := fun e => by have := hSw _ (HL.out.st _ (hSk _ e).1); omega
        have ff4 : ∀ j, W4.frozen? ⟨g, j, none⟩ = false := fun j => (World.frozen?_of_block (a := ⟨g, j, none⟩) (hb4.block g hg)).trans (ff j)
        have hg4 : g < W4.heap.size := Nat.lt_of_lt_of_le hg hb4.size
        clear hkl hkf
        go_wp2_with fail
        rw [← hW4]
        clear hW4 p0 p1 p2 p3 p4 ff
        obtain ⟨p0, p1, p2, p3, p4⟩ := hP4.cells
        obtain ⟨d0, d1, d2, d3, d4⟩ := hp_4.cells
        obtain ⟨y0, y1, y2, y3, y4⟩ := hy_4.cells
        go_region_with (first
          | (go_at_call 27
             refine (HC.out _ (by repeat (first | exact Below.refl _ _ | apply fbA | apply fbD))).mono ?_
             rintro _ w5 ⟨q5, c5, S5, rfl, hyw5, hk5, hB5, hS5, hK5⟩
             have hp_5 := hp_4.keep hK5 hbo
             have hr_5 := hr_4.keep hK5 hro
             have hP5 := hP4.keep hK5 hgk
             have ff5 : ∀ j, w5.frozen? ⟨g, j, none⟩ = false := fun j => (World.frozen?_of_block (a := ⟨g, j, none⟩) (hK5.block g hg4 hgk)).trans (ff4 j)
             obtain ⟨m0, m1, m2, m3, m4⟩ := hP5.cells
             obtain ⟨n0, n1, n2, n3, n4⟩ := hp_5.cells))
        all_goals
          obtain ⟨V, hV⟩ : ∃ V, V = ((((w5.setCell ⟨g, done.len * 5, none⟩ (.int .i64 y5.op)).setCell ⟨g, done.len * 5 + 1, none⟩ (.int .i64 y5.n)).setCell ⟨g, done.len * 5 + 2, none⟩ (.string y5.s)).setCell ⟨g, done.len * 5 + 3, none⟩ (.string y5.t)).setCell ⟨g, done.len * 5 + 4, none⟩ (.slice q5 k5.len c5) := ⟨_, rfl⟩
          rw [← hV]
          have hO5 : w5.ownsRow 0 63 5 (.slice (some ⟨g, 0, none⟩) k.len c) k.len (ld ++ (pcl y (.slice qu ky.len cu) ++ lt')) := ownP_agree HL.out.own (fun g' hg' hl' => by
            cases hg'
            exact (hK5.block _ hg4 hgk).trans (hb4.block _ hl'))
          obtain ⟨hO6, hK6⟩ := own_put (y := y5) hO5 (g := g) (p := done.len * 5) rfl hld hV
          have hall : ∀ a, a < w3.heap.size → ¬ Sk a → a ≠ g → V.heap[a]? = w3.heap[a]? := fun a h1 h2 h3 => (hK6.block a (Nat.lt_of_lt_of_le h1 (Nat.le_trans hb4.size hK5.size)) h3).trans ((hK5.block a (Nat.lt_of_lt_of_le h1 hb4.size) h2).trans (hb4.block a h1))
          have hSkS : ∀ a, Sk a → S a := fun a ha => HL.out.st a (hSk a ha).1
          have hgw : g < w.heap.size := hSw g hgS
          have hs4 : w3.heap.size ≤ W4.heap.size := hb4.size
          have hs5 : W4.heap.size ≤ w5.heap.size := hK5.size
          have hs6 : w5.heap.size ≤ V.heap.size := hK6.size
          have HL2 : Hid (BL w0 w W V x (.slice (some ⟨g, 0, none⟩) k.len c) k (done.app (.cons y ky .nil)) r S (ld ++ pcl y5 (.slice q5 k5.len c5)) lt' (fun a => Sd a ∨ S5 a) Sr) := by
            refine ⟨by rw [app_assoc, ← HD]; rfl, by rw [List.append_assoc]; exact hO6, ?_, ?_, ?_, ?_, ?_, fun a ha => HL.out.st a (hSr a ha), ?_⟩
            · rw [app_best]
              have : bstF (.cons y ky .nil) = .cons y5 k5 .nil := by simp only [bstF]; rw [← HY.out]
              rw [this]
              refine RT.join (Sa := Sd) (Sb := S5) (HL.out.rd.agree (fun a ha hl' => hall a hl' (fun e => HL.out.dis a ha (hSk a e).1) (fun e => hgd (by rw [← e]; exact ha)))) (RT.one hyw5 (hk5.agree (fun a ha hl' => hK6.block a hl' (fun e => by
                rcases hS5 a ha with h | h
                · exact hgk (by rw [← e]; exact h)
                · omega)))) (fun a ha => ⟨.inl ha, fun e => ?_⟩) (fun a ha => .inr ha)
              rcases hS5 a e with h | h
              · exact HL.out.dis a ha (hSk a h).1
              · have := (HL.out.sd a ha).2; omega
            · exact hrt'.agree (fun a ha hl' => hall a hl' (fun e => (hSk a e).2 ha) (fun e => hgt (by rw [← e]; exact hSr a ha)))
            · intro a ha e
              rcases ha with ha | ha
              · exact HL.out.dis a ha (hSr a e)
              · rcases hS5 a ha with h | h
                · exact (hSk a h).2 e
                · have := hSw a (HL.out.st a (hSr a e)); have := HBW.out.size; omega
            · intro g' hg'
              have hgg : g = g' := by simpa [Value.ownBlock] using hg'
              subst hgg
              exact ⟨hgS, fun e => e.elim hgd (fun e => (hS5 _ e).elim hgk (by omega)), fun e => hgt (hSr _ e)⟩
            · intro a ha
              rcases ha with ha | ha
              · exact ⟨(HL.out.sd a ha).1, by have := (HL.out.sd a ha).2; omega⟩
              · exact ⟨(hS5 a ha).imp (hSkS a) (by omega), by have := hB5 a ha; omega⟩
            · exact ((HL.out.keep.trans (Keep.of_below hb4 : Keep S w3 W4) (fun a e => .inl e)).trans (hK5.mono hSkS) (fun a e => .inl e)).trans hK6 (fun a e => .inl (by rw [e]; exact hgS))
          have hp_6 := hp_5.keep hK6 (by omega)
          have hr_6 := hr_5.keep hK6 (by omega)
          have HAL : Hid ((done.app (.cons y ky .nil)).len = done.len + 1) := by show _ = _; rw [app_len]; rfl
          clear m0 m1 m2 m3 m4 n0 n1 n2 n3 n4 p0 p1 p2 p3 p4 d0 d1 d2 d3 d4 y0 y1 y2 y3 y4 hV
          go_wp2_with fail
          go_roundw
          case rel => exact ⟨done.app (.cons y ky .nil), r, _, _, _, _, by rw [HAL.out]; go_num, HL2, hp_6, hr_6⟩
          case measure => have := HKL.out; simp [intOf]; omega
  · rintro a' w3 ⟨u0, u3, u4, u5, u6, u7, u8, u9, u10, u11, u12, u13, u14, u15, u16, u17, u18, u19, u20, u21, u22, u23, u24, u25, u26, u27, u28, u29, rfl, ⟨y, ky⟩, uv, Sp, HBT, hp_3, hr_3, HKV, HSp, HYW, HK3⟩
    obtain ⟨q3, cp3, rfl, _⟩ := HKV.out.slice
    dsimp only at hp_3 HKV HYW
    obtain ⟨o1, o2, o3, o4⟩ := HOK.out.bst HN.out HLN.out
    obtain ⟨z1, z2, z3⟩ := better_okP o1 o2 o3 HBT.out
    have hnone : betterT y ky = none := (best_part o4 o2 HBT.out).1
    have hW3 : W.heap.size ≤ w3.heap.size := by have := hr_3.lt; omega
    have hw03 : Below w0.heap.size w0 w3 := H0.out.trans (HK3.out.below H0.out.size HS0.out)
    have HC := better_ok y ky w3 (.slice q3 ky.len cp3) Sp HKV.out (fun a ha => (HSp.out a ha).2) HYW.out (.inl z1) z2 z3 (errVar_below HE.out hw03 (Nat.le_refl _))
    rw [hnone] at HC
    have HTP : Hid (topT x (bstF k) = (y, ky)) := by show _ = _; unfold topT; rw [HBT.out]; rfl
    unfold partV at HC
    clear HL0 hw03 HIH o1 o2 o3 o4 z1 z2 z3 hnone c0 c1 c2 c3 c4 hE_0
    obtain ⟨b0, b1, b2, b3, b4⟩ := hp_3.cells
    go_wp2_with fail
    refine HC.mono ?_
    rintro _ w6 ⟨⟨v6, S6, rfl, _, hk6, _⟩, hbb⟩
    obtain ⟨q6, c6, rfl, _⟩ := hk6.slice
    have hp_6 := hp_3.up hbb
    have hr_6 := hr_3.up hbb
    obtain ⟨d0, d1, d2, d3, d4⟩ := hp_6.cells
    obtain ⟨r0, r1, r2, r3, r4⟩ := hr_6.cells
    have fr := hr_6.free
    have hl6 : w.heap.size + 1 < w6.heap.size := hr_6.lt
    have hne1 : ¬ w.heap.size + 1 = w6.heap.size := by omega
    have hne2 : ¬ w6.heap.size = w.heap.size + 1 := by omega
    have hne3 : ¬ w.heap.size = w6.heap.size := by omega
    have hbY : ∀ o, Below w6.heap.size w6 (w6.alloc o) := fun o => fbA (Below.refl _ _)
    have s0 := fun o => (hp_6.up (hbY o)).cells.1
    have s1 := fun o => (hp_6.up (hbY o)).cells.2.1
    have s2 := fun o => (hp_6.up (hbY o)).cells.2.2.1
    have s3 := fun o => (hp_6.up (hbY o)).cells.2.2.2.1
    have s4 := fun o => (hp_6.up (hbY o)).cells.2.2.2.2
    clear b0 b1 b2 b3 b4
    simp only [Option.getD_none, Option.isSome_none]
    unfold partV
    go_wp2_with fail
    obtain ⟨V, hV⟩ : ∃ V, V = ((((w6.setCell ⟨w.heap.size + 1, 0, none⟩ (.int .i64 y.op)).setCell ⟨w.heap.size + 1, 1, none⟩ (.int .i64 y.n)).setCell ⟨w.heap.size + 1, 2, none⟩ (.string y.s)).setCell ⟨w.heap.size + 1, 3, none⟩ (.string y.t)).setCell ⟨w.heap.size + 1, 4, none⟩ (.slice q3 ky.len cp3) := ⟨_, rfl⟩
    rw [← hV]
    obtain ⟨hPV, hKV⟩ := hr_6.put hV
    have hbF : ∀ o, Below V.heap.size V (V.alloc o) := fun o => fbA (Below.refl _ _)
    have t0 := fun o => (hPV.up (hbF o)).cells.1
    have t1 := fun o => (hPV.up (hbF o)).cells.2.1
    have t2 := fun o => (hPV.up (hbF o)).cells.2.2.1
    have t3 := fun o => (hPV.up (hbF o)).cells.2.2.2.1
    have t4 := fun o => (hPV.up (hbF o)).cells.2.2.2.2
    have hKE : ∀ o, Keep S w (V.alloc o) := fun o => (((HK3.out).trans (Keep.of_below hbb : Keep S w3 w6) (fun a e => .inl e)).trans hKV (fun a e => .inr (by omega))).trans (Keep.of_below (hbF o) : Keep S V _) (fun a e => .inl e)
    have hKF : ∀ o, KV (V.alloc o) ky (.slice q3 ky.len cp3) Sp := fun o => (((HKV.out.up hbb).agree (fun a ha hl' => hKV.block a hl' (fun e => by
      rcases (HSp.out a ha).1 with h | h
      · have := HB.out a h; omega
      · omega)))).up (hbF o)
    simp only [Exit.jump]
    refine bodyPost_ret (v := .agg #[.int .i64 y.op, .int .i64 y.n, .string y.s, .string y.t, .slice q3 ky.len cp3]) (by simp [results, Tryz.results27, go_sem, t0, t1, t2, t3, t4]) rfl ?_
    rw [HTP.out]
    exact ⟨_, _, rfl, HYW.out, hKF _, fun a ha => by have := hbb.size; have := hKV.size; have := (HSp.out a ha).2; simp; omega, fun a ha => (HSp.out a ha).1.imp id (by omega), hKE _⟩
theorem best_any : ∀ (N : Nat) (x : Nd) (k : Fo), k.flat.length < N → BestOk x k
  | 0, x, k, h => by omega
  | N + 1, x, k, h => best_step x k (fun y ky hy => best_any N y ky (by omega))
end Go.Proofs.YtnilaghbbhmkgaaGreatDoor
namespace Go.Proofs.YtnilaghbbhmkgaaGreatDoor
open Go.RowKit
set_option linter.unusedVariables false
set_option maxRecDepth 100000

theorem foldL_tree (e : List Nd) : foldL e = (topT (treeOf e).1 (bstF (treeOf e).2)).1 :: (topT (treeOf e).1 (bstF (treeOf e).2)).2.flat := by
  unfold foldL
  simp [bstF, Fo.flat]
set_option maxHeartbeats 1000000 in
theorem fbetter_ok (e : List Nd) (p : Option Addr) (c n : Nat) (w : World) (h : LArg w e n p c) (er : ErrVar w) (hz : xfault e = 0) :
    Calls Tryz.prog 10 #[.slice p n c] w fun en w' => (∃ q c', en = .returned (.tuple #[.slice q (foldL e).length c', .nilIface]) ∧ LArg w' (foldL e) (foldL e).length q c') ∧ Below w.heap.size w w' := by
  obtain ⟨rfl, hnl, hle, hcm, hN⟩ := h
  obtain ⟨t1, t2⟩ := treeOf_spec hz
  have hl := (xfault_zero hz).1
  have HT := tcheck_any e p c w hnl (Nat.le_trans hle hcm)
  rw [eV_nil hz] at HT
  have hlen : e.length = (treeOf e).2.flat.length + ([] : List Nd).length + 1 := by
    have := congrArg List.length t2
    simp only [List.length_cons] at this
    simpa using this
  have HF := fun w1 (hb : Below w.heap.size w w1) => first_any ((treeOf e).2.flat.length + 1) (treeOf e).1 (treeOf e).2 (Nat.lt_succ_self _) w w1 [] e.length p c hb (by rw [List.append_nil, ← t2]; exact hnl) hlen hle hcm t1.arp.1 t1.arp.2.1 (by omega)
  have hmem : (treeOf e).1 ∈ (treeOf e).1 :: (treeOf e).2.flat := by simp
  rw [← t2] at hmem
  have hxw : (treeOf e).1.wf := hnl.wfs _ hmem
  clear hmem
  have HO : Hid (okP (treeOf e).1 (treeOf e).2) := .inl t1
  have HN : Hid (N64 ((treeOf e).1 :: (treeOf e).2.flat)) := by show N64 _; rw [← t2]; exact hN
  have HL : Hid ((treeOf e).2.flat.length + 1 ≤ 200) := by show _ ≤ _; have := hlen; simp at this; omega
  have HB := fun w0 w1 v S h1 h2 h3 h4 h5 => best_any ((treeOf e).2.flat.length + 1) (treeOf e).1 (treeOf e).2 (Nat.lt_succ_self _) w0 w1 v S h1 h2 h3 h4 h5 hxw HO.out HN.out HL.out
  have HFL := foldL_tree e
  obtain ⟨_, hN2, hln2, _⟩ := fold_same hz hN
  have hEr : Hid (ErrVar w) := er
  clear hlen t1 t2 hz hnl
  generalize topT (treeOf e).1 (bstF (treeOf e).2) = Y at *
  obtain ⟨y, ky⟩ := Y
  generalize (treeOf e).1 = x at *
  generalize (treeOf e).2 = k at *
  dsimp only at HFL
  rw [HFL] at hN2 hln2 ⊢
  have HN2 : Hid (N64 (y :: ky.flat)) := hN2
  have hk2 : ky.flat.length + 1 ≤ 200 := by simp at hln2; omega
  have hny : y :: ky.flat ≠ [] := by simp
  clear HFL hN2 hln2 er
  go_enter Tryz.func10, Tryz.ntmps10
  go_wp2_with fail
  refine HT.mono ?_
  rintro _ w1 ⟨rfl, hb1⟩
  have HF1 := HF w1 hb1
  unfold partV at HF1
  clear HT HF
  go_wp2_with fail
  refine HF1.mono ?_
  rintro _ w2 ⟨⟨u, q2, c2, rfl, hu, _⟩, hb2⟩
  obtain ⟨qu, cu, rfl, _⟩ := hu.slice
  obtain ⟨W3, hW3⟩ : ∃ W3, W3 = w2.alloc (.cells #[.int .i64 x.op, .int .i64 x.n, .string x.s, .string x.t, .slice qu k.len cu] 63) := ⟨_, rfl⟩
  have hb3 : Below w2.heap.size w2 W3 := by rw [hW3]; exact (Below.refl _ _).alloc (Nat.le_refl _) _
  have hb01 : Below w.heap.size w w2 := hb1.trans (hb2.mono hb1.size)
  have hb03 : Below w.heap.size w W3 := hb01.trans (hb3.mono hb01.size)
  have HC := HB w W3 _ _ hEr.out hb03 (fun a ha => Nat.le_trans hb1.size ha.1) (hu.real.up hb3) (fun a ha => Nat.lt_of_lt_of_le ha.2 hb3.size)
  have HC2 : Calls Tryz.prog 27 #[.agg #[.int .i64 x.op, .int .i64 x.n, .string x.s, .string x.t, .slice qu k.len cu]] W3 fun en w' => ∃ q5 c5 S5, en = .returned (.agg #[.int .i64 y.op, .int .i64 y.n, .string y.s, .string y.t, .slice q5 ky.len c5]) ∧ y.wf ∧ KV w' ky (.slice q5 ky.len c5) S5 ∧ Bd w' S5 ∧ Below w.heap.size W3 w' := by
    refine HC.mono ?_
    rintro en w' ⟨v', S5, h1, h2, h3, h4, h5, h6⟩
    dsimp only at h1 h2 h3
    obtain ⟨q5, c5, rfl, _⟩ := h3.slice
    exact ⟨q5, c5, S5, h1, h2, h3, h4, h6.below hb03.size (fun a ha => Nat.le_trans hb1.size ha.1)⟩
  have hP3 : PB W3 w2.heap.size x (.slice qu k.len cu) := by rw [hW3]; exact PB.new w2 x _ rfl
  obtain ⟨c0, c1, c2', c3, c4⟩ := hP3.cells
  rw [hW3] at c0 c1 c2' c3 c4
  clear HC HB HF1 hu
  go_wp2_with fail
  rw [← hW3]
  refine HC2.mono ?_
  rintro _ w5 ⟨q5, c5, S5, rfl, hyw, hk5, hB5, hb5⟩
  have HON := onto_any (ky.flat.length + 1) y ky (Nat.lt_succ_self _) w5 _ S5 w5.heap.size (.slice none 0 0) [] hk5 hB5 hyw (Nat.le_refl _) (ON.empty _ _) (by simp; omega)
  rw [List.nil_append] at HON
  unfold partV at HON
  have hb05 : Below w.heap.size w w5 := hb03.trans hb5
  clear HC2 c0 c1 c2' c3 c4 hW3 hP3
  go_wp2_with fail
  refine HON.mono ?_
  rintro _ w6 ⟨⟨ev, rfl, hO⟩, hk6⟩
  obtain ⟨g, cap, rfl, _, _, h3, h4, h5, _⟩ := hO.slice hny
  have hb06 := hb05.trans (hk6.bel.mono hb05.size)
  go_wp2
  go_ret2
  exact ⟨⟨_, _, rfl, rfl, h5, h3, h4, HN2.out⟩, hb06⟩
theorem fbetter_bad (e : List Nd) (p : Option Addr) (c n : Nat) (w : World) (h : LArg w e n p c) (hz : xfault e ≠ 0) :
    Calls Tryz.prog 10 #[.slice p n c] w fun en w' => en = .returned (.tuple #[.slice none 0 0, .iface 28 (.int .i64 (xfault e))]) ∧ Below w.heap.size w w' := by
  obtain ⟨rfl, hnl, hle, hcm, hN⟩ := h
  have HT := tcheck_any e p c w hnl (Nat.le_trans hle hcm)
  rw [eV_not hz] at HT
  generalize xfault e = a at *
  go_enter Tryz.func10, Tryz.ntmps10
  go_wp2_with fail
  refine HT.mono ?_
  rintro _ w1 ⟨rfl, hb1⟩
  go_wp2
  go_ret2
  exact ⟨rfl, hb1⟩
/-- What is written so is told so. -/
theorem treeOf_is {x : Nd} {k : Fo} (h : okT none (.cons x k .nil)) (hl : k.flat.length + 1 ≤ 200) : treeOf (x :: k.flat) = (x, k) := by
  obtain ⟨t1, t2⟩ := treeOf_spec (tree_ex h hl)
  have := flat_inj (.cons x k .nil) (.cons (treeOf (x :: k.flat)).1 (treeOf (x :: k.flat)).2 .nil) [] [] h.ar t1.ar rfl (by simp only [Fo.flat, List.append_nil]; exact t2)
  have h1 := this.1
  injection h1 with h2 h3 _
  rw [Prod.ext_iff]
  exact ⟨h2.symm, h3.symm⟩
theorem num_tree (n : Int) : okT none (.cons ⟨2, n, ⟨#[]⟩, ⟨#[]⟩⟩ .nil .nil) := okT.none_cons.2 ⟨by show (2 : Int) ≠ 7; decide, rfl, .inr ⟨by show (2 : Int) ≠ 6; decide, rfl, okT.nil⟩, okT.nil⟩
theorem val_23 : valueL [] rqA [⟨17, 0, ⟨#[]⟩, ⟨#[]⟩⟩, ⟨2, 2, ⟨#[]⟩, ⟨#[]⟩⟩, ⟨2, 3, ⟨#[]⟩, ⟨#[]⟩⟩] = .ok (mN 5) := by
  have hx : xfault [oN 17, ⟨2, 2, ⟨#[]⟩, ⟨#[]⟩⟩, ⟨2, 3, ⟨#[]⟩, ⟨#[]⟩⟩] = 0 := by kernel_rfl
  have h2 : xfault [⟨2, 2, ⟨#[]⟩, ⟨#[]⟩⟩] = 0 := by kernel_rfl
  have h3 : xfault [⟨2, 3, ⟨#[]⟩, ⟨#[]⟩⟩] = 0 := by kernel_rfl
  have v2 : vfault [⟨2, 2, ⟨#[]⟩, ⟨#[]⟩⟩] = 0 := by kernel_rfl
  have v3 : vfault [⟨2, 3, ⟨#[]⟩, ⟨#[]⟩⟩] = 0 := by kernel_rfl
  show valueL [] rqA [oN 17, ⟨2, 2, ⟨#[]⟩, ⟨#[]⟩⟩, ⟨2, 3, ⟨#[]⟩, ⟨#[]⟩⟩] = _
  rw [valueL_ex hx, if_pos stf_none, if_pos askA]
  obtain ⟨e1, e2⟩ := ev_two (es := []) (q := rqA) (o := 17) h2 h3
  rw [const0 v2] at e1
  rw [const0 v3] at e2
  have : ev0 [] rqA (oN 17 :: ([⟨2, 2, ⟨#[]⟩, ⟨#[]⟩⟩] ++ [⟨2, 3, ⟨#[]⟩, ⟨#[]⟩⟩])) = bindE (evE [] rqA ((oN 17 :: (([⟨2, 2, ⟨#[]⟩, ⟨#[]⟩⟩] : List Nd) ++ [⟨2, 3, ⟨#[]⟩, ⟨#[]⟩⟩])).length) ([⟨2, 2, ⟨#[]⟩, ⟨#[]⟩⟩] ++ [⟨2, 3, ⟨#[]⟩, ⟨#[]⟩⟩])) fun x => bindE (evE [] rqA ((oN 17 :: (([⟨2, 2, ⟨#[]⟩, ⟨#[]⟩⟩] : List Nd) ++ [⟨2, 3, ⟨#[]⟩, ⟨#[]⟩⟩])).length) (bh ((oN 17 :: (([⟨2, 2, ⟨#[]⟩, ⟨#[]⟩⟩] : List Nd) ++ [⟨2, 3, ⟨#[]⟩, ⟨#[]⟩⟩])).length) ([⟨2, 2, ⟨#[]⟩, ⟨#[]⟩⟩] ++ [⟨2, 3, ⟨#[]⟩, ⟨#[]⟩⟩]))) fun y => twoE [] 17 x y := rfl
  rw [e1, e2] at this
  refine this.trans ?_
  have hn : nmf 17 2 3 = 0 := by decide
  show (if nmf 17 2 3 = 0 then Except.ok (mN (nx 17 2 3)) else .error (nmf 17 2 3)) = _
  rw [if_pos hn]
  rfl
theorem top_num (n : Int) : topT ⟨2, n, ⟨#[]⟩, ⟨#[]⟩⟩ .nil = (⟨2, n, ⟨#[]⟩, ⟨#[]⟩⟩, .nil) := by
  unfold topT betterT
  rw [if_neg (by show ¬ (2 : Int) = 11; decide), if_neg (by show ¬ (2 : Int) = 12; decide), if_neg (by show ¬ (2 : Int) = 13; decide), if_neg (by show ¬ ((2 : Int) = 8 ∨ (2 : Int) = 7); decide), if_neg (fun e => absurd e.1 (by show ¬ (2 : Int) = 9; decide))]
  unfold knownT
  rw [if_pos (.inl (one_val (by show (2 : Int) ≠ 7; decide) (by show (2 : Int) ≠ 5; decide) (by show (2 : Int) ≠ 6; decide) rfl))]
  rfl
/-- Two plus three is five. -/
theorem fold_23 : foldL [⟨17, 0, ⟨#[]⟩, ⟨#[]⟩⟩, ⟨2, 2, ⟨#[]⟩, ⟨#[]⟩⟩, ⟨2, 3, ⟨#[]⟩, ⟨#[]⟩⟩] = [⟨2, 5, ⟨#[]⟩, ⟨#[]⟩⟩] := by
  have hk : okT none (.cons ⟨2, 2, ⟨#[]⟩, ⟨#[]⟩⟩ .nil (.cons ⟨2, 3, ⟨#[]⟩, ⟨#[]⟩⟩ .nil .nil)) := by
    obtain ⟨a, b, c, _⟩ := okT.none_cons.1 (num_tree 2)
    exact okT.none_cons.2 ⟨a, b, c, num_tree 3⟩
  have ho : okT none (.cons ⟨17, 0, ⟨#[]⟩, ⟨#[]⟩⟩ (.cons ⟨2, 2, ⟨#[]⟩, ⟨#[]⟩⟩ .nil (.cons ⟨2, 3, ⟨#[]⟩, ⟨#[]⟩⟩ .nil .nil)) .nil) := okT.none_cons.2 ⟨by show (17 : Int) ≠ 7; decide, rfl, .inr ⟨by show (17 : Int) ≠ 6; decide, rfl, hk⟩, okT.nil⟩
  have ht := treeOf_is ho (by decide)
  have ht5 := treeOf_is (num_tree 5) (by decide)
  simp only [Fo.flat, List.append_nil, List.nil_append] at ht ht5
  unfold foldL
  rw [ht]
  simp only [bstF]
  rw [top_num, top_num]
  have hb : topT ⟨17, 0, ⟨#[]⟩, ⟨#[]⟩⟩ (.cons ⟨2, 2, ⟨#[]⟩, ⟨#[]⟩⟩ .nil (.cons ⟨2, 3, ⟨#[]⟩, ⟨#[]⟩⟩ .nil .nil)) = (⟨2, 5, ⟨#[]⟩, ⟨#[]⟩⟩, .nil) := by
    unfold topT betterT
    rw [if_neg (by show ¬ (17 : Int) = 11; decide), if_neg (by show ¬ (17 : Int) = 12; decide), if_neg (by show ¬ (17 : Int) = 13; decide), if_neg (by show ¬ ((17 : Int) = 8 ∨ (17 : Int) = 7); decide), if_neg (fun e => absurd e.1 (by show ¬ (17 : Int) = 9; decide))]
    unfold knownT
    have h1 : vfault [(⟨17, 0, ⟨#[]⟩, ⟨#[]⟩⟩ : Nd), ⟨2, 2, ⟨#[]⟩, ⟨#[]⟩⟩, ⟨2, 3, ⟨#[]⟩, ⟨#[]⟩⟩] = 1 := by kernel_rfl
    have v2 : vfault [(⟨2, 2, ⟨#[]⟩, ⟨#[]⟩⟩ : Nd)] = 0 := by kernel_rfl
    have v3 : vfault [(⟨2, 3, ⟨#[]⟩, ⟨#[]⟩⟩ : Nd)] = 0 := by kernel_rfl
    have h2 : ¬ hangF (.cons ⟨2, 2, ⟨#[]⟩, ⟨#[]⟩⟩ .nil (.cons ⟨2, 3, ⟨#[]⟩, ⟨#[]⟩⟩ .nil .nil)) := by
      simp [hangF, hangs, Fo.flat, v2, v3]
    have h0 : ¬ (vfault (⟨17, 0, ⟨#[]⟩, ⟨#[]⟩⟩ :: Fo.flat (.cons ⟨2, 2, ⟨#[]⟩, ⟨#[]⟩⟩ .nil (.cons ⟨2, 3, ⟨#[]⟩, ⟨#[]⟩⟩ .nil .nil))) = 0 ∨ hangF (.cons ⟨2, 2, ⟨#[]⟩, ⟨#[]⟩⟩ .nil (.cons ⟨2, 3, ⟨#[]⟩, ⟨#[]⟩⟩ .nil .nil))) := fun e => e.elim (fun e => absurd (h1.symm.trans e : (1 : Int) = 0) (by decide)) h2
    rw [if_neg h0]
    show (Option.map treeOf (okE (valueL [] rqA [⟨17, 0, ⟨#[]⟩, ⟨#[]⟩⟩, ⟨2, 2, ⟨#[]⟩, ⟨#[]⟩⟩, ⟨2, 3, ⟨#[]⟩, ⟨#[]⟩⟩]))).getD _ = _
    rw [val_23]
    show (some (treeOf (mN 5))).getD _ = _
    exact ht5
  rw [hb]
  rfl
end Go.Proofs.YtnilaghbbhmkgaaGreatDoor
