/- The document's JoinKinds, where no record is joined: by walks of its own text; a row of nodes whose first one is counted up. The document's JoinKinds, where neither sets nor records are joined: by walks of its own text (written by gen_krm.py). The document's joinRecs: by a walk of its own text. The document's JoinKinds, whole: by walks of its own text. -/
import Derived.Test.YtckjndiepojgfaaGreatDoorG17
import Derived.Test.YtckjndiepojgfaaGreatDoorG10
import Derived.Test.YtckjndiepojgfaaGreatDoorG12
import Derived.Test.YtckjndiepojgfaaGreatDoorG21
import Derived.Deep.RegionHeld
import Derived.Test.YtckjndiepojgfaaGreatDoorG13
namespace Go.Proofs.YtckjndiepojgfaaGreatDoor
open Go.RowKit
set_option linter.unusedVariables false
set_option linter.unusedSimpArgs false
set_option maxRecDepth 100000

/-- How many fields are behind a name. -/
def cntN (last : ByteArray) : Tp → Nat
  | .nil => 0
  | .cons f _ r => (if 0 < cmpB f.s last then 1 else 0) + cntN last r
theorem cntN_le {a b : ByteArray} (h : cmpB a b < 0) : ∀ t : Tp, cntN b t ≤ cntN a t
  | .nil => Nat.le_refl _
  | .cons f k r => by
    have := cntN_le h r
    unfold cntN
    by_cases c : 0 < cmpB f.s b
    · have h2 : cmpB b f.s < 0 := by have := cmpB_is.neg f.s b; omega
      have h3 := cmpB_is.lt_le h (by omega : cmpB b f.s ≤ 0)
      have h4 := cmpB_is.neg f.s a
      rw [if_pos c, if_pos (by omega)]; omega
    · rw [if_neg c]; split <;> omega
theorem cntN_lt {a b : ByteArray} (h : cmpB a b < 0) : ∀ t : Tp, nmT t b → cntN b t < cntN a t
  | .nil, hn => absurd hn nmT_nil
  | .cons f k r, hn => by
    unfold nmT at hn
    rw [Tp.find] at hn
    unfold cntN
    by_cases c : f.s = b
    · have h5 := cntN_le h r
      have h6 := cmpB_is.neg a b
      rw [if_neg (by rw [c, cmpB_is.self]; omega), if_pos (by rw [c]; omega)]
      omega
    · rw [if_neg c] at hn
      have h5 := cntN_lt h r hn
      by_cases c2 : 0 < cmpB f.s b
      · have h2 : cmpB b f.s < 0 := by have := cmpB_is.neg f.s b; omega
        have h3 := cmpB_is.lt_le h (by omega : cmpB b f.s ≤ 0)
        have h4 := cmpB_is.neg f.s a
        rw [if_pos c2, if_pos (by omega)]; omega
      · rw [if_neg c2]; split <;> omega
theorem cntN_all (last : ByteArray) : ∀ t : Tp, cntN last t ≤ t.len
  | .nil => Nat.le_refl _
  | .cons f k r => by have := cntN_all last r; unfold cntN; simp only [Tp.len]; split <;> omega
/-- The first node of a row is counted up. -/
theorem on_count {w w' : World} {base g n cap : Nat} {x : Nd} {M : List Nd} {m : Int} (h : ON w base (.slice (some ⟨g, 0, none⟩) n cap) (x :: M)) (hm : m ≤ 9223372036854775807) (hw : w' = w.setCell ⟨g, 1, none⟩ (.int .i64 m)) : ON w' base (.slice (some ⟨g, 0, none⟩) n cap) (⟨x.op, m, x.s, x.t⟩ :: M) ∧ Keep (fun a => a = g) w w' := by
  subst hw
  obtain ⟨⟨hn, hr⟩, hwf⟩ := h
  rcases hr with ⟨h1, _⟩ | ⟨g', cap', cur, h1, hb, hh, h2, h3, h4, h5⟩
  · cases h1
  · cases h1
    have e1 := heap_setCell_same w g 1 _ _ (.int .i64 m) hh
    refine ⟨⟨⟨ncells_length _, .inr ⟨g, cap, _, by simp, hb, e1, h2, h3, by simpa using h4, ?_⟩⟩, fun y hy => ?_⟩, keep_set w g 1 _⟩
    · simp only [Array.toList_setIfInBounds, List.take_set, List.length_cons] at h5 ⊢
      rw [h5]
      simp [ncells]
    · rcases List.mem_cons.1 hy with rfl | hy
      · have := hwf x (by simp)
        exact ⟨this.1, this.2.1, hm⟩
      · exact hwf y (by simp [hy])
/-- What JoinKinds tells: a list, and where it may lie. -/
def JnRet (p q : Option Addr) (w w' : World) (L : List Nd) (e : Ending) : Prop := ∃ r c', e = .returned (.slice r L.length c') ∧ AK0 w' L r c' ∧ ∀ b off, r = some ⟨b, off, none⟩ → (∃ o, p = some ⟨b, o, none⟩) ∨ (∃ o, q = some ⟨b, o, none⟩) ∨ w.heap.size ≤ b
/-- What JoinKinds tells of a type, whatever the other one is. -/
def JnRK (x : Nd) (k : Tp) : Prop := ∀ (y : Nd) (l : Tp) (w : World) (p : Option Addr) (c : Nat) (q : Option Addr) (d : Nat), AK0 w (x :: k.flat) p c → AK0 w (y :: l.flat) q d → T1 (.cons x k .nil) → T1 (.cons y l .nil) → k.flat.length ≤ 890 → l.flat.length ≤ 890 →
    Calls Tryz.prog 34 #[.slice p (k.flat.length + 1) c, .slice q (l.flat.length + 1) d] w fun e w' => JnRet p q w w' (jn false (.cons x k .nil) (.cons y l .nil)).flat e ∧ Below w.heap.size w w'
section
variable (x : Nd) (k : Tp) (y : Nd) (l : Tp) (w : World) (p : Option Addr) (c : Nat) (q : Option Addr) (d : Nat) (ht : AK0 w (x :: k.flat) p c) (hv : AK0 w (y :: l.flat) q d)
include ht hv
set_option maxHeartbeats 1000000 in
theorem jnR_right (h : x.op = 49) :
    Calls Tryz.prog 34 #[.slice p (k.flat.length + 1) c, .slice q (l.flat.length + 1) d] w fun e w' => JnRet p q w w' (y :: l.flat) e ∧ Below w.heap.size w w' := by
  have HV : Hid (AK0 w (y :: l.flat) q d) := hv
  have HQ : Hid (∀ b off, q = some ⟨b, off, none⟩ → (∃ o, p = some ⟨b, o, none⟩) ∨ (∃ o, q = some ⟨b, o, none⟩) ∨ w.heap.size ≤ b) := fun b off e => .inr (.inl ⟨off, e⟩)
  obtain ⟨b, off, hp, hbw, c0, c1, c2, c3, _⟩ := ht.nl.head
  have i1 : (0 : Int) < ((k.flat.length : Int) + 1) := by omega
  have HL : Hid ((y :: l.flat).length = l.flat.length + 1) := rfl
  subst hp
  clear ht hv
  obtain ⟨xo, xn, xs, xt⟩ := x
  dsimp only at h c0 c1 c2 c3
  subst h
  go_enter Tryz.func34, Tryz.ntmps34
  go_wp2
  go_ret
  exact ⟨⟨q, d, by rw [HL.out]; rfl, HV.out, HQ.out⟩, Below.refl _ _⟩
set_option maxHeartbeats 1000000 in
theorem jnR_left (h1 : x.op ≠ 49) (h : y.op = 49) :
    Calls Tryz.prog 34 #[.slice p (k.flat.length + 1) c, .slice q (l.flat.length + 1) d] w fun e w' => JnRet p q w w' (x :: k.flat) e ∧ Below w.heap.size w w' := by
  have HV : Hid (AK0 w (x :: k.flat) p c) := ht
  have HQ : Hid (∀ b off, p = some ⟨b, off, none⟩ → (∃ o, p = some ⟨b, o, none⟩) ∨ (∃ o, q = some ⟨b, o, none⟩) ∨ w.heap.size ≤ b) := fun b off e => .inl ⟨off, e⟩
  obtain ⟨b, off, hp, hbw, c0, c1, c2, c3, _⟩ := ht.nl.head
  obtain ⟨b', off', hq, hbw', d0, d1, d2, d3, _⟩ := hv.nl.head
  have i1 : (0 : Int) < ((k.flat.length : Int) + 1) := by omega
  have i2 : (0 : Int) < ((l.flat.length : Int) + 1) := by omega
  have HL : Hid ((x :: k.flat).length = k.flat.length + 1) := rfl
  subst hp hq
  have e1 : (x.op == 49) = false := by rw [beq_eq_false_iff_ne]; exact h1
  clear ht hv h1
  obtain ⟨yo, yn, ys, yt⟩ := y
  dsimp only at h d0 d1 d2 d3
  subst h
  go_enter Tryz.func34, Tryz.ntmps34
  go_wp2
  go_ret
  exact ⟨⟨_, c, by rw [HL.out]; rfl, HV.out, HQ.out⟩, Below.refl _ _⟩
end
end Go.Proofs.YtckjndiepojgfaaGreatDoor
namespace Go.Proofs.YtckjndiepojgfaaGreatDoor
open Go.RowKit
set_option linter.unusedVariables false
set_option linter.unusedSimpArgs false
set_option maxRecDepth 100000

/-- A new list of one node. -/
theorem one_new {p q : Option Addr} {w W' : World} (o : Int) (hb : Below (w.alloc (.cells #[.int .i64 o, .int .i64 0, .string ⟨#[]⟩, .string ⟨#[]⟩] 55)).heap.size (w.alloc (.cells #[.int .i64 o, .int .i64 0, .string ⟨#[]⟩, .string ⟨#[]⟩] 55)) W') : JnRet p q w W' [lfN o] (.returned (.slice (some ⟨w.heap.size, 0, none⟩) 1 1)) := by
  have hB := (Blk.new w #[.int .i64 o, .int .i64 0, .string ⟨#[]⟩, .string ⟨#[]⟩] 55 rfl).up hb
  refine ⟨_, _, rfl, ⟨.inr ⟨w.heap.size, 0, rfl, hB.lt, fun i x hx => ?_⟩, Nat.le_refl _, by unfold maxLen; omega⟩, fun b off e => ?_⟩
  · cases i with
    | succ i => simp at hx
    | zero =>
      simp only [List.getElem?_cons_zero, Option.some.injEq] at hx
      subst hx
      exact ⟨hB.cell 0, hB.cell 1, hB.cell 2, hB.cell 3, by simp [lfN, e0, Nd.wf, maxLen]; exact Nat.zero_le _⟩
  · cases e
    exact .inr (.inr (Nat.le_refl _))
section
variable (x : Nd) (k : Tp) (y : Nd) (l : Tp) (w : World) (p : Option Addr) (c : Nat) (q : Option Addr) (d : Nat) (ht : AK0 w (x :: k.flat) p c) (hv : AK0 w (y :: l.flat) q d)
include ht hv
set_option maxHeartbeats 2000000 in
theorem jnR_any (h1 : x.op ≠ 49) (h2 : y.op ≠ 49) (h : (x.op = 45 ∧ y.op ≠ 45) ∨ (x.op = 46 ∧ y.op ≠ 46) ∨ (x.op ≠ 45 ∧ x.op ≠ 46 ∧ x.op ≠ y.op) ∨ (x.op ≠ 45 ∧ x.op ≠ 46 ∧ x.op = y.op ∧ x.s ≠ y.s)) :
    Calls Tryz.prog 34 #[.slice p (k.flat.length + 1) c, .slice q (l.flat.length + 1) d] w fun e w' => JnRet p q w w' [lfN 48] e ∧ Below w.heap.size w w' := by
  have HN : Hid (∀ W', Below (w.alloc (.cells #[.int .i64 48, .int .i64 0, .string ⟨#[]⟩, .string ⟨#[]⟩] 55)).heap.size (w.alloc (.cells #[.int .i64 48, .int .i64 0, .string ⟨#[]⟩, .string ⟨#[]⟩] 55)) W' → JnRet p q w W' [lfN 48] (.returned (.slice (some ⟨w.heap.size, 0, none⟩) 1 1))) := fun W' hW => one_new 48 hW
  obtain ⟨b, off, hp, hbw, c0, c1, c2, c3, _⟩ := ht.nl.head
  obtain ⟨b', off', hq, hbw', d0, d1, d2, d3, _⟩ := hv.nl.head
  have i1 : (0 : Int) < ((k.flat.length : Int) + 1) := by omega
  have i2 : (0 : Int) < ((l.flat.length : Int) + 1) := by omega
  subst hp hq
  clear ht hv
  obtain ⟨xo, xn, xs, xt⟩ := x
  obtain ⟨yo, yn, ys, yt⟩ := y
  dsimp only at h1 h2 h c0 c1 c2 c3 d0 d1 d2 d3
  have e1 : (xo == 49) = false := by rw [beq_eq_false_iff_ne]; exact h1
  have e2 : (yo == 49) = false := by rw [beq_eq_false_iff_ne]; exact h2
  clear h1 h2
  rcases h with ⟨rfl, h⟩ | ⟨rfl, h⟩ | ⟨ha, hb, h⟩ | ⟨ha, hb, rfl, h⟩
  · have e3 : (yo == 45) = false := by rw [beq_eq_false_iff_ne]; exact h
    have e4 : ((45 : Int) == yo) = false := by rw [beq_eq_false_iff_ne]; exact fun e => h e.symm
    clear h
    go_enter Tryz.func34, Tryz.ntmps34
    go_wp2_with fail
    go_region
    all_goals
      go_wp2
      go_ret
      exact ⟨HN.out _ kqx, kqx⟩
  · have e3 : (yo == 46) = false := by rw [beq_eq_false_iff_ne]; exact h
    have e4 : ((46 : Int) == yo) = false := by rw [beq_eq_false_iff_ne]; exact fun e => h e.symm
    clear h
    go_enter Tryz.func34, Tryz.ntmps34
    go_wp2_with fail
    go_region
    all_goals
      go_wp2
      go_ret
      exact ⟨HN.out _ kqx, kqx⟩
  · have e3 : (xo == 45) = false := by rw [beq_eq_false_iff_ne]; exact ha
    have e4 : (xo == 46) = false := by rw [beq_eq_false_iff_ne]; exact hb
    have e5 : (xo == yo) = false := by rw [beq_eq_false_iff_ne]; exact h
    clear ha hb h
    go_enter Tryz.func34, Tryz.ntmps34
    go_wp2_with fail
    go_region
    all_goals
      go_wp2
      go_ret
      exact ⟨HN.out _ kqx, kqx⟩
  · have e3 : (xo == 45) = false := by rw [beq_eq_false_iff_ne]; exact ha
    have e4 : (xo == 46) = false := by rw [beq_eq_false_iff_ne]; exact hb
    have e5 : (xs.toList == ys.toList) = false := by
      rw [beq_eq_false_iff_ne]
      exact fun e => h (bytes_inj (by simpa only [ByteArray.toList_eq] using e))
    clear ha hb h
    go_enter Tryz.func34, Tryz.ntmps34
    go_wp2_with fail
    go_region
    all_goals
      go_wp2
      go_ret
      exact ⟨HN.out _ kqx, kqx⟩
set_option maxHeartbeats 2000000 in
theorem jnR_same (h1 : x.op ≠ 49) (h2 : x.op ≠ 45) (h3 : x.op ≠ 46) (h4 : x.op = y.op) (h5 : x.s = y.s) :
    Calls Tryz.prog 34 #[.slice p (k.flat.length + 1) c, .slice q (l.flat.length + 1) d] w fun e w' => JnRet p q w w' (x :: k.flat) e ∧ Below w.heap.size w w' := by
  have HV : Hid (∀ W, Below w.heap.size w W → AK0 W (x :: k.flat) p c) := fun W hW => ht.up hW
  have HQ : Hid (∀ b off, p = some ⟨b, off, none⟩ → (∃ o, p = some ⟨b, o, none⟩) ∨ (∃ o, q = some ⟨b, o, none⟩) ∨ w.heap.size ≤ b) := fun b off e => .inl ⟨off, e⟩
  have HL : Hid ((x :: k.flat).length = k.flat.length + 1) := rfl
  obtain ⟨b, off, hp, hbw, c0, c1, c2, c3, _⟩ := ht.nl.head
  obtain ⟨b', off', hq, hbw', d0, d1, d2, d3, _⟩ := hv.nl.head
  have i1 : (0 : Int) < ((k.flat.length : Int) + 1) := by omega
  have i2 : (0 : Int) < ((l.flat.length : Int) + 1) := by omega
  subst hp hq
  clear ht hv
  obtain ⟨xo, xn, xs, xt⟩ := x
  obtain ⟨yo, yn, ys, yt⟩ := y
  dsimp only at h1 h2 h3 h4 h5 c0 c1 c2 c3 d0 d1 d2 d3
  have e1 : (xo == 49) = false := by rw [beq_eq_false_iff_ne]; exact h1
  have e2 : (xo == 45) = false := by rw [beq_eq_false_iff_ne]; exact h2
  have e3 : (xo == 46) = false := by rw [beq_eq_false_iff_ne]; exact h3
  subst h4 h5
  clear h1 h2 h3
  go_enter Tryz.func34, Tryz.ntmps34
  go_wp2_with fail
  go_region
  all_goals
    go_wp2
    go_ret
    exact ⟨⟨_, c, by rw [HL.out]; rfl, HV.out _ kqx, HQ.out⟩, kqx⟩
end
end Go.Proofs.YtckjndiepojgfaaGreatDoor
namespace Go.Proofs.YtckjndiepojgfaaGreatDoor
open Go.RowKit
set_option linter.unusedVariables false
set_option linter.unusedSimpArgs false
set_option maxRecDepth 100000

def txOf : Value → ByteArray
  | .string s => s
  | _ => e0
theorem nm_ne {t : Tp} (h : Fl e0 t) {s : ByteArray} (hs : nmT t s) : s ≠ e0 := by
  rintro rfl
  unfold nmT at hs
  rw [h.no_e0] at hs
  cases hs
theorem append_nodesG (w : World) {ops : Array Oper} {rest : List Oper} {o : Oper} {a : Act} {Q : Exit → Act → World → Prop} (hgd : o.guard = none) (s x : Operand)
    (ho : o.op = .call { callee := .builtin .append, args := #[s, x], argTypes := #[22, 22] })
    (base : Nat) (v : Value) (L : List Nd) (hs : a.eval s = v) (hown : ON w base v L) (M : List Nd) (n : Nat) (hn : M.length = n) (b off c : Nat) (hN : NL w (some ⟨b, off, none⟩) M)
    (hx : a.eval x = .slice (some ⟨b, off, none⟩) n c) (hlen : L.length + M.length ≤ 1099511627776) (hbase : base ≤ w.heap.size)
    (h : ∀ v' w', ON w' base v' (L ++ M) → w.grownBy w' v.ownBlock → (v'.ownBlock = v.ownBlock ∨ v'.ownBlock = some w.heap.size) → wpList Tryz.prog ops Q rest (a.put o.dst v') w') : wpList Tryz.prog ops Q (o :: rest) a w := by
  subst hn
  obtain ⟨i0, hi, hz0, hz1, hz2⟩ := info_parts Tryz.infoNode
  refine wpList_append_own_at _ hgd s x 22 ho base 55 i0 _ 4 48 Tryz.underlying22 hi hz0 hz1 hz2 rfl (by decide) v L.length (ncells L) hs hown.1 ⟨b, off, none⟩ M.length c (ncells M) hx (ncells_length M) ?_ (ncells_one _) (by unfold maxLen; omega) (by omega) hbase ?_
  · intro j u hu
    have hadd : (⟨b, off, none⟩ : Addr).add j = ⟨b, off + j, none⟩ := by unfold Addr.add; split <;> simp_all
    rw [hadd]; exact hN.cells j u hu
  · intro v' w' h1 h2 _ h4
    refine h v' w' ⟨?_, fun x hx => ?_⟩ h2 h4
    · rw [ncells_append, List.length_append]; exact h1
    · rcases List.mem_append.1 hx with hx | hx
      · exact hown.2 x hx
      · exact hN.wfs x hx
theorem NL.keep {S : Nat → Prop} {w w' : World} {b off : Nat} {L : List Nd} (h : NL w (some ⟨b, off, none⟩) L) (k : Keep S w w') (hS : ¬ S b) : NL w' (some ⟨b, off, none⟩) L := by
  rcases h with h | ⟨b', off', h1, h2, h3⟩
  · exact .inl h
  · cases h1
    refine .inr ⟨b, off, rfl, Nat.lt_of_lt_of_le h2 k.size, fun i x hx => ?_⟩
    have q : ∀ o, w'.cell? ⟨b, o, none⟩ = w.cell? ⟨b, o, none⟩ := fun o => k.cell (p := ⟨b, o, none⟩) h2 hS
    obtain ⟨a1, a2, a3, a4, a5⟩ := h3 i x hx
    exact ⟨(q _).trans a1, (q _).trans a2, (q _).trans a3, (q _).trans a4, a5⟩
theorem keep_grown {w w' : World} {r : Option Nat} (h : w.grownBy w' r) : Keep (fun a => r = some a) w w' := ⟨h.os, h.tape, h.output, h.size, fun a ha hn => h.block a ha (fun e => hn e.symm)⟩
theorem FkRet.num {k : Tp} {s : ByteArray} {e : Ending} (h : FkRet k s e) : ∃ n : Int, e = .returned (.int .i64 n) ∧ ((k.find s = none ∧ n = -1) ∨ ∃ (d q : Tp) (f : Nd) (kf : Tp), k = d.app (.cons f kf q) ∧ k.find s = some (f, kf) ∧ n = ((1 + d.flat.length : Nat) : Int)) := by
  rcases h with ⟨h1, rfl⟩ | ⟨d, q, f, kf, h1, h2, rfl⟩
  · exact ⟨_, rfl, .inl ⟨h1, rfl⟩⟩
  · exact ⟨_, rfl, .inr ⟨d, q, f, kf, h1, h2, rfl⟩⟩
/-- The names of the first j of both. -/
def SJ (k l : Tp) (j : Nat) (s : ByteArray) : Prop := (0 < j ∧ nmT k s) ∨ (1 < j ∧ nmT l s)
theorem knn' (w : World) (n : Nat) : Below w.heap.size w (w.drewN n) := ⟨rfl, rfl, rfl, Nat.le_refl _, fun _ _ => rfl⟩
theorem ON.keepK {S : Nat → Prop} {w w' : World} {base : Nat} {v : Value} {L : List Nd} (h : ON w base v L) (k : Keep S w w') (hS : ∀ g, v.ownBlock = some g → ¬ S g) : ON w' base v L := ⟨ownP_agree h.1 (fun g hg hl => k.block g hl (hS g hg)), h.2⟩
/-- One name more: how many are left, and how great it is. -/
theorem jr_next {k l dn : Tp} {last nx : ByteArray} (f x : Nd) (kx : Tp) (hS : nmT k nx ∨ nmT l nx) (hlt : cmpB last nx < 0) (h1 : dn.len + cntN last k + cntN last l ≤ k.len + l.len) (h2 : dn.flat.length ≤ dn.len * 2000) (h3 : kx.flat.length ≤ 1900) : (dn.app (.cons f (.cons x kx .nil) .nil)).len + cntN nx k + cntN nx l ≤ k.len + l.len ∧ (dn.app (.cons f (.cons x kx .nil) .nil)).flat.length ≤ (dn.app (.cons f (.cons x kx .nil) .nil)).len * 2000 ∧ cntN nx k + cntN nx l < cntN last k + cntN last l := by
  have a1 := cntN_le hlt k
  have a2 := cntN_le hlt l
  have a3 : cntN nx k + cntN nx l < cntN last k + cntN last l := by
    rcases hS with h | h
    · have := cntN_lt hlt k h; omega
    · have := cntN_lt hlt l h; omega
  rw [tp_app_len, tp_app_flat]
  simp only [Tp.len, Tp.flat, List.length_append, List.length_cons, List.length_nil, List.append_nil]
  refine ⟨by omega, by omega, a3⟩
theorem jr_on {w : World} {base : Nat} {v : Value} {dn : Tp} {f x : Nd} {kx : Tp} (h : ON w base v (((⟨46, (dn.len : Int) + 1, e0, e0⟩ : Nd) :: dn.flat) ++ [f] ++ (x :: kx.flat))) : ON w base v (rcN (dn.app (.cons f (.cons x kx .nil) .nil)) :: (dn.app (.cons f (.cons x kx .nil) .nil)).flat) := by
  have e : rcN (dn.app (.cons f (.cons x kx .nil) .nil)) = ⟨46, (dn.len : Int) + 1, e0, e0⟩ := by unfold rcN; rw [tp_app_len]; simp [Tp.len]
  rw [e, tp_app_flat]
  simpa [Tp.flat] using h
set_option maxHeartbeats 2000000 in
theorem joinRecs_any (k l : Tp) (w : World) (p : Option Addr) (c : Nat) (q : Option Addr) (d : Nat) (ht : AK0 w (rcN k :: k.flat) p c) (hv : AK0 w (rcN l :: l.flat) q d) (hk : Fl e0 k) (hl : Fl e0 l) (h9 : k.flat.length ≤ 890) (h8 : l.flat.length ≤ 890) (ih : ∀ f kf, kf.flat.length < k.flat.length → JnRK f kf) :
    Calls Tryz.prog 68 #[.slice p (k.flat.length + 1) c, .slice q (l.flat.length + 1) d] w fun e w' => JnRet p q w w' (rcN (addF k l (jn true k l)) :: (addF k l (jn true k l)).flat) e ∧ Below w.heap.size w w' := by
  have HTK : Hid (AK0 w (rcN k :: k.flat) p c) := ht
  have HVK : Hid (AK0 w (rcN l :: l.flat) q d) := hv
  have HFK : Hid (Fl e0 k) := hk
  have HFL : Hid (Fl e0 l) := hl
  have HL9 : Hid (k.flat.length ≤ 890 ∧ l.flat.length ≤ 890) := ⟨h9, h8⟩
  have HK1 := fun W (hW : Below w.heap.size w W) (s : ByteArray) => fieldKind_any k hk s p c W (ht.nl.up hW) (by have := ht.le; simpa using this) ht.cm (by omega)
  have HK2 := fun W (hW : Below w.heap.size w W) (s : ByteArray) => fieldKind_any l hl s q d W (hv.nl.up hW) (by have := hv.le; simpa using this) hv.cm (by omega)
  obtain ⟨W0, hW0⟩ : ∃ W0, W0 = w.alloc (.cells #[.int .i64 46, .int .i64 0, .string ⟨#[]⟩, .string ⟨#[]⟩] 55) := ⟨_, rfl⟩
  have hbW : Below w.heap.size w W0 := by rw [hW0]; exact kqx
  have hO0 : ON W0 w.heap.size (.slice (some ⟨w.heap.size, 0, none⟩) 1 1) (rcN .nil :: []) := by
    refine ⟨⟨by simp [ncells], .inr ⟨w.heap.size, 1, _, rfl, Nat.le_refl _, by rw [hW0]; exact (MapKept.heap_alloc w _).1, Nat.le_refl _, by unfold maxLen; omega, rfl, by simp [ncells, rcN, Tp.len, e0]⟩⟩, fun x hx => ?_⟩
    rw [List.mem_singleton.1 hx]
    simp [rcN, Tp.len, e0, Nd.wf, maxLen]
    exact Nat.zero_le _
  clear ht hv hk hl h9 h8
  go_enter Tryz.func68, Tryz.ntmps68
  go_wp2_with fail
  rw [← hW0]
  clear hW0
  go_loopw [5, 6, 7, 8, 9, 10, 11, 12, 13, 14, 15, 16] (fun ov lv _ _ _ _ _ _ _ _ _ _ wr => ∃ (dn : Tp) (last : ByteArray), lv = .string last ∧ last.size ≤ maxLen ∧ ON wr w.heap.size ov (rcN dn :: dn.flat) ∧ Hid (Upto k l dn last) ∧ Hid (dn.len + cntN last k + cntN last l ≤ k.len + l.len) ∧ Hid (dn.flat.length ≤ dn.len * 2000) ∧ Below w.heap.size w wr) (fun _ lv _ _ _ _ _ _ _ _ _ _ _ => cntN (txOf lv) k + cntN (txOf lv) l)
  case atStart => exact ⟨.nil, e0, rfl, by unfold maxLen e0; exact Nat.zero_le _, hO0, Upto.start HFK.out HFL.out, by have := cntN_all e0 k; have := cntN_all e0 l; show _ ≤ _; simp only [Tp.len]; omega, by show _ ≤ _; simp [Tp.flat], hbW⟩
  case round =>
    rename World => wr
    obtain ⟨dn, last, rfl, hls, hO, HU, HCN, HFT, hbr⟩ := hrel
    obtain ⟨W1, hW1⟩ : ∃ W1, W1 = wr.alloc (.cells #[.slice p (k.flat.length + 1) c, .slice q (l.flat.length + 1) d] 22) := ⟨_, rfl⟩
    have hb1 : Below wr.heap.size wr W1 := by rw [hW1]; exact kqx
    have HB : Hid (Blk W1 wr.heap.size #[.slice p (k.flat.length + 1) c, .slice q (l.flat.length + 1) d] 22) := by rw [hW1]; exact Blk.new wr _ _ rfl
    have HO : Hid (ON wr w.heap.size u5 (rcN dn :: dn.flat)) := hO
    have hb01 := kqt hbr hb1
    clear hO
    go_wp2_with fail
    rw [← hW1]
    clear hW1
    go_loopw [7, 9, 10, 11, 12] (fun nv kv _ _ _ w2 => ∃ (j : Nat) (nx : ByteArray), j ≤ 2 ∧ kv = .int .i64 j ∧ nv = .string nx ∧ nx.size ≤ maxLen ∧ Hid (IsNext (SJ k l j) last nx) ∧ Below W1.heap.size W1 w2) (fun _ kv _ _ _ _ => 2 - (intOf kv).toNat)
    case atStart => exact ⟨0, e0, by omega, rfl, rfl, by unfold maxLen e0; exact Nat.zero_le _, (IsNext.start last).congr (fun s => by unfold SJ; simp), Below.refl _ _⟩
    case round =>
      rename World => w2
      obtain ⟨j, nx, hj, rfl, rfl, hnz, HN, hb2⟩ := hrel
      by_cases hj2 : j < 2
      · have i1 : (j : Int) < 2 := by omega
        obtain ⟨t, pt, ct, hcell, hAK, hFl, ht9, hSt⟩ : ∃ (t : Tp) (pt : Option Addr) (ct : Nat), (#[.slice p (k.flat.length + 1) c, .slice q (l.flat.length + 1) d] : Array Value)[j]? = some (.slice pt (t.flat.length + 1) ct) ∧ AK0 w (rcN t :: t.flat) pt ct ∧ Fl e0 t ∧ t.flat.length ≤ 890 ∧ (∀ s, SJ k l (j + 1) s ↔ SJ k l j s ∨ nmT t s) := by
          have : j = 0 ∨ j = 1 := by omega
          rcases this with rfl | rfl
          · exact ⟨k, p, c, rfl, HTK.out, HFK.out, HL9.out.1, fun s => by unfold SJ; simp⟩
          · exact ⟨l, q, d, rfl, HVK.out, HFL.out, HL9.out.2, fun s => by unfold SJ; simp⟩
        have hb02 := kqt hb01 hb2
        have y0 : w2.cell? ⟨wr.heap.size, j, none⟩ = some (.slice pt (t.flat.length + 1) ct) := ((HB.out.up hb2).cell j).trans hcell
        have HS := fieldsOf_any t hFl pt ct w2 (hAK.nl.up hb02) (by have := hAK.le; simpa using this) hAK.cm (by omega)
        have HAK : Hid (AK0 w (rcN t :: t.flat) pt ct) := hAK
        have HTF : Hid (Fl e0 t) := hFl
        have HST : Hid (∀ s, SJ k l (j + 1) s ↔ SJ k l j s ∨ nmT t s) := hSt
        have HY0 : Hid (∀ W, Below w2.heap.size w2 W → W.cell? ⟨wr.heap.size, j, none⟩ = some (.slice pt (t.flat.length + 1) ct)) := fun W hW => ((HB.out.up (kqt hb2 hW)).cell j).trans hcell
        have ht90 : t.len ≤ 890 := Nat.le_trans (tp_len_flat t) ht9
        clear hcell hAK hFl hSt
        go_wp2_with fail
        refine HS.mono ?_
        rintro _ w3 ⟨⟨qf, cf, rfl, hIL⟩, hb3⟩
        have HQ : Hid (IL w3 qf (offs t 1)) := hIL
        clear HS hIL y0
        go_wp2_with fail
        go_loopw [7, 11, 12] (fun nv iv _ w4 => ∃ (a r : Tp) (i : Nat) (nx : ByteArray), Hid (t = a.app r) ∧ Hid (a.len = i) ∧ i ≤ t.len ∧ iv = .int .i64 i ∧ nv = .string nx ∧ nx.size ≤ maxLen ∧ Hid (IsNext (fun s => SJ k l j s ∨ nmT a s) last nx) ∧ Below w3.heap.size w3 w4) (fun _ iv _ _ => t.len - (intOf iv).toNat)
        case atStart => exact ⟨.nil, t, 0, nx, rfl, rfl, Nat.zero_le _, rfl, rfl, hnz, HN.out.congr (fun s => by simp [nmT_nil]), Below.refl _ _⟩
        case round =>
          rename World => w4
          clear HN hnz
          obtain ⟨a, r, i, nx, HD, HI, hik, rfl, rfl, hnz, HN, hb4⟩ := hrel
          have hb24 := kqt hb3 hb4
          have hb04 := kqt hb02 hb24
          by_cases hlt : i < t.len
          · have i3 : (i : Int) < (t.len : Int) := by omega
            obtain ⟨f, kf, r2, hr⟩ := rest_cons HD.out (by rw [HI.out]; exact hlt)
            have hd := HD.out
            rw [hr] at hd
            have ho := offs_at hd 1
            rw [HI.out] at ho
            obtain ⟨bf, of_, rfl, hbf, x0⟩ := (HQ.out.up hb4).atK ho
            have hpt : ∃ bt ot, pt = some ⟨bt, ot, none⟩ := by
              rcases HAK.out.nl with h | ⟨b, o, h, _⟩
              · cases h
              · exact ⟨b, o, h⟩
            obtain ⟨bt, ot, rfl⟩ := hpt
            have hfl := field_len hd
            have hat : 1 + a.flat.length < (rcN t :: t.flat).length := by simp; omega
            have hta : (rcN t :: t.flat)[1 + a.flat.length] = f := by
              have h1 := drop_field (x := rcN t) hd
              rw [List.drop_eq_getElem_cons hat] at h1
              exact (List.cons.inj h1).1
            obtain ⟨bt', ot', e', hbt, y1, x2, x3, y3, hwf⟩ := (HAK.out.up hb04).nl.at hat
            rw [hta] at x3 hwf
            cases e'
            have hfs : f.s.size ≤ maxLen := hwf.1
            have i5 : ((1 + a.flat.length : Nat) : Int) < ((t.flat.length : Int) + 1) := by omega
            have hne : f.s ≠ e0 := nm_ne HTF.out (by unfold nmT; rw [hd, Fl.mid_find (by rw [← hd]; exact HTF.out)]; rfl)
            have HD2 : Hid (t = (a.app (.cons f kf .nil)).app r2) := by show _ = _; rw [← step_app]; exact hd
            have HI2 : Hid ((a.app (.cons f kf .nil)).len = i + 1) := by show _ = _; rw [snoc_len, HI.out]
            have HTK2 : Hid (0 < cmpB f.s last → (nx = e0 ∨ cmpB f.s nx < 0) → IsNext (fun s => SJ k l j s ∨ nmT (a.app (.cons f kf .nil)) s) last f.s) := fun h1 h2 => (HN.out.take hne h1 h2).congr (fun s => by rw [nmT_snoc, or_assoc])
            have HLV : Hid (¬ (0 < cmpB f.s last ∧ (nx = e0 ∨ cmpB f.s nx < 0)) → IsNext (fun s => SJ k l j s ∨ nmT (a.app (.cons f kf .nil)) s) last nx) := fun h => (HN.out.leave h).congr (fun s => by rw [nmT_snoc, or_assoc])
            have T1' := fun W => texts_any f.s last W hfs hls
            have T2' := fun W => texts_any f.s nx W hfs hnz
            have ec1 : Lib.compareBytes f.s.data.toList last.data.toList = cmpB f.s last := rfl
            have ec2 : Lib.compareBytes f.s.data.toList nx.data.toList = cmpB f.s nx := rfl
            rw [ec1] at T1'
            rw [ec2] at T2'
            have y0 := HY0.out w4 hb24
            obtain ⟨A, hA⟩ : ∃ A, A = 1 + a.flat.length := ⟨_, rfl⟩
            rw [← hA] at x0 x3 i5
            have hA9 : A ≤ 1000 := by omega
            have HFS : Hid (f.s.size ≤ maxLen) := hfs
            have HNE : Hid (f.s ≠ e0) := hne
            clear hr hd ho hfl hat hta y1 x2 y3 hwf HD HI HN hA ec1 ec2 hne
            generalize f.s = fs at *
            go_wp2_with fail
            go_region
            all_goals
              by_cases h1 : 0 < cmpB fs last
              · by_cases h2 : nx = e0
                · have HR : Hid (IsNext (fun s => SJ k l j s ∨ nmT (a.app (.cons f kf .nil)) s) last fs) := HTK2.out h1 (.inl h2)
                  generalize cmpB fs last = m1 at *
                  subst h2
                  unfold e0
                  clear HTK2 HLV T2'
                  go_wp2_with fail
                  refine (T1' _).mono ?_
                  rintro _ _ ⟨rfl, n5, rfl⟩
                  go_wp2_with fail
                  go_roundw
                  case rel => exact ⟨a.app (.cons f kf .nil), r2, i + 1, fs, HD2, HI2, by omega, by go_num, rfl, HFS.out, HR, kqt hb4 (knn' _ _)⟩
                  case measure => simp [intOf]; omega
                · have hx0 : (nx.toList == []) = false := by rw [beq_eq_false_iff_ne]; exact fun e => h2 (be0R.2 e)
                  by_cases h3 : cmpB fs nx < 0
                  · have HR : Hid (IsNext (fun s => SJ k l j s ∨ nmT (a.app (.cons f kf .nil)) s) last fs) := HTK2.out h1 (.inr h3)
                    generalize cmpB fs last = m1 at *
                    generalize cmpB fs nx = m2 at *
                    clear HTK2 HLV h2
                    go_wp2_with fail
                    refine (T1' _).mono ?_
                    rintro _ _ ⟨rfl, n5, rfl⟩
                    go_wp2_with fail
                    refine (T2' _).mono ?_
                    rintro _ _ ⟨rfl, n6, rfl⟩
                    go_wp2_with fail
                    go_roundw
                    case rel => exact ⟨a.app (.cons f kf .nil), r2, i + 1, fs, HD2, HI2, by omega, by go_num, rfl, HFS.out, HR, kqt hb4 (knn' _ _)⟩
                    case measure => simp [intOf]; omega
                  · have HR : Hid (IsNext (fun s => SJ k l j s ∨ nmT (a.app (.cons f kf .nil)) s) last nx) := HLV.out (fun h => h.2.elim h2 h3)
                    generalize cmpB fs last = m1 at *
                    generalize cmpB fs nx = m2 at *
                    clear HTK2 HLV h2
                    go_wp2_with fail
                    refine (T1' _).mono ?_
                    rintro _ _ ⟨rfl, n5, rfl⟩
                    go_wp2_with fail
                    refine (T2' _).mono ?_
                    rintro _ _ ⟨rfl, n6, rfl⟩
                    go_wp2_with fail
                    go_roundw
                    case rel => exact ⟨a.app (.cons f kf .nil), r2, i + 1, nx, HD2, HI2, by omega, by go_num, rfl, hnz, HR, kqt hb4 (knn' _ _)⟩
                    case measure => simp [intOf]; omega
              · have HR : Hid (IsNext (fun s => SJ k l j s ∨ nmT (a.app (.cons f kf .nil)) s) last nx) := HLV.out (fun h => h1 h.1)
                generalize cmpB fs last = m1 at *
                clear HTK2 HLV T2'
                go_wp2_with fail
                refine (T1' _).mono ?_
                rintro _ _ ⟨rfl, n5, rfl⟩
                go_wp2_with fail
                go_roundw
                case rel => exact ⟨a.app (.cons f kf .nil), r2, i + 1, nx, HD2, HI2, by omega, by go_num, rfl, hnz, HR, kqt hb4 (knn' _ _)⟩
                case measure => simp [intOf]; omega
          · have i3 : ¬ (i : Int) < (t.len : Int) := by omega
            have hr := rest_nil HD.out (by rw [HI.out]; exact hlt)
            have hta : t = a := by have := HD.out; rw [hr, tp_app_nil] at this; exact this
            have HN2 : Hid (IsNext (SJ k l (j + 1)) last nx) := HN.out.congr (fun s => by rw [HST.out s, hta])
            clear hr hta HD HI HN
            go_wp2_with fail
            go_roundw
            case rel => exact ⟨j + 1, nx, by omega, by go_num, rfl, hnz, HN2, kqt hb2 hb24⟩
            case measure => simp [intOf]; omega
      · have i1 : ¬ (j : Int) < 2 := by omega
        have HN2 : Hid (IsNext (fun s => nmT k s ∨ nmT l s) last nx) := HN.out.congr (fun s => by have h2 : j = 2 := (by omega); unfold SJ; rw [h2]; simp)
        have hb02 := kqt hb01 hb2
        have hO2 : ON w2 w.heap.size u5 (rcN dn :: dn.flat) := (HO.out.below hb1).below hb2
        clear HN
        by_cases h0 : nx = e0
        · have hdn := HU.out.done HFK.out HFL.out (by rw [← h0]; exact HN2.out)
          obtain ⟨g, cap, hv5, hg1, hg2, hg3, hg4, hg5, _⟩ := hO2.slice (by simp)
          subst hv5
          have HR : Hid (JnRet p q w w2 (rcN (addF k l (jn true k l)) :: (addF k l (jn true k l)).flat) (.returned (.slice (some ⟨g, 0, none⟩) (rcN dn :: dn.flat).length cap))) := by rw [← hdn]; exact ⟨_, _, rfl, ⟨hg5, hg3, hg4⟩, fun b off e => by cases e; exact .inr (.inr hg1)⟩
          subst h0
          unfold e0
          generalize (rcN dn :: dn.flat).length = L at *
          clear HN2 hO2 hdn hg5
          go_wp2
          go_ret
          exact ⟨HR.out, hb02⟩
        · have hS : nmT k nx ∨ nmT l nx := by
            rcases HN2.out with ⟨e, _⟩ | ⟨_, h, _⟩
            · exact absurd e h0
            · exact h
          have hlt : cmpB last nx < 0 := by
            rcases HN2.out with ⟨e, _⟩ | ⟨_, _, h, _⟩
            · exact absurd e h0
            · have := cmpB_is.neg last nx; omega
          have hx0 : (nx.toList == []) = false := by rw [beq_eq_false_iff_ne]; exact fun e => h0 (be0R.2 e)
          have HC1 := HK1 w2 hb02 nx
          have HC2 := fun W (hW : Below w2.heap.size w2 W) => HK2 W (kqt hb02 hW) nx
          have HH0 : Hid (nx ≠ e0) := h0
          clear h0
          go_wp2_with fail
          refine HC1.mono ?_
          rintro _ w3 ⟨hf1, hb3⟩
          obtain ⟨n1, rfl, hn1⟩ := hf1.num
          clear hf1
          go_wp2_with fail
          refine (HC2 _ hb3).mono ?_
          rintro _ w4 ⟨hf2, hb4'⟩
          obtain ⟨n2, rfl, hn2⟩ := hf2.num
          clear hf2
          have hb4 := kqt hb3 hb4'
          have hb04 := kqt hb02 hb4
          obtain ⟨W5, hW5⟩ : ∃ W5, W5 = w4.alloc (.cells #[.int .i64 47, .int .i64 0, .string nx, .string ⟨#[]⟩] 55) := ⟨_, rfl⟩
          have hb5 : Below w4.heap.size w4 W5 := by rw [hW5]; exact kqx
          have hX5 : Blk W5 w4.heap.size #[.int .i64 47, .int .i64 0, .string nx, .string ⟨#[]⟩] 55 := by rw [hW5]; exact Blk.new w4 _ _ rfl
          have hb05 := kqt hb04 hb5
          have hO5 : ON W5 w.heap.size u5 (rcN dn :: dn.flat) := (hO2.below hb4).below hb5
          clear hO2 HC1 HC2
          have HSS : Hid (nmT k nx ∨ nmT l nx) := hS
          have HLT : Hid (cmpB last nx < 0) := hlt
          clear hS hlt
          rcases hn1 with ⟨hno1, rfl⟩ | ⟨d1, q1, f1, kf1, hd1, hy1, hA1⟩
          · rcases hn2 with ⟨hno2, rfl⟩ | ⟨d2, q2, f2, kf2, hd2, hy2, hA2⟩
            · exfalso
              have hS := HSS.out
              unfold nmT at hS
              rw [hno1, hno2] at hS
              simp at hS
            · have hqb : ∃ bq oq, q = some ⟨bq, oq, none⟩ ∧ bq < w.heap.size := by obtain ⟨b, o, h1, h2, _⟩ := HVK.out.nl.head; exact ⟨b, o, h1, h2⟩
              obtain ⟨bz, oq, hqe, hbq⟩ := hqb
              subst hqe
              obtain ⟨x2, k2, e2, hT2, hk29', _, HP2⟩ := rec_part HFL.out HVK.out HL9.out.2 hd2
              have hk29 : k2.flat.length ≤ 1900 := by omega
              subst e2
              have hnf := (Fl.find HFL.out hy2).2.2.1
              have HM : Hid (Upto k l (dn.app (.cons (fdN nx 0) (.cons x2 k2 .nil) .nil)) nx) := HU.out.more HFK.out HFL.out HN2.out HH0.out (f := fdN nx 0) (kf := .cons x2 k2 .nil) (by rw [hno1, hy2]; rfl) rfl (.inl rfl) hnf hT2
              rw [hA2]
              have hA9 : 1 + d2.flat.length ≤ 1000 := by have := field_len hd2; have := HL9.out; omega
              obtain ⟨A, hA⟩ : ∃ A, A = 1 + d2.flat.length := ⟨_, rfl⟩
              rw [← hA] at HP2 hA9 ⊢
              clear hA hA2 hd2 hy2 hno1 hT2
              go_wp2_with fail
              rw [← hW5]
              clear hW5
              refine (HP2 _ hb05).mono ?_
              rintro _ w6 ⟨⟨r6, c6, rfl, hk6', br, o6, o7, hbr6, hr6⟩, hb6⟩
              cases hbr6
              subst hr6
              have hX6 := hX5.up hb6
              have hO6 : ON w6 w.heap.size u5 (rcN dn :: dn.flat) := hO5.below hb6
              obtain ⟨g, cap, hv5, hg1, hg2, hg3, hg4, hg5, hfr⟩ := hO6.slice (by simp)
              subst hv5
              have hXg : w4.heap.size ≠ g := by
                rcases (HO.out.typed g rfl).2.lt with h
                have := (kqt hb1 (kqt hb2 hb4)).size
                omega
              have hk6 := hk6'.nl
              have hb06 := kqt hb05 hb6
              have hbg : bz ≠ g := by omega
              clear hk6' hX5 hO5
              obtain ⟨bg, og, eg, _, q0, q1, q2, q3, _⟩ := hg5.head
              cases eg
              obtain ⟨W7, hW7⟩ : ∃ W7, W7 = w6.setCell ⟨g, 1, none⟩ (.int .i64 ((dn.len : Int) + 1)) := ⟨_, rfl⟩
              obtain ⟨hO7, hK7⟩ := on_count hO6 (m := (dn.len : Int) + 1) (by have := HCN.out; have := tp_len_flat k; have := tp_len_flat l; have := HL9.out; omega) hW7
              have hX7 := hX6.keep hK7 hXg
              have hk7 : NL W7 (some ⟨bz, o7, none⟩) (x2 :: k2.flat) := hk6.keep hK7 hbg
              have hb07 : Below w.heap.size w W7 := hb06.trans (hK7.below (by have := hb06.size; omega) (fun a e => by omega))
              have hs7 : W7.heap.size = w6.heap.size := by rw [hW7]; simp
              obtain ⟨W8, hW8⟩ : ∃ W8, W8 = W7.alloc (.cells #[.int .i64 47, .int .i64 0, .string nx, .string ⟨#[]⟩] 55) := ⟨_, rfl⟩
              have hb8 : Below W7.heap.size W7 W8 := by rw [hW8]; exact kqx
              have hs8 : W8.heap.size = w6.heap.size + 1 := by rw [hW8]; simp [hs7]
              have hO8 := hO7.below hb8
              have hk8 := hk7.up hb8
              have hnw : (fdN nx 0).wf := ⟨hnz, by show (⟨#[]⟩ : ByteArray).size ≤ maxLen; unfold maxLen; exact Nat.zero_le _, by show (0 : Int) ≤ _; omega⟩
              have hN8 : NL W8 (some ⟨w6.heap.size, 0, none⟩) [fdN nx 0] := by
                have hB := Blk.new W7 (B := w6.heap.size) #[.int .i64 47, .int .i64 0, .string nx, .string ⟨#[]⟩] 55 hs7.symm
                rw [← hW8] at hB
                refine .inr ⟨_, 0, rfl, hB.lt, fun i x hx => ?_⟩
                cases i with
                | succ i => simp at hx
                | zero =>
                  simp only [List.getElem?_cons_zero, Option.some.injEq] at hx
                  subst hx
                  exact ⟨hB.cell 0, hB.cell 1, hB.cell 2, hB.cell 3, hnw⟩
              have e1 : w6.cell? ⟨g, 1, none⟩ = some (.int .i64 (dn.len : Int)) := by simpa [rcN] using q1
              have e2 := hfr 1
              have X0 : W7.cell? ⟨w4.heap.size, 0, none⟩ = some (.int .i64 47) := hX7.cell 0
              have X1 : W7.cell? ⟨w4.heap.size, 1, none⟩ = some (.int .i64 0) := hX7.cell 1
              have X2 : W7.cell? ⟨w4.heap.size, 2, none⟩ = some (.string nx) := hX7.cell 2
              have X3 : W7.cell? ⟨w4.heap.size, 3, none⟩ = some (.string ⟨#[]⟩) := hX7.cell 3
              rw [hW7] at X0 X1 X2 X3
              have HO8 : Hid (ON W8 w.heap.size (.slice (some ⟨g, 0, none⟩) (dn.flat.length + 1) cap) (⟨46, (dn.len : Int) + 1, e0, e0⟩ :: dn.flat)) := hO8
              have HK8 : Hid (NL W8 (some ⟨bz, o7, none⟩) (x2 :: k2.flat)) := hk8
              have HN8 : Hid (NL W8 (some ⟨w6.heap.size, 0, none⟩) [fdN nx 0]) := hN8
              have HSZ : Hid (dn.flat.length ≤ 10000000 ∧ dn.len ≤ 1780) := by
                have h1 := HFT.out; have h2 := HCN.out; have := tp_len_flat k; have := tp_len_flat l; have := HL9.out
                constructor <;> omega
              have hdl : dn.len ≤ 1780 := HSZ.out.2
              have HNX := jr_next (fdN nx 0) x2 k2 HSS.out HLT.out HCN.out HFT.out hk29
              try simp only [List.length_cons]
              clear hk6 hO6 hg5 q0 q1 q2 q3 hO7 hO8 hk7 hk8 hN8 hX6 hX7 hfr
              go_wp2_with (first | (at_builtin; rw [← hW7, ← hW8]; refine Hid.out ?_))
              show wpList _ _ _ _ _ _
              refine append_nodesG W8 rfl (.tmp 113) (.tmp 115) rfl w.heap.size (.slice (some ⟨g, 0, none⟩) (dn.flat.length + 1) cap) (⟨46, (dn.len : Int) + 1, e0, e0⟩ :: dn.flat) rfl HO8.out [fdN nx 0] 1 rfl w6.heap.size 0 1 HN8.out rfl (by simp; have := HSZ.out; omega) (by have := hb07.size; omega) ?_
              intro v9 w9 hO9 hg9 ha9
              have hk9 : NL w9 (some ⟨bz, o7, none⟩) (x2 :: k2.flat) := HK8.out.keep (keep_grown hg9) (fun e => by simp only [Value.ownBlock, Option.some.injEq] at e; exact hbg e.symm)
              have hb09 : Below w.heap.size w w9 := (kqt hb07 hb8).trans (grown_belowG hg9 (fun a e => by simp only [Value.ownBlock, Option.some.injEq] at e; omega) (by have := hb07.size; omega))
              obtain ⟨g9, cap9, hv9, hgb9, _⟩ := hO9.slice (by simp)
              subst hv9
              rw [show (((⟨46, (dn.len : Int) + 1, e0, e0⟩ : Nd) :: dn.flat) ++ [fdN nx 0]).length = dn.flat.length + 1 + 1 by simp] at hO9 ⊢
              have HO9 : Hid (ON w9 w.heap.size (.slice (some ⟨g9, 0, none⟩) (dn.flat.length + 1 + 1) cap9) ((⟨46, (dn.len : Int) + 1, e0, e0⟩ :: dn.flat) ++ [fdN nx 0])) := hO9
              have HK9 : Hid (NL w9 (some ⟨bz, o7, none⟩) (x2 :: k2.flat)) := hk9
              clear hO9 hk9 X0 X1 X2 X3 e1 e2 hW7 hW8
              go_wp2_with (first | (at_builtin; refine Hid.out ?_))
              show wpList _ _ _ _ _ _
              refine append_nodesG w9 rfl (.tmp 117) (.tmp 118) rfl w.heap.size (.slice (some ⟨g9, 0, none⟩) (dn.flat.length + 1 + 1) cap9) ((⟨46, (dn.len : Int) + 1, e0, e0⟩ :: dn.flat) ++ [fdN nx 0]) rfl HO9.out (x2 :: k2.flat) (k2.flat.length + 1) rfl bz o7 c6 HK9.out rfl (by simp; have := HSZ.out; omega) (by have := hb09.size; omega) ?_
              intro v10 w10 hO10 hg10 ha10
              have hb10 : Below w.heap.size w w10 := hb09.trans (grown_belowG hg10 (fun a e => by simp only [Value.ownBlock, Option.some.injEq] at e; omega) (by have := hb09.size; omega))
              have HR10 : Hid (ON w10 w.heap.size v10 (rcN (dn.app (.cons (fdN nx 0) (.cons x2 k2 .nil) .nil)) :: (dn.app (.cons (fdN nx 0) (.cons x2 k2 .nil) .nil)).flat)) := jr_on hO10
              clear hO10
              go_wp2_with fail
              go_roundw
              case rel => exact ⟨_, nx, rfl, hnz, HR10.out, HM, HNX.1, HNX.2.1, hb10⟩
              case measure => exact HNX.2.2

          · rcases hn2 with ⟨hno2, rfl⟩ | ⟨d2, q2, f2, kf2, hd2, hy2, hA2⟩
            · have hqb : ∃ bq oq, p = some ⟨bq, oq, none⟩ ∧ bq < w.heap.size := by obtain ⟨b, o, h1, h2, _⟩ := HTK.out.nl.head; exact ⟨b, o, h1, h2⟩
              obtain ⟨bz, oq, hqe, hbq⟩ := hqb
              subst hqe
              obtain ⟨x2, k2, e2, hT2, hk29', _, HP2⟩ := rec_part HFK.out HTK.out HL9.out.1 hd1
              have hk29 : k2.flat.length ≤ 1900 := by omega
              subst e2
              have hnf := (Fl.find HFK.out hy1).2.2.1
              have HM : Hid (Upto k l (dn.app (.cons (fdN nx 0) (.cons x2 k2 .nil) .nil)) nx) := HU.out.more HFK.out HFL.out HN2.out HH0.out (f := fdN nx 0) (kf := .cons x2 k2 .nil) (by rw [hno2, hy1]; rfl) rfl (.inl rfl) hnf hT2
              rw [hA1]
              have hA9 : 1 + d1.flat.length ≤ 1000 := by have := field_len hd1; have := HL9.out; omega
              obtain ⟨A, hA⟩ : ∃ A, A = 1 + d1.flat.length := ⟨_, rfl⟩
              rw [← hA] at HP2 hA9 ⊢
              clear hA hA1 hd1 hy1 hno2 hT2
              go_wp2_with fail
              rw [← hW5]
              clear hW5
              refine (HP2 _ hb05).mono ?_
              rintro _ w6 ⟨⟨r6, c6, rfl, hk6', br, o6, o7, hbr6, hr6⟩, hb6⟩
              cases hbr6
              subst hr6
              have hX6 := hX5.up hb6
              have hO6 : ON w6 w.heap.size u5 (rcN dn :: dn.flat) := hO5.below hb6
              obtain ⟨g, cap, hv5, hg1, hg2, hg3, hg4, hg5, hfr⟩ := hO6.slice (by simp)
              subst hv5
              have hXg : w4.heap.size ≠ g := by
                rcases (HO.out.typed g rfl).2.lt with h
                have := (kqt hb1 (kqt hb2 hb4)).size
                omega
              have hk6 := hk6'.nl
              have hb06 := kqt hb05 hb6
              have hbg : bz ≠ g := by omega
              clear hk6' hX5 hO5
              obtain ⟨bg, og, eg, _, q0, q1, q2, q3, _⟩ := hg5.head
              cases eg
              obtain ⟨W7, hW7⟩ : ∃ W7, W7 = w6.setCell ⟨g, 1, none⟩ (.int .i64 ((dn.len : Int) + 1)) := ⟨_, rfl⟩
              obtain ⟨hO7, hK7⟩ := on_count hO6 (m := (dn.len : Int) + 1) (by have := HCN.out; have := tp_len_flat k; have := tp_len_flat l; have := HL9.out; omega) hW7
              have hX7 := hX6.keep hK7 hXg
              have hk7 : NL W7 (some ⟨bz, o7, none⟩) (x2 :: k2.flat) := hk6.keep hK7 hbg
              have hb07 : Below w.heap.size w W7 := hb06.trans (hK7.below (by have := hb06.size; omega) (fun a e => by omega))
              have hs7 : W7.heap.size = w6.heap.size := by rw [hW7]; simp
              obtain ⟨W8, hW8⟩ : ∃ W8, W8 = W7.alloc (.cells #[.int .i64 47, .int .i64 0, .string nx, .string ⟨#[]⟩] 55) := ⟨_, rfl⟩
              have hb8 : Below W7.heap.size W7 W8 := by rw [hW8]; exact kqx
              have hs8 : W8.heap.size = w6.heap.size + 1 := by rw [hW8]; simp [hs7]
              have hO8 := hO7.below hb8
              have hk8 := hk7.up hb8
              have hnw : (fdN nx 0).wf := ⟨hnz, by show (⟨#[]⟩ : ByteArray).size ≤ maxLen; unfold maxLen; exact Nat.zero_le _, by show (0 : Int) ≤ _; omega⟩
              have hN8 : NL W8 (some ⟨w6.heap.size, 0, none⟩) [fdN nx 0] := by
                have hB := Blk.new W7 (B := w6.heap.size) #[.int .i64 47, .int .i64 0, .string nx, .string ⟨#[]⟩] 55 hs7.symm
                rw [← hW8] at hB
                refine .inr ⟨_, 0, rfl, hB.lt, fun i x hx => ?_⟩
                cases i with
                | succ i => simp at hx
                | zero =>
                  simp only [List.getElem?_cons_zero, Option.some.injEq] at hx
                  subst hx
                  exact ⟨hB.cell 0, hB.cell 1, hB.cell 2, hB.cell 3, hnw⟩
              have e1 : w6.cell? ⟨g, 1, none⟩ = some (.int .i64 (dn.len : Int)) := by simpa [rcN] using q1
              have e2 := hfr 1
              have X0 : W7.cell? ⟨w4.heap.size, 0, none⟩ = some (.int .i64 47) := hX7.cell 0
              have X1 : W7.cell? ⟨w4.heap.size, 1, none⟩ = some (.int .i64 0) := hX7.cell 1
              have X2 : W7.cell? ⟨w4.heap.size, 2, none⟩ = some (.string nx) := hX7.cell 2
              have X3 : W7.cell? ⟨w4.heap.size, 3, none⟩ = some (.string ⟨#[]⟩) := hX7.cell 3
              rw [hW7] at X0 X1 X2 X3
              have HO8 : Hid (ON W8 w.heap.size (.slice (some ⟨g, 0, none⟩) (dn.flat.length + 1) cap) (⟨46, (dn.len : Int) + 1, e0, e0⟩ :: dn.flat)) := hO8
              have HK8 : Hid (NL W8 (some ⟨bz, o7, none⟩) (x2 :: k2.flat)) := hk8
              have HN8 : Hid (NL W8 (some ⟨w6.heap.size, 0, none⟩) [fdN nx 0]) := hN8
              have HSZ : Hid (dn.flat.length ≤ 10000000 ∧ dn.len ≤ 1780) := by
                have h1 := HFT.out; have h2 := HCN.out; have := tp_len_flat k; have := tp_len_flat l; have := HL9.out
                constructor <;> omega
              have hdl : dn.len ≤ 1780 := HSZ.out.2
              have HNX := jr_next (fdN nx 0) x2 k2 HSS.out HLT.out HCN.out HFT.out hk29
              try simp only [List.length_cons]
              clear hk6 hO6 hg5 q0 q1 q2 q3 hO7 hO8 hk7 hk8 hN8 hX6 hX7 hfr
              go_wp2_with (first | (at_builtin; rw [← hW7, ← hW8]; refine Hid.out ?_))
              show wpList _ _ _ _ _ _
              refine append_nodesG W8 rfl (.tmp 113) (.tmp 115) rfl w.heap.size (.slice (some ⟨g, 0, none⟩) (dn.flat.length + 1) cap) (⟨46, (dn.len : Int) + 1, e0, e0⟩ :: dn.flat) rfl HO8.out [fdN nx 0] 1 rfl w6.heap.size 0 1 HN8.out rfl (by simp; have := HSZ.out; omega) (by have := hb07.size; omega) ?_
              intro v9 w9 hO9 hg9 ha9
              have hk9 : NL w9 (some ⟨bz, o7, none⟩) (x2 :: k2.flat) := HK8.out.keep (keep_grown hg9) (fun e => by simp only [Value.ownBlock, Option.some.injEq] at e; exact hbg e.symm)
              have hb09 : Below w.heap.size w w9 := (kqt hb07 hb8).trans (grown_belowG hg9 (fun a e => by simp only [Value.ownBlock, Option.some.injEq] at e; omega) (by have := hb07.size; omega))
              obtain ⟨g9, cap9, hv9, hgb9, _⟩ := hO9.slice (by simp)
              subst hv9
              rw [show (((⟨46, (dn.len : Int) + 1, e0, e0⟩ : Nd) :: dn.flat) ++ [fdN nx 0]).length = dn.flat.length + 1 + 1 by simp] at hO9 ⊢
              have HO9 : Hid (ON w9 w.heap.size (.slice (some ⟨g9, 0, none⟩) (dn.flat.length + 1 + 1) cap9) ((⟨46, (dn.len : Int) + 1, e0, e0⟩ :: dn.flat) ++ [fdN nx 0])) := hO9
              have HK9 : Hid (NL w9 (some ⟨bz, o7, none⟩) (x2 :: k2.flat)) := hk9
              clear hO9 hk9 X0 X1 X2 X3 e1 e2 hW7 hW8
              go_wp2_with (first | (at_builtin; refine Hid.out ?_))
              show wpList _ _ _ _ _ _
              refine append_nodesG w9 rfl (.tmp 117) (.tmp 118) rfl w.heap.size (.slice (some ⟨g9, 0, none⟩) (dn.flat.length + 1 + 1) cap9) ((⟨46, (dn.len : Int) + 1, e0, e0⟩ :: dn.flat) ++ [fdN nx 0]) rfl HO9.out (x2 :: k2.flat) (k2.flat.length + 1) rfl bz o7 c6 HK9.out rfl (by simp; have := HSZ.out; omega) (by have := hb09.size; omega) ?_
              intro v10 w10 hO10 hg10 ha10
              have hb10 : Below w.heap.size w w10 := hb09.trans (grown_belowG hg10 (fun a e => by simp only [Value.ownBlock, Option.some.injEq] at e; omega) (by have := hb09.size; omega))
              have HR10 : Hid (ON w10 w.heap.size v10 (rcN (dn.app (.cons (fdN nx 0) (.cons x2 k2 .nil) .nil)) :: (dn.app (.cons (fdN nx 0) (.cons x2 k2 .nil) .nil)).flat)) := jr_on hO10
              clear hO10
              go_wp2_with fail
              go_roundw
              case rel => exact ⟨_, nx, rfl, hnz, HR10.out, HM, HNX.1, HNX.2.1, hb10⟩
              case measure => exact HNX.2.2

            · have hpb : ∃ b o, p = some ⟨b, o, none⟩ ∧ b < w.heap.size := by obtain ⟨b, o, h1, h2, _⟩ := HTK.out.nl.head; exact ⟨b, o, h1, h2⟩
              have hqb : ∃ b o, q = some ⟨b, o, none⟩ ∧ b < w.heap.size := by obtain ⟨b, o, h1, h2, _⟩ := HVK.out.nl.head; exact ⟨b, o, h1, h2⟩
              obtain ⟨bp, op, hpe, hbp⟩ := hpb
              obtain ⟨bq, oq, hqe, hbq⟩ := hqb
              subst hpe hqe
              have HFf1 := rec_field HTK.out hd1
              have HFf2 := rec_field HVK.out hd2
              obtain ⟨x1, k1, ek1, hT1, hk19, hk1l, HP1⟩ := rec_part HFK.out HTK.out HL9.out.1 hd1
              obtain ⟨x3, k3, ek3, hT3, hk39, _, HP3⟩ := rec_part HFL.out HVK.out HL9.out.2 hd2
              subst ek1 ek3
              have h01 := (Fl.find HFK.out hy1).2.1
              have h02 := (Fl.find HFL.out hy2).2.1
              have hnf := (Fl.find HFK.out hy1).2.2.1
              have hTJ := hT1.jn hT3
              obtain ⟨x2, k2, hj, _⟩ := hTJ.of
              have hk29 : k2.flat.length ≤ 1900 := by
                have := jn_flat _ _ (Nat.lt_succ_self _) hT1 hT3
                rw [hj] at this
                simp only [Tp.flat, List.length_cons, List.length_append, List.length_nil] at this
                omega
              have HMM : Hid (∀ n : Int, n = (if f1.n = 1 ∧ f2.n = 1 then 1 else 0) → Upto k l (dn.app (.cons (fdN nx n) (.cons x2 k2 .nil) .nil)) nx) := fun n hn => HU.out.more HFK.out HFL.out HN2.out HH0.out (f := fdN nx n) (kf := .cons x2 k2 .nil) (by rw [hy1, hy2, ← hj]; show some _ = some _; rw [hn]) rfl (by show n = 0 ∨ n = 1; rw [hn]; split <;> simp) hnf (by rw [← hj]; exact hTJ)
              have HJ := fun W p c q d h1 h2 => ih x1 k1 (by omega) x3 k3 W p c q d h1 h2 hT1 hT3 hk19 hk39
              rw [hj] at HJ
              rw [hA1, hA2]
              have hA9 : 1 + d1.flat.length ≤ 1000 := by have := field_len hd1; have := HL9.out; omega
              have hC9 : 1 + d2.flat.length ≤ 1000 := by have := field_len hd2; have := HL9.out; omega
              obtain ⟨A, hA⟩ : ∃ A, A = 1 + d1.flat.length := ⟨_, rfl⟩
              obtain ⟨C, hC⟩ : ∃ C, C = 1 + d2.flat.length := ⟨_, rfl⟩
              rw [← hA] at HP1 hA9 HFf1 ⊢
              rw [← hC] at HP3 hC9 HFf2 ⊢
              obtain ⟨iA, _, z1, _⟩ := HFf1
              obtain ⟨iC, _, z2, _⟩ := HFf2
              clear hA hC hA1 hA2 hd1 hd2 hy1 hy2 hT1 hT3 hTJ hj hk1l
              go_wp2_with fail
              rw [← hW5]
              clear hW5
              refine (HP1 _ hb05).mono ?_
              rintro _ wa ⟨⟨ra, ca, rfl, hka, br, o6, oa, hbr6, hr6⟩, hba⟩
              cases hbr6
              subst hr6
              have hb0a := kqt hb05 hba
              rw [List.length_cons]
              go_wp2_with fail
              refine (HP3 _ hb0a).mono ?_
              rintro _ wb ⟨⟨rb, cb, rfl, hkb, br2, o62, ob, hbr62, hr62⟩, hbb⟩
              cases hbr62
              subst hr62
              have hb0b := kqt hb0a hbb
              have HCJ := HJ _ _ _ _ _ (hka.up hbb) hkb
              clear HJ hka hkb HP1 HP3
              rw [List.length_cons]
              go_wp2_with fail
              refine HCJ.mono ?_
              rintro _ w6 ⟨⟨r6, c6, rfl, hk6', hwh⟩, hb6⟩
              clear HCJ
              have hb06 := kqt hb0b hb6
              rw [show (Tp.cons x2 k2 .nil).flat = x2 :: k2.flat by simp [Tp.flat]] at hk6' ⊢
              obtain ⟨bz, o7, hr6, hbz, _⟩ := hk6'.nl.head
              subst hr6
              have hX5' := hX5.up (kqt hba (kqt hbb hb6))
              have hO6' : ON w6 w.heap.size u5 (rcN dn :: dn.flat) := hO5.below (kqt hba (kqt hbb hb6))
              obtain ⟨g, cap, hv5, hg1, hg2, hg3, hg4, hg5', hfr'⟩ := hO6'.slice (by simp)
              subst hv5
              have hgl : g < W1.heap.size := by
                have h := (HO.out.typed g rfl).2.lt
                have := hb1.size
                omega
              have hXg : w4.heap.size ≠ g := by
                have := (kqt hb2 hb4).size
                omega
              have hbg : bz ≠ g := by
                have h4 := (kqt (kqt hb2 hb4) (kqt hb5 (kqt hba hbb))).size
                rcases hwh bz o7 rfl with ⟨o, h⟩ | ⟨o, h⟩ | h
                · cases h; omega
                · cases h; omega
                · omega
              have y1 : w6.cell? ⟨bp, op + A * 4 + 1, none⟩ = some (.int .i64 f1.n) := (hb06.cell (p := ⟨bp, op + A * 4 + 1, none⟩) hbp).trans z1
              have y2 : w6.cell? ⟨bq, oq + C * 4 + 1, none⟩ = some (.int .i64 f2.n) := (hb06.cell (p := ⟨bq, oq + C * 4 + 1, none⟩) hbq).trans z2
              have HX5 : Hid (Blk w6 w4.heap.size #[.int .i64 47, .int .i64 0, .string nx, .string ⟨#[]⟩] 55) := hX5'
              have HG5 : Hid (NL w6 (some ⟨g, 0, none⟩) (rcN dn :: dn.flat)) := hg5'
              have HFR : Hid (∀ j, w6.frozen? ⟨g, j, none⟩ = false) := hfr'
              have HO6 : Hid (ON w6 w.heap.size (.slice (some ⟨g, 0, none⟩) (rcN dn :: dn.flat).length cap) (rcN dn :: dn.flat)) := hO6'
              have HK6 : Hid (NL w6 (some ⟨bz, o7, none⟩) (x2 :: k2.flat)) := hk6'.nl
              have HX5L := hX5.lt
              clear z1 z2 hX5 hX5' hO5 hO6' hk6' hg5' hfr'
              rw [List.length_cons]
              have hz4 : bz ≠ w4.heap.size := by
                have h4 := (kqt hb5 (kqt hba hbb)).size
                have h5 := hb04.size
                have h6 : w4.heap.size < W5.heap.size := HX5L
                have h7 := (kqt hba hbb).size
                rcases hwh bz o7 rfl with ⟨o, h⟩ | ⟨o, h⟩ | h
                · cases h; omega
                · cases h; omega
                · omega
              clear hwh
              by_cases c1 : f1.n = 1 ∧ f2.n = 1
              · obtain ⟨c1, c2⟩ := c1
                have HM : Hid (Upto k l (dn.app (.cons (fdN nx 1) (.cons x2 k2 .nil) .nil)) nx) := HMM.out 1 (by rw [if_pos ⟨c1, c2⟩])
                rw [c1] at y1
                rw [c2] at y2
                have x1c : w6.cell? ⟨w4.heap.size, 1, none⟩ = some (.int .i64 0) := HX5.out.cell 1
                have x1f := HX5.out.free 1
                obtain ⟨V6, hV6⟩ : ∃ V6, V6 = w6.setCell ⟨w4.heap.size, 1, none⟩ (.int .i64 1) := ⟨_, rfl⟩
                obtain ⟨hX6, hK6⟩ := HX5.out.set hV6
                have hsV : V6.heap.size = w6.heap.size := by rw [hV6]; simp
                have hO6 := HO6.out.keepK hK6 (fun a e => by simp only [Value.ownBlock, Option.some.injEq] at e; omega)
                have hk6 := HK6.out.keep hK6 hz4
                have hg5 := HG5.out.keep hK6 (fun e => hXg e.symm)
                have hfr : ∀ j, V6.frozen? ⟨g, j, none⟩ = false := by
                  obtain ⟨g', cap', e, _, _, _, _, _, h⟩ := hO6.slice (by simp)
                  cases e
                  exact h
                have hb06' : Below w.heap.size w V6 := hb06.trans (hK6.below (by have := hb06.size; omega) (fun a e => by have := hb04.size; omega))
                have hb06 := hb06'
                clear HMM c1 c2 h01 h02 HX5 HG5 HFR HO6 HK6 hb06'
                obtain ⟨bg, og, eg, _, q0, q1, q2, q3, _⟩ := hg5.head
                cases eg
                obtain ⟨W7, hW7⟩ : ∃ W7, W7 = V6.setCell ⟨g, 1, none⟩ (.int .i64 ((dn.len : Int) + 1)) := ⟨_, rfl⟩
                obtain ⟨hO7, hK7⟩ := on_count hO6 (m := (dn.len : Int) + 1) (by have := HCN.out; have := tp_len_flat k; have := tp_len_flat l; have := HL9.out; omega) hW7
                have hX7 := hX6.keep hK7 hXg
                have hk7 : NL W7 (some ⟨bz, o7, none⟩) (x2 :: k2.flat) := hk6.keep hK7 hbg
                have hb07 : Below w.heap.size w W7 := hb06.trans (hK7.below (by have := hb06.size; omega) (fun a e => by omega))
                have hs7 : W7.heap.size = V6.heap.size := by rw [hW7]; simp
                obtain ⟨W8, hW8⟩ : ∃ W8, W8 = W7.alloc (.cells #[.int .i64 47, .int .i64 1, .string nx, .string ⟨#[]⟩] 55) := ⟨_, rfl⟩
                have hb8 : Below W7.heap.size W7 W8 := by rw [hW8]; exact kqx
                have hs8 : W8.heap.size = V6.heap.size + 1 := by rw [hW8]; simp [hs7]
                have hO8 := hO7.below hb8
                have hk8 := hk7.up hb8
                have hnw : (fdN nx 1).wf := ⟨hnz, by show (⟨#[]⟩ : ByteArray).size ≤ maxLen; unfold maxLen; exact Nat.zero_le _, by show (1 : Int) ≤ _; omega⟩
                have hN8 : NL W8 (some ⟨V6.heap.size, 0, none⟩) [fdN nx 1] := by
                  have hB := Blk.new W7 (B := V6.heap.size) #[.int .i64 47, .int .i64 1, .string nx, .string ⟨#[]⟩] 55 hs7.symm
                  rw [← hW8] at hB
                  refine .inr ⟨_, 0, rfl, hB.lt, fun i x hx => ?_⟩
                  cases i with
                  | succ i => simp at hx
                  | zero =>
                    simp only [List.getElem?_cons_zero, Option.some.injEq] at hx
                    subst hx
                    exact ⟨hB.cell 0, hB.cell 1, hB.cell 2, hB.cell 3, hnw⟩
                have e1 : V6.cell? ⟨g, 1, none⟩ = some (.int .i64 (dn.len : Int)) := by simpa [rcN] using q1
                have e2 := hfr 1
                rw [hV6] at e1 e2
                have X0 : W7.cell? ⟨w4.heap.size, 0, none⟩ = some (.int .i64 47) := hX7.cell 0
                have X1 : W7.cell? ⟨w4.heap.size, 1, none⟩ = some (.int .i64 1) := hX7.cell 1
                have X2 : W7.cell? ⟨w4.heap.size, 2, none⟩ = some (.string nx) := hX7.cell 2
                have X3 : W7.cell? ⟨w4.heap.size, 3, none⟩ = some (.string ⟨#[]⟩) := hX7.cell 3
                rw [hW7, hV6] at X0 X1 X2 X3
                have HO8 : Hid (ON W8 w.heap.size (.slice (some ⟨g, 0, none⟩) (dn.flat.length + 1) cap) (⟨46, (dn.len : Int) + 1, e0, e0⟩ :: dn.flat)) := hO8
                have HK8 : Hid (NL W8 (some ⟨bz, o7, none⟩) (x2 :: k2.flat)) := hk8
                have HN8 : Hid (NL W8 (some ⟨V6.heap.size, 0, none⟩) [fdN nx 1]) := hN8
                have HSZ : Hid (dn.flat.length ≤ 10000000 ∧ dn.len ≤ 1780) := by
                  have h1 := HFT.out; have h2 := HCN.out; have := tp_len_flat k; have := tp_len_flat l; have := HL9.out
                  constructor <;> omega
                have hdl : dn.len ≤ 1780 := HSZ.out.2
                have HNX := jr_next (fdN nx 1) x2 k2 HSS.out HLT.out HCN.out HFT.out hk29
                try simp only [List.length_cons]
                clear hk6 hO6 hg5 q0 q1 q2 q3 hO7 hO8 hk7 hk8 hN8 hX6 hX7 hfr
                go_wp2_with (first | (at_builtin; rw [← hV6, ← hW7, ← hW8]; refine Hid.out ?_))
                show wpList _ _ _ _ _ _
                refine append_nodesG W8 rfl (.tmp 113) (.tmp 115) rfl w.heap.size (.slice (some ⟨g, 0, none⟩) (dn.flat.length + 1) cap) (⟨46, (dn.len : Int) + 1, e0, e0⟩ :: dn.flat) rfl HO8.out [fdN nx 1] 1 rfl V6.heap.size 0 1 HN8.out (by rw [hsV]; rfl) (by simp; have := HSZ.out; omega) (by have := hb07.size; omega) ?_
                intro v9 w9 hO9 hg9 ha9
                have hk9 : NL w9 (some ⟨bz, o7, none⟩) (x2 :: k2.flat) := HK8.out.keep (keep_grown hg9) (fun e => by simp only [Value.ownBlock, Option.some.injEq] at e; exact hbg e.symm)
                have hb09 : Below w.heap.size w w9 := (kqt hb07 hb8).trans (grown_belowG hg9 (fun a e => by simp only [Value.ownBlock, Option.some.injEq] at e; omega) (by have := hb07.size; omega))
                obtain ⟨g9, cap9, hv9, hgb9, _⟩ := hO9.slice (by simp)
                subst hv9
                rw [show (((⟨46, (dn.len : Int) + 1, e0, e0⟩ : Nd) :: dn.flat) ++ [fdN nx 1]).length = dn.flat.length + 1 + 1 by simp] at hO9 ⊢
                have HO9 : Hid (ON w9 w.heap.size (.slice (some ⟨g9, 0, none⟩) (dn.flat.length + 1 + 1) cap9) ((⟨46, (dn.len : Int) + 1, e0, e0⟩ :: dn.flat) ++ [fdN nx 1])) := hO9
                have HK9 : Hid (NL w9 (some ⟨bz, o7, none⟩) (x2 :: k2.flat)) := hk9
                clear hO9 hk9 X0 X1 X2 X3 e1 e2 hW7 hW8
                go_wp2_with (first | (at_builtin; refine Hid.out ?_))
                show wpList _ _ _ _ _ _
                refine append_nodesG w9 rfl (.tmp 117) (.tmp 118) rfl w.heap.size (.slice (some ⟨g9, 0, none⟩) (dn.flat.length + 1 + 1) cap9) ((⟨46, (dn.len : Int) + 1, e0, e0⟩ :: dn.flat) ++ [fdN nx 1]) rfl HO9.out (x2 :: k2.flat) (k2.flat.length + 1) rfl bz o7 c6 HK9.out rfl (by simp; have := HSZ.out; omega) (by have := hb09.size; omega) ?_
                intro v10 w10 hO10 hg10 ha10
                have hb10 : Below w.heap.size w w10 := hb09.trans (grown_belowG hg10 (fun a e => by simp only [Value.ownBlock, Option.some.injEq] at e; omega) (by have := hb09.size; omega))
                have HR10 : Hid (ON w10 w.heap.size v10 (rcN (dn.app (.cons (fdN nx 1) (.cons x2 k2 .nil) .nil)) :: (dn.app (.cons (fdN nx 1) (.cons x2 k2 .nil) .nil)).flat)) := jr_on hO10
                clear hO10
                go_wp2_with fail
                go_roundw
                case rel => exact ⟨_, nx, rfl, hnz, HR10.out, HM, HNX.1, HNX.2.1, hb10⟩
                case measure => exact HNX.2.2

              · have HM : Hid (Upto k l (dn.app (.cons (fdN nx 0) (.cons x2 k2 .nil) .nil)) nx) := HMM.out 0 (by rw [if_neg c1])
                have hX6 := HX5.out
                have hO6 := HO6.out
                have hk6 := HK6.out
                have hg5 := HG5.out
                have hfr := HFR.out
                have hway : (f1.n = 0) ∨ (f1.n = 1 ∧ f2.n = 0) := by omega
                clear HMM c1 h01 h02 HX5 HG5 HFR HO6 HK6
                rcases hway with hw1 | ⟨hw1, hw2⟩
                · rw [hw1] at y1
                  clear hw1
                  obtain ⟨bg, og, eg, _, q0, q1, q2, q3, _⟩ := hg5.head
                  cases eg
                  obtain ⟨W7, hW7⟩ : ∃ W7, W7 = w6.setCell ⟨g, 1, none⟩ (.int .i64 ((dn.len : Int) + 1)) := ⟨_, rfl⟩
                  obtain ⟨hO7, hK7⟩ := on_count hO6 (m := (dn.len : Int) + 1) (by have := HCN.out; have := tp_len_flat k; have := tp_len_flat l; have := HL9.out; omega) hW7
                  have hX7 := hX6.keep hK7 hXg
                  have hk7 : NL W7 (some ⟨bz, o7, none⟩) (x2 :: k2.flat) := hk6.keep hK7 hbg
                  have hb07 : Below w.heap.size w W7 := hb06.trans (hK7.below (by have := hb06.size; omega) (fun a e => by omega))
                  have hs7 : W7.heap.size = w6.heap.size := by rw [hW7]; simp
                  obtain ⟨W8, hW8⟩ : ∃ W8, W8 = W7.alloc (.cells #[.int .i64 47, .int .i64 0, .string nx, .string ⟨#[]⟩] 55) := ⟨_, rfl⟩
                  have hb8 : Below W7.heap.size W7 W8 := by rw [hW8]; exact kqx
                  have hs8 : W8.heap.size = w6.heap.size + 1 := by rw [hW8]; simp [hs7]
                  have hO8 := hO7.below hb8
                  have hk8 := hk7.up hb8
                  have hnw : (fdN nx 0).wf := ⟨hnz, by show (⟨#[]⟩ : ByteArray).size ≤ maxLen; unfold maxLen; exact Nat.zero_le _, by show (0 : Int) ≤ _; omega⟩
                  have hN8 : NL W8 (some ⟨w6.heap.size, 0, none⟩) [fdN nx 0] := by
                    have hB := Blk.new W7 (B := w6.heap.size) #[.int .i64 47, .int .i64 0, .string nx, .string ⟨#[]⟩] 55 hs7.symm
                    rw [← hW8] at hB
                    refine .inr ⟨_, 0, rfl, hB.lt, fun i x hx => ?_⟩
                    cases i with
                    | succ i => simp at hx
                    | zero =>
                      simp only [List.getElem?_cons_zero, Option.some.injEq] at hx
                      subst hx
                      exact ⟨hB.cell 0, hB.cell 1, hB.cell 2, hB.cell 3, hnw⟩
                  have e1 : w6.cell? ⟨g, 1, none⟩ = some (.int .i64 (dn.len : Int)) := by simpa [rcN] using q1
                  have e2 := hfr 1
                  have X0 : W7.cell? ⟨w4.heap.size, 0, none⟩ = some (.int .i64 47) := hX7.cell 0
                  have X1 : W7.cell? ⟨w4.heap.size, 1, none⟩ = some (.int .i64 0) := hX7.cell 1
                  have X2 : W7.cell? ⟨w4.heap.size, 2, none⟩ = some (.string nx) := hX7.cell 2
                  have X3 : W7.cell? ⟨w4.heap.size, 3, none⟩ = some (.string ⟨#[]⟩) := hX7.cell 3
                  rw [hW7] at X0 X1 X2 X3
                  have HO8 : Hid (ON W8 w.heap.size (.slice (some ⟨g, 0, none⟩) (dn.flat.length + 1) cap) (⟨46, (dn.len : Int) + 1, e0, e0⟩ :: dn.flat)) := hO8
                  have HK8 : Hid (NL W8 (some ⟨bz, o7, none⟩) (x2 :: k2.flat)) := hk8
                  have HN8 : Hid (NL W8 (some ⟨w6.heap.size, 0, none⟩) [fdN nx 0]) := hN8
                  have HSZ : Hid (dn.flat.length ≤ 10000000 ∧ dn.len ≤ 1780) := by
                    have h1 := HFT.out; have h2 := HCN.out; have := tp_len_flat k; have := tp_len_flat l; have := HL9.out
                    constructor <;> omega
                  have hdl : dn.len ≤ 1780 := HSZ.out.2
                  have HNX := jr_next (fdN nx 0) x2 k2 HSS.out HLT.out HCN.out HFT.out hk29
                  try simp only [List.length_cons]
                  clear hk6 hO6 hg5 q0 q1 q2 q3 hO7 hO8 hk7 hk8 hN8 hX6 hX7 hfr
                  go_wp2_with (first | (at_builtin; rw [← hW7, ← hW8]; refine Hid.out ?_))
                  show wpList _ _ _ _ _ _
                  refine append_nodesG W8 rfl (.tmp 113) (.tmp 115) rfl w.heap.size (.slice (some ⟨g, 0, none⟩) (dn.flat.length + 1) cap) (⟨46, (dn.len : Int) + 1, e0, e0⟩ :: dn.flat) rfl HO8.out [fdN nx 0] 1 rfl w6.heap.size 0 1 HN8.out rfl (by simp; have := HSZ.out; omega) (by have := hb07.size; omega) ?_
                  intro v9 w9 hO9 hg9 ha9
                  have hk9 : NL w9 (some ⟨bz, o7, none⟩) (x2 :: k2.flat) := HK8.out.keep (keep_grown hg9) (fun e => by simp only [Value.ownBlock, Option.some.injEq] at e; exact hbg e.symm)
                  have hb09 : Below w.heap.size w w9 := (kqt hb07 hb8).trans (grown_belowG hg9 (fun a e => by simp only [Value.ownBlock, Option.some.injEq] at e; omega) (by have := hb07.size; omega))
                  obtain ⟨g9, cap9, hv9, hgb9, _⟩ := hO9.slice (by simp)
                  subst hv9
                  rw [show (((⟨46, (dn.len : Int) + 1, e0, e0⟩ : Nd) :: dn.flat) ++ [fdN nx 0]).length = dn.flat.length + 1 + 1 by simp] at hO9 ⊢
                  have HO9 : Hid (ON w9 w.heap.size (.slice (some ⟨g9, 0, none⟩) (dn.flat.length + 1 + 1) cap9) ((⟨46, (dn.len : Int) + 1, e0, e0⟩ :: dn.flat) ++ [fdN nx 0])) := hO9
                  have HK9 : Hid (NL w9 (some ⟨bz, o7, none⟩) (x2 :: k2.flat)) := hk9
                  clear hO9 hk9 X0 X1 X2 X3 e1 e2 hW7 hW8
                  go_wp2_with (first | (at_builtin; refine Hid.out ?_))
                  show wpList _ _ _ _ _ _
                  refine append_nodesG w9 rfl (.tmp 117) (.tmp 118) rfl w.heap.size (.slice (some ⟨g9, 0, none⟩) (dn.flat.length + 1 + 1) cap9) ((⟨46, (dn.len : Int) + 1, e0, e0⟩ :: dn.flat) ++ [fdN nx 0]) rfl HO9.out (x2 :: k2.flat) (k2.flat.length + 1) rfl bz o7 c6 HK9.out rfl (by simp; have := HSZ.out; omega) (by have := hb09.size; omega) ?_
                  intro v10 w10 hO10 hg10 ha10
                  have hb10 : Below w.heap.size w w10 := hb09.trans (grown_belowG hg10 (fun a e => by simp only [Value.ownBlock, Option.some.injEq] at e; omega) (by have := hb09.size; omega))
                  have HR10 : Hid (ON w10 w.heap.size v10 (rcN (dn.app (.cons (fdN nx 0) (.cons x2 k2 .nil) .nil)) :: (dn.app (.cons (fdN nx 0) (.cons x2 k2 .nil) .nil)).flat)) := jr_on hO10
                  clear hO10
                  go_wp2_with fail
                  go_roundw
                  case rel => exact ⟨_, nx, rfl, hnz, HR10.out, HM, HNX.1, HNX.2.1, hb10⟩
                  case measure => exact HNX.2.2

                · rw [hw1] at y1
                  rw [hw2] at y2
                  clear hw1 hw2
                  obtain ⟨bg, og, eg, _, q0, q1, q2, q3, _⟩ := hg5.head
                  cases eg
                  obtain ⟨W7, hW7⟩ : ∃ W7, W7 = w6.setCell ⟨g, 1, none⟩ (.int .i64 ((dn.len : Int) + 1)) := ⟨_, rfl⟩
                  obtain ⟨hO7, hK7⟩ := on_count hO6 (m := (dn.len : Int) + 1) (by have := HCN.out; have := tp_len_flat k; have := tp_len_flat l; have := HL9.out; omega) hW7
                  have hX7 := hX6.keep hK7 hXg
                  have hk7 : NL W7 (some ⟨bz, o7, none⟩) (x2 :: k2.flat) := hk6.keep hK7 hbg
                  have hb07 : Below w.heap.size w W7 := hb06.trans (hK7.below (by have := hb06.size; omega) (fun a e => by omega))
                  have hs7 : W7.heap.size = w6.heap.size := by rw [hW7]; simp
                  obtain ⟨W8, hW8⟩ : ∃ W8, W8 = W7.alloc (.cells #[.int .i64 47, .int .i64 0, .string nx, .string ⟨#[]⟩] 55) := ⟨_, rfl⟩
                  have hb8 : Below W7.heap.size W7 W8 := by rw [hW8]; exact kqx
                  have hs8 : W8.heap.size = w6.heap.size + 1 := by rw [hW8]; simp [hs7]
                  have hO8 := hO7.below hb8
                  have hk8 := hk7.up hb8
                  have hnw : (fdN nx 0).wf := ⟨hnz, by show (⟨#[]⟩ : ByteArray).size ≤ maxLen; unfold maxLen; exact Nat.zero_le _, by show (0 : Int) ≤ _; omega⟩
                  have hN8 : NL W8 (some ⟨w6.heap.size, 0, none⟩) [fdN nx 0] := by
                    have hB := Blk.new W7 (B := w6.heap.size) #[.int .i64 47, .int .i64 0, .string nx, .string ⟨#[]⟩] 55 hs7.symm
                    rw [← hW8] at hB
                    refine .inr ⟨_, 0, rfl, hB.lt, fun i x hx => ?_⟩
                    cases i with
                    | succ i => simp at hx
                    | zero =>
                      simp only [List.getElem?_cons_zero, Option.some.injEq] at hx
                      subst hx
                      exact ⟨hB.cell 0, hB.cell 1, hB.cell 2, hB.cell 3, hnw⟩
                  have e1 : w6.cell? ⟨g, 1, none⟩ = some (.int .i64 (dn.len : Int)) := by simpa [rcN] using q1
                  have e2 := hfr 1
                  have X0 : W7.cell? ⟨w4.heap.size, 0, none⟩ = some (.int .i64 47) := hX7.cell 0
                  have X1 : W7.cell? ⟨w4.heap.size, 1, none⟩ = some (.int .i64 0) := hX7.cell 1
                  have X2 : W7.cell? ⟨w4.heap.size, 2, none⟩ = some (.string nx) := hX7.cell 2
                  have X3 : W7.cell? ⟨w4.heap.size, 3, none⟩ = some (.string ⟨#[]⟩) := hX7.cell 3
                  rw [hW7] at X0 X1 X2 X3
                  have HO8 : Hid (ON W8 w.heap.size (.slice (some ⟨g, 0, none⟩) (dn.flat.length + 1) cap) (⟨46, (dn.len : Int) + 1, e0, e0⟩ :: dn.flat)) := hO8
                  have HK8 : Hid (NL W8 (some ⟨bz, o7, none⟩) (x2 :: k2.flat)) := hk8
                  have HN8 : Hid (NL W8 (some ⟨w6.heap.size, 0, none⟩) [fdN nx 0]) := hN8
                  have HSZ : Hid (dn.flat.length ≤ 10000000 ∧ dn.len ≤ 1780) := by
                    have h1 := HFT.out; have h2 := HCN.out; have := tp_len_flat k; have := tp_len_flat l; have := HL9.out
                    constructor <;> omega
                  have hdl : dn.len ≤ 1780 := HSZ.out.2
                  have HNX := jr_next (fdN nx 0) x2 k2 HSS.out HLT.out HCN.out HFT.out hk29
                  try simp only [List.length_cons]
                  clear hk6 hO6 hg5 q0 q1 q2 q3 hO7 hO8 hk7 hk8 hN8 hX6 hX7 hfr
                  go_wp2_with (first | (at_builtin; rw [← hW7, ← hW8]; refine Hid.out ?_))
                  show wpList _ _ _ _ _ _
                  refine append_nodesG W8 rfl (.tmp 113) (.tmp 115) rfl w.heap.size (.slice (some ⟨g, 0, none⟩) (dn.flat.length + 1) cap) (⟨46, (dn.len : Int) + 1, e0, e0⟩ :: dn.flat) rfl HO8.out [fdN nx 0] 1 rfl w6.heap.size 0 1 HN8.out rfl (by simp; have := HSZ.out; omega) (by have := hb07.size; omega) ?_
                  intro v9 w9 hO9 hg9 ha9
                  have hk9 : NL w9 (some ⟨bz, o7, none⟩) (x2 :: k2.flat) := HK8.out.keep (keep_grown hg9) (fun e => by simp only [Value.ownBlock, Option.some.injEq] at e; exact hbg e.symm)
                  have hb09 : Below w.heap.size w w9 := (kqt hb07 hb8).trans (grown_belowG hg9 (fun a e => by simp only [Value.ownBlock, Option.some.injEq] at e; omega) (by have := hb07.size; omega))
                  obtain ⟨g9, cap9, hv9, hgb9, _⟩ := hO9.slice (by simp)
                  subst hv9
                  rw [show (((⟨46, (dn.len : Int) + 1, e0, e0⟩ : Nd) :: dn.flat) ++ [fdN nx 0]).length = dn.flat.length + 1 + 1 by simp] at hO9 ⊢
                  have HO9 : Hid (ON w9 w.heap.size (.slice (some ⟨g9, 0, none⟩) (dn.flat.length + 1 + 1) cap9) ((⟨46, (dn.len : Int) + 1, e0, e0⟩ :: dn.flat) ++ [fdN nx 0])) := hO9
                  have HK9 : Hid (NL w9 (some ⟨bz, o7, none⟩) (x2 :: k2.flat)) := hk9
                  clear hO9 hk9 X0 X1 X2 X3 e1 e2 hW7 hW8
                  go_wp2_with (first | (at_builtin; refine Hid.out ?_))
                  show wpList _ _ _ _ _ _
                  refine append_nodesG w9 rfl (.tmp 117) (.tmp 118) rfl w.heap.size (.slice (some ⟨g9, 0, none⟩) (dn.flat.length + 1 + 1) cap9) ((⟨46, (dn.len : Int) + 1, e0, e0⟩ :: dn.flat) ++ [fdN nx 0]) rfl HO9.out (x2 :: k2.flat) (k2.flat.length + 1) rfl bz o7 c6 HK9.out rfl (by simp; have := HSZ.out; omega) (by have := hb09.size; omega) ?_
                  intro v10 w10 hO10 hg10 ha10
                  have hb10 : Below w.heap.size w w10 := hb09.trans (grown_belowG hg10 (fun a e => by simp only [Value.ownBlock, Option.some.injEq] at e; omega) (by have := hb09.size; omega))
                  have HR10 : Hid (ON w10 w.heap.size v10 (rcN (dn.app (.cons (fdN nx 0) (.cons x2 k2 .nil) .nil)) :: (dn.app (.cons (fdN nx 0) (.cons x2 k2 .nil) .nil)).flat)) := jr_on hO10
                  clear hO10
                  go_wp2_with fail
                  go_roundw
                  case rel => exact ⟨_, nx, rfl, hnz, HR10.out, HM, HNX.1, HNX.2.1, hb10⟩
                  case measure => exact HNX.2.2


end Go.Proofs.YtckjndiepojgfaaGreatDoor
namespace Go.Proofs.YtckjndiepojgfaaGreatDoor
open Go.RowKit
set_option linter.unusedVariables false
set_option linter.unusedSimpArgs false
set_option maxRecDepth 100000

/-- append of nodes at an operation of a region. -/
theorem wp_appendN (w : World) {o : Oper} {a : Act} {K : Act → World → Prop} {Q : Exit → Act → World → Prop} (s x : Operand)
    (ho : o.op = .call { callee := .builtin .append, args := #[s, x], argTypes := #[22, 22] })
    (base : Nat) (v : Value) (L : List Nd) (hs : a.eval s = v) (hown : ON w base v L) (M : List Nd) (n : Nat) (hn : M.length = n) (b off c : Nat) (hN : NL w (some ⟨b, off, none⟩) M)
    (hx : a.eval x = .slice (some ⟨b, off, none⟩) n c) (hlen : L.length + M.length ≤ 1099511627776) (hbase : base ≤ w.heap.size)
    (h : ∀ v' w', ON w' base v' (L ++ M) → w.grownBy w' v.ownBlock → (v'.ownBlock = v.ownBlock ∨ v'.ownBlock = some w.heap.size) → K (a.put o.dst v') w') : o.wp Tryz.prog a w K Q := by
  subst hn
  obtain ⟨i0, hi, hz0, hz1, hz2⟩ := info_parts Tryz.infoNode
  refine wp_append_at w s x 22 ho base 55 i0 _ 4 48 Tryz.underlying22 hi hz0 hz1 hz2 rfl (by decide) v L.length (ncells L) hs hown.1 ⟨b, off, none⟩ M.length c (ncells M) hx (ncells_length M) ?_ (ncells_one _) (by unfold maxLen; omega) (by omega) hbase ?_
  · intro j u hu
    have hadd : (⟨b, off, none⟩ : Addr).add j = ⟨b, off + j, none⟩ := by unfold Addr.add; split <;> simp_all
    rw [hadd]; exact hN.cells j u hu
  · intro v' w' h1 h2 h4
    refine h v' w' ⟨?_, fun x hx => ?_⟩ h2 h4
    · rw [ncells_append, List.length_append]; exact h1
    · rcases List.mem_append.1 hx with hx | hx
      · exact hown.2 x hx
      · exact hN.wfs x hx
theorem on_one (w : World) (base : Nat) (o : Int) (ho : o ≤ 100) (hb : base ≤ w.heap.size) : ON (w.alloc (.cells #[.int .i64 o, .int .i64 0, .string ⟨#[]⟩, .string ⟨#[]⟩] 55)) base (.slice (some ⟨w.heap.size, 0, none⟩) 1 1) [lfN o] := by
  refine ⟨⟨by simp [ncells], .inr ⟨w.heap.size, 1, _, rfl, hb, (MapKept.heap_alloc w _).1, Nat.le_refl _, by unfold maxLen; omega, rfl, by simp [ncells, lfN, e0]⟩⟩, fun x hx => ?_⟩
  rw [List.mem_singleton.1 hx]
  simp [lfN, e0, Nd.wf, maxLen]
  exact Nat.zero_le _
theorem jn_ret {p q : Option Addr} {w w' : World} {v : Value} {L : List Nd} (h : ON w' w.heap.size v L) (hne : L ≠ []) : JnRet p q w w' L (.returned v) := by
  obtain ⟨g, cap, rfl, h1, h2, h3, h4, h5, _⟩ := h.slice hne
  exact ⟨_, _, rfl, ⟨h5, h3, h4⟩, fun b off e => by cases e; exact .inr (.inr h1)⟩
set_option maxHeartbeats 2000000 in
theorem jnR_set (xa ya : Nd) (ka la : Tp) (w : World) (p : Option Addr) (c : Nat) (q : Option Addr) (d : Nat) (ht : AK0 w (lfN 45 :: (xa :: ka.flat)) p c) (hv : AK0 w (lfN 45 :: (ya :: la.flat)) q d) (h1 : T1 (.cons xa ka .nil)) (h2 : T1 (.cons ya la .nil)) (h9 : ka.flat.length ≤ 890) (h8 : la.flat.length ≤ 890) (ih : JnRK xa ka) :
    Calls Tryz.prog 34 #[.slice p (ka.flat.length + 1 + 1) c, .slice q (la.flat.length + 1 + 1) d] w fun e w' => JnRet p q w w' (lfN 45 :: (jn false (.cons xa ka .nil) (.cons ya la .nil)).flat) e ∧ Below w.heap.size w w' := by
  obtain ⟨b, off, hp, hbw, c0, c1, c2, c3, _⟩ := ht.nl.head
  obtain ⟨b', off', hq, hbw', d0, d1, d2, d3, _⟩ := hv.nl.head
  subst hp hq
  have hcl := ht.le
  have hdl := hv.le
  have hcm := ht.cm
  have hdm := hv.cm
  simp only [List.length_cons] at hcl hdl
  have hA1 : AK0 w (xa :: ka.flat) (some ⟨b, off + 4, none⟩) (c - 1) := ⟨ht.nl.tail, by simp; omega, by omega⟩
  have hA2 : AK0 w (ya :: la.flat) (some ⟨b', off' + 4, none⟩) (d - 1) := ⟨hv.nl.tail, by simp; omega, by omega⟩
  have HC := fun W (hW : Below w.heap.size w W) => ih ya la W _ _ _ _ (hA1.up hW) (hA2.up hW) h1 h2 h9 h8
  obtain ⟨xj, kj, hj, _⟩ := (h1.jn h2).of
  have HJL : Hid (kj.flat.length ≤ 2000) := by
    have := jn_flat _ _ (Nat.lt_succ_self _) h1 h2
    rw [hj] at this
    simp only [Tp.flat, List.length_cons, List.length_append, List.length_nil] at this
    show _ ≤ _
    omega
  have hjf : (jn false (.cons xa ka .nil) (.cons ya la .nil)).flat = xj :: kj.flat := by rw [hj]; simp [Tp.flat]
  rw [hjf] at HC ⊢
  have HBP : Hid (b < w.heap.size ∧ b' < w.heap.size) := ⟨hbw, hbw'⟩
  clear hj hjf hA1 hA2 ht hv h1 h2
  have i1 : (0 : Int) < ((ka.flat.length : Int) + 1 + 1) := by omega
  have i2 : (0 : Int) < ((la.flat.length : Int) + 1 + 1) := by omega
  have i3 : (1 : Int) ≤ ((ka.flat.length : Int) + 1 + 1) := by omega
  have i4 : (1 : Int) ≤ ((la.flat.length : Int) + 1 + 1) := by omega
  have hc1 : ¬ c = 1 := by omega
  have hd1 : ¬ d = 1 := by omega
  simp only [lfN] at c0 c1 c2 c3 d0 d1 d2 d3
  go_enter Tryz.func34, Tryz.ntmps34
  go_wp2_with fail
  obtain ⟨D, hD⟩ : ∃ D, D = w.drew := ⟨_, rfl⟩
  have hbD : Below w.heap.size w D := by rw [hD]; exact kqx
  have hsD : D.heap.size = w.heap.size := by rw [hD]; rfl
  refine wp_region_held_drew (S := fun _ => True) (by kernel_rfl) trivial (fun hHeld => ?_)
  rw [← hD]
  clear hD
  refine wpAnyH_take (i := 0) (v := ?_) rfl (by kernel_rfl) (by kernel_rfl) (by kernel_rfl) (fun _ _ _ h => h) (Or.inl ⟨by kernel_rfl, ?_⟩) (by assumption) ?_
  rotate_left
  · intro w hSw
    go_simp
    all_goals with_reducible rfl
  try simp only [Act.put, List.getElem_toArray, List.getElem_cons_succ, List.getElem_cons_zero, List.setIfInBounds_toArray, List.set_cons_zero, List.set_cons_succ]
  refine wpAnyH_take (i := 2) (v := ?_) rfl (by kernel_rfl) (by kernel_rfl) (by kernel_rfl) (fun _ _ _ h => h) (Or.inl ⟨by kernel_rfl, ?_⟩) (by assumption) ?_
  rotate_left
  · intro w hSw
    go_simp
    all_goals with_reducible rfl
  try simp only [Act.put, List.getElem_toArray, List.getElem_cons_succ, List.getElem_cons_zero, List.setIfInBounds_toArray, List.set_cons_zero, List.set_cons_succ]
  refine wpAnyH_take (i := 3) (v := ?_) rfl (by kernel_rfl) (by kernel_rfl) (by kernel_rfl) (fun _ _ _ h => h) (Or.inl ⟨by kernel_rfl, ?_⟩) (by assumption) ?_
  rotate_left
  · intro w hSw
    go_simp
    all_goals with_reducible rfl
  try simp only [Act.put, List.getElem_toArray, List.getElem_cons_succ, List.getElem_cons_zero, List.setIfInBounds_toArray, List.set_cons_zero, List.set_cons_succ]
  refine wpAnyH_take (i := 4) (v := ?_) rfl (by kernel_rfl) (by kernel_rfl) (by kernel_rfl) (fun _ _ _ h => h) (Or.inl ⟨by kernel_rfl, ?_⟩) (by assumption) ?_
  rotate_left
  · intro w hSw
    go_simp
    all_goals with_reducible rfl
  try simp only [Act.put, List.getElem_toArray, List.getElem_cons_succ, List.getElem_cons_zero, List.setIfInBounds_toArray, List.set_cons_zero, List.set_cons_succ]
  refine wpAnyH_take (i := 5) (v := ?_) rfl (by kernel_rfl) (by kernel_rfl) (by kernel_rfl) (fun _ _ _ h => h) (Or.inl ⟨by kernel_rfl, ?_⟩) (by assumption) ?_
  rotate_left
  · intro w hSw
    go_simp
    all_goals with_reducible rfl
  try simp only [Act.put, List.getElem_toArray, List.getElem_cons_succ, List.getElem_cons_zero, List.setIfInBounds_toArray, List.set_cons_zero, List.set_cons_succ]
  refine wpAnyH_ready (rs := [1, 6]) (by kernel_rfl) (by simp) ?_
  refine AllReadyH.cons rfl (fun K hK => ?_) (AllReadyH.cons rfl (fun K hK => ?_) AllReadyH.nil)
  · go_simp
    obtain ⟨V, hV⟩ : ∃ V, V = D.alloc (.cells #[.int .i64 45, .int .i64 0, .string ⟨#[]⟩, .string ⟨#[]⟩] 55) := ⟨_, rfl⟩
    have hO : ON V w.heap.size (.slice (some ⟨w.heap.size, 0, none⟩) 1 1) [lfN 45] := by
      have h := on_one D w.heap.size 45 (by omega) (by omega)
      rw [← hV, hsD] at h
      exact h
    have hbV : Below w.heap.size w V := by rw [hV]; exact kqA hbD
    rw [← hV]
    clear hV
    refine hK.out _ _ trivial (fun hHeld => ?_)
    clear hK K
    try simp only [Act.put, List.getElem_toArray, List.getElem_cons_succ, List.getElem_cons_zero, List.setIfInBounds_toArray, List.set_cons_zero, List.set_cons_succ]
    refine wpAnyH_ready (rs := [6]) (by kernel_rfl) (by simp) ?_
    refine AllReadyH.cons rfl (fun K hK => ?_) AllReadyH.nil
    go_simp
    go_wp2_with fail
    refine (HC V hbV).mono ?_
    rintro _ w5 ⟨⟨r5, c5, rfl, hk5', hwh⟩, hb5⟩
    obtain ⟨bz, oz, hr5, hbz, _⟩ := hk5'.nl.head
    subst hr5
    have hk5 := hk5'.nl
    have hO5 := hO.below hb5
    have hb05 := kqt hbV hb5
    clear hO HC hwh hk5'
    rw [List.length_cons]
    refine hK.out _ _ trivial (fun hHeld => ?_)
    clear hK K
    try simp only [Act.put, List.getElem_toArray, List.getElem_cons_succ, List.getElem_cons_zero, List.setIfInBounds_toArray, List.set_cons_zero, List.set_cons_succ]
    refine wpAnyH_ready (rs := [7]) (by kernel_rfl) (by simp) ?_
    refine AllReadyH.cons rfl (fun K hK => ?_) AllReadyH.nil
    rw [if_pos (by rfl)]
    refine wp_appendN w5 (.tmp 30) (.tmp 35) rfl w.heap.size (.slice (some ⟨w.heap.size, 0, none⟩) 1 1) [lfN 45] rfl hO5 (xj :: kj.flat) (kj.flat.length + 1) rfl bz oz c5 hk5 rfl (by have := HJL.out; simp; omega) (by have := hb05.size; omega) ?_
    intro v6 w6 hO6 hg6 ha6
    have hb6 : Below w.heap.size w w6 := hb05.trans (grown_belowG hg6 (fun a e => by simp only [Value.ownBlock, Option.some.injEq] at e; omega) (by have := hb05.size; omega))
    obtain ⟨q6, n6, c6, rfl⟩ : ∃ q n c, v6 = .slice q n c := by obtain ⟨g, cap, e, _⟩ := hO6.slice (by simp); exact ⟨_, _, _, e⟩
    have HR6 : Hid (JnRet (some ⟨b, off, none⟩) (some ⟨b', off', none⟩) w w6 (lfN 45 :: (xj :: kj.flat)) (.returned (.slice q6 n6 c6))) := jn_ret hO6 (by simp)
    clear hO6 hO5 hk5
    refine hK.out _ _ trivial (fun hHeld => ?_)
    clear hK K
    try simp only [Act.put, List.getElem_toArray, List.getElem_cons_succ, List.getElem_cons_zero, List.setIfInBounds_toArray, List.set_cons_zero, List.set_cons_succ]
    refine wpAnyH_take (i := 8) (v := ?_) rfl (by kernel_rfl) (by kernel_rfl) (by kernel_rfl) (fun _ _ _ h => h) (Or.inl ⟨by kernel_rfl, ?_⟩) (by assumption) ?_
    rotate_left
    · intro w hSw
      go_simp
      all_goals with_reducible rfl
    try simp only [Act.put, List.getElem_toArray, List.getElem_cons_succ, List.getElem_cons_zero, List.setIfInBounds_toArray, List.set_cons_zero, List.set_cons_succ]
    refine wpAnyH_done (by kernel_rfl) ?_ _
    clear hHeld
    go_wp2
    go_ret
    exact ⟨HR6.out, hb6⟩
  · go_simp
    go_wp2_with fail
    refine (HC D hbD).mono ?_
    rintro _ w4 ⟨⟨r5, c5, rfl, hk5', hwh⟩, hb5⟩
    obtain ⟨bz, oz, hr5, hbz, _⟩ := hk5'.nl.head
    subst hr5
    rw [List.length_cons]
    refine hK.out _ _ trivial (fun hHeld => ?_)
    clear hK K
    try simp only [Act.put, List.getElem_toArray, List.getElem_cons_succ, List.getElem_cons_zero, List.setIfInBounds_toArray, List.set_cons_zero, List.set_cons_succ]
    refine wpAnyH_ready (rs := [1]) (by kernel_rfl) (by simp) ?_
    refine AllReadyH.cons rfl (fun K hK => ?_) AllReadyH.nil
    go_simp
    obtain ⟨w5, hV⟩ : ∃ V, V = w4.alloc (.cells #[.int .i64 45, .int .i64 0, .string ⟨#[]⟩, .string ⟨#[]⟩] 55) := ⟨_, rfl⟩
    have hb4 := kqt hbD hb5
    have hO5 : ON w5 w.heap.size (.slice (some ⟨w4.heap.size, 0, none⟩) 1 1) [lfN 45] := by rw [hV]; exact on_one w4 _ 45 (by omega) hb4.size
    have hb45 : Below w4.heap.size w4 w5 := by rw [hV]; exact kqx
    have hb05 := kqt hb4 hb45
    have hs4 := hb4.size
    have hk5 := hk5'.nl.up hb45
    rw [← hV]
    clear hV HC hwh hk5'
    refine hK.out _ _ trivial (fun hHeld => ?_)
    clear hK K
    try simp only [Act.put, List.getElem_toArray, List.getElem_cons_succ, List.getElem_cons_zero, List.setIfInBounds_toArray, List.set_cons_zero, List.set_cons_succ]
    refine wpAnyH_ready (rs := [7]) (by kernel_rfl) (by simp) ?_
    refine AllReadyH.cons rfl (fun K hK => ?_) AllReadyH.nil
    rw [if_pos (by rfl)]
    refine wp_appendN w5 (.tmp 30) (.tmp 35) rfl w.heap.size (.slice (some ⟨w4.heap.size, 0, none⟩) 1 1) [lfN 45] rfl hO5 (xj :: kj.flat) (kj.flat.length + 1) rfl bz oz c5 hk5 rfl (by have := HJL.out; simp; omega) (by have := hb05.size; omega) ?_
    intro v6 w6 hO6 hg6 ha6
    have hb6 : Below w.heap.size w w6 := hb05.trans (grown_belowG hg6 (fun a e => by simp only [Value.ownBlock, Option.some.injEq] at e; omega) (by have := hb05.size; omega))
    obtain ⟨q6, n6, c6, rfl⟩ : ∃ q n c, v6 = .slice q n c := by obtain ⟨g, cap, e, _⟩ := hO6.slice (by simp); exact ⟨_, _, _, e⟩
    have HR6 : Hid (JnRet (some ⟨b, off, none⟩) (some ⟨b', off', none⟩) w w6 (lfN 45 :: (xj :: kj.flat)) (.returned (.slice q6 n6 c6))) := jn_ret hO6 (by simp)
    clear hO6 hO5 hk5
    refine hK.out _ _ trivial (fun hHeld => ?_)
    clear hK K
    try simp only [Act.put, List.getElem_toArray, List.getElem_cons_succ, List.getElem_cons_zero, List.setIfInBounds_toArray, List.set_cons_zero, List.set_cons_succ]
    refine wpAnyH_take (i := 8) (v := ?_) rfl (by kernel_rfl) (by kernel_rfl) (by kernel_rfl) (fun _ _ _ h => h) (Or.inl ⟨by kernel_rfl, ?_⟩) (by assumption) ?_
    rotate_left
    · intro w hSw
      go_simp
      all_goals with_reducible rfl
    try simp only [Act.put, List.getElem_toArray, List.getElem_cons_succ, List.getElem_cons_zero, List.setIfInBounds_toArray, List.set_cons_zero, List.set_cons_succ]
    refine wpAnyH_done (by kernel_rfl) ?_ _
    clear hHeld
    go_wp2
    go_ret
    exact ⟨HR6.out, hb6⟩
set_option maxHeartbeats 1000000 in
theorem jnR_rec (k l : Tp) (w : World) (p : Option Addr) (c : Nat) (q : Option Addr) (d : Nat) (ht : AK0 w (rcN k :: k.flat) p c) (hv : AK0 w (rcN l :: l.flat) q d) (hk : Fl e0 k) (hl : Fl e0 l) (h9 : k.flat.length ≤ 890) (h8 : l.flat.length ≤ 890) (ih : ∀ f kf, kf.flat.length < k.flat.length → JnRK f kf) :
    Calls Tryz.prog 34 #[.slice p (k.flat.length + 1) c, .slice q (l.flat.length + 1) d] w fun e w' => JnRet p q w w' (rcN (addF k l (jn true k l)) :: (addF k l (jn true k l)).flat) e ∧ Below w.heap.size w w' := by
  have HC := joinRecs_any k l w p c q d ht hv hk hl h9 h8 ih
  obtain ⟨b, off, hp, hbw, c0, c1, c2, c3, _⟩ := ht.nl.head
  obtain ⟨b', off', hq, hbw', d0, d1, d2, d3, _⟩ := hv.nl.head
  subst hp hq
  have i1 : (0 : Int) < ((k.flat.length : Int) + 1) := by omega
  have i2 : (0 : Int) < ((l.flat.length : Int) + 1) := by omega
  simp only [rcN] at c0 c1 c2 c3 d0 d1 d2 d3
  generalize rcN (addF k l (jn true k l)) :: (addF k l (jn true k l)).flat = L at *
  clear ht hv hk hl
  go_enter Tryz.func34, Tryz.ntmps34
  go_wp2_with fail
  refine HC.mono ?_
  rintro _ w1 ⟨⟨r, c', rfl, h1, h2⟩, hb⟩
  have HR : Hid (JnRet (some ⟨b, off, none⟩) (some ⟨b', off', none⟩) w w1 L (.returned (.slice r L.length c'))) := ⟨r, c', rfl, h1, h2⟩
  clear h1 h2
  go_wp2
  go_ret
  exact ⟨HR.out, hb⟩
theorem nd_same {x y : Nd} {k l : Tp} (t1 : TyC x k) (t2 : TyC y l) (h5 : ¬ (x.op = 45 ∧ y.op = 45)) (h6 : ¬ (x.op = 46 ∧ y.op = 46)) : ndEq x y = true ↔ x.op = y.op ∧ x.s = y.s := by
  rw [ndEq_iff]
  constructor
  · rintro rfl; exact ⟨rfl, rfl⟩
  · rintro ⟨h1, h2⟩
    cases t1 <;> cases t2 <;> simp_all [lfN]
/-- JoinKinds tells the join. -/
theorem jnRK_any : ∀ (N : Nat) (x : Nd) (k : Tp), k.flat.length < N → JnRK x k
  | 0, x, k, h => by omega
  | N + 1, x, k, h => by
    have ih : ∀ f kf, kf.flat.length < k.flat.length → JnRK f kf := fun f kf hf => jnRK_any N f kf (by omega)
    intro y l w p c q d ht hv h1 h2 h9 h8
    have t1 := T1.iff.1 h1
    have t2 := T1.iff.1 h2
    rw [jn_cons]
    by_cases a : x.op = 49
    · rw [if_pos a]
      have := jnR_right x k y l w p c q d ht hv a
      rwa [show (Tp.cons y l .nil).flat = y :: l.flat by simp [Tp.flat]]
    rw [if_neg a]
    by_cases b : y.op = 49
    · rw [if_pos b]
      have := jnR_left x k y l w p c q d ht hv a b
      rwa [show (Tp.cons x k .nil).flat = x :: k.flat by simp [Tp.flat]]
    rw [if_neg b]
    by_cases c5 : x.op = 45 ∧ y.op = 45
    · rw [if_pos c5]
      cases t1 with
      | leaf o ho => simp [lfN] at c5; omega
      | ent s hs => simp at c5
      | rcd k hk => simp at c5
      | set k hk =>
        cases t2 with
        | leaf o ho => simp [lfN] at c5; omega
        | ent s hs => simp at c5
        | rcd k hk => simp at c5
        | set l hl =>
          obtain ⟨xa, ka, rfl⟩ := tp_len1 hk.1
          obtain ⟨ya, la, rfl⟩ := tp_len1 hl.1
          simp only [Tp.flat, List.append_nil, List.length_cons] at ht hv h9 h8 ⊢
          exact jnR_set xa ya ka la w p c q d ht hv hk hl (by omega) (by omega) (ih xa ka (by simp [Tp.flat]))
    rw [if_neg c5]
    by_cases c6 : x.op = 46 ∧ y.op = 46
    · rw [if_pos c6]
      cases t1 with
      | leaf o ho => simp [lfN] at c6; omega
      | ent s hs => simp at c6
      | set k hk => simp [lfN] at c6
      | rcd k hk =>
        cases t2 with
        | leaf o ho => simp [lfN] at c6; omega
        | ent s hs => simp at c6
        | set k hk => simp [lfN] at c6
        | rcd l hl =>
          have := jnR_rec k l w p c q d ht hv hk hl h9 h8 ih
          simp only [Tp.flat, List.append_nil]
          exact this
    rw [if_neg c6]
    by_cases c7 : x.op = y.op ∧ x.s = y.s
    · rw [if_pos ((nd_same t1 t2 c5 c6).2 c7)]
      have := jnR_same x k y l w p c q d ht hv a (fun e => c5 ⟨e, by rw [← c7.1]; exact e⟩) (fun e => c6 ⟨e, by rw [← c7.1]; exact e⟩) c7.1 c7.2
      rwa [show (Tp.cons x k .nil).flat = x :: k.flat by simp [Tp.flat]]
    · rw [if_neg (fun e => c7 ((nd_same t1 t2 c5 c6).1 e))]
      have := jnR_any x k y l w p c q d ht hv a b (by
        by_cases e5 : x.op = 45
        · exact .inl ⟨e5, fun e => c5 ⟨e5, e⟩⟩
        · by_cases e6 : x.op = 46
          · exact .inr (.inl ⟨e6, fun e => c6 ⟨e6, e⟩⟩)
          · by_cases e7 : x.op = y.op
            · exact .inr (.inr (.inr ⟨e5, e6, e7, fun e => c7 ⟨e7, e⟩⟩))
            · exact .inr (.inr (.inl ⟨e5, e6, e7⟩)))
      rwa [show (Tp.cons (lfN 48) .nil .nil).flat = [lfN 48] by simp [Tp.flat]]
theorem jnRK (x : Nd) (k : Tp) : JnRK x k := jnRK_any _ x k (Nat.lt_succ_self _)
end Go.Proofs.YtckjndiepojgfaaGreatDoor
