/- Package eval: what is thrown; sure, only, isTrue, numberOf, uidOf, truth, number, entity: by walks of their own texts. -/
import Derived.Test.YtglhjhbhijekjaaGreatDoorG15
import Derived.Test.YtglhjhbhijekjaaGreatDoorG5
import Derived.Test.YtglhjhbhijekjaaGreatDoorG6
import Derived.Test.YtglhjhbhijekjaaGreatDoorG16
import Derived.StillTailTactics
import Derived.Deep.QuietTactic
namespace Go.Proofs.YtglhjhbhijekjaaGreatDoor
open Go.RowKit
set_option linter.unusedVariables false
set_option maxRecDepth 100000

def thrownE (n : Int) : List PanicEntry := [{ v := .iface 101 (.agg #[.iface 31 (.int .i64 n)]), recovered := false }]
def erV (n : Int) : Value := .iface 31 (.int .i64 n)
theorem qbt {a b c : World} (h : Below a.heap.size a b) (k : Below b.heap.size b c) : Below a.heap.size a c := h.trans (k.mono h.size)
theorem qba {a b : World} (h : Below a.heap.size a b) (o : Obj) : Below a.heap.size a (b.alloc o) := qbt h ((Below.refl _ _).alloc (Nat.le_refl _) o)
theorem qbn {a b : World} (h : Below a.heap.size a b) (n : Nat) : Below a.heap.size a (b.drewN n) := ⟨h.os, h.tape, h.output, h.size, h.block⟩
theorem alloc_size (w : World) (o : Obj) : (w.alloc o).heap.size = w.heap.size + 1 := by simp
theorem NL.lit (w : World) (L : List Nd) (cs : Array Value) (hw : ∀ x ∈ L, x.wf) (hc : cs.toList = ncells L) (hl : L.length ≤ 1000) : NL (w.alloc (.cells cs 53)) (some ⟨w.heap.size, 0, none⟩) L := by
  have hs : cs.size = L.length * 4 := by rw [← ncells_length, ← hc]; simp
  obtain ⟨q, c, e, h, _⟩ := NL.of_row (base := 0) (v := .slice (some ⟨w.heap.size, 0, none⟩) L.length L.length) hw (w := w.alloc (.cells cs 53)) ⟨ncells_length L, .inr ⟨w.heap.size, L.length, cs, rfl, Nat.zero_le _, heap_alloc_new _ _, Nat.le_refl _, by unfold maxLen; omega, hs, by rw [hc, ← ncells_length, List.take_length]⟩⟩
  cases e
  exact h.1
/-- A value in memory, as an argument. -/
structure VArg (w : World) (a : List Nd) (n : Nat) (q : Option Addr) (c : Nat) : Prop where
  len : a.length = n
  nl : NL w q a
  le : n ≤ c
  cm : c ≤ maxLen
  is : IsV a
theorem VArg.up {w w' : World} {a : List Nd} {n : Nat} {q : Option Addr} {c : Nat} (h : VArg w a n q c) (hb : Below w.heap.size w w') : VArg w' a n q c := ⟨h.len, h.nl.up hb, h.le, h.cm, h.is⟩
/-- A value told. -/
def VRet (a : List Nd) (n : Nat) (en : Ending) (w' : World) : Prop := ∃ q c, en = .returned (.slice q n c) ∧ VArg w' a n q c
theorem VArg.head {w : World} {a : List Nd} {n : Nat} {q : Option Addr} {c : Nat} (h : VArg w a n q c) : ∃ x r b off, a = x :: r ∧ q = some ⟨b, off, none⟩ ∧ b < w.heap.size ∧ w.cell? ⟨b, off, none⟩ = some (.int .i64 x.op) ∧ w.cell? ⟨b, off + 1, none⟩ = some (.int .i64 x.n) ∧ w.cell? ⟨b, off + 2, none⟩ = some (.string x.s) ∧ w.cell? ⟨b, off + 3, none⟩ = some (.string x.t) ∧ x.wf ∧ 1 ≤ n := by
  obtain ⟨x, r, rfl, _⟩ := value_head h.is.val
  obtain ⟨b, off, h1, h2, h3, h4, h5, h6, h7⟩ := h.nl.at (i := 0) (by simp)
  simp only [Nat.zero_mul, Nat.add_zero, List.getElem_cons_zero] at h3 h4 h5 h6 h7
  have hl := h.len
  simp only [List.length_cons] at hl
  exact ⟨x, r, b, off, rfl, h1, h2, h3, h4, h5, h6, h7, by omega⟩
section
variable (w : World)
theorem sureN_ok (q : Option Addr) (n c : Nat) : Calls Tryz.prog 124 #[.slice q n c, .nilIface] w fun e w' => e = .returned (.slice q n c) ∧ w' = w := by
  go_enter Tryz.func124, Tryz.ntmps124
  go_wp2
  go_ret
  exact ⟨rfl, rfl⟩
theorem sureN_bad (q : Option Addr) (n c : Nat) (k : Int) : Calls Tryz.prog 124 #[.slice q n c, .iface 31 (.int .i64 k)] w fun e w' => e = .panicked (thrownE k) ∧ w' = w := by
  go_enter Tryz.func124, Tryz.ntmps124
  go_wp2
  exact ⟨rfl, rfl, rfl⟩
theorem sureI_ok (n : Int) : Calls Tryz.prog 133 #[.int .i64 n, .nilIface] w fun e w' => e = .returned (.int .i64 n) ∧ w' = w := by
  go_enter Tryz.func133, Tryz.ntmps133
  go_wp2
  go_ret
  exact ⟨rfl, rfl⟩
theorem sureI_bad (n k : Int) : Calls Tryz.prog 133 #[.int .i64 n, .iface 31 (.int .i64 k)] w fun e w' => e = .panicked (thrownE k) ∧ w' = w := by
  go_enter Tryz.func133, Tryz.ntmps133
  go_wp2
  exact ⟨rfl, rfl, rfl⟩
theorem sureB_ok (b : Bool) : Calls Tryz.prog 139 #[.bool b, .nilIface] w fun e w' => e = .returned (.bool b) ∧ w' = w := by
  go_enter Tryz.func139, Tryz.ntmps139
  go_wp2
  go_ret
  exact ⟨rfl, rfl⟩
theorem sureB_bad (b : Bool) (k : Int) : Calls Tryz.prog 139 #[.bool b, .iface 31 (.int .i64 k)] w fun e w' => e = .panicked (thrownE k) ∧ w' = w := by
  go_enter Tryz.func139, Tryz.ntmps139
  go_wp2
  exact ⟨rfl, rfl, rfl⟩
theorem sureU_ok (q : Option Addr) (n c : Nat) : Calls Tryz.prog 170 #[.slice q n c, .nilIface] w fun e w' => e = .returned (.slice q n c) ∧ w' = w := by
  go_enter Tryz.func170, Tryz.ntmps170
  go_wp2
  go_ret
  exact ⟨rfl, rfl⟩
theorem sureL_ok (q : Option Addr) (n c : Nat) : Calls Tryz.prog 175 #[.slice q n c, .nilIface] w fun e w' => e = .returned (.slice q n c) ∧ w' = w := by
  go_enter Tryz.func175, Tryz.ntmps175
  go_wp2
  go_ret
  exact ⟨rfl, rfl⟩
theorem truth_any (b : Bool) : Calls Tryz.prog 131 #[.bool b] w fun e w' => VRet (tN b) 1 e w' ∧ Below w.heap.size w w' := by
  have hw : ∀ x ∈ tN b, x.wf := by intro x hx; simp only [tN, List.mem_singleton] at hx; subst hx; exact ⟨by unfold maxLen; show 0 ≤ _; decide, by unfold maxLen; show 0 ≤ _; decide, by cases b <;> simp⟩
  cases b
  · go_enter Tryz.func131, Tryz.ntmps131
    go_wp2
    go_ret
    exact ⟨⟨_, _, rfl, rfl, NL.lit w (tN false) _ hw rfl (by decide), Nat.le_refl _, by unfold maxLen; decide, tN_is _⟩, (Below.refl _ _).alloc (Nat.le_refl _) _⟩
  · go_enter Tryz.func131, Tryz.ntmps131
    go_wp2
    go_ret
    exact ⟨⟨_, _, rfl, rfl, NL.lit w (tN true) _ hw rfl (by decide), Nat.le_refl _, by unfold maxLen; decide, tN_is _⟩, (Below.refl _ _).alloc (Nat.le_refl _) _⟩
theorem number_any (n : Int) (hn : Fit n) : Calls Tryz.prog 132 #[.int .i64 n] w fun e w' => VRet (mN n) 1 e w' ∧ Below w.heap.size w w' := by
  have hw : ∀ x ∈ mN n, x.wf := by intro x hx; simp only [mN, List.mem_singleton] at hx; subst hx; exact ⟨by unfold maxLen; show 0 ≤ _; decide, by unfold maxLen; show 0 ≤ _; decide, hn.2⟩
  go_enter Tryz.func132, Tryz.ntmps132
  go_wp2
  go_ret
  exact ⟨⟨_, _, rfl, rfl, NL.lit w (mN n) _ hw rfl (by simp [mN]), Nat.le_refl _, by unfold maxLen; decide, mN_is hn⟩, (Below.refl _ _).alloc (Nat.le_refl _) _⟩
theorem entity_any (u : Ui) (hu : uf u = 0) : Calls Tryz.prog 127 #[.agg #[.string u.t, .string u.i]] w fun e w' => VRet (uN u) 1 e w' ∧ Below w.heap.size w w' := by
  have ho := uf_ok hu
  have hw : ∀ x ∈ uN u, x.wf := by intro x hx; simp only [uN, List.mem_singleton] at hx; subst hx; exact ⟨ho.1, ho.2, by show (0 : Int) ≤ _; decide⟩
  obtain ⟨t, i⟩ := u
  go_enter Tryz.func127, Tryz.ntmps127
  go_wp2
  go_ret
  have hN := NL.lit (w.alloc (.cells #[.string t, .string i] 23)) (uN ⟨t, i⟩) #[.int .i64 4, .int .i64 0, .string t, .string i] hw rfl (by simp [uN])
  rw [alloc_size] at hN
  exact ⟨⟨_, _, rfl, rfl, hN, Nat.le_refl _, by unfold maxLen; decide, uN_is hu⟩, ((Below.refl _ _).alloc (Nat.le_refl _) _).alloc (by simp) _⟩
theorem only_ok (kind : Int) (a : List Nd) (n : Nat) (q : Option Addr) (c : Nat) (h : VArg w a n q c) (hk : opV a = kind) :
    Calls Tryz.prog 141 #[.int .i64 kind, .slice q n c] w fun e w' => ∃ x r, a = x :: r ∧ e = .returned (.agg #[.int .i64 x.op, .int .i64 x.n, .string x.s, .string x.t]) ∧ Below w.heap.size w w' := by
  obtain ⟨x, r, b, off, rfl, rfl, hb, c0, c1, c2, c3, _, h1⟩ := h.head
  have hx : x.op = kind := hk
  have e1 : (x.op != kind) = false := by simpa using hx
  have i1 : (0 : Int) < (n : Int) := by omega
  clear hk hx h
  go_enter Tryz.func141, Tryz.ntmps141
  go_wp2
  refine bodyPost_ret (v := .agg #[.int .i64 x.op, .int .i64 x.n, .string x.s, .string x.t]) (by simp [results, Tryz.results141, go_sem]) rfl ?_
  exact ⟨x, r, rfl, rfl, (Below.refl _ _).alloc (Nat.le_refl _) _⟩
theorem only_bad (kind : Int) (a : List Nd) (n : Nat) (q : Option Addr) (c : Nat) (h : VArg w a n q c) (hk : opV a ≠ kind) :
    Calls Tryz.prog 141 #[.int .i64 kind, .slice q n c] w fun e w' => e = .panicked (thrownE 2) ∧ Below w.heap.size w w' := by
  obtain ⟨x, r, b, off, rfl, rfl, hb, c0, c1, c2, c3, _, h1⟩ := h.head
  have hx : x.op ≠ kind := hk
  have e1 : (x.op != kind) = true := by simpa using hx
  have i1 : (0 : Int) < (n : Int) := by omega
  clear hk hx h
  go_enter Tryz.func141, Tryz.ntmps141
  go_wp2
  exact ⟨rfl, rfl, (Below.refl _ _).alloc (Nat.le_refl _) _⟩
theorem Tryz.fieldN0 (a b : Int) (c d : ByteArray) (w : World) : Sem.run Tryz.prog (Instr.field 53 (.agg #[.int .i64 a, .int .i64 b, .string c, .string d]) 0) w = .ok (.int .i64 a) w := by kernel_rfl
theorem Tryz.fieldN1 (a b : Int) (c d : ByteArray) (w : World) : Sem.run Tryz.prog (Instr.field 53 (.agg #[.int .i64 a, .int .i64 b, .string c, .string d]) 1) w = .ok (.int .i64 b) w := by kernel_rfl
theorem Tryz.fieldN2 (a b : Int) (c d : ByteArray) (w : World) : Sem.run Tryz.prog (Instr.field 53 (.agg #[.int .i64 a, .int .i64 b, .string c, .string d]) 2) w = .ok (.string c) w := by kernel_rfl
theorem isTrue_ok (a : List Nd) (n : Nat) (q : Option Addr) (c : Nat) (h : VArg w a n q c) (hk : opV a = 1) :
    Calls Tryz.prog 129 #[.slice q n c] w fun e w' => e = .returned (.bool (nV a == 1)) ∧ Below w.heap.size w w' := by
  have HO := only_ok w 1 a n q c h hk
  have hf := Tryz.fieldN1
  go_enter Tryz.func129, Tryz.ntmps129
  go_wp2_with fail
  refine HO.mono ?_
  rintro e w1 ⟨x, r, rfl, rfl, hb⟩
  go_wp2
  go_ret
  exact ⟨rfl, hb⟩
theorem isTrue_bad (a : List Nd) (n : Nat) (q : Option Addr) (c : Nat) (h : VArg w a n q c) (hk : opV a ≠ 1) :
    Calls Tryz.prog 129 #[.slice q n c] w fun e w' => e = .panicked (thrownE 2) ∧ Below w.heap.size w w' := by
  have HO := only_bad w 1 a n q c h hk
  go_enter Tryz.func129, Tryz.ntmps129
  go_wp2_with fail
  refine HO.mono ?_
  rintro e w1 ⟨rfl, hb⟩
  exact ⟨rfl, rfl, hb⟩
theorem numberOf_ok (a : List Nd) (n : Nat) (q : Option Addr) (c : Nat) (h : VArg w a n q c) (hk : opV a = 2) :
    Calls Tryz.prog 135 #[.slice q n c] w fun e w' => e = .returned (.int .i64 (nV a)) ∧ Below w.heap.size w w' := by
  have HO := only_ok w 2 a n q c h hk
  have hf := Tryz.fieldN1
  go_enter Tryz.func135, Tryz.ntmps135
  go_wp2_with fail
  refine HO.mono ?_
  rintro e w1 ⟨x, r, rfl, rfl, hb⟩
  go_wp2
  go_ret
  exact ⟨rfl, hb⟩
theorem numberOf_bad (a : List Nd) (n : Nat) (q : Option Addr) (c : Nat) (h : VArg w a n q c) (hk : opV a ≠ 2) :
    Calls Tryz.prog 135 #[.slice q n c] w fun e w' => e = .panicked (thrownE 2) ∧ Below w.heap.size w w' := by
  have HO := only_bad w 2 a n q c h hk
  go_enter Tryz.func135, Tryz.ntmps135
  go_wp2_with fail
  refine HO.mono ?_
  rintro e w1 ⟨rfl, hb⟩
  exact ⟨rfl, rfl, hb⟩
theorem uidOf_ok (a : List Nd) (n : Nat) (q : Option Addr) (c : Nat) (h : VArg w a n q c) (hk : opV a = 4) :
    Calls Tryz.prog 142 #[.slice q n c] w fun e w' => e = .returned (.agg #[.string (uidV a).t, .string (uidV a).i]) ∧ Below w.heap.size w w' := by
  have hb0 : Below w.heap.size w (w.alloc (.cells #[.string ⟨#[]⟩, .string ⟨#[]⟩] 23)) := (Below.refl _ _).alloc (Nat.le_refl _) _
  have HO := only_ok _ 4 a n q c (h.up hb0) hk
  go_enter Tryz.func142, Tryz.ntmps142
  go_wp2_with fail
  refine HO.mono ?_
  rintro e w1 ⟨x, r, rfl, rfl, hb⟩
  have hlt : w.heap.size < w1.heap.size := by have := hb.size; rw [alloc_size] at this; omega
  have d0 : w1.cell? ⟨w.heap.size, 0, none⟩ = some (.string ⟨#[]⟩) := (hb.cell (p := ⟨w.heap.size, 0, none⟩) (by simp)).trans (by simp)
  have d1 : w1.cell? ⟨w.heap.size, 1, none⟩ = some (.string ⟨#[]⟩) := (hb.cell (p := ⟨w.heap.size, 1, none⟩) (by simp)).trans (by simp)
  have f0 : w1.frozen? ⟨w.heap.size, 0, none⟩ = false := (hb.frozen (p := ⟨w.heap.size, 0, none⟩) (by simp)).trans (by simp [go_sem])
  have f1 : w1.frozen? ⟨w.heap.size, 1, none⟩ = false := (hb.frozen (p := ⟨w.heap.size, 1, none⟩) (by simp)).trans (by simp [go_sem])
  have hne : w.heap.size ≠ w1.heap.size := by omega
  have hbA := qbt hb0 hb
  go_wp2
  have hbZ : Below w.heap.size w (((w1.setCell ⟨w.heap.size, 0, none⟩ (.string x.s)).setCell ⟨w.heap.size, 1, none⟩ (.string x.t)).alloc (.cells #[.int .i64 x.op, .int .i64 x.n, .string x.s, .string x.t] 53)) := ((hbA.setCell (p := ⟨w.heap.size, 0, none⟩) (Nat.le_refl _) _).setCell (p := ⟨w.heap.size, 1, none⟩) (Nat.le_refl _) _).alloc (by simp; omega) _
  have r0 : (((w1.setCell ⟨w.heap.size, 0, none⟩ (.string x.s)).setCell ⟨w.heap.size, 1, none⟩ (.string x.t)).alloc (.cells #[.int .i64 x.op, .int .i64 x.n, .string x.s, .string x.t] 53)).cell? ⟨w.heap.size, 0, none⟩ = some (.string x.s) := by
    rw [((Below.refl _ ((w1.setCell ⟨w.heap.size, 0, none⟩ (.string x.s)).setCell ⟨w.heap.size, 1, none⟩ (.string x.t))).alloc (Nat.le_refl _) _).cell (p := ⟨w.heap.size, 0, none⟩) (by simp; omega)]
    rw [World.cell?_setCell_other _ _ _ _ (by simp)]
    exact World.cell?_setCell_same _ _ _ d0
  have r1 : (((w1.setCell ⟨w.heap.size, 0, none⟩ (.string x.s)).setCell ⟨w.heap.size, 1, none⟩ (.string x.t)).alloc (.cells #[.int .i64 x.op, .int .i64 x.n, .string x.s, .string x.t] 53)).cell? ⟨w.heap.size, 1, none⟩ = some (.string x.t) := by
    rw [((Below.refl _ ((w1.setCell ⟨w.heap.size, 0, none⟩ (.string x.s)).setCell ⟨w.heap.size, 1, none⟩ (.string x.t))).alloc (Nat.le_refl _) _).cell (p := ⟨w.heap.size, 1, none⟩) (by simp; omega)]
    exact World.cell?_setCell_same _ _ _ ((World.cell?_setCell_other _ _ _ _ (by simp)).trans d1)
  generalize (((w1.setCell ⟨w.heap.size, 0, none⟩ (.string x.s)).setCell ⟨w.heap.size, 1, none⟩ (.string x.t)).alloc (.cells #[.int .i64 x.op, .int .i64 x.n, .string x.s, .string x.t] 53)) = V at *
  exact bodyPost_ret (v := .agg #[.string x.s, .string x.t]) (by simp [results, Tryz.results142, go_sem, r0, r1]) rfl ⟨rfl, hbZ⟩
theorem uidOf_bad (a : List Nd) (n : Nat) (q : Option Addr) (c : Nat) (h : VArg w a n q c) (hk : opV a ≠ 4) :
    Calls Tryz.prog 142 #[.slice q n c] w fun e w' => e = .panicked (thrownE 2) ∧ Below w.heap.size w w' := by
  have hb0 : Below w.heap.size w (w.alloc (.cells #[.string ⟨#[]⟩, .string ⟨#[]⟩] 23)) := (Below.refl _ _).alloc (Nat.le_refl _) _
  have HO := only_bad _ 4 a n q c (h.up hb0) hk
  go_enter Tryz.func142, Tryz.ntmps142
  go_wp2_with fail
  refine HO.mono ?_
  rintro e w1 ⟨rfl, hb⟩
  exact ⟨rfl, rfl, qbt hb0 hb⟩
end
end Go.Proofs.YtglhjhbhijekjaaGreatDoor
