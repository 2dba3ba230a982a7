/- Package val's Check: what is thrown is caught; what it tells of every list of nodes. -/
import Derived.Test.YtjbjheeigdblkabPast
import Derived.Defers
import Derived.Recover
import Derived.Laws.Pointers
namespace Go.Proofs.Ytjbjheeigdblkab
open Go.RowKit
set_option linter.unusedVariables false

theorem catch_idle (p : Addr) (w : World) :
    CallsD Try.prog 33 #[.pointer (some p)] .returning w fun e u' w' => e = .returned (.tuple #[]) ∧ u' = .returning ∧ w' = w := by
  refine callsD_of_wpS Try.func33 rfl fun c₀ cs hu => ?_
  apply wpS_seq
  apply wpS_region
  simp [wpOpsS, go_sem, recoverD, hu, Try.ntmps33, Exit.thenS]
  refine wpS_of_wp ?_
  go_wp2
  cases c₀
  simp_all [bodyPostS, results, Try.results33]

theorem catch_thrown (p : Addr) (w : World) (u : Value) (hc : w.cell? p = some u) (hz : w.frozen? p = false) :
    CallsD Try.prog 33 #[.pointer (some p)] (.panicking thrown) w fun e u' w' => e = .returned (.tuple #[]) ∧ u' = .panicking [{ v := .iface 48 (.int .i64 1), recovered := true }] ∧ w' = w.setCell p (.iface 48 (.int .i64 1)) := by
  have hta : ∀ w : World, Sem.run Try.prog (Instr.typeAssert (.iface 48 (.int .i64 1)) 20 48 true) w = .ok (.tuple #[.int .i64 1, .bool true]) w := fun _ => by kernel_rfl
  refine callsD_of_wpS Try.func33 rfl fun c₀ cs hu => ?_
  unfold thrown at hu
  apply wpS_seq
  apply wpS_region
  simp [wpOpsS, go_sem, recoverD, hu, Try.ntmps33, Exit.thenS]
  refine wpS_of_wp ?_
  go_wp2
  cases c₀
  simp_all [bodyPostS, results, Try.results33]

/-- A list of nodes as a slice: nil, or one that lies somewhere. -/
def NS (w : World) (v : List Nd) (x : Value) : Prop := ∃ p c, x = .slice p v.length c ∧ (v = [] ∨ p.isSome = true) ∧ NL w p v ∧ v.length ≤ c ∧ c ≤ maxLen

theorem pastValue_slice (v : List Nd) (p : Option Addr) (c : Nat) (w : World) (hv : NL w p v) (hc : v.length ≤ c) (hcm : c ≤ maxLen) :
    Calls Try.prog 35 #[.slice p v.length c] w fun e w' => (match pastV (v.length + 1) v with | none => e = .panicked thrown | some r => ∃ q c', e = .returned (.slice q r.length c')) ∧ Below w.heap.size w w' := by
  cases v with
  | nil =>
    go_enter Try.func35, Try.ntmps35
    go_wp2_with fail
    refine (need_false _).mono ?_
    rintro e w3 ⟨rfl, rfl⟩
    go_wp2
    exact ⟨rfl, rfl, Below.refl _ _⟩
  | cons x r =>
    obtain ⟨b, off, rfl, hbw, _⟩ := hv.head
    refine (pastValue_any _ (x :: r) b off c w (Nat.lt_succ_self _) hv hc hcm).mono ?_
    rintro e w' ⟨rfl, hb⟩
    refine ⟨?_, hb⟩
    cases pastV ((x :: r).length + 1) (x :: r) with
    | none => rfl
    | some r' => exact ⟨_, _, rfl⟩

theorem walk_any (v : List Nd) (p : Option Addr) (c : Nat) (w : World) (hv : NL w p v) (hc : v.length ≤ c) (hcm : c ≤ maxLen) :
    Calls Try.prog 19 #[.slice p v.length c] w fun e w' => e = .returned (eV (if isVal v then 0 else 1)) ∧ Below w.heap.size w w' := by
  generalize hn : (if isVal v then (0 : Int) else 1) = n
  have HNN : Hid (_ = _) := hn
  clear hn
  have hmf : ∀ (fn : Fn) (first cap : Array Value) (w : World), (Instr.makeFunc fn first cap).run Try.prog w = .ok (.func fn first cap) w := fun _ _ _ _ => rfl
  have hp := pastValue_slice v p c (w.alloc (.cells #[.nilIface] 25)) (hv.up ((Below.refl _ _).alloc (Nat.le_refl _) _)) hc hcm
  have hb0 : Below w.heap.size w (w.alloc (.cells #[.nilIface] 25)) := (Below.refl _ _).alloc (Nat.le_refl _) _
  have hc0 : (w.alloc (.cells #[.nilIface] 25)).cell? ⟨w.heap.size, 0, none⟩ = some .nilIface := by simp [go_sem]
  have hz0 : (w.alloc (.cells #[.nilIface] 25)).frozen? ⟨w.heap.size, 0, none⟩ = false := by simp [go_sem]
  have hs0 : w.heap.size < (w.alloc (.cells #[.nilIface] 25)).heap.size := by simp
  cases hpv : pastV (v.length + 1) v with
  | none =>
    rw [hpv] at hp
    have HV : Hid (isVal v = false) := by show _ = _; unfold isVal; rw [hpv]
    clear hpv
    go_enter_defers Try.func19, Try.ntmps19
    go_wp2_with fail
    refine hp.mono ?_
    rintro e w1 ⟨rfl, hb⟩
    have hc1 := (hb.cell (p := ⟨w.heap.size, 0, none⟩) hs0).trans hc0
    have hz1 := (hb.frozen (p := ⟨w.heap.size, 0, none⟩) hs0).trans hz0
    go_wp2
    refine leaves_cons (f := 33) (args := #[.pointer (some ⟨w.heap.size, 0, none⟩)]) (by simp) (by simp [go_sem]) ?_
    refine (catch_thrown ⟨w.heap.size, 0, none⟩ _ .nilIface hc1 hz1).mono ?_
    rintro e u' w'' ⟨rfl, rfl, rfl⟩
    have hb2 : Below w.heap.size w (w1.setCell ⟨w.heap.size, 0, none⟩ (.iface 48 (.int .i64 1))) := (hb0.trans (hb.mono hb0.size)).setCell (Nat.le_refl _) _
    obtain rfl : n = 1 := by rw [← HNN.out, HV.out]; rfl
    simp [Leaves, settle, results, Try.results19, go_sem, hc1]
    exact ⟨rfl, hb2⟩
  | some r =>
    rw [hpv] at hp
    have HV : Hid (isVal v = r.isEmpty) := by show _ = _; unfold isVal; rw [hpv]
    clear hpv
    cases r with
    | nil =>
      go_enter_defers Try.func19, Try.ntmps19
      go_wp2_with fail
      refine hp.mono ?_
      rintro e w1 ⟨⟨q, c', rfl⟩, hb⟩
      have hc1 := (hb.cell (p := ⟨w.heap.size, 0, none⟩) hs0).trans hc0
      have hz1 := (hb.frozen (p := ⟨w.heap.size, 0, none⟩) hs0).trans hz0
      go_wp2_with fail
      refine (need_true _).mono ?_
      rintro e w2 ⟨rfl, rfl⟩
      go_wp2
      refine leaves_cons (f := 33) (args := #[.pointer (some ⟨w.heap.size, 0, none⟩)]) (by simp) (by simp [go_sem]) ?_
      refine (catch_idle ⟨w.heap.size, 0, none⟩ _).mono ?_
      rintro e u' w'' ⟨rfl, rfl, rfl⟩
      have hb2 : Below w.heap.size w (w2.setCell ⟨w.heap.size, 0, none⟩ .nilIface) := (hb0.trans (hb.mono hb0.size)).setCell (Nat.le_refl _) _
      obtain rfl : n = 0 := by rw [← HNN.out, HV.out]; rfl
      simp [Leaves, settle, results, Try.results19, go_sem, hc1]
      exact ⟨rfl, hb2⟩
    | cons x r =>
      go_enter_defers Try.func19, Try.ntmps19
      go_wp2_with fail
      refine hp.mono ?_
      rintro e w1 ⟨⟨q, c', rfl⟩, hb⟩
      have hc1 := (hb.cell (p := ⟨w.heap.size, 0, none⟩) hs0).trans hc0
      have hz1 := (hb.frozen (p := ⟨w.heap.size, 0, none⟩) hs0).trans hz0
      have ne : ((r.length : Int) + 1 == 0) = false := by simp; omega
      go_wp2_with fail
      refine (need_false _).mono ?_
      rintro e w2 ⟨rfl, rfl⟩
      go_wp2
      refine leaves_cons (f := 33) (args := #[.pointer (some ⟨w.heap.size, 0, none⟩)]) (by simp) (by simp [go_sem]) ?_
      refine (catch_thrown ⟨w.heap.size, 0, none⟩ _ .nilIface hc1 hz1).mono ?_
      rintro e u' w'' ⟨rfl, rfl, rfl⟩
      have hb2 : Below w.heap.size w (w2.setCell ⟨w.heap.size, 0, none⟩ (.iface 48 (.int .i64 1))) := (hb0.trans (hb.mono hb0.size)).setCell (Nat.le_refl _) _
      obtain rfl : n = 1 := by rw [← HNN.out, HV.out]; rfl
      simp [Leaves, settle, results, Try.results19, go_sem, hc1]
      exact ⟨rfl, hb2⟩

theorem vcheck_any (v : List Nd) (p : Option Addr) (c : Nat) (w : World) (hv : NL w p v) (hc : v.length ≤ c) (hcm : c ≤ maxLen) :
    Calls Try.prog 10 #[.slice p v.length c] w fun e w' => e = .returned (eV (vfault v)) ∧ Below w.heap.size w w' := by
  by_cases h : 200 < v.length
  · have HF : Hid (vfault v = 4) := by show _ = _; unfold vfault; rw [if_pos h]
    have h' : (200 : Int) < (v.length : Int) := by omega
    go_enter Try.func10, Try.ntmps10
    go_wp2
    go_ret
    exact ⟨by rw [HF.out]; rfl, Below.refl _ _⟩
  · have HF : Hid (vfault v = if isVal v then 0 else 1) := by show _ = _; unfold vfault; rw [if_neg h]
    have h' : ¬ (200 : Int) < (v.length : Int) := by omega
    go_enter Try.func10, Try.ntmps10
    go_wp2_with fail
    refine (walk_any v p c _ hv hc hcm).mono ?_
    rintro e w1 ⟨rfl, hb⟩
    rw [← HF.out]
    go_wp2
    go_ret
    exact ⟨rfl, hb⟩

end Go.Proofs.Ytjbjheeigdblkab
