/- Package eval: valueOf, given what value does: what is thrown is told. Package eval: Ask, by a walk of its own text. -/
import Derived.Test.YtnilaghbbhmkgaaGreatDoorF31
import Derived.Test.YtnilaghbbhmkgaaGreatDoorF38
import Derived.Test.YtnilaghbbhmkgaaGreatDoorF40
import Derived.Test.YtnilaghbbhmkgaaGreatDoorF17
import Derived.Test.YtnilaghbbhmkgaaGreatDoorF25
namespace Go.Proofs.YtnilaghbbhmkgaaGreatDoor
open Go.RowKit
set_option linter.unusedVariables false
set_option linter.unusedSimpArgs false
set_option maxRecDepth 100000

/-- How valueOf and Value end. -/
def ValE (R : Except Int (List Nd)) (e : Ending) (w' : World) : Prop :=
  match R with
  | .ok v => ∃ q c, e = .returned (.tuple #[.slice q v.length c, .nilIface]) ∧ VArg w' v v.length q c
  | .error n => e = .returned (.tuple #[.slice none 0 0, .iface 28 (.int .i64 n)])
theorem new_at {w : World} {cs : Array Value} {T : TypeId} {n : Nat} (h : n = w.heap.size) : (w.alloc (.cells cs T)).heap[n]? = some (.cells cs T (0, 0)) := by
  subst h; exact heap_alloc_new _ _
theorem old_at {w : World} {o : Obj} {n : Nat} (h : n < w.heap.size) : (w.alloc o).heap[n]? = w.heap[n]? := ((Below.refl w.heap.size w).alloc (Nat.le_refl _) o).block n h
theorem cell_one {w : World} {N : Nat} {v : Value} {T : TypeId} (h : w.heap[N]? = some (.cells #[v] T (0, 0))) : w.cell? ⟨N, 0, none⟩ = some v ∧ w.frozen? ⟨N, 0, none⟩ = false := by
  simp [World.cell?, World.frozen?, h]
theorem BX.keep {B N : Nat} {a w w' : World} (h : BX B a w) (k : Below N w w') (hN : a.heap.size ≤ N) : BX B a w' :=
  ⟨k.os.trans h.os, k.tape.trans h.tape, k.output.trans h.output, Nat.le_trans h.size k.size, fun i hi hn => (k.block i (Nat.lt_of_lt_of_le hi hN)).trans (h.block i hi hn)⟩
theorem NL.offG {w : World} {g : Nat} {cur : Array Value} {T : TypeId} {fr : Nat × Nat} (hg : w.heap[g]? = some (.cells cur T fr)) (hs : ∀ c ∈ cur.toList, ∀ z, c ≠ .int .i64 z) {q : Option Addr} {L : List Nd} (h : NL w q L) (hne : L ≠ []) : ∀ d, q = some d → d.block ≠ g := by
  rintro d rfl e
  rcases h with h | ⟨b, off, h1, h2, h3⟩
  · exact hne h
  · cases h1
    obtain ⟨x, r, rfl⟩ := List.exists_cons_of_ne_nil hne
    obtain ⟨d0, _⟩ := h3 0 x rfl
    have eb : b = g := e
    subst eb
    simp only [World.cell?, hg] at d0
    have : cur[off + 0 * 4]? = some (.int .i64 x.op) := by simpa using d0
    exact hs _ (Array.mem_toList_iff.2 (Array.mem_of_getElem? this)) _ rfl
set_option maxHeartbeats 4000000 in
theorem valueOf_any {E : EvEnv} {B f : Nat} (hV : ValOk E B f) (w : World) (hs : AS E w B 0) (hp : pastE f E.e = some []) :
    Calls Tryz.prog 24 #[.pointer (some ⟨B, 0, none⟩)] w fun e w' => ValE (evE E.es E.q f E.e) e w' ∧ BX B w w' := by
  have hmf : ∀ (fn : Fn) (first cap : Array Value) (w : World), (Instr.makeFunc fn first cap).run Tryz.prog w = .ok (.func fn first cap) w := fun _ _ _ _ => rfl
  obtain ⟨w2, hw2⟩ : ∃ w2, w2 = (w.alloc (.cells #[.slice none 0 0] 25)).alloc (.cells #[.nilIface] 33) := ⟨_, rfl⟩
  have hb2 : Below w.heap.size w w2 := by
    rw [hw2]
    exact ((Below.refl _ _).alloc (Nat.le_refl _) _).alloc (by simp) _
  have k0 : w2.heap[w.heap.size]? = some (.cells #[.slice none 0 0] 25 (0, 0)) := by
    rw [hw2, old_at (by simp)]; exact new_at rfl
  have k1 : w2.heap[w.heap.size + 1]? = some (.cells #[.nilIface] 33 (0, 0)) := by
    rw [hw2]; exact new_at (by simp)
  have hs2 := hs.up hb2
  have hBw := hs.lt
  have H1 := hV w2 0 [] hs2 (by rw [List.drop_zero]; exact hp)
  rw [List.drop_zero] at H1
  generalize evE E.es E.q f E.e = R at *
  go_enter_defers Tryz.func24, Tryz.ntmps24
  go_wp2_with fail
  rw [← hw2]
  refine H1.mono ?_
  cases R with
  | error n =>
    rintro e w3 ⟨rfl, hx3⟩
    have j0 := (hx3.block w.heap.size (Array.getElem?_eq_some_iff.1 k0).1 (by omega)).trans k0
    have j1 := (hx3.block (w.heap.size + 1) (Array.getElem?_eq_some_iff.1 k1).1 (by omega)).trans k1
    obtain ⟨x0, z0⟩ := cell_one j0
    obtain ⟨x1, z1⟩ := cell_one j1
    have hsz : w.heap.size + 2 ≤ w3.heap.size := by have := (Array.getElem?_eq_some_iff.1 j1).1; omega
    have hbx : BX B w w3 := (BX.of_below hb2).trans hx3
    clear H1 hw2
    go_wp2
    refine leaves_cons (f := 50) (args := #[.pointer (some ⟨w.heap.size, 0, none⟩), .pointer (some ⟨w.heap.size + 1, 0, none⟩)]) (by simp) (by simp [go_sem]) ?_
    refine (ecatch_thrown n w.heap.size _ _ _ x0 z0 x1 z1 hsz).mono ?_
    rintro e u' w7 ⟨rfl, rfl, c0, c1, hb7⟩
    have hb8 := hbx.keep hb7 (Nat.le_refl _)
    simp [Leaves, settle, results, Tryz.results24, go_sem, c0, c1]
    exact ⟨rfl, hb8⟩
  | ok v =>
    rintro e w3 ⟨⟨q3, c3, rfl, hv3⟩, hs3, hx3⟩
    have j0 := (hx3.block w.heap.size (Array.getElem?_eq_some_iff.1 k0).1 (by omega)).trans k0
    have j1 := (hx3.block (w.heap.size + 1) (Array.getElem?_eq_some_iff.1 k1).1 (by omega)).trans k1
    obtain ⟨x0, z0⟩ := cell_one j0
    obtain ⟨x1, z1⟩ := cell_one j1
    have hbx : BX B w w3 := (BX.of_below hb2).trans hx3
    clear H1 hw2
    have hq0 := hv3.nl.offG j0 (by intro c hc z; simp at hc; subst hc; simp) hv3.is.ne
    have hq1 := hv3.nl.offG j1 (by intro c hc z; simp at hc; subst hc; simp) hv3.is.ne
    have hnz : NL ((w3.setCell ⟨w.heap.size, 0, none⟩ (.slice q3 v.length c3)).setCell ⟨w.heap.size + 1, 0, none⟩ .nilIface) q3 v := (hv3.nl.setc hq0 _).setc hq1 _
    have hbz : BX B w ((w3.setCell ⟨w.heap.size, 0, none⟩ (.slice q3 v.length c3)).setCell ⟨w.heap.size + 1, 0, none⟩ .nilIface) :=
      hbx.keep (((Below.refl w.heap.size w3).setCell (p := ⟨w.heap.size, 0, none⟩) (Nat.le_refl _) _).setCell (p := ⟨w.heap.size + 1, 0, none⟩) (by show w.heap.size ≤ w.heap.size + 1; omega) _) (Nat.le_refl _)
    have g0 : ((w3.setCell ⟨w.heap.size, 0, none⟩ (.slice q3 v.length c3)).setCell ⟨w.heap.size + 1, 0, none⟩ .nilIface).cell? ⟨w.heap.size, 0, none⟩ = some (.slice q3 v.length c3) :=
      (World.cell?_setCell_other _ _ _ _ (by simp)).trans (World.cell?_setCell_same _ _ _ x0)
    have g1 : ((w3.setCell ⟨w.heap.size, 0, none⟩ (.slice q3 v.length c3)).setCell ⟨w.heap.size + 1, 0, none⟩ .nilIface).cell? ⟨w.heap.size + 1, 0, none⟩ = some .nilIface :=
      World.cell?_setCell_same _ _ _ ((World.cell?_setCell_other _ _ _ _ (by simp)).trans x1)
    go_wp2_with fail
    generalize (w3.setCell ⟨w.heap.size, 0, none⟩ (.slice q3 v.length c3)).setCell ⟨w.heap.size + 1, 0, none⟩ .nilIface = wz at *
    unfold bodyPostD
    simp only []
    refine leaves_cons (f := 50) (args := #[.pointer (some ⟨w.heap.size, 0, none⟩), .pointer (some ⟨w.heap.size + 1, 0, none⟩)]) (by simp) (by simp [go_sem]) ?_
    refine (ecatch_idle ⟨w.heap.size, 0, none⟩ ⟨w.heap.size + 1, 0, none⟩ _).mono ?_
    rintro e u' w10 ⟨rfl, rfl, rfl⟩
    simp [Leaves, settle, results, Tryz.results24, go_sem, g0, g1]
    exact ⟨⟨q3, c3, rfl, rfl, hnz, hv3.le, hv3.cm, hv3.is⟩, hbz⟩
end Go.Proofs.YtnilaghbbhmkgaaGreatDoor
namespace Go.Proofs.YtnilaghbbhmkgaaGreatDoor
open Go.RowKit
set_option linter.unusedVariables false
set_option maxRecDepth 100000

/-- A request as a value. -/
def reqV (q : Rq) (pq : Option Addr) (cq : Nat) : Value := .agg #[.string q.who.t, .string q.who.i, .string q.act.t, .string q.act.i, .string q.what.t, .string q.what.i, .slice pq q.cx.length cq]
def uAt (q : Rq) : Nat → Ui
  | 0 => q.who | 1 => q.act | _ => q.what
structure RqArg (w : World) (q : Rq) (pq : Option Addr) (cq : Nat) : Prop where
  u0 : UOk q.who
  u1 : UOk q.act
  u2 : UOk q.what
  nl : NL w pq q.cx
  le : q.cx.length ≤ cq
  cm : cq ≤ maxLen
set_option maxHeartbeats 1000000 in
theorem ask_any (q : Rq) (pq : Option Addr) (cq : Nat) (w : World) (h : RqArg w q pq cq) :
    Calls Tryz.prog 23 #[reqV q pq cq] w fun e w' => e = .returned (eV (askf q)) ∧ Below w.heap.size w w' := by
  unfold reqV
  have hAsk : ∀ j, j ≤ 2 → (∀ l, l < j → uf (uAt q l) = 0) → uf (uAt q j) ≠ 0 → askf q = uf (uAt q j) := by
    intro j hj hz hn
    unfold askf
    match j, hj with
    | 0, _ =>
      have n0 : uf q.who ≠ 0 := hn
      rw [if_neg n0]; rfl
    | 1, _ =>
      have z0 : uf q.who = 0 := hz 0 (by omega)
      have n0 : uf q.act ≠ 0 := hn
      rw [if_pos z0, if_neg n0]; rfl
    | 2, _ =>
      have z0 : uf q.who = 0 := hz 0 (by omega)
      have z1 : uf q.act = 0 := hz 1 (by omega)
      have n0 : uf q.what ≠ 0 := hn
      rw [if_pos z0, if_pos z1, if_neg n0]; rfl
  have hAll : (∀ l, l < 3 → uf (uAt q l) = 0) → askf q = afault q.cx := by
    intro hz
    have z0 : uf q.who = 0 := hz 0 (by omega)
    have z1 : uf q.act = 0 := hz 1 (by omega)
    have z2 : uf q.what = 0 := hz 2 (by omega)
    unfold askf
    rw [if_pos z0, if_pos z1, if_pos z2]
  have hok : ∀ j, UOk (uAt q j) := fun j => by
    match j with
    | 0 => exact h.u0
    | 1 => exact h.u1
    | _ + 2 => exact h.u2
  have hbW : Below w.heap.size w ((w.alloc (.cells #[.string q.who.t, .string q.who.i, .string q.act.t, .string q.act.i, .string q.what.t, .string q.what.i, .slice pq q.cx.length cq] 27)).alloc (.cells #[.string q.who.t, .string q.who.i, .string q.act.t, .string q.act.i, .string q.what.t, .string q.what.i] 24)) := ((Below.refl _ _).alloc (Nat.le_refl _) _).alloc (by simp) _
  have hsW : ((w.alloc (.cells #[.string q.who.t, .string q.who.i, .string q.act.t, .string q.act.i, .string q.what.t, .string q.what.i, .slice pq q.cx.length cq] 27)).alloc (.cells #[.string q.who.t, .string q.who.i, .string q.act.t, .string q.act.i, .string q.what.t, .string q.what.i] 24)).heap.size = w.heap.size + 2 := by simp
  have hcW : ∀ j, j ≤ 2 → ((w.alloc (.cells #[.string q.who.t, .string q.who.i, .string q.act.t, .string q.act.i, .string q.what.t, .string q.what.i, .slice pq q.cx.length cq] 27)).alloc (.cells #[.string q.who.t, .string q.who.i, .string q.act.t, .string q.act.i, .string q.what.t, .string q.what.i] 24)).cell? ⟨w.heap.size + 1, j * 2, none⟩ = some (.string (uAt q j).t) ∧ ((w.alloc (.cells #[.string q.who.t, .string q.who.i, .string q.act.t, .string q.act.i, .string q.what.t, .string q.what.i, .slice pq q.cx.length cq] 27)).alloc (.cells #[.string q.who.t, .string q.who.i, .string q.act.t, .string q.act.i, .string q.what.t, .string q.what.i] 24)).cell? ⟨w.heap.size + 1, j * 2 + 1, none⟩ = some (.string (uAt q j).i) := by
    intro j hj
    have e : ∀ o, ((w.alloc (.cells #[.string q.who.t, .string q.who.i, .string q.act.t, .string q.act.i, .string q.what.t, .string q.what.i, .slice pq q.cx.length cq] 27)).alloc (.cells #[.string q.who.t, .string q.who.i, .string q.act.t, .string q.act.i, .string q.what.t, .string q.what.i] 24)).cell? ⟨w.heap.size + 1, o, none⟩ = (#[.string q.who.t, .string q.who.i, .string q.act.t, .string q.act.i, .string q.what.t, .string q.what.i] : Array Value)[o]? := fun o => World.cell?_alloc_at _ _ _ o (by simp)
    rw [e, e]
    match j, hj with
    | 0, _ => exact ⟨rfl, rfl⟩
    | 1, _ => exact ⟨rfl, rfl⟩
    | 2, _ => exact ⟨rfl, rfl⟩
  have hqW : ((w.alloc (.cells #[.string q.who.t, .string q.who.i, .string q.act.t, .string q.act.i, .string q.what.t, .string q.what.i, .slice pq q.cx.length cq] 27)).alloc (.cells #[.string q.who.t, .string q.who.i, .string q.act.t, .string q.act.i, .string q.what.t, .string q.what.i] 24)).cell? ⟨w.heap.size, 6, none⟩ = some (.slice pq q.cx.length cq) := by simp
  have hn0 := h.nl
  have hle := h.le
  have hcm := h.cm
  clear h
  go_enter Tryz.func23, Tryz.ntmps23
  go_wp2_with fail
  generalize (w.alloc (.cells #[.string q.who.t, .string q.who.i, .string q.act.t, .string q.act.i, .string q.what.t, .string q.what.i, .slice pq q.cx.length cq] 27)).alloc (.cells #[.string q.who.t, .string q.who.i, .string q.act.t, .string q.act.i, .string q.what.t, .string q.what.i] 24) = W at *
  go_loopw [16] (fun i wr => ∃ j : Nat, j ≤ 3 ∧ i = .int .i64 j ∧ Hid (∀ l, l < j → uf (uAt q l) = 0) ∧ Below W.heap.size W wr) (fun i _ => 3 - (intOf i).toNat)
  case atStart => exact ⟨0, Nat.zero_le _, rfl, fun l hl => absurd hl (by omega), Below.refl _ _⟩
  case round =>
    rename World => wr
    obtain ⟨j, hj, rfl, HZ, hbr⟩ := hrel
    by_cases hlt : j < 3
    · have i1 : (j : Int) < 3 := by omega
      obtain ⟨c0, c1⟩ := hcW j (by omega)
      have y0 := (hbr.cell (p := ⟨w.heap.size + 1, j * 2, none⟩) (by show w.heap.size + 1 < _; omega)).trans c0
      have y1 := (hbr.cell (p := ⟨w.heap.size + 1, j * 2 + 1, none⟩) (by show w.heap.size + 1 < _; omega)).trans c1
      have HW := fun w1 => write_any (uAt q j).t (uAt q j).i w1 (hok j).1 (hok j).2
      have hbx : Below wr.heap.size wr (wr.alloc (.cells #[.string (uAt q j).t, .string (uAt q j).i] 24)) := (Below.refl _ _).alloc (Nat.le_refl _) _
      have eU : ufault (uAt q j).t.data.toList (uAt q j).i.data.toList = uf (uAt q j) := rfl
      rw [eU] at HW
      clear c0 c1 eU
      by_cases hu : uf (uAt q j) = 0
      · rw [eV_nil hu] at HW
        have HZ2 : Hid (∀ l, l < j + 1 → uf (uAt q l) = 0) := fun l hl => by
          by_cases e : l = j
          · rw [e]; exact hu
          · exact HZ.out l (by omega)
        clear hu HZ
        generalize uAt q j = u at *
        obtain ⟨ut, ui⟩ := u
        go_wp2_with (go_at_call 48; refine (HW _).mono ?_; rintro e w1 ⟨t1, rfl, hb1⟩)
        go_roundw
        case rel => exact ⟨j + 1, by omega, by go_num, HZ2, hbr.trans ((hbx.trans (hb1.mono hbx.size)).mono hbr.size)⟩
        case measure => simp [intOf]; omega
      · rw [eV_not hu] at HW
        have HA2 : Hid (askf q = uf (uAt q j)) := hAsk j (by omega) HZ.out hu
        have HU : Hid (uf (uAt q j) ≠ 0) := hu
        clear hu HZ
        generalize hn : uf (uAt q j) = n at *
        clear hn
        generalize uAt q j = u at *
        obtain ⟨ut, ui⟩ := u
        go_wp2_with (go_at_call 48; refine (HW _).mono ?_; rintro e w1 ⟨t1, rfl, hb1⟩)
        go_ret
        rw [HA2.out, eV_not HU.out]
        exact ⟨rfl, qbt hbW (hbr.trans ((hbx.trans (hb1.mono hbx.size)).mono hbr.size))⟩
    · have i1 : ¬ (j : Int) < 3 := by omega
      obtain rfl : j = 3 := by omega
      have HA2 : Hid (askf q = afault q.cx) := hAll HZ.out
      have y6 := (hbr.cell (p := ⟨w.heap.size, 6, none⟩) (by show w.heap.size < _; omega)).trans hqW
      have hbw := qbt hbW hbr
      have HC := vcheck_any q.cx pq cq wr (hn0.up hbw) hle hcm
      by_cases hv : vfault q.cx = 0
      · rw [eV_nil hv] at HC
        obtain ⟨x, r, ex, _⟩ := value_head hv
        have hnr := hn0.up hbw
        obtain ⟨b, off, rfl, hbb, x0, hrest⟩ := hnr.at (i := 0) (by rw [ex]; simp)
        clear hrest
        simp only [Nat.zero_mul, Nat.add_zero] at x0
        have hx0 : q.cx[0]'(by rw [ex]; simp) = x := by simp [ex]
        rw [hx0] at x0
        have i2 : (0 : Int) < (q.cx.length : Int) := by rw [ex]; simp
        have HF : Hid (afault q.cx = if x.op = 6 then 0 else 2) := by show _ = _; unfold afault; rw [if_pos hv, ex]
        by_cases h6 : x.op = 6
        · have e6 : (x.op != 6) = false := by simpa using h6
          have HE : Hid (eV (askf q) = .nilIface) := by show _ = _; rw [HA2.out, HF.out, if_pos h6]; rfl
          clear hv h6 ex hx0 HF HA2
          go_wp2_with fail
          refine HC.mono ?_
          rintro e w1 ⟨rfl, hb1⟩
          have z0 := (hb1.cell (p := ⟨b, off, none⟩) hbb).trans x0
          have z6 := (hb1.cell (p := ⟨w.heap.size, 6, none⟩) (by have := hbr.size; show w.heap.size < _; omega)).trans y6
          go_wp2
          go_ret
          rw [HE.out]
          exact ⟨rfl, qbt hbw hb1⟩
        · have e6 : (x.op != 6) = true := by simpa using h6
          have HE : Hid (eV (askf q) = .iface 28 (.int .i64 2)) := by show _ = _; rw [HA2.out, HF.out, if_neg h6]; rfl
          clear hv h6 ex hx0 HF HA2
          go_wp2_with fail
          refine HC.mono ?_
          rintro e w1 ⟨rfl, hb1⟩
          have z0 := (hb1.cell (p := ⟨b, off, none⟩) hbb).trans x0
          have z6 := (hb1.cell (p := ⟨w.heap.size, 6, none⟩) (by have := hbr.size; show w.heap.size < _; omega)).trans y6
          go_wp2
          go_ret
          rw [HE.out]
          exact ⟨rfl, qbt hbw hb1⟩
      · rw [eV_not hv] at HC
        have HF : Hid (eV (askf q) = .iface 28 (.int .i64 (vfault q.cx))) := by
          show _ = _
          rw [HA2.out]
          unfold afault
          rw [if_neg hv, eV_not hv]
        clear hv HA2
        generalize vfault q.cx = n at *
        go_wp2_with fail
        refine HC.mono ?_
        rintro e w1 ⟨rfl, hb1⟩
        go_wp2
        go_ret
        rw [HF.out]
        exact ⟨rfl, qbt hbw hb1⟩
end Go.Proofs.YtnilaghbbhmkgaaGreatDoor
