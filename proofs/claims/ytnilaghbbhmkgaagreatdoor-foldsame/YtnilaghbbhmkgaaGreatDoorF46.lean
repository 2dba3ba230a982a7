/- Package eval: Value, by a walk of its own text. Package fold: anyRequest, known, by walks of their own texts. Package fold: joined, chosen, better, by walks of their own texts. The statements' own num (package wicketgatelaw3); lists that are told. The statements' own same (package wicketgatelaw3): two answers. Value as the statements ask it: of lists that they hold. -/
import Derived.Test.YtnilaghbbhmkgaaGreatDoorF41
import Derived.Test.YtnilaghbbhmkgaaGreatDoorF45
import Derived.Test.YtnilaghbbhmkgaaGreatDoorF29
import Derived.Test.YtnilaghbbhmkgaaGreatDoorF32
import Derived.Test.YtnilaghbbhmkgaaGreatDoorF34
import Derived.Laws.StructEq
import Derived.Test.YtnilaghbbhmkgaaGreatDoorF28
import Derived.Test.YtnilaghbbhmkgaaGreatDoorF10
import Derived.Test.YtnilaghbbhmkgaaGreatDoorF22
import Derived.Test.YtnilaghbbhmkgaaGreatDoorF1
import Derived.Deep.RegionHeld
namespace Go.Proofs.YtnilaghbbhmkgaaGreatDoor
open Go.RowKit
set_option linter.unusedVariables false
set_option linter.unusedSimpArgs false
set_option maxRecDepth 100000

/-- What is handed to Value. -/
structure EvArg (w : World) (es : List En) (ps : Option Addr) (q : Rq) (pq : Option Addr) (cq : Nat) : Prop where
  el : EL w ps es
  rq : RqArg w q pq cq
  er : ErrVar w
  esN : ∀ e ∈ es, N64 e.nd
  cxN : N64 q.cx
theorem EvArg.up {w w' : World} {es : List En} {ps : Option Addr} {q : Rq} {pq : Option Addr} {cq : Nat} (h : EvArg w es ps q pq cq) (k : Below w.heap.size w w') : EvArg w' es ps q pq cq :=
  ⟨h.el.up k, ⟨h.rq.u0, h.rq.u1, h.rq.u2, h.rq.nl.up k, h.rq.le, h.rq.cm⟩, errVar_below h.er k (Nat.le_refl _), h.esN, h.cxN⟩
theorem req_cells {w : World} {B : Nat} {a0 a1 a2 a3 a4 a5 a6 : Value} {T : TypeId} (h : w.heap[B]? = some (.cells #[a0, a1, a2, a3, a4, a5, a6] T (0, 0))) :
    w.cell? ⟨B, 0, none⟩ = some a0 ∧ w.cell? ⟨B, 1, none⟩ = some a1 ∧ w.cell? ⟨B, 2, none⟩ = some a2 ∧ w.cell? ⟨B, 3, none⟩ = some a3 ∧ w.cell? ⟨B, 4, none⟩ = some a4 ∧ w.cell? ⟨B, 5, none⟩ = some a5 ∧ w.cell? ⟨B, 6, none⟩ = some a6 := by
  simp [World.cell?, h]
set_option maxHeartbeats 1000000 in
theorem evalue_any (es : List En) (ps : Option Addr) (cs : Nat) (q : Rq) (pq : Option Addr) (cq : Nat) (e : List Nd) (p : Option Addr) (c : Nat) (w : World)
    (ha : EvArg w es ps q pq cq) (he : NL w p e) (hl : e.length ≤ maxLen) (hN : N64 e) :
    Calls Tryz.prog 7 #[.slice ps es.length cs, reqV q pq cq, .slice p e.length c] w fun r w' => ValE (valueL es q e) r w' ∧ Below w.heap.size w w' := by
  have HE := fun w1 hl1 => entCheck_any es ps cs w1 hl1
  have HA := fun w1 h1 => ask_any q pq cq w1 h1
  have HT := fun w1 h1 => tcheck_any e p c w1 h1 hl
  obtain ⟨W, hW⟩ : ∃ W, W = w.alloc (.cells #[.string q.who.t, .string q.who.i, .string q.act.t, .string q.act.i, .string q.what.t, .string q.what.i, .slice pq q.cx.length cq] 27) := ⟨_, rfl⟩
  have hbW : Below w.heap.size w W := by rw [hW]; exact (Below.refl _ _).alloc (Nat.le_refl _) _
  have hWs : W.heap.size = w.heap.size + 1 := by rw [hW]; simp
  have hWc : W.heap[w.heap.size]? = some (.cells #[.string q.who.t, .string q.who.i, .string q.act.t, .string q.act.i, .string q.what.t, .string q.what.i, .slice pq q.cx.length cq] 27 (0, 0)) := by rw [hW]; exact new_at rfl
  have haW := ha.up hbW
  have heW := he.up hbW
  unfold reqV at *
  by_cases h1 : stf es = 0
  · rw [eV_nil h1] at HE
    by_cases h2 : askf q = 0
    · rw [eV_nil h2] at HA
      by_cases h3 : xfault e = 0
      · rw [eV_nil h3] at HT
        have HV : Hid (valueL es q e = evE es q (e.length + 1) e) := by show _ = _; unfold valueL; rw [if_pos h1, if_pos h2, if_pos h3]
        have hpe : pastE (e.length + 1) e = some [] := (xfault_zero h3).2
        have hm : EnvOk es q := ⟨h1, h2, ha.esN, ha.cxN⟩
        have hcq := ha.rq.le
        have hcm := ha.rq.cm
        obtain ⟨R, hR⟩ : ∃ R, R = evE es q (e.length + 1) e := ⟨_, rfl⟩
        rw [HV.out, ← hR]
        go_enter Tryz.func7, Tryz.ntmps7
        go_wp2_with fail
        rw [← hW]
        refine (HE _ haW.el).mono ?_
        rintro _ w1 ⟨rfl, hb1⟩
        have ha1 := haW.up hb1
        have r0 := (hb1.block w.heap.size (by omega)).trans hWc
        obtain ⟨x0, x1, x2, x3, x4, x5, x6⟩ := req_cells r0
        go_wp2_with fail
        refine (HA _ ha1.rq).mono ?_
        rintro _ w2 ⟨rfl, hb2⟩
        have ha2 := ha1.up hb2
        have he2 := (heW.up hb1).up hb2
        clear x0 x1 x2 x3 x4 x5 x6
        have r1 := (hb2.block w.heap.size (by have := hb1.size; omega)).trans r0
        go_wp2_with fail
        refine (HT _ he2).mono ?_
        rintro _ w3 ⟨rfl, hb3⟩
        have ha3 := ha2.up hb3
        have he3 := he2.up hb3
        have r2 := (hb3.block w.heap.size (by have := hb1.size; have := hb2.size; omega)).trans r1
        obtain ⟨x0, x1, x2, x3, x4, x5, x6⟩ := req_cells r2
        have hb03 := qbt hbW (qbt (qbt hb1 hb2) hb3)
        let E : EvEnv := ⟨w3, es, ps, cs, q, pq, cq, e, p, c⟩
        have ho : E.Ok := ⟨ha3.el, ha3.rq.nl, he3, hm, h3, hN, ha3.er, ⟨hcq, hcm⟩⟩
        have hs : AS E (w3.alloc (.cells #[.slice ps es.length cs, .string q.who.t, .string q.who.i, .string q.act.t, .string q.act.i, .string q.what.t, .string q.what.i, .slice pq q.cx.length cq, .slice p e.length c, .int .i64 0] 59)) w3.heap.size 0 :=
          ⟨new_at rfl, (Below.refl _ _).alloc (Nat.le_refl _) _, Nat.le_refl _, Nat.zero_le _⟩
        have HO := valueOf_any (all_value (B := w3.heap.size) ho (e.length + 1) (by show e.length + 1 ≤ e.length + 2; omega)) _ hs hpe
        have hb4 : Below w3.heap.size w3 (w3.alloc (.cells #[.slice ps es.length cs, .string q.who.t, .string q.who.i, .string q.act.t, .string q.act.i, .string q.what.t, .string q.what.i, .slice pq q.cx.length cq, .slice p e.length c, .int .i64 0] 59)) := (Below.refl _ _).alloc (Nat.le_refl _) _
        have hlt := hs.lt
        clear hs
        have e5 : evE E.es E.q (e.length + 1) E.e = evE es q (e.length + 1) e := rfl
        rw [e5, ← hR] at HO
        clear HV hm ho h1 h2 h3 hpe hN e5 hR
        go_wp2_with fail
        refine HO.mono ?_
        intro e9 w9 h9
        obtain ⟨hv, hx⟩ := h9
        have hb9 := qbt hb03 (hb4.trans (hx.below (Nat.le_refl _) hlt))
        cases R with
        | ok v =>
          obtain ⟨q9, c9, rfl, h9⟩ := hv
          go_wp2
          go_ret2
          exact ⟨⟨q9, c9, rfl, h9⟩, hb9⟩
        | error n =>
          obtain rfl := hv
          go_wp2
          go_ret2
          exact ⟨rfl, hb9⟩
      · rw [eV_not h3] at HT
        have HV : Hid (valueL es q e = .error (xfault e)) := by show _ = _; unfold valueL; rw [if_pos h1, if_pos h2, if_neg h3]
        clear h1 h2 h3 hN
        rw [HV.out]
        clear HV
        generalize xfault e = n at *
        go_enter Tryz.func7, Tryz.ntmps7
        go_wp2_with fail
        rw [← hW]
        refine (HE _ haW.el).mono ?_
        rintro _ w1 ⟨rfl, hb1⟩
        have ha1 := haW.up hb1
        have r0 := (hb1.block w.heap.size (by omega)).trans hWc
        obtain ⟨x0, x1, x2, x3, x4, x5, x6⟩ := req_cells r0
        go_wp2_with fail
        refine (HA _ ha1.rq).mono ?_
        rintro _ w2 ⟨rfl, hb2⟩
        have he2 := (heW.up hb1).up hb2
        clear x0 x1 x2 x3 x4 x5 x6
        go_wp2_with fail
        refine (HT _ he2).mono ?_
        rintro _ w3 ⟨rfl, hb3⟩
        have hb03 := qbt hbW (qbt (qbt hb1 hb2) hb3)
        go_wp2
        go_ret2
        exact ⟨rfl, hb03⟩
    · rw [eV_not h2] at HA
      have HV : Hid (valueL es q e = .error (askf q)) := by show _ = _; unfold valueL; rw [if_pos h1, if_neg h2]
      clear h1 h2 hN
      rw [HV.out]
      clear HV
      generalize askf q = n at *
      go_enter Tryz.func7, Tryz.ntmps7
      go_wp2_with fail
      rw [← hW]
      refine (HE _ haW.el).mono ?_
      rintro _ w1 ⟨rfl, hb1⟩
      have ha1 := haW.up hb1
      have r0 := (hb1.block w.heap.size (by omega)).trans hWc
      obtain ⟨x0, x1, x2, x3, x4, x5, x6⟩ := req_cells r0
      go_wp2_with fail
      refine (HA _ ha1.rq).mono ?_
      rintro _ w2 ⟨rfl, hb2⟩
      clear x0 x1 x2 x3 x4 x5 x6
      have hb03 := qbt hbW (qbt hb1 hb2)
      go_wp2
      go_ret2
      exact ⟨rfl, hb03⟩
  · rw [eV_not h1] at HE
    have HV : Hid (valueL es q e = .error (stf es)) := by show _ = _; unfold valueL; rw [if_neg h1]
    clear h1 hN
    rw [HV.out]
    clear HV
    generalize stf es = n at *
    go_enter Tryz.func7, Tryz.ntmps7
    go_wp2_with fail
    rw [← hW]
    refine (HE _ haW.el).mono ?_
    rintro _ w1 ⟨rfl, hb1⟩
    have hb03 := qbt hbW hb1
    go_wp2
    go_ret2
    exact ⟨rfl, hb03⟩
end Go.Proofs.YtnilaghbbhmkgaaGreatDoor
namespace Go.Proofs.YtnilaghbbhmkgaaGreatDoor
open Go.RowKit
set_option linter.unusedVariables false
set_option maxRecDepth 100000

theorem oNw {o : Int} : (⟨o, 0, ⟨#[]⟩, ⟨#[]⟩⟩ : Nd).wf := ⟨Nat.zero_le _, Nat.zero_le _, by show (0 : Int) ≤ _; decide⟩
theorem anyReq_fn (w : World) :
    Calls Tryz.prog 154 #[] w fun e w' => (∃ p, e = .returned (reqV rqA p 1) ∧ RqArg w' rqA p 1) ∧ Below w.heap.size w w' := by
  go_enter Tryz.func154, Tryz.ntmps154
  go_wp2
  refine bodyPost_ret (v := reqV rqA (some ⟨w.heap.size + 1 + 1, 0, none⟩) 1) (by simp [results, Tryz.results154, go_sem]; rfl) rfl ⟨⟨_, rfl, ?_⟩, ?_⟩
  · have hN := NL.lit ((w.alloc (.cells #[.string ⟨#[65]⟩, .string ⟨#[]⟩, .string ⟨#[65]⟩, .string ⟨#[]⟩, .string ⟨#[65]⟩, .string ⟨#[]⟩, .slice (some ⟨w.heap.size + 1 + 1, 0, none⟩) 1 1] 27)).alloc (.cells #[.string ⟨#[65]⟩, .string ⟨#[]⟩] 24)) rqA.cx #[.int .i64 6, .int .i64 0, .string ⟨#[]⟩, .string ⟨#[]⟩] (by intro x hx; simp only [rqA, List.mem_singleton] at hx; subst hx; exact oNw) rfl (by decide)
    simp only [World.alloc, Array.size_push] at hN ⊢
    exact ⟨uf_ok (by kernel_rfl), uf_ok (by kernel_rfl), uf_ok (by kernel_rfl), hN, by decide, by unfold maxLen; decide⟩
  · exact (((Below.refl _ _).alloc (Nat.le_refl _) _).alloc (by simp) _).alloc (by simp; omega) _
/-- What better and its helpers hand back. -/
def BRet (R : Option (Nd × Fo)) (x : Nd) (k : Fo) (S : Nat → Prop) (w : World) (en : Ending) (w' : World) : Prop :=
  (∃ (v' : Value) (S' : Nat → Prop), en = .returned (.tuple #[partV (R.getD (x, k)).1 v', .bool R.isSome]) ∧ (R.getD (x, k)).1.wf ∧ KV w' (R.getD (x, k)).2 v' S' ∧ (∀ a, S' a → S a ∨ w.heap.size ≤ a)) ∧ Below w.heap.size w w'
/-- A part and a result's block, laid at the entry. -/
structure En2 (w W : World) (x : Nd) (v : Value) : Prop where
  bel : Below w.heap.size w W
  box : PB W w.heap.size x v
  res : PB W (w.heap.size + 1) z0 (.slice none 0 0)
theorem En2.up {w W W' : World} {x : Nd} {v : Value} (h : En2 w W x v) (k : Below W.heap.size W W') : En2 w W' x v := ⟨h.bel.trans (k.mono h.bel.size), h.box.up k, h.res.up k⟩
theorem En2.new (w : World) (x : Nd) (v : Value) : En2 w ((w.alloc (.cells #[.int .i64 x.op, .int .i64 x.n, .string x.s, .string x.t, v] 63)).alloc (.cells #[.int .i64 0, .int .i64 0, .string ⟨#[]⟩, .string ⟨#[]⟩, .slice none 0 0] 63)) x v :=
  ⟨((Below.refl _ _).alloc (Nat.le_refl _) _).alloc (by simp) _, (PB.new w x v rfl).up ((Below.refl _ _).alloc (Nat.le_refl _) _), PB.new _ z0 _ (by simp)⟩
/-- A part stored as the result. -/
theorem En2.tell {w W V : World} {x y : Nd} {v u : Value} (h : En2 w W x v) (hV : V = ((((W.setCell ⟨w.heap.size + 1, 0, none⟩ (.int .i64 y.op)).setCell ⟨w.heap.size + 1, 1, none⟩ (.int .i64 y.n)).setCell ⟨w.heap.size + 1, 2, none⟩ (.string y.s)).setCell ⟨w.heap.size + 1, 3, none⟩ (.string y.t)).setCell ⟨w.heap.size + 1, 4, none⟩ u) :
    PB V (w.heap.size + 1) y u ∧ Below w.heap.size w V ∧ ∀ {k : Fo} {z : Value} {S : Nat → Prop}, KV W k z S → (¬ S (w.heap.size + 1)) → KV V k z S := by
  obtain ⟨h1, h2⟩ := h.res.put hV
  exact ⟨h1, h.bel.trans (h2.below h.bel.size (fun a e => by omega)), fun hk hn => hk.agree (fun a ha hl => h2.block a hl (fun e => hn (by rw [← e]; exact ha)))⟩
theorem Bd.off {w : World} {S : Nat → Prop} (h : Bd w S) {n : Nat} (hn : w.heap.size ≤ n) : ¬ S n := fun e => by have := h n e; omega
section
variable (x : Nd) (k : Fo) (w : World) (v : Value) (S : Nat → Prop) (hv : KV w k v S) (hB : Bd w S) (hx : x.wf) (hl : k.flat.length + 1 ≤ 200)
include hv hB hx hl
theorem onto_new {W : World} (h : En2 w W x v) : Calls Tryz.prog 28 #[partV x v, .slice none 0 0] W fun en w' => (∃ g cap, en = .returned (.slice (some ⟨g, 0, none⟩) (x :: k.flat).length cap) ∧ NL w' (some ⟨g, 0, none⟩) (x :: k.flat) ∧ (x :: k.flat).length ≤ cap ∧ cap ≤ maxLen) ∧ Below W.heap.size W w' := by
  have HO := onto_any (k.flat.length + 1) x k (Nat.lt_succ_self _) W v S W.heap.size (.slice none 0 0) [] (hv.up h.bel) (fun a ha => Nat.lt_of_lt_of_le (hB a ha) h.bel.size) hx (Nat.le_refl _) (ON.empty _ _) (by simp; omega)
  refine HO.mono ?_
  rintro _ w1 ⟨⟨ev, rfl, hO⟩, hk⟩
  rw [List.nil_append] at hO
  obtain ⟨g, cap, rfl, _, _, h3, h4, h5, _⟩ := hO.slice (by simp)
  exact ⟨⟨g, cap, rfl, h5, h3, h4⟩, hk.bel⟩
/-- It is a value itself. -/
theorem known_val (hz : vfault (x :: k.flat) = 0) : Calls Tryz.prog 96 #[partV x v] w fun en w' => BRet none x k S w en w' := by
  obtain ⟨W, hW⟩ : ∃ W, W = (w.alloc (.cells #[.int .i64 x.op, .int .i64 x.n, .string x.s, .string x.t, v] 63)).alloc (.cells #[.int .i64 0, .int .i64 0, .string ⟨#[]⟩, .string ⟨#[]⟩, .slice none 0 0] 63) := ⟨_, rfl⟩
  have hE_0 : En2 w W x v := by rw [hW]; exact En2.new w x v
  have HO := onto_new x k w v S hv hB hx hl hE_0
  have HV : Hid (KV w k v S) := hv
  have HX : Hid x.wf := hx
  have hoff := hB.off (n := w.heap.size + 1) (by omega)
  obtain ⟨q, c, rfl, _⟩ := hv.slice
  clear hv hx hl
  generalize x :: k.flat = L at *
  unfold partV at *
  obtain ⟨c0, c1, c2, c3, c4⟩ := hE_0.box.cells
  go_enter Tryz.func96, Tryz.ntmps96
  go_wp2_with fail
  rw [← hW]
  refine HO.mono ?_
  rintro _ w1 ⟨⟨g, cap, rfl, h5, h3, h4⟩, hb1⟩
  have hE_1 := hE_0.up hb1
  have HC := vcheck_any L (some ⟨g, 0, none⟩) cap w1 h5 h3 h4
  rw [eV_nil hz] at HC
  clear c0 c1 c2 c3 c4 hE_0 HO hW
  obtain ⟨c0, c1, c2, c3, c4⟩ := hE_1.box.cells
  go_wp2_with fail
  refine HC.mono ?_
  rintro _ w2 ⟨rfl, hb2⟩
  have hE_2 := hE_1.up hb2
  clear c0 c1 c2 c3 c4 hE_1 HC
  obtain ⟨c0, c1, c2, c3, c4⟩ := hE_2.box.cells
  obtain ⟨r0, r1, r2, r3, r4⟩ := hE_2.res.cells
  have fr := hE_2.res.free
  go_wp2
  obtain ⟨V, hV⟩ : ∃ V, V = ((((w2.setCell ⟨w.heap.size + 1, 0, none⟩ (.int .i64 x.op)).setCell ⟨w.heap.size + 1, 1, none⟩ (.int .i64 x.n)).setCell ⟨w.heap.size + 1, 2, none⟩ (.string x.s)).setCell ⟨w.heap.size + 1, 3, none⟩ (.string x.t)).setCell ⟨w.heap.size + 1, 4, none⟩ (.slice q k.len c) := ⟨_, rfl⟩
  rw [← hV]
  obtain ⟨hP, hbV, hKV⟩ := hE_2.tell hV
  obtain ⟨t0, t1, t2, t3, t4⟩ := hP.cells
  exact bodyPost_ret (v := .tuple #[.agg #[.int .i64 x.op, .int .i64 x.n, .string x.s, .string x.t, .slice q k.len c], .bool false]) (by simp [results, Tryz.results96, go_sem, t0, t1, t2, t3, t4]) rfl ⟨⟨_, S, rfl, HX.out, hKV (HV.out.up hE_2.bel) hoff, fun a ha => .inl ha⟩, hbV⟩
/-- A part of it hangs on more. -/
theorem known_hang (hz : vfault (x :: k.flat) ≠ 0) (hh : hangA k = true) : Calls Tryz.prog 96 #[partV x v] w fun en w' => BRet none x k S w en w' := by
  obtain ⟨W, hW⟩ : ∃ W, W = (w.alloc (.cells #[.int .i64 x.op, .int .i64 x.n, .string x.s, .string x.t, v] 63)).alloc (.cells #[.int .i64 0, .int .i64 0, .string ⟨#[]⟩, .string ⟨#[]⟩, .slice none 0 0] 63) := ⟨_, rfl⟩
  have hE_0 : En2 w W x v := by rw [hW]; exact En2.new w x v
  have HO := onto_new x k w v S hv hB hx hl hE_0
  have HV : Hid (KV w k v S) := hv
  have HX : Hid x.wf := hx
  have HH := fun w1 h1 h2 => hasHang_any k v S w1 h1 h2 (by omega)
  rw [hh] at HH
  have hoff := hB.off (n := w.heap.size + 1) (by omega)
  obtain ⟨q, c, rfl, _⟩ := hv.slice
  clear hv hx hl hh
  generalize x :: k.flat = L at *
  unfold partV at *
  obtain ⟨c0, c1, c2, c3, c4⟩ := hE_0.box.cells
  go_enter Tryz.func96, Tryz.ntmps96
  go_wp2_with fail
  rw [← hW]
  refine HO.mono ?_
  rintro _ w1 ⟨⟨g, cap, rfl, h5, h3, h4⟩, hb1⟩
  have hE_1 := hE_0.up hb1
  have HC := vcheck_any L (some ⟨g, 0, none⟩) cap w1 h5 h3 h4
  rw [eV_not hz] at HC
  generalize vfault L = n at *
  clear c0 c1 c2 c3 c4 hE_0 HO hW
  obtain ⟨c0, c1, c2, c3, c4⟩ := hE_1.box.cells
  go_wp2_with fail
  refine HC.mono ?_
  rintro _ w2 ⟨rfl, hb2⟩
  have hE_2 := hE_1.up hb2
  clear c0 c1 c2 c3 c4 hE_1 HC
  obtain ⟨c0, c1, c2, c3, c4⟩ := hE_2.box.cells
  go_wp2_with fail
  refine (HH _ (HV.out.up hE_2.bel) (fun a ha => Nat.lt_of_lt_of_le (hB a ha) hE_2.bel.size)).mono ?_
  rintro _ w3 ⟨rfl, hb3⟩
  have hE_3 := hE_2.up hb3
  clear c0 c1 c2 c3 c4 hE_2 HH
  obtain ⟨c0, c1, c2, c3, c4⟩ := hE_3.box.cells
  obtain ⟨r0, r1, r2, r3, r4⟩ := hE_3.res.cells
  have fr := hE_3.res.free
  go_wp2
  obtain ⟨V, hV⟩ : ∃ V, V = ((((w3.setCell ⟨w.heap.size + 1, 0, none⟩ (.int .i64 x.op)).setCell ⟨w.heap.size + 1, 1, none⟩ (.int .i64 x.n)).setCell ⟨w.heap.size + 1, 2, none⟩ (.string x.s)).setCell ⟨w.heap.size + 1, 3, none⟩ (.string x.t)).setCell ⟨w.heap.size + 1, 4, none⟩ (.slice q k.len c) := ⟨_, rfl⟩
  rw [← hV]
  obtain ⟨hP, hbV, hKV⟩ := hE_3.tell hV
  obtain ⟨t0, t1, t2, t3, t4⟩ := hP.cells
  exact bodyPost_ret (v := .tuple #[.agg #[.int .i64 x.op, .int .i64 x.n, .string x.s, .string x.t, .slice q k.len c], .bool false]) (by simp [results, Tryz.results96, go_sem, t0, t1, t2, t3, t4]) rfl ⟨⟨_, S, rfl, HX.out, hKV (HV.out.up hE_3.bel) hoff, fun a ha => .inl ha⟩, hbV⟩
set_option maxHeartbeats 1000000 in
/-- It has an error. -/
theorem known_err (he : ErrVar w) (hN : N64 (x :: k.flat)) (hz : vfault (x :: k.flat) ≠ 0) (hh : hangA k = false) {nz : Int} (hR : valueL [] rqA (x :: k.flat) = .error nz) : Calls Tryz.prog 96 #[partV x v] w fun en w' => BRet none x k S w en w' := by
  obtain ⟨W, hW⟩ : ∃ W, W = (w.alloc (.cells #[.int .i64 x.op, .int .i64 x.n, .string x.s, .string x.t, v] 63)).alloc (.cells #[.int .i64 0, .int .i64 0, .string ⟨#[]⟩, .string ⟨#[]⟩, .slice none 0 0] 63) := ⟨_, rfl⟩
  have hE_0 : En2 w W x v := by rw [hW]; exact En2.new w x v
  have HO := onto_new x k w v S hv hB hx hl hE_0
  have HV : Hid (KV w k v S) := hv
  have HX : Hid x.wf := hx
  have HH := fun w1 h1 h2 => hasHang_any k v S w1 h1 h2 (by omega)
  rw [hh] at HH
  have HE : Hid (ErrVar w) := he
  have hoff := hB.off (n := w.heap.size + 1) (by omega)
  obtain ⟨q, c, rfl, _⟩ := hv.slice
  have hLm : (x :: k.flat).length ≤ maxLen := by unfold maxLen; simp; omega
  clear hv hx hl hh he
  generalize x :: k.flat = L at *
  unfold partV at *
  obtain ⟨c0, c1, c2, c3, c4⟩ := hE_0.box.cells
  go_enter Tryz.func96, Tryz.ntmps96
  go_wp2_with fail
  rw [← hW]
  refine HO.mono ?_
  rintro _ w1 ⟨⟨g, cap, rfl, h5, h3, h4⟩, hb1⟩
  have hE_1 := hE_0.up hb1
  have HC := vcheck_any L (some ⟨g, 0, none⟩) cap w1 h5 h3 h4
  rw [eV_not hz] at HC
  generalize vfault L = n at *
  clear c0 c1 c2 c3 c4 hE_0 HO hW
  obtain ⟨c0, c1, c2, c3, c4⟩ := hE_1.box.cells
  go_wp2_with fail
  refine HC.mono ?_
  rintro _ w2 ⟨rfl, hb2⟩
  have hE_2 := hE_1.up hb2
  have h5_2 := h5.up hb2
  clear c0 c1 c2 c3 c4 hE_1 HC h5
  obtain ⟨c0, c1, c2, c3, c4⟩ := hE_2.box.cells
  go_wp2_with fail
  refine (HH _ (HV.out.up hE_2.bel) (fun a ha => Nat.lt_of_lt_of_le (hB a ha) hE_2.bel.size)).mono ?_
  rintro _ w3 ⟨rfl, hb3⟩
  have hE_3 := hE_2.up hb3
  have h5_3 := h5_2.up hb3
  clear c0 c1 c2 c3 c4 hE_2 HH h5_2
  obtain ⟨c0, c1, c2, c3, c4⟩ := hE_3.box.cells
  go_wp2_with fail
  refine (anyReq_fn _).mono ?_
  rintro _ w4 ⟨⟨pq, rfl, hq⟩, hb4⟩
  have hE_4 := hE_3.up hb4
  have h5_4 := h5_3.up hb4
  have hA : EvArg w4 [] none rqA pq 1 := ⟨.inl rfl, hq, errVar_below HE.out hE_4.bel (Nat.le_refl _), envA.esN, envA.cxN⟩
  have HU := evalue_any [] none 0 rqA pq 1 L (some ⟨g, 0, none⟩) cap w4 hA h5_4 hLm hN
  rw [hR] at HU
  clear c0 c1 c2 c3 c4 hE_3 h5_3 hq hA hR
  obtain ⟨c0, c1, c2, c3, c4⟩ := hE_4.box.cells
  unfold reqV at *
  go_wp2_with fail
  refine HU.mono ?_
  rintro _ w5 ⟨rfl, hb5⟩
  have hE_5 := hE_4.up hb5
  clear c0 c1 c2 c3 c4 hE_4
  obtain ⟨c0, c1, c2, c3, c4⟩ := hE_5.box.cells
  obtain ⟨r0, r1, r2, r3, r4⟩ := hE_5.res.cells
  have fr := hE_5.res.free
  go_wp2
  obtain ⟨V, hV⟩ : ∃ V, V = ((((w5.setCell ⟨w.heap.size + 1, 0, none⟩ (.int .i64 x.op)).setCell ⟨w.heap.size + 1, 1, none⟩ (.int .i64 x.n)).setCell ⟨w.heap.size + 1, 2, none⟩ (.string x.s)).setCell ⟨w.heap.size + 1, 3, none⟩ (.string x.t)).setCell ⟨w.heap.size + 1, 4, none⟩ (.slice q k.len c) := ⟨_, rfl⟩
  rw [← hV]
  obtain ⟨hP, hbV, hKV⟩ := hE_5.tell hV
  obtain ⟨t0, t1, t2, t3, t4⟩ := hP.cells
  exact bodyPost_ret (v := .tuple #[.agg #[.int .i64 x.op, .int .i64 x.n, .string x.s, .string x.t, .slice q k.len c], .bool false]) (by simp [results, Tryz.results96, go_sem, t0, t1, t2, t3, t4]) rfl ⟨⟨_, S, rfl, HX.out, hKV (HV.out.up hE_5.bel) hoff, fun a ha => .inl ha⟩, hbV⟩
set_option maxHeartbeats 1000000 in
/-- It has a value. -/
theorem known_ok (he : ErrVar w) (hN : N64 (x :: k.flat)) (hz : vfault (x :: k.flat) ≠ 0) (hh : hangA k = false) {a : List Nd} (hR : valueL [] rqA (x :: k.flat) = .ok a) {x' : Nd} {k' : Fo} (ha : a = x' :: k'.flat) (ht : okT none (.cons x' k' .nil)) (hal : a.length ≤ 200) : Calls Tryz.prog 96 #[partV x v] w fun en w' => BRet (some (x', k')) x k S w en w' := by
  obtain ⟨W, hW⟩ : ∃ W, W = (w.alloc (.cells #[.int .i64 x.op, .int .i64 x.n, .string x.s, .string x.t, v] 63)).alloc (.cells #[.int .i64 0, .int .i64 0, .string ⟨#[]⟩, .string ⟨#[]⟩, .slice none 0 0] 63) := ⟨_, rfl⟩
  have hE_0 : En2 w W x v := by rw [hW]; exact En2.new w x v
  have HO := onto_new x k w v S hv hB hx hl hE_0
  have HV : Hid (KV w k v S) := hv
  have HH := fun w1 h1 h2 => hasHang_any k v S w1 h1 h2 (by omega)
  rw [hh] at HH
  have HE : Hid (ErrVar w) := he
  obtain ⟨q, c, rfl, _⟩ := hv.slice
  have hLm : (x :: k.flat).length ≤ maxLen := by unfold maxLen; simp; omega
  have HFI := first_any (k'.flat.length + 1) x' k' (Nat.lt_succ_self _)
  have HAR : Hid (cntP x' = (k'.len : Int) ∧ arP k') := ⟨ht.arp.1, ht.arp.2.1⟩
  have HA : Hid (a = x' :: k'.flat) := ha
  clear hv hx hl hh he ha ht
  generalize x :: k.flat = L at *
  unfold partV at *
  obtain ⟨c0, c1, c2, c3, c4⟩ := hE_0.box.cells
  go_enter Tryz.func96, Tryz.ntmps96
  go_wp2_with fail
  rw [← hW]
  refine HO.mono ?_
  rintro _ w1 ⟨⟨g, cap, rfl, h5, h3, h4⟩, hb1⟩
  have hE_1 := hE_0.up hb1
  have HC := vcheck_any L (some ⟨g, 0, none⟩) cap w1 h5 h3 h4
  rw [eV_not hz] at HC
  generalize vfault L = n at *
  clear c0 c1 c2 c3 c4 hE_0 HO hW
  obtain ⟨c0, c1, c2, c3, c4⟩ := hE_1.box.cells
  go_wp2_with fail
  refine HC.mono ?_
  rintro _ w2 ⟨rfl, hb2⟩
  have hE_2 := hE_1.up hb2
  have h5_2 := h5.up hb2
  clear c0 c1 c2 c3 c4 hE_1 HC h5
  obtain ⟨c0, c1, c2, c3, c4⟩ := hE_2.box.cells
  go_wp2_with fail
  refine (HH _ (HV.out.up hE_2.bel) (fun a ha => Nat.lt_of_lt_of_le (hB a ha) hE_2.bel.size)).mono ?_
  rintro _ w3 ⟨rfl, hb3⟩
  have hE_3 := hE_2.up hb3
  have h5_3 := h5_2.up hb3
  clear c0 c1 c2 c3 c4 hE_2 HH h5_2
  obtain ⟨c0, c1, c2, c3, c4⟩ := hE_3.box.cells
  go_wp2_with fail
  refine (anyReq_fn _).mono ?_
  rintro _ w4 ⟨⟨pq, rfl, hq⟩, hb4⟩
  have hE_4 := hE_3.up hb4
  have h5_4 := h5_3.up hb4
  have hA : EvArg w4 [] none rqA pq 1 := ⟨.inl rfl, hq, errVar_below HE.out hE_4.bel (Nat.le_refl _), envA.esN, envA.cxN⟩
  have HU := evalue_any [] none 0 rqA pq 1 L (some ⟨g, 0, none⟩) cap w4 hA h5_4 hLm hN
  rw [hR] at HU
  clear c0 c1 c2 c3 c4 hE_3 h5_3 hq hA hR
  obtain ⟨c0, c1, c2, c3, c4⟩ := hE_4.box.cells
  unfold reqV at *
  go_wp2_with fail
  refine HU.mono ?_
  rintro _ w5 ⟨⟨q5, c5, rfl, hv5⟩, hb5⟩
  have hE_5 := hE_4.up hb5
  have hna := hv5.nl
  have hnb : NL w5 q5 (x' :: (k'.flat ++ [])) := by rw [List.append_nil, ← HA.out]; exact hna
  have HX' : Hid x'.wf := hnb.wfs x' (by simp)
  have hlen : a.length = k'.flat.length + ([] : List Nd).length + 1 := by rw [HA.out]; simp
  have HF := HFI w5 w5 [] a.length q5 c5 (Below.refl _ _) hnb hlen hv5.le hv5.cm HAR.out.1 HAR.out.2 (by omega)
  unfold partV at HF
  clear c0 c1 c2 c3 c4 hE_4 hna hnb HFI hlen
  obtain ⟨c0, c1, c2, c3, c4⟩ := hE_5.box.cells
  go_wp2_with fail
  refine HF.mono ?_
  rintro _ w6 ⟨⟨u, q6, c6, rfl, hu, _⟩, hb6⟩
  have hE_6 := hE_5.up hb6
  obtain ⟨qu, cu, rfl, _⟩ := hu.slice
  have hs56 : w.heap.size + 1 < w5.heap.size := hE_5.res.lt
  clear c0 c1 c2 c3 c4 hE_5
  obtain ⟨c0, c1, c2, c3, c4⟩ := hE_6.box.cells
  obtain ⟨r0, r1, r2, r3, r4⟩ := hE_6.res.cells
  have fr := hE_6.res.free
  have hne1 : ¬ w.heap.size + 1 = w6.heap.size := by have := hb6.size; omega
  have hne2 : ¬ w6.heap.size = w.heap.size + 1 := by have := hb6.size; omega
  have hlt1 : w.heap.size + 1 < w6.heap.size := hE_6.res.lt
  go_wp2
  obtain ⟨V, hV⟩ : ∃ V, V = ((((w6.setCell ⟨w.heap.size + 1, 0, none⟩ (.int .i64 x'.op)).setCell ⟨w.heap.size + 1, 1, none⟩ (.int .i64 x'.n)).setCell ⟨w.heap.size + 1, 2, none⟩ (.string x'.s)).setCell ⟨w.heap.size + 1, 3, none⟩ (.string x'.t)).setCell ⟨w.heap.size + 1, 4, none⟩ (.slice qu k'.len cu) := ⟨_, rfl⟩
  rw [← hV]
  obtain ⟨hP, hbV, hKV⟩ := hE_6.tell hV
  have hb8 : Below V.heap.size V (V.alloc (.cells #[.int .i64 x'.op, .int .i64 x'.n, .string x'.s, .string x'.t, .slice qu k'.len cu] 63)) := (Below.refl _ _).alloc (Nat.le_refl _) _
  obtain ⟨t0, t1, t2, t3, t4⟩ := (hP.up hb8).cells
  exact bodyPost_ret (v := .tuple #[.agg #[.int .i64 x'.op, .int .i64 x'.n, .string x'.s, .string x'.t, .slice qu k'.len cu], .bool true]) (by simp [results, Tryz.results96, go_sem, t0, t1, t2, t3, t4]) rfl ⟨⟨_, _, rfl, HX'.out, (hKV hu (fun e => by omega)).up hb8, fun a ha => .inr (by omega)⟩, hbV.trans (hb8.mono hbV.size)⟩
theorem known_any (he : ErrVar w) (hN : N64 (x :: k.flat)) : Calls Tryz.prog 96 #[partV x v] w fun en w' => BRet (knownT x k) x k S w en w' := by
  unfold knownT
  by_cases hz : vfault (x :: k.flat) = 0
  · rw [if_pos (.inl hz)]
    exact known_val x k w v S hv hB hx hl hz
  · by_cases hh : hangA k = true
    · rw [if_pos (.inr ((hangA_iff k).1 hh))]
      exact known_hang x k w v S hv hB hx hl hz hh
    · rw [if_neg (fun e => e.elim hz (fun e => hh ((hangA_iff k).2 e)))]
      have hf : hangA k = false := by simpa using hh
      cases hR : valueL [] rqA (x :: k.flat) with
      | error nz => exact known_err x k w v S hv hB hx hl he hN hz hf hR
      | ok a =>
        obtain ⟨_, _, hxf, hev⟩ := valueL_ok hR
        have hiv : IsV a := ev_is envA _ _ _ a (xfault_zero hxf).2 hN hev
        obtain ⟨t1, t2⟩ := treeOf_spec (value_ex hiv.val)
        exact known_ok x k w v S hv hB hx hl he hN hz hf hR t2 t1 hiv.len
end
end Go.Proofs.YtnilaghbbhmkgaaGreatDoor
namespace Go.Proofs.YtnilaghbbhmkgaaGreatDoor
open Go.RowKit
set_option linter.unusedVariables false
set_option maxRecDepth 100000

theorem fbA {a b : World} (h : Below a.heap.size a b) {o : Obj} : Below a.heap.size a (b.alloc o) := h.trans (((Below.refl _ _).alloc (Nat.le_refl _) o).mono h.size)
theorem fbD {a b : World} (h : Below a.heap.size a b) : Below a.heap.size a b.drew := ⟨h.os, h.tape, h.output, h.size, h.block⟩
/-- Two parts and a node, laid one behind the other. -/
theorem lay_three (W : World) (a b : Nd) (ua ub : Value) (n0 n1 n2 n3 : Value) : PB ((((W.alloc (.cells #[.int .i64 a.op, .int .i64 a.n, .string a.s, .string a.t, ua] 63)).alloc (.cells #[.int .i64 b.op, .int .i64 b.n, .string b.s, .string b.t, ub] 63)).alloc (.cells #[n0, n1, n2, n3] 41)).drew) W.heap.size a ua ∧
    PB ((((W.alloc (.cells #[.int .i64 a.op, .int .i64 a.n, .string a.s, .string a.t, ua] 63)).alloc (.cells #[.int .i64 b.op, .int .i64 b.n, .string b.s, .string b.t, ub] 63)).alloc (.cells #[n0, n1, n2, n3] 41)).drew) (W.heap.size + 1) b ub ∧
    ((((W.alloc (.cells #[.int .i64 a.op, .int .i64 a.n, .string a.s, .string a.t, ua] 63)).alloc (.cells #[.int .i64 b.op, .int .i64 b.n, .string b.s, .string b.t, ub] 63)).alloc (.cells #[n0, n1, n2, n3] 41)).drew).heap[W.heap.size + 1 + 1]? = some (.cells #[n0, n1, n2, n3] 41 (0, 0)) := by
  refine ⟨?_, ?_, ?_⟩
  · exact ((PB.new W a ua rfl).up (fbA (Below.refl _ _))).up (fbD (fbA (Below.refl _ _)))
  · exact (PB.new _ b ub (by simp)).up (fbD (fbA (Below.refl _ _)))
  · exact fnew_at (by simp)
/-- A node in a block. -/
structure NBk (w : World) (B : Nat) (n0 n1 n2 n3 : Value) : Prop where
  blk : w.heap[B]? = some (.cells #[n0, n1, n2, n3] 41 (0, 0))
theorem NBk.cells {w : World} {B : Nat} {n0 n1 n2 n3 : Value} (h : NBk w B n0 n1 n2 n3) : w.cell? ⟨B, 0, none⟩ = some n0 ∧ w.cell? ⟨B, 1, none⟩ = some n1 ∧ w.cell? ⟨B, 2, none⟩ = some n2 ∧ w.cell? ⟨B, 3, none⟩ = some n3 := by
  have := h.blk
  simp [World.cell?, this]
theorem NBk.up {w w' : World} {B : Nat} {n0 n1 n2 n3 : Value} (h : NBk w B n0 n1 n2 n3) (hb : Below w.heap.size w w') : NBk w' B n0 n1 n2 n3 := ⟨(hb.block B (Array.getElem?_eq_some_iff.1 h.blk).1).trans h.blk⟩
section
variable (x : Nd) (w : World) (v : Value) (S : Nat → Prop)
/-- The rows of two parts. -/
theorem KV.two {w : World} {a b : Nd} {ka kb : Fo} {v : Value} {S : Nat → Prop} (h : KV w (.cons a ka (.cons b kb .nil)) v S) : ∃ g cap ua ub Sa Sb, v = .slice (some ⟨g, 0, none⟩) 2 cap ∧ PC w g 0 a ua ∧ PC w g 5 b ub ∧ a.wf ∧ b.wf ∧ KV w ka ua Sa ∧ KV w kb ub Sb ∧ (∀ c, Sa c → S c) ∧ (∀ c, Sb c → S c) := by
  obtain ⟨g, cap, ua, Sa, hv, h1, h2, h3, h4, _⟩ := KV.at (a := .nil) h
  obtain ⟨g', cap', ub, Sb, hv', h5, h6, h7, h8, _⟩ := KV.at (a := .cons a ka .nil) h
  rw [hv] at hv'
  cases hv'
  refine ⟨g, cap, ua, ub, Sa, Sb, hv, ?_, ?_, h2, h6, h3, h7, fun c hc => (h4 c hc).1, fun c hc => (h8 c hc).1⟩
  · simpa [Fo.len] using h1
  · simpa [Fo.len] using h5
set_option maxHeartbeats 4000000 in
theorem joined_one (i : Int) (a b : Nd) (ka kb : Fo) (hv : KV w (.cons a ka (.cons b kb .nil)) v S) (hB : Bd w S) (hx : x.wf) (an : Int) (ha : a = ⟨1, an, ⟨#[]⟩, ⟨#[]⟩⟩) (hn : (an == i) = false) :
    Calls Tryz.prog 93 #[partV x v, .int .i64 i] w fun en w' => BRet (some (a, ka)) x (.cons a ka (.cons b kb .nil)) S w en w' := by
  subst ha
  obtain ⟨g, cap, ua, ub, Sa, Sb, rfl, hPa, hPb, haw, hbw, hva, hvb, hSa, hSb⟩ := hv.two
  obtain ⟨W, hW⟩ : ∃ W, W = (w.alloc (.cells #[.int .i64 x.op, .int .i64 x.n, .string x.s, .string x.t, .slice (some ⟨g, 0, none⟩) 2 cap] 63)).alloc (.cells #[.int .i64 0, .int .i64 0, .string ⟨#[]⟩, .string ⟨#[]⟩, .slice none 0 0] 63) := ⟨_, rfl⟩
  have hE_0 : En2 w W x (.slice (some ⟨g, 0, none⟩) 2 cap) := by rw [hW]; exact En2.new w x _
  have hPaW := hPa.up hE_0.bel
  have hPbW := hPb.up hE_0.bel
  obtain ⟨qa, ca, rfl, _⟩ := hva.slice
  obtain ⟨qb, cb, rfl, _⟩ := hvb.slice
  have hgl := hPaW.lt
  have hlw := hE_0.res.lt
  have hlb : w.heap.size < W.heap.size := hE_0.box.lt
  have n1 : ¬ w.heap.size = W.heap.size := by omega
  have n2 : ¬ w.heap.size = W.heap.size + 1 := by omega
  have n3 : ¬ g = W.heap.size := by omega
  have n4 : ¬ g = W.heap.size + 1 := by omega
  have n5 : ¬ w.heap.size + 1 = W.heap.size := by omega
  have n6 : ¬ w.heap.size + 1 = W.heap.size + 1 := by omega
  have n7 : ¬ w.heap.size + 1 = W.heap.size + 1 + 1 := by omega
  have n8 : ¬ w.heap.size = W.heap.size + 1 + 1 := by omega
  have HV : Hid (KV w (.cons ⟨1, an, ⟨#[]⟩, ⟨#[]⟩⟩ ka (.cons b kb .nil)) (.slice (some ⟨g, 0, none⟩) 2 cap) S) := hv
  have hoff := hB.off (n := w.heap.size + 1) (by omega)
  clear hv
  obtain ⟨c0, c1, c2, c3, c4⟩ := hE_0.box.cells
  obtain ⟨a0, a1, a2, a3, a4⟩ := hPaW.cells
  obtain ⟨b0, b1, b2, b3, b4⟩ := hPbW.cells
  obtain ⟨r0, r1, r2, r3, r4⟩ := hE_0.res.cells
  have fr := hE_0.res.free
  have hbY : ∀ o1 o2 o3, Below W.heap.size W (((W.alloc o1).alloc o2).alloc o3) := fun o1 o2 o3 => fbA (fbA (fbA (Below.refl _ _)))
  have s0 := fun o1 o2 o3 => (hE_0.box.up (hbY o1 o2 o3)).cells.1
  have s1 := fun o1 o2 o3 => (hE_0.box.up (hbY o1 o2 o3)).cells.2.1
  have s2 := fun o1 o2 o3 => (hE_0.box.up (hbY o1 o2 o3)).cells.2.2.1
  have s3 := fun o1 o2 o3 => (hE_0.box.up (hbY o1 o2 o3)).cells.2.2.2.1
  have s4 := fun o1 o2 o3 => (hE_0.box.up (hbY o1 o2 o3)).cells.2.2.2.2
  have z0 := fun o1 o2 o3 => (hE_0.box.up (fbD (hbY o1 o2 o3))).cells.1
  have z1 := fun o1 o2 o3 => (hE_0.box.up (fbD (hbY o1 o2 o3))).cells.2.1
  have z2 := fun o1 o2 o3 => (hE_0.box.up (fbD (hbY o1 o2 o3))).cells.2.2.1
  have z3 := fun o1 o2 o3 => (hE_0.box.up (fbD (hbY o1 o2 o3))).cells.2.2.2.1
  have z4 := fun o1 o2 o3 => (hE_0.box.up (fbD (hbY o1 o2 o3))).cells.2.2.2.2
  unfold partV at *
  dsimp only [Nat.zero_add, Nat.reduceAdd] at a0 a1 a2 a3 a4 b0 b1 b2 b3 b4
  go_enter Tryz.func93, Tryz.ntmps93
  go_wp2_with fail
  rw [← hW]
  clear hW
  go_region
  all_goals
    go_wp2
    obtain ⟨V, hV⟩ : ∃ V, V = ((((W.setCell ⟨w.heap.size + 1, 0, none⟩ (.int .i64 1)).setCell ⟨w.heap.size + 1, 1, none⟩ (.int .i64 an)).setCell ⟨w.heap.size + 1, 2, none⟩ (.string ⟨#[]⟩)).setCell ⟨w.heap.size + 1, 3, none⟩ (.string ⟨#[]⟩)).setCell ⟨w.heap.size + 1, 4, none⟩ (.slice qa ka.len ca) := ⟨_, rfl⟩
    rw [← hV]
    obtain ⟨hP, hbV, hKV⟩ := hE_0.tell (y := ⟨1, an, ⟨#[]⟩, ⟨#[]⟩⟩) hV
    have hbF : ∀ o1 o2 o3, Below V.heap.size V ((((V.alloc o1).alloc o2).alloc o3).drew) := fun o1 o2 o3 => fbD (fbA (fbA (fbA (Below.refl _ _))))
    have t0 := fun o1 o2 o3 => (hP.up (hbF o1 o2 o3)).cells.1
    have t1 := fun o1 o2 o3 => (hP.up (hbF o1 o2 o3)).cells.2.1
    have t2 := fun o1 o2 o3 => (hP.up (hbF o1 o2 o3)).cells.2.2.1
    have t3 := fun o1 o2 o3 => (hP.up (hbF o1 o2 o3)).cells.2.2.2.1
    have t4 := fun o1 o2 o3 => (hP.up (hbF o1 o2 o3)).cells.2.2.2.2
    exact bodyPost_ret (v := .tuple #[.agg #[.int .i64 1, .int .i64 an, .string ⟨#[]⟩, .string ⟨#[]⟩, .slice qa ka.len ca], .bool true]) (by simp [results, Tryz.results93, go_sem, t0, t1, t2, t3, t4]) rfl ⟨⟨_, Sa, rfl, haw, (hKV (hva.up hE_0.bel) (fun e => hoff (hSa _ e))).up (hbF _ _ _), fun c hc => .inl (hSa c hc)⟩, hbV.trans ((hbF _ _ _).mono hbV.size)⟩
set_option maxHeartbeats 4000000 in
theorem joined_two (i : Int) (a b : Nd) (ka kb : Fo) (hv : KV w (.cons a ka (.cons b kb .nil)) v S) (hB : Bd w S) (hx : x.wf) (ha : a = ⟨1, i, ⟨#[]⟩, ⟨#[]⟩⟩) (ht : truthB b = true) :
    Calls Tryz.prog 93 #[partV x v, .int .i64 i] w fun en w' => BRet (some (b, kb)) x (.cons a ka (.cons b kb .nil)) S w en w' := by
  have HT := fun w1 v1 => ofTruth_any b v1 w1
  rw [ht] at HT
  unfold partV at HT
  subst ha
  obtain ⟨g, cap, ua, ub, Sa, Sb, rfl, hPa, hPb, haw, hbw, hva, hvb, hSa, hSb⟩ := hv.two
  obtain ⟨W, hW⟩ : ∃ W, W = (w.alloc (.cells #[.int .i64 x.op, .int .i64 x.n, .string x.s, .string x.t, .slice (some ⟨g, 0, none⟩) 2 cap] 63)).alloc (.cells #[.int .i64 0, .int .i64 0, .string ⟨#[]⟩, .string ⟨#[]⟩, .slice none 0 0] 63) := ⟨_, rfl⟩
  have hE_0 : En2 w W x (.slice (some ⟨g, 0, none⟩) 2 cap) := by rw [hW]; exact En2.new w x _
  have hPaW := hPa.up hE_0.bel
  have hPbW := hPb.up hE_0.bel
  obtain ⟨qa, ca, rfl, _⟩ := hva.slice
  obtain ⟨qb, cb, rfl, _⟩ := hvb.slice
  have hgl := hPaW.lt
  have hlw := hE_0.res.lt
  have hlb : w.heap.size < W.heap.size := hE_0.box.lt
  have n1 : ¬ w.heap.size = W.heap.size := by omega
  have n2 : ¬ w.heap.size = W.heap.size + 1 := by omega
  have n3 : ¬ g = W.heap.size := by omega
  have n4 : ¬ g = W.heap.size + 1 := by omega
  have n5 : ¬ w.heap.size + 1 = W.heap.size := by omega
  have n6 : ¬ w.heap.size + 1 = W.heap.size + 1 := by omega
  have n7 : ¬ w.heap.size + 1 = W.heap.size + 1 + 1 := by omega
  have n8 : ¬ w.heap.size = W.heap.size + 1 + 1 := by omega
  have HV : Hid (KV w (.cons ⟨1, i, ⟨#[]⟩, ⟨#[]⟩⟩ ka (.cons b kb .nil)) (.slice (some ⟨g, 0, none⟩) 2 cap) S) := hv
  have hoff := hB.off (n := w.heap.size + 1) (by omega)
  clear hv
  obtain ⟨c0, c1, c2, c3, c4⟩ := hE_0.box.cells
  obtain ⟨a0, a1, a2, a3, a4⟩ := hPaW.cells
  obtain ⟨b0, b1, b2, b3, b4⟩ := hPbW.cells
  obtain ⟨r0, r1, r2, r3, r4⟩ := hE_0.res.cells
  have fr := hE_0.res.free
  have hbY : ∀ o1 o2 o3, Below W.heap.size W (((W.alloc o1).alloc o2).alloc o3) := fun o1 o2 o3 => fbA (fbA (fbA (Below.refl _ _)))
  have s0 := fun o1 o2 o3 => (hE_0.box.up (hbY o1 o2 o3)).cells.1
  have s1 := fun o1 o2 o3 => (hE_0.box.up (hbY o1 o2 o3)).cells.2.1
  have s2 := fun o1 o2 o3 => (hE_0.box.up (hbY o1 o2 o3)).cells.2.2.1
  have s3 := fun o1 o2 o3 => (hE_0.box.up (hbY o1 o2 o3)).cells.2.2.2.1
  have s4 := fun o1 o2 o3 => (hE_0.box.up (hbY o1 o2 o3)).cells.2.2.2.2
  have z0 := fun o1 o2 o3 => (hE_0.box.up (fbD (hbY o1 o2 o3))).cells.1
  have z1 := fun o1 o2 o3 => (hE_0.box.up (fbD (hbY o1 o2 o3))).cells.2.1
  have z2 := fun o1 o2 o3 => (hE_0.box.up (fbD (hbY o1 o2 o3))).cells.2.2.1
  have z3 := fun o1 o2 o3 => (hE_0.box.up (fbD (hbY o1 o2 o3))).cells.2.2.2.1
  have z4 := fun o1 o2 o3 => (hE_0.box.up (fbD (hbY o1 o2 o3))).cells.2.2.2.2
  unfold partV at *
  dsimp only [Nat.zero_add, Nat.reduceAdd] at a0 a1 a2 a3 a4 b0 b1 b2 b3 b4
  go_enter Tryz.func93, Tryz.ntmps93
  go_wp2_with fail
  rw [← hW]
  clear hW
  go_region
  · go_wp2_with fail
    refine (HT _ _).mono ?_
    rintro _ w1 ⟨rfl, hbb⟩
    have hbZ : Below W.heap.size W w1 := (fbD (fbA (fbA (fbA (Below.refl _ _))))).trans (hbb.mono (fbD (fbA (fbA (fbA (Below.refl _ _))))).size)
    have hE_1 := hE_0.up hbZ
    obtain ⟨hA_1, hB_1, hN_1⟩ : PB w1 W.heap.size ⟨1, i, ⟨#[]⟩, ⟨#[]⟩⟩ (.slice qa ka.len ca) ∧ PB w1 (W.heap.size + 1) b (.slice qb kb.len cb) ∧ NBk w1 (W.heap.size + 1 + 1) (.int .i64 1) (.int .i64 i) (.string ⟨#[]⟩) (.string ⟨#[]⟩) := ⟨(lay_three W ⟨1, i, ⟨#[]⟩, ⟨#[]⟩⟩ b _ _ _ _ _ _).1.up hbb, (lay_three W ⟨1, i, ⟨#[]⟩, ⟨#[]⟩⟩ b _ _ _ _ _ _).2.1.up hbb, NBk.up ⟨(lay_three W ⟨1, i, ⟨#[]⟩, ⟨#[]⟩⟩ b _ _ _ _ _ _).2.2⟩ hbb⟩
    clear c0 c1 c2 c3 c4 a0 a1 a2 a3 a4 b0 b1 b2 b3 b4 r0 r1 r2 r3 r4 fr hE_0 hbb s0 s1 s2 s3 s4 z0 z1 z2 z3 z4 hbY
    obtain ⟨c0, c1, c2, c3, c4⟩ := hE_1.box.cells
    obtain ⟨a0, a1, a2, a3, a4⟩ := hA_1.cells
    obtain ⟨b0, b1, b2, b3, b4⟩ := hB_1.cells
    obtain ⟨m0, m1, m2, m3⟩ := hN_1.cells
    obtain ⟨r0, r1, r2, r3, r4⟩ := hE_1.res.cells
    have fr := hE_1.res.free
    dsimp only at a0 a1 a2 a3
    go_wp2
    obtain ⟨V, hV⟩ : ∃ V, V = ((((w1.setCell ⟨w.heap.size + 1, 0, none⟩ (.int .i64 b.op)).setCell ⟨w.heap.size + 1, 1, none⟩ (.int .i64 b.n)).setCell ⟨w.heap.size + 1, 2, none⟩ (.string b.s)).setCell ⟨w.heap.size + 1, 3, none⟩ (.string b.t)).setCell ⟨w.heap.size + 1, 4, none⟩ (.slice qb kb.len cb) := ⟨_, rfl⟩
    rw [← hV]
    obtain ⟨hP, hbV, hKV⟩ := hE_1.tell (y := ⟨b.op, b.n, b.s, b.t⟩) hV
    obtain ⟨t0, t1, t2, t3, t4⟩ := hP.cells
    exact bodyPost_ret (v := .tuple #[.agg #[.int .i64 b.op, .int .i64 b.n, .string b.s, .string b.t, .slice qb kb.len cb], .bool true]) (by simp [results, Tryz.results93, go_sem, t0, t1, t2, t3, t4]) rfl ⟨⟨_, Sb, rfl, hbw, hKV (hvb.up hE_1.bel) (fun e => hoff (hSb _ e)), fun c hc => .inl (hSb c hc)⟩, hbV⟩
  · go_wp2_with fail
    refine (HT _ _).mono ?_
    rintro _ w1 ⟨rfl, hbb⟩
    have hbZ : Below W.heap.size W w1 := (fbD (fbA (fbA (fbA (Below.refl _ _))))).trans (hbb.mono (fbD (fbA (fbA (fbA (Below.refl _ _))))).size)
    have hE_1 := hE_0.up hbZ
    obtain ⟨hA_1, hB_1, hN_1⟩ : PB w1 (W.heap.size + 1) ⟨1, i, ⟨#[]⟩, ⟨#[]⟩⟩ (.slice qa ka.len ca) ∧ PB w1 W.heap.size b (.slice qb kb.len cb) ∧ NBk w1 (W.heap.size + 1 + 1) (.int .i64 1) (.int .i64 i) (.string ⟨#[]⟩) (.string ⟨#[]⟩) := ⟨(lay_three W b ⟨1, i, ⟨#[]⟩, ⟨#[]⟩⟩ _ _ _ _ _ _).2.1.up hbb, (lay_three W b ⟨1, i, ⟨#[]⟩, ⟨#[]⟩⟩ _ _ _ _ _ _).1.up hbb, NBk.up ⟨(lay_three W b ⟨1, i, ⟨#[]⟩, ⟨#[]⟩⟩ _ _ _ _ _ _).2.2⟩ hbb⟩
    clear c0 c1 c2 c3 c4 a0 a1 a2 a3 a4 b0 b1 b2 b3 b4 r0 r1 r2 r3 r4 fr hE_0 hbb s0 s1 s2 s3 s4 z0 z1 z2 z3 z4 hbY
    obtain ⟨c0, c1, c2, c3, c4⟩ := hE_1.box.cells
    obtain ⟨a0, a1, a2, a3, a4⟩ := hA_1.cells
    obtain ⟨b0, b1, b2, b3, b4⟩ := hB_1.cells
    obtain ⟨m0, m1, m2, m3⟩ := hN_1.cells
    obtain ⟨r0, r1, r2, r3, r4⟩ := hE_1.res.cells
    have fr := hE_1.res.free
    dsimp only at a0 a1 a2 a3
    go_wp2
    obtain ⟨V, hV⟩ : ∃ V, V = ((((w1.setCell ⟨w.heap.size + 1, 0, none⟩ (.int .i64 b.op)).setCell ⟨w.heap.size + 1, 1, none⟩ (.int .i64 b.n)).setCell ⟨w.heap.size + 1, 2, none⟩ (.string b.s)).setCell ⟨w.heap.size + 1, 3, none⟩ (.string b.t)).setCell ⟨w.heap.size + 1, 4, none⟩ (.slice qb kb.len cb) := ⟨_, rfl⟩
    rw [← hV]
    obtain ⟨hP, hbV, hKV⟩ := hE_1.tell (y := ⟨b.op, b.n, b.s, b.t⟩) hV
    obtain ⟨t0, t1, t2, t3, t4⟩ := hP.cells
    exact bodyPost_ret (v := .tuple #[.agg #[.int .i64 b.op, .int .i64 b.n, .string b.s, .string b.t, .slice qb kb.len cb], .bool true]) (by simp [results, Tryz.results93, go_sem, t0, t1, t2, t3, t4]) rfl ⟨⟨_, Sb, rfl, hbw, hKV (hvb.up hE_1.bel) (fun e => hoff (hSb _ e)), fun c hc => .inl (hSb c hc)⟩, hbV⟩
set_option maxHeartbeats 4000000 in
theorem joined_three (i : Int) (a b : Nd) (ka kb : Fo) (hv : KV w (.cons a ka (.cons b kb .nil)) v S) (hB : Bd w S) (hx : x.wf) (ha : a = ⟨1, i, ⟨#[]⟩, ⟨#[]⟩⟩) (ht : truthB b = false) (hb1 : (b.op == 1) = false) :
    Calls Tryz.prog 93 #[partV x v, .int .i64 i] w fun en w' => BRet (none) x (.cons a ka (.cons b kb .nil)) S w en w' := by
  have HT := fun w1 v1 => ofTruth_any b v1 w1
  rw [ht] at HT
  unfold partV at HT
  subst ha
  obtain ⟨g, cap, ua, ub, Sa, Sb, rfl, hPa, hPb, haw, hbw, hva, hvb, hSa, hSb⟩ := hv.two
  obtain ⟨W, hW⟩ : ∃ W, W = (w.alloc (.cells #[.int .i64 x.op, .int .i64 x.n, .string x.s, .string x.t, .slice (some ⟨g, 0, none⟩) 2 cap] 63)).alloc (.cells #[.int .i64 0, .int .i64 0, .string ⟨#[]⟩, .string ⟨#[]⟩, .slice none 0 0] 63) := ⟨_, rfl⟩
  have hE_0 : En2 w W x (.slice (some ⟨g, 0, none⟩) 2 cap) := by rw [hW]; exact En2.new w x _
  have hPaW := hPa.up hE_0.bel
  have hPbW := hPb.up hE_0.bel
  obtain ⟨qa, ca, rfl, _⟩ := hva.slice
  obtain ⟨qb, cb, rfl, _⟩ := hvb.slice
  have hgl := hPaW.lt
  have hlw := hE_0.res.lt
  have hlb : w.heap.size < W.heap.size := hE_0.box.lt
  have n1 : ¬ w.heap.size = W.heap.size := by omega
  have n2 : ¬ w.heap.size = W.heap.size + 1 := by omega
  have n3 : ¬ g = W.heap.size := by omega
  have n4 : ¬ g = W.heap.size + 1 := by omega
  have n5 : ¬ w.heap.size + 1 = W.heap.size := by omega
  have n6 : ¬ w.heap.size + 1 = W.heap.size + 1 := by omega
  have n7 : ¬ w.heap.size + 1 = W.heap.size + 1 + 1 := by omega
  have n8 : ¬ w.heap.size = W.heap.size + 1 + 1 := by omega
  have HV : Hid (KV w (.cons ⟨1, i, ⟨#[]⟩, ⟨#[]⟩⟩ ka (.cons b kb .nil)) (.slice (some ⟨g, 0, none⟩) 2 cap) S) := hv
  have hoff := hB.off (n := w.heap.size + 1) (by omega)
  clear hv
  obtain ⟨c0, c1, c2, c3, c4⟩ := hE_0.box.cells
  obtain ⟨a0, a1, a2, a3, a4⟩ := hPaW.cells
  obtain ⟨b0, b1, b2, b3, b4⟩ := hPbW.cells
  obtain ⟨r0, r1, r2, r3, r4⟩ := hE_0.res.cells
  have fr := hE_0.res.free
  have hbY : ∀ o1 o2 o3, Below W.heap.size W (((W.alloc o1).alloc o2).alloc o3) := fun o1 o2 o3 => fbA (fbA (fbA (Below.refl _ _)))
  have s0 := fun o1 o2 o3 => (hE_0.box.up (hbY o1 o2 o3)).cells.1
  have s1 := fun o1 o2 o3 => (hE_0.box.up (hbY o1 o2 o3)).cells.2.1
  have s2 := fun o1 o2 o3 => (hE_0.box.up (hbY o1 o2 o3)).cells.2.2.1
  have s3 := fun o1 o2 o3 => (hE_0.box.up (hbY o1 o2 o3)).cells.2.2.2.1
  have s4 := fun o1 o2 o3 => (hE_0.box.up (hbY o1 o2 o3)).cells.2.2.2.2
  have z0 := fun o1 o2 o3 => (hE_0.box.up (fbD (hbY o1 o2 o3))).cells.1
  have z1 := fun o1 o2 o3 => (hE_0.box.up (fbD (hbY o1 o2 o3))).cells.2.1
  have z2 := fun o1 o2 o3 => (hE_0.box.up (fbD (hbY o1 o2 o3))).cells.2.2.1
  have z3 := fun o1 o2 o3 => (hE_0.box.up (fbD (hbY o1 o2 o3))).cells.2.2.2.1
  have z4 := fun o1 o2 o3 => (hE_0.box.up (fbD (hbY o1 o2 o3))).cells.2.2.2.2
  unfold partV at *
  dsimp only [Nat.zero_add, Nat.reduceAdd] at a0 a1 a2 a3 a4 b0 b1 b2 b3 b4
  go_enter Tryz.func93, Tryz.ntmps93
  go_wp2_with fail
  rw [← hW]
  clear hW
  go_region
  · go_wp2_with fail
    refine (HT _ _).mono ?_
    rintro _ w1 ⟨rfl, hbb⟩
    have hbZ : Below W.heap.size W w1 := (fbD (fbA (fbA (fbA (Below.refl _ _))))).trans (hbb.mono (fbD (fbA (fbA (fbA (Below.refl _ _))))).size)
    have hE_1 := hE_0.up hbZ
    obtain ⟨hA_1, hB_1, hN_1⟩ : PB w1 W.heap.size ⟨1, i, ⟨#[]⟩, ⟨#[]⟩⟩ (.slice qa ka.len ca) ∧ PB w1 (W.heap.size + 1) b (.slice qb kb.len cb) ∧ NBk w1 (W.heap.size + 1 + 1) (.int .i64 1) (.int .i64 i) (.string ⟨#[]⟩) (.string ⟨#[]⟩) := ⟨(lay_three W ⟨1, i, ⟨#[]⟩, ⟨#[]⟩⟩ b _ _ _ _ _ _).1.up hbb, (lay_three W ⟨1, i, ⟨#[]⟩, ⟨#[]⟩⟩ b _ _ _ _ _ _).2.1.up hbb, NBk.up ⟨(lay_three W ⟨1, i, ⟨#[]⟩, ⟨#[]⟩⟩ b _ _ _ _ _ _).2.2⟩ hbb⟩
    clear c0 c1 c2 c3 c4 a0 a1 a2 a3 a4 b0 b1 b2 b3 b4 r0 r1 r2 r3 r4 fr hE_0 hbb s0 s1 s2 s3 s4 z0 z1 z2 z3 z4 hbY
    obtain ⟨c0, c1, c2, c3, c4⟩ := hE_1.box.cells
    obtain ⟨a0, a1, a2, a3, a4⟩ := hA_1.cells
    obtain ⟨b0, b1, b2, b3, b4⟩ := hB_1.cells
    obtain ⟨m0, m1, m2, m3⟩ := hN_1.cells
    obtain ⟨r0, r1, r2, r3, r4⟩ := hE_1.res.cells
    have fr := hE_1.res.free
    dsimp only at a0 a1 a2 a3
    go_wp2
    obtain ⟨V, hV⟩ : ∃ V, V = ((((w1.setCell ⟨w.heap.size + 1, 0, none⟩ (.int .i64 x.op)).setCell ⟨w.heap.size + 1, 1, none⟩ (.int .i64 x.n)).setCell ⟨w.heap.size + 1, 2, none⟩ (.string x.s)).setCell ⟨w.heap.size + 1, 3, none⟩ (.string x.t)).setCell ⟨w.heap.size + 1, 4, none⟩ (.slice (some ⟨g, 0, none⟩) 2 cap) := ⟨_, rfl⟩
    rw [← hV]
    obtain ⟨hP, hbV, hKV⟩ := hE_1.tell (y := ⟨x.op, x.n, x.s, x.t⟩) hV
    obtain ⟨t0, t1, t2, t3, t4⟩ := hP.cells
    exact bodyPost_ret (v := .tuple #[.agg #[.int .i64 x.op, .int .i64 x.n, .string x.s, .string x.t, .slice (some ⟨g, 0, none⟩) 2 cap], .bool false]) (by simp [results, Tryz.results93, go_sem, t0, t1, t2, t3, t4]) rfl ⟨⟨_, S, rfl, hx, hKV (HV.out.up hE_1.bel) hoff, fun c hc => .inl hc⟩, hbV⟩
  · go_wp2_with fail
    refine (HT _ _).mono ?_
    rintro _ w1 ⟨rfl, hbb⟩
    have hbZ : Below W.heap.size W w1 := (fbD (fbA (fbA (fbA (Below.refl _ _))))).trans (hbb.mono (fbD (fbA (fbA (fbA (Below.refl _ _))))).size)
    have hE_1 := hE_0.up hbZ
    obtain ⟨hA_1, hB_1, hN_1⟩ : PB w1 (W.heap.size + 1) ⟨1, i, ⟨#[]⟩, ⟨#[]⟩⟩ (.slice qa ka.len ca) ∧ PB w1 W.heap.size b (.slice qb kb.len cb) ∧ NBk w1 (W.heap.size + 1 + 1) (.int .i64 1) (.int .i64 i) (.string ⟨#[]⟩) (.string ⟨#[]⟩) := ⟨(lay_three W b ⟨1, i, ⟨#[]⟩, ⟨#[]⟩⟩ _ _ _ _ _ _).2.1.up hbb, (lay_three W b ⟨1, i, ⟨#[]⟩, ⟨#[]⟩⟩ _ _ _ _ _ _).1.up hbb, NBk.up ⟨(lay_three W b ⟨1, i, ⟨#[]⟩, ⟨#[]⟩⟩ _ _ _ _ _ _).2.2⟩ hbb⟩
    clear c0 c1 c2 c3 c4 a0 a1 a2 a3 a4 b0 b1 b2 b3 b4 r0 r1 r2 r3 r4 fr hE_0 hbb s0 s1 s2 s3 s4 z0 z1 z2 z3 z4 hbY
    obtain ⟨c0, c1, c2, c3, c4⟩ := hE_1.box.cells
    obtain ⟨a0, a1, a2, a3, a4⟩ := hA_1.cells
    obtain ⟨b0, b1, b2, b3, b4⟩ := hB_1.cells
    obtain ⟨m0, m1, m2, m3⟩ := hN_1.cells
    obtain ⟨r0, r1, r2, r3, r4⟩ := hE_1.res.cells
    have fr := hE_1.res.free
    dsimp only at a0 a1 a2 a3
    go_wp2
    obtain ⟨V, hV⟩ : ∃ V, V = ((((w1.setCell ⟨w.heap.size + 1, 0, none⟩ (.int .i64 x.op)).setCell ⟨w.heap.size + 1, 1, none⟩ (.int .i64 x.n)).setCell ⟨w.heap.size + 1, 2, none⟩ (.string x.s)).setCell ⟨w.heap.size + 1, 3, none⟩ (.string x.t)).setCell ⟨w.heap.size + 1, 4, none⟩ (.slice (some ⟨g, 0, none⟩) 2 cap) := ⟨_, rfl⟩
    rw [← hV]
    obtain ⟨hP, hbV, hKV⟩ := hE_1.tell (y := ⟨x.op, x.n, x.s, x.t⟩) hV
    obtain ⟨t0, t1, t2, t3, t4⟩ := hP.cells
    exact bodyPost_ret (v := .tuple #[.agg #[.int .i64 x.op, .int .i64 x.n, .string x.s, .string x.t, .slice (some ⟨g, 0, none⟩) 2 cap], .bool false]) (by simp [results, Tryz.results93, go_sem, t0, t1, t2, t3, t4]) rfl ⟨⟨_, S, rfl, hx, hKV (HV.out.up hE_1.bel) hoff, fun c hc => .inl hc⟩, hbV⟩
set_option maxHeartbeats 4000000 in
theorem joined_four (i : Int) (a b : Nd) (ka kb : Fo) (hv : KV w (.cons a ka (.cons b kb .nil)) v S) (hB : Bd w S) (hx : x.wf) (hb : b = ⟨1, i, ⟨#[]⟩, ⟨#[]⟩⟩) (ht : truthB a = true) (ha1 : (a.op == 1) = false) :
    Calls Tryz.prog 93 #[partV x v, .int .i64 i] w fun en w' => BRet (some (a, ka)) x (.cons a ka (.cons b kb .nil)) S w en w' := by
  have HT := fun w1 v1 => ofTruth_any a v1 w1
  rw [ht] at HT
  unfold partV at HT
  subst hb
  obtain ⟨g, cap, ua, ub, Sa, Sb, rfl, hPa, hPb, haw, hbw, hva, hvb, hSa, hSb⟩ := hv.two
  obtain ⟨W, hW⟩ : ∃ W, W = (w.alloc (.cells #[.int .i64 x.op, .int .i64 x.n, .string x.s, .string x.t, .slice (some ⟨g, 0, none⟩) 2 cap] 63)).alloc (.cells #[.int .i64 0, .int .i64 0, .string ⟨#[]⟩, .string ⟨#[]⟩, .slice none 0 0] 63) := ⟨_, rfl⟩
  have hE_0 : En2 w W x (.slice (some ⟨g, 0, none⟩) 2 cap) := by rw [hW]; exact En2.new w x _
  have hPaW := hPa.up hE_0.bel
  have hPbW := hPb.up hE_0.bel
  obtain ⟨qa, ca, rfl, _⟩ := hva.slice
  obtain ⟨qb, cb, rfl, _⟩ := hvb.slice
  have hgl := hPaW.lt
  have hlw := hE_0.res.lt
  have hlb : w.heap.size < W.heap.size := hE_0.box.lt
  have n1 : ¬ w.heap.size = W.heap.size := by omega
  have n2 : ¬ w.heap.size = W.heap.size + 1 := by omega
  have n3 : ¬ g = W.heap.size := by omega
  have n4 : ¬ g = W.heap.size + 1 := by omega
  have n5 : ¬ w.heap.size + 1 = W.heap.size := by omega
  have n6 : ¬ w.heap.size + 1 = W.heap.size + 1 := by omega
  have n7 : ¬ w.heap.size + 1 = W.heap.size + 1 + 1 := by omega
  have n8 : ¬ w.heap.size = W.heap.size + 1 + 1 := by omega
  have HV : Hid (KV w (.cons a ka (.cons ⟨1, i, ⟨#[]⟩, ⟨#[]⟩⟩ kb .nil)) (.slice (some ⟨g, 0, none⟩) 2 cap) S) := hv
  have hoff := hB.off (n := w.heap.size + 1) (by omega)
  clear hv
  obtain ⟨c0, c1, c2, c3, c4⟩ := hE_0.box.cells
  obtain ⟨a0, a1, a2, a3, a4⟩ := hPaW.cells
  obtain ⟨b0, b1, b2, b3, b4⟩ := hPbW.cells
  obtain ⟨r0, r1, r2, r3, r4⟩ := hE_0.res.cells
  have fr := hE_0.res.free
  have hbY : ∀ o1 o2 o3, Below W.heap.size W (((W.alloc o1).alloc o2).alloc o3) := fun o1 o2 o3 => fbA (fbA (fbA (Below.refl _ _)))
  have s0 := fun o1 o2 o3 => (hE_0.box.up (hbY o1 o2 o3)).cells.1
  have s1 := fun o1 o2 o3 => (hE_0.box.up (hbY o1 o2 o3)).cells.2.1
  have s2 := fun o1 o2 o3 => (hE_0.box.up (hbY o1 o2 o3)).cells.2.2.1
  have s3 := fun o1 o2 o3 => (hE_0.box.up (hbY o1 o2 o3)).cells.2.2.2.1
  have s4 := fun o1 o2 o3 => (hE_0.box.up (hbY o1 o2 o3)).cells.2.2.2.2
  have z0 := fun o1 o2 o3 => (hE_0.box.up (fbD (hbY o1 o2 o3))).cells.1
  have z1 := fun o1 o2 o3 => (hE_0.box.up (fbD (hbY o1 o2 o3))).cells.2.1
  have z2 := fun o1 o2 o3 => (hE_0.box.up (fbD (hbY o1 o2 o3))).cells.2.2.1
  have z3 := fun o1 o2 o3 => (hE_0.box.up (fbD (hbY o1 o2 o3))).cells.2.2.2.1
  have z4 := fun o1 o2 o3 => (hE_0.box.up (fbD (hbY o1 o2 o3))).cells.2.2.2.2
  unfold partV at *
  dsimp only [Nat.zero_add, Nat.reduceAdd] at a0 a1 a2 a3 a4 b0 b1 b2 b3 b4
  go_enter Tryz.func93, Tryz.ntmps93
  go_wp2_with fail
  rw [← hW]
  clear hW
  go_region
  · go_wp2_with fail
    refine (HT _ _).mono ?_
    rintro _ w1 ⟨rfl, hbb⟩
    have hbZ : Below W.heap.size W w1 := (fbD (fbA (fbA (fbA (Below.refl _ _))))).trans (hbb.mono (fbD (fbA (fbA (fbA (Below.refl _ _))))).size)
    have hE_1 := hE_0.up hbZ
    obtain ⟨hA_1, hB_1, hN_1⟩ : PB w1 W.heap.size a (.slice qa ka.len ca) ∧ PB w1 (W.heap.size + 1) ⟨1, i, ⟨#[]⟩, ⟨#[]⟩⟩ (.slice qb kb.len cb) ∧ NBk w1 (W.heap.size + 1 + 1) (.int .i64 1) (.int .i64 i) (.string ⟨#[]⟩) (.string ⟨#[]⟩) := ⟨(lay_three W a ⟨1, i, ⟨#[]⟩, ⟨#[]⟩⟩ _ _ _ _ _ _).1.up hbb, (lay_three W a ⟨1, i, ⟨#[]⟩, ⟨#[]⟩⟩ _ _ _ _ _ _).2.1.up hbb, NBk.up ⟨(lay_three W a ⟨1, i, ⟨#[]⟩, ⟨#[]⟩⟩ _ _ _ _ _ _).2.2⟩ hbb⟩
    clear c0 c1 c2 c3 c4 a0 a1 a2 a3 a4 b0 b1 b2 b3 b4 r0 r1 r2 r3 r4 fr hE_0 hbb s0 s1 s2 s3 s4 z0 z1 z2 z3 z4 hbY
    obtain ⟨c0, c1, c2, c3, c4⟩ := hE_1.box.cells
    obtain ⟨a0, a1, a2, a3, a4⟩ := hA_1.cells
    obtain ⟨b0, b1, b2, b3, b4⟩ := hB_1.cells
    obtain ⟨m0, m1, m2, m3⟩ := hN_1.cells
    obtain ⟨r0, r1, r2, r3, r4⟩ := hE_1.res.cells
    have fr := hE_1.res.free
    dsimp only at b0 b1 b2 b3
    go_wp2
    obtain ⟨V, hV⟩ : ∃ V, V = ((((w1.setCell ⟨w.heap.size + 1, 0, none⟩ (.int .i64 a.op)).setCell ⟨w.heap.size + 1, 1, none⟩ (.int .i64 a.n)).setCell ⟨w.heap.size + 1, 2, none⟩ (.string a.s)).setCell ⟨w.heap.size + 1, 3, none⟩ (.string a.t)).setCell ⟨w.heap.size + 1, 4, none⟩ (.slice qa ka.len ca) := ⟨_, rfl⟩
    rw [← hV]
    obtain ⟨hP, hbV, hKV⟩ := hE_1.tell (y := ⟨a.op, a.n, a.s, a.t⟩) hV
    obtain ⟨t0, t1, t2, t3, t4⟩ := hP.cells
    exact bodyPost_ret (v := .tuple #[.agg #[.int .i64 a.op, .int .i64 a.n, .string a.s, .string a.t, .slice qa ka.len ca], .bool true]) (by simp [results, Tryz.results93, go_sem, t0, t1, t2, t3, t4]) rfl ⟨⟨_, Sa, rfl, haw, hKV (hva.up hE_1.bel) (fun e => hoff (hSa _ e)), fun c hc => .inl (hSa c hc)⟩, hbV⟩
  · go_wp2_with fail
    refine (HT _ _).mono ?_
    rintro _ w1 ⟨rfl, hbb⟩
    have hbZ : Below W.heap.size W w1 := (fbD (fbA (fbA (fbA (Below.refl _ _))))).trans (hbb.mono (fbD (fbA (fbA (fbA (Below.refl _ _))))).size)
    have hE_1 := hE_0.up hbZ
    obtain ⟨hA_1, hB_1, hN_1⟩ : PB w1 (W.heap.size + 1) a (.slice qa ka.len ca) ∧ PB w1 W.heap.size ⟨1, i, ⟨#[]⟩, ⟨#[]⟩⟩ (.slice qb kb.len cb) ∧ NBk w1 (W.heap.size + 1 + 1) (.int .i64 1) (.int .i64 i) (.string ⟨#[]⟩) (.string ⟨#[]⟩) := ⟨(lay_three W ⟨1, i, ⟨#[]⟩, ⟨#[]⟩⟩ a _ _ _ _ _ _).2.1.up hbb, (lay_three W ⟨1, i, ⟨#[]⟩, ⟨#[]⟩⟩ a _ _ _ _ _ _).1.up hbb, NBk.up ⟨(lay_three W ⟨1, i, ⟨#[]⟩, ⟨#[]⟩⟩ a _ _ _ _ _ _).2.2⟩ hbb⟩
    clear c0 c1 c2 c3 c4 a0 a1 a2 a3 a4 b0 b1 b2 b3 b4 r0 r1 r2 r3 r4 fr hE_0 hbb s0 s1 s2 s3 s4 z0 z1 z2 z3 z4 hbY
    obtain ⟨c0, c1, c2, c3, c4⟩ := hE_1.box.cells
    obtain ⟨a0, a1, a2, a3, a4⟩ := hA_1.cells
    obtain ⟨b0, b1, b2, b3, b4⟩ := hB_1.cells
    obtain ⟨m0, m1, m2, m3⟩ := hN_1.cells
    obtain ⟨r0, r1, r2, r3, r4⟩ := hE_1.res.cells
    have fr := hE_1.res.free
    dsimp only at b0 b1 b2 b3
    go_wp2
    obtain ⟨V, hV⟩ : ∃ V, V = ((((w1.setCell ⟨w.heap.size + 1, 0, none⟩ (.int .i64 a.op)).setCell ⟨w.heap.size + 1, 1, none⟩ (.int .i64 a.n)).setCell ⟨w.heap.size + 1, 2, none⟩ (.string a.s)).setCell ⟨w.heap.size + 1, 3, none⟩ (.string a.t)).setCell ⟨w.heap.size + 1, 4, none⟩ (.slice qa ka.len ca) := ⟨_, rfl⟩
    rw [← hV]
    obtain ⟨hP, hbV, hKV⟩ := hE_1.tell (y := ⟨a.op, a.n, a.s, a.t⟩) hV
    obtain ⟨t0, t1, t2, t3, t4⟩ := hP.cells
    exact bodyPost_ret (v := .tuple #[.agg #[.int .i64 a.op, .int .i64 a.n, .string a.s, .string a.t, .slice qa ka.len ca], .bool true]) (by simp [results, Tryz.results93, go_sem, t0, t1, t2, t3, t4]) rfl ⟨⟨_, Sa, rfl, haw, hKV (hva.up hE_1.bel) (fun e => hoff (hSa _ e)), fun c hc => .inl (hSa c hc)⟩, hbV⟩
set_option maxHeartbeats 4000000 in
theorem joined_five (i : Int) (a b : Nd) (ka kb : Fo) (hv : KV w (.cons a ka (.cons b kb .nil)) v S) (hB : Bd w S) (hx : x.wf) (hb : b = ⟨1, i, ⟨#[]⟩, ⟨#[]⟩⟩) (ht : truthB a = false) (ha1 : (a.op == 1) = false) :
    Calls Tryz.prog 93 #[partV x v, .int .i64 i] w fun en w' => BRet (none) x (.cons a ka (.cons b kb .nil)) S w en w' := by
  have HT := fun w1 v1 => ofTruth_any a v1 w1
  rw [ht] at HT
  unfold partV at HT
  subst hb
  obtain ⟨g, cap, ua, ub, Sa, Sb, rfl, hPa, hPb, haw, hbw, hva, hvb, hSa, hSb⟩ := hv.two
  obtain ⟨W, hW⟩ : ∃ W, W = (w.alloc (.cells #[.int .i64 x.op, .int .i64 x.n, .string x.s, .string x.t, .slice (some ⟨g, 0, none⟩) 2 cap] 63)).alloc (.cells #[.int .i64 0, .int .i64 0, .string ⟨#[]⟩, .string ⟨#[]⟩, .slice none 0 0] 63) := ⟨_, rfl⟩
  have hE_0 : En2 w W x (.slice (some ⟨g, 0, none⟩) 2 cap) := by rw [hW]; exact En2.new w x _
  have hPaW := hPa.up hE_0.bel
  have hPbW := hPb.up hE_0.bel
  obtain ⟨qa, ca, rfl, _⟩ := hva.slice
  obtain ⟨qb, cb, rfl, _⟩ := hvb.slice
  have hgl := hPaW.lt
  have hlw := hE_0.res.lt
  have hlb : w.heap.size < W.heap.size := hE_0.box.lt
  have n1 : ¬ w.heap.size = W.heap.size := by omega
  have n2 : ¬ w.heap.size = W.heap.size + 1 := by omega
  have n3 : ¬ g = W.heap.size := by omega
  have n4 : ¬ g = W.heap.size + 1 := by omega
  have n5 : ¬ w.heap.size + 1 = W.heap.size := by omega
  have n6 : ¬ w.heap.size + 1 = W.heap.size + 1 := by omega
  have n7 : ¬ w.heap.size + 1 = W.heap.size + 1 + 1 := by omega
  have n8 : ¬ w.heap.size = W.heap.size + 1 + 1 := by omega
  have HV : Hid (KV w (.cons a ka (.cons ⟨1, i, ⟨#[]⟩, ⟨#[]⟩⟩ kb .nil)) (.slice (some ⟨g, 0, none⟩) 2 cap) S) := hv
  have hoff := hB.off (n := w.heap.size + 1) (by omega)
  clear hv
  obtain ⟨c0, c1, c2, c3, c4⟩ := hE_0.box.cells
  obtain ⟨a0, a1, a2, a3, a4⟩ := hPaW.cells
  obtain ⟨b0, b1, b2, b3, b4⟩ := hPbW.cells
  obtain ⟨r0, r1, r2, r3, r4⟩ := hE_0.res.cells
  have fr := hE_0.res.free
  have hbY : ∀ o1 o2 o3, Below W.heap.size W (((W.alloc o1).alloc o2).alloc o3) := fun o1 o2 o3 => fbA (fbA (fbA (Below.refl _ _)))
  have s0 := fun o1 o2 o3 => (hE_0.box.up (hbY o1 o2 o3)).cells.1
  have s1 := fun o1 o2 o3 => (hE_0.box.up (hbY o1 o2 o3)).cells.2.1
  have s2 := fun o1 o2 o3 => (hE_0.box.up (hbY o1 o2 o3)).cells.2.2.1
  have s3 := fun o1 o2 o3 => (hE_0.box.up (hbY o1 o2 o3)).cells.2.2.2.1
  have s4 := fun o1 o2 o3 => (hE_0.box.up (hbY o1 o2 o3)).cells.2.2.2.2
  have z0 := fun o1 o2 o3 => (hE_0.box.up (fbD (hbY o1 o2 o3))).cells.1
  have z1 := fun o1 o2 o3 => (hE_0.box.up (fbD (hbY o1 o2 o3))).cells.2.1
  have z2 := fun o1 o2 o3 => (hE_0.box.up (fbD (hbY o1 o2 o3))).cells.2.2.1
  have z3 := fun o1 o2 o3 => (hE_0.box.up (fbD (hbY o1 o2 o3))).cells.2.2.2.1
  have z4 := fun o1 o2 o3 => (hE_0.box.up (fbD (hbY o1 o2 o3))).cells.2.2.2.2
  unfold partV at *
  dsimp only [Nat.zero_add, Nat.reduceAdd] at a0 a1 a2 a3 a4 b0 b1 b2 b3 b4
  go_enter Tryz.func93, Tryz.ntmps93
  go_wp2_with fail
  rw [← hW]
  clear hW
  go_region
  · go_wp2_with fail
    refine (HT _ _).mono ?_
    rintro _ w1 ⟨rfl, hbb⟩
    have hbZ : Below W.heap.size W w1 := (fbD (fbA (fbA (fbA (Below.refl _ _))))).trans (hbb.mono (fbD (fbA (fbA (fbA (Below.refl _ _))))).size)
    have hE_1 := hE_0.up hbZ
    obtain ⟨hA_1, hB_1, hN_1⟩ : PB w1 W.heap.size a (.slice qa ka.len ca) ∧ PB w1 (W.heap.size + 1) ⟨1, i, ⟨#[]⟩, ⟨#[]⟩⟩ (.slice qb kb.len cb) ∧ NBk w1 (W.heap.size + 1 + 1) (.int .i64 1) (.int .i64 i) (.string ⟨#[]⟩) (.string ⟨#[]⟩) := ⟨(lay_three W a ⟨1, i, ⟨#[]⟩, ⟨#[]⟩⟩ _ _ _ _ _ _).1.up hbb, (lay_three W a ⟨1, i, ⟨#[]⟩, ⟨#[]⟩⟩ _ _ _ _ _ _).2.1.up hbb, NBk.up ⟨(lay_three W a ⟨1, i, ⟨#[]⟩, ⟨#[]⟩⟩ _ _ _ _ _ _).2.2⟩ hbb⟩
    clear c0 c1 c2 c3 c4 a0 a1 a2 a3 a4 b0 b1 b2 b3 b4 r0 r1 r2 r3 r4 fr hE_0 hbb s0 s1 s2 s3 s4 z0 z1 z2 z3 z4 hbY
    obtain ⟨c0, c1, c2, c3, c4⟩ := hE_1.box.cells
    obtain ⟨a0, a1, a2, a3, a4⟩ := hA_1.cells
    obtain ⟨b0, b1, b2, b3, b4⟩ := hB_1.cells
    obtain ⟨m0, m1, m2, m3⟩ := hN_1.cells
    obtain ⟨r0, r1, r2, r3, r4⟩ := hE_1.res.cells
    have fr := hE_1.res.free
    dsimp only at b0 b1 b2 b3
    go_wp2
    obtain ⟨V, hV⟩ : ∃ V, V = ((((w1.setCell ⟨w.heap.size + 1, 0, none⟩ (.int .i64 x.op)).setCell ⟨w.heap.size + 1, 1, none⟩ (.int .i64 x.n)).setCell ⟨w.heap.size + 1, 2, none⟩ (.string x.s)).setCell ⟨w.heap.size + 1, 3, none⟩ (.string x.t)).setCell ⟨w.heap.size + 1, 4, none⟩ (.slice (some ⟨g, 0, none⟩) 2 cap) := ⟨_, rfl⟩
    rw [← hV]
    obtain ⟨hP, hbV, hKV⟩ := hE_1.tell (y := ⟨x.op, x.n, x.s, x.t⟩) hV
    obtain ⟨t0, t1, t2, t3, t4⟩ := hP.cells
    exact bodyPost_ret (v := .tuple #[.agg #[.int .i64 x.op, .int .i64 x.n, .string x.s, .string x.t, .slice (some ⟨g, 0, none⟩) 2 cap], .bool false]) (by simp [results, Tryz.results93, go_sem, t0, t1, t2, t3, t4]) rfl ⟨⟨_, S, rfl, hx, hKV (HV.out.up hE_1.bel) hoff, fun c hc => .inl hc⟩, hbV⟩
  · go_wp2_with fail
    refine (HT _ _).mono ?_
    rintro _ w1 ⟨rfl, hbb⟩
    have hbZ : Below W.heap.size W w1 := (fbD (fbA (fbA (fbA (Below.refl _ _))))).trans (hbb.mono (fbD (fbA (fbA (fbA (Below.refl _ _))))).size)
    have hE_1 := hE_0.up hbZ
    obtain ⟨hA_1, hB_1, hN_1⟩ : PB w1 (W.heap.size + 1) a (.slice qa ka.len ca) ∧ PB w1 W.heap.size ⟨1, i, ⟨#[]⟩, ⟨#[]⟩⟩ (.slice qb kb.len cb) ∧ NBk w1 (W.heap.size + 1 + 1) (.int .i64 1) (.int .i64 i) (.string ⟨#[]⟩) (.string ⟨#[]⟩) := ⟨(lay_three W ⟨1, i, ⟨#[]⟩, ⟨#[]⟩⟩ a _ _ _ _ _ _).2.1.up hbb, (lay_three W ⟨1, i, ⟨#[]⟩, ⟨#[]⟩⟩ a _ _ _ _ _ _).1.up hbb, NBk.up ⟨(lay_three W ⟨1, i, ⟨#[]⟩, ⟨#[]⟩⟩ a _ _ _ _ _ _).2.2⟩ hbb⟩
    clear c0 c1 c2 c3 c4 a0 a1 a2 a3 a4 b0 b1 b2 b3 b4 r0 r1 r2 r3 r4 fr hE_0 hbb s0 s1 s2 s3 s4 z0 z1 z2 z3 z4 hbY
    obtain ⟨c0, c1, c2, c3, c4⟩ := hE_1.box.cells
    obtain ⟨a0, a1, a2, a3, a4⟩ := hA_1.cells
    obtain ⟨b0, b1, b2, b3, b4⟩ := hB_1.cells
    obtain ⟨m0, m1, m2, m3⟩ := hN_1.cells
    obtain ⟨r0, r1, r2, r3, r4⟩ := hE_1.res.cells
    have fr := hE_1.res.free
    dsimp only at b0 b1 b2 b3
    go_wp2
    obtain ⟨V, hV⟩ : ∃ V, V = ((((w1.setCell ⟨w.heap.size + 1, 0, none⟩ (.int .i64 x.op)).setCell ⟨w.heap.size + 1, 1, none⟩ (.int .i64 x.n)).setCell ⟨w.heap.size + 1, 2, none⟩ (.string x.s)).setCell ⟨w.heap.size + 1, 3, none⟩ (.string x.t)).setCell ⟨w.heap.size + 1, 4, none⟩ (.slice (some ⟨g, 0, none⟩) 2 cap) := ⟨_, rfl⟩
    rw [← hV]
    obtain ⟨hP, hbV, hKV⟩ := hE_1.tell (y := ⟨x.op, x.n, x.s, x.t⟩) hV
    obtain ⟨t0, t1, t2, t3, t4⟩ := hP.cells
    exact bodyPost_ret (v := .tuple #[.agg #[.int .i64 x.op, .int .i64 x.n, .string x.s, .string x.t, .slice (some ⟨g, 0, none⟩) 2 cap], .bool false]) (by simp [results, Tryz.results93, go_sem, t0, t1, t2, t3, t4]) rfl ⟨⟨_, S, rfl, hx, hKV (HV.out.up hE_1.bel) hoff, fun c hc => .inl hc⟩, hbV⟩
set_option maxHeartbeats 4000000 in
theorem joined_six (i : Int) (a b : Nd) (ka kb : Fo) (hv : KV w (.cons a ka (.cons b kb .nil)) v S) (hB : Bd w S) (hx : x.wf) (bn : Int) (hb : b = ⟨1, bn, ⟨#[]⟩, ⟨#[]⟩⟩) (hn : (bn == i) = false) (ha1 : (a.op == 1) = false) :
    Calls Tryz.prog 93 #[partV x v, .int .i64 i] w fun en w' => BRet (none) x (.cons a ka (.cons b kb .nil)) S w en w' := by
  subst hb
  obtain ⟨g, cap, ua, ub, Sa, Sb, rfl, hPa, hPb, haw, hbw, hva, hvb, hSa, hSb⟩ := hv.two
  obtain ⟨W, hW⟩ : ∃ W, W = (w.alloc (.cells #[.int .i64 x.op, .int .i64 x.n, .string x.s, .string x.t, .slice (some ⟨g, 0, none⟩) 2 cap] 63)).alloc (.cells #[.int .i64 0, .int .i64 0, .string ⟨#[]⟩, .string ⟨#[]⟩, .slice none 0 0] 63) := ⟨_, rfl⟩
  have hE_0 : En2 w W x (.slice (some ⟨g, 0, none⟩) 2 cap) := by rw [hW]; exact En2.new w x _
  have hPaW := hPa.up hE_0.bel
  have hPbW := hPb.up hE_0.bel
  obtain ⟨qa, ca, rfl, _⟩ := hva.slice
  obtain ⟨qb, cb, rfl, _⟩ := hvb.slice
  have hgl := hPaW.lt
  have hlw := hE_0.res.lt
  have hlb : w.heap.size < W.heap.size := hE_0.box.lt
  have n1 : ¬ w.heap.size = W.heap.size := by omega
  have n2 : ¬ w.heap.size = W.heap.size + 1 := by omega
  have n3 : ¬ g = W.heap.size := by omega
  have n4 : ¬ g = W.heap.size + 1 := by omega
  have n5 : ¬ w.heap.size + 1 = W.heap.size := by omega
  have n6 : ¬ w.heap.size + 1 = W.heap.size + 1 := by omega
  have n7 : ¬ w.heap.size + 1 = W.heap.size + 1 + 1 := by omega
  have n8 : ¬ w.heap.size = W.heap.size + 1 + 1 := by omega
  have HV : Hid (KV w (.cons a ka (.cons ⟨1, bn, ⟨#[]⟩, ⟨#[]⟩⟩ kb .nil)) (.slice (some ⟨g, 0, none⟩) 2 cap) S) := hv
  have hoff := hB.off (n := w.heap.size + 1) (by omega)
  clear hv
  obtain ⟨c0, c1, c2, c3, c4⟩ := hE_0.box.cells
  obtain ⟨a0, a1, a2, a3, a4⟩ := hPaW.cells
  obtain ⟨b0, b1, b2, b3, b4⟩ := hPbW.cells
  obtain ⟨r0, r1, r2, r3, r4⟩ := hE_0.res.cells
  have fr := hE_0.res.free
  have hbY : ∀ o1 o2 o3, Below W.heap.size W (((W.alloc o1).alloc o2).alloc o3) := fun o1 o2 o3 => fbA (fbA (fbA (Below.refl _ _)))
  have s0 := fun o1 o2 o3 => (hE_0.box.up (hbY o1 o2 o3)).cells.1
  have s1 := fun o1 o2 o3 => (hE_0.box.up (hbY o1 o2 o3)).cells.2.1
  have s2 := fun o1 o2 o3 => (hE_0.box.up (hbY o1 o2 o3)).cells.2.2.1
  have s3 := fun o1 o2 o3 => (hE_0.box.up (hbY o1 o2 o3)).cells.2.2.2.1
  have s4 := fun o1 o2 o3 => (hE_0.box.up (hbY o1 o2 o3)).cells.2.2.2.2
  have z0 := fun o1 o2 o3 => (hE_0.box.up (fbD (hbY o1 o2 o3))).cells.1
  have z1 := fun o1 o2 o3 => (hE_0.box.up (fbD (hbY o1 o2 o3))).cells.2.1
  have z2 := fun o1 o2 o3 => (hE_0.box.up (fbD (hbY o1 o2 o3))).cells.2.2.1
  have z3 := fun o1 o2 o3 => (hE_0.box.up (fbD (hbY o1 o2 o3))).cells.2.2.2.1
  have z4 := fun o1 o2 o3 => (hE_0.box.up (fbD (hbY o1 o2 o3))).cells.2.2.2.2
  unfold partV at *
  dsimp only [Nat.zero_add, Nat.reduceAdd] at a0 a1 a2 a3 a4 b0 b1 b2 b3 b4
  go_enter Tryz.func93, Tryz.ntmps93
  go_wp2_with fail
  rw [← hW]
  clear hW
  go_region
  all_goals
    go_wp2
    obtain ⟨V, hV⟩ : ∃ V, V = ((((W.setCell ⟨w.heap.size + 1, 0, none⟩ (.int .i64 x.op)).setCell ⟨w.heap.size + 1, 1, none⟩ (.int .i64 x.n)).setCell ⟨w.heap.size + 1, 2, none⟩ (.string x.s)).setCell ⟨w.heap.size + 1, 3, none⟩ (.string x.t)).setCell ⟨w.heap.size + 1, 4, none⟩ (.slice (some ⟨g, 0, none⟩) 2 cap) := ⟨_, rfl⟩
    rw [← hV]
    obtain ⟨hP, hbV, hKV⟩ := hE_0.tell (y := ⟨x.op, x.n, x.s, x.t⟩) hV
    have hbF : ∀ o1 o2 o3, Below V.heap.size V ((((V.alloc o1).alloc o2).alloc o3).drew) := fun o1 o2 o3 => fbD (fbA (fbA (fbA (Below.refl _ _))))
    have t0 := fun o1 o2 o3 => (hP.up (hbF o1 o2 o3)).cells.1
    have t1 := fun o1 o2 o3 => (hP.up (hbF o1 o2 o3)).cells.2.1
    have t2 := fun o1 o2 o3 => (hP.up (hbF o1 o2 o3)).cells.2.2.1
    have t3 := fun o1 o2 o3 => (hP.up (hbF o1 o2 o3)).cells.2.2.2.1
    have t4 := fun o1 o2 o3 => (hP.up (hbF o1 o2 o3)).cells.2.2.2.2
    exact bodyPost_ret (v := .tuple #[.agg #[.int .i64 x.op, .int .i64 x.n, .string x.s, .string x.t, .slice (some ⟨g, 0, none⟩) 2 cap], .bool false]) (by simp [results, Tryz.results93, go_sem, t0, t1, t2, t3, t4]) rfl ⟨⟨_, S, rfl, hx, (hKV (HV.out.up hE_0.bel) hoff).up (hbF _ _ _), fun c hc => .inl hc⟩, hbV.trans ((hbF _ _ _).mono hbV.size)⟩
set_option maxHeartbeats 4000000 in
theorem joined_seven (i : Int) (a b : Nd) (ka kb : Fo) (hv : KV w (.cons a ka (.cons b kb .nil)) v S) (hB : Bd w S) (hx : x.wf) (hb1 : (b.op == 1) = false) (ha1 : (a.op == 1) = false) :
    Calls Tryz.prog 93 #[partV x v, .int .i64 i] w fun en w' => BRet (none) x (.cons a ka (.cons b kb .nil)) S w en w' := by
  obtain ⟨g, cap, ua, ub, Sa, Sb, rfl, hPa, hPb, haw, hbw, hva, hvb, hSa, hSb⟩ := hv.two
  obtain ⟨W, hW⟩ : ∃ W, W = (w.alloc (.cells #[.int .i64 x.op, .int .i64 x.n, .string x.s, .string x.t, .slice (some ⟨g, 0, none⟩) 2 cap] 63)).alloc (.cells #[.int .i64 0, .int .i64 0, .string ⟨#[]⟩, .string ⟨#[]⟩, .slice none 0 0] 63) := ⟨_, rfl⟩
  have hE_0 : En2 w W x (.slice (some ⟨g, 0, none⟩) 2 cap) := by rw [hW]; exact En2.new w x _
  have hPaW := hPa.up hE_0.bel
  have hPbW := hPb.up hE_0.bel
  obtain ⟨qa, ca, rfl, _⟩ := hva.slice
  obtain ⟨qb, cb, rfl, _⟩ := hvb.slice
  have hgl := hPaW.lt
  have hlw := hE_0.res.lt
  have hlb : w.heap.size < W.heap.size := hE_0.box.lt
  have n1 : ¬ w.heap.size = W.heap.size := by omega
  have n2 : ¬ w.heap.size = W.heap.size + 1 := by omega
  have n3 : ¬ g = W.heap.size := by omega
  have n4 : ¬ g = W.heap.size + 1 := by omega
  have n5 : ¬ w.heap.size + 1 = W.heap.size := by omega
  have n6 : ¬ w.heap.size + 1 = W.heap.size + 1 := by omega
  have n7 : ¬ w.heap.size + 1 = W.heap.size + 1 + 1 := by omega
  have n8 : ¬ w.heap.size = W.heap.size + 1 + 1 := by omega
  have HV : Hid (KV w (.cons a ka (.cons b kb .nil)) (.slice (some ⟨g, 0, none⟩) 2 cap) S) := hv
  have hoff := hB.off (n := w.heap.size + 1) (by omega)
  clear hv
  obtain ⟨c0, c1, c2, c3, c4⟩ := hE_0.box.cells
  obtain ⟨a0, a1, a2, a3, a4⟩ := hPaW.cells
  obtain ⟨b0, b1, b2, b3, b4⟩ := hPbW.cells
  obtain ⟨r0, r1, r2, r3, r4⟩ := hE_0.res.cells
  have fr := hE_0.res.free
  have hbY : ∀ o1 o2 o3, Below W.heap.size W (((W.alloc o1).alloc o2).alloc o3) := fun o1 o2 o3 => fbA (fbA (fbA (Below.refl _ _)))
  have s0 := fun o1 o2 o3 => (hE_0.box.up (hbY o1 o2 o3)).cells.1
  have s1 := fun o1 o2 o3 => (hE_0.box.up (hbY o1 o2 o3)).cells.2.1
  have s2 := fun o1 o2 o3 => (hE_0.box.up (hbY o1 o2 o3)).cells.2.2.1
  have s3 := fun o1 o2 o3 => (hE_0.box.up (hbY o1 o2 o3)).cells.2.2.2.1
  have s4 := fun o1 o2 o3 => (hE_0.box.up (hbY o1 o2 o3)).cells.2.2.2.2
  have z0 := fun o1 o2 o3 => (hE_0.box.up (fbD (hbY o1 o2 o3))).cells.1
  have z1 := fun o1 o2 o3 => (hE_0.box.up (fbD (hbY o1 o2 o3))).cells.2.1
  have z2 := fun o1 o2 o3 => (hE_0.box.up (fbD (hbY o1 o2 o3))).cells.2.2.1
  have z3 := fun o1 o2 o3 => (hE_0.box.up (fbD (hbY o1 o2 o3))).cells.2.2.2.1
  have z4 := fun o1 o2 o3 => (hE_0.box.up (fbD (hbY o1 o2 o3))).cells.2.2.2.2
  unfold partV at *
  dsimp only [Nat.zero_add, Nat.reduceAdd] at a0 a1 a2 a3 a4 b0 b1 b2 b3 b4
  go_enter Tryz.func93, Tryz.ntmps93
  go_wp2_with fail
  rw [← hW]
  clear hW
  go_region
  all_goals
    go_wp2
    obtain ⟨V, hV⟩ : ∃ V, V = ((((W.setCell ⟨w.heap.size + 1, 0, none⟩ (.int .i64 x.op)).setCell ⟨w.heap.size + 1, 1, none⟩ (.int .i64 x.n)).setCell ⟨w.heap.size + 1, 2, none⟩ (.string x.s)).setCell ⟨w.heap.size + 1, 3, none⟩ (.string x.t)).setCell ⟨w.heap.size + 1, 4, none⟩ (.slice (some ⟨g, 0, none⟩) 2 cap) := ⟨_, rfl⟩
    rw [← hV]
    obtain ⟨hP, hbV, hKV⟩ := hE_0.tell (y := ⟨x.op, x.n, x.s, x.t⟩) hV
    have hbF : ∀ o1 o2 o3, Below V.heap.size V ((((V.alloc o1).alloc o2).alloc o3).drew) := fun o1 o2 o3 => fbD (fbA (fbA (fbA (Below.refl _ _))))
    have t0 := fun o1 o2 o3 => (hP.up (hbF o1 o2 o3)).cells.1
    have t1 := fun o1 o2 o3 => (hP.up (hbF o1 o2 o3)).cells.2.1
    have t2 := fun o1 o2 o3 => (hP.up (hbF o1 o2 o3)).cells.2.2.1
    have t3 := fun o1 o2 o3 => (hP.up (hbF o1 o2 o3)).cells.2.2.2.1
    have t4 := fun o1 o2 o3 => (hP.up (hbF o1 o2 o3)).cells.2.2.2.2
    exact bodyPost_ret (v := .tuple #[.agg #[.int .i64 x.op, .int .i64 x.n, .string x.s, .string x.t, .slice (some ⟨g, 0, none⟩) 2 cap], .bool false]) (by simp [results, Tryz.results93, go_sem, t0, t1, t2, t3, t4]) rfl ⟨⟨_, S, rfl, hx, (hKV (HV.out.up hE_0.bel) hoff).up (hbF _ _ _), fun c hc => .inl hc⟩, hbV.trans ((hbF _ _ _).mono hbV.size)⟩
end
end Go.Proofs.YtnilaghbbhmkgaaGreatDoor
namespace Go.Proofs.YtnilaghbbhmkgaaGreatDoor
open Go.RowKit
set_option linter.unusedVariables false
set_option maxRecDepth 100000

theorem lnum_fn (n : Int) (w : World) :
    Calls Tryz.prog 11 #[.int .i64 n] w fun e w' => e = .returned (.agg #[.int .i64 2, .int .i64 n, .string ⟨#[]⟩, .string ⟨#[]⟩]) ∧ Below w.heap.size w w' := by
  go_enter Tryz.func11, Tryz.ntmps11
  go_wp2
  refine bodyPost_ret (v := .agg #[.int .i64 2, .int .i64 n, .string ⟨#[]⟩, .string ⟨#[]⟩]) (by simp [results, Tryz.results11, go_sem]) rfl ⟨rfl, ?_⟩
  exact (Below.refl _ _).alloc (Nat.le_refl _) _
/-- A list of nodes told. -/
structure LArg (w : World) (a : List Nd) (n : Nat) (q : Option Addr) (c : Nat) : Prop where
  len : a.length = n
  nl : NL w q a
  le : n ≤ c
  cm : c ≤ maxLen
  num : N64 a
theorem LArg.up {w w' : World} {a : List Nd} {n : Nat} {q : Option Addr} {c : Nat} (h : LArg w a n q c) (hb : Below w.heap.size w w') : LArg w' a n q c := ⟨h.len, h.nl.up hb, h.le, h.cm, h.num⟩
end Go.Proofs.YtnilaghbbhmkgaaGreatDoor
namespace Go.Proofs.YtnilaghbbhmkgaaGreatDoor
open Go.RowKit
set_option linter.unusedVariables false
set_option maxRecDepth 100000

/-- An answer: a value, or an error. -/
def Ans (w : World) (R : Except Int (List Nd)) (v e : Value) : Prop :=
  match R with
  | .ok a => ∃ q c, v = .slice q a.length c ∧ e = .nilIface ∧ VArg w a a.length q c
  | .error n => v = .slice none 0 0 ∧ e = .iface 28 (.int .i64 n)
theorem ValE.ans {R : Except Int (List Nd)} {e : Ending} {w' : World} (h : ValE R e w') : ∃ v f, e = .returned (.tuple #[v, f]) ∧ Ans w' R v f := by
  cases R with
  | ok a => obtain ⟨q, c, rfl, h⟩ := h; exact ⟨_, _, rfl, q, c, rfl, rfl, h⟩
  | error n => exact ⟨_, _, h, rfl, rfl⟩
theorem Ans.up {w w' : World} {R : Except Int (List Nd)} {v e : Value} (h : Ans w R v e) (hb : Below w.heap.size w w') : Ans w' R v e := by
  cases R with
  | ok a => obtain ⟨q, c, rfl, rfl, h⟩ := h; exact ⟨q, c, rfl, rfl, h.up hb⟩
  | error n => exact h
theorem sameO {a : List Nd} {n : Nat} (hn : a.length = n) {p q : Option Addr} (c1 c2 : Nat) (w : World) (ha : NL w p a) (hb : NL w q a) (hl : n ≤ 1000) :
    Calls Tryz.prog 9 #[.slice p n c1, .slice q n c2] w fun e w' => e = .returned (.bool true) ∧ Below w.heap.size w w' := by
  subst hn
  have h := sameNodes_any a a p q c1 c2 w ha hb (by unfold maxLen; omega) (by unfold maxLen; omega)
  rw [(sameNd_iff _ _).2 rfl] at h
  refine h.mono ?_
  rintro e w' ⟨rfl, n, rfl⟩
  exact ⟨rfl, ⟨rfl, rfl, rfl, Nat.le_refl _, fun _ _ => rfl⟩⟩
theorem same_ans {R : Except Int (List Nd)} {v e v' e' : Value} (w : World) (h : Ans w R v e) (k : Ans w R v' e') (hg : ErrVar w) :
    Calls Tryz.prog 13 #[v, e, v', e'] w fun r w' => r = .returned (.bool true) ∧ Below w.heap.size w w' := by
  have Hg : Hid (ErrVar _) := hg
  clear hg
  cases R with
  | ok a =>
    obtain ⟨q, c, rfl, rfl, h⟩ := h
    obtain ⟨q', c', rfl, rfl, k⟩ := k
    have HS := sameO rfl c c' w h.nl k.nl (by have := h.is.len; omega)
    clear h k
    generalize a.length = n at *
    go_enter Tryz.func13, Tryz.ntmps13
    go_wp2_with fail
    refine HS.mono ?_
    rintro _ w1 ⟨rfl, hb⟩
    go_wp2_with fail
    refine (told2_nil _).mono ?_
    rintro _ w2 ⟨rfl, rfl⟩
    go_wp2_with fail
    go_ret
    exact ⟨rfl, hb⟩
  | error n =>
    obtain ⟨rfl, rfl⟩ := h
    obtain ⟨rfl, rfl⟩ := k
    have HS := sameO (a := []) (n := 0) rfl (p := none) (q := none) 0 0 w (.inl rfl) (.inl rfl) (by omega)
    go_enter Tryz.func13, Tryz.ntmps13
    go_wp2_with fail
    refine HS.mono ?_
    rintro _ w1 ⟨rfl, hb⟩
    have Hg1 : Hid (ErrVar _) := evUp Hg.out hb
    go_wp2_with fail
    refine (told2_errno n n _ Hg1.out).mono ?_
    rintro _ w2 ⟨rfl, hb2⟩
    have e1 : (n == n) = true := by simp
    rw [e1]
    go_wp2_with fail
    go_ret
    exact ⟨rfl, hb.trans (hb2.mono hb.size)⟩
def uA : Ui := ⟨⟨#[65]⟩, ⟨#[]⟩⟩
def q0 : Rq := ⟨uA, uA, uA, [⟨6, 0, ⟨#[]⟩, ⟨#[]⟩⟩]⟩
def n5 (n : Int) : Nd := ⟨2, n, ⟨#[]⟩, ⟨#[]⟩⟩
theorem n5_wf {n : Int} (h : n ≤ 9223372036854775807) : (n5 n).wf := ⟨by unfold maxLen; show 0 ≤ _; decide, by unfold maxLen; show 0 ≤ _; decide, h⟩
end Go.Proofs.YtnilaghbbhmkgaaGreatDoor
namespace Go.Proofs.YtnilaghbbhmkgaaGreatDoor
open Go.RowKit
set_option linter.unusedVariables false
set_option maxRecDepth 100000

theorem evalue_arg {es : List En} {ps : Option Addr} (cs : Nat) {q : Rq} {pq : Option Addr} {cq : Nat} {a : List Nd} {n : Nat} {p : Option Addr} {c : Nat} (w : World) (ha : EvArg w es ps q pq cq) (he : LArg w a n p c) {R : Except Int (List Nd)} (hR : valueL es q a = R) :
    Calls Tryz.prog 7 #[.slice ps es.length cs, reqV q pq cq, .slice p n c] w fun r w' => (∃ v f, r = .returned (.tuple #[v, f]) ∧ Ans w' R v f) ∧ Below w.heap.size w w' := by
  subst hR
  obtain ⟨rfl, h1, h2, h3, h4⟩ := he
  refine (evalue_any es ps cs q pq cq a p c w ha h1 (Nat.le_trans h2 h3) h4).mono ?_
  rintro e w' ⟨h, hb⟩
  exact ⟨h.ans, hb⟩
theorem tcheck_arg {a : List Nd} {n : Nat} {p : Option Addr} {c : Nat} (w : World) (he : LArg w a n p c) :
    Calls Tryz.prog 14 #[.slice p n c] w fun e w' => e = .returned (eV (xfault a)) ∧ Below w.heap.size w w' := by
  obtain ⟨rfl, h1, h2, h3, h4⟩ := he
  exact tcheck_any a p c w h1 (Nat.le_trans h2 h3)
/-- A request that a statement keeps in a block of its own. -/
structure QB (w : World) (B : Nat) (q : Rq) (pq : Option Addr) (cq : Nat) : Prop where
  blk : w.heap[B]? = some (.cells #[.string q.who.t, .string q.who.i, .string q.act.t, .string q.act.i, .string q.what.t, .string q.what.i, .slice pq q.cx.length cq] 27 (0, 0))
theorem QB.lt {w : World} {B : Nat} {q : Rq} {pq : Option Addr} {cq : Nat} (h : QB w B q pq cq) : B < w.heap.size := (Array.getElem?_eq_some_iff.1 h.blk).1
theorem QB.up {w w' : World} {B : Nat} {q : Rq} {pq : Option Addr} {cq : Nat} (h : QB w B q pq cq) (hb : Below w.heap.size w w') : QB w' B q pq cq := ⟨(hb.block B h.lt).trans h.blk⟩
theorem QB.cells {w : World} {B : Nat} {q : Rq} {pq : Option Addr} {cq : Nat} (h : QB w B q pq cq) :
    w.cell? ⟨B, 0, none⟩ = some (.string q.who.t) ∧ w.cell? ⟨B, 1, none⟩ = some (.string q.who.i) ∧ w.cell? ⟨B, 2, none⟩ = some (.string q.act.t) ∧ w.cell? ⟨B, 3, none⟩ = some (.string q.act.i) ∧ w.cell? ⟨B, 4, none⟩ = some (.string q.what.t) ∧ w.cell? ⟨B, 5, none⟩ = some (.string q.what.i) ∧ w.cell? ⟨B, 6, none⟩ = some (.slice pq q.cx.length cq) := req_cells h.blk
theorem QB.new (w : World) (q : Rq) (pq : Option Addr) (cq : Nat) : QB (w.alloc (.cells #[.string q.who.t, .string q.who.i, .string q.act.t, .string q.act.i, .string q.what.t, .string q.what.i, .slice pq q.cx.length cq] 27)) w.heap.size q pq cq := ⟨new_at rfl⟩
end Go.Proofs.YtnilaghbbhmkgaaGreatDoor
