/- Package eval: Value, by a walk of its own text. The statements' own num, op, same, empty, fact (package wicketgatelaw3). The statements' own same, empty and fact (package wicketgatelaw3): two answers; what is known. Value as the statements ask it: of lists that they hold. -/
import Derived.Test.YtglhjhbhijekjabGreatDoorG33
import Derived.Test.YtglhjhbhijekjabGreatDoorG40
import Derived.Test.YtglhjhbhijekjabGreatDoorG22
import Derived.Test.YtglhjhbhijekjabGreatDoorG17
import Derived.Test.YtglhjhbhijekjabGreatDoorG15
import Derived.Test.YtglhjhbhijekjabGreatDoorG16
import Derived.Test.YtglhjhbhijekjabGreatDoorG3
import Derived.Deep.RegionHeld
namespace Go.Proofs.YtglhjhbhijekjabGreatDoor
open Go.RowKit
set_option linter.unusedVariables false
set_option linter.unusedSimpArgs false
set_option maxRecDepth 100000

theorem BX.bel {B : Nat} {w w' : World} (h : BX B w w') : Below B w w' ∨ w.heap.size ≤ B := by
  by_cases hB : B < w.heap.size
  · exact .inl (h.below (Nat.le_refl _) hB)
  · exact .inr (by omega)
/-- What is handed to Value. -/
structure EvArg (w : World) (es : List En) (ps : Option Addr) (q : Rq) (pq : Option Addr) (cq : Nat) : Prop where
  el : EL w ps es
  rq : RqArg w q pq cq
  er : ErrVar w
  esN : ∀ e ∈ es, N64 e.nd
  cxN : N64 q.cx
theorem EvArg.up {w w' : World} {es : List En} {ps : Option Addr} {q : Rq} {pq : Option Addr} {cq : Nat} (h : EvArg w es ps q pq cq) (k : Below w.heap.size w w') : EvArg w' es ps q pq cq :=
  ⟨h.el.up k, ⟨h.rq.u0, h.rq.u1, h.rq.u2, h.rq.nl.up k, h.rq.le, h.rq.cm⟩, errVar_below h.er k (Nat.le_refl _), h.esN, h.cxN⟩
theorem req_cells {w : World} {B : Nat} {a0 a1 a2 a3 a4 a5 a6 : Value} {T : TypeId} (h : w.heap[B]? = some (.cells #[a0, a1, a2, a3, a4, a5, a6] T (0, 0))) :
    w.cell? ⟨B, 0, none⟩ = some a0 ∧ w.cell? ⟨B, 1, none⟩ = some a1 ∧ w.cell? ⟨B, 2, none⟩ = some a2 ∧ w.cell? ⟨B, 3, none⟩ = some a3 ∧ w.cell? ⟨B, 4, none⟩ = some a4 ∧ w.cell? ⟨B, 5, none⟩ = some a5 ∧ w.cell? ⟨B, 6, none⟩ = some a6 := by
  simp [World.cell?, h]
set_option maxHeartbeats 1000000 in
theorem evalue_any (es : List En) (ps : Option Addr) (cs : Nat) (q : Rq) (pq : Option Addr) (cq : Nat) (e : List Nd) (p : Option Addr) (c : Nat) (w : World)
    (ha : EvArg w es ps q pq cq) (he : NL w p e) (hl : e.length ≤ maxLen) (hN : N64 e) :
    Calls Tryz.prog 6 #[.slice ps es.length cs, reqV q pq cq, .slice p e.length c] w fun r w' => ValE (valueL es q e) r w' ∧ Below w.heap.size w w' := by
  have HE := fun w1 hl1 => entCheck_any es ps cs w1 hl1
  have HA := fun w1 h1 => ask_any q pq cq w1 h1
  have HT := fun w1 h1 => tcheck_any e p c w1 h1 hl
  obtain ⟨W, hW⟩ : ∃ W, W = w.alloc (.cells #[.string q.who.t, .string q.who.i, .string q.act.t, .string q.act.i, .string q.what.t, .string q.what.i, .slice pq q.cx.length cq] 27) := ⟨_, rfl⟩
  have hbW : Below w.heap.size w W := by rw [hW]; exact (Below.refl _ _).alloc (Nat.le_refl _) _
  have hWs : W.heap.size = w.heap.size + 1 := by rw [hW]; simp
  have hWc : W.heap[w.heap.size]? = some (.cells #[.string q.who.t, .string q.who.i, .string q.act.t, .string q.act.i, .string q.what.t, .string q.what.i, .slice pq q.cx.length cq] 27 (0, 0)) := by rw [hW]; exact new_at rfl
  have haW := ha.up hbW
  have heW := he.up hbW
  unfold reqV at *
  by_cases h1 : stf es = 0
  · rw [eV_nil h1] at HE
    by_cases h2 : askf q = 0
    · rw [eV_nil h2] at HA
      by_cases h3 : xfault e = 0
      · rw [eV_nil h3] at HT
        have HV : Hid (valueL es q e = evE es q (e.length + 1) e) := by show _ = _; unfold valueL; rw [if_pos h1, if_pos h2, if_pos h3]
        have hpe : pastE (e.length + 1) e = some [] := (xfault_zero h3).2
        have hm : EnvOk es q := ⟨h1, h2, ha.esN, ha.cxN⟩
        have hcq := ha.rq.le
        have hcm := ha.rq.cm
        obtain ⟨R, hR⟩ : ∃ R, R = evE es q (e.length + 1) e := ⟨_, rfl⟩
        rw [HV.out, ← hR]
        go_enter Tryz.func6, Tryz.ntmps6
        go_wp2_with fail
        rw [← hW]
        refine (HE _ haW.el).mono ?_
        rintro _ w1 ⟨rfl, hb1⟩
        have ha1 := haW.up hb1
        have r0 := (hb1.block w.heap.size (by omega)).trans hWc
        obtain ⟨x0, x1, x2, x3, x4, x5, x6⟩ := req_cells r0
        go_wp2_with fail
        refine (HA _ ha1.rq).mono ?_
        rintro _ w2 ⟨rfl, hb2⟩
        have ha2 := ha1.up hb2
        have he2 := (heW.up hb1).up hb2
        clear x0 x1 x2 x3 x4 x5 x6
        have r1 := (hb2.block w.heap.size (by have := hb1.size; omega)).trans r0
        go_wp2_with fail
        refine (HT _ he2).mono ?_
        rintro _ w3 ⟨rfl, hb3⟩
        have ha3 := ha2.up hb3
        have he3 := he2.up hb3
        have r2 := (hb3.block w.heap.size (by have := hb1.size; have := hb2.size; omega)).trans r1
        obtain ⟨x0, x1, x2, x3, x4, x5, x6⟩ := req_cells r2
        have hb03 := qbt hbW (qbt (qbt hb1 hb2) hb3)
        let E : EvEnv := ⟨w3, es, ps, cs, q, pq, cq, e, p, c⟩
        have ho : E.Ok := ⟨ha3.el, ha3.rq.nl, he3, hm, h3, hN, ha3.er, ⟨hcq, hcm⟩⟩
        have hs : AS E (w3.alloc (.cells #[.slice ps es.length cs, .string q.who.t, .string q.who.i, .string q.act.t, .string q.act.i, .string q.what.t, .string q.what.i, .slice pq q.cx.length cq, .slice p e.length c, .int .i64 0] 55)) w3.heap.size 0 :=
          ⟨new_at rfl, (Below.refl _ _).alloc (Nat.le_refl _) _, Nat.le_refl _, Nat.zero_le _⟩
        have HO := valueOf_any (all_value (B := w3.heap.size) ho (e.length + 1) (by show e.length + 1 ≤ e.length + 2; omega)) _ hs hpe
        have hb4 : Below w3.heap.size w3 (w3.alloc (.cells #[.slice ps es.length cs, .string q.who.t, .string q.who.i, .string q.act.t, .string q.act.i, .string q.what.t, .string q.what.i, .slice pq q.cx.length cq, .slice p e.length c, .int .i64 0] 55)) := (Below.refl _ _).alloc (Nat.le_refl _) _
        have hlt := hs.lt
        clear hs
        have e5 : evE E.es E.q (e.length + 1) E.e = evE es q (e.length + 1) e := rfl
        rw [e5, ← hR] at HO
        clear HV hm ho h1 h2 h3 hpe hN e5 hR
        go_wp2_with fail
        refine HO.mono ?_
        intro e9 w9 h9
        obtain ⟨hv, hx⟩ := h9
        have hb9 := qbt hb03 (hb4.trans (hx.below (Nat.le_refl _) hlt))
        cases R with
        | ok v =>
          obtain ⟨q9, c9, rfl, h9⟩ := hv
          go_wp2
          go_ret2
          exact ⟨⟨q9, c9, rfl, h9⟩, hb9⟩
        | error n =>
          obtain rfl := hv
          go_wp2
          go_ret2
          exact ⟨rfl, hb9⟩
      · rw [eV_not h3] at HT
        have HV : Hid (valueL es q e = .error (xfault e)) := by show _ = _; unfold valueL; rw [if_pos h1, if_pos h2, if_neg h3]
        clear h1 h2 h3 hN
        rw [HV.out]
        clear HV
        generalize xfault e = n at *
        go_enter Tryz.func6, Tryz.ntmps6
        go_wp2_with fail
        rw [← hW]
        refine (HE _ haW.el).mono ?_
        rintro _ w1 ⟨rfl, hb1⟩
        have ha1 := haW.up hb1
        have r0 := (hb1.block w.heap.size (by omega)).trans hWc
        obtain ⟨x0, x1, x2, x3, x4, x5, x6⟩ := req_cells r0
        go_wp2_with fail
        refine (HA _ ha1.rq).mono ?_
        rintro _ w2 ⟨rfl, hb2⟩
        have he2 := (heW.up hb1).up hb2
        clear x0 x1 x2 x3 x4 x5 x6
        go_wp2_with fail
        refine (HT _ he2).mono ?_
        rintro _ w3 ⟨rfl, hb3⟩
        have hb03 := qbt hbW (qbt (qbt hb1 hb2) hb3)
        go_wp2
        go_ret2
        exact ⟨rfl, hb03⟩
    · rw [eV_not h2] at HA
      have HV : Hid (valueL es q e = .error (askf q)) := by show _ = _; unfold valueL; rw [if_pos h1, if_neg h2]
      clear h1 h2 hN
      rw [HV.out]
      clear HV
      generalize askf q = n at *
      go_enter Tryz.func6, Tryz.ntmps6
      go_wp2_with fail
      rw [← hW]
      refine (HE _ haW.el).mono ?_
      rintro _ w1 ⟨rfl, hb1⟩
      have ha1 := haW.up hb1
      have r0 := (hb1.block w.heap.size (by omega)).trans hWc
      obtain ⟨x0, x1, x2, x3, x4, x5, x6⟩ := req_cells r0
      go_wp2_with fail
      refine (HA _ ha1.rq).mono ?_
      rintro _ w2 ⟨rfl, hb2⟩
      clear x0 x1 x2 x3 x4 x5 x6
      have hb03 := qbt hbW (qbt hb1 hb2)
      go_wp2
      go_ret2
      exact ⟨rfl, hb03⟩
  · rw [eV_not h1] at HE
    have HV : Hid (valueL es q e = .error (stf es)) := by show _ = _; unfold valueL; rw [if_neg h1]
    clear h1 hN
    rw [HV.out]
    clear HV
    generalize stf es = n at *
    go_enter Tryz.func6, Tryz.ntmps6
    go_wp2_with fail
    rw [← hW]
    refine (HE _ haW.el).mono ?_
    rintro _ w1 ⟨rfl, hb1⟩
    have hb03 := qbt hbW hb1
    go_wp2
    go_ret2
    exact ⟨rfl, hb03⟩
end Go.Proofs.YtglhjhbhijekjabGreatDoor
namespace Go.Proofs.YtglhjhbhijekjabGreatDoor
open Go.RowKit
set_option linter.unusedVariables false
set_option maxRecDepth 100000

theorem lnum_fn (n : Int) (w : World) :
    Calls Tryz.prog 17 #[.int .i64 n] w fun e w' => e = .returned (.agg #[.int .i64 2, .int .i64 n, .string ⟨#[]⟩, .string ⟨#[]⟩]) ∧ Below w.heap.size w w' := by
  go_enter Tryz.func17, Tryz.ntmps17
  go_wp2
  refine bodyPost_ret (v := .agg #[.int .i64 2, .int .i64 n, .string ⟨#[]⟩, .string ⟨#[]⟩]) (by simp [results, Tryz.results17, go_sem]) rfl ⟨rfl, ?_⟩
  exact (Below.refl _ _).alloc (Nat.le_refl _) _
theorem LL.layO (w : World) (T : TypeId) (cs : List Value) (vs : List (List Nd)) (hl : cs.length = vs.length) (h : ∀ (i : Nat) (u : Value) (v : List Nd), cs[i]? = some u → vs[i]? = some v → ∃ q c, u = .slice q v.length c ∧ NL w q v ∧ v.length ≤ c ∧ c ≤ maxLen) :
    LL (w.alloc (.cells cs.toArray T)) (some ⟨w.heap.size, 0, none⟩) vs := by
  refine .inr ⟨_, _, rfl, by simp, fun i v hv => ?_⟩
  have hi : i < cs.length := by rw [hl]; exact (List.getElem?_eq_some_iff.1 hv).1
  obtain ⟨q, c, h1, h2, h3, h4⟩ := h i cs[i] v (List.getElem?_eq_getElem hi) hv
  refine ⟨q, c, ?_, h2.up ((Below.refl _ _).alloc (Nat.le_refl _) _), h3, h4⟩
  rw [← h1]
  have : (w.alloc (.cells cs.toArray T)).heap[w.heap.size]? = some (.cells cs.toArray T (0, 0)) := heap_alloc_new _ _
  show (match (w.alloc (.cells cs.toArray T)).heap[w.heap.size]? with | some (.cells c _ _) => c[0 + i]? | _ => none) = _
  rw [this]
  simp [hi]
theorem ON.lit1 (w : World) (x : Nd) (hx : x.wf) : ON (w.alloc (.cells #[.int .i64 x.op, .int .i64 x.n, .string x.s, .string x.t] 34)) w.heap.size (.slice (some ⟨w.heap.size, 0, none⟩) 1 1) [x] :=
  ⟨⟨rfl, .inr ⟨w.heap.size, 1, _, rfl, Nat.le_refl _, heap_alloc_new _ _, Nat.le_refl _, by unfold maxLen; omega, rfl, rfl⟩⟩, by simp [hx]⟩
theorem oN_wf {o : Int} : (oN o).wf := ⟨Nat.zero_le _, Nat.zero_le _, by show (0 : Int) ≤ _; decide⟩
theorem flatO_take {vs : List (List Nd)} {k : Nat} (h : k < vs.length) : (vs.take (k + 1)).flatten = (vs.take k).flatten ++ vs[k] := by
  rw [List.take_succ_eq_append_getElem h, List.flatten_append]; simp
theorem flatO_le {vs : List (List Nd)} (k : Nat) : (vs.take k).flatten.length ≤ vs.flatten.length := by
  conv => rhs; rw [← List.take_append_drop k vs]
  rw [List.flatten_append, List.length_append]; omega
set_option maxHeartbeats 1000000 in
theorem op_any (o : Int) (vs : List (List Nd)) (p : Option Addr) (c : Nat) (w : World) (hv : LL w p vs) (hne : ∀ v ∈ vs, v ≠ []) (hl : vs.flatten.length ≤ 1000) (hc : vs.length ≤ 1000) :
    Calls Tryz.prog 8 #[.int .i64 o, .slice p vs.length c] w fun e w' => (∃ v, e = .returned v ∧ ON w' w.heap.size v (oN o :: vs.flatten)) ∧ Below w.heap.size w w' := by
  have HV : Hid (LL w p vs) := hv
  have HNE : Hid (∀ v ∈ vs, v ≠ []) := hne
  have HL : Hid (vs.flatten.length ≤ 1000) := hl
  clear hv hne hl
  go_enter Tryz.func8, Tryz.ntmps8
  go_wp2
  go_loopw [5, 6] (fun nv i wx => ∃ k : Nat, k ≤ vs.length ∧ i = .int .i64 k ∧ ON wx w.heap.size nv (oN o :: (vs.take k).flatten) ∧ Below w.heap.size w wx) (fun _ i _ => vs.length - (intOf i).toNat)
  case atStart => exact ⟨0, Nat.zero_le _, rfl, ON.lit1 w (oN o) oN_wf, (Below.refl _ _).alloc (Nat.le_refl _) _⟩
  case round =>
    rename World => wx
    obtain ⟨k, hk, rfl, hon, hbx⟩ := hrel
    by_cases hlt : k < vs.length
    · have i1 : (k : Int) < (vs.length : Int) := by omega
      obtain ⟨b, off, q, cc, rfl, hbw, hcell, hnl, h1, h2⟩ := (HV.out.up hbx).at hlt
      have HF : Hid (_ = _) := flatO_take hlt
      have hne := HNE.out vs[k] (List.getElem_mem _)
      have HF1 : Hid _ := flatO_le (vs := vs) (k + 1)
      obtain ⟨b', off', rfl⟩ : ∃ b' off', q = some ⟨b', off', none⟩ := by
        rcases hnl with h | ⟨b', off', h, _⟩
        · exact absurd h hne
        · exact ⟨b', off', h⟩
      have i5 : (vs.take k).flatten.length + vs[k].length ≤ 1000 := by
        have h1 := HF1.out
        rw [HF.out, List.length_append] at h1
        have h2 := HL.out
        omega
      have HO : Hid (ON wx w.heap.size u5 (oN o :: (vs.take k).flatten)) := hon
      have HNL : Hid _ := hnl
      clear hon hnl HF1
      generalize vs[k] = v at *
      go_wp2_with (at_builtin; refine append_nodes wx rfl (.tmp 16) (.tmp 20) rfl w.heap.size u5 (oN o :: (vs.take k).flatten) rfl HO.out v v.length rfl b' off' cc HNL.out rfl (by simp only [List.length_cons]; omega) hbx.size ?_; intro v' w2 hon2 hk2)
      go_roundw
      case rel => exact ⟨k + 1, by omega, by go_num, by rw [HF.out]; exact hon2, hbx.trans hk2.bel⟩
      case measure => simp [intOf]; omega
    · obtain rfl : k = vs.length := by omega
      have i1 : ¬ (vs.length : Int) < (vs.length : Int) := by omega
      rw [List.take_length] at hon
      generalize hF : vs.flatten = F at *
      have HF : Hid (_ = _) := hF
      clear hF
      obtain ⟨g, cap, rfl, _⟩ := hon.slice (by simp)
      have HO : Hid _ := hon
      clear hon
      go_wp2
      go_ret
      rw [HF.out]
      exact ⟨⟨_, rfl, HO.out⟩, hbx⟩
/-- A list of nodes told. -/
structure LArg (w : World) (a : List Nd) (n : Nat) (q : Option Addr) (c : Nat) : Prop where
  len : a.length = n
  nl : NL w q a
  le : n ≤ c
  cm : c ≤ maxLen
  num : N64 a
theorem LArg.up {w w' : World} {a : List Nd} {n : Nat} {q : Option Addr} {c : Nat} (h : LArg w a n q c) (hb : Below w.heap.size w w') : LArg w' a n q c := ⟨h.len, h.nl.up hb, h.le, h.cm, h.num⟩
def OpRet (w : World) (a : List Nd) (n : Nat) (e : Ending) (w' : World) : Prop := (∃ q c, e = .returned (.slice q n c) ∧ LArg w' a n q c) ∧ Below w.heap.size w w'
theorem oN_64 {o : Int} {a : List Nd} (h2 : o ≠ 2) (h : N64 a) : N64 (oN o :: a) := fun x hx he => by
  rcases List.mem_cons.1 hx with rfl | hx
  · exact absurd he h2
  · exact h x hx he
theorem N64.append {a b : List Nd} (h : N64 a) (k : N64 b) : N64 (a ++ b) := fun x hx => (List.mem_append.1 hx).elim (h x) (k x)
theorem opOf {o : Int} {L : List Nd} {w w0 w' : World} {e : Ending} {base m : Nat} (hm : L.length + 1 = m) (h2 : o ≠ 2) (hn : N64 L) (h : (∃ v, e = .returned v ∧ ON w' base v (oN o :: L)) ∧ Below w.heap.size w w') (hb : Below w0.heap.size w0 w) : OpRet w0 (oN o :: L) m e w' := by
  obtain ⟨⟨v, rfl, ho⟩, hb'⟩ := h
  obtain ⟨g, cap, rfl, _, _, h3, h4, h5, _⟩ := ho.slice (by simp)
  simp only [List.length_cons, hm] at h3 ⊢
  exact ⟨⟨_, _, rfl, by simpa using hm, h5, by omega, h4, oN_64 h2 hn⟩, hb.trans (hb'.mono hb.size)⟩
theorem opc1 {o : Int} (h2 : o ≠ 2) {a : List Nd} {n : Nat} {q : Option Addr} {c : Nat} (T : TypeId) (w : World) (ha : LArg w a n q c) (hne : a ≠ []) (hl : n ≤ 300) :
    Calls Tryz.prog 8 #[.int .i64 o, .slice (some ⟨w.heap.size, 0, none⟩) 1 1] (w.alloc (.cells #[.slice q n c] T)) fun e w' => OpRet w (oN o :: a) (n + 1) e w' := by
  obtain ⟨rfl, hnl, h3, h4, h5⟩ := ha
  have hb0 : Below w.heap.size w (w.alloc (.cells #[.slice q a.length c] T)) := (Below.refl _ _).alloc (Nat.le_refl _) _
  have hLL := LL.layO w T [.slice q a.length c] [a] rfl (fun i u v hu hv => by
    match i, hu, hv with
    | 0, hu, hv => simp at hu hv; subst hu hv; exact ⟨q, c, rfl, hnl, h3, h4⟩)
  refine (op_any o [a] _ 1 _ hLL (fun v h => by simp at h; subst h; exact hne) (by simp; omega) (by simp)).mono ?_
  intro e w' h
  have hf : [a].flatten = a := by simp
  rw [hf] at h
  exact opOf rfl h2 h5 h hb0
theorem opc2 {o : Int} (h2 : o ≠ 2) {a b : List Nd} {n n2 : Nat} {q q2 : Option Addr} {c c2 : Nat} (T : TypeId) (w : World) (ha : LArg w a n q c) (hne : a ≠ []) (hl : n ≤ 300) (hb : LArg w b n2 q2 c2) (hne2 : b ≠ []) (hl2 : n2 ≤ 300) :
    Calls Tryz.prog 8 #[.int .i64 o, .slice (some ⟨w.heap.size, 0, none⟩) 2 2] (w.alloc (.cells #[.slice q n c, .slice q2 n2 c2] T)) fun e w' => OpRet w (oN o :: (a ++ b)) (n + n2 + 1) e w' := by
  obtain ⟨rfl, hnl, h3, h4, h5⟩ := ha
  obtain ⟨rfl, hnl2, k3, k4, k5⟩ := hb
  have hb0 : Below w.heap.size w (w.alloc (.cells #[.slice q a.length c, .slice q2 b.length c2] T)) := (Below.refl _ _).alloc (Nat.le_refl _) _
  have hLL := LL.layO w T [.slice q a.length c, .slice q2 b.length c2] [a, b] rfl (fun i u v hu hv => by
    match i, hu, hv with
    | 0, hu, hv => simp at hu hv; subst hu hv; exact ⟨q, c, rfl, hnl, h3, h4⟩
    | 1, hu, hv => simp at hu hv; subst hu hv; exact ⟨q2, c2, rfl, hnl2, k3, k4⟩)
  refine (op_any o [a, b] _ 2 _ hLL (fun v h => by simp at h; rcases h with h | h <;> subst h <;> assumption) (by simp; omega) (by simp)).mono ?_
  intro e w' h
  have hf : [a, b].flatten = a ++ b := by simp
  rw [hf] at h
  exact opOf (by simp) h2 (h5.append k5) h hb0
theorem opc3 {o : Int} (h2 : o ≠ 2) {a b d : List Nd} {n n2 n3 : Nat} {q q2 q3 : Option Addr} {c c2 c3 : Nat} (T : TypeId) (w : World) (ha : LArg w a n q c) (hne : a ≠ []) (hl : n ≤ 300) (hb : LArg w b n2 q2 c2) (hne2 : b ≠ []) (hl2 : n2 ≤ 300) (hd : LArg w d n3 q3 c3) (hne3 : d ≠ []) (hl3 : n3 ≤ 300) :
    Calls Tryz.prog 8 #[.int .i64 o, .slice (some ⟨w.heap.size, 0, none⟩) 3 3] (w.alloc (.cells #[.slice q n c, .slice q2 n2 c2, .slice q3 n3 c3] T)) fun e w' => OpRet w (oN o :: (a ++ (b ++ d))) (n + n2 + n3 + 1) e w' := by
  obtain ⟨rfl, hnl, h3, h4, h5⟩ := ha
  obtain ⟨rfl, hnl2, k3, k4, k5⟩ := hb
  obtain ⟨rfl, hnl3, l3, l4, l5⟩ := hd
  have hb0 : Below w.heap.size w (w.alloc (.cells #[.slice q a.length c, .slice q2 b.length c2, .slice q3 d.length c3] T)) := (Below.refl _ _).alloc (Nat.le_refl _) _
  have hLL := LL.layO w T [.slice q a.length c, .slice q2 b.length c2, .slice q3 d.length c3] [a, b, d] rfl (fun i u v hu hv => by
    match i, hu, hv with
    | 0, hu, hv => simp at hu hv; subst hu hv; exact ⟨q, c, rfl, hnl, h3, h4⟩
    | 1, hu, hv => simp at hu hv; subst hu hv; exact ⟨q2, c2, rfl, hnl2, k3, k4⟩
    | 2, hu, hv => simp at hu hv; subst hu hv; exact ⟨q3, c3, rfl, hnl3, l3, l4⟩)
  refine (op_any o [a, b, d] _ 3 _ hLL (fun v h => by simp at h; rcases h with h | h | h <;> subst h <;> assumption) (by simp; omega) (by simp)).mono ?_
  intro e w' h
  have hf : [a, b, d].flatten = a ++ (b ++ d) := by simp
  rw [hf] at h
  exact opOf (by simp; omega) h2 (h5.append (k5.append l5)) h hb0
end Go.Proofs.YtglhjhbhijekjabGreatDoor
namespace Go.Proofs.YtglhjhbhijekjabGreatDoor
open Go.RowKit
set_option linter.unusedVariables false
set_option maxRecDepth 100000

/-- An answer: a value, or an error. -/
def Ans (w : World) (R : Except Int (List Nd)) (v e : Value) : Prop :=
  match R with
  | .ok a => ∃ q c, v = .slice q a.length c ∧ e = .nilIface ∧ VArg w a a.length q c
  | .error n => v = .slice none 0 0 ∧ e = .iface 43 (.int .i64 n)
theorem ValE.ans {R : Except Int (List Nd)} {e : Ending} {w' : World} (h : ValE R e w') : ∃ v f, e = .returned (.tuple #[v, f]) ∧ Ans w' R v f := by
  cases R with
  | ok a => obtain ⟨q, c, rfl, h⟩ := h; exact ⟨_, _, rfl, q, c, rfl, rfl, h⟩
  | error n => exact ⟨_, _, h, rfl, rfl⟩
theorem Ans.up {w w' : World} {R : Except Int (List Nd)} {v e : Value} (h : Ans w R v e) (hb : Below w.heap.size w w') : Ans w' R v e := by
  cases R with
  | ok a => obtain ⟨q, c, rfl, rfl, h⟩ := h; exact ⟨q, c, rfl, rfl, h.up hb⟩
  | error n => exact h
theorem sameO {a : List Nd} {n : Nat} (hn : a.length = n) {p q : Option Addr} (c1 c2 : Nat) (w : World) (ha : NL w p a) (hb : NL w q a) (hl : n ≤ 1000) :
    Calls Tryz.prog 9 #[.slice p n c1, .slice q n c2] w fun e w' => e = .returned (.bool true) ∧ Below w.heap.size w w' := by
  subst hn
  have h := sameNodes_any a a p q c1 c2 w ha hb (by unfold maxLen; omega) (by unfold maxLen; omega)
  rw [(sameNd_iff _ _).2 rfl] at h
  refine h.mono ?_
  rintro e w' ⟨rfl, n, rfl⟩
  exact ⟨rfl, ⟨rfl, rfl, rfl, Nat.le_refl _, fun _ _ => rfl⟩⟩
theorem same_ans {R : Except Int (List Nd)} {v e v' e' : Value} (w : World) (h : Ans w R v e) (k : Ans w R v' e') (hg : ErrVar w) :
    Calls Tryz.prog 7 #[v, e, v', e'] w fun r w' => r = .returned (.bool true) ∧ Below w.heap.size w w' := by
  have Hg : Hid (ErrVar _) := hg
  clear hg
  cases R with
  | ok a =>
    obtain ⟨q, c, rfl, rfl, h⟩ := h
    obtain ⟨q', c', rfl, rfl, k⟩ := k
    have HS := sameO rfl c c' w h.nl k.nl (by have := h.is.len; omega)
    clear h k
    generalize a.length = n at *
    go_enter Tryz.func7, Tryz.ntmps7
    go_wp2_with fail
    refine HS.mono ?_
    rintro _ w1 ⟨rfl, hb⟩
    go_wp2_with fail
    refine (told2_nil _).mono ?_
    rintro _ w2 ⟨rfl, rfl⟩
    go_wp2_with fail
    go_ret
    exact ⟨rfl, hb⟩
  | error n =>
    obtain ⟨rfl, rfl⟩ := h
    obtain ⟨rfl, rfl⟩ := k
    have HS := sameO (a := []) (n := 0) rfl (p := none) (q := none) 0 0 w (.inl rfl) (.inl rfl) (by omega)
    go_enter Tryz.func7, Tryz.ntmps7
    go_wp2_with fail
    refine HS.mono ?_
    rintro _ w1 ⟨rfl, hb⟩
    have Hg1 : Hid (ErrVar _) := evUp Hg.out hb
    go_wp2_with fail
    refine (told2_errno n n _ Hg1.out).mono ?_
    rintro _ w2 ⟨rfl, hb2⟩
    have e1 : (n == n) = true := by simp
    rw [e1]
    go_wp2_with fail
    go_ret
    exact ⟨rfl, hb.trans (hb2.mono hb.size)⟩
def uA : Ui := ⟨⟨#[65]⟩, ⟨#[]⟩⟩
def q0 : Rq := ⟨uA, uA, uA, [⟨6, 0, ⟨#[]⟩, ⟨#[]⟩⟩]⟩
def n5 (n : Int) : Nd := ⟨2, n, ⟨#[]⟩, ⟨#[]⟩⟩
theorem n5_wf {n : Int} (h : n ≤ 9223372036854775807) : (n5 n).wf := ⟨by unfold maxLen; show 0 ≤ _; decide, by unfold maxLen; show 0 ≤ _; decide, h⟩
theorem lempty_fn (w : World) :
    Calls Tryz.prog 16 #[] w fun e w' => (∃ p, e = .returned (reqV q0 p 1) ∧ RqArg w' q0 p 1) ∧ Below w.heap.size w w' := by
  go_enter Tryz.func16, Tryz.ntmps16
  go_wp2
  refine bodyPost_ret (v := reqV q0 (some ⟨w.heap.size + 1 + 1, 0, none⟩) 1) (by simp [results, Tryz.results16, go_sem]; rfl) rfl ⟨⟨_, rfl, ?_⟩, ?_⟩
  · have hN := NL.lit ((w.alloc (.cells #[.string ⟨#[65]⟩, .string ⟨#[]⟩, .string ⟨#[65]⟩, .string ⟨#[]⟩, .string ⟨#[65]⟩, .string ⟨#[]⟩, .slice (some ⟨w.heap.size + 1 + 1, 0, none⟩) 1 1] 27)).alloc (.cells #[.string ⟨#[65]⟩, .string ⟨#[]⟩] 24)) q0.cx #[.int .i64 6, .int .i64 0, .string ⟨#[]⟩, .string ⟨#[]⟩] (by intro x hx; simp only [q0, List.mem_singleton] at hx; subst hx; exact oN_wf (o := 6)) rfl (by decide)
    simp only [World.alloc, Array.size_push] at hN ⊢
    exact ⟨uf_ok (by kernel_rfl), uf_ok (by kernel_rfl), uf_ok (by kernel_rfl), hN, by decide, by unfold maxLen; decide⟩
  · exact (((Below.refl _ _).alloc (Nat.le_refl _) _).alloc (by simp) _).alloc (by simp; omega) _
theorem stf_nil : stf [] = 0 := by
  unfold stf
  rw [if_neg (by decide), if_pos (show lfault [] [] = 0 from rfl), if_neg]
  rintro ⟨a, h, _⟩
  cases h
theorem val5 : valueL [] q0 [oN 17, n5 2, n5 3] = .ok (mN 5) := by
  have hx : xfault [oN 17, n5 2, n5 3] = 0 := by kernel_rfl
  have h2 : xfault [n5 2] = 0 := by kernel_rfl
  have h3 : xfault [n5 3] = 0 := by kernel_rfl
  have v2 : vfault [n5 2] = 0 := by kernel_rfl
  have v3 : vfault [n5 3] = 0 := by kernel_rfl
  have ha : askf q0 = 0 := by kernel_rfl
  have hs : stf [] = 0 := stf_nil
  rw [valueL_ex hx, if_pos hs, if_pos ha]
  obtain ⟨e1, e2⟩ := ev_two (es := []) (q := q0) (o := 17) h2 h3
  rw [const0 v2] at e1
  rw [const0 v3] at e2
  have : ev0 [] q0 (oN 17 :: ([n5 2] ++ [n5 3])) = bindE (evE [] q0 ((oN 17 :: ([n5 2] ++ [n5 3])).length) ([n5 2] ++ [n5 3])) fun x => bindE (evE [] q0 ((oN 17 :: ([n5 2] ++ [n5 3])).length) (bh ((oN 17 :: ([n5 2] ++ [n5 3])).length) ([n5 2] ++ [n5 3]))) fun y => twoE [] 17 x y := rfl
  rw [e1, e2] at this
  refine this.trans ?_
  have hn : nmf 17 2 3 = 0 := by decide
  show (if nmf 17 2 3 = 0 then Except.ok (mN (nx 17 2 3)) else .error (nmf 17 2 3)) = _
  rw [if_pos hn]
  rfl
set_option maxHeartbeats 600000 in
theorem lfact_any (w : World) (hg : ErrVar w) :
    Calls Tryz.prog 5 #[] w fun e w' => e = .returned (.bool true) ∧ Below w.heap.size w w' := by
  have Hg : Hid (ErrVar _) := hg
  clear hg
  go_enter Tryz.func5, Tryz.ntmps5
  go_wp2_with fail
  refine (lempty_fn _).mono ?_
  rintro _ w1 ⟨⟨p1, rfl, hr1⟩, hb1⟩
  go_wp2_with fail
  refine (lnum_fn _ _).mono ?_
  rintro _ w2 ⟨rfl, hb2⟩
  go_wp2_with fail
  refine (lnum_fn _ _).mono ?_
  rintro _ w3 ⟨rfl, hb3⟩
  go_wp2_with fail
  have hwf : ∀ x ∈ [oN 17, n5 2, n5 3], x.wf := by
    intro x hx
    simp only [List.mem_cons, List.not_mem_nil, or_false] at hx
    rcases hx with rfl | rfl | rfl
    · exact oN_wf
    · exact n5_wf (by decide)
    · exact n5_wf (by decide)
  have h64 : N64 [oN 17, n5 2, n5 3] := by
    intro x hx _
    simp only [List.mem_cons, List.not_mem_nil, or_false] at hx
    unfold Fit
    rcases hx with rfl | rfl | rfl
    · exact ⟨by decide, by decide⟩
    · exact ⟨by decide, by decide⟩
    · exact ⟨by decide, by decide⟩
  have hN := NL.lit w3 [oN 17, n5 2, n5 3] #[.int .i64 17, .int .i64 0, .string ⟨#[]⟩, .string ⟨#[]⟩, .int .i64 2, .int .i64 2, .string ⟨#[]⟩, .string ⟨#[]⟩, .int .i64 2, .int .i64 3, .string ⟨#[]⟩, .string ⟨#[]⟩] hwf rfl (by decide)
  have hba : Below w3.heap.size w3 (w3.alloc (.cells #[.int .i64 17, .int .i64 0, .string ⟨#[]⟩, .string ⟨#[]⟩, .int .i64 2, .int .i64 2, .string ⟨#[]⟩, .string ⟨#[]⟩, .int .i64 2, .int .i64 3, .string ⟨#[]⟩, .string ⟨#[]⟩] 34)) := (Below.refl _ _).alloc (Nat.le_refl _) _
  have hb13 := qbt hb2 hb3
  have hb1a := qbt hb13 hba
  have hb0a := qbt hb1 hb1a
  have hq : EvArg (w3.alloc (.cells #[.int .i64 17, .int .i64 0, .string ⟨#[]⟩, .string ⟨#[]⟩, .int .i64 2, .int .i64 2, .string ⟨#[]⟩, .string ⟨#[]⟩, .int .i64 2, .int .i64 3, .string ⟨#[]⟩, .string ⟨#[]⟩] 34)) [] none q0 p1 1 :=
    ⟨.inl rfl, ⟨hr1.u0, hr1.u1, hr1.u2, hr1.nl.up hb1a, hr1.le, hr1.cm⟩, evUp Hg.out hb0a, (fun e he => by cases he), fun x hx h => by simp only [q0, List.mem_singleton] at hx; subst hx; exact absurd h (by decide : ¬ (6 : Int) = 2)⟩
  have HV := evalue_any [] none 0 q0 p1 1 [oN 17, n5 2, n5 3] (some ⟨w3.heap.size, 0, none⟩) 3 _ hq hN (by unfold maxLen; decide) h64
  rw [val5] at HV
  refine HV.mono ?_
  rintro _ w4 ⟨⟨q4, c4, rfl, hv4⟩, hb4⟩
  have hn4 := hv4.nl
  go_wp2_with fail
  refine (lnum_fn _ _).mono ?_
  rintro _ w5 ⟨rfl, hb5⟩
  have hb05 := qbt (qbt hb0a hb4) hb5
  have hN5 := NL.lit w5 [n5 5] #[.int .i64 2, .int .i64 5, .string ⟨#[]⟩, .string ⟨#[]⟩] (by intro x hx; simp only [List.mem_singleton] at hx; subst hx; exact n5_wf (by decide)) rfl (by decide)
  have hb5a : Below w5.heap.size w5 (w5.alloc (.cells #[.int .i64 2, .int .i64 5, .string ⟨#[]⟩, .string ⟨#[]⟩] 34)) := (Below.refl _ _).alloc (Nat.le_refl _) _
  have hn5 : NL (w5.alloc (.cells #[.int .i64 2, .int .i64 5, .string ⟨#[]⟩, .string ⟨#[]⟩] 34)) q4 [n5 5] := (hn4.up hb5).up hb5a
  clear HV hq hN hn4
  go_wp2_with fail
  refine (sameO (a := [n5 5]) rfl c4 1 _ hn5 hN5 (by decide)).mono ?_
  rintro _ w6 ⟨rfl, hb6⟩
  have hb06 := qbt (qbt hb05 hb5a) hb6
  go_wp2_with fail
  go_ret
  exact ⟨rfl, hb06⟩
end Go.Proofs.YtglhjhbhijekjabGreatDoor
namespace Go.Proofs.YtglhjhbhijekjabGreatDoor
open Go.RowKit
set_option linter.unusedVariables false
set_option maxRecDepth 100000

theorem evalue_arg {es : List En} {ps : Option Addr} (cs : Nat) {q : Rq} {pq : Option Addr} {cq : Nat} {a : List Nd} {n : Nat} {p : Option Addr} {c : Nat} (w : World) (ha : EvArg w es ps q pq cq) (he : LArg w a n p c) {R : Except Int (List Nd)} (hR : valueL es q a = R) :
    Calls Tryz.prog 6 #[.slice ps es.length cs, reqV q pq cq, .slice p n c] w fun r w' => (∃ v f, r = .returned (.tuple #[v, f]) ∧ Ans w' R v f) ∧ Below w.heap.size w w' := by
  subst hR
  obtain ⟨rfl, h1, h2, h3, h4⟩ := he
  refine (evalue_any es ps cs q pq cq a p c w ha h1 (Nat.le_trans h2 h3) h4).mono ?_
  rintro e w' ⟨h, hb⟩
  exact ⟨h.ans, hb⟩
theorem vcheck_arg {a : List Nd} {n : Nat} {p : Option Addr} {c : Nat} (w : World) (he : LArg w a n p c) :
    Calls Tryz.prog 23 #[.slice p n c] w fun e w' => e = .returned (eV (vfault a)) ∧ Below w.heap.size w w' := by
  obtain ⟨rfl, h1, h2, h3, h4⟩ := he
  exact vcheck_any a p c w h1 h2 h3
theorem tcheck_arg {a : List Nd} {n : Nat} {p : Option Addr} {c : Nat} (w : World) (he : LArg w a n p c) :
    Calls Tryz.prog 18 #[.slice p n c] w fun e w' => e = .returned (eV (xfault a)) ∧ Below w.heap.size w w' := by
  obtain ⟨rfl, h1, h2, h3, h4⟩ := he
  exact tcheck_any a p c w h1 (Nat.le_trans h2 h3)
theorem value_val {es : List En} {q : Rq} {v : List Nd} (h : vfault v = 0) (h1 : stf es = 0) (h2 : askf q = 0) : valueL es q v = .ok v := by
  rw [valueL_ex (value_ex h), if_pos h1, if_pos h2, const0 h]
theorem VArg.l {w : World} {a : List Nd} {n : Nat} {q : Option Addr} {c : Nat} (h : VArg w a n q c) : LArg w a n q c := ⟨h.len, h.nl, h.le, h.cm, h.is.num⟩
/-- A request that a statement keeps in a block of its own. -/
structure QB (w : World) (B : Nat) (q : Rq) (pq : Option Addr) (cq : Nat) : Prop where
  blk : w.heap[B]? = some (.cells #[.string q.who.t, .string q.who.i, .string q.act.t, .string q.act.i, .string q.what.t, .string q.what.i, .slice pq q.cx.length cq] 27 (0, 0))
theorem QB.lt {w : World} {B : Nat} {q : Rq} {pq : Option Addr} {cq : Nat} (h : QB w B q pq cq) : B < w.heap.size := (Array.getElem?_eq_some_iff.1 h.blk).1
theorem QB.up {w w' : World} {B : Nat} {q : Rq} {pq : Option Addr} {cq : Nat} (h : QB w B q pq cq) (hb : Below w.heap.size w w') : QB w' B q pq cq := ⟨(hb.block B h.lt).trans h.blk⟩
theorem QB.cells {w : World} {B : Nat} {q : Rq} {pq : Option Addr} {cq : Nat} (h : QB w B q pq cq) :
    w.cell? ⟨B, 0, none⟩ = some (.string q.who.t) ∧ w.cell? ⟨B, 1, none⟩ = some (.string q.who.i) ∧ w.cell? ⟨B, 2, none⟩ = some (.string q.act.t) ∧ w.cell? ⟨B, 3, none⟩ = some (.string q.act.i) ∧ w.cell? ⟨B, 4, none⟩ = some (.string q.what.t) ∧ w.cell? ⟨B, 5, none⟩ = some (.string q.what.i) ∧ w.cell? ⟨B, 6, none⟩ = some (.slice pq q.cx.length cq) := req_cells h.blk
theorem QB.new (w : World) (q : Rq) (pq : Option Addr) (cq : Nat) : QB (w.alloc (.cells #[.string q.who.t, .string q.who.i, .string q.act.t, .string q.act.i, .string q.what.t, .string q.what.i, .slice pq q.cx.length cq] 27)) w.heap.size q pq cq := ⟨new_at rfl⟩
theorem qbA {a b : World} (h : Below a.heap.size a b) {o : Obj} : Below a.heap.size a (b.alloc o) := qbt h ((Below.refl _ _).alloc (Nat.le_refl _) o)
theorem qbD {a b : World} (h : Below a.heap.size a b) : Below a.heap.size a b.drew := ⟨h.os, h.tape, h.output, h.size, h.block⟩
theorem LL1 {w : World} {a : List Nd} {n : Nat} {q : Option Addr} {c : Nat} (h : LArg w a n q c) {T : TypeId} {N : Nat} (hN : w.heap.size = N) : LL (w.alloc (.cells #[.slice q n c] T)) (some ⟨N, 0, none⟩) [a] := by
  obtain ⟨rfl, hnl, h3, h4, h5⟩ := h
  subst hN
  exact LL.layO w T [.slice q a.length c] [a] rfl (fun i u v hu hv => by
    match i, hu, hv with
    | 0, hu, hv => simp at hu hv; subst hu hv; exact ⟨q, c, rfl, hnl, h3, h4⟩)
theorem LL2 {w : World} {a b : List Nd} {n n2 : Nat} {q q2 : Option Addr} {c c2 : Nat} (h : LArg w a n q c) (k : LArg w b n2 q2 c2) {T : TypeId} {N : Nat} (hN : w.heap.size = N) : LL (w.alloc (.cells #[.slice q n c, .slice q2 n2 c2] T)) (some ⟨N, 0, none⟩) [a, b] := by
  obtain ⟨rfl, hnl, h3, h4, h5⟩ := h
  obtain ⟨rfl, hnl2, k3, k4, k5⟩ := k
  subst hN
  exact LL.layO w T [.slice q a.length c, .slice q2 b.length c2] [a, b] rfl (fun i u v hu hv => by
    match i, hu, hv with
    | 0, hu, hv => simp at hu hv; subst hu hv; exact ⟨q, c, rfl, hnl, h3, h4⟩
    | 1, hu, hv => simp at hu hv; subst hu hv; exact ⟨q2, c2, rfl, hnl2, k3, k4⟩)
theorem LL3 {w : World} {a b d : List Nd} {n n2 n3 : Nat} {q q2 q3 : Option Addr} {c c2 c3 : Nat} (h : LArg w a n q c) (k : LArg w b n2 q2 c2) (l : LArg w d n3 q3 c3) {T : TypeId} {N : Nat} (hN : w.heap.size = N) : LL (w.alloc (.cells #[.slice q n c, .slice q2 n2 c2, .slice q3 n3 c3] T)) (some ⟨N, 0, none⟩) [a, b, d] := by
  obtain ⟨rfl, hnl, h3, h4, h5⟩ := h
  obtain ⟨rfl, hnl2, k3, k4, k5⟩ := k
  obtain ⟨rfl, hnl3, l3, l4, l5⟩ := l
  subst hN
  exact LL.layO w T [.slice q a.length c, .slice q2 b.length c2, .slice q3 d.length c3] [a, b, d] rfl (fun i u v hu hv => by
    match i, hu, hv with
    | 0, hu, hv => simp at hu hv; subst hu hv; exact ⟨q, c, rfl, hnl, h3, h4⟩
    | 1, hu, hv => simp at hu hv; subst hu hv; exact ⟨q2, c2, rfl, hnl2, k3, k4⟩
    | 2, hu, hv => simp at hu hv; subst hu hv; exact ⟨q3, c3, rfl, hnl3, l3, l4⟩)
theorem op_at (o : Int) (h2 : o ≠ 2) (vs : List (List Nd)) (L : List Nd) (hL : vs.flatten = L) (hn : N64 L) (m n : Nat) (hm : vs.length = m) (hln : L.length + 1 = n) (hne : ∀ v ∈ vs, v ≠ []) (hl : n ≤ 600) (hm2 : m ≤ 600) {p : Option Addr} {c : Nat} {w : World} (hv : LL w p vs) :
    Calls Tryz.prog 8 #[.int .i64 o, .slice p m c] w fun e w' => OpRet w (oN o :: L) n e w' := by
  subst hL hm
  refine (op_any o vs p c w hv hne (by omega) (by omega)).mono ?_
  intro e w' h
  exact opOf hln h2 hn h (Below.refl _ _)
theorem op1_at (o : Int) (h2 : o ≠ 2) {w0 : World} {a : List Nd} {n : Nat} {q : Option Addr} {c0 : Nat} (ha : LArg w0 a n q c0) (hne : a ≠ []) (hl : n ≤ 300) {p : Option Addr} {c : Nat} {w : World} (hv : LL w p [a]) :
    Calls Tryz.prog 8 #[.int .i64 o, .slice p 1 c] w fun e w' => OpRet w (oN o :: a) (n + 1) e w' :=
  op_at o h2 [a] a (by simp) ha.num 1 (n + 1) rfl (by rw [ha.len]) (by simpa using hne) (by omega) (by omega) hv
theorem op2_at (o : Int) (h2 : o ≠ 2) {w0 : World} {a b : List Nd} {n n2 : Nat} {q q2 : Option Addr} {c0 c02 : Nat} (ha : LArg w0 a n q c0) (hne : a ≠ []) (hl : n ≤ 299) (hb : LArg w0 b n2 q2 c02) (hne2 : b ≠ []) (hl2 : n2 ≤ 299) {p : Option Addr} {c : Nat} {w : World} (hv : LL w p [a, b]) :
    Calls Tryz.prog 8 #[.int .i64 o, .slice p 2 c] w fun e w' => OpRet w (oN o :: (a ++ b)) (n + n2 + 1) e w' :=
  op_at o h2 [a, b] (a ++ b) (by simp) (ha.num.append hb.num) 2 (n + n2 + 1) rfl (by rw [List.length_append, ha.len, hb.len]) (by intro v hv; simp at hv; rcases hv with rfl | rfl <;> assumption) (by omega) (by omega) hv
theorem op3_at (o : Int) (h2 : o ≠ 2) {w0 : World} {a b d : List Nd} {n n2 n3 : Nat} {q q2 q3 : Option Addr} {c0 c02 c03 : Nat} (ha : LArg w0 a n q c0) (hne : a ≠ []) (hl : n ≤ 199) (hb : LArg w0 b n2 q2 c02) (hne2 : b ≠ []) (hl2 : n2 ≤ 199) (hd : LArg w0 d n3 q3 c03) (hne3 : d ≠ []) (hl3 : n3 ≤ 199) {p : Option Addr} {c : Nat} {w : World} (hv : LL w p [a, b, d]) :
    Calls Tryz.prog 8 #[.int .i64 o, .slice p 3 c] w fun e w' => OpRet w (oN o :: (a ++ (b ++ d))) (n + n2 + n3 + 1) e w' :=
  op_at o h2 [a, b, d] (a ++ (b ++ d)) (by simp) (ha.num.append (hb.num.append hd.num)) 3 (n + n2 + n3 + 1) rfl (by rw [List.length_append, List.length_append, ha.len, hb.len, hd.len]; omega) (by intro v hv; simp at hv; rcases hv with rfl | rfl | rfl <;> assumption) (by omega) (by omega) hv
end Go.Proofs.YtglhjhbhijekjabGreatDoor
