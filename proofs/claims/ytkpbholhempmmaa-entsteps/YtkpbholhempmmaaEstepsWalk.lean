/- EntSteps: the walk of the statement's own function. -/
import Derived.Test.YtkpbholhempmmaaEntAbove
import Derived.Test.YtkpbholhempmmaaEntFact
import Derived.Test.YtkpbholhempmmaaUidsC
namespace Go.Proofs.Ytkpbholhempmmaa
open Go.RowKit Go.Maps Go.WideMaps
set_option linter.unusedVariables false
set_option linter.unusedSimpArgs false

/-- The cells of two boxes. -/
structure Box2 (w : World) (n : Nat) (a b : Ui) : Prop where
  a0 : w.cell? ⟨n, 0, none⟩ = some (.string a.t)
  a1 : w.cell? ⟨n, 1, none⟩ = some (.string a.i)
  b0 : w.cell? ⟨n + 1, 0, none⟩ = some (.string b.t)
  b1 : w.cell? ⟨n + 1, 1, none⟩ = some (.string b.i)
  lt : n + 1 < w.heap.size
theorem Box2.up {w w' : World} {n : Nat} {a b : Ui} (h : Box2 w n a b) (k : Below w.heap.size w w') : Box2 w' n a b := by
  have hl := h.lt
  have q : ∀ m o, m < w.heap.size → w'.cell? ⟨m, o, none⟩ = w.cell? ⟨m, o, none⟩ := fun m o hm => k.cell (p := ⟨m, o, none⟩) hm
  exact ⟨(q _ _ (by omega)).trans h.a0, (q _ _ (by omega)).trans h.a1, (q _ _ (by omega)).trans h.b0, (q _ _ (by omega)).trans h.b1, Nat.lt_of_lt_of_le hl k.size⟩
theorem Box2.made (w : World) (a b : Ui) (t : TypeId) : Box2 ((w.alloc (.cells #[.string a.t, .string a.i] t)).alloc (.cells #[.string b.t, .string b.i] t)) w.heap.size a b := by
  refine ⟨?_, ?_, ?_, ?_, by simp⟩
  · rw [cell_old (by simp), cell_new rfl]; rfl
  · rw [cell_old (by simp), cell_new rfl]; rfl
  · rw [cell_new (by simp)]; rfl
  · rw [cell_new (by simp)]; rfl
theorem bS {W w1 w2 : World} (h : Below W.heap.size W w1) (k : Below w1.heap.size w1 w2) : Below W.heap.size W w2 := h.trans (k.mono h.size)

/-- Where a uid stands among the first k: its last place, or -1. -/
def HereAt (es : List En) (a : Ui) (k : Nat) (z : Int) : Prop :=
  (z = -1 ∧ ∀ e ∈ es.take k, e.u ≠ a) ∨ ∃ m : Nat, z = m ∧ m < k ∧ ∃ e, es[m]? = some e ∧ e.u = a
theorem HereAt.start (es : List En) (a : Ui) : HereAt es a 0 (-1) := .inl ⟨rfl, fun e he => (by simp at he)⟩
theorem HereAt.miss {es : List En} {a : Ui} {k : Nat} {z : Int} (h : HereAt es a k z) (hk : k < es.length) (hne : es[k].u ≠ a) : HereAt es a (k + 1) z := by
  rcases h with ⟨h1, h2⟩ | ⟨m, h1, h2, h3⟩
  · refine .inl ⟨h1, fun e he => ?_⟩
    rw [List.take_succ_eq_append_getElem hk] at he
    rcases List.mem_append.1 he with he | he
    · exact h2 e he
    · rw [List.mem_singleton.1 he]; exact hne
  · exact .inr ⟨m, h1, by omega, h3⟩
theorem HereAt.hit {es : List En} {a : Ui} {k : Nat} (hk : k < es.length) (he : es[k].u = a) : HereAt es a (k + 1) k :=
  .inr ⟨k, rfl, by omega, es[k], List.getElem?_eq_getElem hk, he⟩

theorem abv_ok {es : List En} (hg : Good es) {a x : Ui} (h : Abv es a x) : UOk x := by
  induction h with
  | one h =>
    obtain ⟨e, he, _, h2⟩ := upsOf_mem h
    exact uf_ok ((hg.ups e he).2 _ (by rw [h2]; exact h))
  | more _ _ ih => exact ih
open Classical in
noncomputable def innB (es : List En) (u y : Ui) : Bool := decide (Inn es u y)
open Classical in
theorem innB_iff (es : List En) (u y : Ui) : innB es u y = true ↔ Inn es u y := by unfold innB; rw [decide_eq_true_iff]
theorem inB_any (es : List En) (p : Option Addr) (c : Nat) (a b : Ui) (w : World) (hl : EL w p es) (ha : UOk a) (hb : UOk b) (h : sfault es = 0) :
    Calls Try.prog 7 #[.slice p es.length c, .agg #[.string a.t, .string a.i], .agg #[.string b.t, .string b.i]] w fun e w' => e = .returned (.tuple #[.bool (innB es a b), .nilIface]) ∧ Below w.heap.size w w' := by
  refine (in_ok es p c a b w hl ha hb h).mono ?_
  rintro e w' ⟨r, rfl, hr, hb⟩
  refine ⟨?_, hb⟩
  have : r = innB es a b := by rw [Bool.eq_iff_iff, hr, innB_iff]
  rw [this]
/-- Some of the first k is the other one, or below it. -/
def WantAt (es : List En) (l : List Ui) (b : Ui) (k : Nat) (r : Bool) : Prop := r = true ↔ ∃ x ∈ l.take k, Inn es x b
theorem WantAt.start (es : List En) (l : List Ui) (b : Ui) : WantAt es l b 0 false := ⟨fun h => (by cases h), fun ⟨x, hx, _⟩ => (by simp at hx)⟩
theorem WantAt.yes {es : List En} {l : List Ui} {b : Ui} {k : Nat} {r : Bool} (hk : k < l.length) (h : Inn es l[k] b) : WantAt es l b (k + 1) true :=
  ⟨fun _ => ⟨l[k], by rw [List.take_succ_eq_append_getElem hk]; exact List.mem_append_right _ (List.mem_singleton.2 rfl), h⟩, fun _ => rfl⟩
theorem WantAt.no {es : List En} {l : List Ui} {b : Ui} {k : Nat} {r : Bool} (h0 : WantAt es l b k r) (hk : k < l.length) (h : ¬ Inn es l[k] b) : WantAt es l b (k + 1) r := by
  constructor
  · intro hr
    obtain ⟨x, hx, hi⟩ := h0.1 hr
    exact ⟨x, by rw [List.take_succ_eq_append_getElem hk]; exact List.mem_append_left _ hx, hi⟩
  · rintro ⟨x, hx, hi⟩
    rw [List.take_succ_eq_append_getElem hk] at hx
    rcases List.mem_append.1 hx with hx | hx
    · exact h0.2 ⟨x, hx, hi⟩
    · rw [List.mem_singleton.1 hx] at hi; exact absurd hi h
def HasAt (l : List Ui) (b : Ui) (k : Nat) (r : Bool) : Prop := r = true ↔ b ∈ l.take k
theorem HasAt.start (l : List Ui) (b : Ui) : HasAt l b 0 false := ⟨fun h => (by cases h), fun h => (by simp at h)⟩
theorem HasAt.yes {l : List Ui} {b : Ui} {k : Nat} (hk : k < l.length) (h : l[k] = b) : HasAt l b (k + 1) true :=
  ⟨fun _ => by rw [List.take_succ_eq_append_getElem hk]; exact List.mem_append_right _ (List.mem_singleton.2 h.symm), fun _ => rfl⟩
theorem HasAt.no {l : List Ui} {b : Ui} {k : Nat} {r : Bool} (h0 : HasAt l b k r) (hk : k < l.length) (h : l[k] ≠ b) : HasAt l b (k + 1) r := by
  unfold HasAt at *
  rw [List.take_succ_eq_append_getElem hk, List.mem_append, List.mem_singleton, h0]
  exact ⟨fun h => .inl h, fun h' => h'.elim id (fun q => absurd q.symm h)⟩

set_option maxRecDepth 100000 in
set_option maxHeartbeats 8000000 in
theorem esteps_walk (es : List En) (p : Option Addr) (cp : Nat) (a b : Ui) (w : World) (hl : EL w p es) (hcp : es.length ≤ cp) (hcm : cp ≤ maxLen) (ha : UOk a) (hb : UOk b) :
    Calls Try.prog 4 #[.slice p es.length cp, .agg #[.string a.t, .string a.i], .agg #[.string b.t, .string b.i]] w fun e w' => e = .returned (.bool true) ∧ Below w.heap.size w w' := by
  unfold maxLen at hcm
  have hbx : Below w.heap.size w ((w.alloc (.cells #[.string a.t, .string a.i] 24)).alloc (.cells #[.string b.t, .string b.i] 24)) := ((Below.refl _ _).alloc (Nat.le_refl _) _).alloc (by simp) _
  have HB : Hid (Below w.heap.size w _) := hbx
  have HX : Hid (Box2 _ _ _ _) := Box2.made w a b 24
  have HL : Hid (EL w p es) := hl
  clear hbx hl
  go_enter Try.func4, Try.ntmps4
  go_wp2_with fail
  refine (fact_any _).mono ?_
  rintro e w1 ⟨rfl, k1⟩
  replace HB : Hid (Below w.heap.size w w1) := bS HB.out k1
  replace HX : Hid (Box2 w1 w.heap.size a b) := HX.out.up k1
  obtain ⟨a0, a1, b0, b1, lt⟩ := HX.out
  clear k1
  by_cases h0 : sfault es = 0
  · have H0 : Hid (_ = _) := h0
    clear h0
    go_wp2_with fail
    refine (above_ok es p cp a _ (HL.out.up HB.out) ha H0.out).mono ?_
    rintro e w2 ⟨q, c', l, rfl, hUL, hI, hl1, hl2, k2⟩
    have hl3 : l.length ≤ 9223372036854775807 := by unfold maxLen at hl2; omega
    have HUL : Hid (UL w2 q l) := hUL
    have HI : Hid (IsAbove es a l) := hI
    replace HB : Hid (Below w.heap.size w w2) := bS HB.out k2
    replace HX : Hid (Box2 w2 w.heap.size a b) := HX.out.up k2
    have HB2 : Hid (Below w2.heap.size w2 w2) := Below.refl _ _
    clear k2 hUL hI a0 a1 b0 b1 lt
    go_wp2_with fail
    go_loopw [10, 11] (fun hv iv wr => ∃ (k n : Nat) (z : Int), k ≤ es.length ∧ iv = .int .i64 k ∧ hv = .int .i64 z ∧ wr = w2.drewN n ∧ Hid (HereAt es a k z)) (fun _ iv _ => es.length - (intOf iv).toNat)
    case atStart => exact ⟨0, 0, -1, Nat.zero_le _, rfl, rfl, rfl, HereAt.start es a⟩
    case round =>
      obtain ⟨k, n, z, hk, rfl, rfl, rfl, HH⟩ := hrel
      by_cases hlt : k < es.length
      · have i1 : (k : Int) < (es.length : Int) := by omega
        obtain ⟨bb, off, pu, cu, pa, ca, rfl, hbl, _, _, _, _, _, _, _, _, _, c0, c1, _, _⟩ := (HL.out.up HB.out).at hlt
        obtain ⟨a0, a1, b0, b1, lt⟩ := HX.out
        have HMS : Hid (es[k].u ≠ a → HereAt es a (k + 1) z) := fun h => HH.out.miss hlt h
        have HHT : Hid (es[k].u = a → HereAt es a (k + 1) k) := fun h => HereAt.hit hlt h
        generalize es[k].u = x at c0 c1 HMS HHT
        rcases uid_cases x a with rfl | ⟨hne, ht⟩ | ⟨hne, ii, rfl, ht⟩
        · have HH2 : Hid (HereAt es x (k + 1) k) := HHT.out rfl
          clear HMS HHT
          go_wp2_with fail
          go_quiet (fail)
          go_wp2_with fail
          go_roundw
          case rel => exact ⟨k + 1, _, k, by omega, by go_num, rfl, rfl, HH2⟩
          case measure => simp [intOf]; omega
        · have HH2 : Hid (HereAt es a (k + 1) z) := HMS.out hne
          clear HMS HHT hne
          go_wp2_with fail
          go_quiet (fail)
          go_wp2_with fail
          go_roundw
          case rel => exact ⟨k + 1, _, z, by omega, by go_num, rfl, rfl, HH2⟩
          case measure => simp [intOf]; omega
        · have HH2 : Hid (HereAt es a (k + 1) z) := HMS.out hne
          clear HMS HHT hne
          simp only at c0 c1
          go_wp2_with fail
          go_quiet (fail)
          go_wp2_with fail
          go_roundw
          case rel => exact ⟨k + 1, _, z, by omega, by go_num, rfl, rfl, HH2⟩
          case measure => simp [intOf]; omega
      · obtain rfl : k = es.length := by omega
        have i1 : ¬ (es.length : Int) < (es.length : Int) := by omega
        rcases HH.out with ⟨rfl, hno⟩ | ⟨m, rfl, hm, e, hem, heu⟩
        · have HL0 : Hid (l.length = 0) := by
            show _ = _
            rw [List.length_eq_zero_iff, List.eq_nil_iff_forall_not_mem]
            intro x hx
            obtain ⟨e, he, heu⟩ := ((HI.out.2 x).1 hx).from
            exact hno e (by rw [List.take_length]; exact he) heu
          have hl0 : ((l.length : Int) == 0) = true := by rw [HL0.out]; rfl
          clear hno HH
          go_wp2_with fail
          go_ret
          exact ⟨rfl, belN HB.out _⟩
        · have hmi : ¬ (m : Int) < 0 := by omega
          have hml : (m : Int) < (es.length : Int) := by omega
          have HUQ : Hid (Uniq es) := (sfault_zero H0.out).uniq
          obtain ⟨bb, off, pu, cu, pa, ca, rfl, hbl, _, hUP, _, _, hoU, hu1, hu2, _, _, _, _, c2, _⟩ := (HL.out.up HB.out).at hm
          have hem' : es[m] = e := by have := List.getElem?_eq_getElem hm; rw [hem] at this; exact (Option.some.inj this).symm
          rw [hem'] at hUP hoU hu1 c2
          have HUPS : Hid (e.up = upsOf es a) := by
            show _ = _
            rw [← heu]
            exact (upsOf_of_mem HUQ.out (List.mem_of_getElem? hem)).symm
          unfold maxLen at hu2
          have HUP : Hid (UL w2 pu e.up) := hUP
          have HOU : Hid (∀ _, _) := hoU
          have HC2 : Hid (∀ w', Below w2.heap.size w2 w' → w'.cell? ⟨bb, off + m * 4 + 2, none⟩ = some (.slice pu e.up.length cu)) := fun w' k => (k.cell (p := ⟨bb, off + m * 4 + 2, none⟩) hbl).trans c2
          have HAO : Hid (∀ x ∈ l, UOk x) := fun x hx => abv_ok (sfault_zero H0.out) ((HI.out.2 x).1 hx)
          generalize e.up = ul at *
          clear hem hem' heu hUP hoU c2 HH
          go_wp2_with fail
          go_loopw [12, 13] (fun hv iv wr => ∃ (k : Nat) (r : Bool), k ≤ l.length ∧ iv = .int .i64 k ∧ hv = .bool r ∧ Hid (HasAt l b k r) ∧ Hid (Below w2.heap.size w2 wr)) (fun _ iv _ => l.length - (intOf iv).toNat)
          case atStart => exact ⟨0, false, Nat.zero_le _, rfl, rfl, HasAt.start l b, belN (Below.refl _ _) _⟩
          case round =>
            obtain ⟨k, r, hk, rfl, rfl, HR, HBW⟩ := hrel
            obtain ⟨_, _, b0, b1, lt⟩ := HX.out.up HBW.out
            by_cases hlt : k < l.length
            · have i2 : (k : Int) < (l.length : Int) := by omega
              obtain ⟨bl, ol, rfl, hbl2, g0, g1⟩ := HUL.out.at hlt
              have HCX : Hid (∀ v, Below w2.heap.size w2 v → v.cell? ⟨bl, ol + k * 2, none⟩ = some (.string l[k].t) ∧ v.cell? ⟨bl, ol + k * 2 + 1, none⟩ = some (.string l[k].i)) := fun v h => ⟨(h.cell (p := ⟨bl, ol + k * 2, none⟩) hbl2).trans g0, (h.cell (p := ⟨bl, ol + k * 2 + 1, none⟩) hbl2).trans g1⟩
              have HYES : Hid (l[k] = b → HasAt l b (k + 1) true) := fun h => HasAt.yes hlt h
              have HNO : Hid (l[k] ≠ b → HasAt l b (k + 1) r) := fun h => HR.out.no hlt h
              -- what stands ahead of it
              have HASC : Hid (∀ (_ : 0 < k), ∃ y : Ui, (∀ v, Below w2.heap.size w2 v → v.cell? ⟨bl, ol + (k - 1) * 2, none⟩ = some (.string y.t) ∧ v.cell? ⟨bl, ol + (k - 1) * 2 + 1, none⟩ = some (.string y.i)) ∧ uC y l[k] < 0 ∧ UOk y ∧ UOk l[k]) := by
                intro h0
                obtain ⟨bl', ol', he, hb', y0, y1⟩ := HUL.out.at (show k - 1 < l.length by omega)
                cases he
                refine ⟨l[k - 1], fun v h => ⟨(h.cell (p := ⟨bl, ol + (k - 1) * 2, none⟩) hb').trans y0, (h.cell (p := ⟨bl, ol + (k - 1) * 2 + 1, none⟩) hb').trans y1⟩, List.pairwise_iff_getElem.1 HI.out.1 (k - 1) k (by omega) hlt (by omega), ?_, ?_⟩
                · exact HAO.out _ (List.getElem_mem _)
                · exact HAO.out _ (List.getElem_mem _)
              generalize l[k] = x at HCX HYES HNO HASC
              obtain ⟨x0, x1⟩ := HCX.out wr HBW.out
              clear g0 g1
              cases k with
              | succ j =>
                obtain ⟨y, hcy, hyx, hoy, hox⟩ := HASC.out (Nat.succ_pos j)
                simp only [Nat.add_sub_cancel] at hcy
                have HCY : Hid (∀ _, _) := hcy
                have i3 : (j : Int) < (l.length : Int) := by omega
                have i4 : (0 : Int) < (j : Int) + 1 := by omega
                have i5 : (j : Int) + 1 < (l.length : Int) := by omega
                have hyx' : ¬ (0 : Int) ≤ uC y x := by omega
                have HCALL : Hid (∀ v, Calls Try.prog 9 #[.agg #[.string y.t, .string y.i], .agg #[.string x.t, .string x.i]] v (fun e w'' => e = .returned (.int .i64 (uC y x)) ∧ Below v.heap.size v w'')) := fun v => uidsC_any y x v hoy hox
                generalize uC y x = cz at HCALL hyx hyx'
                clear HASC hcy
                rcases uid_cases x b with rfl | ⟨hne, ht⟩ | ⟨hne, ii, rfl, ht⟩
                · have HH2 : Hid (HasAt l x (j + 1 + 1) true) := HYES.out rfl
                  clear HYES HNO
                  go_wp2_with fail
                  go_quiet (fail)
                  go_wp2_with fail
                  have HBQ : Hid (Below w2.heap.size w2 (wr.drewN nq)) := belN HBW.out nq
                  generalize wr.drewN nq = wq at HBQ ⊢
                  have hz0 : ∀ q : BW wq.heap.size wq, q.at_.cell? ⟨bl, ol + (j + 1) * 2, none⟩ = some (.string x.t) := fun q => (HCX.out _ (HBQ.out.trans (q.bel.mono HBQ.out.size))).1
                  have hz1 : ∀ q : BW wq.heap.size wq, q.at_.cell? ⟨bl, ol + (j + 1) * 2 + 1, none⟩ = some (.string x.i) := fun q => (HCX.out _ (HBQ.out.trans (q.bel.mono HBQ.out.size))).2
                  have hv0 : ∀ q : BW wq.heap.size wq, q.at_.cell? ⟨bl, ol + j * 2, none⟩ = some (.string y.t) := fun q => (HCY.out _ (HBQ.out.trans (q.bel.mono HBQ.out.size))).1
                  have hv1 : ∀ q : BW wq.heap.size wq, q.at_.cell? ⟨bl, ol + j * 2 + 1, none⟩ = some (.string y.i) := fun q => (HCY.out _ (HBQ.out.trans (q.bel.mono HBQ.out.size))).2
                  have hcall : ∀ q : BW wq.heap.size wq, Calls Try.prog 9 #[.agg #[.string y.t, .string y.i], .agg #[.string x.t, .string x.i]] q.at_ (fun e w'' => e = .returned (.int .i64 cz) ∧ ∃ p' : BW wq.heap.size wq, w'' = p'.at_) := fun q => Calls.bel q (HCALL.out q.at_)
                  refine wp_region_bel (by kernel_rfl) (by kernel_rfl) ?_
                  repeat (go_big_quiet_step (exact hcall _))
                  refine wpQuiet_nil ?_
                  rintro _ ⟨q, rfl⟩
                  have HBW2 : Hid (Below w2.heap.size w2 q.at_) := HBQ.out.trans (q.bel.mono HBQ.out.size)
                  clear hz0 hz1 hv0 hv1 hcall
                  go_wp2_with fail
                  go_roundw
                  case rel => exact ⟨j + 1 + 1, true, by omega, by go_num, rfl, HH2, HBW2⟩
                  case measure => simp [intOf]; omega
                · have HH2 : Hid (HasAt l b (j + 1 + 1) r) := HNO.out hne
                  clear HYES HNO hne
                  go_wp2_with fail
                  go_quiet (fail)
                  go_wp2_with fail
                  have HBQ : Hid (Below w2.heap.size w2 (wr.drewN nq)) := belN HBW.out nq
                  generalize wr.drewN nq = wq at HBQ ⊢
                  have hz0 : ∀ q : BW wq.heap.size wq, q.at_.cell? ⟨bl, ol + (j + 1) * 2, none⟩ = some (.string x.t) := fun q => (HCX.out _ (HBQ.out.trans (q.bel.mono HBQ.out.size))).1
                  have hz1 : ∀ q : BW wq.heap.size wq, q.at_.cell? ⟨bl, ol + (j + 1) * 2 + 1, none⟩ = some (.string x.i) := fun q => (HCX.out _ (HBQ.out.trans (q.bel.mono HBQ.out.size))).2
                  have hv0 : ∀ q : BW wq.heap.size wq, q.at_.cell? ⟨bl, ol + j * 2, none⟩ = some (.string y.t) := fun q => (HCY.out _ (HBQ.out.trans (q.bel.mono HBQ.out.size))).1
                  have hv1 : ∀ q : BW wq.heap.size wq, q.at_.cell? ⟨bl, ol + j * 2 + 1, none⟩ = some (.string y.i) := fun q => (HCY.out _ (HBQ.out.trans (q.bel.mono HBQ.out.size))).2
                  have hcall : ∀ q : BW wq.heap.size wq, Calls Try.prog 9 #[.agg #[.string y.t, .string y.i], .agg #[.string x.t, .string x.i]] q.at_ (fun e w'' => e = .returned (.int .i64 cz) ∧ ∃ p' : BW wq.heap.size wq, w'' = p'.at_) := fun q => Calls.bel q (HCALL.out q.at_)
                  refine wp_region_bel (by kernel_rfl) (by kernel_rfl) ?_
                  repeat (go_big_quiet_step (exact hcall _))
                  refine wpQuiet_nil ?_
                  rintro _ ⟨q, rfl⟩
                  have HBW2 : Hid (Below w2.heap.size w2 q.at_) := HBQ.out.trans (q.bel.mono HBQ.out.size)
                  clear hz0 hz1 hv0 hv1 hcall
                  go_wp2_with fail
                  go_roundw
                  case rel => exact ⟨j + 1 + 1, r, by omega, by go_num, rfl, HH2, HBW2⟩
                  case measure => simp [intOf]; omega
                · have HH2 : Hid (HasAt l b (j + 1 + 1) r) := HNO.out hne
                  clear HYES HNO hne
                  simp only at x0 x1
                  go_wp2_with fail
                  go_quiet (fail)
                  go_wp2_with fail
                  have HBQ : Hid (Below w2.heap.size w2 (wr.drewN nq)) := belN HBW.out nq
                  generalize wr.drewN nq = wq at HBQ ⊢
                  have hz0 : ∀ q : BW wq.heap.size wq, q.at_.cell? ⟨bl, ol + (j + 1) * 2, none⟩ = some (.string b.t) := fun q => (HCX.out _ (HBQ.out.trans (q.bel.mono HBQ.out.size))).1
                  have hz1 : ∀ q : BW wq.heap.size wq, q.at_.cell? ⟨bl, ol + (j + 1) * 2 + 1, none⟩ = some (.string ii) := fun q => (HCX.out _ (HBQ.out.trans (q.bel.mono HBQ.out.size))).2
                  have hv0 : ∀ q : BW wq.heap.size wq, q.at_.cell? ⟨bl, ol + j * 2, none⟩ = some (.string y.t) := fun q => (HCY.out _ (HBQ.out.trans (q.bel.mono HBQ.out.size))).1
                  have hv1 : ∀ q : BW wq.heap.size wq, q.at_.cell? ⟨bl, ol + j * 2 + 1, none⟩ = some (.string y.i) := fun q => (HCY.out _ (HBQ.out.trans (q.bel.mono HBQ.out.size))).2
                  have hcall : ∀ q : BW wq.heap.size wq, Calls Try.prog 9 #[.agg #[.string y.t, .string y.i], .agg #[.string b.t, .string ii]] q.at_ (fun e w'' => e = .returned (.int .i64 cz) ∧ ∃ p' : BW wq.heap.size wq, w'' = p'.at_) := fun q => Calls.bel q (HCALL.out q.at_)
                  refine wp_region_bel (by kernel_rfl) (by kernel_rfl) ?_
                  repeat (go_big_quiet_step (exact hcall _))
                  refine wpQuiet_nil ?_
                  rintro _ ⟨q, rfl⟩
                  have HBW2 : Hid (Below w2.heap.size w2 q.at_) := HBQ.out.trans (q.bel.mono HBQ.out.size)
                  clear hz0 hz1 hv0 hv1 hcall
                  go_wp2_with fail
                  go_roundw
                  case rel => exact ⟨j + 1 + 1, r, by omega, by go_num, rfl, HH2, HBW2⟩
                  case measure => simp [intOf]; omega
              | zero =>
                clear HASC
                simp only [Nat.zero_mul, Nat.add_zero] at x0 x1
                have i6 : (0 : Int) < (l.length : Int) := by omega
                rcases uid_cases x b with rfl | ⟨hne, ht⟩ | ⟨hne, ii, rfl, ht⟩
                · have HH2 : Hid (HasAt l x 1 true) := HYES.out rfl
                  clear HYES HNO
                  go_wp2_with fail
                  go_quiet (fail)
                  go_wp2_with fail
                  go_quiet (fail)
                  go_wp2_with fail
                  go_roundw
                  case rel => exact ⟨1, true, by omega, by go_num, rfl, HH2, belN HBW.out _⟩
                  case measure => simp [intOf]; omega
                · have HH2 : Hid (HasAt l b 1 r) := HNO.out hne
                  clear HYES HNO hne
                  go_wp2_with fail
                  go_quiet (fail)
                  go_wp2_with fail
                  go_quiet (fail)
                  go_wp2_with fail
                  go_roundw
                  case rel => exact ⟨1, r, by omega, by go_num, rfl, HH2, belN HBW.out _⟩
                  case measure => simp [intOf]; omega
                · have HH2 : Hid (HasAt l b 1 r) := HNO.out hne
                  clear HYES HNO hne
                  simp only at x0 x1
                  go_wp2_with fail
                  go_quiet (fail)
                  go_wp2_with fail
                  go_quiet (fail)
                  go_wp2_with fail
                  go_roundw
                  case rel => exact ⟨1, r, by omega, by go_num, rfl, HH2, belN HBW.out _⟩
                  case measure => simp [intOf]; omega
            · obtain rfl : k = l.length := by omega
              have i2 : ¬ (l.length : Int) < (l.length : Int) := by omega
              have HR2 : Hid (r = true ↔ b ∈ l) := by have h := HR.out; unfold HasAt at h; rw [List.take_length] at h; exact h
              clear HR
              go_wp2_with fail
              go_loopw [14, 15] (fun hv iv wr => ∃ (k : Nat) (z : Bool), k ≤ ul.length ∧ iv = .int .i64 k ∧ hv = .bool z ∧ Hid (WantAt es ul b k z) ∧ Hid (Below w2.heap.size w2 wr)) (fun _ iv _ => ul.length - (intOf iv).toNat)
              case atStart => exact ⟨0, false, Nat.zero_le _, rfl, rfl, WantAt.start es ul b, HBW⟩
              case round =>
                obtain ⟨k, z, hk, rfl, rfl, HW, HBW⟩ := hrel
                have d2 := HC2.out _ HBW.out
                by_cases hlt : k < ul.length
                · have i3 : (k : Int) < (ul.length : Int) := by omega
                  obtain ⟨bl, ol, rfl, hbl2, g0, g1⟩ := (HUP.out.up HBW.out).at hlt
                  have HYES : Hid (Inn es ul[k] b → WantAt es ul b (k + 1) true) := fun h => WantAt.yes (r := z) hlt h
                  have HNO : Hid (¬ Inn es ul[k] b → WantAt es ul b (k + 1) z) := fun h => HW.out.no hlt h
                  have hox := HOU.out _ (List.getElem_mem hlt)
                  generalize ul[k] = x at g0 g1 HYES HNO hox
                  obtain ⟨_, _, b0, b1, lt⟩ := HX.out.up HBW.out
                  have hz0 : ∀ q : BW wr.heap.size wr, q.at_.cell? ⟨bl, ol + k * 2, none⟩ = some (.string x.t) := fun q => (q.bel.cell (p := ⟨bl, ol + k * 2, none⟩) hbl2).trans g0
                  have hz1 : ∀ q : BW wr.heap.size wr, q.at_.cell? ⟨bl, ol + k * 2 + 1, none⟩ = some (.string x.i) := fun q => (q.bel.cell (p := ⟨bl, ol + k * 2 + 1, none⟩) hbl2).trans g1
                  have hv0 : ∀ q : BW wr.heap.size wr, q.at_.cell? ⟨w.heap.size + 1, 0, none⟩ = some (.string b.t) := fun q => (q.bel.cell (p := ⟨w.heap.size + 1, 0, none⟩) lt).trans b0
                  have hv1 : ∀ q : BW wr.heap.size wr, q.at_.cell? ⟨w.heap.size + 1, 1, none⟩ = some (.string b.i) := fun q => (q.bel.cell (p := ⟨w.heap.size + 1, 1, none⟩) lt).trans b1
                  have hv2 : ∀ q : BW wr.heap.size wr, q.at_.cell? ⟨bb, off + m * 4 + 2, none⟩ = some (.slice (some ⟨bl, ol, none⟩) ul.length cu) := fun q => HC2.out _ (HBW.out.trans (q.bel.mono HBW.out.size))
                  have hcall : ∀ q : BW wr.heap.size wr, Calls Try.prog 7 #[.slice (some ⟨bb, off, none⟩) es.length cp, .agg #[.string x.t, .string x.i], .agg #[.string b.t, .string b.i]] q.at_ (fun e w'' => e = .returned (.tuple #[.bool (innB es x b), .nilIface]) ∧ ∃ p' : BW wr.heap.size wr, w'' = p'.at_) := fun q => Calls.bel q (inB_any es _ cp x b q.at_ ((HL.out.up HB.out).up (HBW.out.trans (q.bel.mono HBW.out.size))) hox hb H0.out)
                  have HIB : Hid (innB es x b = true ↔ Inn es x b) := innB_iff es x b
                  generalize innB es x b = ib at hcall HIB
                  go_wp2_with fail
                  refine wp_region_bel (by kernel_rfl) (by kernel_rfl) ?_
                  repeat (go_big_quiet_step (exact hcall _))
                  refine wpQuiet_nil ?_
                  rintro _ ⟨q, rfl⟩
                  have HBW2 : Hid (Below w2.heap.size w2 q.at_) := HBW.out.trans (q.bel.mono HBW.out.size)
                  clear hz0 hz1 hv0 hv1 hv2 hcall
                  cases ib
                  · have HH2 : Hid (WantAt es ul b (k + 1) z) := HNO.out (fun h => by have := HIB.out.2 h; cases this)
                    clear HIB HYES HNO
                    go_wp2_with fail
                    go_roundw
                    case rel => exact ⟨k + 1, z, by omega, by go_num, rfl, HH2, HBW2⟩
                    case measure => simp [intOf]; omega
                  · have HH2 : Hid (WantAt es ul b (k + 1) true) := HYES.out (HIB.out.1 rfl)
                    clear HIB HYES HNO
                    go_wp2_with fail
                    go_roundw
                    case rel => exact ⟨k + 1, true, by omega, by go_num, rfl, HH2, HBW2⟩
                    case measure => simp [intOf]; omega
                · obtain rfl : k = ul.length := by omega
                  have i3 : ¬ (ul.length : Int) < (ul.length : Int) := by omega
                  have HZ : Hid (r = z) := by
                    show _ = _
                    rw [Bool.eq_iff_iff, HR2.out, HI.out.2]
                    have h := HW.out
                    unfold WantAt at h
                    rw [List.take_length] at h
                    rw [h, Abv.steps, ← HUPS.out]
                    exact Iff.rfl
                  obtain rfl := HZ.out
                  clear HZ HR2 HW
                  cases r
                  · go_wp2_with fail
                    go_ret
                    exact ⟨rfl, HB.out.trans (HBW.out.mono HB.out.size)⟩
                  · go_wp2_with fail
                    go_ret
                    exact ⟨rfl, HB.out.trans (HBW.out.mono HB.out.size)⟩
  · have H0 : Hid (_ ≠ _) := h0
    have HE : Hid (eV (sfault es) = .iface 58 (.int .i64 (sfault es))) := eV_not h0
    clear h0
    go_wp2_with fail
    refine (above_err es p cp a _ (HL.out.up HB.out) ha H0.out).mono ?_
    rintro e w2 ⟨rfl, k2⟩
    replace HB : Hid (Below w.heap.size w w2) := bS HB.out k2
    rw [HE.out]
    go_wp2_with fail
    go_ret
    exact ⟨rfl, HB.out⟩
end Go.Proofs.Ytkpbholhempmmaa
