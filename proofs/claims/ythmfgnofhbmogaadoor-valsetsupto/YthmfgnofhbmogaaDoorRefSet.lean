/- The document's SetOf: what it returns, by a walk of its own text. -/
import Derived.Test.YthmfgnofhbmogaaDoorSetL
import Derived.Test.YthmfgnofhbmogaaDoorItems
import Derived.Test.YthmfgnofhbmogaaDoorFaults
namespace Go.Proofs.YthmfgnofhbmogaaDoor
open Go.RowKit
set_option linter.unusedVariables false

theorem pick_snoc (last v : List Nd) : ∀ (l : List (List Nd)) (nx : List Nd), pick last (l ++ [v]) nx = if above last v && lessO v (pick last l nx) then v else pick last l nx
  | [], nx => rfl
  | u :: l, nx => by
    show pick last (l ++ [v]) _ = _
    rw [pick_snoc last v l]
    rfl

theorem Strict.sub {l : List (List Nd)} : ∀ {m : List (List Nd)}, Strict l → Strict m → (∀ x ∈ l, x ∈ m) → l.Sublist m := by
  induction l with
  | nil => intro m _ _ _; exact List.nil_sublist _
  | cons a l ih =>
    intro m h1 h2 h
    induction m with
    | nil => have := h a (by simp); cases this
    | cons b m ihm =>
      have h1' := List.pairwise_cons.1 h1
      have h2' := List.pairwise_cons.1 h2
      by_cases e : a = b
      · subst e
        refine List.Sublist.cons_cons _ (ih h1'.2 h2'.2 (fun x hx => ?_))
        rcases List.mem_cons.1 (h x (by simp [hx])) with e | hm
        · subst e
          have := h1'.1 _ hx
          rw [lsC_self] at this; omega
        · exact hm
      · refine List.Sublist.cons _ (ihm h2'.2 (fun x hx => ?_))
        rcases List.mem_cons.1 (h x hx) with e2 | hm
        · subst e2
          rcases List.mem_cons.1 hx with e3 | hx
          · exact absurd e3.symm e
          · have k1 := h1'.1 _ hx
            have ha := h a (by simp)
            rcases List.mem_cons.1 ha with e4 | ha
            · exact absurd e4 e
            · have k2 := h2'.1 a ha
              have := lsC_is.lt_le k1 (by omega : lsC x a ≤ 0)
              rw [lsC_self] at this; omega
        · exact hm
theorem flat_le {l m : List (List Nd)} (h : l.Sublist m) : l.flatten.length ≤ m.flatten.length := by
  induction h with
  | slnil => simp
  | cons a _ ih => simp only [List.flatten_cons, List.length_append]; omega
  | cons_cons a _ ih => simp only [List.flatten_cons, List.length_append]; omega

/-- The set as nodes. -/
def setN (l : List (List Nd)) : List Nd := ⟨5, l.length, ⟨#[]⟩, ⟨#[]⟩⟩ :: l.flatten
/-- Nodes in a row of the call's own. -/
def ON (w : World) (base : Nat) (v : Value) (L : List Nd) : Prop := w.ownsRow base 45 4 v L.length (ncells L) ∧ ∀ x ∈ L, x.wf

theorem own_set {w : World} {base : Nat} {e : TypeId} {size n cap g : Nat} {xs : List Value} (h : w.ownsRow base e size (.slice (some ⟨g, 0, none⟩) n cap) n xs) (j : Nat) (u : Value) : (w.setCell ⟨g, j, none⟩ u).ownsRow base e size (.slice (some ⟨g, 0, none⟩) n cap) n (xs.set j u) := by
  refine ⟨by rw [List.length_set]; exact h.1, ?_⟩
  rcases h.2 with ⟨hv, _⟩ | ⟨g', cap', cur, hv, hb, hgg, hle, hm, hsz, htk⟩
  · cases hv
  · cases hv
    refine .inr ⟨g, cap, cur.setIfInBounds j u, rfl, hb, ?_, hle, hm, by simpa using hsz, ?_⟩
    · simp only [World.setCell, Array.getElem?_modify, hgg, if_true, Option.map_some]
      rfl
    · rw [← htk]
      simp [List.take_set]
theorem ON.count {w : World} {base cap g : Nat} {k : Int} {L : List Nd} (hk : k ≤ 9223372036854775807) (h : ON w base (.slice (some ⟨g, 0, none⟩) (L.length + 1) cap) (⟨5, k - 1, ⟨#[]⟩, ⟨#[]⟩⟩ :: L)) : ON (w.setCell ⟨g, 1, none⟩ (.int .i64 k)) base (.slice (some ⟨g, 0, none⟩) (L.length + 1) cap) (⟨5, k, ⟨#[]⟩, ⟨#[]⟩⟩ :: L) := by
  refine ⟨?_, fun x hx => ?_⟩
  · have := own_set h.1 1 (.int .i64 k)
    have e : (ncells (⟨5, k - 1, ⟨#[]⟩, ⟨#[]⟩⟩ :: L)).set 1 (.int .i64 k) = ncells (⟨5, k, ⟨#[]⟩, ⟨#[]⟩⟩ :: L) := by simp [ncells]
    rw [e] at this
    exact this
  · rcases List.mem_cons.1 hx with rfl | hx
    · exact ⟨Nat.zero_le _, Nat.zero_le _, hk⟩
    · exact h.2 x (by simp [hx])
theorem ON.slice {w : World} {base : Nat} {v : Value} {L : List Nd} (h : ON w base v L) (hne : L ≠ []) : ∃ g cap, v = .slice (some ⟨g, 0, none⟩) L.length cap ∧ base ≤ g ∧ g < w.heap.size ∧ L.length ≤ cap ∧ cap ≤ maxLen ∧ NL w (some ⟨g, 0, none⟩) L ∧ ∀ j, w.frozen? ⟨g, j, none⟩ = false := by
  rcases h.1.2 with ⟨_, hn⟩ | ⟨g, cap, cur, hv, hb, hgg, hle, hm, _⟩
  · exact absurd (List.eq_nil_of_length_eq_zero hn) hne
  · obtain ⟨q, c, e, hnt, _⟩ := NL.of_row h.2 h.1
    rw [hv] at e
    cases e
    refine ⟨g, cap, hv, hb, (Array.getElem?_eq_some_iff.1 hgg).1, hle, hm, hnt.1, fun j => ?_⟩
    simp [World.frozen?, hgg]

theorem setN_snoc (done : List (List Nd)) (P : List Nd) : setN (done ++ [P]) = (⟨5, (done.length : Int) + 1, ⟨#[]⟩, ⟨#[]⟩⟩ :: done.flatten) ++ P := by
  simp [setN]
theorem ncells_append (a b : List Nd) : ncells (a ++ b) = ncells a ++ ncells b := by simp [ncells]
theorem Picked.full {vs done : List (List Nd)} {last : List Nd} (h : Picked vs done last) : (setN done).length ≤ (setN (setL vs)).length := by
  have := flat_le (Strict.sub h.strict (strict_setL vs) (fun x hx => (mem_setL vs x).2 (h.sub x hx)))
  show done.flatten.length + 1 ≤ (setL vs).flatten.length + 1
  omega

theorem refSet_bad (vs : List (List Nd)) (p : Option Addr) (c : Nat) (w : World) (hv : LL w p vs) (hl : vs.length ≤ maxLen) (h : ffault vs ≠ 0) :
    Calls Tryd.prog 13 #[.slice p vs.length c] w fun e w' => e = .returned (.tuple #[.slice none 0 0, .int .i64 (ffault vs)]) ∧ Below w.heap.size w w' := by
  have h0 : (ffault vs != 0) = true := by simpa using h
  have hF := faults_any vs p c w hv hl
  generalize ffault vs = z at *
  go_enter Tryd.func13, Tryd.ntmps13
  go_wp2_with fail
  refine hF.mono ?_
  rintro e w1 ⟨rfl, hb⟩
  go_wp2
  go_ret2
  exact ⟨rfl, hb⟩

/-- What SetOf hands back where all are values. -/
def SetRet (w : World) (vs : List (List Nd)) (e : Ending) : Prop :=
  if (setN (setL vs)).length ≤ 200 then ∃ q c, e = .returned (.tuple #[.slice q (setN (setL vs)).length c, .int .i64 0]) ∧ NL w q (setN (setL vs))
  else e = .returned (.tuple #[.slice none 0 0, .int .i64 4])

set_option maxRecDepth 100000 in
set_option maxHeartbeats 1500000 in
theorem refSet_ok (vs : List (List Nd)) (p : Option Addr) (c : Nat) (w : World) (hv : LL w p vs) (hl : vs.length ≤ 1099511627776) (h : ffault vs = 0) (hne : ∀ v ∈ vs, v ≠ []) (hshort : ∀ v ∈ vs, v.length ≤ 200) :
    Calls Tryd.prog 13 #[.slice p vs.length c] w fun e w' => SetRet w' vs e ∧ Below w.heap.size w w' := by
  have hF := faults_any vs p c w hv (by unfold maxLen; omega)
  rw [h] at hF
  have HNE : Hid (∀ v ∈ vs, v ≠ []) := hne
  have HSH : Hid (∀ v ∈ vs, v.length ≤ 200) := hshort
  clear h hne hshort
  go_enter Tryd.func13, Tryd.ntmps13
  go_wp2_with fail
  refine hF.mono ?_
  rintro e w1 ⟨rfl, hb1⟩
  clear hF
  have hll := hv.up hb1
  have hstart : ON (w1.alloc (.cells #[.int .i64 5, .int .i64 0, .string ⟨#[]⟩, .string ⟨#[]⟩] 45)) w1.heap.size (.slice (some ⟨w1.heap.size, 0, none⟩) 1 1) (setN []) :=
    ⟨⟨rfl, .inr ⟨w1.heap.size, 1, _, rfl, Nat.le_refl _, heap_alloc_new w1 _, Nat.le_refl _, by unfold maxLen; omega, rfl, rfl⟩⟩, fun x hx => by simp [setN] at hx; subst hx; exact ⟨Nat.zero_le _, Nat.zero_le _, by decide⟩⟩
  have HST : Hid _ := hstart
  clear hstart
  go_wp2
  go_loopw [5, 6] (fun ov lv wr => ∃ (done : List (List Nd)) (last : List Nd) (q : Option Addr) (cq : Nat), ON wr w1.heap.size ov (setN done) ∧ lv = .slice q last.length cq ∧ Hid (NL w1 q last) ∧ Hid (Picked vs done last) ∧ (setN done).length ≤ 200 ∧ last.length ≤ 200 ∧ Below w1.heap.size w1 wr) (fun ov _ _ => 201 - lenV ov)
  case atStart => exact ⟨[], [], none, 0, HST.out, rfl, .inl rfl, Picked.start vs, by simp [setN], by simp, (Below.refl _ _).alloc (Nat.le_refl _) _⟩
  case round =>
    obtain ⟨done, last, q, cq, hon, rfl, HQ, HPK, hs200, hl200, hbr⟩ := hrel
    have HON : Hid (ON wr w1.heap.size u5 (setN done)) := hon
    clear hon
    go_wp2
    generalize hwo : wr = wo at *
    clear hwo
    go_loopw [7, 8] (fun nv i wq => ∃ (k n : Nat) (qn : Option Addr) (cn : Nat), k ≤ vs.length ∧ i = .int .i64 k ∧ nv = .slice qn (pick last (vs.take k) []).length cn ∧ Hid (NL w1 qn (pick last (vs.take k) [])) ∧ (pick last (vs.take k) []).length ≤ 200 ∧ wq = wo.drewN n) (fun _ i _ => vs.length - (intOf i).toNat)
    case atStart => exact ⟨0, 0, none, 0, Nat.zero_le _, rfl, rfl, .inl rfl, by simp [pick], rfl⟩
    case round =>
      obtain ⟨k, n, qn, cn, hk, rfl, rfl, HP, hp200, hwr⟩ := hrel
      have hbq : Below w1.heap.size w1 wr := by rw [hwr]; exact below_nn hbr n
      have HWQ : Hid (_ = _) := hwr
      clear hwr
      by_cases hlt : k < vs.length
      · have i1 : (k : Int) < (vs.length : Int) := by omega
        obtain ⟨b, off, qv, cv, rfl, hbv, hcell, hnl, hv1, hv2⟩ := (hll.up hbq).at hlt
        have hnv1 : NL w1 qv vs[k] := by
          obtain ⟨b', off', qv', cv', e1, _, hc', hn', _⟩ := hll.at hlt
          cases e1
          have := hbq.cell (p := ⟨b, off + k, none⟩) (by assumption)
          rw [hcell, hc'] at this
          simp at this
          rw [this.1]; exact hn'
        have hmem : vs[k] ∈ vs := List.getElem_mem _
        have hvs := HSH.out _ hmem
        have HSN : Hid (pick last (vs.take (k + 1)) [] = if above last vs[k] && lessO vs[k] (pick last (vs.take k) []) then vs[k] else pick last (vs.take k) []) := by
          show _ = _
          rw [List.take_succ_eq_append_getElem hlt, pick_snoc]
        have HNV : Hid (NL w1 qv vs[k]) := hnv1
        generalize vs[k] = v at *
        generalize pick last (vs.take k) [] = P at *
        have N1 := fun W (hW : Below w1.heap.size w1 W) => refNodes_any v last qv q cv cq W (HNV.out.up hW) (HQ.out.up hW) (by unfold maxLen; omega) (by unfold maxLen; omega)
        have N2 := fun W (hW : Below w1.heap.size w1 W) => refNodes_any v P qv qn cv cn W (HNV.out.up hW) (HP.out.up hW) (by unfold maxLen; omega) (by unfold maxLen; omega)
        have HAB : Hid (above last v = (last.isEmpty || decide (0 < lsC v last))) := rfl
        have HLE : Hid (lessO v P = (P.isEmpty || decide (lsC v P < 0))) := rfl
        generalize lsC v last = z1 at *
        generalize lsC v P = z2 at *
        clear hmem hnv1
        cases le : ((last.length : Int) == 0)
        · have hle : last.isEmpty = false := by simpa using le
          cases hz1 : decide (0 < z1)
          · have HT : Hid (pick last (vs.take (k + 1)) [] = P) := by show _ = _; rw [HSN.out, HAB.out, hle, hz1]; rfl
            go_wp2_with fail
            refine (N1 _ hbq).mono ?_
            rintro e w4 ⟨rfl, m4, rfl⟩
            go_wp2
            go_roundw
            case rel => exact ⟨k + 1, _, qn, cn, by omega, by go_num, by rw [HT.out], by rw [HT.out]; exact HP, by rw [HT.out]; exact hp200, by rw [HWQ.out] <;> first | rfl | (simp only [World.drewN_drewN]; rfl)⟩
            case measure => simp [intOf]; omega
          · have hab : above last v = true := by rw [HAB.out, hle, hz1]; rfl
            go_wp2_with fail
            refine (N1 _ hbq).mono ?_
            rintro e w4 ⟨rfl, m4, rfl⟩
            have hbq4 := below_nn hbq m4
            cases pe : ((P.length : Int) == 0)
            · have hpe : P.isEmpty = false := by simpa using pe
              cases hz : decide (z2 < 0)
              · have HT : Hid (pick last (vs.take (k + 1)) [] = P) := by show _ = _; rw [HSN.out, hab, HLE.out, hpe, hz]; rfl
                go_wp2_with fail
                refine (N2 _ hbq4).mono ?_
                rintro e w5 ⟨rfl, m5, rfl⟩
                go_wp2
                go_roundw
                case rel => exact ⟨k + 1, _, qn, cn, by omega, by go_num, by rw [HT.out], by rw [HT.out]; exact HP, by rw [HT.out]; exact hp200, by rw [HWQ.out] <;> first | rfl | (simp only [World.drewN_drewN]; rfl)⟩
                case measure => simp [intOf]; omega
              · have HT : Hid (pick last (vs.take (k + 1)) [] = v) := by show _ = _; rw [HSN.out, hab, HLE.out, hpe, hz]; rfl
                go_wp2_with fail
                refine (N2 _ hbq4).mono ?_
                rintro e w5 ⟨rfl, m5, rfl⟩
                go_wp2
                go_roundw
                case rel => exact ⟨k + 1, _, qv, cv, by omega, by go_num, by rw [HT.out], by rw [HT.out]; exact HNV, by rw [HT.out]; exact hvs, by rw [HWQ.out] <;> first | rfl | (simp only [World.drewN_drewN]; rfl)⟩
                case measure => simp [intOf]; omega
            · have hpe : P.isEmpty = true := by simpa using pe
              have HT : Hid (pick last (vs.take (k + 1)) [] = v) := by show _ = _; rw [HSN.out, hab, HLE.out, hpe]; rfl
              go_wp2
              go_roundw
              case rel => exact ⟨k + 1, _, qv, cv, by omega, by go_num, by rw [HT.out], by rw [HT.out]; exact HNV, by rw [HT.out]; exact hvs, by rw [HWQ.out] <;> first | rfl | (simp only [World.drewN_drewN]; rfl)⟩
              case measure => simp [intOf]; omega
        · have hle : last.isEmpty = true := by simpa using le
          have hab : above last v = true := by rw [HAB.out, hle]; rfl
          cases pe : ((P.length : Int) == 0)
          · have hpe : P.isEmpty = false := by simpa using pe
            cases hz : decide (z2 < 0)
            · have HT : Hid (pick last (vs.take (k + 1)) [] = P) := by show _ = _; rw [HSN.out, hab, HLE.out, hpe, hz]; rfl
              go_wp2_with fail
              refine (N2 _ hbq).mono ?_
              rintro e w5 ⟨rfl, m5, rfl⟩
              go_wp2
              go_roundw
              case rel => exact ⟨k + 1, _, qn, cn, by omega, by go_num, by rw [HT.out], by rw [HT.out]; exact HP, by rw [HT.out]; exact hp200, by rw [HWQ.out] <;> first | rfl | (simp only [World.drewN_drewN]; rfl)⟩
              case measure => simp [intOf]; omega
            · have HT : Hid (pick last (vs.take (k + 1)) [] = v) := by show _ = _; rw [HSN.out, hab, HLE.out, hpe, hz]; rfl
              go_wp2_with fail
              refine (N2 _ hbq).mono ?_
              rintro e w5 ⟨rfl, m5, rfl⟩
              go_wp2
              go_roundw
              case rel => exact ⟨k + 1, _, qv, cv, by omega, by go_num, by rw [HT.out], by rw [HT.out]; exact HNV, by rw [HT.out]; exact hvs, by rw [HWQ.out] <;> first | rfl | (simp only [World.drewN_drewN]; rfl)⟩
              case measure => simp [intOf]; omega
          · have hpe : P.isEmpty = true := by simpa using pe
            have HT : Hid (pick last (vs.take (k + 1)) [] = v) := by show _ = _; rw [HSN.out, hab, HLE.out, hpe]; rfl
            go_wp2
            go_roundw
            case rel => exact ⟨k + 1, _, qv, cv, by omega, by go_num, by rw [HT.out], by rw [HT.out]; exact HNV, by rw [HT.out]; exact hvs, by rw [HWQ.out] <;> first | rfl | (simp only [World.drewN_drewN]; rfl)⟩
            case measure => simp [intOf]; omega
      · obtain rfl : k = vs.length := by omega
        have i1 : ¬ (vs.length : Int) < (vs.length : Int) := by omega
        have hon : ON wr w1.heap.size u5 (setN done) := by rw [HWQ.out]; exact HON.out
        rw [List.take_length] at HP hp200 ⊢
        obtain ⟨g, cap, rfl, hg, hgw, hgc, hgm, hgn, hgf⟩ := hon.slice (by simp [setN])
        have HN2 : Hid (pick last vs [] = [] → done = setL vs) := HPK.out.done HNE.out
        have HN3 : Hid (pick last vs [] ≠ [] → Picked vs (done ++ [pick last vs []]) (pick last vs [])) := HPK.out.next HNE.out
        generalize pick last vs [] = P at *
        have HO : Hid (ON wr w1.heap.size (.slice (some ⟨g, 0, none⟩) (setN done).length cap) (setN done)) := hon
        clear hon HON
        cases P with
        | nil =>
          have HE := HN2.out rfl
          have HEE : Hid (done = setL vs) := HE
          clear HE
          go_wp2
          go_ret2
          refine ⟨?_, hb1.trans (hbq.mono hb1.size)⟩
          have hh := HEE.out
          subst hh
          unfold SetRet
          rw [if_pos hs200]
          exact ⟨_, cap, rfl, hgn⟩
        | cons y t =>
          have HPN := HN3.out (by simp)
          have HPK2 : Hid (Picked vs (done ++ [y :: t]) (y :: t)) := HPN
          clear HPN
          obtain ⟨pb, po, rfl, hpb, _⟩ := HP.out.head
          have j0 : ((t.length : Int) + 1 == 0) = false := by simp; omega
          obtain ⟨gb, go', hge, _, g0, g1, g2, g3, _⟩ : ∃ gb go', (some (⟨g, 0, none⟩ : Addr)) = some ⟨gb, go', none⟩ ∧ True ∧ wr.cell? ⟨gb, go', none⟩ = some (.int .i64 5) ∧ wr.cell? ⟨gb, go' + 1, none⟩ = some (.int .i64 done.length) ∧ wr.cell? ⟨gb, go' + 2, none⟩ = some (.string ⟨#[]⟩) ∧ wr.cell? ⟨gb, go' + 3, none⟩ = some (.string ⟨#[]⟩) ∧ True := by
            obtain ⟨gb, go', e1, _, e3, e4, e5, e6, _⟩ := NL.head (x := ⟨5, done.length, ⟨#[]⟩, ⟨#[]⟩⟩) (r := done.flatten) hgn
            exact ⟨gb, go', e1, trivial, e3, e4, e5, e6, trivial⟩
          cases hge
          simp only [Nat.zero_add] at g1 g2 g3
          have f1 := hgf 1
          have hs' : done.flatten.length + 1 ≤ 200 := hs200
          have hdl : done.length ≤ 200 := by
            have hh : ∀ (l : List (List Nd)), (∀ x ∈ l, x ≠ []) → l.length ≤ l.flatten.length := by
              intro l
              induction l with
              | nil => simp
              | cons a l ih =>
                intro h
                have h1 := ih (fun x hx => h x (by simp [hx]))
                have h2 := List.length_pos_iff.2 (h a (by simp))
                simp only [List.flatten_cons, List.length_append, List.length_cons]; omega
            have := hh done (fun x hx => HNE.out x (HPK.out.sub x hx))
            omega
          obtain ⟨F, hF⟩ : ∃ F, F = done.flatten := ⟨_, rfl⟩
          have hsd : setN done = (⟨5, done.length, ⟨#[]⟩, ⟨#[]⟩⟩ : Nd) :: F := by rw [hF]; rfl
          have hsn : setN (done ++ [y :: t]) = (⟨5, (done.length : Int) + 1, ⟨#[]⟩, ⟨#[]⟩⟩ :: F) ++ (y :: t) := by rw [hF]; exact setN_snoc done (y :: t)
          have HSN2 : Hid (_ = _) := hsn
          have HC := ON.count (k := (done.length : Int) + 1) (L := F) (by omega) (by
            rw [show (done.length : Int) + 1 - 1 = (done.length : Int) by omega]
            have := HO.out
            rw [hsd] at this
            exact this)
          rw [← hF] at hs'
          have HCC : Hid (ON (wr.setCell ⟨g, 1, none⟩ (.int .i64 ((done.length : Int) + 1))) w1.heap.size (.slice (some ⟨g, 0, none⟩) (F.length + 1) cap) (⟨5, (done.length : Int) + 1, ⟨#[]⟩, ⟨#[]⟩⟩ :: F)) := HC
          have hb3 : Below w1.heap.size w1 (wr.setCell ⟨g, 1, none⟩ (.int .i64 ((done.length : Int) + 1))) := hbq.setCell hg _
          have HNC : Hid (NL (wr.setCell ⟨g, 1, none⟩ (.int .i64 ((done.length : Int) + 1))) (some ⟨pb, po, none⟩) (y :: t)) := HP.out.up hb3
          obtain ⟨i0, hi, hz0, hz1, hz2⟩ := info_parts Tryd.infoNode
          have HWF : Hid (∀ x ∈ (y :: t), x.wf) := HP.out.wfs
          have hsl : (setN done).length = F.length + 1 := by rw [hsd]; rfl
          have HSL : Hid (_ = _) := hsl
          rw [hsl]
          clear HC HO HN2 HN3 hgn hgf hsd hsn hF hsl
          simp only [List.length_cons] at *
          have j1 : (0 : Int) < (F.length : Int) + 1 := by omega
          go_wp2_with (at_builtin; refine wpList_append_own _ rfl (.tmp 63) (.tmp 64) 22 rfl w1.heap.size 45 i0 _ 4 48 Tryd.underlying22 hi hz0 hz1 hz2 rfl (by decide) (.slice (some ⟨g, 0, none⟩) (F.length + 1) cap) (F.length + 1) (ncells (⟨5, (done.length : Int) + 1, ⟨#[]⟩, ⟨#[]⟩⟩ :: F)) rfl HCC.out.1 ⟨pb, po, none⟩ (t.length + 1) cn (ncells (y :: t)) rfl ?qc1 ?qc2 ?qc3 ?qc4 ?qc5 ?qc6 ?_)
          case qc1 => exact ncells_length (y :: t)
          case qc2 =>
            intro j u hu
            have hadd : (⟨pb, po, none⟩ : Addr).add j = ⟨pb, po + j, none⟩ := by unfold Addr.add; split <;> simp_all
            have hh := (HP.out.up hbq).cells j u hu
            first | exact hh | (rw [hadd]; exact HNC.out.cells j u hu)
          case qc3 => exact ncells_one _
          case qc4 => unfold maxLen; omega
          case qc5 => omega
          case qc6 => first | exact hbq.size | exact hb3.size
          intro v' w' h1 h2 h3
          have hb4 : Below w1.heap.size w1 w' := hb3.grown h2 (by first | exact hb3.size) (fun k hk => by simp [Value.ownBlock] at hk; omega)
          have hon2 : ON w' w1.heap.size v' (setN (done ++ [y :: t])) := by
            rw [HSN2.out]
            refine ⟨?_, fun x hx => ?_⟩
            · rw [ncells_append, List.length_append]
              exact h1
            · rcases List.mem_append.1 hx with hx | hx
              · exact HCC.out.2 x hx
              · exact HWF.out x hx
          have HON2 : Hid (ON w' w1.heap.size v' (setN (done ++ [y :: t]))) := hon2
          obtain ⟨g2, cap2, rfl, hg2, _, hgc2, hgm2, hgn2, _⟩ := hon2.slice (by simp [setN])
          have hl2 : (setN (done ++ [y :: t])).length = F.length + 1 + (t.length + 1) := by rw [HSN2.out]; simp; omega
          clear h1 h2 h3 hi hz0 hz1 hz2 hon2
          rw [hl2]
          by_cases hfull : 200 < F.length + 1 + (t.length + 1)
          · have hf2 : (200 : Int) < (F.length : Int) + 1 + ((t.length : Int) + 1) := by omega
            go_wp2
            go_ret2
            refine ⟨?_, hb1.trans (hb4.mono hb1.size)⟩
            have := HPK2.out.full
            unfold SetRet
            rw [if_neg (by omega)]
            rfl
          · have hf2 : ¬ (200 : Int) < (F.length : Int) + 1 + ((t.length : Int) + 1) := by omega
            go_wp2
            go_roundw
            case rel => exact ⟨done ++ [y :: t], y :: t, some ⟨pb, po, none⟩, cn, by rw [← hl2]; exact HON2.out, rfl, HP, HPK2, by omega, by simp; omega, hb4⟩
            case measure =>
              have h5 := HSL.out
              have h6 := hl2
              simp [lenV]; omega
end Go.Proofs.YthmfgnofhbmogaaDoor
