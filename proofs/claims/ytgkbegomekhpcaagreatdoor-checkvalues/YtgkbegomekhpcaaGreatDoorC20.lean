/- slices.SortFunc at parts with package kinds' byName: the shelf's contract, its premise on the order paid; and what lies behind it. -/
import Derived.Test.YtgkbegomekhpcaaGreatDoorShelfP
import Derived.Test.YtgkbegomekhpcaaGreatDoorC10
import Derived.Test.YtgkbegomekhpcaaGreatDoorC15
import Derived.Test.YtgkbegomekhpcaaGreatDoorC11
namespace Go.Proofs.YtgkbegomekhpcaaGreatDoor
open Go.RowKit Go.Sort Go.Shelf
set_option linter.unusedVariables false
set_option maxRecDepth 100000

/-- A part as it lies in a row: its node, and the slice of its parts. -/
abbrev PE := Nd × Option Addr × Nat × Nat
instance inhNdK : Inhabited Nd := ⟨⟨0, 0, ⟨#[]⟩, ⟨#[]⟩⟩⟩
def encP (e : PE) : List Value := pcl e.1 (.slice e.2.1 e.2.2.1 e.2.2.2)
def cfP (a b : PE) : Int := cmpB a.1.s b.1.s
set_option maxHeartbeats 1000000 in
theorem byName_any (a b : PE) (w : World) :
    Calls Tryz.prog 198 #[.agg (encP a).toArray, .agg (encP b).toArray] w fun e w' => e = .returned (.int .i64 (cfP a b)) ∧ ∃ q os', w' = grow (w.drewN q) os' := by
  unfold encP pcl cfP
  go_enter Tryz.func198, Tryz.ntmps198
  go_wp2_with (go_at_call 237; refine (strCompare_any _ _ _).mono ?_; rintro e w' ⟨rfl, rfl⟩)
  go_ret
  exact ⟨rfl, 0, _, by rw [alloc_eq_grow, alloc_eq_grow, grow_grow]; rfl⟩
theorem cfP_swo : SWO (ltOf cfP) where
  irrefl x := by unfold ltOf cfP; rw [cmpB_is.self]; rfl
  trans x y z h1 h2 := by
    unfold ltOf cfP at *
    simp at *
    exact cmpB_is.lt_le h1 (by omega)
  ntrans x y z h1 h2 := by
    unfold ltOf cfP at *
    simp at *
    have a := cmpB_is.neg x.1.s y.1.s
    have b := cmpB_is.neg y.1.s z.1.s
    have c := cmpB_is.neg x.1.s z.1.s
    have := cmpB_is.trans z.1.s y.1.s x.1.s (by omega) (by omega)
    omega
theorem cmpLaysP (blk off size : Nat) (w : World) : CmpLays Tryz.prog 198 #[] encP 5 cfP blk off size w :=
  fun _ _ _ _ x y => byName_any x y _
theorem grownBy_sortedP (w : World) (g n : Nat) (d : Array PE) (os : Array Obj) : w.grownBy (sortWorldK encP 5 w g 0 n d os) (some g) := by
  unfold sortWorldK putRowK
  refine ⟨rfl, rfl, rfl, by simp, fun k hk hne => ?_⟩
  rw [heap_grow_old _ _ (by simpa using hk)]
  have : g ≠ k := fun e => hne (by rw [e])
  simp [putRow, mapBlock, Sort.ahead, Array.getElem?_modify, this]
theorem flatP_len : ∀ L : List PE, (L.flatMap encP).length = L.length * 5
  | [] => rfl
  | e :: L => by simp [encP, pcl, List.flatMap_cons] at *; have := flatP_len L; simp [encP, pcl] at this; omega
theorem flatP_at : ∀ (L : List PE) (j : Nat) (h : j < L.length * 5), (L.flatMap encP)[j]? = some (encP (L[j / 5]'(by omega)))[j % 5]!
  | [], j, h => by simp at h
  | e :: L, j, h => by
    rw [List.flatMap_cons]
    by_cases c : j < 5
    · rw [List.getElem?_append_left (by simp [encP, pcl]; omega)]
      have e1 : j / 5 = 0 := by omega
      have e2 : j % 5 = j := by omega
      simp only [e1, e2, List.getElem_cons_zero]
      have hl : j < (encP e).length := by simp [encP, pcl]; omega
      rw [List.getElem?_eq_getElem hl, getElem!_pos (encP e) j hl]
    · rw [List.getElem?_append_right (by simp [encP, pcl]; omega)]
      have hl : (encP e).length = 5 := rfl
      rw [hl, flatP_at L (j - 5) (by simp at h; omega)]
      have e1 : j / 5 = (j - 5) / 5 + 1 := by omega
      have e2 : j % 5 = (j - 5) % 5 := by omega
      simp only [e1, e2, List.getElem_cons_succ]
theorem flatK_at (d : Array PE) (j : Nat) (h : j < d.size * 5) : (flatK encP 5 d)[j]! = (encP (d.toList[j / 5]'(by simp; omega)))[j % 5]! := by
  rw [get_flatK _ _ _ _ h]
  rw [getElem!_pos d (j / 5) (by omega)]
  simp
/-- A row of parts holds its parts. -/
theorem holdsP {w : World} {T : TypeId} {g cap : Nat} {L : List PE} (h : w.ownsRow 0 T 5 (.slice (some ⟨g, 0, none⟩) L.length cap) L.length (L.flatMap encP)) : HoldsK encP 5 w g 0 L.toArray := by
  intro j hj
  rw [size_flatK] at hj
  have hj2 : j < L.length * 5 := by simpa using hj
  have hf := flatP_at L j hj2
  obtain ⟨g', cap', e, _, hc, hfr⟩ := ownP_cell h hf
  cases e
  refine ⟨?_, by simpa using hfr⟩
  rw [flatK_at _ _ (by simpa using hj2)]
  simpa using hc
/-- Behind the sort the row holds what is sorted. -/
theorem own_sorted {w : World} {T : TypeId} {g cap n m : Nat} {L : List PE} {d : Array PE} {os : Array Obj} (h : w.ownsRow 0 T 5 (.slice (some ⟨g, 0, none⟩) n cap) n (L.flatMap encP)) (hn : d.size = n) : (sortWorldK encP 5 w g 0 m d os).ownsRow 0 T 5 (.slice (some ⟨g, 0, none⟩) n cap) n (d.toList.flatMap encP) := by
  rcases h.2 with ⟨e, _⟩ | ⟨g', cap', cur, e, hb, hh, h1, h2, h3, h4⟩
  · cases e
  · cases e
    have hg := (Array.getElem?_eq_some_iff.1 hh).1
    refine ⟨by rw [flatP_len]; simp [hn], .inr ⟨g, cap, putCells id 0 (flatK encP 5 d) cur, rfl, hb, ?_, h1, h2, by unfold putCells; simp [h3], ?_⟩⟩
    · unfold sortWorldK putRowK
      rw [heap_grow_old _ _ (by simpa [putRow, mapBlock, Sort.ahead] using hg)]
      simp [putRow, mapBlock, Sort.ahead, Array.getElem?_modify, hh, onCells]
    · apply List.ext_getElem?
      intro j
      by_cases hj : j < n * 5
      · rw [List.getElem?_take_of_lt hj, flatP_at _ _ (by simp [hn]; exact hj), ← flatK_at d j (by rw [hn]; exact hj)]
        have hc : j < cur.size := by rw [h3]; have := Nat.mul_le_mul_right 5 h1; omega
        unfold putCells
        simp [hc, size_flatK, hn, hj]
      · rw [List.getElem?_eq_none (by simp; omega), List.getElem?_eq_none (by rw [flatP_len]; simp [hn]; omega)]
/-- A part of a row, and how it lies there. -/
def LieP (w : World) (S : Nat → Prop) (p : Nd × Tp) (e : PE) : Prop := e.1 = p.1 ∧ p.1.wf ∧ e.2.2.1 = p.2.len ∧ VK w p.2 (.slice e.2.1 e.2.2.1 e.2.2.2) S
def LieL (w : World) (S : Nat → Prop) : List (Nd × Tp) → List PE → Prop
  | [], L => L = []
  | p :: r, L => ∃ e L', L = e :: L' ∧ LieP w S p e ∧ LieL w S r L'
theorem RK.lie {w : World} {S : Nat → Prop} : ∀ {t : Tp} {l : List Value}, RK w t l S → ∃ L : List PE, l = L.flatMap encP ∧ LieL w S (toL t) L
  | .nil, l, h => ⟨[], h, rfl⟩
  | .cons x k r, l, h => by
    obtain ⟨v, l', rfl, h2, h3, h4⟩ := RK.cons_iff.1 h
    obtain ⟨L, rfl, h5⟩ := RK.lie h4
    obtain ⟨q, c, rfl, _⟩ := h3.slice
    exact ⟨(x, q, k.len, c) :: L, by rw [List.flatMap_cons]; rfl, _, L, rfl, ⟨rfl, h2, rfl, h3⟩, h5⟩
theorem LieL.rk {w : World} {S : Nat → Prop} : ∀ {t : Tp} {L : List PE}, LieL w S (toL t) L → RK w t (L.flatMap encP) S
  | .nil, L, h => by rw [show L = [] from h]; rfl
  | .cons x k r, L, h => by
    obtain ⟨e, L', rfl, ⟨h1, h2, h3, h4⟩, h5⟩ := h
    refine RK.cons_iff.2 ⟨.slice e.2.1 e.2.2.1 e.2.2.2, L'.flatMap encP, ?_, h2, h4, h5.rk⟩
    rw [List.flatMap_cons]
    unfold encP
    rw [h1]
theorem LieL.len {w : World} {S : Nat → Prop} : ∀ {r : List (Nd × Tp)} {L : List PE}, LieL w S r L → L.length = r.length
  | [], L, h => by rw [show L = [] from h]; rfl
  | p :: r, L, h => by obtain ⟨e, L', rfl, _, h5⟩ := h; simp [h5.len]
theorem LieL.perm {w : World} {S : Nat → Prop} {L L' : List PE} (hp : L.Perm L') : ∀ {r : List (Nd × Tp)}, LieL w S r L → ∃ r', r'.Perm r ∧ LieL w S r' L' := by
  induction hp with
  | nil => intro r h; exact ⟨r, .refl _, h⟩
  | cons e _ ih =>
    intro r h
    cases r with
    | nil => cases (show _ :: _ = [] from h)
    | cons p r =>
      obtain ⟨e', L'', he, h1, h2⟩ := h
      cases he
      obtain ⟨r', h3, h4⟩ := ih h2
      exact ⟨p :: r', h3.cons p, e, _, rfl, h1, h4⟩
  | swap e1 e2 L =>
    intro r h
    cases r with
    | nil => cases (show _ :: _ = [] from h)
    | cons p r =>
      obtain ⟨e', L'', he, h1, h2⟩ := h
      cases he
      cases r with
      | nil => cases (show _ :: _ = [] from h2)
      | cons p2 r =>
        obtain ⟨e', L'', he, h3, h4⟩ := h2
        cases he
        exact ⟨p2 :: p :: r, .swap _ _ _, _, _, rfl, h3, _, _, rfl, h1, h4⟩
  | trans _ _ ih1 ih2 =>
    intro r h
    obtain ⟨r1, h1, h2⟩ := ih1 h
    obtain ⟨r2, h3, h4⟩ := ih2 h2
    exact ⟨r2, h3.trans h1, h4⟩
def ofL : List (Nd × Tp) → Tp
  | [] => .nil
  | p :: r => .cons p.1 p.2 (ofL r)
theorem toL_ofL : ∀ r, toL (ofL r) = r
  | [] => rfl
  | p :: r => by simp [ofL, toL, toL_ofL r]
theorem LieL.sorted {w : World} {S : Nat → Prop} : ∀ {r : List (Nd × Tp)} {L : List PE}, LieL w S r L → L.Pairwise (fun a b => ¬ cmpB b.1.s a.1.s < 0) → r.Pairwise (fun a b => ¬ cmpB b.1.s a.1.s < 0)
  | [], L, h, _ => List.Pairwise.nil
  | p :: r, L, h, hp => by
    obtain ⟨e, L', rfl, ⟨h1, _⟩, h5⟩ := h
    have hq := List.pairwise_cons.1 hp
    refine List.pairwise_cons.2 ⟨fun p2 hp2 => ?_, h5.sorted hq.2⟩
    have : ∀ {r : List (Nd × Tp)} {L : List PE}, LieL w S r L → ∀ p ∈ r, ∃ e ∈ L, e.1 = p.1 := by
      intro r
      induction r with
      | nil => intro L _ p hp; cases hp
      | cons p r ih =>
        intro L h p2 hp2
        obtain ⟨e, L', rfl, ⟨h1, _⟩, h5⟩ := h
        rcases List.mem_cons.1 hp2 with rfl | hp2
        · exact ⟨e, by simp, h1⟩
        · obtain ⟨e2, h6, h7⟩ := ih h5 p2 hp2; exact ⟨e2, by simp [h6], h7⟩
    obtain ⟨e2, h6, h7⟩ := this h5 p2 hp2
    have := hq.1 e2 h6
    rw [h1, h7] at this
    exact this
theorem permP {d d' : Array PE} (h : PermIn 0 d.size d d') : d'.toList.Perm d.toList := by
  obtain ⟨h1, _, h3⟩ := h
  have e1 : d.extract 0 d.size = d := by simp
  have e2 : d'.extract 0 d.size = d' := by rw [← h1]; simp
  rw [e1, e2] at h3
  exact h3
theorem ascP {d d' : Array PE} (h : SortedIn (ltOf cfP) 0 d.size d') (hs : d'.size = d.size) : d'.toList.Pairwise (fun a b => ¬ cmpB b.1.s a.1.s < 0) := by
  rw [List.pairwise_iff_getElem]
  intro i j hi hj hij
  have hi' : i < d'.size := by simpa using hi
  have hj' : j < d'.size := by simpa using hj
  have hlt := h i j (Nat.zero_le _) hij (by omega)
  rw [getElem!_pos d' i hi', getElem!_pos d' j hj'] at hlt
  unfold ltOf cfP at hlt
  simpa using hlt
/-- SortFunc of a row of parts. -/
theorem sortRow_any (t : Tp) (w : World) (v : Value) (l : List Value) (S : Nat → Prop) (ho : w.ownsRow 0 81 5 v t.len l) (hr : RK w t l S) (hS : ∀ g, v.ownBlock = some g → ¬ S g) (hlen : t.len ≤ 1000000) :
    Calls Tryz.prog 197 #[v, .func (.func 198) #[] #[]] w fun e w' => e = .returned (.tuple #[]) ∧ ∃ (t' : Tp) (l' : List Value), (toL t').Perm (toL t) ∧ (toL t').Pairwise (fun a b => ¬ cmpB b.1.s a.1.s < 0) ∧ w'.ownsRow 0 81 5 v t'.len l' ∧ RK w' t' l' S ∧ w.grownBy w' v.ownBlock := by
  have ec : ∀ args w, (callFunc 198 args).run Tryz.prog w = .ok (.enter 198 args) w := enters_of Tryz.func198 (by kernel_rfl) rfl
  rcases ho.2 with ⟨rfl, h0⟩ | ⟨g, cap, cur, rfl, _⟩
  · refine (AnyF.slices_SortFunc_none { Tryz.sortP with } none 0 _ _).mono ?_
    rintro e w2 ⟨rfl, rfl⟩
    obtain rfl := tp_len0 h0
    exact ⟨rfl, .nil, l, .refl _, by simp [toL], ho, hr, rfl, rfl, rfl, Nat.le_refl _, fun _ _ _ => rfl⟩
  · obtain ⟨L, rfl, hL⟩ := hr.lie
    have hlL : L.length = t.len := by rw [hL.len, toL_len]
    have hg : g < w.heap.size := (ownP_lt ho rfl).1
    rw [← hlL] at ho hlen ⊢
    have hsort := AnyQ.slices_SortFunc Tryz.sortP 5 (fun w => by kernel_rfl) (fun w => by kernel_rfl) encP (fun _ => rfl) (fun x v hv => by simp [encP, pcl] at hv; rcases hv with rfl | rfl | rfl | rfl | rfl <;> rfl) cfP cfP_swo 198 #[] g 0 cap L.toArray w ec (cmpLaysP g 0 _ w) (holdsP ho) hg (by simp; omega)
    have HSORT : Hid (Calls Tryz.prog 197 #[.slice (some ⟨g, 0, none⟩) L.length cap, .func (.func 198) #[] #[]] w _) := hsort
    refine HSORT.out.mono ?_
    rintro e w2 ⟨rfl, d', n, os, hp, hs, rfl⟩
    have hsz : d'.size = L.length := by have := hp.1; simpa using this
    have hp2 := permP (d := L.toArray) (by simpa using hp)
    have hs2 := ascP (d := L.toArray) (by simpa using hs) (by simpa using hsz)
    obtain ⟨r', h1, h2⟩ := hL.perm (by simpa using hp2.symm)
    refine ⟨rfl, ofL r', d'.toList.flatMap encP, by rw [toL_ofL]; exact h1, by rw [toL_ofL]; exact h2.sorted hs2, ?_, ?_, grownBy_sortedP w g n d' os⟩
    · have e1 : (ofL r').len = L.length := by rw [← toL_len, toL_ofL, ← h2.len]; simpa using hsz
      rw [e1]
      exact own_sorted ho hsz
    · have hk := LieL.rk (t := ofL r') (by rw [toL_ofL]; exact h2)
      have hgr := grownBy_sortedP w g n d' os
      exact hk.agree (fun a ha hl => hgr.block a hl (fun e => by cases e; exact hS _ rfl ha))
end Go.Proofs.YtgkbegomekhpcaaGreatDoor
