/- Package val's below, size, items, and slices.Clone at nodes: what they return, by walks of their own texts. -/
import Derived.Test.YtncmjcjnldhhhaaGreatDoorPartsL
import Derived.Test.YtncmjcjnldhhhaaGreatDoorOwnL
import Derived.Test.YtncmjcjnldhhhaaGreatDoorPast
import Derived.Lib.SliceRun
namespace Go.Proofs.YtncmjcjnldhhhaaGreatDoor
open Go.RowKit
set_option linter.unusedVariables false

theorem ret_it {k : IntKind} {a b : Int} (h : a = b) : Ending.returned (.int k a) = .returned (.int k b) := by rw [h]

theorem below_fn (x : Nd) (w : World) :
    Calls Tryz.prog 91 #[x.val] w fun e w' => e = .returned (.int .i64 (bel x)) ∧ Below w.heap.size w w' := by
  obtain ⟨op, n, s, t⟩ := x
  unfold Nd.val
  by_cases h5 : op = 5
  · subst h5
    go_enter Tryz.func91, Tryz.ntmps91
    go_wp2
    go_ret
    exact ⟨ret_it (by simp [bel]), (Below.refl _ _).alloc (Nat.le_refl _) _⟩
  by_cases h6 : op = 6
  · subst h6
    go_enter Tryz.func91, Tryz.ntmps91
    go_wp2
    go_ret
    exact ⟨ret_it (by simp [bel]), (Below.refl _ _).alloc (Nat.le_refl _) _⟩
  by_cases h7 : op = 7
  · subst h7
    go_enter Tryz.func91, Tryz.ntmps91
    go_wp2
    go_ret
    exact ⟨ret_it (by simp [bel]), (Below.refl _ _).alloc (Nat.le_refl _) _⟩
  have e5 : (op == 5) = false := by simpa using h5
  have e6 : (op == 6) = false := by simpa using h6
  have e7 : (op == 7) = false := by simpa using h7
  have HB : Hid (bel ⟨op, n, s, t⟩ = 0) := by show _ = _; simp [bel, h5, h6, h7]
  clear h5 h6 h7
  go_enter Tryz.func91, Tryz.ntmps91
  go_wp2
  go_ret
  exact ⟨ret_it HB.out.symm, (Below.refl _ _).alloc (Nat.le_refl _) _⟩

theorem size_fn (a r : List Nd) (ha : Off a 1) (p : Option Addr) (c : Nat) (w : World) (hv : NL w p (a ++ r)) (hl : (a ++ r).length ≤ maxLen) :
    Calls Tryz.prog 80 #[.slice p (a ++ r).length c] w fun e w' => e = .returned (.int .i64 a.length) ∧ Below w.heap.size w w' := by
  unfold maxLen at hl
  have hl2 : a.length ≤ (a ++ r).length := by simp
  go_enter Tryz.func80, Tryz.ntmps80
  go_wp2
  go_loopw [3, 4] (fun sm se wr => ∃ (k : Nat) (m : Int), k ≤ a.length ∧ sm = .int .i64 m ∧ se = .int .i64 k ∧ Hid (reach (a.drop k) m = some 0) ∧ Below w.heap.size w wr) (fun _ i _ => a.length - (intOf i).toNat)
  case atStart => exact ⟨0, 1, Nat.zero_le _, rfl, rfl, by show _ = _; simpa using ha.run 1 (by omega), Below.refl _ _⟩
  case round =>
    obtain ⟨k, m, hk, rfl, rfl, HR, hb⟩ := hrel
    by_cases hlt : k < a.length
    · have hd : a.drop k = a[k] :: a.drop (k + 1) := List.drop_eq_getElem_cons hlt
      have h1 := HR.out
      rw [hd] at h1
      simp only [reach] at h1
      have hm : 0 < m := by
        by_cases h : 0 < m
        · exact h
        · rw [if_neg h] at h1; cases h1
      rw [if_pos hm] at h1
      have hle := reach_le _ _ (fun x hx => ha.pos x (List.mem_of_mem_drop hx)) h1
      have hle0 := reach_le _ _ (fun x hx => ha.pos x (List.mem_of_mem_drop hx)) HR.out
      have hb0 := ha.pos a[k] (List.getElem_mem _)
      simp at hle hle0
      have hk2 : k < (a ++ r).length := by omega
      obtain ⟨bb, oo, rfl, hbw, x0, x1, x2, x3, xw⟩ := (hv.up hb).at hk2
      have hg : (a ++ r)[k] = a[k] := by rw [List.getElem_append_left hlt]
      rw [hg] at x0 x1 x2 x3 xw
      have HN : Hid (_ = _) := h1
      have i1 : (k : Int) < ((a ++ r).length : Int) := by omega
      have hbel := fun w => below_fn a[k] w
      clear hg
      generalize a[k] = x at *
      clear h1 hd HR
      generalize (a ++ r).length = n at *
      go_wp2_with fail
      refine (hbel _).mono ?_
      rintro e w1 ⟨rfl, hb1⟩
      have hb2 := hb.trans (hb1.mono hb.size)
      generalize bel x = z at *
      go_wp2
      go_roundw
      case rel => exact ⟨k + 1, m + (z - 1), by omega, by go_num, by go_num, HN, hb2⟩
      case measure => simp [intOf]; omega
    · obtain rfl : k = a.length := by omega
      have hm0 : m = 0 := by
        have := HR.out
        rw [List.drop_length] at this
        simpa [reach] using this
      subst hm0
      clear HR
      go_wp2
      go_ret
      exact ⟨rfl, hb⟩

def ncells (L : List Nd) : List Value := L.flatMap fun x => [.int .i64 x.op, .int .i64 x.n, .string x.s, .string x.t]
theorem ncells_length (L : List Nd) : (ncells L).length = L.length * 4 := by
  induction L with
  | nil => rfl
  | cons x L ih => simp [ncells] at *; omega
theorem ncells_at (L : List Nd) (i j : Nat) (hj : j < 4) : (ncells L)[i * 4 + j]? = (L[i]?).bind fun x => [Value.int .i64 x.op, .int .i64 x.n, .string x.s, .string x.t][j]? := by
  induction L generalizing i with
  | nil => simp [ncells]
  | cons x L ih =>
    have e : ncells (x :: L) = [.int .i64 x.op, .int .i64 x.n, .string x.s, .string x.t] ++ ncells L := by simp [ncells]
    rw [e]
    cases i with
    | zero =>
      rw [List.getElem?_append_left (by simp; omega)]
      simp
    | succ i =>
      rw [List.getElem?_append_right (by simp; omega)]
      have := ih i
      simp only [List.length_cons, List.length_nil, List.getElem?_cons_succ]
      rw [← this]
      congr 1; omega
theorem ncells_one (L : List Nd) : ∀ u ∈ ncells L, u.oneCell' = true := by
  intro u hu
  simp only [ncells, List.mem_flatMap] at hu
  obtain ⟨x, _, hu⟩ := hu
  simp at hu
  rcases hu with rfl | rfl | rfl | rfl <;> rfl
theorem NL.cells {w : World} {b off : Nat} {L : List Nd} (h : NL w (some ⟨b, off, none⟩) L) : ∀ j u, (ncells L)[j]? = some u → w.cell? ⟨b, off + j, none⟩ = some u := by
  intro j u hu
  rcases h with rfl | ⟨b', o', h1, h2, h3⟩
  · simp [ncells] at hu
  · cases h1
    have hj : j = (j / 4) * 4 + j % 4 := by omega
    rw [hj, ncells_at L (j / 4) (j % 4) (by omega)] at hu
    cases hx : L[j / 4]? with
    | none => rw [hx] at hu; simp at hu
    | some x =>
      rw [hx] at hu
      obtain ⟨c0, c1, c2, c3, _⟩ := h3 _ x hx
      have hm : j % 4 = 0 ∨ j % 4 = 1 ∨ j % 4 = 2 ∨ j % 4 = 3 := by omega
      rw [hj]
      rcases hm with e | e | e | e <;> rw [e] at hu ⊢ <;> simp at hu <;> subst hu
      · exact c0
      · rw [← Nat.add_assoc]; exact c1
      · rw [← Nat.add_assoc]; exact c2
      · rw [← Nat.add_assoc]; exact c3

/-- The nodes of a row of the call's own. -/
theorem NL.of_row {w : World} {base : Nat} {v : Value} {L : List Nd} (hw : ∀ x ∈ L, x.wf) (h : w.ownsRow base 41 4 v L.length (ncells L)) : ∃ q c, v = .slice q L.length c ∧ NT w 0 q L ∧ L.length ≤ c ∧ c ≤ maxLen := by
  have hc := fun g hg => World.ownsRow.cells h (g := g) hg
  rcases h.2 with ⟨rfl, hn⟩ | ⟨g, cap, cur, rfl, hb, hgg, hle, hm, _⟩
  · obtain rfl := List.eq_nil_of_length_eq_zero hn
    exact ⟨none, 0, rfl, ⟨.inl rfl, .inl rfl⟩, Nat.le_refl _, Nat.zero_le _⟩
  · refine ⟨_, cap, rfl, ⟨.inr ⟨g, 0, rfl, (Array.getElem?_eq_some_iff.1 hgg).1, fun i x hx => ?_⟩, .inr ⟨g, 0, rfl, .inr ⟨cur, _, hgg⟩⟩⟩, hle, hm⟩
    have q : ∀ j, j < 4 → w.cell? ⟨g, i * 4 + j, none⟩ = [Value.int .i64 x.op, .int .i64 x.n, .string x.s, .string x.t][j]? := fun j hj => by
      have e := ncells_at L i j hj
      rw [hx] at e
      have hadd : (⟨g, 0, none⟩ : Addr).add (i * 4 + j) = ⟨g, i * 4 + j, none⟩ := by unfold Addr.add; split <;> simp_all
      obtain ⟨u, hu⟩ : ∃ u, [Value.int .i64 x.op, .int .i64 x.n, .string x.s, .string x.t][j]? = some u := ⟨_, List.getElem?_eq_getElem (by simpa using hj)⟩
      have := hc g rfl (i * 4 + j) u (by rw [e]; exact hu)
      rw [hadd] at this
      rw [this, hu]
    refine ⟨?_, ?_, ?_, ?_, hw x (List.mem_of_getElem? hx)⟩
    · have := q 0 (by omega); simpa using this
    · have := q 1 (by omega); simpa using this
    · have := q 2 (by omega); simpa using this
    · have := q 3 (by omega); simpa using this

theorem NT.any {w : World} {base : Nat} {q : Option Addr} {L : List Nd} (h : NT w 0 q L) : NT w base q L :=
  ⟨h.1, h.2.imp id fun ⟨b, o, h1, h2⟩ => ⟨b, o, h1, h2.elim (fun h => absurd h (Nat.not_lt_zero _)) .inr⟩⟩

theorem NL.wfs {w : World} {q : Option Addr} {L : List Nd} (h : NL w q L) : ∀ x ∈ L, x.wf := by
  intro x hx
  obtain ⟨i, hi⟩ := List.getElem?_of_mem hx
  rcases h with rfl | ⟨b, o, _, _, h3⟩
  · cases hx
  · exact (h3 i x hi).2.2.2.2

set_option maxRecDepth 100000 in
theorem cloneNodes_fn (L : List Nd) (b off c : Nat) (w : World) (hv : NL w (some ⟨b, off, none⟩) L) (hl : L.length ≤ 1099511627776) :
    Calls Tryz.prog 60 #[.slice (some ⟨b, off, none⟩) L.length c] w fun e w' => (∃ q c', e = .returned (.slice q L.length c') ∧ NT w' 0 q L ∧ L.length ≤ c' ∧ c' ≤ maxLen) ∧ Below w.heap.size w w' := by
  obtain ⟨i0, hi, hz0, hz1, hz2⟩ := info_parts Tryz.infoNode
  have HC : Hid (∀ j u, (ncells L)[j]? = some u → w.cell? ⟨b, off + j, none⟩ = some u) := hv.cells
  have HW := hv.wfs
  have q22 : ∀ (w : World) (a : Option Addr) (n c n' c' : Nat), (binOp .eql 22 (.slice a n c) (.slice none n' c')).run Tryz.prog w = .ok (.bool a.isNone) w := fun w a n c n' c' => Lib.run_eql_slice_nil w _ _ a n c n' c' Tryz.underlying22
  go_enter Tryz.func60, Tryz.ntmps60
  go_wp2_with (at_builtin; refine wpList_append_own _ rfl _ _ 22 rfl w.heap.size 41 i0 _ 4 48 Tryz.underlying22 hi hz0 hz1 hz2 rfl (by decide) _ _ _ rfl (World.ownsRow_made w #[] 0 (Nat.le_refl _) (Nat.zero_le _) (by simp)) ⟨b, off, none⟩ L.length c (ncells L) rfl ?qc1 ?qc2 ?qc3 ?qc4 ?qc5 ?qc6 ?_)
  case qc1 => exact ncells_length L
  case qc2 =>
    intro j u hu
    have hh := HC.out j u hu
    have hlt := World.block_lt_of_cell? w _ hh
    have hadd : (⟨b, off, none⟩ : Addr).add j = ⟨b, off + j, none⟩ := by unfold Addr.add; split <;> simp_all
    rw [hadd]
    exact (Below.cell (p := ⟨b, off + j, none⟩) ((Below.refl w.heap.size w).alloc (Nat.le_refl _) _) hlt).trans hh
  case qc3 => exact ncells_one L
  case qc4 => unfold maxLen; omega
  case qc5 => omega
  case qc6 => simp
  intro v' w' h1 h2 h3
  obtain ⟨q, c', rfl, hnt, hl', hm'⟩ := NL.of_row HW h1
  have hbel : Below w.heap.size w w' := ((Below.refl w.heap.size w).alloc (Nat.le_refl _) (.cells #[] 41)).grown h2 (by simp) (fun k hk => by simp [Value.ownBlock] at hk; omega)
  clear h1 h2 h3 hi hz0 hz1 hz2
  go_wp2
  go_ret
  exact ⟨⟨q, c', rfl, hnt, hl', hm'⟩, hbel⟩

def lenV : Value → Nat
  | .slice _ n _ => n
  | _ => 0

theorem Segs.length {f : Nat} {u : List Nd} {ss : List (List Nd)} (h : Segs f u ss) : ss.length ≤ u.length := by
  induction h with
  | nil => simp
  | cons h hs ih =>
    obtain ⟨a', e, _, hne⟩ := itemP_off h
    have := List.append_cancel_right e
    subst this
    have := List.length_pos_iff.2 hne
    simp; omega

set_option maxRecDepth 100000 in
set_option maxHeartbeats 1000000 in
theorem items_fn (f : Nat) (x : Nd) (r : List Nd) (ss : List (List Nd)) (hss : Segs f r ss) (b off c : Nat) (w : World) (hv : NL w (some ⟨b, off, none⟩) (x :: r)) (hbw : b < w.heap.size) (hl : (x :: r).length ≤ 200) (hc : (x :: r).length ≤ c) (hcm : c ≤ maxLen) :
    Calls Tryz.prog 59 #[.slice (some ⟨b, off, none⟩) (x :: r).length c] w fun e w' => (∃ lv, e = .returned lv ∧ OL w' w.heap.size lv ss) ∧ Below w.heap.size w w' := by
  unfold maxLen at hcm
  simp only [List.length_cons] at *
  have hsl := hss.length
  have HSS : Hid (Segs f r ss) := hss
  clear hss
  obtain ⟨pr, hpr, hnr⟩ : ∃ pr, (if c = 1 then some (⟨b, off, none⟩ : Addr) else some ⟨b, off + 4, none⟩) = some ⟨b, pr, none⟩ ∧ NL w (some ⟨b, pr, none⟩) r := by
    by_cases h : c = 1
    · exact ⟨off, if_pos h, .inl (List.eq_nil_of_length_eq_zero (by omega))⟩
    · exact ⟨off + 4, if_neg h, hv.tail⟩
  have j1 : (1 : Int) ≤ (r.length : Int) + 1 := by omega
  go_enter Tryz.func59, Tryz.ntmps59
  go_wp2
  go_loopw [3, 4] (fun lv rv wr => ∃ (done : List (List Nd)) (u : List Nd) (ss' : List (List Nd)) (o c' : Nat), rv = .slice (some ⟨b, o, none⟩) u.length c' ∧ OL wr w.heap.size lv done ∧ Hid (Segs f u ss') ∧ Hid (done ++ ss' = ss) ∧ Hid (NL w (some ⟨b, o, none⟩) u) ∧ u.length ≤ c' ∧ c' ≤ 9223372036854775807 ∧ u.length ≤ 200 ∧ Below w.heap.size w wr) (fun _ rv _ => lenV rv)
  case atStart => exact ⟨[], r, ss, pr, c - 1, rfl, OL.nil _ _, HSS, rfl, hnr, by omega, by omega, by omega, Below.refl _ _⟩
  case round =>
    obtain ⟨done, u, ss', o, c', rfl, hol, HSg, HD, HN, huc, hcc, hu200, hb⟩ := hrel
    cases hsg : HSg.out with
    | nil =>
      have HE : Hid (done = ss) := by have := HD.out; show _ = _; simpa using this
      clear hsg
      go_wp2
      go_ret
      exact ⟨⟨_, rfl, by rw [← HE.out]; exact hol⟩, hb⟩
    | @cons a r' ss2 h hs =>
      obtain ⟨a', e, hoff, hne⟩ := itemP_off h
      obtain rfl := List.append_cancel_right e
      have hpos := List.length_pos_iff.2 hne
      have HS2 : Hid (Segs f r' ss2) := hs
      have hu := HN.out.up hb
      have hsz := size_fn a r' hoff (some ⟨b, o, none⟩) c' wr hu (by unfold maxLen; omega)
      have hdl : done.length ≤ 200 := by
        have := congrArg List.length HD.out
        simp at this; omega
      clear hsg h hs e
      have HO : Hid (OL wr w.heap.size _ done) := hol
      clear hol
      simp only [List.length_append] at hsz huc hu200 ⊢
      have k1 : (0 : Int) < (a.length : Int) + (r'.length : Int) := by omega
      go_wp2_with fail
      refine hsz.mono ?_
      rintro e w1 ⟨rfl, hb1⟩
      have hol1 := HO.out.below hb1 hb.size
      have hb2 := hb.trans (hb1.mono hb.size)
      have k2 : (a.length : Int) ≤ (c' : Int) := by omega
      have k3 : (a.length : Int) ≤ (a.length : Int) + (r'.length : Int) := by omega
      have hNT : NT w1 w.heap.size (some ⟨b, o, none⟩) a := ⟨by have := (HN.out.up hb2).take a.length; rw [List.take_left] at this; exact this, .inr ⟨b, o, rfl, .inl hbw⟩⟩
      clear hsz HO
      go_wp2_with (at_builtin; refine append_list w1 rfl (.tmp 13) (.tmp 17) rfl w.heap.size u3 done rfl hol1 a (some ⟨b, o, none⟩) c' hNT (by omega) (by unfold maxLen; omega) rfl (by omega) hb2.size ?_; intro v' w2 hol2 hk2)
      obtain ⟨o2, ho2, hn2⟩ : ∃ o2, (if c' = a.length then some (⟨b, o, none⟩ : Addr) else some ⟨b, o + a.length * 4, none⟩) = some ⟨b, o2, none⟩ ∧ NL w (some ⟨b, o2, none⟩) r' := by
        by_cases h : c' = a.length
        · exact ⟨o, if_pos h, .inl (List.eq_nil_of_length_eq_zero (by omega))⟩
        · refine ⟨o + a.length * 4, if_neg h, ?_⟩
          have := HN.out.drop (r := r') ⟨a, rfl⟩ ((a ++ r').length + 1) (by omega)
          rw [show o + 4 * min ((a ++ r').length - r'.length) ((a ++ r').length + 1 - 1) = o + a.length * 4 by simp only [List.length_append]; omega] at this
          exact this
      rw [ho2]
      go_roundw
      case rel => exact ⟨done ++ [a], r', ss2, o2, c' - a.length, rfl, hol2, HS2, by show _ = _; rw [← HD.out]; simp, hn2, by omega, by omega, by omega, hb2.trans (hk2.bel)⟩
      case measure => simp [lenV]; omega
end Go.Proofs.YtncmjcjnldhhhaaGreatDoor
