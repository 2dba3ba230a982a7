/- The document's Sorted: by a walk of its own text. -/
import Derived.Test.YtkpbholhempmmaaGreatDoorURow
import Derived.Test.YtkpbholhempmmaaGreatDoorClimb
import Derived.Test.YtkpbholhempmmaaGreatDoorUidsC
import Derived.Test.YtkpbholhempmmaaGreatDoorPast
namespace Go.Proofs.YtkpbholhempmmaaGreatDoor
open Go.RowKit Go.Maps Go.WideMaps
set_option linter.unusedVariables false
set_option linter.unusedSimpArgs false

/-- How many are ahead of x. -/
def rk (l : List Ui) (x : Ui) : Nat := l.countP fun y => decide (uC y x < 0)
theorem rk_snoc (l : List Ui) (y x : Ui) : rk (l ++ [y]) x = if uC y x < 0 then rk l x + 1 else rk l x := by
  unfold rk
  rw [List.countP_append, List.countP_singleton]
  by_cases h : uC y x < 0 <;> simp [h]
theorem rk_lt {l : List Ui} {x : Ui} (h : x ∈ l) : rk l x < l.length := by
  have := countP_lt (p := fun _ => true) (q := fun y => decide (uC y x < 0)) (fun _ _ => rfl) (x := x) rfl (by simp [uC_is.self]) l h
  simpa [rk] using this
theorem rk_mono {l : List Ui} {x y : Ui} (h : x ∈ l) (k : uC x y < 0) : rk l x < rk l y := by
  refine countP_lt (fun z hz => ?_) (decide_eq_true k) (by simp [uC_is.self]) l h
  simp only [decide_eq_true_eq] at hz ⊢
  exact uC_is.lt_le hz (by omega)
theorem rk_inj {l : List Ui} {x y : Ui} (hx : x ∈ l) (hy : y ∈ l) (h : rk l x = rk l y) : x = y := by
  have a := uC_is.range x y
  have b := uC_is.neg x y
  rcases a with a | a | a
  · have := rk_mono hx (y := y) (by omega); omega
  · exact (uC_is.zero x y).1 a
  · have := rk_mono hy (y := x) (by omega); omega
def leU (a b : Ui) : Bool := decide (uC a b ≤ 0)
/-- They can be put in order. -/
theorem sorted_is (l : List Ui) (hn : l.Nodup) : ∃ S : List Ui, S.Perm l ∧ S.Pairwise (fun x y => uC x y < 0) := by
  have tr : ∀ a b c, leU a b = true → leU b c = true → leU a c = true := fun a b c h1 h2 => by
    unfold leU at *
    simp only [decide_eq_true_eq] at *
    exact uC_is.trans a b c h1 h2
  have to : ∀ a b, (leU a b || leU b a) = true := fun a b => by
    unfold leU
    have h1 := uC_is.neg a b
    have h2 := uC_is.range a b
    simp only [Bool.or_eq_true, decide_eq_true_eq]
    omega
  refine ⟨l.mergeSort leU, List.mergeSort_perm l leU, ?_⟩
  have hp := List.pairwise_mergeSort tr to l
  have hnd : (l.mergeSort leU).Nodup := (List.mergeSort_perm l leU).nodup_iff.2 hn
  refine (hp.and (List.nodup_iff_pairwise_ne.1 hnd)).imp (fun {a b} h => ?_)
  have h1 : uC a b ≤ 0 := by simpa [leU] using h.1
  have h2 : uC a b ≠ 0 := fun q => h.2 ((uC_is.zero _ _).1 q)
  omega
theorem rk_of {S : List Ui} (hS : S.Pairwise (fun x y => uC x y < 0)) {r : Nat} (hr : r < S.length) : rk S S[r] = r := by
  have e : S = S.take r ++ S[r] :: S.drop (r + 1) := by rw [← List.drop_eq_getElem_cons hr, List.take_append_drop]
  have hp : (S.take r ++ S[r] :: S.drop (r + 1)).Pairwise fun a b => uC a b < 0 := by rw [← e]; exact hS
  obtain ⟨_, h2, h3⟩ := List.pairwise_append.1 hp
  have h2' := List.pairwise_cons.1 h2
  unfold rk
  generalize S[r] = x at *
  rw [e, List.countP_append, List.countP_cons]
  have k1 : (S.take r).countP (fun y => decide (uC y x < 0)) = r := by
    rw [List.countP_eq_length.2 (fun a ha => by simpa using h3 a ha x (by simp))]
    simp; omega
  have k2 : (S.drop (r + 1)).countP (fun y => decide (uC y x < 0)) = 0 := by
    rw [List.countP_eq_zero]
    intro a ha
    have h4 := h2'.1 a ha
    have h5 := uC_is.neg a x
    simp; omega
  rw [k1, k2]
  simp [uC_is.self]
theorem rk_perm {l m : List Ui} (h : l.Perm m) (x : Ui) : rk l x = rk m x := h.countP_eq _

/-- The row into which they are put: the first i stand at their places. -/
def RowS (w : World) (g : Nat) (l : List Ui) (i : Nat) : Prop :=
  ∃ cur : Array Value, w.heap[g]? = some (.cells cur 24 (0, 0)) ∧ cur.size = l.length * 2 ∧ ∀ x ∈ l.take i, cur[rk l x * 2]? = some (.string x.t) ∧ cur[rk l x * 2 + 1]? = some (.string x.i)
theorem RowS.up {w w' : World} {g : Nat} {l : List Ui} {i : Nat} (h : RowS w g l i) (k : Below w.heap.size w w') : RowS w' g l i := by
  obtain ⟨cur, h1, h2⟩ := h
  exact ⟨cur, (k.block g (Array.getElem?_eq_some_iff.1 h1).1).trans h1, h2⟩
theorem heap_set2 {w : World} {g j : Nat} {cur : Array Value} {t : TypeId} (hg : w.heap[g]? = some (.cells cur t (0, 0))) (u : Value) : (w.setCell ⟨g, j, none⟩ u).heap[g]? = some (.cells (cur.setIfInBounds j u) t (0, 0)) := by
  simp only [World.setCell, Array.getElem?_modify, hg, if_true, Option.map_some]
  rfl
theorem RowS.put {w : World} {g : Nat} {l : List Ui} {i : Nat} (h : RowS w g l i) (hi : i < l.length) (hn : l.Nodup) :
    RowS ((w.setCell ⟨g, rk l l[i] * 2, none⟩ (.string l[i].t)).setCell ⟨g, rk l l[i] * 2 + 1, none⟩ (.string l[i].i)) g l (i + 1) := by
  obtain ⟨cur, h1, h2, h3⟩ := h
  have hr := rk_lt (List.getElem_mem hi)
  refine ⟨_, heap_set2 (heap_set2 h1 _) _, by simpa using h2, fun x hx => ?_⟩
  rw [List.take_succ_eq_append_getElem hi] at hx
  rcases List.mem_append.1 hx with hx | hx
  · have hxl : x ∈ l := List.mem_of_mem_take hx
    have hne : rk l x ≠ rk l l[i] := fun e => by
      have e' := rk_inj hxl (List.getElem_mem hi) e
      obtain ⟨j, hj, hjx⟩ := List.mem_take_iff_getElem.1 hx
      have := (List.getElem_inj (i := j) (j := i) (h₀ := by omega) (h₁ := hi) hn).1 (by rw [hjx, e'])
      omega
    obtain ⟨k1, k2⟩ := h3 x hx
    refine ⟨?_, ?_⟩
    · rw [Array.getElem?_setIfInBounds_ne (by omega), Array.getElem?_setIfInBounds_ne (by omega)]; exact k1
    · rw [Array.getElem?_setIfInBounds_ne (by omega), Array.getElem?_setIfInBounds_ne (by omega)]; exact k2
  · rw [List.mem_singleton.1 hx]
    refine ⟨?_, ?_⟩
    · rw [Array.getElem?_setIfInBounds_ne (by omega), Array.getElem?_setIfInBounds_self_of_lt (by omega)]
    · rw [Array.getElem?_setIfInBounds_self_of_lt (by simp; omega)]
theorem RowS.done {w : World} {g : Nat} {l : List Ui} (h : RowS w g l l.length) {S : List Ui} (hp : S.Perm l) (hS : S.Pairwise (fun x y => uC x y < 0)) : UL w (some ⟨g, 0, none⟩) S := by
  obtain ⟨cur, h1, h2, h3⟩ := h
  rw [List.take_length] at h3
  refine .inr ⟨g, 0, rfl, (Array.getElem?_eq_some_iff.1 h1).1, fun r x hx => ?_⟩
  obtain ⟨hr, hrx⟩ := List.getElem?_eq_some_iff.1 hx
  have hrk : rk l x = r := by rw [← rk_perm hp, ← hrx]; exact rk_of hS hr
  obtain ⟨k1, k2⟩ := h3 x (hp.mem_iff.1 (List.mem_of_getElem? hx))
  rw [hrk] at k1 k2
  have hc : ∀ o, w.cell? ⟨g, o, none⟩ = cur[o]? := fun o => by simp [World.cell?, h1]
  rw [hc, hc, Nat.zero_add]
  exact ⟨k1, k2⟩
theorem RowS.cell {w : World} {g : Nat} {l : List Ui} {i : Nat} (h : RowS w g l i) {o : Nat} (ho : o < l.length * 2) : (∃ v, w.cell? ⟨g, o, none⟩ = some v) ∧ w.frozen? ⟨g, o, none⟩ = false := by
  obtain ⟨cur, h1, h2, _⟩ := h
  exact ⟨⟨_, by simp [World.cell?, h1]; exact Array.getElem?_eq_getElem (by omega)⟩, by simp [World.frozen?, h1]⟩

/-- What Sorted tells. -/
def SortTold (l : List Ui) (e : Ending) (w' : World) : Prop :=
  ∃ q c S, e = .returned (.slice q S.length c) ∧ UL w' q S ∧ S.Pairwise (fun x y => uC x y < 0) ∧ (∀ x, x ∈ S ↔ x ∈ l) ∧ S.length ≤ c ∧ c ≤ maxLen

set_option maxRecDepth 100000 in
set_option maxHeartbeats 4000000 in
theorem sorted_any (l : List Ui) (p : Option Addr) (c : Nat) (w : World) (hl : UL w p l) (hn : l.Nodup) (ho : ∀ x ∈ l, UOk x) (h96 : l.length ≤ 1000) :
    Calls Tryz.prog 5 #[.slice p l.length c] w fun e w' => SortTold l e w' ∧ Below w.heap.size w w' := by
  obtain ⟨i0, hi, hz0, hz1, hz2⟩ := info_parts Tryz.infoUid
  have HU : Hid (UL w p l) := hl
  have HN : Hid (l.Nodup) := hn
  have HO : Hid (∀ x ∈ l, UOk x) := ho
  clear hl hn ho
  have hb32 : i0.bytes * l.length ≤ 281474976710656 := by rw [hz2]; omega
  go_enter Tryz.func5, Tryz.ntmps5
  go_wp2_with (first
    | (at_make; refine wpList_make_full _ rfl _ _ 27 rfl w.heap.size 24 i0 _ 2 Tryz.underlying27 hi hz0 hz1 .i64 .i64 _ _ l.length rfl rfl (by first | rfl | omega) (by first | rfl | omega) hb32 (by unfold maxLen; omega) (Nat.le_refl _) ?_; intro w1 hown hg1)
    | go_in)
  have hR0 : RowS w1 w.heap.size l 0 := by
    rcases hown.2 with ⟨e, _⟩ | ⟨g, cap, cur, e, _, hgg, _, _, hsz, _⟩
    · cases e
    · cases e
      exact ⟨cur, hgg, hsz, fun x hx => (by simp at hx)⟩
  have HR0 : Hid (RowS w1 w.heap.size l 0) := hR0
  have hb1 : Below w.heap.size w w1 := ⟨hg1.os, hg1.tape, hg1.output, hg1.size, fun i hi => hg1.block i hi (by simp)⟩
  have HB1 : Hid (Below w.heap.size w w1) := hb1
  clear hR0 hown hg1 hb1 hi hz0 hz1 hz2 hb32
  go_loopw [4] (fun iv wr => ∃ i : Nat, i ≤ l.length ∧ iv = .int .i64 i ∧ Hid (RowS wr w.heap.size l i) ∧ Hid (Below w.heap.size w wr)) (fun iv _ => l.length - (intOf iv).toNat)
  case atStart => exact ⟨0, Nat.zero_le _, rfl, HR0, HB1⟩
  case round =>
    obtain ⟨i, hi, rfl, HR, HB⟩ := hrel
    by_cases hlt : i < l.length
    · have i1 : (i : Int) < (l.length : Int) := by omega
      obtain ⟨b, off, rfl, hbl, g0, g1⟩ := HU.out.at hlt
      have HCX : Hid (∀ v, Below w.heap.size w v → v.cell? ⟨b, off + i * 2, none⟩ = some (.string l[i].t) ∧ v.cell? ⟨b, off + i * 2 + 1, none⟩ = some (.string l[i].i)) := fun v h => ⟨(h.cell (p := ⟨b, off + i * 2, none⟩) hbl).trans g0, (h.cell (p := ⟨b, off + i * 2 + 1, none⟩) hbl).trans g1⟩
      have hox := HO.out _ (List.getElem_mem hlt)
      have hrl := rk_lt (List.getElem_mem hlt)
      have HPUT : Hid (∀ v, RowS v w.heap.size l i → RowS ((v.setCell ⟨w.heap.size, rk l l[i] * 2, none⟩ (.string l[i].t)).setCell ⟨w.heap.size, rk l l[i] * 2 + 1, none⟩ (.string l[i].i)) w.heap.size l (i + 1)) := fun v h => h.put hlt HN.out
      generalize l[i] = x at HCX hox hrl HPUT
      clear g0 g1
      go_wp2_with fail
      go_loopw [5, 6] (fun av jv wr => ∃ j : Nat, j ≤ l.length ∧ jv = .int .i64 j ∧ av = .int .i64 (rk (l.take j) x : Nat) ∧ Hid (RowS wr w.heap.size l i) ∧ Hid (Below w.heap.size w wr)) (fun _ jv _ => l.length - (intOf jv).toNat)
      case atStart => exact ⟨0, Nat.zero_le _, rfl, rfl, HR, HB⟩
      case round =>
        obtain ⟨j, hj, rfl, rfl, HR, HB⟩ := hrel
        have hrj : rk (l.take j) x ≤ 1000 := Nat.le_trans List.countP_le_length (by rw [List.length_take]; omega)
        by_cases hlt2 : j < l.length
        · have i2 : (j : Int) < (l.length : Int) := by omega
          obtain ⟨b', off', he, hbl', y0, y1⟩ := (HU.out.up HB.out).at hlt2
          cases he
          have hoy := HO.out _ (List.getElem_mem hlt2)
          have HSN : Hid (rk (l.take (j + 1)) x = if uC l[j] x < 0 then rk (l.take j) x + 1 else rk (l.take j) x) := by show _ = _; rw [List.take_succ_eq_append_getElem hlt2, rk_snoc]
          generalize l[j] = y at y0 y1 hoy HSN
          obtain ⟨x0, x1⟩ := HCX.out _ HB.out
          have hz0 : ∀ q : BW wr.heap.size wr, q.at_.cell? ⟨b, off + j * 2, none⟩ = some (.string y.t) := fun q => (q.bel.cell (p := ⟨b, off + j * 2, none⟩) hbl').trans y0
          have hz1 : ∀ q : BW wr.heap.size wr, q.at_.cell? ⟨b, off + j * 2 + 1, none⟩ = some (.string y.i) := fun q => (q.bel.cell (p := ⟨b, off + j * 2 + 1, none⟩) hbl').trans y1
          have hv0 : ∀ q : BW wr.heap.size wr, q.at_.cell? ⟨b, off + i * 2, none⟩ = some (.string x.t) := fun q => (q.bel.cell (p := ⟨b, off + i * 2, none⟩) hbl').trans x0
          have hv1 : ∀ q : BW wr.heap.size wr, q.at_.cell? ⟨b, off + i * 2 + 1, none⟩ = some (.string x.i) := fun q => (q.bel.cell (p := ⟨b, off + i * 2 + 1, none⟩) hbl').trans x1
          have hcall : ∀ q : BW wr.heap.size wr, Calls Tryz.prog 16 #[.agg #[.string y.t, .string y.i], .agg #[.string x.t, .string x.i]] q.at_ (fun e w'' => e = .returned (.int .i64 (uC y x)) ∧ ∃ p' : BW wr.heap.size wr, w'' = p'.at_) := fun q => Calls.bel q (uidsC_any y x q.at_ hoy hox)
          generalize uC y x = cz at hcall HSN
          by_cases hcz : cz < 0
          · have HSN2 : Hid (rk (l.take (j + 1)) x = rk (l.take j) x + 1) := by show _ = _; rw [HSN.out, if_pos hcz]
            clear HSN
            generalize rk (l.take j) x = r at hrj HSN2
            go_wp2_with fail
            refine wp_region_bel (by kernel_rfl) (by kernel_rfl) ?_
            repeat (go_big_quiet_step (exact hcall _))
            refine wpQuiet_nil ?_
            rintro _ ⟨q, rfl⟩
            have HR2 : Hid (RowS q.at_ w.heap.size l i) := HR.out.up q.bel
            have HB2 : Hid (Below w.heap.size w q.at_) := HB.out.trans (q.bel.mono HB.out.size)
            clear hz0 hz1 hv0 hv1 hcall
            go_wp2_with fail
            go_roundw
            case rel => exact ⟨j + 1, by omega, by go_num, by rw [HSN2.out]; go_num, HR2, HB2⟩
            case measure => simp [intOf]; omega
          · have HSN2 : Hid (rk (l.take (j + 1)) x = rk (l.take j) x) := by show _ = _; rw [HSN.out, if_neg hcz]
            clear HSN
            generalize rk (l.take j) x = r at hrj HSN2
            go_wp2_with fail
            refine wp_region_bel (by kernel_rfl) (by kernel_rfl) ?_
            repeat (go_big_quiet_step (exact hcall _))
            refine wpQuiet_nil ?_
            rintro _ ⟨q, rfl⟩
            have HR2 : Hid (RowS q.at_ w.heap.size l i) := HR.out.up q.bel
            have HB2 : Hid (Below w.heap.size w q.at_) := HB.out.trans (q.bel.mono HB.out.size)
            clear hz0 hz1 hv0 hv1 hcall
            go_wp2_with fail
            go_roundw
            case rel => exact ⟨j + 1, by omega, by go_num, by rw [HSN2.out], HR2, HB2⟩
            case measure => simp [intOf]; omega
        · obtain rfl : j = l.length := by omega
          have i2 : ¬ (l.length : Int) < (l.length : Int) := by omega
          rw [List.take_length] at hrj ⊢
          obtain ⟨x0, x1⟩ := HCX.out _ HB.out
          obtain ⟨⟨u0, c0⟩, f0⟩ := HR.out.cell (o := rk l x * 2) (by omega)
          obtain ⟨⟨u1, c1⟩, f1⟩ := HR.out.cell (o := rk l x * 2 + 1) (by omega)
          have HR2 := HPUT.out _ HR.out
          have HR3 : Hid (RowS _ _ _ _) := HR2
          generalize rk l x = r at *
          have i3 : (r : Int) < (l.length : Int) := by omega
          clear HR2
          go_wp2_with fail
          go_roundw
          case rel => exact ⟨i + 1, by omega, by go_num, HR3, (HB.out.setCell (Nat.le_refl _) _).setCell (Nat.le_refl _) _⟩
          case measure => simp [intOf]; omega
    · obtain rfl : i = l.length := by omega
      have i1 : ¬ (l.length : Int) < (l.length : Int) := by omega
      have HS : Hid (∃ S : List Ui, S.Perm l ∧ S.Pairwise (fun x y => uC x y < 0)) := sorted_is l HN.out
      go_wp2_with fail
      go_ret
      obtain ⟨S, hp, hS⟩ := HS.out
      exact ⟨⟨some ⟨w.heap.size, 0, none⟩, l.length, S, by rw [hp.length_eq]; rfl, HR.out.done hp hS, hS, fun x => hp.mem_iff, by rw [hp.length_eq]; exact Nat.le_refl _, by unfold maxLen; omega⟩, HB.out⟩
end Go.Proofs.YtkpbholhempmmaaGreatDoor
