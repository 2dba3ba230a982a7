/- A schema, and an act, that are handed in: what they read as (written by gen_scharg.py). -/
import Derived.Test.YtgkbegomekhpcaaGreatDoorC15
import Derived.Test.YtgkbegomekhpcaaGreatDoorC13
namespace Go.Proofs.YtgkbegomekhpcaaGreatDoor
open Go.ChangeShapes Go.WideShapes Go.ChangeAt Go.RowKit Go.Deep
set_option linter.unusedVariables false

theorem Tryz.cellsSx : Tryz.prog.cellsOf 9 = 1 := by kernel_rfl
theorem Tryz.cellsSsx : Tryz.prog.cellsOf 62 = 1 := by kernel_rfl
theorem Tryz.cellsNsx : Tryz.prog.cellsOf 26 = 1 := by kernel_rfl
theorem Tryz.cellsKdx : Tryz.prog.cellsOf 182 = 3 := by kernel_rfl
theorem Tryz.cellsAcx : Tryz.prog.cellsOf 64 = 4 := by kernel_rfl
theorem Tryz.cellsKdsx : Tryz.prog.cellsOf 22 = 1 := by kernel_rfl
theorem Tryz.cellsAcsx : Tryz.prog.cellsOf 23 = 1 := by kernel_rfl
theorem Tryz.cellsScx : Tryz.prog.cellsOf 25 = 2 := by kernel_rfl
instance : Inhabited ByteArray := ⟨⟨#[]⟩⟩
instance : Inhabited Kd := ⟨⟨⟨#[]⟩, [], []⟩⟩
instance : Inhabited Ac := ⟨⟨⟨#[]⟩, [], [], []⟩⟩
set_option maxRecDepth 100000 in
theorem open_ta_cells {H : Type} {enc : TypeId × Value → H} {W : World} {base : Nat} {spare : Nat → Bool} {held : Bool} {fuel : Nat} {cs : List Value} {x : DataW H × List MemPlace}
    (h : DataW.trod enc Tryz.prog W base spare held fuel 62 cs = some x) :
    ∃ (v : List ByteArray) (p : Option Addr) (c : Nat), cs = [.slice p v.length c] ∧ TA W v p c := by
  rcases open_slice1 Tryz.underlying62 Tryz.cellsSx h with ⟨rfl, rfl⟩ | ⟨a, len, cap, m, n, V, D, Pl, rfl, hb, hl, hm, hmm, rfl, hx⟩
  · exact ⟨[], none, 0, rfl, .inl rfl, by simp, Nat.le_refl _, Nat.zero_le _⟩
  · have hlm : len ≤ m := by rw [hmm]; split <;> omega
    obtain ⟨Y, hY⟩ := choose_lt (α := ByteArray) (n := len) (p := fun i y => W.cell? (a.add i) = some (.string y) ∧ y.size ≤ maxLen) (fun i hi => by
      obtain ⟨h1, h2⟩ := hx i (by omega)
      obtain ⟨y, e, _, w0⟩ := DataW.trod_string Tryz.underlying9 h2
      simp at e
      rw [e] at h1
      exact ⟨y, h1, w0⟩)
    refine ⟨(List.range len).map Y, some a, cap, by simp, ?_, fun t ht => ?_, by simpa using hl, hm⟩
    · by_cases h0 : len = 0
      · exact .inl (by simp [h0])
      · obtain ⟨b, off, spot⟩ := a
        have hspot : spot = none := by
          obtain ⟨this, _⟩ := hY 0 (by omega)
          simpa [Addr.add] using World.cell?_spot this
        subst hspot
        have hadd : ∀ j, (⟨b, off, none⟩ : Addr).add j = ⟨b, off + j, none⟩ := fun j => by unfold Addr.add; split <;> simp_all
        have hlt : b < W.heap.size := by
          obtain ⟨this, _⟩ := hY 0 (by omega)
          rw [hadd] at this
          exact lt_of_cell this
        refine .inr ⟨b, off, rfl, hlt, fun i y hy => ?_⟩
        have hi : i < len := by
          have := (List.getElem?_eq_some_iff.1 hy).1
          simpa using this
        obtain rfl : Y i = y := by simpa [hi] using hy
        obtain ⟨h1, h2⟩ := hY i hi
        rw [hadd] at h1
        exact h1
    · obtain ⟨i, hi, rfl⟩ := List.mem_map.1 ht
      exact (hY i (List.mem_range.1 hi)).2
set_option maxRecDepth 100000 in
theorem open_kd_cells {H : Type} {enc : TypeId × Value → H} {W : World} {base : Nat} {spare : Nat → Bool} {held : Bool} {fuel : Nat} {cs : List Value} {x : DataW H × List MemPlace}
    (h : DataW.trod enc Tryz.prog W base spare held fuel 182 cs = some x) :
    ∃ (e : Kd) (p1 : Option Addr) (c1 : Nat) (p2 : Option Addr) (c2 : Nat), cs = [.string e.nm, .slice p1 e.up.length c1, .slice p2 e.ty.length c2] ∧ KdV W e p1 c1 p2 c2 := by
  obtain ⟨xs, n, _, rfl, hl, hlen, hf⟩ := DataW.trod_struct Tryz.underlying182 h
  rw [Tryz.cellsKdx] at hl
  match xs, hlen with
  | [y0, y1, y2], _ =>
    have f0 := hf 0 _ rfl
    have f1 := hf 1 _ rfl
    have f2 := hf 2 _ rfl
    match cs, hl with
    | [d0, d1, d2], _ =>
      simp [Tryz.cellsSx, Tryz.cellsSsx, Tryz.cellsNsx] at f0 f1 f2
      obtain ⟨s, e0, _, w0⟩ := DataW.trod_string Tryz.underlying9 f0
      obtain ⟨l1, p1, c1, e1, o1⟩ := open_ta_cells f1
      obtain ⟨l2, p2, c2, e2, o2, o2b, o2c⟩ := open_nodes_cells f2
      simp at e0 e1 e2
      subst e0 e1 e2
      exact ⟨⟨s, l1, l2⟩, p1, c1, p2, c2, rfl, w0, o1, ⟨o2, o2b, o2c⟩⟩
set_option maxRecDepth 100000 in
theorem open_kds_cells {H : Type} {enc : TypeId × Value → H} {W : World} {base : Nat} {spare : Nat → Bool} {held : Bool} {fuel : Nat} {cs : List Value} {x : DataW H × List MemPlace}
    (h : DataW.trod enc Tryz.prog W base spare held fuel 22 cs = some x) :
    ∃ (v : List Kd) (p : Option Addr) (c : Nat), cs = [.slice p v.length c] ∧ KdL W p v ∧ v.length ≤ c ∧ c ≤ maxLen ∧ (p = none → c = 0) := by
  rcases open_slice Tryz.underlying22 h with ⟨rfl, _⟩ | ⟨a, len, cap, m, n, D, Pl, rfl, hb, hl, hm, hmm, rfl, hx⟩
  · exact ⟨[], none, 0, rfl, .inl rfl, Nat.le_refl _, Nat.zero_le _, fun _ => rfl⟩
  · have hlm : len ≤ m := by rw [hmm]; split <;> omega
    rw [Tryz.cellsKdx] at hx
    obtain ⟨Y, hY⟩ := choose_lt (α := Kd) (n := len) (p := fun i y => ∃ p1 c1 p2 c2, W.cells? base (a.add (i * 3)) 3 = some [.string y.nm, .slice p1 y.up.length c1, .slice p2 y.ty.length c2] ∧ KdV W y p1 c1 p2 c2) (fun i hi => by
      obtain ⟨cs', h1, h2⟩ := hx i (by omega)
      obtain ⟨y, p1, c1, p2, c2, rfl, hw⟩ := open_kd_cells h2
      exact ⟨y, p1, c1, p2, c2, h1, hw⟩)
    refine ⟨(List.range len).map Y, some a, cap, by simp, ?_, by simpa using hl, hm, fun h => by cases h⟩
    by_cases h0 : len = 0
    · exact .inl (by simp [h0])
    · obtain ⟨b, off, spot⟩ := a
      have hcell : ∀ i, i < len → ∃ p1 c1 p2 c2, KdV W (Y i) p1 c1 p2 c2 ∧ ∀ j, j < 3 → W.cell? ((⟨b, off, spot⟩ : Addr).add (i * 3 + j)) = ([.string (Y i).nm, .slice p1 (Y i).up.length c1, .slice p2 (Y i).ty.length c2] : List Value)[j]? := by
        intro i hi
        obtain ⟨p1, c1, p2, c2, h1, h2⟩ := hY i hi
        refine ⟨p1, c1, p2, c2, h2, fun j hj => ?_⟩
        have := (World.cells?_some h1).2.2 j hj
        rw [add_add] at this
        exact this
      have hspot : spot = none := by
        obtain ⟨_, _, _, _, _, h1⟩ := hcell 0 (by omega)
        have := h1 0 (by omega)
        simpa [Addr.add] using World.cell?_spot this
      subst hspot
      have hlt : b < W.heap.size := by
        obtain ⟨_, _, _, _, _, h1⟩ := hcell 0 (by omega)
        have := h1 0 (by omega)
        simp [Addr.add] at this
        exact lt_of_cell this
      refine .inr ⟨b, off, rfl, hlt, fun i y hy => ?_⟩
      have hi : i < len := by
        have := (List.getElem?_eq_some_iff.1 hy).1
        simpa using this
      obtain rfl : Y i = y := by simpa [hi] using hy
      obtain ⟨p1, c1, p2, c2, h2, h1⟩ := hcell i hi
      refine ⟨p1, c1, p2, c2, h2, ?_, ?_, ?_⟩
      · have := h1 0 (by omega); simp [Addr.add] at this; split at this; (rename_i h; rw [h]; exact this); exact this
      · have := h1 1 (by omega); simpa [Addr.add, Nat.add_assoc] using this
      · have := h1 2 (by omega); simpa [Addr.add, Nat.add_assoc] using this
set_option maxRecDepth 100000 in
theorem open_ac_cells {H : Type} {enc : TypeId × Value → H} {W : World} {base : Nat} {spare : Nat → Bool} {held : Bool} {fuel : Nat} {cs : List Value} {x : DataW H × List MemPlace}
    (h : DataW.trod enc Tryz.prog W base spare held fuel 64 cs = some x) :
    ∃ (e : Ac) (p1 : Option Addr) (c1 : Nat) (p2 : Option Addr) (c2 : Nat) (p3 : Option Addr) (c3 : Nat), cs = [.string e.id, .slice p1 e.who.length c1, .slice p2 e.what.length c2, .slice p3 e.cx.length c3] ∧ AcV W e p1 c1 p2 c2 p3 c3 := by
  obtain ⟨xs, n, _, rfl, hl, hlen, hf⟩ := DataW.trod_struct Tryz.underlying64 h
  rw [Tryz.cellsAcx] at hl
  match xs, hlen with
  | [y0, y1, y2, y3], _ =>
    have f0 := hf 0 _ rfl
    have f1 := hf 1 _ rfl
    have f2 := hf 2 _ rfl
    have f3 := hf 3 _ rfl
    match cs, hl with
    | [d0, d1, d2, d3], _ =>
      simp [Tryz.cellsSx, Tryz.cellsSsx, Tryz.cellsNsx] at f0 f1 f2 f3
      obtain ⟨s, e0, _, w0⟩ := DataW.trod_string Tryz.underlying9 f0
      obtain ⟨l1, p1, c1, e1, o1⟩ := open_ta_cells f1
      obtain ⟨l2, p2, c2, e2, o2⟩ := open_ta_cells f2
      obtain ⟨l3, p3, c3, e3, o3, o3b, o3c⟩ := open_nodes_cells f3
      simp at e0 e1 e2 e3
      subst e0 e1 e2 e3
      exact ⟨⟨s, l1, l2, l3⟩, p1, c1, p2, c2, p3, c3, rfl, w0, o1, o2, ⟨o3, o3b, o3c⟩⟩
set_option maxRecDepth 100000 in
theorem open_acs_cells {H : Type} {enc : TypeId × Value → H} {W : World} {base : Nat} {spare : Nat → Bool} {held : Bool} {fuel : Nat} {cs : List Value} {x : DataW H × List MemPlace}
    (h : DataW.trod enc Tryz.prog W base spare held fuel 23 cs = some x) :
    ∃ (v : List Ac) (p : Option Addr) (c : Nat), cs = [.slice p v.length c] ∧ AcL W p v ∧ v.length ≤ c ∧ c ≤ maxLen ∧ (p = none → c = 0) := by
  rcases open_slice Tryz.underlying23 h with ⟨rfl, _⟩ | ⟨a, len, cap, m, n, D, Pl, rfl, hb, hl, hm, hmm, rfl, hx⟩
  · exact ⟨[], none, 0, rfl, .inl rfl, Nat.le_refl _, Nat.zero_le _, fun _ => rfl⟩
  · have hlm : len ≤ m := by rw [hmm]; split <;> omega
    rw [Tryz.cellsAcx] at hx
    obtain ⟨Y, hY⟩ := choose_lt (α := Ac) (n := len) (p := fun i y => ∃ p1 c1 p2 c2 p3 c3, W.cells? base (a.add (i * 4)) 4 = some [.string y.id, .slice p1 y.who.length c1, .slice p2 y.what.length c2, .slice p3 y.cx.length c3] ∧ AcV W y p1 c1 p2 c2 p3 c3) (fun i hi => by
      obtain ⟨cs', h1, h2⟩ := hx i (by omega)
      obtain ⟨y, p1, c1, p2, c2, p3, c3, rfl, hw⟩ := open_ac_cells h2
      exact ⟨y, p1, c1, p2, c2, p3, c3, h1, hw⟩)
    refine ⟨(List.range len).map Y, some a, cap, by simp, ?_, by simpa using hl, hm, fun h => by cases h⟩
    by_cases h0 : len = 0
    · exact .inl (by simp [h0])
    · obtain ⟨b, off, spot⟩ := a
      have hcell : ∀ i, i < len → ∃ p1 c1 p2 c2 p3 c3, AcV W (Y i) p1 c1 p2 c2 p3 c3 ∧ ∀ j, j < 4 → W.cell? ((⟨b, off, spot⟩ : Addr).add (i * 4 + j)) = ([.string (Y i).id, .slice p1 (Y i).who.length c1, .slice p2 (Y i).what.length c2, .slice p3 (Y i).cx.length c3] : List Value)[j]? := by
        intro i hi
        obtain ⟨p1, c1, p2, c2, p3, c3, h1, h2⟩ := hY i hi
        refine ⟨p1, c1, p2, c2, p3, c3, h2, fun j hj => ?_⟩
        have := (World.cells?_some h1).2.2 j hj
        rw [add_add] at this
        exact this
      have hspot : spot = none := by
        obtain ⟨_, _, _, _, _, _, _, h1⟩ := hcell 0 (by omega)
        have := h1 0 (by omega)
        simpa [Addr.add] using World.cell?_spot this
      subst hspot
      have hlt : b < W.heap.size := by
        obtain ⟨_, _, _, _, _, _, _, h1⟩ := hcell 0 (by omega)
        have := h1 0 (by omega)
        simp [Addr.add] at this
        exact lt_of_cell this
      refine .inr ⟨b, off, rfl, hlt, fun i y hy => ?_⟩
      have hi : i < len := by
        have := (List.getElem?_eq_some_iff.1 hy).1
        simpa using this
      obtain rfl : Y i = y := by simpa [hi] using hy
      obtain ⟨p1, c1, p2, c2, p3, c3, h2, h1⟩ := hcell i hi
      refine ⟨p1, c1, p2, c2, p3, c3, h2, ?_, ?_, ?_, ?_⟩
      · have := h1 0 (by omega); simp [Addr.add] at this; split at this; (rename_i h; rw [h]; exact this); exact this
      · have := h1 1 (by omega); simpa [Addr.add, Nat.add_assoc] using this
      · have := h1 2 (by omega); simpa [Addr.add, Nat.add_assoc] using this
      · have := h1 3 (by omega); simpa [Addr.add, Nat.add_assoc] using this
set_option maxRecDepth 100000 in
theorem open_sch {H : Type} {enc : TypeId × Value → H} {W : World} {base b0 : Nat} {spare : Nat → Bool} {held : Bool} {v : Value} {d : DataW H} {p : List MemPlace}
    (hv : Value.okWide Tryz.prog W .any b0 25 v) (h : DataW.Trod enc Tryz.prog W base spare held 25 v d p) :
    ∃ (s : Sc) (pk : Option Addr) (ck : Nat) (pa : Option Addr) (ca : Nat), v = scV s pk ck pa ca ∧ SA W s pk ck pa ca ∧ (pk = none → ck = 0) ∧ (pa = none → ca = 0) := by
  obtain ⟨cs, rfl, hsz⟩ := okWide_struct Tryz.underlying25 hv
  obtain ⟨fuel, hf⟩ := h
  obtain ⟨xs, n, _, hn, hl, hlen, hf⟩ := DataW.trod_struct Tryz.underlying25 hf
  rw [Tryz.cellsScx] at hl
  match xs, hlen with
  | [y0, y1], _ =>
    have f0 := hf 0 _ rfl
    have f1 := hf 1 _ rfl
    obtain ⟨cl⟩ := cs
    simp only [Value.cells] at hl f0 f1
    match cl, hl with
    | [c0, c1], _ =>
      simp [Tryz.cellsKdsx, Tryz.cellsAcsx] at f0 f1
      obtain ⟨ks, pk, ck, e0, h0, h0b, h0c, h0d⟩ := open_kds_cells f0
      obtain ⟨al, pa, ca, e1, h1, h1b, h1c, h1d⟩ := open_acs_cells f1
      simp at e0 e1
      subst e0 e1
      exact ⟨⟨ks, al⟩, pk, ck, pa, ca, rfl, ⟨h0, h0b, h0c, h1, h1b, h1c⟩, h0d, h1d⟩
def acV (a : Ac) (p1 : Option Addr) (c1 : Nat) (p2 : Option Addr) (c2 : Nat) (p3 : Option Addr) (c3 : Nat) : Value := .agg #[.string a.id, .slice p1 a.who.length c1, .slice p2 a.what.length c2, .slice p3 a.cx.length c3]
set_option maxRecDepth 100000 in
theorem open_act {H : Type} {enc : TypeId × Value → H} {W : World} {base b0 : Nat} {spare : Nat → Bool} {held : Bool} {v : Value} {d : DataW H} {p : List MemPlace}
    (hv : Value.okWide Tryz.prog W .any b0 64 v) (h : DataW.Trod enc Tryz.prog W base spare held 64 v d p) :
    ∃ (e : Ac) (p1 : Option Addr) (c1 : Nat) (p2 : Option Addr) (c2 : Nat) (p3 : Option Addr) (c3 : Nat), v = acV e p1 c1 p2 c2 p3 c3 ∧ AcV W e p1 c1 p2 c2 p3 c3 := by
  obtain ⟨cs, rfl, hsz⟩ := okWide_struct Tryz.underlying64 hv
  obtain ⟨fuel, hf⟩ := h
  obtain ⟨e, p1, c1, p2, c2, p3, c3, h1, h2⟩ := open_ac_cells hf
  refine ⟨e, p1, c1, p2, c2, p3, c3, ?_, h2⟩
  simp only [Value.cells] at h1
  cases cs
  simp only at h1
  unfold acV
  rw [h1]
end Go.Proofs.YtgkbegomekhpcaaGreatDoor
