/- A list of words that is handed in: what it reads as, and that its texts are within the reach. How long a list of words that is handed in can be in a law's second form. -/
import Derived.Test.YtpbnjdgedifnoaaGreatDoorG5
import Derived.Test.YtpbnjdgedifnoaaGreatDoorRows
import Derived.ProofKit
import Derived.OpenShut
import Derived.ShutString
import Derived.ChangeOld
import Derived.SizedLaws
import Derived.Deep.Slices
namespace Go.Proofs.YtpbnjdgedifnoaaGreatDoor
open Go.ChangeShapes Go.WideShapes Go.ChangeAt Go.RowKit Go.Deep
set_option linter.unusedVariables false

theorem Tryz.cellsTok : Tryz.prog.cellsOf 47 = 3 := by kernel_rfl
theorem laidOut : laidOutB Tryz.prog = true := by kernel_rfl
instance : Inhabited Tk := ⟨⟨0, ⟨#[]⟩, 0⟩⟩
theorem lt_of_cell {w : World} {a : Addr} {v : Value} (h : w.cell? a = some v) : a.block < w.heap.size := by
  unfold World.cell? at h
  by_cases hb : a.block < w.heap.size
  · exact hb
  · rw [Array.getElem?_eq_none (by omega)] at h
    cases h

theorem weightsAll_mem {H : Type} {P : Program} {e : TypeId} : ∀ {ds : List (DataW H)} {d : DataW H} {n : Nat}, d ∈ ds → n ∈ d.weights P e → n ∈ DataW.weightsAll P e ds
  | x :: r, d, n, h, hn => by
    rw [DataW.weightsAll, List.mem_append]
    rcases List.mem_cons.1 h with rfl | h
    · exact .inl hn
    · exact .inr (weightsAll_mem h hn)

set_option maxRecDepth 100000 in
theorem open_tok {H : Type} {enc : TypeId × Value → H} {W : World} {base : Nat} {spare : Nat → Bool} {held : Bool} {fuel : Nat} {cs : List Value} {x : DataW H × List MemPlace}
    (h : DataW.trod enc Tryz.prog W base spare held fuel 47 cs = some x) :
    ∃ y : Tk, cs = [.int .i64 y.kind, .string y.s, .int .i64 y.at_] ∧ y.s.size ∈ x.1.weights Tryz.prog 47 := by
  obtain ⟨xs, n, _, rfl, hl, hlen, hf⟩ := DataW.trod_struct Tryz.underlying47 h
  rw [Tryz.cellsTok] at hl
  match xs, hlen with
  | [y0, y1, y2], _ =>
    have f0 := hf 0 _ rfl
    have f1 := hf 1 _ rfl
    have f2 := hf 2 _ rfl
    match cs, hl with
    | [c0, c1, c2], _ =>
      have k3 : Tryz.prog.cellsOf 3 = 1 := by kernel_rfl
      have k9 : Tryz.prog.cellsOf 9 = 1 := by kernel_rfl
      simp [k3, k9] at f0 f1 f2
      obtain ⟨a, e0, g0, w0⟩ := DataW.trod_int Tryz.underlying3 f0
      obtain ⟨s, e1, g1, w1⟩ := DataW.trod_string Tryz.underlying9 f1
      obtain ⟨b, e2, g2, w2⟩ := DataW.trod_int Tryz.underlying3 f2
      simp at e0 e1 e2
      subst e0 e1 e2 g0 g1 g2
      refine ⟨⟨a, s, b⟩, rfl, ?_⟩
      show s.size ∈ DataW.weights Tryz.prog 47 (.agg [.lit (.int .i64 a), .lit (.string s.data.toList), .lit (.int .i64 b)])
      have hm := DataW.weights_mem_each (H := H) (P := Tryz.prog) (ts := [3, 9, 3]) (ds := [.lit (.int .i64 a), .lit (.string s.data.toList), .lit (.int .i64 b)]) (j := 1) rfl rfl s.size (by simp [DataW.weights])
      unfold DataW.weights
      rw [Tryz.underlying47]
      exact hm

set_option maxRecDepth 100000 in
theorem open_toks_cells {H : Type} {enc : TypeId × Value → H} {W : World} {base : Nat} {spare : Nat → Bool} {held : Bool} {fuel : Nat} {cs : List Value} {x : DataW H × List MemPlace}
    (h : DataW.trod enc Tryz.prog W base spare held fuel 22 cs = some x) :
    ∃ (v : List Tk) (p : Option Addr) (c : Nat), cs = [.slice p v.length c] ∧ TKL W p v ∧ v.length ≤ c ∧ c ≤ maxLen ∧ ∀ t ∈ v, t.s.size ∈ x.1.weights Tryz.prog 22 := by
  rcases open_slice Tryz.underlying22 h with ⟨rfl, _⟩ | ⟨a, len, cap, m, n, D, Pl, rfl, hb, hl, hm, hmm, rfl, hx⟩
  · exact ⟨[], none, 0, rfl, .inl rfl, Nat.le_refl _, Nat.zero_le _, by simp⟩
  · have hlm : len ≤ m := by rw [hmm]; split <;> omega
    rw [Tryz.cellsTok] at hx
    obtain ⟨Y, hY⟩ := choose_lt (α := Tk) (n := len) (p := fun i y => W.cells? base (a.add (i * 3)) 3 = some [.int .i64 y.kind, .string y.s, .int .i64 y.at_] ∧ y.s.size ∈ (D i).weights Tryz.prog 47) (fun i hi => by
      obtain ⟨cs', h1, h2⟩ := hx i (by omega)
      obtain ⟨y, rfl, hw⟩ := open_tok h2
      exact ⟨y, h1, hw⟩)
    refine ⟨(List.range len).map Y, some a, cap, by simp, ?_, by simpa using hl, hm, fun t ht => ?_⟩
    · by_cases h0 : len = 0
      · exact .inl (by simp [h0])
      · obtain ⟨b, off, spot⟩ := a
        have hcell : ∀ i, i < len → ∀ j, j < 3 → W.cell? ((⟨b, off, spot⟩ : Addr).add (i * 3 + j)) = ([.int .i64 (Y i).kind, .string (Y i).s, .int .i64 (Y i).at_] : List Value)[j]? := by
          intro i hi j hj
          have := (World.cells?_some (hY i hi).1).2.2 j hj
          rw [add_add] at this
          exact this
        have hspot : spot = none := by
          have := hcell 0 (by omega) 0 (by omega)
          simpa [Addr.add] using World.cell?_spot this
        subst hspot
        have hlt : b < W.heap.size := by
          have := hcell 0 (by omega) 0 (by omega)
          simp [Addr.add] at this
          exact lt_of_cell this
        refine .inr ⟨b, off, rfl, hlt, fun i y hy => ?_⟩
        have hi : i < len := by
          have := (List.getElem?_eq_some_iff.1 hy).1
          simpa using this
        obtain rfl : Y i = y := by simpa [hi] using hy
        refine ⟨?_, ?_, ?_⟩
        · have := hcell i hi 0 (by omega); simp [Addr.add] at this; split at this; (rename_i h; rw [h]; exact this); exact this
        · have := hcell i hi 1 (by omega); simpa [Addr.add, Nat.add_assoc] using this
        · have := hcell i hi 2 (by omega); simpa [Addr.add, Nat.add_assoc] using this
    · obtain ⟨i, hi, rfl⟩ := List.mem_map.1 ht
      have hw := (hY i (List.mem_range.1 hi)).2
      have hm2 := weightsAll_mem (P := Tryz.prog) (e := 47) (List.mem_map.2 ⟨i, hi, rfl⟩ : D i ∈ (List.range len).map D) hw
      show _ ∈ DataW.weights Tryz.prog 22 (.slice _ _)
      unfold DataW.weights
      rw [Tryz.underlying22]
      exact List.mem_cons_of_mem _ (List.mem_append.2 (.inl hm2))

set_option maxRecDepth 100000 in
theorem open_toks {H : Type} {enc : TypeId × Value → H} {W : World} {base b0 : Nat} {spare : Nat → Bool} {held : Bool} {v : Value} {d : DataW H} {p : List MemPlace}
    (hv : Value.okWide Tryz.prog W .any b0 22 v) (h : DataW.Trod enc Tryz.prog W base spare held 22 v d p) :
    ∃ (L : List Tk) (q : Option Addr) (c : Nat), v = .slice q L.length c ∧ TKL W q L ∧ L.length ≤ c ∧ c ≤ maxLen ∧ ∀ t ∈ L, t.s.size ∈ d.weights Tryz.prog 22 := by
  obtain ⟨a0, len0, cap0, rfl⟩ := okWide_slice Tryz.underlying22 hv
  obtain ⟨fuel, hf⟩ := h
  obtain ⟨L, q, c, h1, h2⟩ := open_toks_cells hf
  simp [Value.cells] at h1
  obtain ⟨rfl, rfl, rfl⟩ := h1
  exact ⟨L, _, _, rfl, h2⟩
/-- A list with no memory has no room. -/
theorem toks_none {H : Type} {enc : TypeId × Value → H} {W : World} {base : Nat} {spare : Nat → Bool} {held : Bool} {q : Option Addr} {n c : Nat} {d : DataW H} {p : List MemPlace}
    (h : DataW.Trod enc Tryz.prog W base spare held 22 (.slice q n c) d p) : q = none → c = 0 := by
  rintro rfl
  obtain ⟨fuel, hf⟩ := h
  rcases open_slice Tryz.underlying22 hf with ⟨e, _⟩ | ⟨a, len, cap, m, n, D, Pl, e, _⟩
  · simp [Value.cells] at e; exact e.2
  · simp [Value.cells] at e
/-- The texts of the words that came first are within the reach. -/
theorem toks_reach {H : Type} {ts : List TypeId} {ds : List (DataW H)} {d : DataW H} {L : List Tk} (hsz : (DataW.weightsEach Tryz.prog (22 :: ts) (d :: ds)).all (· ≤ reachBytes) = true)
    (h : ∀ t ∈ L, t.s.size ∈ d.weights Tryz.prog 22) : ∀ t ∈ L, t.s.size ≤ 140737488351232 := fun t ht => by
  have := List.all_eq_true.1 hsz _ (DataW.weights_mem_each (j := 0) rfl rfl _ (h t ht))
  have h2 : t.s.size ≤ reachBytes := of_decide_eq_true this
  unfold reachBytes at h2
  exact h2
/-- .. and of those that came at any place. -/
theorem toks_reach_at {H : Type} {ts : List TypeId} {ds : List (DataW H)} {d : DataW H} {L : List Tk} (j : Nat) (ht : ts[j]? = some 22) (hd : ds[j]? = some d) (hsz : (DataW.weightsEach Tryz.prog ts ds).all (· ≤ reachBytes) = true)
    (h : ∀ t ∈ L, t.s.size ∈ d.weights Tryz.prog 22) : ∀ t ∈ L, t.s.size ≤ 140737488351232 := fun t hm => by
  have := List.all_eq_true.1 hsz _ (DataW.weights_mem_each (j := j) ht hd _ (h t hm))
  have h2 : t.s.size ≤ reachBytes := of_decide_eq_true this
  unfold reachBytes at h2
  exact h2
end Go.Proofs.YtpbnjdgedifnoaaGreatDoor
namespace Go.Proofs.YtpbnjdgedifnoaaGreatDoor
open Go.ChangeShapes Go.WideShapes Go.ChangeAt Go.RowKit Go.Deep
set_option linter.unusedVariables false

theorem bulk_pos {H : Type} (d : DataW H) : 1 ≤ Rows.uptoBulk d := by
  cases d with
  | lit l => cases l <;> simp [Rows.uptoBulk]
  | _ => simp [Rows.uptoBulk]
theorem bulk_all {H : Type} : ∀ (ds : List (DataW H)), ds.length ≤ Rows.uptoBulkAll ds
  | [] => Nat.zero_le _
  | d :: r => by
    have h1 := bulk_pos d
    have h2 := bulk_all r
    simp only [Rows.uptoBulkAll, List.length_cons]; omega
theorem toks_bulk {H : Type} {enc : TypeId × Value → H} {W : World} {base : Nat} {spare : Nat → Bool} {held : Bool} {q : Option Addr} {n c : Nat} {d : DataW H} {p : List MemPlace}
    (h : DataW.Trod enc Tryz.prog W base spare held 22 (.slice q n c) d p) : n ≤ Rows.uptoBulk d := by
  obtain ⟨fuel, hf⟩ := h
  rcases open_slice Tryz.underlying22 hf with ⟨e, _⟩ | ⟨a, len, cap, m, k, D, Pl, e, hb, hl, hm, hmm, hd, hx⟩
  · simp [Value.cells] at e
    rw [e.2.1]; exact Nat.zero_le _
  · simp [Value.cells] at e
    obtain ⟨_, rfl, _⟩ := e
    have hd1 := congrArg Prod.fst hd
    simp only at hd1
    rw [hd1]
    have hlm : n ≤ m := by rw [hmm]; split <;> omega
    have := bulk_all ((List.range n).map D)
    simp only [List.length_map, List.length_range, Rows.uptoBulk] at this ⊢
    omega
end Go.Proofs.YtpbnjdgedifnoaaGreatDoor
