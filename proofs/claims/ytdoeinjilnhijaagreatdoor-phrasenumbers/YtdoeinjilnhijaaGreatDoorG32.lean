/- Package phrase's Parse: what is told of every list of words. Literals of nodes in the statements of chapter 9; the statements' num; two lists of nodes that are the same; how Parse ends, of any words. What the statements' walks of chapter 9 have in common: the brackets' words, how Parse ends where it is right. -/
import Derived.Test.YtdoeinjilnhijaaGreatDoorG30
import Derived.Test.YtdoeinjilnhijaaGreatDoorG31
import Derived.Test.YtdoeinjilnhijaaGreatDoorG24
import Derived.Test.YtdoeinjilnhijaaGreatDoorG7
import Derived.Test.YtdoeinjilnhijaaGreatDoorG5
namespace Go.Proofs.YtdoeinjilnhijaaGreatDoor
open Go.RowKit
set_option linter.unusedVariables false
set_option maxRecDepth 100000

theorem line_parse {ts : List Tk} (hl : ts.length ≤ 300) (hs : AllS ts) : parseL ts = match lineR ts with | .error y => .error y | .ok x => if 200 < x.length then .error (0, 4) else .ok x := by
  have hp := prs_any (n := 10 * ts.length + 10) (l := ts) (Nat.le_refl _)
  unfold lineR
  match hr : prs ts with
  | .error y =>
    rw [hr] at hp
    rw [parse_halt hl hs (halt_error hs.kinds hp)]
  | .ok (e, []) =>
    rw [hr] at hp
    have ha := halt_ok (b := bT) hs.kinds hp
    obtain ⟨e', hd⟩ := der_acc hs.kinds ha
    have := prs_der hd
    rw [hr] at this
    injection this with this
    injection this with this
    subst this
    simp only
    split
    · rename_i h; exact parse_full hl hs hd h
    · rename_i h; exact parse_ok hl hs hd (by omega)
  | .ok (e, t :: r) =>
    rw [hr] at hp
    rw [parse_halt hl hs (halt_more hs.kinds hp)]
theorem parse_bad {ts : List Tk} {i : Nat} (hl : ts.length ≤ 300) (hi : i < ts.length) (hb : ∀ t ∈ ts.take i, spB t = true) (hn : spB ts[i] = false) : parseL ts = .error (i, 1) := by
  unfold parseL
  rw [if_neg (by omega)]
  have hf : ts.findIdx? (fun t => !spB t) = some i := by
    rw [List.findIdx?_eq_some_iff_getElem]
    refine ⟨hi, by simp [hn], fun j hj => ?_⟩
    have : ts[j] ∈ ts.take i := List.mem_take_iff_getElem.2 ⟨j, by omega, rfl⟩
    simp [hb _ this]
  rw [hf]
theorem one_spell (t : Tk) : (∃ l, spellL [t] = .ok l) ↔ spB t = true := by
  unfold spellL
  rw [if_neg (by simp)]
  constructor
  · rintro ⟨l, h⟩
    split at h
    · rename_i h1; simpa using h1
    · cases h
  · intro h
    have hl : (lineW [t]).length ≤ 900 := by
      have h60 := spB_size h
      unfold Tk.l at h60
      rw [lineW_cons]
      simp only [gaps, List.flatMap_nil, List.append_nil]
      unfold wtn
      split
      · simp only [List.length_cons]; omega
      · split
        · split
          · have := body_length t.s.data.toList
            unfold quoted
            simp only [List.length_cons, List.length_append, List.length_nil]; omega
          · simp
        · omega
    exact ⟨_, by rw [if_pos (by simpa using h), if_neg (by omega)]⟩
theorem TKL.one {w : World} {b off : Nat} {L : List Tk} (h : TKL w (some ⟨b, off, none⟩) L) {i : Nat} (hi : i < L.length) : TKL w (some ⟨b, off + i * 3, none⟩) [L[i]] := by
  obtain ⟨b', o', e, h1, h2, h3, h4⟩ := h.at hi
  cases e
  refine .inr ⟨b, off + i * 3, rfl, h1, fun j x hx => ?_⟩
  match j, hx with
  | 0, hx => simp at hx; subst hx; exact ⟨by simpa using h2, by simpa using h3, by simpa using h4⟩
set_option maxHeartbeats 600000 in
theorem parse_any (ts : List Tk) (p : Option Addr) (c : Nat) (w : World) (hv : TKL w p ts) (hlc : ts.length ≤ c) (hcm : c ≤ maxLen) (hsz : ∀ t ∈ ts, t.s.size ≤ 140737488351232) (he : ErrIn w) :
    Calls Tryz.prog 12 #[.slice p ts.length c] w fun e w' => LineE (parseL ts) e w' ∧ Below w.heap.size w w' := by
  unfold maxLen at hcm
  by_cases h300 : 300 < ts.length
  · have HP : Hid (parseL ts = .error (0, 4)) := by unfold parseL; exact if_pos h300
    have i1 : (300 : Int) < (ts.length : Int) := by omega
    go_enter Tryz.func12, Tryz.ntmps12
    go_wp2
    go_ret3
    exact ⟨by rw [HP.out]; rfl, Below.refl _ _⟩
  · have i1 : ¬ (300 : Int) < (ts.length : Int) := by omega
    have HV : Hid (TKL w p ts) := hv
    have HSZ : Hid (∀ t ∈ ts, t.s.size ≤ 140737488351232) := hsz
    have HE : Hid (ErrIn w) := he
    clear hv hsz he
    go_enter Tryz.func12, Tryz.ntmps12
    go_wp2_with fail
    go_loopw [17] (fun i wr => ∃ k : Nat, k ≤ ts.length ∧ i = .int .i64 k ∧ Hid (∀ t ∈ ts.take k, spB t = true) ∧ Below w.heap.size w wr) (fun i _ => ts.length - (intOf i).toNat)
    case atStart => exact ⟨0, Nat.zero_le _, rfl, (fun t ht => absurd ht (by simp)), Below.refl _ _⟩
    case round =>
      obtain ⟨k, hk, rfl, HA, hb⟩ := hrel
      by_cases hlt : k < ts.length
      · have i2 : (k : Int) < (ts.length : Int) := by omega
        obtain ⟨b, off, rfl, hbw, _⟩ := (HV.out.up hb).at hlt
        have hone := (HV.out.up hb).one hlt
        have H1 := spell_any [ts[k]] (some ⟨b, off + k * 3, none⟩) (c - k) wr hone (by unfold maxLen; simp) (fun t ht => by simp at ht; subst ht; exact HSZ.out _ (List.getElem_mem _))
        simp only [List.length_cons, List.length_nil, Nat.zero_add] at H1
        have ho := one_spell ts[k]
        have HPB : Hid (spB ts[k] = false → parseL ts = .error (k, 1)) := fun hn => parse_bad (by omega) hlt HA.out hn
        have HNX : Hid (spB ts[k] = true → ∀ t ∈ ts.take (k + 1), spB t = true) := fun hn t ht => by
          rw [List.take_succ_eq_append_getElem hlt] at ht
          rcases List.mem_append.1 ht with ht | ht
          · exact HA.out t ht
          · simp at ht; subst ht; exact hn
        cases hsp : spellL [ts[k]] with
        | ok l =>
          rw [hsp] at H1
          have HB : Hid (spB ts[k] = true) := ho.1 ⟨l, hsp⟩
          unfold spellV at H1
          simp only [] at H1
          clear hsp ho
          go_wp2_with fail
          refine H1.mono ?_
          rintro e w1 ⟨rfl, hb1⟩
          go_wp2
          go_roundw
          case rel => exact ⟨k + 1, by omega, by go_num, HNX.out HB.out, hb.trans (hb1.mono hb.size)⟩
          case measure => simp [intOf]; omega
        | error n =>
          rw [hsp] at H1
          have HB : Hid (spB ts[k] = false) := by
            show _ = _
            cases hh : spB ts[k]
            · rfl
            · obtain ⟨l, hl⟩ := ho.2 hh
              rw [hl] at hsp; cases hsp
          unfold spellV at H1
          simp only [] at H1
          clear hsp ho
          go_wp2_with fail
          refine H1.mono ?_
          rintro e w1 ⟨rfl, hb1⟩
          go_wp2
          go_ret3
          exact ⟨by rw [HPB.out HB.out]; rfl, hb.trans (hb1.mono hb.size)⟩
      · obtain rfl : k = ts.length := by omega
        have i2 : ¬ (ts.length : Int) < (ts.length : Int) := by omega
        have hall : AllS ts := by have := HA.out; rwa [List.take_length] at this
        have hEr : ErrIn wr := by
          obtain ⟨ev, h1, h2⟩ := HE.out
          exact ⟨ev, (hb.cell (p := ⟨8, 0, none⟩) (World.block_lt_of_cell? w _ h1)).trans h1, h2⟩
        have HR := readLine_any ts p c wr (by omega) hall (HV.out.up hb) hEr
        have HLP : Hid _ := line_parse (by omega) hall
        clear hall hEr HA
        cases hlr : lineR ts with
        | error y =>
          rw [hlr] at HR
          have HP : Hid (parseL ts = .error y) := by have := HLP.out; rw [hlr] at this; exact this
          clear hlr HLP
          go_wp2_with fail
          refine HR.mono ?_
          rintro e w1 ⟨rfl, hb1⟩
          go_wp2
          go_ret3
          exact ⟨by rw [HP.out]; rfl, hb.trans (hb1.mono hb.size)⟩
        | ok x =>
          rw [hlr] at HR
          by_cases hx : 200 < x.length
          · have HP : Hid (parseL ts = .error (0, 4)) := by have := HLP.out; rw [hlr] at this; simp only [if_pos hx] at this; exact this
            have i3 : (200 : Int) < (x.length : Int) := by omega
            clear hlr HLP
            go_wp2_with fail
            refine HR.mono ?_
            rintro e w1 ⟨⟨q, cc, rfl, hnt, hc, hcm2, hne⟩, hb1⟩
            clear hnt hne
            go_wp2
            go_ret3
            exact ⟨by rw [HP.out]; rfl, hb.trans (hb1.mono hb.size)⟩
          · have HP : Hid (parseL ts = .ok x) := by have := HLP.out; rw [hlr] at this; simp only [if_neg hx] at this; exact this
            have i3 : ¬ (200 : Int) < (x.length : Int) := by omega
            clear hlr HLP
            go_wp2_with fail
            refine HR.mono ?_
            rintro e w1 ⟨⟨q, cc, rfl, hnt, hc, hcm2, hne⟩, hb1⟩
            have HN : Hid (NT w1 0 q x) := hnt
            have HNE : Hid (x ≠ []) := hne
            clear hnt hne
            go_wp2
            go_ret3
            exact ⟨by rw [HP.out]; exact ⟨q, cc, rfl, HN.out, hc, hcm2, HNE.out⟩, hb.trans (hb1.mono hb.size)⟩
end Go.Proofs.YtdoeinjilnhijaaGreatDoor
namespace Go.Proofs.YtdoeinjilnhijaaGreatDoor
open Go.RowKit
set_option linter.unusedVariables false
set_option maxRecDepth 100000

theorem num_fn (n : Int) (w : World) :
    Calls Tryz.prog 7 #[.int .i64 n] w fun e w' => e = .returned (.agg #[.int .i64 2, .int .i64 n, .string ⟨#[]⟩, .string ⟨#[]⟩]) ∧ Below w.heap.size w w' := by
  go_enter Tryz.func7, Tryz.ntmps7
  go_wp2
  refine bodyPost_ret (v := .agg #[.int .i64 2, .int .i64 n, .string ⟨#[]⟩, .string ⟨#[]⟩]) (by simp [results, Tryz.results7, go_sem]) rfl ⟨rfl, ?_⟩
  exact (Below.refl _ _).alloc (Nat.le_refl _) _
theorem qba {a b : World} (h : Below a.heap.size a b) (o : Obj) : Below a.heap.size a (b.alloc o) := qbt h ((Below.refl _ _).alloc (Nat.le_refl _) o)
theorem qbn {a b : World} (h : Below a.heap.size a b) (n : Nat) : Below a.heap.size a (b.drewN n) := ⟨h.os, h.tape, h.output, h.size, h.block⟩
theorem NL.lit (w : World) (L : List Nd) (cs : Array Value) (hw : ∀ x ∈ L, x.wf) (hc : cs.toList = ncells L) (hl : L.length ≤ 1000) : NL (w.alloc (.cells cs 29)) (some ⟨w.heap.size, 0, none⟩) L := by
  have hs : cs.size = L.length * 4 := by rw [← ncells_length, ← hc]; simp
  obtain ⟨q, c, e, h, _⟩ := NL.of_row (base := 0) (v := .slice (some ⟨w.heap.size, 0, none⟩) L.length L.length) hw (w := w.alloc (.cells cs 29)) ⟨ncells_length L, .inr ⟨w.heap.size, L.length, cs, rfl, Nat.zero_le _, heap_alloc_new _ _, Nat.le_refl _, by unfold maxLen; omega, hs, by rw [hc, ← ncells_length, List.take_length]⟩⟩
  cases e
  exact h.1
theorem num_wf {n : Int} (h : n ≤ 9223372036854775807) : (⟨2, n, ⟨#[]⟩, ⟨#[]⟩⟩ : Nd).wf := ⟨by unfold maxLen; show 0 ≤ _; decide, by unfold maxLen; show 0 ≤ _; decide, h⟩
/-- Two lists of nodes that are the same. -/
theorem same_nodes (a : List Nd) (n : Nat) (hn : a.length = n) (p q : Option Addr) (c1 c2 : Nat) (w : World) (ha : NL w p a) (hb : NL w q a) (hl : n ≤ 1000) :
    Calls Tryz.prog 13 #[.slice p n c1, .slice q n c2] w fun e w' => e = .returned (.bool true) ∧ Below w.heap.size w w' := by
  subst hn
  have h := sameNodes_any a a p q c1 c2 w ha hb (by unfold maxLen; omega) (by unfold maxLen; omega)
  rw [(sameNd_iff _ _).2 rfl] at h
  refine h.mono ?_
  rintro e w' ⟨rfl, n, rfl⟩
  exact ⟨rfl, qbn (Below.refl _ _) n⟩
/-- The words of a list with what Parse asks of it. -/
structure PArg (w : World) (p : Option Addr) (c : Nat) (a : List Tk) : Prop where
  tk : TKL w p a
  le : a.length ≤ c
  cm : c ≤ maxLen
  sz : ∀ t ∈ a, t.s.size ≤ 140737488351232
theorem PArg.up {w w' : World} {p : Option Addr} {c : Nat} {a : List Tk} (h : PArg w p c a) (hb : Below w.heap.size w w') : PArg w' p c a := ⟨h.tk.up hb, h.le, h.cm, h.sz⟩
theorem parse_arg (ts : List Tk) (n : Nat) (hn : ts.length = n) (p : Option Addr) (c : Nat) (w : World) (h : PArg w p c ts) (he : ErrIn w) (R : Except (Nat × Int) (List Nd)) (hR : parseL ts = R) :
    Calls Tryz.prog 12 #[.slice p n c] w fun e w' => LineE R e w' ∧ Below w.heap.size w w' := by
  subst hn hR
  exact parse_any ts p c w h.tk h.le h.cm h.sz he
theorem cell_ltL {w : World} {a : Addr} {v : Value} (h : w.cell? a = some v) : a.block < w.heap.size := by
  unfold World.cell? at h
  by_cases hb : a.block < w.heap.size
  · exact hb
  · rw [Array.getElem?_eq_none (by omega)] at h
    cases h
theorem errIn_up {w w' : World} (h : ErrIn w) (hb : Below w.heap.size w w') : ErrIn w' := by
  obtain ⟨ev, h1, h2⟩ := h
  exact ⟨ev, (hb.cell (p := ⟨8, 0, none⟩) (cell_ltL h1)).trans h1, h2⟩
/-- How Parse ends, whatever the words: three results. -/
theorem LineE.any {R : Except (Nat × Int) (List Nd)} {e : Ending} {w' : World} (h : LineE R e w') : ∃ q n c i v, e = .returned (.tuple #[.slice q n c, .int .i64 i, v]) ∧ (v = .nilIface ∨ ∃ k, v = .iface 33 (.int .i64 k)) := by
  cases R with
  | ok x => obtain ⟨q, cc, rfl, _⟩ := h; exact ⟨q, _, cc, 0, _, rfl, .inl rfl⟩
  | error y => exact ⟨none, 0, 0, _, _, h, .inr ⟨_, rfl⟩⟩
end Go.Proofs.YtdoeinjilnhijaaGreatDoor
namespace Go.Proofs.YtdoeinjilnhijaaGreatDoor
open Go.RowKit
set_option linter.unusedVariables false
set_option maxRecDepth 100000

def tO : Tk := ⟨5, ⟨#[40]⟩, 0⟩
def tC : Tk := ⟨5, ⟨#[41]⟩, 0⟩
theorem LineE.good {R : Except (Nat × Int) (List Nd)} {q : Option Addr} {n c : Nat} {i : Int} {w : World} (h : LineE R (.returned (.tuple #[.slice q n c, .int .i64 i, .nilIface])) w) : ∃ x, R = .ok x ∧ n = x.length ∧ NL w q x ∧ x ≠ [] := by
  cases R with
  | ok x => obtain ⟨q', cc, e, h1, _, _, h2⟩ := h; cases e; exact ⟨x, rfl, rfl, h1.1, h2⟩
  | error y => cases h
theorem parse_ne {a : List Tk} {x : List Nd} (h : parseL a = .ok x) : a ≠ [] := by
  rintro rfl
  have h0 : parseL [] = .error (0, 1) := by kernel_rfl
  rw [h0] at h
  cases h
theorem PArg.ne {w : World} {p : Option Addr} {c : Nat} {a : List Tk} (h : PArg w p c a) (hn : a ≠ []) : p ≠ none := by
  rintro rfl
  rcases h.tk with h0 | ⟨b, o, h0, _⟩
  · exact hn h0
  · cases h0
theorem NL.some {w : World} {q : Option Addr} {L : List Nd} (h : NL w q L) (hn : L ≠ []) : ∃ b o, q = some ⟨b, o, none⟩ := by
  rcases h with h0 | ⟨b, o, h0, _⟩
  · exact absurd h0 hn
  · exact ⟨b, o, h0⟩
end Go.Proofs.YtdoeinjilnhijaaGreatDoor
