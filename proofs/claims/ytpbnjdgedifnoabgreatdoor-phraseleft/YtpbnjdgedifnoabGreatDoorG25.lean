/- Package phrase's Parse: what is told of every list of words. Literals of nodes in the statements of chapter 9; the statements' num; two lists of nodes that are the same; how Parse ends, of any words. What the statements' walks of chapter 9 have in common: the brackets' words, how Parse ends where it is right. PhraseLeft: the walk of the statement's own function. -/
import Derived.Test.YtpbnjdgedifnoabGreatDoorG23
import Derived.Test.YtpbnjdgedifnoabGreatDoorG24
import Derived.Test.YtpbnjdgedifnoabGreatDoorG12
import Derived.Test.YtpbnjdgedifnoabGreatDoorG13
import Derived.Test.YtpbnjdgedifnoabGreatDoorG10
namespace Go.Proofs.YtpbnjdgedifnoabGreatDoor
open Go.RowKit
set_option linter.unusedVariables false
set_option maxRecDepth 100000

theorem line_parse {ts : List Tk} (hl : ts.length ≤ 300) (hs : AllS ts) : parseL ts = match lineR ts with | .error y => .error y | .ok x => if 200 < x.length then .error (0, 4) else .ok x := by
  have hp := prs_any (n := 10 * ts.length + 10) (l := ts) (Nat.le_refl _)
  unfold lineR
  match hr : prs ts with
  | .error y =>
    rw [hr] at hp
    rw [parse_halt hl hs (halt_error hs.kinds hp)]
  | .ok (e, []) =>
    rw [hr] at hp
    have ha := halt_ok (b := bT) hs.kinds hp
    obtain ⟨e', hd⟩ := der_acc hs.kinds ha
    have := prs_der hd
    rw [hr] at this
    injection this with this
    injection this with this
    subst this
    simp only
    split
    · rename_i h; exact parse_full hl hs hd h
    · rename_i h; exact parse_ok hl hs hd (by omega)
  | .ok (e, t :: r) =>
    rw [hr] at hp
    rw [parse_halt hl hs (halt_more hs.kinds hp)]
theorem parse_bad {ts : List Tk} {i : Nat} (hl : ts.length ≤ 300) (hi : i < ts.length) (hb : ∀ t ∈ ts.take i, spB t = true) (hn : spB ts[i] = false) : parseL ts = .error (i, 1) := by
  unfold parseL
  rw [if_neg (by omega)]
  have hf : ts.findIdx? (fun t => !spB t) = some i := by
    rw [List.findIdx?_eq_some_iff_getElem]
    refine ⟨hi, by simp [hn], fun j hj => ?_⟩
    have : ts[j] ∈ ts.take i := List.mem_take_iff_getElem.2 ⟨j, by omega, rfl⟩
    simp [hb _ this]
  rw [hf]
theorem one_spell (t : Tk) : (∃ l, spellL [t] = .ok l) ↔ spB t = true := by
  unfold spellL
  rw [if_neg (by simp)]
  constructor
  · rintro ⟨l, h⟩
    split at h
    · rename_i h1; simpa using h1
    · cases h
  · intro h
    have hl : (lineW [t]).length ≤ 900 := by
      have h60 := spB_size h
      unfold Tk.l at h60
      rw [lineW_cons]
      simp only [gaps, List.flatMap_nil, List.append_nil]
      unfold wtn
      split
      · simp only [List.length_cons]; omega
      · split
        · split
          · have := body_length t.s.data.toList
            unfold quoted
            simp only [List.length_cons, List.length_append, List.length_nil]; omega
          · simp
        · omega
    exact ⟨_, by rw [if_pos (by simpa using h), if_neg (by omega)]⟩
theorem TKL.one {w : World} {b off : Nat} {L : List Tk} (h : TKL w (some ⟨b, off, none⟩) L) {i : Nat} (hi : i < L.length) : TKL w (some ⟨b, off + i * 3, none⟩) [L[i]] := by
  obtain ⟨b', o', e, h1, h2, h3, h4⟩ := h.at hi
  cases e
  refine .inr ⟨b, off + i * 3, rfl, h1, fun j x hx => ?_⟩
  match j, hx with
  | 0, hx => simp at hx; subst hx; exact ⟨by simpa using h2, by simpa using h3, by simpa using h4⟩
set_option maxHeartbeats 600000 in
theorem parse_any (ts : List Tk) (p : Option Addr) (c : Nat) (w : World) (hv : TKL w p ts) (hlc : ts.length ≤ c) (hcm : c ≤ maxLen) (hsz : ∀ t ∈ ts, t.s.size ≤ 140737488351232) (he : ErrIn w) :
    Calls Tryz.prog 5 #[.slice p ts.length c] w fun e w' => LineE (parseL ts) e w' ∧ Below w.heap.size w w' := by
  unfold maxLen at hcm
  by_cases h300 : 300 < ts.length
  · have HP : Hid (parseL ts = .error (0, 4)) := by unfold parseL; exact if_pos h300
    have i1 : (300 : Int) < (ts.length : Int) := by omega
    go_enter Tryz.func5, Tryz.ntmps5
    go_wp2
    go_ret3
    exact ⟨by rw [HP.out]; rfl, Below.refl _ _⟩
  · have i1 : ¬ (300 : Int) < (ts.length : Int) := by omega
    have HV : Hid (TKL w p ts) := hv
    have HSZ : Hid (∀ t ∈ ts, t.s.size ≤ 140737488351232) := hsz
    have HE : Hid (ErrIn w) := he
    clear hv hsz he
    go_enter Tryz.func5, Tryz.ntmps5
    go_wp2_with fail
    go_loopw [17] (fun i wr => ∃ k : Nat, k ≤ ts.length ∧ i = .int .i64 k ∧ Hid (∀ t ∈ ts.take k, spB t = true) ∧ Below w.heap.size w wr) (fun i _ => ts.length - (intOf i).toNat)
    case atStart => exact ⟨0, Nat.zero_le _, rfl, (fun t ht => absurd ht (by simp)), Below.refl _ _⟩
    case round =>
      obtain ⟨k, hk, rfl, HA, hb⟩ := hrel
      by_cases hlt : k < ts.length
      · have i2 : (k : Int) < (ts.length : Int) := by omega
        obtain ⟨b, off, rfl, hbw, _⟩ := (HV.out.up hb).at hlt
        have hone := (HV.out.up hb).one hlt
        have H1 := spell_any [ts[k]] (some ⟨b, off + k * 3, none⟩) (c - k) wr hone (by unfold maxLen; simp) (fun t ht => by simp at ht; subst ht; exact HSZ.out _ (List.getElem_mem _))
        simp only [List.length_cons, List.length_nil, Nat.zero_add] at H1
        have ho := one_spell ts[k]
        have HPB : Hid (spB ts[k] = false → parseL ts = .error (k, 1)) := fun hn => parse_bad (by omega) hlt HA.out hn
        have HNX : Hid (spB ts[k] = true → ∀ t ∈ ts.take (k + 1), spB t = true) := fun hn t ht => by
          rw [List.take_succ_eq_append_getElem hlt] at ht
          rcases List.mem_append.1 ht with ht | ht
          · exact HA.out t ht
          · simp at ht; subst ht; exact hn
        cases hsp : spellL [ts[k]] with
        | ok l =>
          rw [hsp] at H1
          have HB : Hid (spB ts[k] = true) := ho.1 ⟨l, hsp⟩
          unfold spellV at H1
          simp only [] at H1
          clear hsp ho
          go_wp2_with fail
          refine H1.mono ?_
          rintro e w1 ⟨rfl, hb1⟩
          go_wp2
          go_roundw
          case rel => exact ⟨k + 1, by omega, by go_num, HNX.out HB.out, hb.trans (hb1.mono hb.size)⟩
          case measure => simp [intOf]; omega
        | error n =>
          rw [hsp] at H1
          have HB : Hid (spB ts[k] = false) := by
            show _ = _
            cases hh : spB ts[k]
            · rfl
            · obtain ⟨l, hl⟩ := ho.2 hh
              rw [hl] at hsp; cases hsp
          unfold spellV at H1
          simp only [] at H1
          clear hsp ho
          go_wp2_with fail
          refine H1.mono ?_
          rintro e w1 ⟨rfl, hb1⟩
          go_wp2
          go_ret3
          exact ⟨by rw [HPB.out HB.out]; rfl, hb.trans (hb1.mono hb.size)⟩
      · obtain rfl : k = ts.length := by omega
        have i2 : ¬ (ts.length : Int) < (ts.length : Int) := by omega
        have hall : AllS ts := by have := HA.out; rwa [List.take_length] at this
        have hEr : ErrIn wr := by
          obtain ⟨ev, h1, h2⟩ := HE.out
          exact ⟨ev, (hb.cell (p := ⟨7, 0, none⟩) (World.block_lt_of_cell? w _ h1)).trans h1, h2⟩
        have HR := readLine_any ts p c wr (by omega) hall (HV.out.up hb) hEr
        have HLP : Hid _ := line_parse (by omega) hall
        clear hall hEr HA
        cases hlr : lineR ts with
        | error y =>
          rw [hlr] at HR
          have HP : Hid (parseL ts = .error y) := by have := HLP.out; rw [hlr] at this; exact this
          clear hlr HLP
          go_wp2_with fail
          refine HR.mono ?_
          rintro e w1 ⟨rfl, hb1⟩
          go_wp2
          go_ret3
          exact ⟨by rw [HP.out]; rfl, hb.trans (hb1.mono hb.size)⟩
        | ok x =>
          rw [hlr] at HR
          by_cases hx : 200 < x.length
          · have HP : Hid (parseL ts = .error (0, 4)) := by have := HLP.out; rw [hlr] at this; simp only [if_pos hx] at this; exact this
            have i3 : (200 : Int) < (x.length : Int) := by omega
            clear hlr HLP
            go_wp2_with fail
            refine HR.mono ?_
            rintro e w1 ⟨⟨q, cc, rfl, hnt, hc, hcm2, hne⟩, hb1⟩
            clear hnt hne
            go_wp2
            go_ret3
            exact ⟨by rw [HP.out]; rfl, hb.trans (hb1.mono hb.size)⟩
          · have HP : Hid (parseL ts = .ok x) := by have := HLP.out; rw [hlr] at this; simp only [if_neg hx] at this; exact this
            have i3 : ¬ (200 : Int) < (x.length : Int) := by omega
            clear hlr HLP
            go_wp2_with fail
            refine HR.mono ?_
            rintro e w1 ⟨⟨q, cc, rfl, hnt, hc, hcm2, hne⟩, hb1⟩
            have HN : Hid (NT w1 0 q x) := hnt
            have HNE : Hid (x ≠ []) := hne
            clear hnt hne
            go_wp2
            go_ret3
            exact ⟨by rw [HP.out]; exact ⟨q, cc, rfl, HN.out, hc, hcm2, HNE.out⟩, hb.trans (hb1.mono hb.size)⟩
end Go.Proofs.YtpbnjdgedifnoabGreatDoor
namespace Go.Proofs.YtpbnjdgedifnoabGreatDoor
open Go.RowKit
set_option linter.unusedVariables false
set_option maxRecDepth 100000

theorem num_fn (n : Int) (w : World) :
    Calls Tryz.prog 8 #[.int .i64 n] w fun e w' => e = .returned (.agg #[.int .i64 2, .int .i64 n, .string ⟨#[]⟩, .string ⟨#[]⟩]) ∧ Below w.heap.size w w' := by
  go_enter Tryz.func8, Tryz.ntmps8
  go_wp2
  refine bodyPost_ret (v := .agg #[.int .i64 2, .int .i64 n, .string ⟨#[]⟩, .string ⟨#[]⟩]) (by simp [results, Tryz.results8, go_sem]) rfl ⟨rfl, ?_⟩
  exact (Below.refl _ _).alloc (Nat.le_refl _) _
theorem qba {a b : World} (h : Below a.heap.size a b) (o : Obj) : Below a.heap.size a (b.alloc o) := qbt h ((Below.refl _ _).alloc (Nat.le_refl _) o)
theorem qbn {a b : World} (h : Below a.heap.size a b) (n : Nat) : Below a.heap.size a (b.drewN n) := ⟨h.os, h.tape, h.output, h.size, h.block⟩
theorem NL.lit (w : World) (L : List Nd) (cs : Array Value) (hw : ∀ x ∈ L, x.wf) (hc : cs.toList = ncells L) (hl : L.length ≤ 1000) : NL (w.alloc (.cells cs 31)) (some ⟨w.heap.size, 0, none⟩) L := by
  have hs : cs.size = L.length * 4 := by rw [← ncells_length, ← hc]; simp
  obtain ⟨q, c, e, h, _⟩ := NL.of_row (base := 0) (v := .slice (some ⟨w.heap.size, 0, none⟩) L.length L.length) hw (w := w.alloc (.cells cs 31)) ⟨ncells_length L, .inr ⟨w.heap.size, L.length, cs, rfl, Nat.zero_le _, heap_alloc_new _ _, Nat.le_refl _, by unfold maxLen; omega, hs, by rw [hc, ← ncells_length, List.take_length]⟩⟩
  cases e
  exact h.1
theorem num_wf {n : Int} (h : n ≤ 9223372036854775807) : (⟨2, n, ⟨#[]⟩, ⟨#[]⟩⟩ : Nd).wf := ⟨by unfold maxLen; show 0 ≤ _; decide, by unfold maxLen; show 0 ≤ _; decide, h⟩
/-- Two lists of nodes that are the same. -/
theorem same_nodes (a : List Nd) (n : Nat) (hn : a.length = n) (p q : Option Addr) (c1 c2 : Nat) (w : World) (ha : NL w p a) (hb : NL w q a) (hl : n ≤ 1000) :
    Calls Tryz.prog 7 #[.slice p n c1, .slice q n c2] w fun e w' => e = .returned (.bool true) ∧ Below w.heap.size w w' := by
  subst hn
  have h := sameNodes_any a a p q c1 c2 w ha hb (by unfold maxLen; omega) (by unfold maxLen; omega)
  rw [(sameNd_iff _ _).2 rfl] at h
  refine h.mono ?_
  rintro e w' ⟨rfl, n, rfl⟩
  exact ⟨rfl, qbn (Below.refl _ _) n⟩
/-- The words of a list with what Parse asks of it. -/
structure PArg (w : World) (p : Option Addr) (c : Nat) (a : List Tk) : Prop where
  tk : TKL w p a
  le : a.length ≤ c
  cm : c ≤ maxLen
  sz : ∀ t ∈ a, t.s.size ≤ 140737488351232
theorem PArg.up {w w' : World} {p : Option Addr} {c : Nat} {a : List Tk} (h : PArg w p c a) (hb : Below w.heap.size w w') : PArg w' p c a := ⟨h.tk.up hb, h.le, h.cm, h.sz⟩
theorem parse_arg (ts : List Tk) (n : Nat) (hn : ts.length = n) (p : Option Addr) (c : Nat) (w : World) (h : PArg w p c ts) (he : ErrIn w) (R : Except (Nat × Int) (List Nd)) (hR : parseL ts = R) :
    Calls Tryz.prog 5 #[.slice p n c] w fun e w' => LineE R e w' ∧ Below w.heap.size w w' := by
  subst hn hR
  exact parse_any ts p c w h.tk h.le h.cm h.sz he
theorem cell_ltL {w : World} {a : Addr} {v : Value} (h : w.cell? a = some v) : a.block < w.heap.size := by
  unfold World.cell? at h
  by_cases hb : a.block < w.heap.size
  · exact hb
  · rw [Array.getElem?_eq_none (by omega)] at h
    cases h
theorem errIn_up {w w' : World} (h : ErrIn w) (hb : Below w.heap.size w w') : ErrIn w' := by
  obtain ⟨ev, h1, h2⟩ := h
  exact ⟨ev, (hb.cell (p := ⟨7, 0, none⟩) (cell_ltL h1)).trans h1, h2⟩
/-- How Parse ends, whatever the words: three results. -/
theorem LineE.any {R : Except (Nat × Int) (List Nd)} {e : Ending} {w' : World} (h : LineE R e w') : ∃ q n c i v, e = .returned (.tuple #[.slice q n c, .int .i64 i, v]) ∧ (v = .nilIface ∨ ∃ k, v = .iface 42 (.int .i64 k)) := by
  cases R with
  | ok x => obtain ⟨q, cc, rfl, _⟩ := h; exact ⟨q, _, cc, 0, _, rfl, .inl rfl⟩
  | error y => exact ⟨none, 0, 0, _, _, h, .inr ⟨_, rfl⟩⟩
end Go.Proofs.YtpbnjdgedifnoabGreatDoor
namespace Go.Proofs.YtpbnjdgedifnoabGreatDoor
open Go.RowKit
set_option linter.unusedVariables false
set_option maxRecDepth 100000

def tO : Tk := ⟨5, ⟨#[40]⟩, 0⟩
def tC : Tk := ⟨5, ⟨#[41]⟩, 0⟩
theorem LineE.good {R : Except (Nat × Int) (List Nd)} {q : Option Addr} {n c : Nat} {i : Int} {w : World} (h : LineE R (.returned (.tuple #[.slice q n c, .int .i64 i, .nilIface])) w) : ∃ x, R = .ok x ∧ n = x.length ∧ NL w q x ∧ x ≠ [] := by
  cases R with
  | ok x => obtain ⟨q', cc, e, h1, _, _, h2⟩ := h; cases e; exact ⟨x, rfl, rfl, h1.1, h2⟩
  | error y => cases h
theorem parse_ne {a : List Tk} {x : List Nd} (h : parseL a = .ok x) : a ≠ [] := by
  rintro rfl
  have h0 : parseL [] = .error (0, 1) := by kernel_rfl
  rw [h0] at h
  cases h
theorem PArg.ne {w : World} {p : Option Addr} {c : Nat} {a : List Tk} (h : PArg w p c a) (hn : a ≠ []) : p ≠ none := by
  rintro rfl
  rcases h.tk with h0 | ⟨b, o, h0, _⟩
  · exact hn h0
  · cases h0
theorem NL.some {w : World} {q : Option Addr} {L : List Nd} (h : NL w q L) (hn : L ≠ []) : ∃ b o, q = some ⟨b, o, none⟩ := by
  rcases h with h0 | ⟨b, o, h0, _⟩
  · exact absurd h0 hn
  · exact ⟨b, o, h0⟩
end Go.Proofs.YtpbnjdgedifnoabGreatDoor
namespace Go.Proofs.YtpbnjdgedifnoabGreatDoor
open Go.RowKit
set_option linter.unusedVariables false
set_option maxRecDepth 100000

def fL : List Nd := [opN 18, opN 18, ⟨2, 1, ⟨#[]⟩, ⟨#[]⟩⟩, ⟨2, 2, ⟨#[]⟩, ⟨#[]⟩⟩, ⟨2, 3, ⟨#[]⟩, ⟨#[]⟩⟩]
/-- The five signs and their operators. -/
def sgk : Nat → ByteArray
  | 0 => ⟨#[124, 124]⟩ | 1 => ⟨#[38, 38]⟩ | 2 => ⟨#[43]⟩ | 3 => ⟨#[45]⟩ | _ => ⟨#[42]⟩
def opk : Nat → Int
  | 0 => 12 | 1 => 11 | 2 => 17 | 3 => 18 | _ => 19
def tG (k : Nat) : Tk := ⟨5, sgk k, 0⟩
theorem five {k : Nat} (h : k ≤ 4) : k = 0 ∨ k = 1 ∨ k = 2 ∨ k = 3 ∨ k = 4 := by omega
theorem sgk_at {k : Nat} (h : k ≤ 4) : (#[.string ⟨#[124, 124]⟩, .string ⟨#[38, 38]⟩, .string ⟨#[43]⟩, .string ⟨#[45]⟩, .string ⟨#[42]⟩] : Array Value)[k]? = some (.string (sgk k)) := by
  rcases five h with rfl | rfl | rfl | rfl | rfl <;> rfl
theorem opk_at {k : Nat} (h : k ≤ 4) : (#[.int .i64 12, .int .i64 11, .int .i64 17, .int .i64 18, .int .i64 19] : Array Value)[k]? = some (.int .i64 (opk k)) := by
  rcases five h with rfl | rfl | rfl | rfl | rfl <;> rfl
theorem left_k {k : Nat} (h : k ≤ 4) : ∃ l, lftL l ∧ lvlS l (tG k) = true ∧ opOf (tG k) = opk k ∧ spB (tG k) = true := by
  rcases five h with rfl | rfl | rfl | rfl | rfl
  · exact ⟨1, by unfold lftL; decide, by kernel_rfl, by kernel_rfl, by kernel_rfl⟩
  · exact ⟨2, by unfold lftL; decide, by kernel_rfl, by kernel_rfl, by kernel_rfl⟩
  · exact ⟨4, by unfold lftL; decide, by kernel_rfl, by kernel_rfl, by kernel_rfl⟩
  · exact ⟨4, by unfold lftL; decide, by kernel_rfl, by kernel_rfl, by kernel_rfl⟩
  · exact ⟨5, by unfold lftL; decide, by kernel_rfl, by kernel_rfl, by kernel_rfl⟩
/-- What the loop has written. -/
def rowJ (a b c : List Tk) (k : Nat) : Nat → List Tk
  | 0 => []
  | 1 => tO :: (a ++ [tC])
  | 2 => (tO :: (a ++ [tC])) ++ tG k :: (tO :: (b ++ [tC]))
  | _ => (tO :: (a ++ [tC])) ++ tG k :: ((tO :: (b ++ [tC])) ++ tG k :: (tO :: (c ++ [tC])))
theorem parse_row {a b c : List Tk} {x y z : List Nd} {k : Nat} (ha : parseL a = .ok x) (hb : parseL b = .ok y) (hc : parseL c = .ok z) (hk : k ≤ 4) (hw : a.length + b.length + c.length + 8 ≤ 300) (hn : x.length + y.length + z.length + 2 ≤ 200) :
    parseL (rowJ a b c k 3) = .ok (opN (opk k) :: opN (opk k) :: (x ++ (y ++ z))) := by
  obtain ⟨l, h1, h2, h3, h4⟩ := left_k hk
  rw [← h3]
  exact parse_left ha hb hc (t := tO) (u := tC) (s := tG k) (by kernel_rfl) (by kernel_rfl) (by kernel_rfl) (by kernel_rfl) h4 h1 h2 hw hn
theorem three_new (w : World) (A B C : Array Value) (t u v : TypeId) : (((w.alloc (.cells A t)).alloc (.cells B u)).alloc (.cells C v)).heap[w.heap.size]? = some (.cells A t) ∧ (((w.alloc (.cells A t)).alloc (.cells B u)).alloc (.cells C v)).heap[w.heap.size + 1]? = some (.cells B u) ∧ (((w.alloc (.cells A t)).alloc (.cells B u)).alloc (.cells C v)).heap[w.heap.size + 1 + 1]? = some (.cells C v) := by
  refine ⟨?_, ?_, ?_⟩
  · rw [at_old (by simp; omega), at_old (by simp), at_new rfl]
  · rw [at_old (by simp), at_new (by simp)]
  · rw [at_new (by simp)]
/-- What the loop reads in a round. -/
def Part (w wB : World) (g n j : Nat) (a b c M : List Tk) (pM : Option Addr) (cM : Nat) : Prop :=
  wB.cell? ⟨g, j, none⟩ = some (.slice pM M.length cM) ∧ PArg w pM cM M ∧ pM ≠ none ∧ M.length ≤ 300 ∧ rowJ a b c n (j + 1) = ((rowJ a b c n j ++ (if j = 0 then [] else [tG n])) ++ [tO]) ++ M ++ [tC]
set_option maxHeartbeats 1000000 in
theorem phraseLeft_true (a b c : List Tk) (p q r : Option Addr) (c1 c2 c3 : Nat) (k : Int) (w : World) (ha : PArg w p c1 a) (hb : PArg w q c2 b) (hc : PArg w r c3 c) (he : ErrIn w) :
    Calls Tryz.prog 3 #[.slice p a.length c1, .slice q b.length c2, .slice r c.length c3, .int .i64 k] w fun e w' => e = .returned (.bool true) ∧ Below w.heap.size w w' := by
  have HQ := quick_any ⟨#[49, 32, 45, 32, 50, 32, 45, 32, 51]⟩ wL w (by decide) read_wL
  have hlw : wL.length = 5 := rfl
  rw [hlw] at HQ
  go_enter Tryz.func3, Tryz.ntmps3
  go_wp2_with fail
  refine HQ.mono ?_
  rintro e w1 ⟨⟨q1, d1, rfl, hk1, hd1, hd2⟩, hb1⟩
  have hm : ∀ t ∈ wL.map at0, t.s.size ≤ 140737488351232 := by intro t ht; simp only [wL, List.map_cons, List.map_nil, List.mem_cons, List.not_mem_nil, or_false] at ht; rcases ht with rfl | rfl | rfl | rfl | rfl <;> decide
  have HP := parse_arg (wL.map at0) 5 rfl q1 d1 w1 ⟨hk1, hd1, hd2, hm⟩ (errIn_up he hb1) _ parse_wL
  clear hk1 hm hd1 hd2
  go_wp2_with fail
  refine HP.mono ?_
  rintro e w2 ⟨⟨q2, d2, rfl, hn2, hd1, hd2, _⟩, hb2'⟩
  have hb2 := qbt hb1 hb2'
  have hx2 := hn2.1
  clear hb1 hb2' hn2 HP
  go_wp2_with fail
  refine (num_fn _ _).mono ?_
  rintro e w3 ⟨rfl, hb3'⟩
  have hb3 := qbt hb2 hb3'
  have hx3 := hx2.up hb3'
  clear hb2 hb3' hx2
  go_wp2_with fail
  refine (num_fn _ _).mono ?_
  rintro e w4 ⟨rfl, hb4'⟩
  have hb4 := qbt hb3 hb4'
  have hx4 := hx3.up hb4'
  clear hb3 hb4' hx3
  go_wp2_with fail
  refine (num_fn _ _).mono ?_
  rintro e w5 ⟨rfl, hb5'⟩
  have hb5 := qbt hb4 hb5'
  have hx5 := hx4.up hb5'
  clear hb4 hb5' hx4
  go_wp2_with fail
  have hf : ∀ x ∈ fL, x.wf := by intro x hx; simp only [fL, List.mem_cons, List.not_mem_nil, or_false] at hx; rcases hx with rfl | rfl | rfl | rfl | rfl <;> first | exact opN_wf | exact num_wf (by decide)
  refine (same_nodes fL 5 rfl q2 (some ⟨w5.heap.size, 0, none⟩) d2 5 _ (hx5.up ((Below.refl _ _).alloc (Nat.le_refl _) _)) (NL.lit w5 fL _ hf rfl (by decide)) (by decide)).mono ?_
  rintro e w6 ⟨rfl, hb6'⟩
  have hb6 := qbt (qba hb5 _) hb6'
  clear hb5 hb6' hx5 hf
  go_wp2_with fail
  refine (parse_arg a _ rfl p c1 _ (ha.up hb6) (errIn_up he hb6) _ rfl).mono ?_
  rintro e w7 ⟨hA, hb7'⟩
  have hb7 := qbt hb6 hb7'
  obtain ⟨qa, na, ca, ia, va, rfl, hva⟩ := hA.any
  go_wp2_with fail
  refine (parse_arg b _ rfl q c2 _ (hb.up hb7) (errIn_up he hb7) _ rfl).mono ?_
  rintro e w8 ⟨hB, hb8'⟩
  have hb8 := qbt hb7 hb8'
  obtain ⟨qb, nb, cb, ib, vb, rfl, hvb⟩ := hB.any
  go_wp2_with fail
  refine (parse_arg c _ rfl r c3 _ (hc.up hb8) (errIn_up he hb8) _ rfl).mono ?_
  rintro e w9 ⟨hC, hb9'⟩
  have hb9 := qbt hb8 hb9'
  obtain ⟨qc, nc, cc, ic, vc, rfl, hvc⟩ := hC.any
  rcases hva with rfl | ⟨ka, rfl⟩
  rotate_left
  · clear hA hB hC
    go_wp2
    go_ret
    exact ⟨rfl, hb9⟩
  rcases hvb with rfl | ⟨kb, rfl⟩
  rotate_left
  · clear hA hB hC
    go_wp2
    go_ret
    exact ⟨rfl, hb9⟩
  rcases hvc with rfl | ⟨kc, rfl⟩
  rotate_left
  · clear hA hB hC
    go_wp2
    go_ret
    exact ⟨rfl, hb9⟩
  obtain ⟨x, eA, rfl, hx7, nx⟩ := hA.good
  obtain ⟨y, eB, rfl, hy8, ny⟩ := hB.good
  obtain ⟨z, eC, rfl, hz9, nz⟩ := hC.good
  obtain ⟨la, sa, _, lx⟩ := ok_parse eA
  obtain ⟨lb, sb, _, ly⟩ := ok_parse eB
  obtain ⟨lc, sc, _, lz⟩ := ok_parse eC
  clear hA hB hC
  by_cases h1 : 300 < a.length + b.length + c.length + 8
  · have i1 : (300 : Int) < (a.length : Int) + (b.length : Int) + (c.length : Int) + 8 := by omega
    go_wp2
    go_ret
    exact ⟨rfl, hb9⟩
  have i1 : ¬ (300 : Int) < (a.length : Int) + (b.length : Int) + (c.length : Int) + 8 := by omega
  by_cases h2 : 200 < x.length + y.length + z.length + 2
  · have i2 : (200 : Int) < (x.length : Int) + (y.length : Int) + (z.length : Int) + 2 := by omega
    go_wp2
    go_ret
    exact ⟨rfl, hb9⟩
  have i2 : ¬ (200 : Int) < (x.length : Int) + (y.length : Int) + (z.length : Int) + 2 := by omega
  by_cases h3 : k < 0
  · go_wp2
    go_ret
    exact ⟨rfl, hb9⟩
  by_cases h4 : 4 < k
  · go_wp2
    go_ret
    exact ⟨rfl, hb9⟩
  obtain ⟨n, rfl⟩ : ∃ n : Nat, k = n := ⟨k.toNat, by omega⟩
  have hn4 : n ≤ 4 := by omega
  obtain ⟨wB, hwB⟩ : ∃ wB, wB = ((w9.alloc (.cells #[.string ⟨#[124, 124]⟩, .string ⟨#[38, 38]⟩, .string ⟨#[43]⟩, .string ⟨#[45]⟩, .string ⟨#[42]⟩] 9)).alloc (.cells #[.int .i64 12, .int .i64 11, .int .i64 17, .int .i64 18, .int .i64 19] 3)).alloc (.cells #[.slice p a.length c1, .slice q b.length c2, .slice r c.length c3] 22) := ⟨_, rfl⟩
  have hbB : Below w.heap.size w wB := by rw [hwB]; exact qba (qba (qba hb9 _) _) _
  have hb9B : Below w9.heap.size w9 wB := by rw [hwB]; exact qba (qba (qba (Below.refl _ _) _) _) _
  have hsB : wB.heap.size = w9.heap.size + 3 := by rw [hwB]; simp
  obtain ⟨g0, g1, g2⟩ := three_new w9 #[.string ⟨#[124, 124]⟩, .string ⟨#[38, 38]⟩, .string ⟨#[43]⟩, .string ⟨#[45]⟩, .string ⟨#[42]⟩] #[.int .i64 12, .int .i64 11, .int .i64 17, .int .i64 18, .int .i64 19] #[.slice p a.length c1, .slice q b.length c2, .slice r c.length c3] 9 3 22
  rw [← hwB] at g0 g1 g2
  have hS : wB.cell? ⟨w9.heap.size, n, none⟩ = some (.string (sgk n)) := by unfold World.cell?; rw [g0]; exact sgk_at hn4
  have hO : wB.cell? ⟨w9.heap.size + 1, n, none⟩ = some (.int .i64 (opk n)) := by unfold World.cell?; rw [g1]; exact opk_at hn4
  have HM : ∀ j, j < 3 → ∃ M pM cM, Part w wB (w9.heap.size + 1 + 1) n j a b c M pM cM := by
    intro j hj
    rcases j with _ | _ | _ | j
    · exact ⟨a, p, c1, by unfold World.cell?; rw [g2]; rfl, ha, ha.ne (parse_ne eA), la, by simp [rowJ]⟩
    · exact ⟨b, q, c2, by unfold World.cell?; rw [g2]; rfl, hb, hb.ne (parse_ne eB), lb, by simp [rowJ]⟩
    · exact ⟨c, r, c3, by unfold World.cell?; rw [g2]; rfl, hc, hc.ne (parse_ne eC), lc, by simp [rowJ]⟩
    · omega
  have HR : Hid (parseL (rowJ a b c n 3) = .ok (opN (opk n) :: opN (opk n) :: (x ++ (y ++ z)))) := parse_row eA eB eC hn4 (by omega) (by omega)
  have hxB := hx7.up (qbt hb8' (qbt hb9' hb9B))
  have hyB := hy8.up (qbt hb9' hb9B)
  have hzB := hz9.up hb9B
  have hlj : ∀ j, j ≤ 3 → (rowJ a b c n j).length ≤ 300 := by
    intro j hj
    rcases j with _ | _ | _ | _ | j <;> simp [rowJ] <;> omega
  have HS : Hid (∀ t ∈ rowJ a b c n 3, t.s.size ≤ 140737488351232) := by
    intro t ht
    have h0 : ∀ m, (tG m).s.size ≤ 140737488351232 := by intro m; unfold tG sgk; split <;> decide
    simp only [rowJ, List.mem_append, List.mem_cons, List.not_mem_nil, or_false] at ht
    have t1 : tO.s.size ≤ 140737488351232 := by decide
    have t2 : tC.s.size ≤ 140737488351232 := by decide
    rcases ht with (rfl | ht | rfl) | rfl | (rfl | ht | rfl) | rfl | rfl | ht | rfl
    · exact t1
    · exact ha.sz t ht
    · exact t2
    · exact h0 n
    · exact t1
    · exact hb.sz t ht
    · exact t2
    · exact h0 n
    · exact t1
    · exact hc.sz t ht
    · exact t2
  have HE : Hid (ErrIn wB) := errIn_up he hbB
  clear g0 g1 g2 eA eB eC la lb lc sa sb sc HQ hlw hd1 hd2 hx7 hy8 hz9 ha hb hc he
  go_wp2
  rw [← hwB]
  clear hwB
  go_loopw [24, 26] (fun v i wr => ∃ j : Nat, j ≤ 3 ∧ i = .int .i64 j ∧ OT wr wB.heap.size v (rowJ a b c n j) ∧ Below wB.heap.size wB wr) (fun _ i _ => 3 - (intOf i).toNat)
  case atStart => exact ⟨0, Nat.zero_le _, rfl, OT.nil _ _, Below.refl _ _⟩
  case round =>
    obtain ⟨j, hj, rfl, hown, hbr⟩ := hrel
    have hl0 := hlj j hj
    by_cases h3j : j < 3
    · have i3 : (j : Int) < 3 := by omega
      obtain ⟨M, pM, cM, hpc, hpa, hpn, hpl, hprow⟩ := HM j h3j
      have HRow : Hid (rowJ a b c n (j + 1) = ((rowJ a b c n j ++ (if j = 0 then [] else [tG n])) ++ [tO]) ++ M ++ [tC]) := hprow
      have HPC : Hid (wB.cell? ⟨w9.heap.size + 1 + 1, j, none⟩ = some (.slice pM M.length cM)) := hpc
      have HPA : Hid (PArg w pM cM M) := hpa
      clear hprow hpc hpa
      by_cases h0j : j = 0
      · subst h0j
        rw [if_pos rfl, List.append_nil] at HRow
        generalize rowJ a b c n 0 = row at *
        go_wp2_with (at_builtin; first
          | (refine append_tok wr rfl (.tmp 133) (.tmp 135) rfl wB.heap.size u24 row rfl hown tO rfl (by omega) hbr.size ?_; intro v1 wr1 ho1 hk1; have hbr1 := hbr.trans hk1; have kc1 : wr1.cell? ⟨w9.heap.size + 1 + 1, 0, none⟩ = _ := (hbr1.cell (p := ⟨w9.heap.size + 1 + 1, 0, none⟩) (by show w9.heap.size + 1 + 1 < _; omega)).trans HPC.out)
          | (refine append_toks wr1 rfl (.tmp 137) (.tmp 141) rfl wB.heap.size v1 (row ++ [tO]) rfl ho1 M M.length rfl pM cM (HPA.out.tk.up (hbB.trans (hbr1.mono hbB.size))) rfl (fun h => absurd h hpn) (by simp; omega) hbr1.size ?_; intro v2 wr2 ho2 hk2; have hbr2 := hbr1.trans hk2)
          | (refine append_tok wr2 rfl (.tmp 143) (.tmp 145) rfl wB.heap.size v2 (row ++ [tO] ++ M) rfl ho2 tC rfl (by simp; omega) hbr2.size ?_; intro v3 wr3 ho3 hk3; have hbr3 := hbr2.trans hk3))
        go_roundw
        case rel => exact ⟨0 + 1, by omega, by go_num, by rw [HRow.out]; exact ho3, hbr3⟩
        case measure => simp [intOf]
      · have i0 : (0 : Int) < (j : Int) := by omega
        rw [if_neg h0j] at HRow
        generalize rowJ a b c n j = row at *
        have ks0 : wr.cell? ⟨w9.heap.size, n, none⟩ = _ := (hbr.cell (p := ⟨w9.heap.size, n, none⟩) (by show w9.heap.size < _; omega)).trans hS
        go_wp2_with (at_builtin; first
          | (refine append_tok wr rfl (.tmp 125) (.tmp 131) rfl wB.heap.size u24 row rfl hown (tG n) rfl (by omega) hbr.size ?_; intro v0 wr0 ho0 hk0; have hbr0 := hbr.trans hk0)
          | (refine append_tok wr0 rfl (.tmp 133) (.tmp 135) rfl wB.heap.size v0 (row ++ [tG n]) rfl ho0 tO rfl (by simp; omega) hbr0.size ?_; intro v1 wr1 ho1 hk1; have hbr1 := hbr0.trans hk1; have kc1 : wr1.cell? ⟨w9.heap.size + 1 + 1, j, none⟩ = _ := (hbr1.cell (p := ⟨w9.heap.size + 1 + 1, j, none⟩) (by show w9.heap.size + 1 + 1 < _; omega)).trans HPC.out)
          | (refine append_toks wr1 rfl (.tmp 137) (.tmp 141) rfl wB.heap.size v1 (row ++ [tG n] ++ [tO]) rfl ho1 M M.length rfl pM cM (HPA.out.tk.up (hbB.trans (hbr1.mono hbB.size))) rfl (fun h => absurd h hpn) (by simp; omega) hbr1.size ?_; intro v2 wr2 ho2 hk2; have hbr2 := hbr1.trans hk2)
          | (refine append_tok wr2 rfl (.tmp 143) (.tmp 145) rfl wB.heap.size v2 (row ++ [tG n] ++ [tO] ++ M) rfl ho2 tC rfl (by simp; omega) hbr2.size ?_; intro v3 wr3 ho3 hk3; have hbr3 := hbr2.trans hk3))
        go_roundw
        case rel => exact ⟨j + 1, by omega, by go_num, by rw [HRow.out]; exact ho3, hbr3⟩
        case measure => simp [intOf]; omega
    · obtain rfl : j = 3 := by omega
      have i3 : ¬ ((3 : Nat) : Int) < 3 := by omega
      obtain ⟨qt, ct, rfl, hkt, hct1, hct2, _⟩ := hown.slice
      have hbw : Below w.heap.size w wr := hbB.trans (hbr.mono hbB.size)
      have HP := parse_arg (rowJ a b c n 3) _ rfl qt ct wr ⟨hkt, hct1, hct2, HS.out⟩ (errIn_up HE.out hbr) _ HR.out
      have hlen : (opN (opk n) :: opN (opk n) :: (x ++ (y ++ z))).length = 2 + x.length + y.length + z.length := by simp; omega
      clear hct1 hct2 hlj HM HS hkt
      generalize hNl : (rowJ a b c n 3).length = nl at *
      go_wp2_with fail
      refine HP.mono ?_
      rintro e w10 ⟨⟨q10, d10, rfl, hn10, _⟩, hb10'⟩
      have hb10 := qbt hbw hb10'
      have hBr10 : Below wB.heap.size wB w10 := hbr.trans (hb10'.mono hbr.size)
      have ko : w10.cell? ⟨w9.heap.size + 1, n, none⟩ = _ := (hBr10.cell (p := ⟨w9.heap.size + 1, n, none⟩) (by show w9.heap.size + 1 < _; omega)).trans hO
      rw [hlen]
      obtain ⟨wE, hwE⟩ : ∃ wE, wE = (w10.alloc (.cells #[.int .i64 (opk n), .int .i64 0, .string ⟨#[]⟩, .string ⟨#[]⟩] 31)).alloc (.cells #[.int .i64 (opk n), .int .i64 0, .string ⟨#[]⟩, .string ⟨#[]⟩, .int .i64 (opk n), .int .i64 0, .string ⟨#[]⟩, .string ⟨#[]⟩] 31) := ⟨_, rfl⟩
      have hE10 : Below w10.heap.size w10 wE := by rw [hwE]; exact qba (qba (Below.refl _ _) _) _
      have hx10 := hxB.up hBr10
      have hy10 := hyB.up hBr10
      have hz10 := hzB.up hBr10
      obtain ⟨bx, ox, rfl⟩ := hx10.some nx
      obtain ⟨by_, oy, rfl⟩ := hy10.some ny
      obtain ⟨bz, oz, rfl⟩ := hz10.some nz
      have hO0 : ON wE (w10.heap.size + 1) (.slice (some ⟨w10.heap.size + 1, 0, none⟩) 2 2) [opN (opk n), opN (opk n)] := by
        have h := ON.lit2 (w10.alloc (.cells #[.int .i64 (opk n), .int .i64 0, .string ⟨#[]⟩, .string ⟨#[]⟩] 31)) (opN (opk n)) (opN (opk n)) opN_wf opN_wf
        have h2 : (w10.alloc (.cells #[.int .i64 (opk n), .int .i64 0, .string ⟨#[]⟩, .string ⟨#[]⟩] 31)).heap.size = w10.heap.size + 1 := by simp
        rw [h2] at h
        rw [hwE]
        exact h
      have hsE : w10.heap.size + 1 ≤ wE.heap.size := by rw [hwE]; simp
      clear HP hxB hyB hzB hbB hb9B hS hO HR HE hBr10 hbr hb6 hb7 hb7' hb8 hb8' hb9 hb9'
      have hlE : ([opN (opk n), opN (opk n)] ++ x ++ y ++ z).length = 2 + x.length + y.length + z.length := by simp; omega
      have HAS : Hid ([opN (opk n), opN (opk n)] ++ x ++ y ++ z = opN (opk n) :: opN (opk n) :: (x ++ (y ++ z))) := by show _ = _; simp
      go_wp2_with (at_builtin; first
        | (rw [← hwE]; refine append_nodes wE rfl (.tmp 160) (.tmp 161) rfl (w10.heap.size + 1) _ [opN (opk n), opN (opk n)] rfl hO0 x x.length rfl bx ox ca (hx10.up hE10) rfl (by simp; omega) hsE ?_; intro v1 wr1 ho1 hk1; have hE1 := hE10.trans (hk1.bel.mono (Nat.le_succ _)))
        | (refine append_nodes wr1 rfl (.tmp 163) (.tmp 164) rfl (w10.heap.size + 1) v1 ([opN (opk n), opN (opk n)] ++ x) rfl ho1 y y.length rfl by_ oy cb (hy10.up hE1) rfl (by simp; omega) (Nat.le_trans hsE hk1.bel.size) ?_; intro v2 wr2 ho2 hk2; have hE2 := hE1.trans (hk2.bel.mono (Nat.le_succ _)))
        | (refine append_nodes wr2 rfl (.tmp 166) (.tmp 167) rfl (w10.heap.size + 1) v2 ([opN (opk n), opN (opk n)] ++ x ++ y) rfl ho2 z z.length rfl bz oz cc (hz10.up hE2) rfl (by simp; omega) (Nat.le_trans hsE (Nat.le_trans hk1.bel.size hk2.bel.size)) ?_; intro v3 wr3 ho3 hk3; have hE3 := hE2.trans (hk3.bel.mono (Nat.le_succ _)); obtain ⟨g3, cp3, e3, _, _, _, _, hN3, _⟩ := ho3.slice (by simp); rw [hlE] at e3; subst e3)
        | fail)
      rw [HAS.out] at hN3
      refine (same_nodes _ _ hlen q10 (some ⟨g3, 0, none⟩) d10 cp3 _ (hn10.1.up hE3) hN3 (by omega)).mono ?_
      rintro e w12 ⟨rfl, hb12'⟩
      have hb12 := qbt (qbt hb10 hE3) hb12'
      clear hb10 hE3 hE2 hE1 hE10
      go_wp2
      go_ret
      exact ⟨rfl, hb12⟩
end Go.Proofs.YtpbnjdgedifnoabGreatDoor
