/- Print as the statements of chapter 9 use it: the words of an expression that may be, told or too many. PhraseNumbers: the walk of the statement's own function. -/
import Derived.Test.YtdoeinjilnhijaaGreatDoorG15
import Derived.Test.YtdoeinjilnhijaaGreatDoorG20
import Derived.Test.YtdoeinjilnhijaaGreatDoorG32
import Derived.Test.YtdoeinjilnhijaaGreatDoorG29
import Derived.Test.YtdoeinjilnhijaaGreatDoorG23
namespace Go.Proofs.YtdoeinjilnhijaaGreatDoor
open Go.RowKit
set_option linter.unusedVariables false
set_option maxRecDepth 100000

theorem printL_ok {e : List Nd} {ts : List Tk} (h : printL e = .ok ts) : xfault e = 0 ∧ ts = wrd e ∧ ts.length ≤ 300 := by
  unfold printL at h
  split at h
  · rename_i hx
    split at h
    · cases h
    · rename_i hl
      injection h with h
      subst h
      exact ⟨hx, rfl, by omega⟩
  · cases h
theorem printL_back {e : List Nd} {ts : List Tk} (h : printL e = .ok ts) (hN : ∀ x ∈ e, n64 x) : parseL ts = .ok e := by
  obtain ⟨hx, rfl, hl⟩ := printL_ok h
  exact parse_print hx hN hl
theorem printL_small {e : List Nd} {ts : List Tk} (h : printL e = .ok ts) (hN : ∀ x ∈ e, n64 x) : ∀ t ∈ ts, t.s.size ≤ 140737488351232 := by
  obtain ⟨_, hs, _⟩ := ok_parse (printL_back h hN)
  exact fun t ht => by
    have h1 := spB_size (hs t ht)
    have h2 : t.l.length = t.s.size := by simp [Tk.l]
    omega
theorem Tab.up {w w' : World} (h : Tab w) (hb : Below w.heap.size w w') : Tab w' := by
  refine h.keep (hb.block _ ?_)
  unfold Tab Lib.TabIs World.var? at h
  simp only [Tryz.gPow, Option.bind_some] at h
  rcases Nat.lt_or_ge 1 w.heap.size with h' | h'
  · exact h'
  · rw [Array.getElem?_eq_none h'] at h; cases h
theorem print_arg (e : List Nd) (n : Nat) (hn : e.length = n) (p : Option Addr) (c : Nat) (w : World) (h : NL w p e) (hl : e.length ≤ maxLen) (ht : Tab w) (hN : ∀ x ∈ e, n64 x) (R : Except Int (List Tk)) (hR : printL e = R) :
    Calls Tryz.prog 6 #[.slice p n c] w fun en w' => PrintE R en w' ∧ Below w.heap.size w w' := by
  subst hn hR
  exact print_any insOk e p c w h hl ht hN
theorem PrintE.any {R : Except Int (List Tk)} {e : Ending} {w' : World} (h : PrintE R e w') : ∃ q n c v, e = .returned (.tuple #[.slice q n c, v]) ∧ (v = .nilIface ∨ ∃ k, v = .iface 33 (.int .i64 k)) := by
  cases R with
  | ok x => obtain ⟨q, cc, rfl, _⟩ := h; exact ⟨q, _, cc, _, rfl, .inl rfl⟩
  | error y => exact ⟨none, 0, 0, _, h, .inr ⟨_, rfl⟩⟩
theorem PrintE.good {R : Except Int (List Tk)} {q : Option Addr} {n c : Nat} {w : World} (h : PrintE R (.returned (.tuple #[.slice q n c, .nilIface])) w) : ∃ ts, R = .ok ts ∧ n = ts.length ∧ TKL w q ts ∧ ts.length ≤ c ∧ c ≤ maxLen := by
  cases R with
  | ok x => obtain ⟨q', cc, e, h1, h2, h3⟩ := h; cases e; exact ⟨x, rfl, rfl, h1, h2, h3⟩
  | error y => cases h
end Go.Proofs.YtdoeinjilnhijaaGreatDoor
namespace Go.Proofs.YtdoeinjilnhijaaGreatDoor
open Go.RowKit
set_option linter.unusedVariables false
set_option maxRecDepth 100000

def nN (n : Int) : Nd := ⟨2, n, ⟨#[]⟩, ⟨#[]⟩⟩
theorem print_num (n : Int) : ∃ ts, printL [nN n] = .ok ts := by
  have hx : xfault [nN n] = 0 := by kernel_rfl
  have hl : (wrd [nN n]).length ≤ 2 := by
    have e : wrd [nN n] = if n < 0 then [sgW [45], numW n.natAbs] else [numW n.natAbs] := rfl
    rw [e]
    split <;> simp
  refine ⟨wrd [nN n], ?_⟩
  · unfold printL; rw [if_pos hx, if_neg (by omega)]
theorem print_neg (n : Int) : ∃ ts, printL [opN 10, nN n] = .ok ts := by
  have hx : xfault [opN 10, nN n] = 0 := by kernel_rfl
  have hl : (wrd [opN 10, nN n]).length ≤ 10 := by
    have e : wrd [opN 10, nN n] = sgW [45] :: negW (if n < 0 then [sgW [45], numW n.natAbs] else [numW n.natAbs]) := rfl
    rw [e]
    unfold negW brk
    split <;> split <;> simp
  refine ⟨wrd [opN 10, nN n], ?_⟩
  · unfold printL; rw [if_pos hx, if_neg (by omega)]
set_option maxHeartbeats 600000 in
theorem phraseNumbers_true (n : Int) (w : World) (hn : -9223372036854775808 ≤ n ∧ n ≤ 9223372036854775807) (he : ErrIn w) (ht : Tab w) :
    Calls Tryz.prog 5 #[.int .i64 n] w fun e w' => e = .returned (.bool true) ∧ Below w.heap.size w w' := by
  obtain ⟨ts, h1⟩ := print_num n
  obtain ⟨us, h2⟩ := print_neg n
  have hN1 : ∀ x ∈ [nN n], n64 x := by intro x hx; simp only [List.mem_singleton] at hx; subst hx; exact fun _ => hn
  have hN2 : ∀ x ∈ [opN 10, nN n], n64 x := by
    intro x hx
    simp only [List.mem_cons, List.not_mem_nil, or_false] at hx
    rcases hx with rfl | rfl
    · intro h; exact absurd h (by decide)
    · exact fun _ => hn
  have hf1 : ∀ x ∈ [nN n], x.wf := by intro x hx; simp only [List.mem_singleton] at hx; subst hx; exact num_wf hn.2
  have hf2 : ∀ x ∈ [opN 10, nN n], x.wf := by
    intro x hx
    simp only [List.mem_cons, List.not_mem_nil, or_false] at hx
    rcases hx with rfl | rfl
    · exact opN_wf
    · exact num_wf hn.2
  have p1 := printL_back h1 hN1
  have p2 := printL_back h2 hN2
  have s1 := printL_small h1 hN1
  have s2 := printL_small h2 hN2
  go_enter Tryz.func5, Tryz.ntmps5
  go_wp2_with fail
  refine (num_fn _ _).mono ?_
  rintro e w1 ⟨rfl, hb1⟩
  have hba := qba hb1 (.cells #[.int .i64 2, .int .i64 n, .string ⟨#[]⟩, .string ⟨#[]⟩] 29)
  have HA := print_arg [nN n] 1 rfl (some ⟨w1.heap.size, 0, none⟩) 1 _ (NL.lit w1 [nN n] #[.int .i64 2, .int .i64 n, .string ⟨#[]⟩, .string ⟨#[]⟩] hf1 rfl (by simp)) (by unfold maxLen; simp) (ht.up hba) hN1 _ h1
  go_wp2_with fail
  refine HA.mono ?_
  rintro e w2 ⟨⟨q2, c2, rfl, hk2, hc1, hc2⟩, hb2'⟩
  have hb2 := qbt hba hb2'
  clear hba hb1 hb2' HA
  have HP := parse_arg ts _ rfl q2 c2 w2 ⟨hk2, hc1, hc2, s1⟩ (errIn_up he hb2) _ p1
  go_wp2_with fail
  refine HP.mono ?_
  rintro e w3 ⟨⟨q3, c3, rfl, hn3, hd1, hd2, _⟩, hb3'⟩
  have hb3 := qbt hb2 hb3'
  have hx3 := hn3.1
  clear hb2 hb3' HP hn3
  go_wp2_with fail
  refine (num_fn _ _).mono ?_
  rintro e w4 ⟨rfl, hb4'⟩
  have hb4 := qbt hb3 hb4'
  have hx4 := hx3.up hb4'
  clear hb3 hb4' hx3
  go_wp2_with fail
  refine (same_nodes [nN n] 1 rfl q3 (some ⟨w4.heap.size, 0, none⟩) c3 1 _ (hx4.up ((Below.refl _ _).alloc (Nat.le_refl _) _)) (NL.lit w4 [nN n] _ hf1 rfl (by simp)) (by decide)).mono ?_
  rintro e w5 ⟨rfl, hb5'⟩
  have hb5 := qbt (qba hb4 _) hb5'
  clear hb4 hb5' hx4
  go_wp2_with fail
  refine (num_fn _ _).mono ?_
  rintro e w6 ⟨rfl, hb6'⟩
  have hb6 := qbt hb5 hb6'
  clear hb5 hb6'
  have hbc := qba hb6 (.cells #[.int .i64 10, .int .i64 0, .string ⟨#[]⟩, .string ⟨#[]⟩, .int .i64 2, .int .i64 n, .string ⟨#[]⟩, .string ⟨#[]⟩] 29)
  have HB := print_arg [opN 10, nN n] 2 rfl (some ⟨w6.heap.size, 0, none⟩) 2 _ (NL.lit w6 [opN 10, nN n] #[.int .i64 10, .int .i64 0, .string ⟨#[]⟩, .string ⟨#[]⟩, .int .i64 2, .int .i64 n, .string ⟨#[]⟩, .string ⟨#[]⟩] hf2 rfl (by simp)) (by unfold maxLen; simp) (ht.up hbc) hN2 _ h2
  go_wp2_with fail
  refine HB.mono ?_
  rintro e w7 ⟨⟨q7, c7, rfl, hk7, hc3, hc4⟩, hb7'⟩
  have hb7 := qbt hbc hb7'
  clear hbc hb6 hb7' HB
  have HP := parse_arg us _ rfl q7 c7 w7 ⟨hk7, hc3, hc4, s2⟩ (errIn_up he hb7) _ p2
  go_wp2_with fail
  refine HP.mono ?_
  rintro e w8 ⟨⟨q8, c8, rfl, hn8, hd3, hd4, _⟩, hb8'⟩
  have hb8 := qbt hb7 hb8'
  have hx8 := hn8.1
  clear hb7 hb8' HP hn8
  go_wp2_with fail
  refine (num_fn _ _).mono ?_
  rintro e w9 ⟨rfl, hb9'⟩
  have hb9 := qbt hb8 hb9'
  have hx9 := hx8.up hb9'
  clear hb8 hb9' hx8
  go_wp2_with fail
  refine (same_nodes [opN 10, nN n] 2 rfl q8 (some ⟨w9.heap.size, 0, none⟩) c8 2 _ (hx9.up ((Below.refl _ _).alloc (Nat.le_refl _) _)) (NL.lit w9 [opN 10, nN n] _ hf2 rfl (by simp)) (by decide)).mono ?_
  rintro e w10 ⟨rfl, hb10'⟩
  have hb10 := qbt (qba hb9 _) hb10'
  go_wp2
  go_ret
  exact ⟨rfl, hb10⟩
end Go.Proofs.YtdoeinjilnhijaaGreatDoor
