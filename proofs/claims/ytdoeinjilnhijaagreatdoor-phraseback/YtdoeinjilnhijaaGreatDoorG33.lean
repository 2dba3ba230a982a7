/- Print as the statements of chapter 9 use it: the words of an expression that may be, told or too many. PhraseBack: the walk of the statement's own function. -/
import Derived.Test.YtdoeinjilnhijaaGreatDoorG15
import Derived.Test.YtdoeinjilnhijaaGreatDoorG20
import Derived.Test.YtdoeinjilnhijaaGreatDoorG32
import Derived.Test.YtdoeinjilnhijaaGreatDoorG29
import Derived.Test.YtdoeinjilnhijaaGreatDoorG23
namespace Go.Proofs.YtdoeinjilnhijaaGreatDoor
open Go.RowKit
set_option linter.unusedVariables false
set_option maxRecDepth 100000

theorem printL_ok {e : List Nd} {ts : List Tk} (h : printL e = .ok ts) : xfault e = 0 ∧ ts = wrd e ∧ ts.length ≤ 300 := by
  unfold printL at h
  split at h
  · rename_i hx
    split at h
    · cases h
    · rename_i hl
      injection h with h
      subst h
      exact ⟨hx, rfl, by omega⟩
  · cases h
theorem printL_back {e : List Nd} {ts : List Tk} (h : printL e = .ok ts) (hN : ∀ x ∈ e, n64 x) : parseL ts = .ok e := by
  obtain ⟨hx, rfl, hl⟩ := printL_ok h
  exact parse_print hx hN hl
theorem printL_small {e : List Nd} {ts : List Tk} (h : printL e = .ok ts) (hN : ∀ x ∈ e, n64 x) : ∀ t ∈ ts, t.s.size ≤ 140737488351232 := by
  obtain ⟨_, hs, _⟩ := ok_parse (printL_back h hN)
  exact fun t ht => by
    have h1 := spB_size (hs t ht)
    have h2 : t.l.length = t.s.size := by simp [Tk.l]
    omega
theorem Tab.up {w w' : World} (h : Tab w) (hb : Below w.heap.size w w') : Tab w' := by
  refine h.keep (hb.block _ ?_)
  unfold Tab Lib.TabIs World.var? at h
  simp only [Tryz.gPow, Option.bind_some] at h
  rcases Nat.lt_or_ge 1 w.heap.size with h' | h'
  · exact h'
  · rw [Array.getElem?_eq_none h'] at h; cases h
theorem print_arg (e : List Nd) (n : Nat) (hn : e.length = n) (p : Option Addr) (c : Nat) (w : World) (h : NL w p e) (hl : e.length ≤ maxLen) (ht : Tab w) (hN : ∀ x ∈ e, n64 x) (R : Except Int (List Tk)) (hR : printL e = R) :
    Calls Tryz.prog 6 #[.slice p n c] w fun en w' => PrintE R en w' ∧ Below w.heap.size w w' := by
  subst hn hR
  exact print_any insOk e p c w h hl ht hN
theorem PrintE.any {R : Except Int (List Tk)} {e : Ending} {w' : World} (h : PrintE R e w') : ∃ q n c v, e = .returned (.tuple #[.slice q n c, v]) ∧ (v = .nilIface ∨ ∃ k, v = .iface 33 (.int .i64 k)) := by
  cases R with
  | ok x => obtain ⟨q, cc, rfl, _⟩ := h; exact ⟨q, _, cc, _, rfl, .inl rfl⟩
  | error y => exact ⟨none, 0, 0, _, h, .inr ⟨_, rfl⟩⟩
theorem PrintE.good {R : Except Int (List Tk)} {q : Option Addr} {n c : Nat} {w : World} (h : PrintE R (.returned (.tuple #[.slice q n c, .nilIface])) w) : ∃ ts, R = .ok ts ∧ n = ts.length ∧ TKL w q ts ∧ ts.length ≤ c ∧ c ≤ maxLen := by
  cases R with
  | ok x => obtain ⟨q', cc, e, h1, h2, h3⟩ := h; cases e; exact ⟨x, rfl, rfl, h1, h2, h3⟩
  | error y => cases h
end Go.Proofs.YtdoeinjilnhijaaGreatDoor
namespace Go.Proofs.YtdoeinjilnhijaaGreatDoor
open Go.RowKit
set_option linter.unusedVariables false
set_option maxRecDepth 100000

theorem fK_wf : ∀ x ∈ fK, x.wf := by intro x hx; simp only [fK, List.mem_cons, List.not_mem_nil, or_false] at hx; rcases hx with rfl | rfl | rfl | rfl | rfl <;> first | exact opN_wf | exact num_wf (by decide)
theorem fK_64 : ∀ x ∈ fK, n64 x := by
  intro x hx
  simp only [fK, List.mem_cons, List.not_mem_nil, or_false] at hx
  rcases hx with rfl | rfl | rfl | rfl | rfl <;> first | (intro h; exact absurd h (by decide)) | (intro _; exact ⟨by decide, by decide⟩)
theorem print_fK : printL fK = .ok (wK.map at0) := by
  unfold printL
  rw [if_pos xfault_fK, wrd_fK, if_neg (by decide)]
set_option maxHeartbeats 600000 in
theorem phraseBack_true (e : List Nd) (p : Option Addr) (c : Nat) (w : World) (h : NL w p e) (hl : e.length ≤ maxLen) (hN : ∀ x ∈ e, n64 x) (he : ErrIn w) (ht : Tab w) :
    Calls Tryz.prog 4 #[.slice p e.length c] w fun en w' => en = .returned (.bool true) ∧ Below w.heap.size w w' := by
  go_enter Tryz.func4, Tryz.ntmps4
  go_wp2_with fail
  refine (num_fn _ _).mono ?_
  rintro en w1 ⟨rfl, hb1⟩
  go_wp2_with fail
  refine (num_fn _ _).mono ?_
  rintro en w2 ⟨rfl, hb2'⟩
  have hb2 := qbt hb1 hb2'
  clear hb1 hb2'
  go_wp2_with fail
  refine (num_fn _ _).mono ?_
  rintro en w3 ⟨rfl, hb3'⟩
  have hb3 := qbt hb2 hb3'
  clear hb2 hb3'
  go_wp2_with fail
  refine (print_arg fK 5 rfl (some ⟨w3.heap.size, 0, none⟩) 5 _ (NL.lit w3 fK _ fK_wf rfl (by decide)) (by unfold maxLen; decide) (ht.up (qba hb3 _)) fK_64 _ print_fK).mono ?_
  rintro en w4 ⟨⟨q4, c4, rfl, hk4, hc1, hc2⟩, hb4'⟩
  have hb4 := qbt (qba hb3 _) hb4'
  clear hb3 hb4'
  have hlw : (wK.map at0).length = 7 := rfl
  have HQ := quick_any ⟨#[40, 49, 32, 43, 32, 50, 41, 32, 42, 32, 51]⟩ wK w4 (by decide) read_wK
  have hlk : wK.length = 7 := rfl
  rw [hlk] at HQ
  rw [hlw]
  go_wp2_with fail
  refine HQ.mono ?_
  rintro en w5 ⟨⟨q5, d5, rfl, hk5, hd1, hd2⟩, hb5'⟩
  have hb5 := qbt hb4 hb5'
  have hk6 := hk4.up hb5'
  clear hb4 hb5' hk4
  go_wp2_with fail
  refine (sameTok_n (wK.map at0) 7 rfl q4 q5 c4 d5 w5 hk6 hk5 (by decide)).mono ?_
  rintro en w6 ⟨rfl, hb6'⟩
  have hb6 := qbt hb5 hb6'
  clear hb5 hb6' hk5 hk6
  go_wp2_with fail
  refine (print_arg e _ rfl p c w6 (h.up hb6) hl (ht.up hb6) hN _ rfl).mono ?_
  rintro en w7 ⟨hE, hb7'⟩
  have hb7 := qbt hb6 hb7'
  obtain ⟨q7, n7, c7, v7, rfl, hv7⟩ := hE.any
  rcases hv7 with rfl | ⟨k7, rfl⟩
  rotate_left
  · clear hE
    go_wp2
    go_ret
    exact ⟨rfl, hb7⟩
  obtain ⟨ts, eT, rfl, hk7, hc3, hc4⟩ := hE.good
  have p7 := printL_back eT hN
  have s7 := printL_small eT hN
  clear hE
  have HP := parse_arg ts _ rfl q7 c7 w7 ⟨hk7, hc3, hc4, s7⟩ (errIn_up he hb7) _ p7
  have hl7 := (xfault_zero (printL_ok eT).1).1
  go_wp2_with fail
  refine HP.mono ?_
  rintro en w8 ⟨⟨q8, c8, rfl, hn8, hd3, hd4, _⟩, hb8'⟩
  have hb8 := qbt hb7 hb8'
  have hx8 := hn8.1
  clear HP hn8
  go_wp2_with fail
  refine (same_nodes e _ rfl q8 p c8 c w8 hx8 (h.up hb8) (by omega)).mono ?_
  rintro en w9 ⟨rfl, hb9'⟩
  have hb9 := qbt hb8 hb9'
  go_wp2
  go_ret
  exact ⟨rfl, hb9⟩
end Go.Proofs.YtdoeinjilnhijaaGreatDoor
