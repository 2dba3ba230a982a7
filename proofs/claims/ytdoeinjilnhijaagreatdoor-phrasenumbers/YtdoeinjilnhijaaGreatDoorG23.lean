/- The statements' bare: words without their places; by a walk of its own text. What is known of words that were read. Whether two lists of words are the same (package wicketgatesame), the words without their places (the statements' bare), and the facts of the statements; by walks of their own texts. wicketgatesame.Tokens at lists that are the same, their lengths known. -/
import Derived.Test.YtdoeinjilnhijaaGreatDoorG3
import Derived.Test.YtdoeinjilnhijaaGreatDoorG1
import Derived.Deep.QuietTactic
import Derived.Laws.StructEq
namespace Go.Proofs.YtdoeinjilnhijaaGreatDoor
open Go.RowKit
set_option linter.unusedVariables false

theorem map_next {L : List Tk} {k : Nat} (h : k < L.length) : (L.take (k + 1)).map at0 = (L.take k).map at0 ++ [at0 L[k]] := by
  rw [List.take_succ_eq_append_getElem h, List.map_append]; rfl
/-- How bare ends. -/
def BareRet (L : List Tk) (n : Nat) (e : Ending) (w' : World) : Prop := ∃ q' c', e = .returned (.slice q' n c') ∧ TKL w' q' (L.map at0)
/-- The same with what is known of the capacity. -/
def BareC (L : List Tk) (n : Nat) (e : Ending) (w' : World) : Prop := ∃ q' c', e = .returned (.slice q' n c') ∧ TKL w' q' (L.map at0) ∧ n ≤ c' ∧ c' ≤ maxLen
set_option maxRecDepth 100000 in
set_option maxHeartbeats 1000000 in
theorem bare_c (L : List Tk) (n : Nat) (q : Option Addr) (c : Nat) (w : World) (hv : TKL w q L) (hn : L.length = n) (h3 : n ≤ 300) :
    Calls Tryz.prog 17 #[.slice q n c] w fun e w' => BareC L n e w' ∧ Below w.heap.size w w' := by
  subst hn
  go_enter Tryz.func17, Tryz.ntmps17
  go_wp2
  go_loopw [3, 4] (fun v i wr => ∃ k : Nat, k ≤ L.length ∧ i = .int .i64 k ∧ OT wr w.heap.size v ((L.take k).map at0) ∧ Below w.heap.size w wr) (fun _ i _ => L.length - (intOf i).toNat)
  case atStart => exact ⟨0, Nat.zero_le _, rfl, OT.nil _ _, Below.refl _ _⟩
  case round =>
    obtain ⟨k, hk, rfl, hown, hb⟩ := hrel
    have hlm : ((L.take k).map at0).length = k := by rw [List.length_map, List.length_take]; omega
    by_cases hlt : k < L.length
    · have i1 : (k : Int) < (L.length : Int) := by omega
      obtain ⟨b, off, rfl, hbw, c0, c1, c2⟩ := (hv.up hb).at hlt
      have HM : Hid (_ = _) := map_next hlt
      generalize L[k] = t at *
      generalize (L.take k).map at0 = acc at *
      have hb2 := hb.alloc hb.size (.cells #[.int .i64 t.kind, .string t.s, .int .i64 0] 47)
      have hown2 := hown.below ((Below.refl _ _).alloc (Nat.le_refl _) (.cells #[.int .i64 t.kind, .string t.s, .int .i64 0] 47))
      have Hz : Hid ((wr.alloc (.cells #[.int .i64 t.kind, .string t.s, .int .i64 0] 47)).heap.size = wr.heap.size + 1) := by show _ = _; simp
      have Hz2 : Hid _ := hb2.size
      go_wp2_with (at_builtin; refine append_tok (wr.alloc (.cells #[.int .i64 t.kind, .string t.s, .int .i64 0] 47)) rfl (.tmp 17) (.tmp 19) rfl w.heap.size u3 acc rfl hown2 (at0 t) (by rw [Hz.out]; rfl) (by omega) Hz2.out ?_; intro v' w4 hown4 hb5)
      go_roundw
      case rel => exact ⟨k + 1, by omega, by go_num, by rw [HM.out]; exact hown4, hb2.trans hb5⟩
      case measure => simp [intOf]; omega
    · obtain rfl : k = L.length := by omega
      have i1 : ¬ (L.length : Int) < (L.length : Int) := by omega
      have HT : Hid ((L.take L.length).map at0 = L.map at0) := by show _ = _; rw [List.take_of_length_le (Nat.le_refl _)]
      obtain ⟨q', cp, rfl, hk', hc1, hc2, _⟩ := hown.slice
      rw [hlm] at hc1
      rw [hlm]
      rw [HT.out] at hk'
      go_wp2
      go_ret
      exact ⟨⟨_, _, rfl, hk', hc1, hc2⟩, hb⟩
theorem bare_any (L : List Tk) (n : Nat) (q : Option Addr) (c : Nat) (w : World) (hv : TKL w q L) (hn : L.length = n) (h3 : n ≤ 300) :
    Calls Tryz.prog 17 #[.slice q n c] w fun e w' => BareRet L n e w' ∧ Below w.heap.size w w' := by
  refine (bare_c L n q c w hv hn h3).mono ?_
  rintro e w' ⟨⟨q', c', he, hk, _⟩, hb⟩
  exact ⟨⟨q', c', he, hk⟩, hb⟩
theorem wds_small : ∀ (n : Nat) (l : List UInt8) (acc : List Tk) (a : Nat) (xs : List Tk), l.length ≤ n → (∀ t ∈ acc, t.s.size ≤ 60) → wds l acc a = .ok xs → ∀ t ∈ xs, t.s.size ≤ 60
  | _, [], acc, a, xs, _, ha, h => by rw [wds_nil] at h; cases h; exact ha
  | 0, c :: r, _, _, _, hn, _, _ => by simp at hn
  | n + 1, c :: r, acc, a, xs, hn, ha, h => by
    simp only [List.length_cons] at hn
    by_cases hb : (c.toNat == 32) = true
    · rw [wds_blank hb] at h
      exact wds_small n r acc (a + 1) xs (by omega) ha h
    · have hb' : (c.toNat == 32) = false := by simpa using hb
      cases hw : word1 (c :: r) with
      | error e => rw [wds_bad hb' hw] at h; cases h
      | ok x =>
        by_cases hf : 300 ≤ acc.length
        · rw [wds_full hb' hw hf] at h; cases h
        · rw [wds_word hb' hw hf] at h
          obtain ⟨k, t, m⟩ := x
          refine wds_small n _ _ _ xs (by simp; omega) (fun y hy => ?_) h
          rcases List.mem_append.1 hy with hy | hy
          · exact ha y hy
          · simp at hy
            subst hy
            exact word1_small hw
theorem read_small {l : List UInt8} {us : List Tk} (h : readL l = .ok us) : ∀ t ∈ us, t.s.size ≤ 60 := by
  unfold readL at h
  split at h
  · cases h
  · exact wds_small _ l [] 0 us (Nat.le_refl _) (by simp) h
theorem read_many {l : List UInt8} {us : List Tk} (h : readL l = .ok us) : us.length ≤ 300 := (read_spell h).1
theorem spell_many {ts : List Tk} {l : List UInt8} (h : spellL ts = .ok l) : ts.length ≤ 300 := by
  unfold spellL at h
  split at h
  · cases h
  · omega
theorem map_len {us ts : List Tk} (h : us.map at0 = ts.map at0) : us.length = ts.length := by
  have := congrArg List.length h
  simpa using this
end Go.Proofs.YtdoeinjilnhijaaGreatDoor
namespace Go.Proofs.YtdoeinjilnhijaaGreatDoor
open Go.RowKit
set_option linter.unusedVariables false

theorem below_drawn {B : Nat} {a w : World} (h : Below B a w) (n : Nat) : Below B a (w.drewN n) := ⟨h.os, h.tape, h.output, h.size, h.block⟩

set_option maxHeartbeats 1000000 in
theorem sameTok_any (L : List Tk) (p q : Option Addr) (c1 c2 : Nat) (w : World) (ha : TKL w p L) (hb : TKL w q L) (hl : L.length ≤ maxLen) :
    Calls Tryz.prog 8 #[.slice p L.length c1, .slice q L.length c2] w fun e w' => e = .returned (.bool true) ∧ Below w.heap.size w w' := by
  unfold maxLen at hl
  have i0 : ((L.length : Int) != (L.length : Int)) = false := by simp
  go_enter Tryz.func8, Tryz.ntmps8
  go_wp2
  go_loopw [5] (fun i wr => ∃ k n : Nat, k ≤ L.length ∧ i = .int .i64 k ∧ wr = w.drewN n) (fun i _ => L.length - (intOf i).toNat)
  case atStart => exact ⟨0, 0, Nat.zero_le _, rfl, rfl⟩
  case round =>
    obtain ⟨k, n, hk, rfl, rfl⟩ := hrel
    by_cases hlt : k < L.length
    · obtain ⟨b1, o1, rfl, hb1, x0, x1, x2⟩ := ha.at hlt
      obtain ⟨b2, o2, rfl, hb2, y0, y1, y2⟩ := hb.at hlt
      have i1 : (k : Int) < (L.length : Int) := by omega
      generalize L[k] = x at *
      go_wp2
      go_quiet (fail)
      go_wp2
      go_roundw
      case rel => exact ⟨k + 1, _, by omega, by go_num, rfl⟩
      case measure => simp [intOf]; omega
    · have i1 : ¬ (k : Int) < (L.length : Int) := by omega
      go_wp2
      go_ret
      exact ⟨rfl, below_drawn (Below.refl _ _) _⟩

theorem fact_read : readL [97, 32, 61, 61, 32, 53] = .ok [mkT 1 [97] 0, mkT 5 [61, 61] 2, mkT 2 [53] 5] := by
  unfold readL
  rw [if_neg (by decide), wds_word (by decide) (x := (1, [97], 1)) rfl (by decide)]
  simp only [List.nil_append, List.drop_zero, Nat.sub_self, Nat.zero_add]
  rw [wds_blank (by decide), wds_word (by decide) (x := (5, [61, 61], 2)) rfl (by simp)]
  simp only [Nat.add_one_sub_one, List.drop_succ_cons, List.drop_zero]
  rw [wds_blank (by decide), wds_word (by decide) (x := (2, [53], 1)) rfl (by simp)]
  simp only [Nat.sub_self, List.drop_zero]
  rw [wds_nil]
  rfl
end Go.Proofs.YtdoeinjilnhijaaGreatDoor
namespace Go.Proofs.YtdoeinjilnhijaaGreatDoor
open Go.RowKit
set_option linter.unusedVariables false

theorem sameTok_n (L : List Tk) (n : Nat) (hn : L.length = n) (p q : Option Addr) (c1 c2 : Nat) (w : World) (ha : TKL w p L) (hb : TKL w q L) (hl : n ≤ 300) :
    Calls Tryz.prog 8 #[.slice p n c1, .slice q n c2] w fun e w' => e = .returned (.bool true) ∧ Below w.heap.size w w' := by
  subst hn
  exact sameTok_any L p q c1 c2 w ha hb (by unfold maxLen; omega)
end Go.Proofs.YtdoeinjilnhijaaGreatDoor
