/- The document's Word and Words (package wicketgateref2): any line. -/
import Derived.Test.YtmcjogfopfhblaaDoorWdRefS
namespace Go.Proofs.YtmcjogfopfhblaaDoor
open Go.RowKit
set_option linter.unusedVariables false

theorem let_63 {c : UInt8} (h : letb c = true) : (c.toNat == 63) = false := by
  have := let_not h
  simp only [Bool.or_eq_false_iff] at this
  exact this.2
theorem qm_34 {c : UInt8} (h : (c.toNat == 63) = true) : (c.toNat == 34) = false := by simp at h ⊢; omega
theorem refWord_any (s : ByteArray) (k : Nat) (w : World) (hk : k < s.size) (hs : s.size ≤ 140737488351232) :
    Calls Tryd.prog 15 #[.string s, .int .i64 k] w fun e w' => e = .returned (refW k (word1 (s.data.toList.drop k))) ∧ Below w.heap.size w w' := by
  have hD := drop_at s k hk
  have hD1 : s.data.toList.drop (k + 1) = (s.data.toList.drop k).drop 1 := by rw [List.drop_drop]
  rw [hD, word1_cons]
  cases h1 : letb s[k]
  · rw [if_neg (by decide)]
    cases h2 : digb s[k]
    · rw [if_neg (by decide)]
      cases h3 : (s[k].toNat == 34)
      · rw [if_neg (by decide)]
        cases h4 : (s[k].toNat == 63)
        · rw [if_neg (by decide), ← hD]
          exact refWord_sign s k w hk hs h2 h1 h4 h3
        · rw [if_pos rfl]
          exact refWord_slot s k w hk hs h2 h1 h4
      · rw [if_pos rfl]
        have h4 : (s[k].toNat == 63) = false := by
          cases e : (s[k].toNat == 63) with
          | false => rfl
          | true => rw [qm_34 e] at h3; cases h3
        exact refWord_quo s k w hk hs h2 h1 h4 h3
    · rw [if_pos rfl, ← hD]
      exact refWord_num s k w hk hs h2
  · rw [if_pos rfl, ← hD]
    have h2 : digb s[k] = false := by
      cases e : digb s[k] with
      | false => rfl
      | true => rw [dig_let e] at h1; cases h1
    exact refWord_name s k w hk hs h2 h1 (let_63 h1)

theorem nf_ne {l : List UInt8} (h : nfault l ≠ 0) : (nfault l == 0) = false := by simpa using h
theorem word1_err {l : List UInt8} {n : Int} (h : word1 l = .error n) : (n == 0) = false := by
  cases l with
  | nil => injection h with h; subst h; rfl
  | cons c r =>
    rw [word1_cons] at h
    split at h
    · unfold wName at h
      split at h
      · cases h
      · rename_i h1; injection h with h; subst h; exact nf_ne h1
    · split at h
      · unfold wNum at h
        split at h
        · injection h with h; subst h; rfl
        · cases h
      · split at h
        · unfold wQuo at h
          cases e : qsc false r with
          | none => rw [e] at h; injection h with h; subst h; rfl
          | some y =>
            rw [e] at h
            simp only at h
            split at h
            · injection h with h; subst h; rfl
            · cases h
        · split at h
          · unfold wName at h
            split at h
            · cases h
            · rename_i h1; injection h with h; subst h; exact nf_ne h1
          · unfold wSign at h
            split at h
            · cases h
            · split at h
              · cases h
              · injection h with h; subst h; rfl

/-- What Words comes to: the words, or what is wrong and where. -/
def WordsPost (N : Nat) (R : Except (Int × Nat) (List Tk)) (e : Ending) (w' : World) : Prop :=
  match R with
  | .ok ts => ∃ q c, e = .returned (.tuple #[.slice q ts.length c, .int .i64 0, .int .i64 0]) ∧ TKL w' q ts ∧ ts.length ≤ c ∧ c ≤ maxLen ∧ ∀ a, q = some a → N ≤ a.block
  | .error x => e = .returned (.tuple #[.slice none 0 0, .int .i64 x.2, .int .i64 x.1])

set_option maxRecDepth 100000 in
set_option maxHeartbeats 2000000 in
theorem words_any (s : ByteArray) (w : World) (hs : s.size ≤ maxLen) :
    Calls Tryd.prog 8 #[.string s] w fun e w' => WordsPost w.heap.size (readL s.data.toList) e w' ∧ Below w.heap.size w w' := by
  have hl : s.data.toList.length = s.size := by simp
  unfold maxLen at hs
  by_cases h9 : 900 < s.size
  · have HF : Hid (readL s.data.toList = .error (4, 0)) := if_pos (by omega)
    have h' : (900 : Int) < (s.size : Int) := by omega
    go_enter Tryd.func8, Tryd.ntmps8
    go_wp2
    go_ret3
    exact ⟨by rw [HF.out]; rfl, Below.refl _ _⟩
  · have h' : ¬ (900 : Int) < (s.size : Int) := by omega
    have HF : readL s.data.toList = wds s.data.toList [] 0 := if_neg (by omega)
    rw [HF]
    generalize hR : wds s.data.toList [] 0 = R
    have HR : Hid (wds (s.data.toList.drop 0) [] 0 = R) := by rw [List.drop_zero]; exact hR
    clear hR HF
    go_enter Tryd.func8, Tryd.ntmps8
    go_wp2
    go_loopw [5, 6] (fun v i wr => ∃ (k : Nat) (acc : List Tk), k ≤ s.size ∧ i = .int .i64 k ∧ OT wr w.heap.size v acc ∧ Hid (acc.length ≤ 300) ∧ Below w.heap.size w wr ∧ Hid (wds (s.data.toList.drop k) acc k = R)) (fun _ i _ => s.size - (intOf i).toNat)
    case atStart => exact ⟨0, [], Nat.zero_le _, rfl, OT.nil _ _, Nat.zero_le _, Below.refl _ _, HR⟩
    case round =>
      clear HR
      obtain ⟨k, acc, hk, rfl, hown, HA, hb, HR⟩ := hrel
      have hal : acc.length ≤ 300 := HA.out
      by_cases hlt : k < s.size
      · have i1 : (k : Int) < (s.size : Int) := by omega
        have hD := drop_at s k hlt
        cases h32 : (s[k].toNat == 32)
        · have n32 : ((s[k].toNat : Int) == 32) = false := by simp at h32 ⊢; omega
          have H1 := fun w => refWord_any s k w hlt (by omega)
          cases hw : word1 (s.data.toList.drop k) with
          | error n =>
            rw [hw] at H1
            unfold refW at H1
            simp only [] at H1
            have hn0 : (n == 0) = false := word1_err hw
            have hn1 : (n != 0) = true := by simpa using hn0
            have HN : Hid (R = .error (n, k)) := by
              have := HR.out
              rw [hD] at hw
              rw [hD, wds_bad h32 hw] at this
              exact this.symm
            clear hw hD HR h32
            go_wp2_with fail
            refine (H1 _).mono ?_
            rintro e w2 ⟨rfl, hb2⟩
            have hb3 := hb.trans (hb2.mono hb.size)
            have hb4 := hb3.alloc hb3.size (.cells #[.int .i64 0, .string ⟨#[]⟩, .int .i64 0] 36)
            go_wp2
            go_ret3
            exact ⟨by rw [HN.out]; rfl, hb4⟩
          | ok x =>
            obtain ⟨kd, t, n⟩ := x
            rw [hw] at H1
            unfold refW at H1
            simp only [] at H1
            obtain ⟨n1, n2⟩ := word1_size hw
            rw [List.length_drop, hl] at n2
            simp only at n1 n2
            by_cases hf : 300 ≤ acc.length
            · have HN : Hid (R = .error (4, k)) := by
                have := HR.out
                rw [hD] at hw
                rw [hD, wds_full h32 hw hf] at this
                exact this.symm
              have i2 : (300 : Int) ≤ (acc.length : Int) := by omega
              clear hw hD HR h32
              obtain ⟨q, cp, rfl, _⟩ := hown.slice
              go_wp2_with fail
              refine (H1 _).mono ?_
              rintro e w2 ⟨rfl, hb2⟩
              have hb3 := hb.trans (hb2.mono hb.size)
              have hb4 := hb3.alloc hb3.size (.cells #[.int .i64 kd, .string ⟨t.toArray⟩, .int .i64 k] 36)
              go_wp2
              go_ret3
              exact ⟨by rw [HN.out]; rfl, hb4⟩
            · have HN : Hid (wds (s.data.toList.drop (k + n)) (acc ++ [mkT kd t k]) (k + n) = R) := by
                have := HR.out
                rw [hD] at hw
                rw [hD, wds_word h32 hw hf] at this
                simp only at this
                rw [List.drop_drop, show k + 1 + (n - 1) = k + n by omega] at this
                exact this
              have i2 : ¬ (300 : Int) ≤ (acc.length : Int) := by omega
              have HA2 : Hid ((acc ++ [mkT kd t k]).length ≤ 300) := by show _ ≤ _; simp; omega
              clear hw hD HR h32
              obtain ⟨q, cp, rfl, _⟩ := hown.slice
              go_wp2_with fail
              refine (H1 _).mono ?_
              rintro e w2 ⟨rfl, hb2⟩
              have hb3 := hb.trans (hb2.mono hb.size)
              have hb4 := hb3.alloc hb3.size (.cells #[.int .i64 kd, .string ⟨t.toArray⟩, .int .i64 k] 36)
              have hown2 := (hown.below hb2).below ((Below.refl _ _).alloc (Nat.le_refl _) (.cells #[.int .i64 kd, .string ⟨t.toArray⟩, .int .i64 k] 36))
              have Hz : Hid ((w2.alloc (.cells #[.int .i64 kd, .string ⟨t.toArray⟩, .int .i64 k] 36)).heap.size = w2.heap.size + 1) := by show _ = _; simp
              have Hz2 : Hid _ := hb4.size
              go_wp2_with (at_builtin; refine append_tok (w2.alloc (.cells #[.int .i64 kd, .string ⟨t.toArray⟩, .int .i64 k] 36)) rfl (.tmp 41) (.tmp 43) rfl w.heap.size (.slice q acc.length cp) acc rfl hown2 (mkT kd t k) (by rw [Hz.out]; rfl) (by omega) Hz2.out ?_; intro v' w4 hown4 hb5)
              go_roundw
              case rel => exact ⟨k + n, _, by omega, by go_num, hown4, HA2, hb4.trans hb5, HN⟩
              case measure => simp [intOf]; omega
        · have n32 : ((s[k].toNat : Int) == 32) = true := by simp at h32 ⊢; omega
          have HN : Hid (wds (s.data.toList.drop (k + 1)) acc (k + 1) = R) := by
            have := HR.out
            rw [hD, wds_blank h32] at this
            exact this
          clear hD HR h32
          go_wp2
          go_roundw
          case rel => exact ⟨k + 1, acc, by omega, by go_num, hown, HA, hb, HN⟩
          case measure => simp [intOf]; omega
      · obtain rfl : k = s.size := by omega
        have i1 : ¬ (s.size : Int) < (s.size : Int) := by omega
        have HN : Hid (R = .ok acc) := by
          have := HR.out
          rw [List.drop_of_length_le (by simp), wds_nil] at this
          exact this.symm
        obtain ⟨q, cp, rfl, hrest⟩ := hown.slice
        go_wp2
        go_ret3
        exact ⟨by rw [HN.out]; exact ⟨_, _, rfl, hrest⟩, hb⟩
end Go.Proofs.YtmcjogfopfhblaaDoor
