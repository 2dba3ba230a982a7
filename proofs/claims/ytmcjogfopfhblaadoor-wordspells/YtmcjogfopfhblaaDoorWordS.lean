/- Package word's small functions: need (what is wrong is thrown), the sets of bytes, run at a set that only answers; by walks of their own texts. -/
import Derived.Test.YtmcjogfopfhblaaDoorWordL
import Derived.Test.YtmcjogfopfhblaaDoorName
import Derived.Test.YtmcjogfopfhblaaDoorQuote
import Derived.Shelf.Abstract
namespace Go.Proofs.YtmcjogfopfhblaaDoor
open Go.RowKit
set_option linter.unusedVariables false

/-- What is thrown. -/
def thrownW (n : Int) : List PanicEntry := [{ v := .iface 51 (.agg #[.iface 27 (.int .i64 n)]), recovered := false }]
theorem wneed_true (v : Value) (w : World) : Calls Tryd.prog 23 #[.bool true, v] w fun e w' => e = .returned (.tuple #[]) ∧ w' = w := by
  go_enter Tryd.func23, Tryd.ntmps23
  go_wp2
  go_end0
  exact ⟨rfl, rfl⟩
theorem wneed_false (n : Int) (w : World) : Calls Tryd.prog 23 #[.bool false, .iface 27 (.int .i64 n)] w fun e w' => e = .panicked (thrownW n) ∧ w' = w := by
  go_enter Tryd.func23, Tryd.ntmps23
  go_wp2
  exact ⟨rfl, rfl, rfl⟩

theorem wLetter_any (c : UInt8) (w : World) :
    Calls Tryd.prog 34 #[.int .u8 (c.toNat : Int)] w fun e w' => e = .returned (.bool (letb c)) ∧ w' = w := by
  go_enter Tryd.func34, Tryd.ntmps34
  go_wp2
  all_goals
    go_ret
    refine ⟨ret_bool ?_, rfl⟩
    rw [Bool.eq_iff_iff]
    simp [letb]
    omega
theorem wDigit_any (c : UInt8) (w : World) :
    Calls Tryd.prog 36 #[.int .u8 (c.toNat : Int)] w fun e w' => e = .returned (.bool (digb c)) ∧ w' = w := by
  go_enter Tryd.func36, Tryd.ntmps36
  go_wp2
  all_goals
    go_ret
    refine ⟨ret_bool ?_, rfl⟩
    rw [Bool.eq_iff_iff]
    simp [digb]
    omega
theorem wBlank_any (c : UInt8) (w : World) :
    Calls Tryd.prog 21 #[.int .u8 (c.toNat : Int)] w fun e w' => e = .returned (.bool (blankb c)) ∧ w' = w := by
  go_enter Tryd.func21, Tryd.ntmps21
  go_wp2
  go_ret
  refine ⟨ret_bool ?_, rfl⟩
  rw [Bool.eq_iff_iff]
  simp [blankb]
  omega
theorem wNameByte_any (c : UInt8) (w : World) :
    Calls Tryd.prog 48 #[.int .u8 (c.toNat : Int)] w fun e w' => e = .returned (.bool (namb c)) ∧ w' = w := by
  cases hl : letb c <;> cases hd : digb c
  all_goals
    have HN : Hid (namb c = (letb c || digb c)) := rfl
    rw [hl, hd] at HN
    go_enter Tryd.func48, Tryd.ntmps48
    go_wp2_with (first | (go_at_call 34; refine (wLetter_any _ _).mono ?_; rintro e w' ⟨rfl, rfl⟩) | (go_at_call 36; refine (wDigit_any _ _).mono ?_; rintro e w' ⟨rfl, rfl⟩))
    go_ret
    exact ⟨ret_bool HN.out.symm, rfl⟩
theorem wTextByte_any (c : UInt8) (w : World) :
    Calls Tryd.prog 53 #[.int .u8 (c.toNat : Int)] w fun e w' => e = .returned (.bool (okb c)) ∧ w' = w := by
  by_cases h : (32 : Int) ≤ (c.toNat : Int)
  · go_enter Tryd.func53, Tryd.ntmps53
    go_wp2
    go_ret
    refine ⟨?_, rfl⟩
    have h' : 32 ≤ c.toNat := by omega
    simp [okb, h']; omega
  · go_enter Tryd.func53, Tryd.ntmps53
    go_wp2
    go_ret
    refine ⟨?_, rfl⟩
    have h' : ¬ 32 ≤ c.toNat := by omega
    simp [okb, h']
theorem wGuarded_any (c : UInt8) (w : World) :
    Calls Tryd.prog 54 #[.int .u8 (c.toNat : Int)] w fun e w' => e = .returned (.bool (grd c)) ∧ w' = w := by
  go_enter Tryd.func54, Tryd.ntmps54
  go_wp2
  all_goals
    go_ret
    refine ⟨?_, rfl⟩
  · have h : (c.toNat : Int) = 34 := by assumption
    have h' : c.toNat = 34 := by omega
    simp [grd, h']
  · have h : ¬ (c.toNat : Int) = 34 := by assumption
    have h' : (c.toNat == 34) = false := by simp; omega
    have e : ((c.toNat : Int) == 92) = (c.toNat == 92) := by rw [Bool.eq_iff_iff]; simp; omega
    have e2 : ((c.toNat : Int) == 34) = false := by simp; omega
    have e3 : ((c.toNat : Int) == 34 || (c.toNat : Int) == 92) = grd c := by unfold grd; rw [h', e2, e]
    exact congrArg (fun b => Ending.returned (.bool b)) e3

theorem run_step {p : UInt8 → Bool} (s : ByteArray) (k : Nat) (h : k < s.size) (hp : (s.data.toList.take k).all p = true) (hb : p s[k] = false) : runL p s.data.toList = k := by
  have hl : s.data.toList.length = s.size := by simp
  have e : s.data.toList = s.data.toList.take k ++ s[k] :: s.data.toList.drop (k + 1) := by
    conv => lhs; rw [← List.take_append_drop k s.data.toList]
    congr 1
    rw [List.drop_eq_getElem_cons (by omega)]; rfl
  unfold runL
  rw [e, List.takeWhile_append_of_pos (fun a ha => List.all_eq_true.1 hp a ha), List.takeWhile_cons, if_neg (by rw [hb]; decide)]
  simp; omega
theorem run_all {p : UInt8 → Bool} (s : ByteArray) (hp : s.data.toList.all p = true) : runL p s.data.toList = s.size := by
  unfold runL; rw [takeWhile_id _ _ hp]; simp
theorem all_next {p : UInt8 → Bool} (s : ByteArray) (k : Nat) (h : k < s.size) (hp : (s.data.toList.take k).all p = true) (hb : p s[k] = true) : (s.data.toList.take (k + 1)).all p = true := by
  rw [take_snoc s k h, List.all_append, hp]; simp [hb]

/-- run at a function that answers p of every byte and changes nothing. -/
theorem run_any (s : ByteArray) (g : Nat) (p : UInt8 → Bool) (w : World) (hs : s.size ≤ maxLen) (eg : ∀ args w, (callFunc g args).run Tryd.prog w = .ok (.enter g args) w)
    (hp : ∀ (c : UInt8) (w : World), Calls Tryd.prog g #[.int .u8 (c.toNat : Int)] w fun e w' => e = .returned (.bool (p c)) ∧ w' = w) :
    Calls Tryd.prog 20 #[.string s, .func (.func g) #[] #[]] w fun e w' => e = .returned (.int .i64 (runL p s.data.toList)) ∧ w' = w := by
  unfold maxLen at hs
  have HP : Hid (∀ (c : UInt8) (w : World), Calls Tryd.prog g #[.int .u8 (c.toNat : Int)] w fun e w' => e = .returned (.bool (p c)) ∧ w' = w) := hp
  clear hp
  go_enter Tryd.func20, Tryd.ntmps20
  go_wp2
  go_loop [8] (fun i => ∃ k : Nat, k ≤ s.size ∧ i = .int .i64 k ∧ Hid ((s.data.toList.take k).all p = true)) (fun i => s.size - (intOf i).toNat)
  case atStart => exact ⟨0, Nat.zero_le _, rfl, rfl⟩
  case round =>
    obtain ⟨k, hk, rfl, HA⟩ := hrel
    by_cases hlt : k < s.size
    · have i1 : (k : Int) < (s.size : Int) := by omega
      have H1 := fun w => HP.out s[k] w
      cases hb : p s[k]
      · rw [hb] at H1
        have HF : Hid (_ = _) := run_step s k hlt HA.out hb
        go_wp2_with (go_at_fn g; refine (H1 _).mono ?_; rintro e w1 ⟨rfl, rfl⟩)
        go_ret
        exact ⟨by rw [HF.out]; rfl, rfl⟩
      · rw [hb] at H1
        have HF : Hid (_ = _) := all_next s k hlt HA.out hb
        go_wp2_with (go_at_fn g; refine (H1 _).mono ?_; rintro e w1 ⟨rfl, rfl⟩)
        go_round
        case rel => exact ⟨k + 1, by omega, by go_num, HF⟩
        case measure => simp [intOf]; omega
    · obtain rfl : k = s.size := by omega
      have i1 : ¬ (s.size : Int) < (s.size : Int) := by omega
      have HF : Hid (_ = _) := run_all (p := p) s (by have := HA.out; rw [take_all s] at this; exact this)
      go_wp2
      go_ret
      exact ⟨by rw [HF.out]; rfl, rfl⟩
theorem runBlank_any (s : ByteArray) (w : World) (hs : s.size ≤ maxLen) :
    Calls Tryd.prog 20 #[.string s, .func (.func 21) #[] #[]] w fun e w' => e = .returned (.int .i64 (runL blankb s.data.toList)) ∧ w' = w :=
  run_any s _ blankb w hs (enters_of Tryd.func21 (by kernel_rfl) rfl) wBlank_any
theorem runDigit_any (s : ByteArray) (w : World) (hs : s.size ≤ maxLen) :
    Calls Tryd.prog 20 #[.string s, .func (.func 36) #[] #[]] w fun e w' => e = .returned (.int .i64 (runL digb s.data.toList)) ∧ w' = w :=
  run_any s _ digb w hs (enters_of Tryd.func36 (by kernel_rfl) rfl) wDigit_any
theorem runName_any (s : ByteArray) (w : World) (hs : s.size ≤ maxLen) :
    Calls Tryd.prog 20 #[.string s, .func (.func 48) #[] #[]] w fun e w' => e = .returned (.int .i64 (runL namb s.data.toList)) ∧ w' = w :=
  run_any s _ namb w hs (enters_of Tryd.func48 (by kernel_rfl) rfl) wNameByte_any
end Go.Proofs.YtmcjogfopfhblaaDoor
