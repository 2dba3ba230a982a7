/- What the statements on expressions call of their own: name, num, among; package wicketgatesame's Texts; by walks of their own texts. -/
import Derived.Test.YtnpneglipogehaaGreatDoorTreeN
import Derived.Test.YtnpneglipogehaaGreatDoorNdOrd
import Derived.Test.YtnpneglipogehaaGreatDoorEV
import Derived.Test.YtnpneglipogehaaGreatDoorTexts
namespace Go.Proofs.YtnpneglipogehaaGreatDoor
open Go.RowKit
set_option linter.unusedVariables false

def nmN (s : ByteArray) : Nd := ⟨8, 0, s, ⟨#[]⟩⟩
theorem name_fn (s : ByteArray) (w : World) :
    Calls Tryz.prog 5 #[.string s] w fun e w' => e = .returned (.agg #[.int .i64 8, .int .i64 0, .string s, .string ⟨#[]⟩]) ∧ Below w.heap.size w w' := by
  go_enter Tryz.func5, Tryz.ntmps5
  go_wp2
  refine bodyPost_ret (v := .agg #[.int .i64 8, .int .i64 0, .string s, .string ⟨#[]⟩]) (by simp [results, Tryz.results5, go_sem]) rfl ⟨rfl, ?_⟩
  exact (Below.refl _ _).alloc (Nat.le_refl _) _

theorem texts_take {a b : List ByteArray} {k : Nat} (ha : k < a.length) (hb : k < b.length) (h : a.take k = b.take k) (e : a[k] = b[k]) : a.take (k + 1) = b.take (k + 1) := by
  rw [List.take_succ_eq_append_getElem ha, List.take_succ_eq_append_getElem hb, h, e]
set_option maxHeartbeats 1000000 in
theorem sameTexts_any (a b : List ByteArray) (p q : Option Addr) (c1 c2 : Nat) (w : World) (ha : TL w p a) (hb : TL w q b) (la : a.length ≤ maxLen) (lb : b.length ≤ maxLen) :
    Calls Tryz.prog 11 #[.slice p a.length c1, .slice q b.length c2] w fun e w' => e = .returned (.bool (decide (a = b))) ∧ ∃ n, w' = w.drewN n := by
  unfold maxLen at la lb
  by_cases hl : a.length = b.length
  · have i0 : ((a.length : Int) != (b.length : Int)) = false := by simp [hl]
    go_enter Tryz.func11, Tryz.ntmps11
    go_wp2
    go_loopw [5] (fun i wr => ∃ k n : Nat, k ≤ a.length ∧ i = .int .i64 k ∧ wr = w.drewN n ∧ Hid (a.take k = b.take k)) (fun i _ => a.length - (intOf i).toNat)
    case atStart => exact ⟨0, 0, Nat.zero_le _, rfl, rfl, rfl⟩
    case round =>
      obtain ⟨k, n, hk, rfl, rfl, HD⟩ := hrel
      by_cases hlt : k < a.length
      · have hlt2 : k < b.length := by omega
        obtain ⟨b1, o1, rfl, hb1, x0⟩ := ha.at hlt
        obtain ⟨b2, o2, rfl, hb2, y0⟩ := hb.at hlt2
        have i1 : (k : Int) < (a.length : Int) := by omega
        have i2 : (k : Int) < (b.length : Int) := by omega
        have HE : Hid (a[k] = b[k] → a.take (k + 1) = b.take (k + 1)) := texts_take hlt hlt2 HD.out
        have HF : Hid (a[k] ≠ b[k] → a ≠ b) := fun h1 h2 => h1 (by subst h2; rfl)
        generalize a[k] = x at *
        generalize b[k] = y at *
        by_cases h1 : x = y
        · subst h1
          have HE2 : Hid (a.take (k + 1) = b.take (k + 1)) := HE.out rfl
          clear HE HF
          go_wp2
          go_quiet (fail)
          go_wp2
          go_roundw
          case rel => exact ⟨k + 1, _, by omega, by go_num, rfl, HE2⟩
          case measure => simp [intOf]; omega
        · have h1' : ¬ x.toList = y.toList := fun h => h1 (bytes_inj (by simpa only [ByteArray.toList_eq] using h))
          have h1'' : (x.toList == y.toList) = false := by simpa using h1'
          have HF2 : Hid (a ≠ b) := HF.out h1
          clear HE HF h1 h1'
          go_wp2
          go_quiet (fail)
          go_wp2
          go_ret
          exact ⟨by rw [decide_eq_false HF2.out]; rfl, _, by rw [World.drewN_drewN]⟩
      · have i1 : ¬ (k : Int) < (a.length : Int) := by omega
        have HS : Hid (a = b) := by
          have := HD.out
          rw [List.take_of_length_le (by omega), List.take_of_length_le (by omega)] at this
          exact this
        go_wp2
        go_ret
        exact ⟨by rw [decide_eq_true HS.out]; rfl, _, rfl⟩
  · have i0 : ((a.length : Int) != (b.length : Int)) = true := by simp; omega
    have HS : Hid (a ≠ b) := fun h => hl (by rw [h])
    go_enter Tryz.func11, Tryz.ntmps11
    go_wp2
    go_ret
    exact ⟨by rw [decide_eq_false HS.out]; rfl, 0, rfl⟩
end Go.Proofs.YtnpneglipogehaaGreatDoor
