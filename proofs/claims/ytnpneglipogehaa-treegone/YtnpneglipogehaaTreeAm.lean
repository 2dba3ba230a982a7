/- The statements' among: is a text one of them? -/
import Derived.Test.YtnpneglipogehaaTreeW
namespace Go.Proofs.Ytnpneglipogehaa
open Go.RowKit
set_option linter.unusedVariables false

/-- Is it one of them? -/
def amg (s : ByteArray) (l : List ByteArray) : Bool := l.any fun t => decide (t = s)
theorem amg_iff {s : ByteArray} {l : List ByteArray} : amg s l = true ↔ s ∈ l := by
  unfold amg
  rw [List.any_eq_true]
  exact ⟨fun ⟨t, ht, e⟩ => by rw [decide_eq_true_iff] at e; rw [← e]; exact ht, fun h => ⟨s, h, decide_eq_true rfl⟩⟩
theorem amg_not {s : ByteArray} {l : List ByteArray} (h : s ∉ l) : amg s l = false := by
  cases e : amg s l with
  | false => rfl
  | true => exact absurd (amg_iff.1 e) h
theorem not_take {s : ByteArray} {l : List ByteArray} {k : Nat} (h : k < l.length) (h1 : s ∉ l.take k) (h2 : l[k] ≠ s) : s ∉ l.take (k + 1) := by
  rw [List.take_succ_eq_append_getElem h, List.mem_append, List.mem_singleton]
  rintro (h3 | h3)
  · exact h1 h3
  · exact h2 h3.symm
theorem among_any (s : ByteArray) (l : List ByteArray) (p : Option Addr) (c : Nat) (w : World) (hl : TL w p l) (hn : l.length ≤ maxLen) :
    Calls Try.prog 13 #[.string s, .slice p l.length c] w fun e w' => e = .returned (.bool (amg s l)) ∧ w' = w := by
  unfold maxLen at hn
  go_enter Try.func13, Try.ntmps13
  go_wp2
  go_loop [5] (fun i => ∃ k : Nat, k ≤ l.length ∧ i = .int .i64 k ∧ Hid (s ∉ l.take k)) (fun i => l.length - (intOf i).toNat)
  case atStart => exact ⟨0, Nat.zero_le _, rfl, fun h => by simp at h⟩
  case round =>
    obtain ⟨k, hk, rfl, HD⟩ := hrel
    by_cases hlt : k < l.length
    · obtain ⟨b1, o1, rfl, hb1, x0⟩ := hl.at hlt
      have i1 : (k : Int) < (l.length : Int) := by omega
      have HM : Hid (l[k] ∈ l) := List.getElem_mem _
      have HN : Hid (l[k] ≠ s → s ∉ l.take (k + 1)) := not_take hlt HD.out
      generalize l[k] = x at *
      by_cases h1 : x = s
      · subst h1
        clear HN
        go_wp2
        go_ret
        exact ⟨by rw [amg_iff.2 HM.out]; rfl, rfl⟩
      · have h1' : ¬ x.toList = s.toList := fun h => h1 (bytes_inj (by simpa only [ByteArray.toList_eq] using h))
        have h1'' : (x.toList == s.toList) = false := by simpa using h1'
        have HN2 : Hid (s ∉ l.take (k + 1)) := HN.out h1
        clear HN h1 HM h1'
        go_wp2
        go_round
        case rel => exact ⟨k + 1, by omega, by go_num, HN2⟩
        case measure => simp [intOf]; omega
    · have i1 : ¬ (k : Int) < (l.length : Int) := by omega
      have HS : Hid (s ∉ l) := by
        have := HD.out
        rw [List.take_of_length_le (by omega)] at this
        exact this
      clear HD
      go_wp2
      go_ret
      exact ⟨by rw [amg_not HS.out]; rfl, rfl⟩
end Go.Proofs.Ytnpneglipogehaa
