/- Numbers as the library reads and writes them, plain. No program is named here. -/
import Derived.Test.YtdoeinjilnhijaaGreatDoorG7
import Derived.Lib.AtoiAll
namespace Go.Proofs.YtdoeinjilnhijaaGreatDoor
set_option linter.unusedVariables false

theorem parse_dv : ∀ (l : List UInt8) (acc : Nat), l.all digb = true → acc * 10 ^ l.length + dv l < 10 ^ 19 → Lib.parseUint10 acc l = .ok (acc * 10 ^ l.length + dv l)
  | [], acc, _, _ => by simp [Lib.parseUint10, dv]
  | c :: r, acc, h, hl => by
    simp only [List.all_cons, Bool.and_eq_true] at h
    obtain ⟨h1, h2⟩ := dig_rng h.1
    have e : acc * 10 ^ (c :: r).length + dv (c :: r) = (acc * 10 + (c.toNat - 48)) * 10 ^ r.length + dv r := by
      simp only [dv, List.length_cons, Nat.pow_succ, Nat.add_mul]
      rw [Nat.mul_assoc acc 10, Nat.mul_comm 10 (10 ^ r.length)]
      omega
    rw [e] at hl ⊢
    have hp : 0 < 10 ^ r.length := Nat.pow_pos (by decide)
    have hm : acc * 10 + (c.toNat - 48) ≤ (acc * 10 + (c.toNat - 48)) * 10 ^ r.length := Nat.le_mul_of_pos_right _ hp
    have h19 : (10 : Nat) ^ 19 = 10000000000000000000 := by decide
    rw [Lib.parseUint10, if_pos ⟨h1, h2⟩, if_neg (by omega), if_neg (by omega)]
    exact parse_dv r _ h.2 hl
theorem mag_dv {l : List UInt8} (h : l.all digb = true) (hl : l.length ≤ 19) (hne : l ≠ []) : Lib.parseMag l = .ok (dv l) := by
  unfold Lib.parseMag
  rw [if_neg hne, parse_dv l 0 h (by
    have := dv_lt l h
    have h2 : (10 : Nat) ^ l.length ≤ 10 ^ 19 := Nat.pow_le_pow_right (by decide) hl
    omega)]
  simp
/-- A number without its sign. -/
theorem atoi_plain {t : Tk} (h : t.l.all digb = true) (hl : t.l.length ≤ 19) (hne : t.l ≠ []) : Lib.atoiAll t.l = if great t false = true then .range else .ok (digV t.l) := by
  have hg := great_iff (b := false) h hl
  simp only [Bool.false_eq_true, if_false] at hg
  have hm := mag_dv h hl hne
  have hd := digV_dv h
  cases e : t.l with
  | nil => exact absurd e hne
  | cons c r =>
    have hc : 48 ≤ c.toNat ∧ c.toNat ≤ 57 := by
      rw [e] at h
      simp only [List.all_cons, Bool.and_eq_true] at h
      exact dig_rng h.1
    rw [e] at hm hd hg
    unfold Lib.atoiAll
    simp only
    rw [if_neg (by omega), hm]
    simp only
    rw [hd]
    have n1 : ¬ c.toNat = 45 := by omega
    by_cases hb : great t false = true
    · rw [if_pos hb, if_pos ⟨n1, by have := hg.1 hb; omega⟩]
    · rw [if_neg hb, if_neg (by
        rintro ⟨_, h9⟩
        exact hb (hg.2 (by omega))), if_neg (fun h => n1 h.1), if_neg n1]
/-- A number with a minus ahead. -/
theorem atoi_minus {t : Tk} (h : t.l.all digb = true) (hl : t.l.length ≤ 19) (hne : t.l ≠ []) : Lib.atoiAll (45 :: t.l) = if great t true = true then .range else .ok (- digV t.l) := by
  have hg := great_iff (b := true) h hl
  simp only [if_true] at hg
  have hm := mag_dv h hl hne
  have hd := digV_dv h
  have e45 : (45 : UInt8).toNat = 45 := by decide
  unfold Lib.atoiAll
  simp only [e45]
  rw [if_pos (by simp), hm]
  simp only
  rw [hd]
  by_cases hb : great t true = true
  · rw [if_pos hb, if_neg (by simp), if_pos ⟨trivial, hg.1 hb⟩]
  · rw [if_neg hb, if_neg (by simp), if_neg (fun h9 => hb (hg.2 h9.2))]
    simp
theorem num_range {t : Tk} {b : Bool} (h : t.l.all digb = true) (hl : t.l.length ≤ 19) (hg : great t b = false) : -9223372036854775808 ≤ (if b then - digV t.l else digV t.l) ∧ (if b then - digV t.l else digV t.l) ≤ 9223372036854775807 := by
  have h1 := great_iff (b := b) h hl
  rw [digV_dv h]
  have h2 : ¬ (if b then 9223372036854775808 else 9223372036854775807) < dv t.l := fun h9 => by rw [h1.2 h9] at hg; cases hg
  cases b
  · simp only [Bool.false_eq_true, if_false] at *
    omega
  · simp only [if_true] at *
    omega
end Go.Proofs.YtdoeinjilnhijaaGreatDoor
