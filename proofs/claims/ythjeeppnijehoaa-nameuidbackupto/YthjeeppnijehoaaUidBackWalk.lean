/- NameUidBack: the walk of the statement's own function. -/
import Derived.Test.YthjeeppnijehoaaUidWalk
namespace Go.Proofs.Ythjeeppnijehoaa
open Go.RowKit
set_option linter.unusedVariables false
set_option linter.unusedSimpArgs false

theorem fact_uid : (⟨#[85, 115, 101, 114, 58, 58, 34, 97, 34]⟩ : ByteArray) = ⟨(wrt [85, 115, 101, 114] [97]).toArray⟩ := by decide
theorem user_ok : uidOk [85, 115, 101, 114] [97] = true := by decide
theorem maxVar_bt {W w1 : World} (h : MaxVar W) (hb : Below W.heap.size W w1) : MaxVar w1 := maxVar_below h hb (Nat.le_refl _)
theorem boxed {w w' : World} {c : Array Value} {t : TypeId} (hb : Below (w.alloc (.cells c t)).heap.size (w.alloc (.cells c t)) w') (o : Nat) : w'.cell? ⟨w.heap.size, o, none⟩ = c[o]? := by
  rw [hb.cell (p := ⟨w.heap.size, o, none⟩) (by simp)]; simp
theorem boxlt {w w' : World} {o : Obj} (hb : Below (w.alloc o).heap.size (w.alloc o) w') : w.heap.size < w'.heap.size := by
  have := hb.size
  simp at this
  omega
theorem unbox {w w' : World} {o : Obj} (hb : Below (w.alloc o).heap.size (w.alloc o) w') : Below w.heap.size w w' :=
  ((Below.refl _ _).alloc (Nat.le_refl _) _).trans (hb.mono (by simp))

set_option maxHeartbeats 4000000 in
theorem uidBack_walk (a b s : ByteArray) (w : World) (hm : MaxVar w) (ha : a.size ≤ maxLen) (hb : b.size ≤ maxLen) (hs : s.size < 4294967281) :
    Calls Try.prog 4 #[.agg #[.string a, .string b], .string s] w fun e w' => e = .returned (.bool true) ∧ Below w.heap.size w w' := by
  have Hm : Hid (MaxVar _) := maxVar_alloc hm (.cells #[.string a, .string b] 28)
  clear hm
  rcases is_written s.data.toList with ⟨t, i, hti, hq⟩ | hno
  · have HS : Hid (_ = _) := ba_of hq
    clear hq
    cases hA : uidOk a.data.toList b.data.toList
    · go_enter Try.func4, Try.ntmps4
      go_wp2_with fail
      rw [fact_uid]
      refine (read_yes [85, 115, 101, 114] [97] _ Hm.out user_ok).mono ?_
      rintro e w1 ⟨rfl, hb1⟩
      have hc1 := boxed hb1
      have hz1 := boxlt hb1
      go_wp2_with fail
      refine (write_err a b _ ha hb hA).mono ?_
      rintro e w2 ⟨rfl, hb2'⟩
      have hb2 := btw (hb1.alloc hb1.size _) hb2'
      clear hb1 hb2' hc1 hz1
      have Hm2 : Hid (MaxVar w2) := maxVar_bt Hm.out hb2
      go_wp2_with fail
      rw [← HS.out]
      refine (read_yes t i _ Hm2.out hti).mono ?_
      rintro e w3 ⟨rfl, hb3'⟩
      have hb3 := btw hb2 hb3'
      clear hb2 hb3' Hm2
      go_wp2_with fail
      refine (write_good ⟨t.toArray⟩ ⟨i.toArray⟩ _ (uidOk_parts hti).1 (uidOk_parts hti).2).mono ?_
      rintro e w4 ⟨rfl, hb4'⟩
      have hb4 := btw (hb3.alloc hb3.size _) hb4'
      go_wp2_with fail
      go_ret
      exact ⟨rfl, unbox hb4⟩
    · go_enter Try.func4, Try.ntmps4
      go_wp2_with fail
      rw [fact_uid]
      refine (read_yes [85, 115, 101, 114] [97] _ Hm.out user_ok).mono ?_
      rintro e w1 ⟨rfl, hb1⟩
      have hc1 := boxed hb1
      have hz1 := boxlt hb1
      go_wp2_with fail
      refine (write_good a b _ (uidOk_parts hA).1 (uidOk_parts hA).2).mono ?_
      rintro e wq ⟨rfl, hbq'⟩
      have hbq := btw (hb1.alloc hb1.size _) hbq'
      clear hb1 hbq' hc1 hz1
      have Hmq : Hid (MaxVar wq) := maxVar_bt Hm.out hbq
      go_wp2_with fail
      refine (read_yes a.data.toList b.data.toList _ Hmq.out hA).mono ?_
      rintro e wr ⟨rfl, hbr'⟩
      have hbr := btw hbq hbr'
      clear hbq hbr' Hmq
      have hcr := boxed hbr
      have hzr := boxlt hbr
      rw [ba_eta a, ba_eta b]
      go_wp2_with fail
      have hb2 := hbr.alloc hbr.size (.cells #[.string a, .string b] 28)
      have Hm2 : Hid (MaxVar _) := maxVar_bt Hm.out hb2
      clear hbr hcr hzr
      rw [← HS.out]
      refine (read_yes t i _ Hm2.out hti).mono ?_
      rintro e w3 ⟨rfl, hb3'⟩
      have hb3 := btw hb2 hb3'
      clear hb2 hb3' Hm2
      go_wp2_with fail
      refine (write_good ⟨t.toArray⟩ ⟨i.toArray⟩ _ (uidOk_parts hti).1 (uidOk_parts hti).2).mono ?_
      rintro e w4 ⟨rfl, hb4'⟩
      have hb4 := btw (hb3.alloc hb3.size _) hb4'
      go_wp2_with fail
      go_ret
      exact ⟨rfl, unbox hb4⟩
  · have HN : Hid (∀ _ _, _) := hno
    clear hno
    cases hA : uidOk a.data.toList b.data.toList
    · go_enter Try.func4, Try.ntmps4
      go_wp2_with fail
      rw [fact_uid]
      refine (read_yes [85, 115, 101, 114] [97] _ Hm.out user_ok).mono ?_
      rintro e w1 ⟨rfl, hb1⟩
      have hc1 := boxed hb1
      have hz1 := boxlt hb1
      go_wp2_with fail
      refine (write_err a b _ ha hb hA).mono ?_
      rintro e w2 ⟨rfl, hb2'⟩
      have hb2 := btw (hb1.alloc hb1.size _) hb2'
      clear hb1 hb2' hc1 hz1
      have Hm2 : Hid (MaxVar w2) := maxVar_bt Hm.out hb2
      go_wp2_with fail
      refine (read_no s _ Hm2.out hs HN.out).mono ?_
      rintro e w3 ⟨rfl, hb3'⟩
      have hb3 := btw hb2 hb3'
      clear hb2 hb3' Hm2
      go_wp2_with fail
      go_ret
      exact ⟨rfl, unbox (hb3.alloc hb3.size _)⟩
    · go_enter Try.func4, Try.ntmps4
      go_wp2_with fail
      rw [fact_uid]
      refine (read_yes [85, 115, 101, 114] [97] _ Hm.out user_ok).mono ?_
      rintro e w1 ⟨rfl, hb1⟩
      have hc1 := boxed hb1
      have hz1 := boxlt hb1
      go_wp2_with fail
      refine (write_good a b _ (uidOk_parts hA).1 (uidOk_parts hA).2).mono ?_
      rintro e wq ⟨rfl, hbq'⟩
      have hbq := btw (hb1.alloc hb1.size _) hbq'
      clear hb1 hbq' hc1 hz1
      have Hmq : Hid (MaxVar wq) := maxVar_bt Hm.out hbq
      go_wp2_with fail
      refine (read_yes a.data.toList b.data.toList _ Hmq.out hA).mono ?_
      rintro e wr ⟨rfl, hbr'⟩
      have hbr := btw hbq hbr'
      clear hbq hbr' Hmq
      have hcr := boxed hbr
      have hzr := boxlt hbr
      rw [ba_eta a, ba_eta b]
      go_wp2_with fail
      have hb2 := hbr.alloc hbr.size (.cells #[.string a, .string b] 28)
      have Hm2 : Hid (MaxVar _) := maxVar_bt Hm.out hb2
      clear hbr hcr hzr
      refine (read_no s _ Hm2.out hs HN.out).mono ?_
      rintro e w3 ⟨rfl, hb3'⟩
      have hb3 := btw hb2 hb3'
      clear hb2 hb3' Hm2
      go_wp2_with fail
      go_ret
      exact ⟨rfl, unbox (hb3.alloc hb3.size _)⟩
end Go.Proofs.Ythjeeppnijehoaa
