/- NameUids: the walk of the statement's own function. -/
import Derived.Test.YthjeeppnijehoaaDoorUidRef
import Derived.Test.YthjeeppnijehoaaDoorToldWalk
import Derived.Deep.QuietTactic
import Derived.BigQuiet
namespace Go.Proofs.YthjeeppnijehoaaDoor
open Go.RowKit
set_option linter.unusedVariables false
set_option linter.unusedSimpArgs false

theorem fact_w : wrt [85, 115, 101, 114] [97] = [85, 115, 101, 114, 58, 58, 34, 97, 34] := by decide
theorem user_is : uidOk [85, 115, 101, 114] [97] = true := by decide
theorem maxVar_ch {W w1 : World} (h : MaxVar W) (hb : Below W.heap.size W w1) : MaxVar w1 := maxVar_below h hb (Nat.le_refl _)
theorem errVar_ch {W w1 : World} (h : ErrVar W) (hb : Below W.heap.size W w1) : ErrVar w1 := errVar_below h hb (Nat.le_refl _)
theorem boxd {w w' : World} {c : Array Value} {t : TypeId} (hb : Below (w.alloc (.cells c t)).heap.size (w.alloc (.cells c t)) w') (o : Nat) : w'.cell? ⟨w.heap.size, o, none⟩ = c[o]? := by
  rw [hb.cell (p := ⟨w.heap.size, o, none⟩) (by simp)]; simp
theorem boxl {w w' : World} {o : Obj} (hb : Below (w.alloc o).heap.size (w.alloc o) w') : w.heap.size < w'.heap.size := by
  have := hb.size
  simp at this
  omega
theorem unbx {w w' : World} {o : Obj} (hb : Below (w.alloc o).heap.size (w.alloc o) w') : Below w.heap.size w w' :=
  ((Below.refl _ _).alloc (Nat.le_refl _) _).trans (hb.mono (by simp))
theorem want_is (a b : ByteArray) : (a ++ (⟨#[58, 58]⟩ : ByteArray) ++ (⟨(quoted b.data.toList).toArray⟩ : ByteArray)) = ⟨(wrt a.data.toList b.data.toList).toArray⟩ := by
  refine ba_ext ?_
  rw [cat_list, cat_list]
  simp [wrt]

set_option maxHeartbeats 4000000 in
theorem uids_walk (a b s : ByteArray) (w : World) (hg : ErrVar w) (hm : MaxVar w) (ha : a.size ≤ maxLen) (hb : b.size ≤ maxLen) (hs : s.size < 4294967281) :
    Calls Tryd.prog 5 #[.agg #[.string a, .string b], .string s] w fun e w' => e = .returned (.bool true) ∧ Below w.heap.size w w' := by
  have Hm : Hid (MaxVar _) := maxVar_alloc hm (.cells #[.string a, .string b] 35)
  have Hg : Hid (ErrVar _) := errVar_alloc hg (.cells #[.string a, .string b] 35)
  have hs47 : s.size ≤ 140737488351232 := by omega
  clear hm hg
  rcases is_written s.data.toList with ⟨t, i, hti, hq⟩ | hno
  · have HS : Hid (_ = _) := ba_of hq
    clear hq
    cases hA : uidOk a.data.toList b.data.toList
    · have hu0 : (werr a.data.toList b.data.toList == 0) = false := by simpa using werr_ne
      have HU : Hid (ufault a.data.toList b.data.toList = werr a.data.toList b.data.toList) := ufault_werr hA
      go_enter Tryd.func5, Tryd.ntmps5
      go_wp2_with fail
      refine (write_good ⟨#[85, 115, 101, 114]⟩ ⟨#[97]⟩ _ (by decide) (by decide)).mono ?_
      rintro e w1 ⟨rfl, hb1⟩
      rw [show wrt (⟨#[85, 115, 101, 114]⟩ : ByteArray).data.toList (⟨#[97]⟩ : ByteArray).data.toList = [85, 115, 101, 114, 58, 58, 34, 97, 34] from fact_w]
      have hc1 := boxd hb1
      go_wp2_with fail
      refine (uidFault_any a b _ ha hb).mono ?_
      rintro e w2 ⟨rfl, hb2'⟩
      have hb2 := btw hb1 hb2'
      have hc2 := boxd hb2
      clear hb1 hb2' hc1
      rw [HU.out]
      go_wp2_with fail
      refine (write_err a b _ ha hb hA).mono ?_
      rintro e w3 ⟨rfl, hb3'⟩
      have hb3 := btw hb2 hb3'
      clear hb2 hb3' hc2
      have Hg3 : Hid (ErrVar w3) := errVar_ch Hg.out hb3
      go_wp2_with fail
      refine (same_errno _ _ _ Hg3.out).mono ?_
      rintro e w4 ⟨rfl, hb4'⟩
      have hb4 := btw hb3 hb4'
      clear hb3 hb4' Hg3
      rw [beq_self_eq_true]
      go_wp2_with fail
      rw [← HS.out]
      refine (uidOf_yes t i _ hti).mono ?_
      rintro e w5 ⟨rfl, hb5'⟩
      have hb5 := btw hb4 hb5'
      clear hb4 hb5'
      have hb5a := hb5.alloc hb5.size (.cells #[.string ⟨t.toArray⟩, .string ⟨i.toArray⟩] 35)
      have Hm5 : Hid (MaxVar _) := maxVar_ch Hm.out hb5a
      go_wp2_with fail
      refine (read_yes t i _ Hm5.out hti).mono ?_
      rintro e w6 ⟨rfl, hb6'⟩
      have hb6 := btw hb5a hb6'
      have hc6 := boxd hb6'
      have hz6 := boxl hb6'
      clear hb5 hb5a hb6' Hm5
      go_wp2_with fail
      refine (same_nil _ _).mono ?_
      rintro e w7 ⟨rfl, rfl⟩
      go_wp2_with fail
      go_ret
      exact ⟨rfl, unbx (hb6.alloc hb6.size _)⟩
    · have HU : Hid (ufault a.data.toList b.data.toList = 0) := ufault_ok hA
      have ha20 : a.size ≤ 20 := by have := (nfault_zero (uidOk_parts hA).1).2; simpa using this
      have hb60 : b.size ≤ 60 := by rw [size_list]; exact (textOk_parts (uidOk_parts hA).2).1
      have hqz := quoted_size b.data.toList (textOk_parts (uidOk_parts hA).2).1
      have hqs : (⟨(quoted b.data.toList).toArray⟩ : ByteArray).size ≤ 122 := hqz
      go_enter Tryd.func5, Tryd.ntmps5
      go_wp2_with fail
      refine (write_good ⟨#[85, 115, 101, 114]⟩ ⟨#[97]⟩ _ (by decide) (by decide)).mono ?_
      rintro e w1 ⟨rfl, hb1⟩
      rw [show wrt (⟨#[85, 115, 101, 114]⟩ : ByteArray).data.toList (⟨#[97]⟩ : ByteArray).data.toList = [85, 115, 101, 114, 58, 58, 34, 97, 34] from fact_w]
      have hc1 := boxd hb1
      go_wp2_with fail
      refine (uidFault_any a b _ ha hb).mono ?_
      rintro e w2 ⟨rfl, hb2'⟩
      have hb2 := btw hb1 hb2'
      have hc2 := boxd hb2
      clear hb1 hb2' hc1
      rw [HU.out]
      go_wp2_with fail
      go_quiet ((go_at_call 11; exact Calls.quiet_of_same (rQuoted_any b _ hb60)))
      go_wp2_with fail
      rw [want_is a b]
      refine (write_good a b _ (uidOk_parts hA).1 (uidOk_parts hA).2).mono ?_
      rintro e w3 ⟨rfl, hb3'⟩
      have hb4 := btw (below_draws' hb2 nq) hb3'
      clear hb2 hb3' hc2
      go_wp2_with fail
      refine (same_nil _ _).mono ?_
      rintro e w4 ⟨rfl, rfl⟩
      go_wp2_with fail
      rw [← HS.out]
      refine (uidOf_yes t i _ hti).mono ?_
      rintro e w5 ⟨rfl, hb5'⟩
      have hb5 := btw hb4 hb5'
      clear hb4 hb5'
      have hb5a := hb5.alloc hb5.size (.cells #[.string ⟨t.toArray⟩, .string ⟨i.toArray⟩] 35)
      have Hm5 : Hid (MaxVar _) := maxVar_ch Hm.out hb5a
      go_wp2_with fail
      refine (read_yes t i _ Hm5.out hti).mono ?_
      rintro e w6 ⟨rfl, hb6'⟩
      have hb6 := btw hb5a hb6'
      have hc6 := boxd hb6'
      have hz6 := boxl hb6'
      clear hb5 hb5a hb6' Hm5
      go_wp2_with fail
      refine (same_nil _ _).mono ?_
      rintro e w7 ⟨rfl, rfl⟩
      go_wp2_with fail
      go_ret
      exact ⟨rfl, unbx (hb6.alloc hb6.size _)⟩
  · have HN : Hid (∀ _ _, _) := hno
    clear hno
    cases hA : uidOk a.data.toList b.data.toList
    · have hu0 : (werr a.data.toList b.data.toList == 0) = false := by simpa using werr_ne
      have HU : Hid (ufault a.data.toList b.data.toList = werr a.data.toList b.data.toList) := ufault_werr hA
      go_enter Tryd.func5, Tryd.ntmps5
      go_wp2_with fail
      refine (write_good ⟨#[85, 115, 101, 114]⟩ ⟨#[97]⟩ _ (by decide) (by decide)).mono ?_
      rintro e w1 ⟨rfl, hb1⟩
      rw [show wrt (⟨#[85, 115, 101, 114]⟩ : ByteArray).data.toList (⟨#[97]⟩ : ByteArray).data.toList = [85, 115, 101, 114, 58, 58, 34, 97, 34] from fact_w]
      have hc1 := boxd hb1
      go_wp2_with fail
      refine (uidFault_any a b _ ha hb).mono ?_
      rintro e w2 ⟨rfl, hb2'⟩
      have hb2 := btw hb1 hb2'
      have hc2 := boxd hb2
      clear hb1 hb2' hc1
      rw [HU.out]
      go_wp2_with fail
      refine (write_err a b _ ha hb hA).mono ?_
      rintro e w3 ⟨rfl, hb3'⟩
      have hb3 := btw hb2 hb3'
      clear hb2 hb3' hc2
      have Hg3 : Hid (ErrVar w3) := errVar_ch Hg.out hb3
      go_wp2_with fail
      refine (same_errno _ _ _ Hg3.out).mono ?_
      rintro e w4 ⟨rfl, hb4'⟩
      have hb4 := btw hb3 hb4'
      clear hb3 hb4' Hg3
      rw [beq_self_eq_true]
      go_wp2_with fail
      refine (uidOf_no s _ hs47 HN.out).mono ?_
      rintro e w5 ⟨rfl, hb5'⟩
      have hb5 := btw hb4 hb5'
      clear hb4 hb5'
      have hb5a := hb5.alloc hb5.size (.cells #[.string ⟨#[]⟩, .string ⟨#[]⟩] 35)
      have Hm5 : Hid (MaxVar _) := maxVar_ch Hm.out hb5a
      go_wp2_with fail
      refine (read_no s _ Hm5.out hs HN.out).mono ?_
      rintro e w6 ⟨rfl, hb6'⟩
      have hb6 := btw hb5a hb6'
      have hc6 := boxd hb6'
      have hz6 := boxl hb6'
      clear hb5 hb5a hb6' Hm5
      have hb6a := hb6.alloc hb6.size (.cells #[.string ⟨#[]⟩, .string ⟨#[]⟩] 35)
      have Hg6 : Hid (ErrVar _) := errVar_ch Hg.out hb6a
      go_wp2_with fail
      refine (same_errno _ _ _ Hg6.out).mono ?_
      rintro e w7 ⟨rfl, hb7'⟩
      have hb7 := btw hb6a hb7'
      have hc7 := boxd hb7'
      have hz7 := boxl hb7'
      have hd7 : ∀ o, w7.cell? ⟨w5.heap.size, o, none⟩ = w6.cell? ⟨w5.heap.size, o, none⟩ := fun o => by
        rw [hb7'.cell (p := ⟨w5.heap.size, o, none⟩) (by simp; omega), World.cell?_alloc_lt _ _ ⟨w5.heap.size, o, none⟩ hz6]
      clear hb7'
      go_wp2_with fail
      go_ret
      exact ⟨rfl, unbx hb7⟩
    · have HU : Hid (ufault a.data.toList b.data.toList = 0) := ufault_ok hA
      have ha20 : a.size ≤ 20 := by have := (nfault_zero (uidOk_parts hA).1).2; simpa using this
      have hb60 : b.size ≤ 60 := by rw [size_list]; exact (textOk_parts (uidOk_parts hA).2).1
      have hqz := quoted_size b.data.toList (textOk_parts (uidOk_parts hA).2).1
      have hqs : (⟨(quoted b.data.toList).toArray⟩ : ByteArray).size ≤ 122 := hqz
      go_enter Tryd.func5, Tryd.ntmps5
      go_wp2_with fail
      refine (write_good ⟨#[85, 115, 101, 114]⟩ ⟨#[97]⟩ _ (by decide) (by decide)).mono ?_
      rintro e w1 ⟨rfl, hb1⟩
      rw [show wrt (⟨#[85, 115, 101, 114]⟩ : ByteArray).data.toList (⟨#[97]⟩ : ByteArray).data.toList = [85, 115, 101, 114, 58, 58, 34, 97, 34] from fact_w]
      have hc1 := boxd hb1
      go_wp2_with fail
      refine (uidFault_any a b _ ha hb).mono ?_
      rintro e w2 ⟨rfl, hb2'⟩
      have hb2 := btw hb1 hb2'
      have hc2 := boxd hb2
      clear hb1 hb2' hc1
      rw [HU.out]
      go_wp2_with fail
      go_quiet ((go_at_call 11; exact Calls.quiet_of_same (rQuoted_any b _ hb60)))
      go_wp2_with fail
      rw [want_is a b]
      refine (write_good a b _ (uidOk_parts hA).1 (uidOk_parts hA).2).mono ?_
      rintro e w3 ⟨rfl, hb3'⟩
      have hb4 := btw (below_draws' hb2 nq) hb3'
      clear hb2 hb3' hc2
      go_wp2_with fail
      refine (same_nil _ _).mono ?_
      rintro e w4 ⟨rfl, rfl⟩
      go_wp2_with fail
      refine (uidOf_no s _ hs47 HN.out).mono ?_
      rintro e w5 ⟨rfl, hb5'⟩
      have hb5 := btw hb4 hb5'
      clear hb4 hb5'
      have hb5a := hb5.alloc hb5.size (.cells #[.string ⟨#[]⟩, .string ⟨#[]⟩] 35)
      have Hm5 : Hid (MaxVar _) := maxVar_ch Hm.out hb5a
      go_wp2_with fail
      refine (read_no s _ Hm5.out hs HN.out).mono ?_
      rintro e w6 ⟨rfl, hb6'⟩
      have hb6 := btw hb5a hb6'
      have hc6 := boxd hb6'
      have hz6 := boxl hb6'
      clear hb5 hb5a hb6' Hm5
      have hb6a := hb6.alloc hb6.size (.cells #[.string ⟨#[]⟩, .string ⟨#[]⟩] 35)
      have Hg6 : Hid (ErrVar _) := errVar_ch Hg.out hb6a
      go_wp2_with fail
      refine (same_errno _ _ _ Hg6.out).mono ?_
      rintro e w7 ⟨rfl, hb7'⟩
      have hb7 := btw hb6a hb7'
      have hc7 := boxd hb7'
      have hz7 := boxl hb7'
      have hd7 : ∀ o, w7.cell? ⟨w5.heap.size, o, none⟩ = w6.cell? ⟨w5.heap.size, o, none⟩ := fun o => by
        rw [hb7'.cell (p := ⟨w5.heap.size, o, none⟩) (by simp; omega), World.cell?_alloc_lt _ _ ⟨w5.heap.size, o, none⟩ hz6]
      clear hb7'
      go_wp2_with fail
      go_ret
      exact ⟨rfl, unbx hb7⟩
end Go.Proofs.YthjeeppnijehoaaDoor
