/- What strings.Cut at two colons, strings.Clone, name.Write and name.Read return: each by its contract or by a walk of its own text. -/
import Derived.Test.YthjeeppnijehoaaDoorChecked
import Derived.Test.YthjeeppnijehoaaDoorShelf
import Derived.Test.YthjeeppnijehoaaDoorUidL
import Derived.Test.YthjeeppnijehoaaDoorName
import Derived.Test.YthjeeppnijehoaaDoorStrip
namespace Go.Proofs.YthjeeppnijehoaaDoor
open Go.RowKit
set_option linter.unusedVariables false
set_option linter.unusedSimpArgs false

/-- The library's variable MaxLen holds some number. -/
def MaxVar (w : World) : Prop := ∃ m : Int, w.cell? ⟨1, 0, none⟩ = some (.int .i64 m)
theorem maxVar_below {B : Nat} {w w' : World} (h : MaxVar w) (hb : Below B w w') (hB : w.heap.size ≤ B) : MaxVar w' := by
  obtain ⟨m, h⟩ := h
  have hlt : 1 < w.heap.size := by
    rcases Nat.lt_or_ge 1 w.heap.size with h' | h'
    · exact h'
    · simp [World.cell?, Array.getElem?_eq_none h'] at h
  exact ⟨m, by rw [hb.cell (p := ⟨1, 0, none⟩) (by show 1 < B; omega)]; exact h⟩
theorem maxVar_alloc {w : World} (h : MaxVar w) (o : Obj) : MaxVar (w.alloc o) := maxVar_below h ((Below.refl w.heap.size w).alloc (Nat.le_refl _) o) (Nat.le_refl _)

theorem maxVar_shaped {w : World} (h : w.ShapedOpen Tryd.prog) : MaxVar w :=
  cell_of_shapedOpen_int (zero := #[.int .i64 0]) (t := 3) h (of_decide_eq_true (by kernel_rfl)) (by kernel_rfl) rfl (by kernel_rfl) (by kernel_rfl) Tryd.underlying3

theorem cut_any (s : ByteArray) (w : World) (hs : s.size < 4294967281) (hm : MaxVar w) :
    Calls Tryd.prog 25 #[.string s, .string ⟨#[58, 58]⟩] w fun e w' => e = .returned (.tuple #[.string ⟨(Lib.cut s.data.toList [58, 58]).1.toArray⟩, .string ⟨(Lib.cut s.data.toList [58, 58]).2.1.toArray⟩, .bool (Lib.cut s.data.toList [58, 58]).2.2]) ∧ ∃ n, w' = w.drewN n := by
  obtain ⟨m, h⟩ := hm
  exact Any.strings_Cut Tryd.lays145 s ⟨#[58, 58]⟩ m w hs h
theorem clone_any (s : ByteArray) (w : World) (hs : s.size ≤ 281474976710656) :
    Calls Tryd.prog 26 #[.string s] w fun e w' => e = .returned (.string s) ∧ Below w.heap.size w w' := by
  go_enter Tryd.func26, Tryd.ntmps26
  go_wp2_with fail
  refine (Any.stringslite_Clone Tryd.laysM316 s _ hs).mono ?_
  rintro e w1 ⟨rfl, hb⟩
  go_wp2_with fail
  go_ret
  exact ⟨rfl, hb⟩

theorem below_draws' {B : Nat} {a w : World} (h : Below B a w) (n : Nat) : Below B a (w.drewN n) := ⟨h.os, h.tape, h.output, h.size, h.block⟩
theorem ret_pr {a b : ByteArray} (v : Value) (h : a = b) : Ending.returned (.tuple #[.string a, v]) = .returned (.tuple #[.string b, v]) := by rw [h]
theorem cat_lists (a b : ByteArray) : (a ++ b).data.toList = a.data.toList ++ b.data.toList := by simp
theorem ba_from {a b : ByteArray} (h : a.data.toList = b.data.toList) : a = b := by
  have := ba_of (s := b) h
  rw [← this]

set_option maxHeartbeats 1000000 in
theorem write_good (t i : ByteArray) (w : World) (ht : nfault t.data.toList = 0) (hi : textOk i.data.toList = true) :
    Calls Tryd.prog 14 #[.agg #[.string t, .string i]] w fun e w' => e = .returned (.tuple #[.string ⟨(wrt t.data.toList i.data.toList).toArray⟩, .nilIface]) ∧ Below w.heap.size w w' := by
  have htl : t.size ≤ 20 := by have := (nfault_zero ht).2; simpa using this
  have htm : t.size ≤ maxLen := by unfold maxLen; omega
  have hqz := quoted_size i.data.toList (textOk_parts hi).1
  have hqs : (⟨(quoted i.data.toList).toArray⟩ : ByteArray).size ≤ 122 := hqz
  have HE : Hid (eV (nfault t.data.toList) = .nilIface) := eV_nil ht
  go_enter Tryd.func14, Tryd.ntmps14
  go_wp2_with fail
  refine (check_any t _ htm).mono ?_
  rintro e w1 ⟨rfl, rfl⟩
  rw [HE.out]
  go_wp2_with fail
  refine (quote_good i _ hi).mono ?_
  rintro e w2 ⟨rfl, hb2⟩
  have hc2 : ∀ o, w2.cell? ⟨w.heap.size, o, none⟩ = _ := fun o => hb2.cell (p := ⟨w.heap.size, o, none⟩) (by simp)
  go_wp2_with fail
  go_ret2
  refine ⟨ret_pr _ (ba_from ?_), ((Below.refl _ _).alloc (Nat.le_refl _) _).trans (hb2.mono (by simp))⟩
  rw [cat_lists, cat_lists]
  simp [wrt]

/-- The number of Write's error. -/
def werr (t i : List UInt8) : Int := if nfault t = 0 then qerr i else nfault t
theorem qerr_ne (l : List UInt8) : qerr l ≠ 0 := by unfold qerr; split <;> decide
theorem werr_ne {t i : List UInt8} : werr t i ≠ 0 := by
  unfold werr; split
  · exact qerr_ne i
  · assumption

set_option maxHeartbeats 1000000 in
theorem write_err (t i : ByteArray) (w : World) (htm : t.size ≤ maxLen) (him : i.size ≤ maxLen) (h : uidOk t.data.toList i.data.toList = false) :
    Calls Tryd.prog 14 #[.agg #[.string t, .string i]] w fun e w' => e = .returned (.tuple #[.string ⟨#[]⟩, .iface 26 (.int .i64 (werr t.data.toList i.data.toList))]) ∧ Below w.heap.size w w' := by
  by_cases ht : nfault t.data.toList = 0
  · have hi : textOk i.data.toList = false := by unfold uidOk at h; rw [ht] at h; simpa using h
    have HE : Hid (eV (nfault t.data.toList) = .nilIface) := eV_nil ht
    have HW : Hid (werr t.data.toList i.data.toList = qerr i.data.toList) := if_pos ht
    clear ht
    go_enter Tryd.func14, Tryd.ntmps14
    go_wp2_with fail
    refine (check_any t _ htm).mono ?_
    rintro e w1 ⟨rfl, rfl⟩
    rw [HE.out]
    go_wp2_with fail
    refine (quote_err i _ him hi).mono ?_
    rintro e w2 ⟨rfl, hb2⟩
    go_wp2_with fail
    go_ret2
    exact ⟨by rw [HW.out]; rfl, ((Below.refl _ _).alloc (Nat.le_refl _) _).trans (hb2.mono (by simp))⟩
  · have HE : Hid (eV (nfault t.data.toList) = .iface 26 (.int .i64 (nfault t.data.toList))) := eV_not ht
    have HW : Hid (werr t.data.toList i.data.toList = nfault t.data.toList) := if_neg ht
    clear ht
    go_enter Tryd.func14, Tryd.ntmps14
    go_wp2_with fail
    refine (check_any t _ htm).mono ?_
    rintro e w1 ⟨rfl, rfl⟩
    rw [HE.out]
    go_wp2_with fail
    go_ret2
    exact ⟨by rw [HW.out]; rfl, (Below.refl _ _).alloc (Nat.le_refl _) _⟩

theorem uidOk_parts {t i : List UInt8} (h : uidOk t i = true) : nfault t = 0 ∧ textOk i = true := by
  unfold uidOk at h
  rw [Bool.and_eq_true, beq_iff_eq] at h
  exact h
theorem wrt_size {t i : List UInt8} (h : uidOk t i = true) : (wrt t i).length ≤ 200 := by
  obtain ⟨h1, h2⟩ := uidOk_parts h
  have a := (nfault_zero h1).2
  have b := quoted_size i (textOk_parts h2).1
  unfold wrt
  rw [List.length_append, List.length_cons, List.length_cons]; omega

set_option maxHeartbeats 1000000 in
theorem read_yes (t i : List UInt8) (w : World) (hm : MaxVar w) (h : uidOk t i = true) :
    Calls Tryd.prog 17 #[.string ⟨(wrt t i).toArray⟩] w fun e w' => e = .returned (.tuple #[.agg #[.string ⟨t.toArray⟩, .string ⟨i.toArray⟩], .nilIface]) ∧ Below w.heap.size w w' := by
  obtain ⟨ht, hi⟩ := uidOk_parts h
  have hz := wrt_size h
  have htl := (nfault_zero ht).2
  have HE : Hid (eV (nfault (⟨t.toArray⟩ : ByteArray).data.toList) = .nilIface) := eV_nil ht
  have HC : Hid (Lib.cut (wrt t i) [58, 58] = (t, quoted i, true)) := cut_wrt t (quoted i) (name_no ht)
  have Hm : Hid (MaxVar _) := maxVar_alloc hm (.cells #[.string ⟨#[]⟩, .string ⟨#[]⟩] 35)
  clear hm h ht
  go_enter Tryd.func17, Tryd.ntmps17
  go_wp2_with fail
  refine (cut_any ⟨(wrt t i).toArray⟩ _ (by show (wrt t i).length < _; omega) Hm.out).mono ?_
  rintro e w1 ⟨rfl, n1, rfl⟩
  rw [show Lib.cut (⟨(wrt t i).toArray⟩ : ByteArray).data.toList [58, 58] = (t, quoted i, true) from HC.out]
  go_wp2_with fail
  refine (check_any ⟨t.toArray⟩ _ (by show t.length ≤ maxLen; unfold maxLen; omega)).mono ?_
  rintro e w2 ⟨rfl, rfl⟩
  rw [HE.out]
  go_wp2_with fail
  refine (unquote_yes i _ hi).mono ?_
  rintro e w3 ⟨rfl, hb3⟩
  go_wp2_with fail
  refine (clone_any ⟨t.toArray⟩ _ (by show t.length ≤ _; omega)).mono ?_
  rintro e w4 ⟨rfl, hb4'⟩
  have hb4 := btw hb3 hb4'
  have hc0 : w4.cell? ⟨w.heap.size, 0, none⟩ = some (.string ⟨#[]⟩) := (hb4.cell (p := ⟨w.heap.size, 0, none⟩) (by simp)).trans (by simp)
  have hc1 : w4.cell? ⟨w.heap.size, 1, none⟩ = some (.string ⟨#[]⟩) := (hb4.cell (p := ⟨w.heap.size, 1, none⟩) (by simp)).trans (by simp)
  have hf0 : w4.frozen? ⟨w.heap.size, 0, none⟩ = false := (hb4.frozen (p := ⟨w.heap.size, 0, none⟩) (by simp)).trans (by simp)
  have hf1 : w4.frozen? ⟨w.heap.size, 1, none⟩ = false := (hb4.frozen (p := ⟨w.heap.size, 1, none⟩) (by simp)).trans (by simp)
  have hz4 : w.heap.size < w4.heap.size := by have := hb4.size; simp at this; omega
  have hw : Below w.heap.size w w4 := (below_draws' ((Below.refl _ _).alloc (Nat.le_refl _) _) n1).trans (hb4.mono (by simp))
  go_wp2_with fail
  refine bodyPost_ret (v := .tuple #[.agg #[.string ⟨t.toArray⟩, .string ⟨i.toArray⟩], .nilIface]) (by simp [results, Tryd.results17, go_sem, hc0, hc1, hz4]) rfl ⟨rfl, ?_⟩
  exact (hw.setCell (Nat.le_refl _) _).setCell (Nat.le_refl _) _

/-- What is read as no uid. -/
theorem read_ways (s : List UInt8) (h : ∀ t i, uidOk t i = true → wrt t i ≠ s) (hf : (Lib.cut s [58, 58]).2.2 = true) (hn : nfault (Lib.cut s [58, 58]).1 = 0) : ∀ t, textOk t = true → quoted t ≠ (Lib.cut s [58, 58]).2.1 := by
  intro t ht e
  refine h (Lib.cut s [58, 58]).1 t ?_ ?_
  · unfold uidOk; rw [hn, ht]; rfl
  · unfold wrt; rw [e]; exact (cut_found hf).symm
theorem cut_sizes (s : List UInt8) : (Lib.cut s [58, 58]).1.length ≤ s.length ∧ (Lib.cut s [58, 58]).2.1.length ≤ s.length := by
  unfold Lib.cut
  split
  · exact ⟨List.length_take_le' _ _, by simp⟩
  · exact ⟨Nat.le_refl _, by simp⟩

set_option maxHeartbeats 1000000 in
theorem read_no (s : ByteArray) (w : World) (hm : MaxVar w) (hs : s.size < 4294967281) (h : ∀ t i, uidOk t i = true → wrt t i ≠ s.data.toList) :
    Calls Tryd.prog 17 #[.string s] w fun e w' => e = .returned (.tuple #[.agg #[.string ⟨#[]⟩, .string ⟨#[]⟩], .iface 26 (.int .i64 1)]) ∧ Below w.heap.size w w' := by
  have Hm : Hid (MaxVar _) := maxVar_alloc hm (.cells #[.string ⟨#[]⟩, .string ⟨#[]⟩] 35)
  have hsz := cut_sizes s.data.toList
  have hl : s.data.toList.length = s.size := by simp
  have hw := read_ways s.data.toList h
  generalize gk : (Lib.cut s.data.toList [58, 58]).1 = k at hsz hw
  generalize gq : (Lib.cut s.data.toList [58, 58]).2.1 = q at hsz hw
  generalize gf : (Lib.cut s.data.toList [58, 58]).2.2 = f at hw
  have Gk : Hid (_ = _) := gk
  have Gq : Hid (_ = _) := gq
  have Gf : Hid (_ = _) := gf
  have HW : Hid (f = true → _) := hw
  clear hm h gk gq gf hw
  cases f
  · go_enter Tryd.func17, Tryd.ntmps17
    go_wp2_with fail
    refine (cut_any s _ hs Hm.out).mono ?_
    rintro e w1 ⟨rfl, n1, rfl⟩
    rw [Gk.out, Gq.out, Gf.out]
    go_wp2_with fail
    refine bodyPost_ret (v := .tuple #[.agg #[.string ⟨#[]⟩, .string ⟨#[]⟩], .iface 26 (.int .i64 1)]) (by simp [results, Tryd.results17, go_sem]) rfl ⟨rfl, ?_⟩
    exact ((below_draws' ((Below.refl _ _).alloc (Nat.le_refl _) _) n1).setCell (Nat.le_refl _) _).setCell (Nat.le_refl _) _
  · by_cases hn : nfault k = 0
    · have HE : Hid (eV (nfault (⟨k.toArray⟩ : ByteArray).data.toList) = .nilIface) := eV_nil hn
      have HN : Hid (∀ _, _) := HW.out rfl hn
      clear hn HW
      go_enter Tryd.func17, Tryd.ntmps17
      go_wp2_with fail
      refine (cut_any s _ hs Hm.out).mono ?_
      rintro e w1 ⟨rfl, n1, rfl⟩
      rw [Gk.out, Gq.out, Gf.out]
      go_wp2_with fail
      refine (check_any ⟨k.toArray⟩ _ (by show k.length ≤ maxLen; unfold maxLen; omega)).mono ?_
      rintro e w2 ⟨rfl, rfl⟩
      rw [HE.out]
      go_wp2_with fail
      refine (unquote_no ⟨q.toArray⟩ _ (by show q.length ≤ _; omega) HN.out).mono ?_
      rintro e w3 ⟨rfl, hb3⟩
      have hc0 : w3.cell? ⟨w.heap.size, 0, none⟩ = some (.string ⟨#[]⟩) := (hb3.cell (p := ⟨w.heap.size, 0, none⟩) (by simp)).trans (by simp)
      have hc1 : w3.cell? ⟨w.heap.size, 1, none⟩ = some (.string ⟨#[]⟩) := (hb3.cell (p := ⟨w.heap.size, 1, none⟩) (by simp)).trans (by simp)
      have hf0 : w3.frozen? ⟨w.heap.size, 0, none⟩ = false := (hb3.frozen (p := ⟨w.heap.size, 0, none⟩) (by simp)).trans (by simp)
      have hf1 : w3.frozen? ⟨w.heap.size, 1, none⟩ = false := (hb3.frozen (p := ⟨w.heap.size, 1, none⟩) (by simp)).trans (by simp)
      have hz3 : w.heap.size < w3.heap.size := by have := hb3.size; simp at this; omega
      have hw : Below w.heap.size w w3 := (below_draws' ((Below.refl _ _).alloc (Nat.le_refl _) _) n1).trans (hb3.mono (by simp))
      go_wp2_with fail
      refine bodyPost_ret (v := .tuple #[.agg #[.string ⟨#[]⟩, .string ⟨#[]⟩], .iface 26 (.int .i64 1)]) (by simp [results, Tryd.results17, go_sem, hc0, hc1, hz3]) rfl ⟨rfl, ?_⟩
      exact (hw.setCell (Nat.le_refl _) _).setCell (Nat.le_refl _) _
    · have HE : Hid (eV (nfault (⟨k.toArray⟩ : ByteArray).data.toList) = .iface 26 (.int .i64 (nfault k))) := eV_not hn
      clear hn HW
      go_enter Tryd.func17, Tryd.ntmps17
      go_wp2_with fail
      refine (cut_any s _ hs Hm.out).mono ?_
      rintro e w1 ⟨rfl, n1, rfl⟩
      rw [Gk.out, Gq.out, Gf.out]
      go_wp2_with fail
      refine (check_any ⟨k.toArray⟩ _ (by show k.length ≤ maxLen; unfold maxLen; omega)).mono ?_
      rintro e w2 ⟨rfl, rfl⟩
      rw [HE.out]
      go_wp2_with fail
      refine bodyPost_ret (v := .tuple #[.agg #[.string ⟨#[]⟩, .string ⟨#[]⟩], .iface 26 (.int .i64 1)]) (by simp [results, Tryd.results17, go_sem]) rfl ⟨rfl, ?_⟩
      exact ((below_draws' ((Below.refl _ _).alloc (Nat.le_refl _) _) n1).setCell (Nat.le_refl _) _).setCell (Nat.le_refl _) _

/-- It is a written uid, or none. -/
theorem is_written (l : List UInt8) : (∃ t i, uidOk t i = true ∧ wrt t i = l) ∨ ∀ t i, uidOk t i = true → wrt t i ≠ l := by
  by_cases h : ∃ t i, uidOk t i = true ∧ wrt t i = l
  · exact .inl h
  · exact .inr fun t i h1 h2 => h ⟨t, i, h1, h2⟩
theorem wrt_inj {t i u j : List UInt8} (h1 : uidOk t i = true) (h2 : uidOk u j = true) (h : wrt t i = wrt u j) : t = u ∧ i = j := by
  have a := cut_wrt t (quoted i) (name_no (uidOk_parts h1).1)
  have b := cut_wrt u (quoted j) (name_no (uidOk_parts h2).1)
  unfold wrt at h
  rw [h, b] at a
  simp only [Prod.mk.injEq] at a
  exact ⟨a.1.symm, (quoted_inj a.2.1).symm⟩
end Go.Proofs.YthjeeppnijehoaaDoor
