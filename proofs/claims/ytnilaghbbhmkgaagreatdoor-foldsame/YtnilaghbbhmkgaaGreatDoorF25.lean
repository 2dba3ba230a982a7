/- What stands behind a value: package val's pastValue, pastSet, pastRec, by walks of their own texts; what is no value is thrown. Package val's below, size, items, and slices.Clone at nodes: what they return, by walks of their own texts. The set as nodes, and nodes in a row of the call's own. A value stays one with anything behind it; a row of values, each once and in order, makes a set that is a value, and falls into them again. No program is named here. A set that is a value is a strict row of values; what is asked of such rows, and made of them. No program is named here. Package val's Check: what is thrown is caught; what it tells of every list of nodes. Package val's Get: what it returns, by a walk of its own text. Names with their values, in the names' order, make a record that is a value, falls into its Fields, and tells by each name what came with it. No program is named here. The value of an expression, plain: a store, a request, what each operator makes of its parts' values. No program is named here. What an expression's value is, is a value, and its numbers are of 64 bits. No program is named here. Nodes appended to a row of the call's own. -/
import Derived.Test.YtnilaghbbhmkgaaGreatDoorF22
import Derived.Test.YtnilaghbbhmkgaaGreatDoorF5
import Derived.Deep.RegionWith
import Derived.Test.YtnilaghbbhmkgaaGreatDoorF3
import Derived.Lib.SliceRun
import Derived.Defers
import Derived.Recover
import Derived.Laws.Pointers
import Derived.Test.YtnilaghbbhmkgaaGreatDoorF7
import Derived.Test.YtnilaghbbhmkgaaGreatDoorF2
import Derived.Test.YtnilaghbbhmkgaaGreatDoorF4
namespace Go.Proofs.YtnilaghbbhmkgaaGreatDoor
open Go.RowKit
set_option linter.unusedVariables false

theorem NL.tail {w : World} {b off : Nat} {x : Nd} {r : List Nd} (h : NL w (some ⟨b, off, none⟩) (x :: r)) : NL w (some ⟨b, off + 4, none⟩) r := by
  rcases h with h | ⟨b', off', h1, h2, h3⟩
  · cases h
  · cases h1
    refine .inr ⟨_, _, rfl, h2, fun i y hy => ?_⟩
    have := h3 (i + 1) y (by simpa using hy)
    rw [show off + (i + 1) * 4 = off + 4 + i * 4 by omega] at this
    exact this

theorem NL.take {w : World} {p : Option Addr} {L : List Nd} (h : NL w p L) (n : Nat) : NL w p (L.take n) := by
  rcases h with rfl | ⟨b', off', h1, h2, h3⟩
  · exact .inl (by simp)
  · refine .inr ⟨_, _, h1, h2, fun i y hy => h3 i y ?_⟩
    rw [List.getElem?_take] at hy
    split at hy
    · exact hy
    · cases hy

theorem NL.head {w : World} {p : Option Addr} {x : Nd} {r : List Nd} (h : NL w p (x :: r)) : ∃ b off, p = some ⟨b, off, none⟩ ∧ b < w.heap.size ∧
    w.cell? ⟨b, off, none⟩ = some (.int .i64 x.op) ∧ w.cell? ⟨b, off + 1, none⟩ = some (.int .i64 x.n) ∧
    w.cell? ⟨b, off + 2, none⟩ = some (.string x.s) ∧ w.cell? ⟨b, off + 3, none⟩ = some (.string x.t) ∧ x.wf := by
  rcases h with h | ⟨b, off, h1, h2, h3⟩
  · cases h
  · exact ⟨b, off, h1, h2, by simpa using h3 0 x rfl⟩


/-- Where the slice of a list's tail begins, as Go slices it, and the slice. -/
def tailV (b off c n m : Nat) : Value := .slice (some ⟨b, off + 4 * min (n - m) (c - 1), none⟩) m (c - (n - m))

/-- How a walk past a value ends: with the slice of what stands behind it, or by a throw. -/
def Past (b off c n : Nat) : Option (List Nd) → Ending
  | some r => .returned (tailV b off c n r.length)
  | none => .panicked thrown

theorem NL.drop {w : World} {b off : Nat} {v r : List Nd} (h : NL w (some ⟨b, off, none⟩) v) (ht : IsTail r v) (c : Nat) (hc : v.length ≤ c) : NL w (some ⟨b, off + 4 * min (v.length - r.length) (c - 1), none⟩) r := by
  obtain ⟨a, rfl⟩ := ht
  cases r with
  | nil => exact .inl rfl
  | cons y r =>
    rcases h with h | ⟨b', off', h1, h2, h3⟩
    · simp at h
    · cases h1
      refine .inr ⟨_, _, rfl, h2, fun i x hx => ?_⟩
      have hl : (a ++ y :: r).length - (y :: r).length = a.length := by simp
      have hm : min ((a ++ y :: r).length - (y :: r).length) (c - 1) = a.length := by
        rw [hl]; simp at hc; omega
      have := h3 (a.length + i) x (by rw [List.getElem?_append_right (by omega)]; simpa using hx)
      rw [hm]
      rw [show off + (a.length + i) * 4 = off + 4 * a.length + i * 4 by omega] at this
      exact this

theorem setLoop_none {pv : List Nd → Option (List Nd)} {n k : Nat} (h : k < n) {last : Option (List Nd)} {v : List Nd} (e : pv v = none) : setLoop pv (n - k) last v = none := by
  rw [show n - k = (n - (k + 1)) + 1 by omega]; simp only [setLoop, e]
theorem setLoop_some {pv : List Nd → Option (List Nd)} {n k : Nat} (h : k < n) {last : Option (List Nd)} {v rest : List Nd} (e : pv v = some rest) :
    setLoop pv (n - k) last v = if aheadOf last (v.take (v.length - rest.length)) then setLoop pv (n - (k + 1)) (some (v.take (v.length - rest.length))) rest else none := by
  rw [show n - k = (n - (k + 1)) + 1 by omega]; simp only [setLoop, e]

/-- The contract of pastValue for lists that are so short. -/
def PastOk (f : Nat) : Prop := ∀ (v : List Nd) (b off c : Nat) (w : World), v.length < f → NL w (some ⟨b, off, none⟩) v → v.length ≤ c → c ≤ maxLen →
  Calls Tryz.prog 122 #[.slice (some ⟨b, off, none⟩) v.length c] w fun e w' => e = Past b off c v.length (pastV f v) ∧ Below w.heap.size w w'

theorem tailV_next {b off c n m k : Nat} (h1 : m ≤ n) (h2 : n ≤ c) (h3 : k < m) : tailV b (off + 4 * min (n - m) (c - 1)) (c - (n - m)) m k = tailV b off c n k := by
  unfold tailV
  rw [show off + 4 * min (n - m) (c - 1) + 4 * min (m - k) (c - (n - m) - 1) = off + 4 * min (n - k) (c - 1) by omega, show c - (n - m) - (m - k) = c - (n - k) by omega]
theorem tailV_all {b off c n : Nat} : tailV b off c n n = .slice (some ⟨b, off, none⟩) n c := by
  unfold tailV
  rw [show off + 4 * min (n - n) (c - 1) = off by omega, show c - (n - n) = c by omega]

set_option maxRecDepth 100000 in
set_option maxHeartbeats 4000000 in
theorem pastSet_any (f : Nat) (ih : PastOk f) (v : List Nd) (b off c : Nat) (cnt : Int) (w : World) (hf : v.length < f) (hv : NL w (some ⟨b, off, none⟩) v) (hc : v.length ≤ c) (hcm : c ≤ maxLen) (h0 : 0 ≤ cnt) (h1 : cnt ≤ 9223372036854775807) :
    Calls Tryz.prog 161 #[.slice (some ⟨b, off, none⟩) v.length c, .int .i64 cnt] w fun e w' => e = Past b off c v.length (setLoop (pastV f) cnt.toNat none v) ∧ Below w.heap.size w w' := by
  unfold maxLen at hcm
  generalize hR : setLoop (pastV f) cnt.toNat none v = R
  have HR : Hid (_ = _) := hR
  clear hR
  go_enter Tryz.func161, Tryz.ntmps161
  go_wp2
  go_loopw [0, 5, 10] (fun sv sl i wr => ∃ (k : Nat) (u : List Nd) (last : Option (List Nd)) (pl : Option Addr) (nl cl : Nat),
      (k : Int) ≤ cnt ∧ i = .int .i64 k ∧ sv = tailV b off c v.length u.length ∧ Hid (IsTail u v) ∧
      sl = .slice pl nl cl ∧ Hid (last = none ↔ k = 0) ∧ Hid (∀ l, last = some l → l.length = nl ∧ NL wr pl l ∧ nl ≤ 9223372036854775807) ∧ Hid (setLoop (pastV f) (cnt.toNat - k) last u = R) ∧ Below w.heap.size w wr) (fun _ _ i _ => cnt.toNat - (intOf i).toNat)
  case atStart => exact ⟨0, v, none, none, 0, 0, by simpa using h0, rfl, tailV_all.symm, IsTail.refl _, rfl, (iff_of_true rfl rfl : _), (fun l h => by cases h), HR, Below.refl _ _⟩
  case round =>
    obtain ⟨k, u, last, pl, nl, cl, hk, rfl, rfl, HT, rfl, HL0, HL, HS, hb⟩ := hrel
    have hul := HT.out.length
    have hu := (hv.up hb).drop HT.out c hc
    by_cases hlt : (k : Int) < cnt
    · have hkn : k < cnt.toNat := by omega
      have hpast := ih u b (off + 4 * min (v.length - u.length) (c - 1)) (c - (v.length - u.length)) wr (by omega) hu (by omega) (by unfold maxLen; omega)
      unfold tailV
      go_wp2_with fail
      refine hpast.mono ?_
      rintro e w1 ⟨rfl, hb1⟩
      have hb2 : Below w.heap.size w w1 := hb.trans (hb1.mono hb.size)
      cases hv2 : pastV f u with
      | none =>
        have HN : Hid (none = R) := by rw [← HS.out, setLoop_none hkn hv2]; rfl
        clear hv2 HS HR hpast
        unfold Past
        go_wp2
        exact ⟨rfl, by rw [← HN.out]; rfl, hb2⟩
      | some rest =>
        obtain ⟨hsh, htl⟩ := pastV_shorter hv2
        have HN : Hid (_ = _) := (setLoop_some (last := last) hkn hv2).symm.trans HS.out
        have hu1 := hu.up hb1
        have HP : Hid ((u.take (u.length - rest.length)).length = u.length - rest.length) := by show _ = _; simp
        have HX : Hid (_ = _) := tailV_next (b := b) (off := off) (c := c) (n := v.length) (m := u.length) (k := rest.length) hul hc hsh
        clear hv2 HS HR hpast
        unfold Past
        simp only []
        rw [HX.out]
        unfold tailV
        generalize off + 4 * min (v.length - u.length) (c - 1) = uo at *
        generalize hcu : c - (v.length - u.length) = cu at *
        have HCU : Hid (_ = _) := hcu
        have hcu1 : u.length ≤ cu := by omega
        clear hcu
        cases last with
        | none =>
          obtain rfl : k = 0 := HL0.out.1 rfl
          go_wp2_with fail
          refine (need_true _).mono ?_
          rintro e w2 ⟨rfl, rfl⟩
          go_wp2
          go_roundw
          case rel =>
            refine ⟨1, rest, some (u.take (u.length - rest.length)), _, u.length - rest.length, _, by omega, by go_num, rfl, htl.trans HT.out, rfl, ?_, ?_, ?_, hb2⟩
            · show (_ ↔ _); exact iff_of_false (by simp) (by simp)
            · intro l hl; cases hl; exact ⟨HP.out, hu1.take _, by omega⟩
            · have := HN.out; rw [show aheadOf none (u.take (u.length - rest.length)) = true from rfl, if_pos rfl] at this; exact this
          case measure => simp [intOf]; omega
        | some l =>
          have hk0 : k ≠ 0 := fun h => by have := HL0.out.2 h; cases this
          obtain ⟨rfl, hl, hnl⟩ := HL.out l rfl
          have e0 : ((k : Int) == 0) = false := by simp; omega
          have ho := order_any l (u.take (u.length - rest.length)) pl (some ⟨b, uo, none⟩) cl cu w1 (hl.up hb1) (hu1.take _) (by unfold maxLen; omega) (by rw [HP.out]; unfold maxLen; omega)
          rw [HP.out] at ho
          generalize hm : u.take (u.length - rest.length) = m at ho HN HP
          have HM2 : Hid (_ = _) := hm
          clear hm
          go_wp2_with fail
          refine ho.mono ?_
          rintro e w2 ⟨rfl, hu2⟩
          have hb3 : Below w.heap.size w w2 := hb2.trans (hu2.1.mono hb2.size)
          cases hlt0 : decide (lsC l m < 0)
          · go_wp2_with fail
            refine (need_false _).mono ?_
            rintro e w3 ⟨rfl, rfl⟩
            go_wp2
            refine ⟨rfl, ?_, hb3⟩
            have := HN.out; rw [show aheadOf (some l) m = false by simpa only [aheadOf] using hlt0, if_neg (by simp)] at this
            rw [← this]; rfl
          · go_wp2_with fail
            refine (need_true _).mono ?_
            rintro e w3 ⟨rfl, rfl⟩
            go_wp2
            go_roundw
            case rel =>
              refine ⟨k + 1, rest, some m, _, u.length - rest.length, _, by omega, by go_num, rfl, htl.trans HT.out, rfl, ?_, ?_, ?_, hb3⟩
              · show (_ ↔ _); exact iff_of_false (by simp) (by simp)
              · intro l hl; cases hl; exact ⟨HP.out, by rw [← HM2.out]; exact (hu1.take _).up hu2.1, by omega⟩
              · have := HN.out; rw [show aheadOf (some l) m = true by simpa only [aheadOf] using hlt0, if_pos rfl] at this; exact this
            case measure => simp [intOf]; omega
    · have HN : Hid (some u = R) := by
        have := HS.out
        rw [show cnt.toNat - k = 0 by omega] at this
        exact this
      clear HS HR
      go_wp2
      go_ret
      exact ⟨by rw [← HN.out]; rfl, hb⟩

theorem bytesLess_cb : ∀ (l m : List UInt8), Op.bytesLess l m = decide (Lib.compareBytes l m < 0)
  | [], [] => rfl
  | [], _ :: _ => rfl
  | _ :: _, [] => rfl
  | a :: x, b :: y => by
    rw [Op.bytesLess, cb_cons, bytesLess_cb x y]
    by_cases h : a < b
    · simp [h]
    · by_cases k : b < a
      · have : ¬ a = b := fun e => by subst e; exact absurd k h
        simp [h, k, this]
      · have : a = b := UInt8.le_antisymm (UInt8.not_lt.1 k) (UInt8.not_lt.1 h)
        subst this
        simp

theorem recLoop_nil {pv : List Nd → Option (List Nd)} {n k : Nat} (h : k < n) {last : ByteArray} : recLoop pv (n - k) last [] = none := by
  rw [show n - k = (n - (k + 1)) + 1 by omega]; rfl
theorem recLoop_bad {pv : List Nd → Option (List Nd)} {n k : Nat} (h : k < n) {last : ByteArray} {x : Nd} {r : List Nd} (e : ¬ (x.op = 7 ∧ ndOk x = true ∧ cmpB last x.s < 0)) : recLoop pv (n - k) last (x :: r) = none := by
  rw [show n - k = (n - (k + 1)) + 1 by omega]; simp only [recLoop, if_neg e]
theorem recLoop_go {pv : List Nd → Option (List Nd)} {n k : Nat} (h : k < n) {last : ByteArray} {x : Nd} {r : List Nd} (e : x.op = 7 ∧ ndOk x = true ∧ cmpB last x.s < 0) :
    recLoop pv (n - k) last (x :: r) = match pv r with | none => none | some rest => recLoop pv (n - (k + 1)) x.s rest := by
  rw [show n - k = (n - (k + 1)) + 1 by omega]; simp only [recLoop, if_pos e]; cases pv r <;> rfl


set_option maxRecDepth 100000 in
set_option maxHeartbeats 4000000 in
theorem pastRec_any (f : Nat) (ih : PastOk f) (v : List Nd) (b off c : Nat) (cnt : Int) (w : World) (hf : v.length < f) (hv : NL w (some ⟨b, off, none⟩) v) (hbw : b < w.heap.size) (hc : v.length ≤ c) (hcm : c ≤ maxLen) (h0 : 0 ≤ cnt) (h1 : cnt ≤ 9223372036854775807) :
    Calls Tryz.prog 162 #[.slice (some ⟨b, off, none⟩) v.length c, .int .i64 cnt] w fun e w' => e = Past b off c v.length (recLoop (pastV f) cnt.toNat ⟨#[]⟩ v) ∧ Below w.heap.size w w' := by
  unfold maxLen at hcm
  generalize hR : recLoop (pastV f) cnt.toNat ⟨#[]⟩ v = R
  have HR : Hid (_ = _) := hR
  clear hR
  go_enter Tryz.func162, Tryz.ntmps162
  go_wp2
  go_loopw [0, 5, 7] (fun sv sl i wr => ∃ (k : Nat) (u : List Nd) (last : ByteArray),
      (k : Int) ≤ cnt ∧ i = .int .i64 k ∧ sv = tailV b off c v.length u.length ∧ Hid (IsTail u v) ∧
      sl = .string last ∧ Hid (recLoop (pastV f) (cnt.toNat - k) last u = R) ∧ Below w.heap.size w wr) (fun _ _ i _ => cnt.toNat - (intOf i).toNat)
  case atStart => exact ⟨0, v, _, by simpa using h0, rfl, tailV_all.symm, IsTail.refl _, rfl, HR, Below.refl _ _⟩
  case round =>
    obtain ⟨k, u, last, hk, rfl, rfl, HT, rfl, HS, hb⟩ := hrel
    have hul := HT.out.length
    have hu := (hv.up hb).drop HT.out c hc
    by_cases hlt : (k : Int) < cnt
    · have hkn : k < cnt.toNat := by omega
      unfold tailV
      cases u with
      | nil =>
        have HN : Hid (none = R) := (recLoop_nil hkn).symm.trans HS.out
        clear HS HR
        go_wp2_with fail
        refine (need_false _).mono ?_
        rintro e w3 ⟨rfl, rfl⟩
        go_wp2
        exact ⟨rfl, by rw [← HN.out]; rfl, hb⟩
      | cons x r =>
        have HX2 : Hid (∀ m, m < r.length + 1 → tailV b (off + 4 * min (v.length - (x :: r).length) (c - 1)) (c - (v.length - (x :: r).length)) (x :: r).length m = tailV b off c v.length m) := fun m hm => tailV_next hul hc (by simpa using hm)
        generalize off + 4 * min (v.length - (x :: r).length) (c - 1) = xo at *
        have hcu1 : (x :: r).length ≤ c - (v.length - (x :: r).length) := by omega
        have hcu2 : c - (v.length - (x :: r).length) ≤ 9223372036854775807 := by omega
        generalize c - (v.length - (x :: r).length) = cu at *
        have hxb : b < wr.heap.size := Nat.lt_of_lt_of_le hbw hb.size
        obtain ⟨xb', xo', hpe, _, x0, x1, x2, x3, xw⟩ := hu.head
        obtain ⟨rfl, rfl⟩ : b = xb' ∧ xo = xo' := by simpa using hpe
        clear hpe
        have i0 : (0 : Int) < ((x :: r).length : Int) := by simp
        simp only [List.length_cons] at *
        cases e7 : (x.op == 7)
        · have HN : Hid (none = R) := (recLoop_bad hkn (fun h => by simp [h.1] at e7)).symm.trans HS.out
          clear HS HR
          go_wp2_with fail
          refine (need_false _).mono ?_
          rintro e w3 ⟨rfl, rfl⟩
          go_wp2
          exact ⟨rfl, by rw [← HN.out]; rfl, hb⟩
        · have HX := fun w => mayBe_any x w xw
          cases hx : ndOk x <;> rw [hx] at HX
          · have HN : Hid (none = R) := (recLoop_bad hkn (fun h => by simp [h.2.1] at hx)).symm.trans HS.out
            clear HS HR
            go_wp2_with fail
            refine (HX _).mono ?_
            rintro e w2 ⟨rfl, hb2⟩
            go_wp2_with fail
            refine (need_false _).mono ?_
            rintro e w3 ⟨rfl, rfl⟩
            go_wp2
            exact ⟨rfl, by rw [← HN.out]; rfl, hb.trans (hb2.mono hb.size)⟩
          · go_wp2_with fail
            refine (HX _).mono ?_
            rintro e w2 ⟨rfl, hb2⟩
            have hb3 : Below w.heap.size w w2 := hb.trans (hb2.mono hb.size)
            have q : ∀ o, w2.cell? ⟨b, o, none⟩ = wr.cell? ⟨b, o, none⟩ := fun o => hb2.cell (p := ⟨b, o, none⟩) hxb
            have z0 := (q xo).trans x0
            have z2 := (q (xo + 2)).trans x2
            have hu2 := hu.up hb2
            have hx2 : b < w2.heap.size := Nat.lt_of_lt_of_le hxb hb2.size
            have hbl : Op.bytesLess last.toList x.s.toList = decide (cmpB last x.s < 0) := by rw [bytesLess_cb, ByteArray.toList_eq, ByteArray.toList_eq]; rfl
            clear q x0 x1 x2 x3 hu hb2 hb
            go_wp2_with fail
            refine (need_true _).mono ?_
            rintro e w3 ⟨rfl, rfl⟩
            go_wp2_with fail
            cases hlt0 : decide (cmpB last x.s < 0)
            · have HN : Hid (none = R) := (recLoop_bad hkn (fun h => by simp [h.2.2] at hlt0)).symm.trans HS.out
              refine (need_false _).mono ?_
              rintro e w4 ⟨rfl, rfl⟩
              go_wp2
              exact ⟨rfl, by rw [← HN.out]; rfl, hb3⟩
            · have HN : Hid (_ = _) := (recLoop_go hkn ⟨by simpa using e7, hx, by simpa using hlt0⟩).symm.trans HS.out
              refine (need_true _).mono ?_
              rintro e w4 ⟨rfl, rfl⟩
              have hz2 : ∀ q : BW w4.heap.size w4, q.at_.cell? ⟨b, xo + 2, none⟩ = some (.string x.s) := fun q => (q.bel.cell (p := ⟨b, xo + 2, none⟩) hx2).trans z2
              cases hp : pastV f r with
              | some rest =>
                obtain ⟨hsh, htl⟩ := pastV_shorter hp
                have hc1 : ¬ cu = 1 := by omega
                have hcall : ∀ q : BW w4.heap.size w4, Calls Tryz.prog 122 #[.slice (some ⟨b, xo + 4, none⟩) r.length (cu - 1)] q.at_ (fun e w'' => e = .returned (tailV b off c v.length rest.length) ∧ ∃ p' : BW w4.heap.size w4, w'' = p'.at_) := fun q => Calls.bel q (by
                  have h := ih r b (xo + 4) (cu - 1) q.at_ (by omega) (hu2.tail.up q.bel) (by omega) (by unfold maxLen; omega)
                  rw [hp] at h
                  have e1 : tailV b (xo + 4) (cu - 1) r.length rest.length = tailV b off c v.length rest.length := by
                    rw [← HX2.out rest.length (by omega)]
                    unfold tailV
                    rw [show xo + 4 + 4 * min (r.length - rest.length) (cu - 1 - 1) = xo + 4 * min (r.length + 1 - rest.length) (cu - 1) by omega, show cu - 1 - (r.length - rest.length) = cu - (r.length + 1 - rest.length) by omega]
                  unfold Past at h
                  simp only [] at h
                  rw [e1] at h
                  exact h)
                go_wp2_with fail
                refine wp_region_bel (by kernel_rfl) (by kernel_rfl) ?_
                repeat (go_big_quiet_step (exact hcall _))
                refine wpQuiet_nil ?_
                rintro _ ⟨q, rfl⟩
                have hb5 := hb3.trans (q.bel.mono hb3.size)
                have HN2 : Hid (recLoop (pastV f) (cnt.toNat - (k + 1)) x.s rest = R) := by have := HN.out; rw [hp] at this; exact this
                clear HN hp HS HR hcall hz2
                go_wp2
                go_roundw
                case rel => exact ⟨k + 1, rest, x.s, by omega, by go_num, rfl, (htl.cons x).trans HT.out, rfl, HN2, hb5⟩
                case measure => simp [intOf]; omega
              | none =>
                have HN2 : Hid (none = R) := by have := HN.out; rw [hp] at this; exact this
                have j1 : (1 : Int) ≤ (r.length : Int) + 1 := by omega
                obtain ⟨pr, hpr, hnr⟩ : ∃ pr, (if cu = 1 then some (⟨b, xo, none⟩ : Addr) else some ⟨b, xo + 4, none⟩) = some ⟨b, pr, none⟩ ∧ NL w4 (some ⟨b, pr, none⟩) r := by
                  by_cases h : cu = 1
                  · exact ⟨xo, if_pos h, .inl (List.eq_nil_of_length_eq_zero (by omega))⟩
                  · exact ⟨xo + 4, if_neg h, hu2.tail⟩
                have hcall : ∀ q : BW w4.heap.size w4, Calls Tryz.prog 122 #[.slice (some ⟨b, pr, none⟩) r.length (cu - 1)] q.at_ (fun e w'' => e = .panicked thrown ∧ Below w4.heap.size w4 w'') := fun q => (by
                  have h := ih r b pr (cu - 1) q.at_ (by omega) (hnr.up q.bel) (by omega) (by unfold maxLen; omega)
                  rw [hp] at h
                  exact h.mono fun e w'' ⟨h1, h2⟩ => ⟨h1, q.bel.trans (h2.mono q.bel.size)⟩)
                clear HN hp HS HR
                go_wp2_with fail
                refine wp_mono (Q := fun e a w' => e = .panic thrown ∧ a.defers = [] ∧ Below w4.heap.size w4 w') ?_ ?_
                rotate_left
                · rintro _ a w5 ⟨rfl, hd, hb5⟩
                  go_wp2
                  exact ⟨hd, by rw [← HN2.out]; rfl, hb3.trans (hb5.mono hb3.size)⟩
                refine wp_region_any (by kernel_rfl) ?_
                refine wpAny_take (i := 0) (v := ?_) rfl (by kernel_rfl) (by kernel_rfl) (by kernel_rfl) (fun _ _ _ h => h) (Or.inl ⟨by rfl, ?_⟩) ?_
                rotate_left
                · intro w; go_simp; with_reducible rfl
                refine wpAny_take (i := 1) (v := ?_) rfl (by kernel_rfl) (by kernel_rfl) (by kernel_rfl) (fun _ _ _ h => h) (Or.inl ⟨by rfl, ?_⟩) ?_
                rotate_left
                · intro w; go_simp; with_reducible rfl
                refine wpAny_take (i := 2) (v := ?_) rfl (by kernel_rfl) (by kernel_rfl) (by kernel_rfl) (fun _ _ _ h => h) (Or.inl ⟨by rfl, ?_⟩) ?_
                rotate_left
                · intro w; go_simp; with_reducible rfl
                refine wpAny_take (i := 4) (v := ?_) rfl (by kernel_rfl) (by kernel_rfl) (by kernel_rfl) (fun _ _ _ h => h) (Or.inl ⟨by rfl, ?_⟩) ?_
                rotate_left
                · intro w; go_simp; with_reducible rfl
                refine wpAny_take (i := 5) (v := .slice (some ⟨b, pr, none⟩) r.length (cu - 1)) rfl (by kernel_rfl) (by kernel_rfl) (by kernel_rfl) (fun _ _ _ h => h) (Or.inl ⟨by rfl, ?_⟩) ?_
                · intro w; go_simp
                refine wpAny_ready (rs := [3, 6]) (by kernel_rfl) (by simp) ?_
                have c0 := hcall ⟨w4.drew, (Below.refl _ _).drew⟩
                have z3 : w4.drew.cell? ⟨b, xo + 2, none⟩ = some (.string x.s) := z2
                refine AllReady.cons rfl (fun K hK => ?_) ?_
                · go_simp
                  refine hK _ _ ?_
                  clear hK K
                  refine wpAny_ready (rs := [6]) (by kernel_rfl) (by simp) ?_
                  refine AllReady.cons rfl (fun K hK => ?_) AllReady.nil
                  go_simp
                  refine c0.mono ?_
                  rintro e w5 ⟨rfl, hb5⟩
                  exact ⟨rfl, hb5⟩
                · refine AllReady.cons rfl (fun K hK => ?_) AllReady.nil
                  go_simp
                  refine c0.mono ?_
                  rintro e w5 ⟨rfl, hb5⟩
                  exact ⟨rfl, hb5⟩
    · have HN : Hid (some u = R) := by
        have := HS.out
        rw [show cnt.toNat - k = 0 by omega] at this
        cases u <;> exact this
      clear HS HR
      go_wp2
      go_ret
      exact ⟨by rw [← HN.out]; rfl, hb⟩

theorem tailV_cons {b off c n m pr : Nat} (hpr : (if c = 1 then some (⟨b, off, none⟩ : Addr) else some ⟨b, off + 4, none⟩) = some ⟨b, pr, none⟩) (h1 : m ≤ n) (h2 : n + 1 ≤ c) : tailV b pr (c - 1) n m = tailV b off c (n + 1) m := by
  unfold tailV
  by_cases h : c = 1
  · rw [if_pos h] at hpr
    obtain rfl : off = pr := by simpa using hpr
    rw [show off + 4 * min (n - m) (c - 1 - 1) = off + 4 * min (n + 1 - m) (c - 1) by omega, show c - 1 - (n - m) = c - (n + 1 - m) by omega]
  · rw [if_neg h] at hpr
    obtain rfl : off + 4 = pr := by simpa using hpr
    rw [show off + 4 + 4 * min (n - m) (c - 1 - 1) = off + 4 * min (n + 1 - m) (c - 1) by omega, show c - 1 - (n - m) = c - (n + 1 - m) by omega]
theorem Past_cons {b off c n pr : Nat} (hpr : (if c = 1 then some (⟨b, off, none⟩ : Addr) else some ⟨b, off + 4, none⟩) = some ⟨b, pr, none⟩) (h2 : n + 1 ≤ c) (R : Option (List Nd)) (hR : ∀ r, R = some r → r.length ≤ n) : Past b pr (c - 1) n R = Past b off c (n + 1) R := by
  cases R with
  | none => rfl
  | some r => unfold Past; simp only []; rw [tailV_cons hpr (hR r rfl) h2]

theorem ndOk_count {x : Nd} (h : ndOk x = true) (h5 : x.op = 5 ∨ x.op = 6) : 0 ≤ x.n := by
  unfold ndOk at h
  rcases h5 with e | e <;> simp [e] at h <;> exact h.2

set_option maxRecDepth 100000 in
set_option maxHeartbeats 4000000 in
theorem pastValue_step (f : Nat) (ih : PastOk f) (v : List Nd) (b off c : Nat) (w : World) (hf : v.length < f + 1) (hv : NL w (some ⟨b, off, none⟩) v) (hc : v.length ≤ c) (hcm : c ≤ maxLen) :
    Calls Tryz.prog 122 #[.slice (some ⟨b, off, none⟩) v.length c] w fun e w' => e = Past b off c v.length (pastV (f + 1) v) ∧ Below w.heap.size w w' := by
  have HM : Hid (c ≤ maxLen) := hcm
  unfold maxLen at hcm
  cases v with
  | nil =>
    go_enter Tryz.func122, Tryz.ntmps122
    go_wp2_with fail
    refine (need_false _).mono ?_
    rintro e w3 ⟨rfl, rfl⟩
    go_wp2
    exact ⟨rfl, rfl, Below.refl _ _⟩
  | cons x r =>
    obtain ⟨b', off', hpe, hbw, x0, x1, x2, x3, xw⟩ := hv.head
    obtain ⟨rfl, rfl⟩ : b = b' ∧ off = off' := by simpa using hpe
    clear hpe
    have i0 : (0 : Int) < ((x :: r).length : Int) := by simp
    simp only [List.length_cons] at *
    cases e7 : (x.op != 7)
    · have HN : Hid (pastV (f + 1) (x :: r) = none) := by show _ = _; simp only [pastV]; rw [if_neg (fun h => by simp [h.1] at e7)]
      go_enter Tryz.func122, Tryz.ntmps122
      go_wp2_with fail
      refine (need_false _).mono ?_
      rintro e w3 ⟨rfl, rfl⟩
      go_wp2
      exact ⟨rfl, by rw [HN.out]; rfl, Below.refl _ _⟩
    · have HX := fun w => mayBe_any x w xw
      cases hx : ndOk x <;> rw [hx] at HX
      · have HN : Hid (pastV (f + 1) (x :: r) = none) := by show _ = _; simp only [pastV]; rw [if_neg (fun h => by simp [h.2] at hx)]
        go_enter Tryz.func122, Tryz.ntmps122
        go_wp2_with fail
        refine (HX _).mono ?_
        rintro e w2 ⟨rfl, hb2⟩
        go_wp2_with fail
        refine (need_false _).mono ?_
        rintro e w3 ⟨rfl, rfl⟩
        go_wp2
        exact ⟨rfl, by rw [HN.out]; rfl, hb2⟩
      · have HN : Hid (pastV (f + 1) (x :: r) = if x.op = 5 then setLoop (pastV f) x.n.toNat none r else if x.op = 6 then recLoop (pastV f) x.n.toNat ⟨#[]⟩ r else some r) := by
          show _ = _; simp only [pastV]; rw [if_pos ⟨by simpa using e7, hx⟩]
        have hcnt := ndOk_count hx
        have hnn := xw.2.2
        have j1 : (1 : Int) ≤ (r.length : Int) + 1 := by omega
        obtain ⟨pr, hpr, hnr⟩ : ∃ pr, (if c = 1 then some (⟨b, off, none⟩ : Addr) else some ⟨b, off + 4, none⟩) = some ⟨b, pr, none⟩ ∧ NL w (some ⟨b, pr, none⟩) r := by
          by_cases h : c = 1
          · exact ⟨off, if_pos h, .inl (List.eq_nil_of_length_eq_zero (by omega))⟩
          · exact ⟨off + 4, if_neg h, hv.tail⟩
        have HPC := Past_cons (n := r.length) hpr (by omega)
        have hprH : Hid _ := hpr
        have hpv : ∀ v r, pastV f v = some r → IsTail r v := fun v r e => (pastV_shorter e).2
        go_enter Tryz.func122, Tryz.ntmps122
        go_wp2_with fail
        refine (HX _).mono ?_
        rintro e w2 ⟨rfl, hb2⟩
        have q : ∀ o, w2.cell? ⟨b, o, none⟩ = w.cell? ⟨b, o, none⟩ := fun o => hb2.cell (p := ⟨b, o, none⟩) hbw
        have z0 := (q off).trans x0
        have z1 := (q (off + 1)).trans x1
        have hnr2 := hnr.up hb2
        have hbw2 := Nat.lt_of_lt_of_le hbw hb2.size
        clear q x0 x1 x2 x3
        go_wp2_with fail
        refine (need_true _).mono ?_
        rintro e w3 ⟨rfl, rfl⟩
        by_cases h5 : x.op = 5
        · have e5 : (x.op == 5) = true := by simpa using h5
          have HS : Hid (pastV (f + 1) (x :: r) = setLoop (pastV f) x.n.toNat none r) := by have := HN.out; rw [if_pos h5] at this; exact this
          have hset := fun wd (hbd : Below w3.heap.size w3 wd) => pastSet_any f ih r b pr (c - 1) x.n wd (by omega) (hnr2.up hbd) (by omega) (by unfold maxLen; omega) (hcnt (.inl h5)) hnn
          rw [HPC _ (fun r' h => (setLoop_tail hpv _ _ _ _ h).length), ← HS.out] at hset
          clear HN HS HX hcnt
          generalize hRe : pastV (f + 1) (x :: r) = R at hset
          have HRe : Hid (_ = _) := hRe
          clear hRe
          go_wp2_with fail
          refine wp_region_still_tail 6 (by kernel_rfl) (by kernel_rfl) ?_
          change wpStill _ _ w3.drew (fun a' => wpList _ _ _ _ a' w3.drew) _ _
          have hbd : Below w3.heap.size w3 w3.drew := (Below.refl _ _).drew
          have hs := hset _ hbd
          have z1' : w3.drew.cell? ⟨b, off + 1, none⟩ = some (.int .i64 x.n) := z1
          have hb6 := hb2.trans (hbd.mono hb2.size)
          clear hset hb2 hbd z0 z1 hnr2 hbw2
          generalize w3.drew = wd at *
          simp only [List.take_succ_cons, List.take_zero, List.drop_succ_cons, List.drop_zero]
          repeat still_step
          refine wpStill_nil ?_
          go_wp2_with fail
          refine hs.mono ?_
          rintro e w4 ⟨rfl, hb4⟩
          have hb5 : Below w.heap.size w w4 := hb6.trans (hb4.mono hb6.size)
          cases R with
          | none =>
            unfold Past
            go_wp2
            exact ⟨rfl, by rw [HRe.out]; rfl, hb5⟩
          | some r' =>
            unfold Past
            simp only []
            go_wp2
            go_ret
            exact ⟨by rw [HRe.out]; rfl, hb5⟩
        · have e5 : (x.op == 5) = false := by simpa using h5
          by_cases h6 : x.op = 6
          · have e6 : (x.op == 6) = true := by simpa using h6
            have HS : Hid (pastV (f + 1) (x :: r) = recLoop (pastV f) x.n.toNat ⟨#[]⟩ r) := by have := HN.out; rw [if_neg h5, if_pos h6] at this; exact this
            have hset := fun wd (hbd : Below w3.heap.size w3 wd) => pastRec_any f ih r b pr (c - 1) x.n wd (by omega) (hnr2.up hbd) (Nat.lt_of_lt_of_le hbw2 hbd.size) (by omega) (by unfold maxLen; omega) (hcnt (.inr h6)) hnn
            rw [HPC _ (fun r' h => (recLoop_tail hpv _ _ _ _ h).length), ← HS.out] at hset
            clear HN HS HX hcnt
            generalize hRe : pastV (f + 1) (x :: r) = R at hset
            have HRe : Hid (_ = _) := hRe
            clear hRe
            go_wp2_with fail
            refine wp_region_still_tail 6 (by kernel_rfl) (by kernel_rfl) ?_
            change wpStill _ _ w3.drew (fun a' => wpList _ _ _ _ a' w3.drew) _ _
            have hbd : Below w3.heap.size w3 w3.drew := (Below.refl _ _).drew
            have hs := hset _ hbd
            have z1' : w3.drew.cell? ⟨b, off + 1, none⟩ = some (.int .i64 x.n) := z1
            have hb6 := hb2.trans (hbd.mono hb2.size)
            clear hset hb2 hbd z0 z1 hnr2 hbw2
            generalize w3.drew = wd at *
            simp only [List.take_succ_cons, List.take_zero, List.drop_succ_cons, List.drop_zero]
            repeat still_step
            refine wpStill_nil ?_
            go_wp2_with fail
            refine hs.mono ?_
            rintro e w4 ⟨rfl, hb4⟩
            have hb5 : Below w.heap.size w w4 := hb6.trans (hb4.mono hb6.size)
            cases R with
            | none =>
              unfold Past
              go_wp2
              exact ⟨rfl, by rw [HRe.out]; rfl, hb5⟩
            | some r' =>
              unfold Past
              simp only []
              go_wp2
              go_ret
              exact ⟨by rw [HRe.out]; rfl, hb5⟩
          · have e6 : (x.op == 6) = false := by simpa using h6
            have HS : Hid (pastV (f + 1) (x :: r) = some r) := by have := HN.out; rw [if_neg h5, if_neg h6] at this; exact this
            have HT : Hid (Value.slice (some ⟨b, pr, none⟩) r.length (c - 1) = tailV b off c (r.length + 1) r.length) := by
              show _ = _; rw [← tailV_cons (n := r.length) (m := r.length) hpr (Nat.le_refl _) (by omega)]; exact tailV_all.symm
            clear HN HX hcnt
            go_wp2
            go_ret
            exact ⟨by rw [HS.out, HT.out]; rfl, hb2⟩
theorem pastValue_any : ∀ f, PastOk f
  | 0 => fun v b off c w h => absurd h (by omega)
  | f + 1 => fun v b off c w h1 h2 h3 h4 => pastValue_step f (pastValue_any f) v b off c w h1 h2 h3 h4
end Go.Proofs.YtnilaghbbhmkgaaGreatDoor
namespace Go.Proofs.YtnilaghbbhmkgaaGreatDoor
open Go.RowKit
set_option linter.unusedVariables false

theorem ret_it {k : IntKind} {a b : Int} (h : a = b) : Ending.returned (.int k a) = .returned (.int k b) := by rw [h]

theorem below_fn (x : Nd) (w : World) :
    Calls Tryz.prog 235 #[x.val] w fun e w' => e = .returned (.int .i64 (bel x)) ∧ Below w.heap.size w w' := by
  obtain ⟨op, n, s, t⟩ := x
  unfold Nd.val
  by_cases h5 : op = 5
  · subst h5
    go_enter Tryz.func235, Tryz.ntmps235
    go_wp2
    go_ret
    exact ⟨ret_it (by simp [bel]), (Below.refl _ _).alloc (Nat.le_refl _) _⟩
  by_cases h6 : op = 6
  · subst h6
    go_enter Tryz.func235, Tryz.ntmps235
    go_wp2
    go_ret
    exact ⟨ret_it (by simp [bel]), (Below.refl _ _).alloc (Nat.le_refl _) _⟩
  by_cases h7 : op = 7
  · subst h7
    go_enter Tryz.func235, Tryz.ntmps235
    go_wp2
    go_ret
    exact ⟨ret_it (by simp [bel]), (Below.refl _ _).alloc (Nat.le_refl _) _⟩
  have e5 : (op == 5) = false := by simpa using h5
  have e6 : (op == 6) = false := by simpa using h6
  have e7 : (op == 7) = false := by simpa using h7
  have HB : Hid (bel ⟨op, n, s, t⟩ = 0) := by show _ = _; simp [bel, h5, h6, h7]
  clear h5 h6 h7
  go_enter Tryz.func235, Tryz.ntmps235
  go_wp2
  go_ret
  exact ⟨ret_it HB.out.symm, (Below.refl _ _).alloc (Nat.le_refl _) _⟩

theorem size_fn (a r : List Nd) (ha : Off a 1) (p : Option Addr) (c : Nat) (w : World) (hv : NL w p (a ++ r)) (hl : (a ++ r).length ≤ maxLen) :
    Calls Tryz.prog 206 #[.slice p (a ++ r).length c] w fun e w' => e = .returned (.int .i64 a.length) ∧ Below w.heap.size w w' := by
  unfold maxLen at hl
  have hl2 : a.length ≤ (a ++ r).length := by simp
  go_enter Tryz.func206, Tryz.ntmps206
  go_wp2
  go_loopw [3, 4] (fun sm se wr => ∃ (k : Nat) (m : Int), k ≤ a.length ∧ sm = .int .i64 m ∧ se = .int .i64 k ∧ Hid (reach (a.drop k) m = some 0) ∧ Below w.heap.size w wr) (fun _ i _ => a.length - (intOf i).toNat)
  case atStart => exact ⟨0, 1, Nat.zero_le _, rfl, rfl, by show _ = _; simpa using ha.run 1 (by omega), Below.refl _ _⟩
  case round =>
    obtain ⟨k, m, hk, rfl, rfl, HR, hb⟩ := hrel
    by_cases hlt : k < a.length
    · have hd : a.drop k = a[k] :: a.drop (k + 1) := List.drop_eq_getElem_cons hlt
      have h1 := HR.out
      rw [hd] at h1
      simp only [reach] at h1
      have hm : 0 < m := by
        by_cases h : 0 < m
        · exact h
        · rw [if_neg h] at h1; cases h1
      rw [if_pos hm] at h1
      have hle := reach_le _ _ (fun x hx => ha.pos x (List.mem_of_mem_drop hx)) h1
      have hle0 := reach_le _ _ (fun x hx => ha.pos x (List.mem_of_mem_drop hx)) HR.out
      have hb0 := ha.pos a[k] (List.getElem_mem _)
      simp at hle hle0
      have hk2 : k < (a ++ r).length := by omega
      obtain ⟨bb, oo, rfl, hbw, x0, x1, x2, x3, xw⟩ := (hv.up hb).at hk2
      have hg : (a ++ r)[k] = a[k] := by rw [List.getElem_append_left hlt]
      rw [hg] at x0 x1 x2 x3 xw
      have HN : Hid (_ = _) := h1
      have i1 : (k : Int) < ((a ++ r).length : Int) := by omega
      have hbel := fun w => below_fn a[k] w
      clear hg
      generalize a[k] = x at *
      clear h1 hd HR
      generalize (a ++ r).length = n at *
      go_wp2_with fail
      refine (hbel _).mono ?_
      rintro e w1 ⟨rfl, hb1⟩
      have hb2 := hb.trans (hb1.mono hb.size)
      generalize bel x = z at *
      go_wp2
      go_roundw
      case rel => exact ⟨k + 1, m + (z - 1), by omega, by go_num, by go_num, HN, hb2⟩
      case measure => simp [intOf]; omega
    · obtain rfl : k = a.length := by omega
      have hm0 : m = 0 := by
        have := HR.out
        rw [List.drop_length] at this
        simpa [reach] using this
      subst hm0
      clear HR
      go_wp2
      go_ret
      exact ⟨rfl, hb⟩

set_option maxRecDepth 100000 in
theorem cloneNodes_fn (L : List Nd) (b off c : Nat) (w : World) (hv : NL w (some ⟨b, off, none⟩) L) (hl : L.length ≤ 1099511627776) :
    Calls Tryz.prog 127 #[.slice (some ⟨b, off, none⟩) L.length c] w fun e w' => (∃ q c', e = .returned (.slice q L.length c') ∧ NT w' 0 q L ∧ L.length ≤ c' ∧ c' ≤ maxLen) ∧ Below w.heap.size w w' := by
  obtain ⟨i0, hi, hz0, hz1, hz2⟩ := info_parts Tryz.infoNode
  have HC : Hid (∀ j u, (ncells L)[j]? = some u → w.cell? ⟨b, off + j, none⟩ = some u) := hv.cells
  have HW := hv.wfs
  have q22 : ∀ (w : World) (a : Option Addr) (n c n' c' : Nat), (binOp .eql 25 (.slice a n c) (.slice none n' c')).run Tryz.prog w = .ok (.bool a.isNone) w := fun w a n c n' c' => Lib.run_eql_slice_nil w _ _ a n c n' c' Tryz.underlying25
  go_enter Tryz.func127, Tryz.ntmps127
  go_wp2_with (at_builtin; refine wpList_append_own _ rfl _ _ 25 rfl w.heap.size 41 i0 _ 4 48 Tryz.underlying25 hi hz0 hz1 hz2 rfl (by decide) _ _ _ rfl (World.ownsRow_made w #[] 0 (Nat.le_refl _) (Nat.zero_le _) (by simp)) ⟨b, off, none⟩ L.length c (ncells L) rfl ?qc1 ?qc2 ?qc3 ?qc4 ?qc5 ?qc6 ?_)
  case qc1 => exact ncells_length L
  case qc2 =>
    intro j u hu
    have hh := HC.out j u hu
    have hlt := World.block_lt_of_cell? w _ hh
    have hadd : (⟨b, off, none⟩ : Addr).add j = ⟨b, off + j, none⟩ := by unfold Addr.add; split <;> simp_all
    rw [hadd]
    exact (Below.cell (p := ⟨b, off + j, none⟩) ((Below.refl w.heap.size w).alloc (Nat.le_refl _) _) hlt).trans hh
  case qc3 => exact ncells_one L
  case qc4 => unfold maxLen; omega
  case qc5 => omega
  case qc6 => simp
  intro v' w' h1 h2 h3
  obtain ⟨q, c', rfl, hnt, hl', hm'⟩ := NL.of_row HW h1
  have hbel : Below w.heap.size w w' := ((Below.refl w.heap.size w).alloc (Nat.le_refl _) (.cells #[] 41)).grown h2 (by simp) (fun k hk => by simp [Value.ownBlock] at hk; omega)
  clear h1 h2 h3 hi hz0 hz1 hz2
  go_wp2
  go_ret
  exact ⟨⟨q, c', rfl, hnt, hl', hm'⟩, hbel⟩

def lenV : Value → Nat
  | .slice _ n _ => n
  | _ => 0

theorem Segs.length {f : Nat} {u : List Nd} {ss : List (List Nd)} (h : Segs f u ss) : ss.length ≤ u.length := by
  induction h with
  | nil => simp
  | cons h hs ih =>
    obtain ⟨a', e, _, hne⟩ := itemP_off h
    have := List.append_cancel_right e
    subst this
    have := List.length_pos_iff.2 hne
    simp; omega

set_option maxRecDepth 100000 in
set_option maxHeartbeats 1000000 in
theorem items_fn (f : Nat) (x : Nd) (r : List Nd) (ss : List (List Nd)) (hss : Segs f r ss) (b off c : Nat) (w : World) (hv : NL w (some ⟨b, off, none⟩) (x :: r)) (hbw : b < w.heap.size) (hl : (x :: r).length ≤ 200) (hc : (x :: r).length ≤ c) (hcm : c ≤ maxLen) :
    Calls Tryz.prog 174 #[.slice (some ⟨b, off, none⟩) (x :: r).length c] w fun e w' => (∃ lv, e = .returned lv ∧ OL w' w.heap.size lv ss) ∧ Below w.heap.size w w' := by
  unfold maxLen at hcm
  simp only [List.length_cons] at *
  have hsl := hss.length
  have HSS : Hid (Segs f r ss) := hss
  clear hss
  obtain ⟨pr, hpr, hnr⟩ : ∃ pr, (if c = 1 then some (⟨b, off, none⟩ : Addr) else some ⟨b, off + 4, none⟩) = some ⟨b, pr, none⟩ ∧ NL w (some ⟨b, pr, none⟩) r := by
    by_cases h : c = 1
    · exact ⟨off, if_pos h, .inl (List.eq_nil_of_length_eq_zero (by omega))⟩
    · exact ⟨off + 4, if_neg h, hv.tail⟩
  have j1 : (1 : Int) ≤ (r.length : Int) + 1 := by omega
  go_enter Tryz.func174, Tryz.ntmps174
  go_wp2
  go_loopw [3, 4] (fun lv rv wr => ∃ (done : List (List Nd)) (u : List Nd) (ss' : List (List Nd)) (o c' : Nat), rv = .slice (some ⟨b, o, none⟩) u.length c' ∧ OL wr w.heap.size lv done ∧ Hid (Segs f u ss') ∧ Hid (done ++ ss' = ss) ∧ Hid (NL w (some ⟨b, o, none⟩) u) ∧ u.length ≤ c' ∧ c' ≤ 9223372036854775807 ∧ u.length ≤ 200 ∧ Below w.heap.size w wr) (fun _ rv _ => lenV rv)
  case atStart => exact ⟨[], r, ss, pr, c - 1, rfl, OL.nil _ _, HSS, rfl, hnr, by omega, by omega, by omega, Below.refl _ _⟩
  case round =>
    obtain ⟨done, u, ss', o, c', rfl, hol, HSg, HD, HN, huc, hcc, hu200, hb⟩ := hrel
    cases hsg : HSg.out with
    | nil =>
      have HE : Hid (done = ss) := by have := HD.out; show _ = _; simpa using this
      clear hsg
      go_wp2
      go_ret
      exact ⟨⟨_, rfl, by rw [← HE.out]; exact hol⟩, hb⟩
    | @cons a r' ss2 h hs =>
      obtain ⟨a', e, hoff, hne⟩ := itemP_off h
      obtain rfl := List.append_cancel_right e
      have hpos := List.length_pos_iff.2 hne
      have HS2 : Hid (Segs f r' ss2) := hs
      have hu := HN.out.up hb
      have hsz := size_fn a r' hoff (some ⟨b, o, none⟩) c' wr hu (by unfold maxLen; omega)
      have hdl : done.length ≤ 200 := by
        have := congrArg List.length HD.out
        simp at this; omega
      clear hsg h hs e
      have HO : Hid (OL wr w.heap.size _ done) := hol
      clear hol
      simp only [List.length_append] at hsz huc hu200 ⊢
      have k1 : (0 : Int) < (a.length : Int) + (r'.length : Int) := by omega
      go_wp2_with fail
      refine hsz.mono ?_
      rintro e w1 ⟨rfl, hb1⟩
      have hol1 := HO.out.below hb1 hb.size
      have hb2 := hb.trans (hb1.mono hb.size)
      have k2 : (a.length : Int) ≤ (c' : Int) := by omega
      have k3 : (a.length : Int) ≤ (a.length : Int) + (r'.length : Int) := by omega
      have hNT : NT w1 w.heap.size (some ⟨b, o, none⟩) a := ⟨by have := (HN.out.up hb2).take a.length; rw [List.take_left] at this; exact this, .inr ⟨b, o, rfl, .inl hbw⟩⟩
      clear hsz HO
      go_wp2_with (at_builtin; refine append_list w1 rfl (.tmp 13) (.tmp 17) rfl w.heap.size u3 done rfl hol1 a (some ⟨b, o, none⟩) c' hNT (by omega) (by unfold maxLen; omega) rfl (by omega) hb2.size ?_; intro v' w2 hol2 hk2)
      obtain ⟨o2, ho2, hn2⟩ : ∃ o2, (if c' = a.length then some (⟨b, o, none⟩ : Addr) else some ⟨b, o + a.length * 4, none⟩) = some ⟨b, o2, none⟩ ∧ NL w (some ⟨b, o2, none⟩) r' := by
        by_cases h : c' = a.length
        · exact ⟨o, if_pos h, .inl (List.eq_nil_of_length_eq_zero (by omega))⟩
        · refine ⟨o + a.length * 4, if_neg h, ?_⟩
          have := HN.out.drop (r := r') ⟨a, rfl⟩ ((a ++ r').length + 1) (by omega)
          rw [show o + 4 * min ((a ++ r').length - r'.length) ((a ++ r').length + 1 - 1) = o + a.length * 4 by simp only [List.length_append]; omega] at this
          exact this
      rw [ho2]
      go_roundw
      case rel => exact ⟨done ++ [a], r', ss2, o2, c' - a.length, rfl, hol2, HS2, by show _ = _; rw [← HD.out]; simp, hn2, by omega, by omega, by omega, hb2.trans (hk2.bel)⟩
      case measure => simp [lenV]; omega
end Go.Proofs.YtnilaghbbhmkgaaGreatDoor
namespace Go.Proofs.YtnilaghbbhmkgaaGreatDoor
open Go.RowKit
set_option linter.unusedVariables false

/-- The set as nodes. -/
def setN (l : List (List Nd)) : List Nd := ⟨5, l.length, ⟨#[]⟩, ⟨#[]⟩⟩ :: l.flatten
end Go.Proofs.YtnilaghbbhmkgaaGreatDoor
namespace Go.Proofs.YtnilaghbbhmkgaaGreatDoor
set_option linter.unusedVariables false

theorem take_behind {u rest s : List Nd} (h : rest.length ≤ u.length) : (u ++ s).take ((u ++ s).length - (rest ++ s).length) = u.take (u.length - rest.length) := by
  have e : (u ++ s).length - (rest ++ s).length = u.length - rest.length := by simp only [List.length_append]; omega
  rw [e, List.take_append_of_le_length (by omega)]
theorem setLoop_behind {pv pw : List Nd → Option (List Nd)} {s : List Nd} (h : ∀ u r, pv u = some r → pw (u ++ s) = some (r ++ s)) (hs : ∀ u r, pv u = some r → r.length < u.length) :
    ∀ (k : Nat) (last : Option (List Nd)) (u r : List Nd), setLoop pv k last u = some r → setLoop pw k last (u ++ s) = some (r ++ s)
  | 0, last, u, r, e => by
    simp only [setLoop, Option.some.injEq] at e ⊢
    rw [e]
  | k + 1, last, u, r, e => by
    simp only [setLoop] at e ⊢
    cases e1 : pv u with
    | none => rw [e1] at e; cases e
    | some rest =>
      simp only [e1] at e
      rw [h u rest e1]
      simp only []
      rw [take_behind (Nat.le_of_lt (hs u rest e1))]
      split at e
      · rename_i ha
        rw [if_pos ha]
        exact setLoop_behind h hs k _ rest r e
      · cases e
theorem recLoop_behind {pv pw : List Nd → Option (List Nd)} {s : List Nd} (h : ∀ u r, pv u = some r → pw (u ++ s) = some (r ++ s)) :
    ∀ (k : Nat) (last : ByteArray) (u r : List Nd), recLoop pv k last u = some r → recLoop pw k last (u ++ s) = some (r ++ s)
  | 0, last, u, r, e => by
    simp only [recLoop, Option.some.injEq] at e ⊢
    rw [e]
  | k + 1, last, [], r, e => by simp [recLoop] at e
  | k + 1, last, x :: u, r, e => by
    simp only [recLoop, List.cons_append] at e ⊢
    split at e
    · rename_i hx
      rw [if_pos hx]
      cases e1 : pv u with
      | none => rw [e1] at e; cases e
      | some rest =>
        simp only [e1] at e
        rw [h u rest e1]
        exact recLoop_behind h k _ rest r e
    · cases e
theorem pastV_behind (s : List Nd) : ∀ (f g : Nat) (u r : List Nd), f ≤ g → pastV f u = some r → pastV g (u ++ s) = some (r ++ s)
  | 0, _, _, _, _, e => by simp [pastV] at e
  | f + 1, 0, _, _, h, _ => absurd h (by omega)
  | f + 1, g + 1, [], r, _, e => by simp [pastV] at e
  | f + 1, g + 1, x :: u, r, h, e => by
    have ih := fun u r => pastV_behind s f g u r (by omega)
    simp only [pastV, List.cons_append] at e ⊢
    split at e
    · rename_i hx
      rw [if_pos hx]
      split at e
      · rename_i h5
        rw [if_pos h5]
        exact setLoop_behind ih (fun u r e => (pastV_shorter e).1) _ _ _ _ e
      · rename_i h5
        rw [if_neg h5]
        split at e
        · rename_i h6
          rw [if_pos h6]
          exact recLoop_behind ih _ _ _ _ e
        · rename_i h6
          rw [if_neg h6]
          simp only [Option.some.injEq] at e ⊢
          rw [e]
    · cases e
theorem value_behind {v : List Nd} (h : vfault v = 0) (s : List Nd) {g : Nat} (hg : v.length + 1 ≤ g) : pastV g (v ++ s) = some s := by
  have := pastV_behind s (v.length + 1) g v [] hg (isVal_past h).2
  simpa using this

theorem mem_flat {l : List (List Nd)} {v : List Nd} (h : v ∈ l) : v.length ≤ l.flatten.length := by
  induction l with
  | nil => cases h
  | cons a l ih =>
    simp only [List.flatten_cons, List.length_append]
    rcases List.mem_cons.1 h with rfl | h
    · omega
    · have := ih h; omega

theorem strict_loop (g : Nat) : ∀ (l : List (List Nd)) (last : Option (List Nd)), Strict l → (∀ v ∈ l, vfault v = 0) → (∀ v ∈ l, v.length + 1 ≤ g) → (∀ v ∈ l, aheadOf last v = true) → setLoop (pastV g) l.length last l.flatten = some []
  | [], _, _, _, _, _ => rfl
  | v :: l, last, hs, hv, hg, ha => by
    have hs' := List.pairwise_cons.1 hs
    simp only [List.length_cons, setLoop, List.flatten_cons]
    rw [value_behind (hv v (by simp)) l.flatten (hg v (by simp))]
    simp only []
    have ht : (v ++ l.flatten).take ((v ++ l.flatten).length - l.flatten.length) = v := by
      rw [List.length_append, Nat.add_sub_cancel, List.take_left]
    rw [ht, if_pos (ha v (by simp))]
    exact strict_loop g l (some v) hs'.2 (fun u hu => hv u (by simp [hu])) (fun u hu => hg u (by simp [hu])) (fun u hu => by simp [aheadOf, hs'.1 u hu])

theorem setN_value {l : List (List Nd)} (hs : Strict l) (hv : ∀ v ∈ l, vfault v = 0) (hl : (setN l).length ≤ 200) : vfault (setN l) = 0 := by
  have h1 : pastV ((setN l).length + 1) (setN l) = some [] := by
    have h2 := strict_loop (setN l).length l none hs hv (fun v hm => by have := mem_flat hm; show v.length + 1 ≤ l.flatten.length + 1; omega) (fun v _ => rfl)
    unfold setN at h2 ⊢
    simp only [pastV]
    rw [if_pos ⟨by decide, by simp [ndOk]⟩, if_pos trivial]
    simpa using h2
  unfold vfault
  rw [if_neg (by omega), if_pos]
  unfold isVal
  rw [h1]
  rfl

theorem value_strip {v : List Nd} (h : vfault v = 0) : strip v = v := by
  obtain ⟨x, r, rfl, _, h7, _⟩ := value_head h
  simp [strip, h7]
theorem values_strip {l : List (List Nd)} (hv : ∀ v ∈ l, vfault v = 0) : l.map strip = l := by
  induction l with
  | nil => rfl
  | cons v l ih => rw [List.map_cons, value_strip (hv v (by simp)), ih (fun u hu => hv u (by simp [hu]))]

theorem values_segs (g : Nat) : ∀ (l : List (List Nd)), (∀ v ∈ l, vfault v = 0) → (∀ v ∈ l, v.length + 1 ≤ g) → Segs g l.flatten l
  | [], _, _ => .nil
  | v :: l, hv, hg => by
    have h1 := value_behind (hv v (by simp)) l.flatten (hg v (by simp))
    refine .cons (a := v) ?_ (values_segs g l (fun u hu => hv u (by simp [hu])) (fun u hu => hg u (by simp [hu])))
    obtain ⟨x, r, rfl, _, h7, _⟩ := value_head (hv v (by simp))
    show (if x.op = 7 then pastV g (r ++ l.flatten) else pastV g (x :: (r ++ l.flatten))) = _
    rw [if_neg h7]
    exact h1
end Go.Proofs.YtnilaghbbhmkgaaGreatDoor
namespace Go.Proofs.YtnilaghbbhmkgaaGreatDoor
set_option linter.unusedVariables false

theorem pastV_more (f : Nat) {u r : List Nd} (h : pastV f u = some r) (s : List Nd) : pastV f (u ++ s) = some (r ++ s) := pastV_behind s f f u r (Nat.le_refl _) h

theorem setLoop_front {pv : List Nd → Option (List Nd)} (h : ∀ u r, pv u = some r → ∃ a, u = a ++ r ∧ pv a = some []) (k1 : ∀ u r, pv u = some r → ∀ s, pv (u ++ s) = some (r ++ s)) :
    ∀ (k : Nat) (last : Option (List Nd)) (u r : List Nd), setLoop pv k last u = some r → ∃ l : List (List Nd), u = l.flatten ++ r ∧ l.length = k ∧ Strict l ∧ (∀ v ∈ l, pv v = some []) ∧ (∀ v ∈ l, aheadOf last v = true) ∧ setLoop pv k last l.flatten = some []
  | 0, last, u, r, e => by
    simp only [setLoop, Option.some.injEq] at e
    subst e
    exact ⟨[], rfl, rfl, List.Pairwise.nil, by simp, by simp, rfl⟩
  | k + 1, last, u, r, e => by
    simp only [setLoop] at e
    cases e1 : pv u with
    | none => rw [e1] at e; cases e
    | some rest =>
      simp only [e1] at e
      obtain ⟨a, rfl, ha⟩ := h u rest e1
      have ht : ∀ c : List Nd, (a ++ c).take ((a ++ c).length - c.length) = a := fun c => by rw [List.length_append, Nat.add_sub_cancel, List.take_left]
      rw [ht] at e
      split at e
      · rename_i hah
        obtain ⟨l, rfl, hl, hs, hv, hlast, hloop⟩ := setLoop_front h k1 k (some a) rest r e
        refine ⟨a :: l, by simp, by simp [hl], List.pairwise_cons.2 ⟨fun v hm => by simpa [aheadOf] using hlast v hm, hs⟩, ?_, ?_, ?_⟩
        · intro v hm
          rcases List.mem_cons.1 hm with rfl | hm
          · exact ha
          · exact hv v hm
        · intro v hm
          rcases List.mem_cons.1 hm with rfl | hm
          · exact hah
          · cases last with
            | none => rfl
            | some b =>
              have h1 : lsC b a < 0 := by simpa [aheadOf] using hah
              have h2 : lsC a v < 0 := by simpa [aheadOf] using hlast v hm
              have := lsC_is.lt_le h1 (by omega : lsC a v ≤ 0)
              simp [aheadOf, this]
        · simp only [setLoop, List.flatten_cons]
          rw [k1 a [] ha l.flatten]
          simp only [List.nil_append]
          rw [ht, if_pos hah]
          exact hloop
      · cases e
theorem recLoop_front {pv : List Nd → Option (List Nd)} (h : ∀ u r, pv u = some r → ∃ a, u = a ++ r ∧ pv a = some []) (k1 : ∀ u r, pv u = some r → ∀ s, pv (u ++ s) = some (r ++ s)) :
    ∀ (k : Nat) (last : ByteArray) (u r : List Nd), recLoop pv k last u = some r → ∃ a, u = a ++ r ∧ recLoop pv k last a = some []
  | 0, last, u, r, e => by
    simp only [recLoop, Option.some.injEq] at e
    subst e
    exact ⟨[], rfl, rfl⟩
  | k + 1, last, [], r, e => by simp [recLoop] at e
  | k + 1, last, x :: u, r, e => by
    simp only [recLoop] at e
    split at e
    · rename_i hx
      cases e1 : pv u with
      | none => rw [e1] at e; cases e
      | some rest =>
        simp only [e1] at e
        obtain ⟨a, rfl, ha⟩ := h u rest e1
        obtain ⟨c, rfl, hc⟩ := recLoop_front h k1 k _ rest r e
        refine ⟨x :: (a ++ c), by simp, ?_⟩
        simp only [recLoop]
        rw [if_pos hx, k1 a [] ha c]
        exact hc
    · cases e
theorem pastV_front : ∀ (f : Nat) (u r : List Nd), pastV f u = some r → ∃ a, u = a ++ r ∧ pastV f a = some []
  | 0, _, _, e => by simp [pastV] at e
  | f + 1, [], r, e => by simp [pastV] at e
  | f + 1, x :: u, r, e => by
    have ih := pastV_front f
    have k1 : ∀ u r, pastV f u = some r → ∀ s, pastV f (u ++ s) = some (r ++ s) := fun u r h s => pastV_more f h s
    simp only [pastV] at e
    split at e
    · rename_i hx
      split at e
      · rename_i h5
        obtain ⟨l, rfl, _, _, _, _, hl⟩ := setLoop_front ih k1 _ _ _ _ e
        refine ⟨x :: l.flatten, rfl, ?_⟩
        simp only [pastV]
        rw [if_pos hx, if_pos h5]
        exact hl
      · rename_i h5
        split at e
        · rename_i h6
          obtain ⟨a, rfl, ha⟩ := recLoop_front ih k1 _ _ _ _ e
          refine ⟨x :: a, rfl, ?_⟩
          simp only [pastV]
          rw [if_pos hx, if_neg h5, if_pos h6]
          exact ha
        · rename_i h6
          simp only [Option.some.injEq] at e
          subst e
          refine ⟨[x], rfl, ?_⟩
          simp only [pastV]
          rw [if_pos hx, if_neg h5, if_neg h6]
    · cases e

/-- A row that is a set: strict, of values, and not too long. -/
structure IsSet (l : List (List Nd)) : Prop where
  strict : Strict l
  vals : ∀ v ∈ l, vfault v = 0
  short : (setN l).length ≤ 200

theorem empty_bytes {b : ByteArray} (h : b.data.toList.isEmpty = true) : b = ⟨#[]⟩ := by
  obtain ⟨d⟩ := b
  have : d.toList = [] := by simpa using h
  have : d = #[] := by simpa using this
  rw [this]

/-- What is a value and a Set is that of a row. -/
theorem set_row {x : Nd} {r : List Nd} (h : vfault (x :: r) = 0) (h5 : x.op = 5) : ∃ l, IsSet l ∧ x :: r = setN l := by
  obtain ⟨_, _, e, hl, _, hok, hp⟩ := value_head h
  cases e
  rw [(isVal_past h).2, if_pos h5] at hp
  obtain ⟨l, e, hk, hs, hv, _, _⟩ := setLoop_front (pastV_front _) (fun u r h s => pastV_more _ h s) _ _ _ _ hp.symm
  rw [List.append_nil] at e
  subst e
  unfold ndOk at hok
  simp [h5] at hok
  have hx : x = ⟨5, l.length, ⟨#[]⟩, ⟨#[]⟩⟩ := by
    obtain ⟨a, n, s, t⟩ := x
    simp only at hok h5 hk
    have h1 := empty_bytes (b := s) (by simpa using hok.1.1)
    have h2 := empty_bytes (b := t) (by simpa using hok.1.2)
    have h3 : n = l.length := by omega
    rw [h5, h1, h2, h3]
  subst hx
  refine ⟨l, ⟨hs, fun v hm => ?_, hl⟩, rfl⟩
  have h1 := hv v hm
  have h2 := mem_flat hm
  have h3 := pastV_fuel (setN l).length (v.length + 1) v (by show v.length < l.flatten.length + 1; omega) (by omega)
  have h4 : pastV (v.length + 1) v = some [] := by rw [← h3]; exact h1
  have h6 : (setN l).length = l.flatten.length + 1 := rfl
  have h7 : (setN l).length ≤ 200 := hl
  unfold vfault
  rw [if_neg (by omega), if_pos]
  unfold isVal
  rw [h4]
  rfl

theorem IsSet.value {l : List (List Nd)} (h : IsSet l) : vfault (setN l) = 0 := setN_value h.strict h.vals h.short
theorem IsSet.len {l : List (List Nd)} (h : IsSet l) : l.length ≤ 200 := by
  have h1 : ∀ m : List (List Nd), (∀ v ∈ m, v ≠ []) → m.length ≤ m.flatten.length := by
    intro m
    induction m with
    | nil => simp
    | cons a m ih =>
      intro hm
      have h1 := ih (fun v hv => hm v (by simp [hv]))
      have h2 : 0 < a.length := List.length_pos_iff.2 (hm a (by simp))
      simp only [List.length_cons, List.flatten_cons, List.length_append]
      omega
  have h2 := h1 l (fun v hm => by obtain ⟨x, r, e, _⟩ := value_head (h.vals v hm); rw [e]; simp)
  have h3 : (setN l).length = l.flatten.length + 1 := rfl
  have := h.short
  omega

/-- Is it one of them? -/
def inB (l : List (List Nd)) (v : List Nd) : Bool := l.any fun p => decide (lsC p v = 0)
def allB (ls lt : List (List Nd)) : Bool := lt.all (inB ls)
def anyB (ls lt : List (List Nd)) : Bool := lt.any (inB ls)
def meetL (ls lt : List (List Nd)) : List (List Nd) := ls.filter (inB lt)
def lessL (ls lt : List (List Nd)) : List (List Nd) := ls.filter fun v => !inB lt v
def bothL (ls lt : List (List Nd)) : List (List Nd) := setL (ls ++ lt)
/-- What two that must be sets have wrong. -/
def isSetV (v : List Nd) : Bool := match v with | [] => false | x :: _ => decide (x.op = 5)
def sfault (s t : List Nd) : Int := if vfault s = 0 then (if vfault t = 0 then (if isSetV s = true ∧ isSetV t = true then 0 else 2) else vfault t) else vfault s
theorem setN_inj {l m : List (List Nd)} (h : IsSet l) (k : IsSet m) (e : setN l = setN m) : l = m := by
  have h1 : ∀ (l m : List (List Nd)), (∀ v ∈ l, vfault v = 0) → (∀ v ∈ m, vfault v = 0) → l.length = m.length → l.flatten = m.flatten → l = m := by
    intro l
    induction l with
    | nil => intro m _ _ hl _; exact (List.eq_nil_of_length_eq_zero hl.symm).symm
    | cons a l ih =>
      intro m ha hb hl he
      cases m with
      | nil => cases hl
      | cons b m =>
        simp only [List.flatten_cons] at he
        have k1 := value_behind (ha a (by simp)) l.flatten (g := a.length + b.length + 1) (by omega)
        have k2 := value_behind (hb b (by simp)) m.flatten (g := a.length + b.length + 1) (by omega)
        rw [he, k2] at k1
        have k3 : m.flatten = l.flatten := by injection k1
        rw [k3] at he
        have k4 := List.append_cancel_right he
        rw [k4, ih m (fun v hv => ha v (by simp [hv])) (fun v hv => hb v (by simp [hv])) (by simpa using hl) k3.symm]
  unfold setN at e
  injection e with e1 e2
  injection e1 with _ e3
  exact h1 l m h.vals k.vals (by omega) e2
end Go.Proofs.YtnilaghbbhmkgaaGreatDoor
namespace Go.Proofs.YtnilaghbbhmkgaaGreatDoor
open Go.RowKit
set_option linter.unusedVariables false

theorem catch_idle (p : Addr) (w : World) :
    CallsD Tryz.prog 120 #[.pointer (some p)] .returning w fun e u' w' => e = .returned (.tuple #[]) ∧ u' = .returning ∧ w' = w := by
  refine callsD_of_wpS Tryz.func120 rfl fun c₀ cs hu => ?_
  apply wpS_seq
  apply wpS_region
  simp [wpOpsS, go_sem, recoverD, hu, Tryz.ntmps120, Exit.thenS]
  refine wpS_of_wp ?_
  go_wp2
  cases c₀
  simp_all [bodyPostS, results, Tryz.results120]

theorem catch_thrown (p : Addr) (w : World) (u : Value) (hc : w.cell? p = some u) (hz : w.frozen? p = false) :
    CallsD Tryz.prog 120 #[.pointer (some p)] (.panicking thrown) w fun e u' w' => e = .returned (.tuple #[]) ∧ u' = .panicking [{ v := .iface 28 (.int .i64 1), recovered := true }] ∧ w' = w.setCell p (.iface 28 (.int .i64 1)) := by
  have hta : ∀ w : World, Sem.run Tryz.prog (Instr.typeAssert (.iface 28 (.int .i64 1)) 20 28 true) w = .ok (.tuple #[.int .i64 1, .bool true]) w := fun _ => by kernel_rfl
  refine callsD_of_wpS Tryz.func120 rfl fun c₀ cs hu => ?_
  unfold thrown at hu
  apply wpS_seq
  apply wpS_region
  simp [wpOpsS, go_sem, recoverD, hu, Tryz.ntmps120, Exit.thenS]
  refine wpS_of_wp ?_
  go_wp2
  cases c₀
  simp_all [bodyPostS, results, Tryz.results120]

/-- A list of nodes as a slice: nil, or one that lies somewhere. -/
def NS (w : World) (v : List Nd) (x : Value) : Prop := ∃ p c, x = .slice p v.length c ∧ (v = [] ∨ p.isSome = true) ∧ NL w p v ∧ v.length ≤ c ∧ c ≤ maxLen

theorem pastValue_slice (v : List Nd) (p : Option Addr) (c : Nat) (w : World) (hv : NL w p v) (hc : v.length ≤ c) (hcm : c ≤ maxLen) :
    Calls Tryz.prog 122 #[.slice p v.length c] w fun e w' => (match pastV (v.length + 1) v with | none => e = .panicked thrown | some r => ∃ q c', e = .returned (.slice q r.length c')) ∧ Below w.heap.size w w' := by
  cases v with
  | nil =>
    go_enter Tryz.func122, Tryz.ntmps122
    go_wp2_with fail
    refine (need_false _).mono ?_
    rintro e w3 ⟨rfl, rfl⟩
    go_wp2
    exact ⟨rfl, rfl, Below.refl _ _⟩
  | cons x r =>
    obtain ⟨b, off, rfl, hbw, _⟩ := hv.head
    refine (pastValue_any _ (x :: r) b off c w (Nat.lt_succ_self _) hv hc hcm).mono ?_
    rintro e w' ⟨rfl, hb⟩
    refine ⟨?_, hb⟩
    cases pastV ((x :: r).length + 1) (x :: r) with
    | none => rfl
    | some r' => exact ⟨_, _, rfl⟩

theorem walk_any (v : List Nd) (p : Option Addr) (c : Nat) (w : World) (hv : NL w p v) (hc : v.length ≤ c) (hcm : c ≤ maxLen) :
    Calls Tryz.prog 81 #[.slice p v.length c] w fun e w' => e = .returned (eV (if isVal v then 0 else 1)) ∧ Below w.heap.size w w' := by
  generalize hn : (if isVal v then (0 : Int) else 1) = n
  have HNN : Hid (_ = _) := hn
  clear hn
  have hmf : ∀ (fn : Fn) (first cap : Array Value) (w : World), (Instr.makeFunc fn first cap).run Tryz.prog w = .ok (.func fn first cap) w := fun _ _ _ _ => rfl
  have hp := pastValue_slice v p c (w.alloc (.cells #[.nilIface] 33)) (hv.up ((Below.refl _ _).alloc (Nat.le_refl _) _)) hc hcm
  have hb0 : Below w.heap.size w (w.alloc (.cells #[.nilIface] 33)) := (Below.refl _ _).alloc (Nat.le_refl _) _
  have hc0 : (w.alloc (.cells #[.nilIface] 33)).cell? ⟨w.heap.size, 0, none⟩ = some .nilIface := by simp [go_sem]
  have hz0 : (w.alloc (.cells #[.nilIface] 33)).frozen? ⟨w.heap.size, 0, none⟩ = false := by simp [go_sem]
  have hs0 : w.heap.size < (w.alloc (.cells #[.nilIface] 33)).heap.size := by simp
  cases hpv : pastV (v.length + 1) v with
  | none =>
    rw [hpv] at hp
    have HV : Hid (isVal v = false) := by show _ = _; unfold isVal; rw [hpv]
    clear hpv
    go_enter_defers Tryz.func81, Tryz.ntmps81
    go_wp2_with fail
    refine hp.mono ?_
    rintro e w1 ⟨rfl, hb⟩
    have hc1 := (hb.cell (p := ⟨w.heap.size, 0, none⟩) hs0).trans hc0
    have hz1 := (hb.frozen (p := ⟨w.heap.size, 0, none⟩) hs0).trans hz0
    go_wp2
    refine leaves_cons (f := 120) (args := #[.pointer (some ⟨w.heap.size, 0, none⟩)]) (by simp) (by simp [go_sem]) ?_
    refine (catch_thrown ⟨w.heap.size, 0, none⟩ _ .nilIface hc1 hz1).mono ?_
    rintro e u' w'' ⟨rfl, rfl, rfl⟩
    have hb2 : Below w.heap.size w (w1.setCell ⟨w.heap.size, 0, none⟩ (.iface 28 (.int .i64 1))) := (hb0.trans (hb.mono hb0.size)).setCell (Nat.le_refl _) _
    obtain rfl : n = 1 := by rw [← HNN.out, HV.out]; rfl
    simp [Leaves, settle, results, Tryz.results81, go_sem, hc1]
    exact ⟨rfl, hb2⟩
  | some r =>
    rw [hpv] at hp
    have HV : Hid (isVal v = r.isEmpty) := by show _ = _; unfold isVal; rw [hpv]
    clear hpv
    cases r with
    | nil =>
      go_enter_defers Tryz.func81, Tryz.ntmps81
      go_wp2_with fail
      refine hp.mono ?_
      rintro e w1 ⟨⟨q, c', rfl⟩, hb⟩
      have hc1 := (hb.cell (p := ⟨w.heap.size, 0, none⟩) hs0).trans hc0
      have hz1 := (hb.frozen (p := ⟨w.heap.size, 0, none⟩) hs0).trans hz0
      go_wp2_with fail
      refine (need_true _).mono ?_
      rintro e w2 ⟨rfl, rfl⟩
      go_wp2
      refine leaves_cons (f := 120) (args := #[.pointer (some ⟨w.heap.size, 0, none⟩)]) (by simp) (by simp [go_sem]) ?_
      refine (catch_idle ⟨w.heap.size, 0, none⟩ _).mono ?_
      rintro e u' w'' ⟨rfl, rfl, rfl⟩
      have hb2 : Below w.heap.size w (w2.setCell ⟨w.heap.size, 0, none⟩ .nilIface) := (hb0.trans (hb.mono hb0.size)).setCell (Nat.le_refl _) _
      obtain rfl : n = 0 := by rw [← HNN.out, HV.out]; rfl
      simp [Leaves, settle, results, Tryz.results81, go_sem, hc1]
      exact ⟨rfl, hb2⟩
    | cons x r =>
      go_enter_defers Tryz.func81, Tryz.ntmps81
      go_wp2_with fail
      refine hp.mono ?_
      rintro e w1 ⟨⟨q, c', rfl⟩, hb⟩
      have hc1 := (hb.cell (p := ⟨w.heap.size, 0, none⟩) hs0).trans hc0
      have hz1 := (hb.frozen (p := ⟨w.heap.size, 0, none⟩) hs0).trans hz0
      have ne : ((r.length : Int) + 1 == 0) = false := by simp; omega
      go_wp2_with fail
      refine (need_false _).mono ?_
      rintro e w2 ⟨rfl, rfl⟩
      go_wp2
      refine leaves_cons (f := 120) (args := #[.pointer (some ⟨w.heap.size, 0, none⟩)]) (by simp) (by simp [go_sem]) ?_
      refine (catch_thrown ⟨w.heap.size, 0, none⟩ _ .nilIface hc1 hz1).mono ?_
      rintro e u' w'' ⟨rfl, rfl, rfl⟩
      have hb2 : Below w.heap.size w (w2.setCell ⟨w.heap.size, 0, none⟩ (.iface 28 (.int .i64 1))) := (hb0.trans (hb.mono hb0.size)).setCell (Nat.le_refl _) _
      obtain rfl : n = 1 := by rw [← HNN.out, HV.out]; rfl
      simp [Leaves, settle, results, Tryz.results81, go_sem, hc1]
      exact ⟨rfl, hb2⟩

theorem vcheck_any (v : List Nd) (p : Option Addr) (c : Nat) (w : World) (hv : NL w p v) (hc : v.length ≤ c) (hcm : c ≤ maxLen) :
    Calls Tryz.prog 49 #[.slice p v.length c] w fun e w' => e = .returned (eV (vfault v)) ∧ Below w.heap.size w w' := by
  by_cases h : 200 < v.length
  · have HF : Hid (vfault v = 4) := by show _ = _; unfold vfault; rw [if_pos h]
    have h' : (200 : Int) < (v.length : Int) := by omega
    go_enter Tryz.func49, Tryz.ntmps49
    go_wp2
    go_ret
    exact ⟨by rw [HF.out]; rfl, Below.refl _ _⟩
  · have HF : Hid (vfault v = if isVal v then 0 else 1) := by show _ = _; unfold vfault; rw [if_neg h]
    have h' : ¬ (200 : Int) < (v.length : Int) := by omega
    go_enter Tryz.func49, Tryz.ntmps49
    go_wp2_with fail
    refine (walk_any v p c _ hv hc hcm).mono ?_
    rintro e w1 ⟨rfl, hb⟩
    rw [← HF.out]
    go_wp2
    go_ret
    exact ⟨rfl, hb⟩

end Go.Proofs.YtnilaghbbhmkgaaGreatDoor
namespace Go.Proofs.YtnilaghbbhmkgaaGreatDoor
open Go.RowKit
set_option linter.unusedVariables false

/-- What stands by a name: the first such Field's value. -/
def findS (fld : ByteArray) : List (List Nd) → Option (List Nd)
  | [] => none
  | [] :: ss => findS fld ss
  | (x :: t) :: ss => if x.s = fld then some t else findS fld ss

def getE : Option (List Nd) → Int
  | some _ => 0
  | none => 3
def getL : Option (List Nd) → List Nd
  | some t => t
  | none => []

theorem findS_step (fld : ByteArray) (ss : List (List Nd)) (k : Nat) (y : Nd) (t : List Nd) (h : ss[k]? = some (y :: t)) : findS fld (ss.drop k) = if y.s = fld then some t else findS fld (ss.drop (k + 1)) := by
  obtain ⟨hk, he⟩ := List.getElem?_eq_some_iff.1 h
  rw [List.drop_eq_getElem_cons hk, he]
  rfl

set_option maxRecDepth 100000 in
set_option maxHeartbeats 2000000 in
theorem get_ok (f : Nat) (x : Nd) (r : List Nd) (ss : List (List Nd)) (hss : Segs f r ss) (b off c : Nat) (fld : ByteArray) (w : World) (hv : NL w (some ⟨b, off, none⟩) (x :: r)) (hc : (x :: r).length ≤ c) (hcm : c ≤ maxLen) (h : vfault (x :: r) = 0) (h6 : x.op = 6) :
    Calls Tryz.prog 136 #[.slice (some ⟨b, off, none⟩) (x :: r).length c, .string fld] w fun e w' => (∃ q c', e = .returned (.tuple #[.slice q (getL (findS fld ss)).length c', eV (getE (findS fld ss))]) ∧ NL w' q (getL (findS fld ss)) ∧ (getL (findS fld ss)).length ≤ c' ∧ c' ≤ maxLen) ∧ Below w.heap.size w w' := by
  have H1 := vcheck_any (x :: r) _ c w hv hc hcm
  rw [eV_nil h] at H1
  obtain ⟨hl200, _⟩ := isVal_past h
  obtain ⟨b', o', hpe, hbw, x0, _⟩ := hv.head
  obtain ⟨rfl, rfl⟩ : b = b' ∧ off = o' := by simpa using hpe
  have hsl := hss.length
  have hne := hss.ne
  have hsh := hss.short
  have hit := fun w' (hb : Below w.heap.size w w') => items_fn f x r ss hss b off c w' (hv.up hb) (Nat.lt_of_lt_of_le hbw hb.size) hl200 hc hcm
  have HM : Hid (c ≤ maxLen) := hcm
  unfold maxLen at hcm
  have i0 : (0 : Int) < ((x :: r).length : Int) := by simp
  have HNE : Hid (∀ s ∈ ss, s ≠ []) := hne
  have HSH : Hid (∀ s ∈ ss, s.length ≤ r.length) := hsh
  have e6 : (x.op != 6) = false := by simpa using h6
  clear h hpe hss hne hsh h6
  simp only [List.length_cons] at *
  generalize hR : findS fld ss = R
  have HR : Hid (_ = _) := hR
  clear hR
  go_enter Tryz.func136, Tryz.ntmps136
  go_wp2_with fail
  refine H1.mono ?_
  rintro e w1 ⟨rfl, hb1⟩
  have z0 := (hb1.cell (p := ⟨b, off, none⟩) hbw).trans x0
  have hit1 := hit w1 hb1
  clear x0 hit H1
  go_wp2_with fail
  refine hit1.mono ?_
  rintro e w2 ⟨⟨lv, rfl, hol⟩, hb2'⟩
  have hb2 := hb1.trans (hb2'.mono hb1.size)
  obtain ⟨lq, lc, rfl, hll, hlc, hlm⟩ := hol.lists
  clear hit1 hol hb2'
  go_wp2
  go_loopw [23] (fun i wr => ∃ (k : Nat), k ≤ ss.length ∧ i = .int .i64 k ∧ Hid (findS fld (ss.drop k) = R) ∧ wr = w2) (fun i _ => ss.length - (intOf i).toNat)
  case atStart => exact ⟨0, Nat.zero_le _, rfl, HR, rfl⟩
  case round =>
    obtain ⟨k, hk, rfl, HF, rfl⟩ := hrel
    by_cases hlt : k < ss.length
    · obtain ⟨gb, go, q, c', rfl, hgb, hcell, hnl, h1, h2⟩ := hll.at hlt
      have hmem : ss[k] ∈ ss := List.getElem_mem _
      have hsn := HNE.out _ hmem
      have hss2 := HSH.out _ hmem
      have i1 : (k : Int) < (ss.length : Int) := by omega
      have hat : ss[k]? = some ss[k] := List.getElem?_eq_getElem hlt
      have HA : Hid (_ = _) := hat
      generalize ss[k] = s at *
      cases s with
      | nil => exact absurd rfl hsn
      | cons y t =>
        have HS : Hid (_ = _) := findS_step fld ss k y t HA.out
        obtain ⟨yb, yo, rfl, hyb, y0, y1, y2, y3, yw⟩ := hnl.head
        have j0 : (0 : Int) < (t.length : Int) + 1 := by omega
        have j1 : (1 : Int) ≤ (t.length : Int) + 1 := by omega
        clear hmem hsn hat HA
        have h2' : c' ≤ 9223372036854775807 := h2
        simp only [List.length_cons] at *
        by_cases he : y.s = fld
        · have hq : (y.s.toList == fld.toList) = true := by rw [he]; simp
          have HE : Hid (R = some t) := by show _ = _; rw [← HF.out, HS.out, if_pos he]
          obtain ⟨pr, hpr, hnr⟩ : ∃ pr, (if c' = 1 then some (⟨yb, yo, none⟩ : Addr) else some ⟨yb, yo + 4, none⟩) = some ⟨yb, pr, none⟩ ∧ NL wr (some ⟨yb, pr, none⟩) t := by
            by_cases h : c' = 1
            · exact ⟨yo, if_pos h, .inl (List.eq_nil_of_length_eq_zero (by omega))⟩
            · exact ⟨yo + 4, if_neg h, hnl.tail⟩
          have hclone := cloneNodes_fn t yb pr (c' - 1) wr hnr (by omega)
          clear he HS HF HR
          go_wp2_with fail
          refine hclone.mono ?_
          rintro e w3 ⟨⟨q3, c3, rfl, hnt, hl3, hm3⟩, hb3⟩
          clear hclone
          go_wp2
          go_ret2
          rw [HE.out]
          exact ⟨⟨q3, c3, rfl, hnt.1, hl3, hm3⟩, hb2.trans (hb3.mono hb2.size)⟩
        · have hq : (y.s.toList == fld.toList) = false := by
            simp only [beq_eq_false_iff_ne, ne_eq, ByteArray.toList_eq]
            exact fun h => he (bytes_inj h)
          have HG : Hid (findS fld (ss.drop (k + 1)) = R) := by show _ = _; rw [← HF.out, HS.out, if_neg he]
          clear he HS HF HR
          go_wp2
          go_roundw
          case rel => exact ⟨k + 1, by omega, by go_num, HG, by trivial⟩
          case measure => simp [intOf]; omega
    · have HE : Hid (R = none) := by
        show _ = _
        rw [← HF.out, List.drop_of_length_le (by omega)]; rfl
      have i1 : ¬ (k : Int) < (ss.length : Int) := by omega
      clear HF HR
      go_wp2
      go_ret2
      rw [HE.out]
      exact ⟨⟨none, 0, rfl, .inl rfl, Nat.le_refl _, Nat.zero_le _⟩, hb2⟩
end Go.Proofs.YtnilaghbbhmkgaaGreatDoor
namespace Go.Proofs.YtnilaghbbhmkgaaGreatDoor
set_option linter.unusedVariables false

theorem field_ok {s : ByteArray} (h : nfault s.data.toList = 0) : ndOk ⟨7, 0, s, ⟨#[]⟩⟩ = true := by simp [ndOk, h]

theorem strictR_loop (g : Nat) : ∀ (l : List Fd) (last : ByteArray), RStrict l → (∀ p ∈ l, nfault p.1.data.toList = 0 ∧ vfault p.2 = 0) → (∀ p ∈ l, p.2.length + 1 ≤ g) → (∀ p ∈ l, cmpB last p.1 < 0) → recLoop (pastV g) l.length last (l.map itemOf).flatten = some []
  | [], _, _, _, _, _ => rfl
  | p :: l, last, hs, hv, hg, ha => by
    have hs' := List.pairwise_cons.1 hs
    simp only [List.length_cons, List.map_cons, List.flatten_cons, itemOf, List.cons_append, recLoop]
    rw [if_pos ⟨trivial, field_ok (hv p (by simp)).1, ha p (by simp)⟩, value_behind (hv p (by simp)).2 _ (hg p (by simp))]
    exact strictR_loop g l p.1 hs'.2 (fun q hq => hv q (by simp [hq])) (fun q hq => hg q (by simp [hq])) (fun q hq => hs'.1 q hq)

theorem mem_fsize {l : List Fd} {p : Fd} (h : p ∈ l) : p.2.length + 1 ≤ fsize l := by
  induction l with
  | nil => cases h
  | cons a l ih =>
    simp only [fsize]
    rcases List.mem_cons.1 h with rfl | h
    · omega
    · have := ih h; omega

theorem recN_value {l : List Fd} (hs : RStrict l) (hv : ∀ p ∈ l, nfault p.1.data.toList = 0 ∧ vfault p.2 = 0) (hl : (recN l).length ≤ 200) : vfault (recN l) = 0 := by
  have h1 : pastV ((recN l).length + 1) (recN l) = some [] := by
    have h2 := strictR_loop (recN l).length l ⟨#[]⟩ hs hv (fun p hm => by have := mem_fsize hm; rw [recN_length]; omega) (fun p hp => name_ahead (x := ⟨7, 0, p.1, ⟨#[]⟩⟩) rfl (field_ok (hv p hp).1))
    unfold recN at h2 ⊢
    simp only [pastV]
    rw [if_pos ⟨by decide, by simp [ndOk]⟩, if_neg (by decide), if_pos trivial]
    simpa using h2
  unfold vfault
  rw [if_neg (by omega), if_pos]
  unfold isVal
  rw [h1]
  rfl

end Go.Proofs.YtnilaghbbhmkgaaGreatDoor
namespace Go.Proofs.YtnilaghbbhmkgaaGreatDoor
set_option linter.unusedVariables false

structure Rq where
  who : Ui
  act : Ui
  what : Ui
  cx : List Nd

def opV (v : List Nd) : Int := match v with | [] => 0 | x :: _ => x.op
def nV (v : List Nd) : Int := match v with | [] => 0 | x :: _ => x.n
def sV (v : List Nd) : ByteArray := match v with | [] => ⟨#[]⟩ | x :: _ => x.s
def uidV (v : List Nd) : Ui := match v with | [] => ⟨⟨#[]⟩, ⟨#[]⟩⟩ | x :: _ => ⟨x.s, x.t⟩
def tN (b : Bool) : List Nd := [⟨1, if b then 1 else 0, ⟨#[]⟩, ⟨#[]⟩⟩]
def mN (n : Int) : List Nd := [⟨2, n, ⟨#[]⟩, ⟨#[]⟩⟩]
def uN (u : Ui) : List Nd := [⟨4, 0, u.t, u.i⟩]
/-- What stands behind the expression at the front. -/
def bh (f : Nat) (v : List Nd) : List Nd := (pastE f v).getD []
theorem bh_of {f : Nat} {v r : List Nd} (h : pastE f v = some r) : bh f v = r := by unfold bh; rw [h]; rfl

/-- The parts of a set. -/
noncomputable def setR (v : List Nd) : List (List Nd) := open Classical in if h : ∃ l, IsSet l ∧ v = setN l then Classical.choose h else []
theorem setR_of {l : List (List Nd)} (h : IsSet l) : setR (setN l) = l := by
  have h1 : ∃ m, IsSet m ∧ setN l = setN m := ⟨l, h, rfl⟩
  unfold setR
  rw [dif_pos h1]
  have h2 := Classical.choose_spec h1
  exact (setN_inj h h2.1 h2.2).symm
theorem setR_spec {v : List Nd} (h : vfault v = 0) (h5 : opV v = 5) : IsSet (setR v) ∧ v = setN (setR v) := by
  obtain ⟨x, r, rfl, _⟩ := value_head h
  obtain ⟨l, hl, e⟩ := set_row h h5
  rw [e, setR_of hl]
  exact ⟨hl, rfl⟩
/-- What a record has by a name. -/
noncomputable def fldV (v : List Nd) (s : ByteArray) : Option (List Nd) :=
  match v with
  | [] => none
  | x :: r => open Classical in if h : ∃ ss, Segs (x :: r).length r ss then findS s (Classical.choose h) else none
theorem fldV_spec {x : Nd} {r : List Nd} (h : vfault (x :: r) = 0) (h6 : x.op = 6) (s : ByteArray) : ∃ ss, Segs (x :: r).length r ss ∧ fldV (x :: r) s = findS s ss := by
  obtain ⟨ss, h1, _⟩ := rec_items h h6
  have h2 : ∃ ss, Segs (x :: r).length r ss := ⟨ss, h1⟩
  refine ⟨Classical.choose h2, Classical.choose_spec h2, ?_⟩
  unfold fldV
  simp only
  rw [dif_pos h2]

/-- One value behind the other. -/
def evS (ev : List Nd → Except Int (List Nd)) (nx : List Nd → List Nd) : Nat → List Nd → Except Int (List (List Nd))
  | 0, _ => .ok []
  | k + 1, v =>
    match ev v with
    | .error n => .error n
    | .ok a =>
      match evS ev nx k (nx v) with
      | .error n => .error n
      | .ok l => .ok (a :: l)
/-- Names with values, one behind the other. -/
def evR (ev : List Nd → Except Int (List Nd)) (nx : List Nd → List Nd) : Nat → List Nd → Except Int (List Fd)
  | 0, _ => .ok []
  | _ + 1, [] => .error 0
  | k + 1, x :: v =>
    match ev v with
    | .error n => .error n
    | .ok a =>
      match evR ev nx k (nx v) with
      | .error n => .error n
      | .ok l => .ok ((x.s, a) :: l)
def setE (ps : List (List Nd)) : Except Int (List Nd) := if (setN (setL ps)).length ≤ 200 then .ok (setN (setL ps)) else .error 4
def recE (ps : List Fd) : Except Int (List Nd) := if rfault [] ps = 0 then (if (recN (recS ps)).length ≤ 200 then .ok (recN (recS ps)) else .error 4) else .error (rfault [] ps)
def wPrin : ByteArray := ⟨#[112, 114, 105, 110, 99, 105, 112, 97, 108]⟩
def wAct : ByteArray := ⟨#[97, 99, 116, 105, 111, 110]⟩
def wRes : ByteArray := ⟨#[114, 101, 115, 111, 117, 114, 99, 101]⟩
def wCtx : ByteArray := ⟨#[99, 111, 110, 116, 101, 120, 116]⟩
def varE (q : Rq) (s : ByteArray) : Except Int (List Nd) :=
  if s = wPrin then .ok (uN q.who) else if s = wAct then .ok (uN q.act) else if s = wRes then .ok (uN q.what) else if s = wCtx then .ok q.cx else .error 3
/-- A record, or that of an entity. -/
def attE (es : List En) (v : List Nd) : Except Int (List Nd) :=
  if opV v = 6 then .ok v else if opV v = 4 then (match es.find? (fun e => decide (e.u = uidV v)) with | some e => .ok e.nd | none => .error 8) else .error 2
noncomputable def hasE (es : List En) (v : List Nd) (s : ByteArray) : Except Int (List Nd) :=
  match attE es v with
  | .ok r => .ok (tN (fldV r s).isSome)
  | .error n => if n = 8 then .ok (tN false) else .error n
noncomputable def getV (es : List En) (v : List Nd) (s : ByteArray) : Except Int (List Nd) :=
  match attE es v with
  | .ok r => (match fldV r s with | some u => .ok u | none => .error 3)
  | .error n => .error n
/-- What a node with one part makes of its value. -/
noncomputable def oneE (es : List En) (x : Nd) (v : List Nd) : Except Int (List Nd) :=
  if x.op = 9 then (if opV v = 1 then .ok (tN (!(nV v == 1))) else .error 2)
  else if x.op = 10 then (if opV v = 2 then (if Fit (-nV v) then .ok (mN (-nV v)) else .error 5) else .error 2)
  else if x.op = 21 then hasE es v x.s
  else if x.op = 22 then getV es v x.s
  else if x.op = 23 then (if opV v = 3 then .ok (tN (pM (pcs x.s.data.toList) (sV v).data.toList)) else .error 2)
  else (if opV v = 4 then .ok (tN (decide (sV v = x.s))) else .error 2)
/-- The uids that a value stands for, on the right of In. -/
noncomputable def uidsE (v : List Nd) : Option (List Ui) :=
  if opV v = 5 then (if ∀ u ∈ setR v, opV u = 4 then some ((setR v).map uidV) else none) else if opV v = 4 then some [uidV v] else none
open Classical in
noncomputable def inE (es : List En) (a b : List Nd) : Except Int (List Nd) :=
  if opV a = 4 then (match uidsE b with | some us => .ok (tN (decide (∃ t ∈ us, t = uidV a ∨ Abv es (uidV a) t))) | none => .error 2) else .error 2
/-- What a node with two parts makes of their values. -/
noncomputable def twoE (es : List En) (op : Int) (a b : List Nd) : Except Int (List Nd) :=
  if op = 14 then .ok (tN (decide (lsC a b = 0)))
  else if op = 15 then (if opV a = 2 ∧ opV b = 2 then .ok (tN (decide (nV a < nV b))) else .error 2)
  else if op = 16 then (if opV a = 2 ∧ opV b = 2 then .ok (tN (decide (nV a ≤ nV b))) else .error 2)
  else if op = 20 then inE es a b
  else if op = 25 then (if opV a = 5 then .ok (tN (inB (setR a) b)) else .error 2)
  else if op = 26 then (if opV a = 5 ∧ opV b = 5 then .ok (tN (allB (setR a) (setR b))) else .error 2)
  else if op = 27 then (if opV a = 5 ∧ opV b = 5 then .ok (tN (anyB (setR a) (setR b))) else .error 2)
  else (if opV a = 2 ∧ opV b = 2 then (if nmf op (nV a) (nV b) = 0 then .ok (mN (nx op (nV a) (nV b))) else .error (nmf op (nV a) (nV b))) else .error 2)
/-- A value that must be a Bool. -/
def boolE (a : Except Int (List Nd)) : Except Int Bool :=
  match a with
  | .error n => .error n
  | .ok v => if opV v = 1 then .ok (nV v == 1) else .error 2
def lazyE (enough : Bool) (a b : Except Int (List Nd)) : Except Int (List Nd) :=
  match boolE a with
  | .error n => .error n
  | .ok t => if t = enough then .ok (tN enough) else
    match boolE b with
    | .error n => .error n
    | .ok u => .ok (tN u)
def ifE (a b c : Except Int (List Nd)) : Except Int (List Nd) :=
  match boolE a with
  | .error n => .error n
  | .ok t => if t = true then b else c
def bindE {α β : Type} (a : Except Int α) (f : α → Except Int β) : Except Int β :=
  match a with
  | .error n => .error n
  | .ok v => f v
/-- The value of the expression that a list begins with. -/
noncomputable def evE (es : List En) (q : Rq) : Nat → List Nd → Except Int (List Nd)
  | 0, _ => .error 0
  | _ + 1, [] => .error 0
  | f + 1, x :: m =>
    if 1 ≤ x.op ∧ x.op ≤ 4 then .ok [x]
    else if x.op = 5 then bindE (evS (evE es q f) (bh f) x.n.toNat m) setE
    else if x.op = 6 then bindE (evR (evE es q f) (bh f) x.n.toNat m) recE
    else if x.op = 8 then varE q x.s
    else if x.op = 11 then lazyE false (evE es q f m) (evE es q f (bh f m))
    else if x.op = 12 then lazyE true (evE es q f m) (evE es q f (bh f m))
    else if x.op = 13 then ifE (evE es q f m) (evE es q f (bh f m)) (evE es q f (bh f (bh f m)))
    else if x.op = 9 ∨ x.op = 10 ∨ 21 ≤ x.op ∧ x.op ≤ 24 then bindE (evE es q f m) (oneE es x)
    else bindE (evE es q f m) fun a => bindE (evE es q f (bh f m)) fun b => twoE es x.op a b

/-- What is wrong with a request. -/
def askf (q : Rq) : Int := if uf q.who = 0 then (if uf q.act = 0 then (if uf q.what = 0 then afault q.cx else uf q.what) else uf q.act) else uf q.who
/-- All of Value. -/
noncomputable def valueL (es : List En) (q : Rq) (e : List Nd) : Except Int (List Nd) :=
  if stf es = 0 then (if askf q = 0 then (if xfault e = 0 then evE es q (e.length + 1) e else .error (xfault e)) else .error (askf q)) else .error (stf es)
end Go.Proofs.YtnilaghbbhmkgaaGreatDoor
namespace Go.Proofs.YtnilaghbbhmkgaaGreatDoor
set_option linter.unusedVariables false

/-- The numbers of some nodes are of 64 bits. -/
def N64 (v : List Nd) : Prop := ∀ x ∈ v, x.op = 2 → Fit x.n
/-- A value. -/
structure IsV (v : List Nd) : Prop where
  val : vfault v = 0
  num : N64 v
theorem N64.tail {x : Nd} {v : List Nd} (h : N64 (x :: v)) : N64 v := fun y hy => h y (List.mem_cons_of_mem _ hy)
theorem IsV.ne {v : List Nd} (h : IsV v) : v ≠ [] := by obtain ⟨x, r, e, _⟩ := value_head h.val; rw [e]; simp
theorem IsV.len {v : List Nd} (h : IsV v) : v.length ≤ 200 := (isVal_past h.val).1
theorem one_val {x : Nd} (h7 : x.op ≠ 7) (h5 : x.op ≠ 5) (h6 : x.op ≠ 6) (h : ndOk x = true) : vfault [x] = 0 := by
  unfold vfault isVal
  simp [pastV, h7, h5, h6, h]
theorem tN_is (b : Bool) : IsV (tN b) := ⟨by cases b <;> exact one_val (by decide) (by decide) (by decide) rfl, fun x hx h => by simp only [tN, List.mem_singleton] at hx; subst hx; exact absurd h (by decide : ¬ (1 : Int) = 2)⟩
theorem mN_is {n : Int} (h : Fit n) : IsV (mN n) := ⟨one_val (by show (2 : Int) ≠ 7; decide) (by show (2 : Int) ≠ 5; decide) (by show (2 : Int) ≠ 6; decide) rfl, fun x hx _ => by simp only [mN, List.mem_singleton] at hx; subst hx; exact h⟩
theorem uN_is {u : Ui} (h : uf u = 0) : IsV (uN u) := by
  refine ⟨one_val (by show (4 : Int) ≠ 7; decide) (by show (4 : Int) ≠ 5; decide) (by show (4 : Int) ≠ 6; decide) ?_, fun x hx h => by simp only [uN, List.mem_singleton] at hx; subst hx; exact absurd h (by decide : ¬ (4 : Int) = 2)⟩
  obtain ⟨h1, h2⟩ := ufault_both h
  simp [ndOk, h1, h2]
theorem atom_is {x : Nd} (h : exOk x = true) (h4 : 1 ≤ x.op ∧ x.op ≤ 4) (hn : x.op = 2 → Fit x.n) : IsV [x] := by
  refine ⟨one_val (by omega) (by omega) (by omega) ?_, fun y hy => by simp only [List.mem_singleton] at hy; subst hy; exact hn⟩
  unfold exOk at h
  rwa [if_pos (by omega)] at h
theorem flat_N64 {l : List (List Nd)} (h : ∀ v ∈ l, N64 v) : N64 l.flatten := by
  intro x hx
  obtain ⟨v, hv, hx⟩ := List.mem_flatten.1 hx
  exact h v hv x hx
theorem setE_is {ps : List (List Nd)} {a : List Nd} (h : ∀ v ∈ ps, IsV v) (e : setE ps = .ok a) : IsV a ∧ IsSet (setL ps) ∧ a = setN (setL ps) := by
  unfold setE at e
  split at e
  · rename_i hl
    injection e with e
    subst e
    have hs : IsSet (setL ps) := ⟨strict_setL ps, fun v hv => (h v ((mem_setL ps v).1 hv)).val, hl⟩
    refine ⟨⟨hs.value, ?_⟩, hs, rfl⟩
    intro x hx
    rcases List.mem_cons.1 hx with rfl | hx
    · intro h; exact absurd h (by decide : ¬ (5 : Int) = 2)
    · exact flat_N64 (fun v hv => (h v ((mem_setL ps v).1 hv)).num) x hx
  · cases e
theorem recE_is {ps : List Fd} {a : List Nd} (h : ∀ p ∈ ps, IsV p.2) (e : recE ps = .ok a) : IsV a ∧ a = recN (recS ps) := by
  unfold recE at e
  split at e
  · rename_i hf
    split at e
    · rename_i hl
      injection e with e
      subst e
      obtain ⟨h1, _, h3⟩ := (rfault_zero [] ps).1 hf
      refine ⟨⟨recN_value (strict_recS ps h3) (fun p hp => h1 p ((perm_recS ps).mem_iff.1 hp)) hl, ?_⟩, rfl⟩
      intro x hx
      rcases List.mem_cons.1 hx with rfl | hx
      · intro h; exact absurd h (by decide : ¬ (6 : Int) = 2)
      · obtain ⟨v, hv, hx⟩ := List.mem_flatten.1 hx
        obtain ⟨p, hp, rfl⟩ := List.mem_map.1 hv
        rcases List.mem_cons.1 hx with rfl | hx
        · intro h; exact absurd h (by decide : ¬ (7 : Int) = 2)
        · exact (h p ((perm_recS ps).mem_iff.1 hp)).num x hx
    · cases e
  · cases e
theorem Segs.flat {f : Nat} {u : List Nd} {ss : List (List Nd)} (h : Segs f u ss) : u = ss.flatten := by
  induction h with
  | nil => rfl
  | cons _ _ ih => rw [List.flatten_cons, ← ih]
theorem Segs.unique {f : Nat} {u : List Nd} {ss : List (List Nd)} (h : Segs f u ss) : ∀ {tt : List (List Nd)}, Segs f u tt → ss = tt := by
  induction h with
  | nil =>
    intro tt ht
    generalize hu : ([] : List Nd) = u at ht
    cases ht with
    | nil => rfl
    | cons h1 _ =>
      obtain ⟨a', e, _, hne⟩ := itemP_off h1
      rw [← hu] at e
      have := congrArg List.length e
      simp only [List.length_nil, List.length_append] at this
      exact absurd (List.eq_nil_of_length_eq_zero (by omega)) hne
  | @cons a r ss h1 h2 ih =>
    intro tt ht
    generalize hu : a ++ r = u at ht
    cases ht with
    | nil =>
      obtain ⟨a', e, _, hne⟩ := itemP_off h1
      rw [hu] at e
      have := congrArg List.length e
      simp only [List.length_nil, List.length_append] at this
      exact absurd (List.eq_nil_of_length_eq_zero (by omega)) hne
    | @cons b s tt h3 h4 =>
      rw [← hu, h1] at h3
      have e : r = s := Option.some.inj h3
      subst e
      have e2 := List.append_cancel_right hu
      rw [ih h4, e2]
theorem rising_item : ∀ {l : ByteArray} {ss : List (List Nd)}, Rising l ss → ∀ s ∈ ss, ∃ x r, s = x :: r ∧ x.op = 7
  | _, _, .nil _, s, h => by cases h
  | _, _, .cons h7 _ hs, s, h => by
    rcases List.mem_cons.1 h with rfl | h
    · exact ⟨_, _, rfl, h7⟩
    · exact rising_item hs s h
theorem segs_item {f : Nat} {u : List Nd} {ss : List (List Nd)} (h : Segs f u ss) : ∀ s ∈ ss, ∃ r, itemP f (s ++ r) = some r := by
  induction h with
  | nil => simp
  | @cons a r ss h1 _ ih =>
    intro s hs
    rcases List.mem_cons.1 hs with rfl | hs
    · exact ⟨r, h1⟩
    · exact ih s hs
theorem findS_mem {s : ByteArray} {u : List Nd} : ∀ {ss : List (List Nd)}, findS s ss = some u → ∃ x, (x :: u) ∈ ss
  | [], h => by cases h
  | [] :: ss, h => by obtain ⟨x, hx⟩ := findS_mem (ss := ss) h; exact ⟨x, List.mem_cons_of_mem _ hx⟩
  | (y :: t) :: ss, h => by
    simp only [findS] at h
    split at h
    · injection h with h; subst h; exact ⟨y, List.mem_cons_self⟩
    · obtain ⟨x, hx⟩ := findS_mem (ss := ss) h; exact ⟨x, List.mem_cons_of_mem _ hx⟩
theorem fldV_is {v u : List Nd} (h : IsV v) (h6 : opV v = 6) {s : ByteArray} (hu : fldV v s = some u) : IsV u := by
  have hv := h.val
  obtain ⟨x, r, rfl, _⟩ := value_head hv
  obtain ⟨ss, h1, e⟩ := fldV_spec hv h6 s
  obtain ⟨tt, h2, _, h3⟩ := rec_items hv h6
  have e2 := h1.unique h2
  subst e2
  rw [e] at hu
  obtain ⟨y, hy⟩ := findS_mem hu
  obtain ⟨_, _, e3, h7⟩ := rising_item h3 _ hy
  cases e3
  obtain ⟨rr, h4⟩ := segs_item h1 _ hy
  simp only [List.cons_append, itemP, h7, if_true] at h4
  obtain ⟨a, e4, h5⟩ := pastV_front _ _ _ h4
  have e5 := List.append_cancel_right e4
  subst e5
  have hlen := (h1.short _ hy)
  have hl := h.len
  simp only [List.length_cons] at hlen hl h5
  refine ⟨?_, fun z hz => h.num z ?_⟩
  · have h8 := pastV_fuel (r.length + 1) (u.length + 1) u (by omega) (by omega)
    unfold vfault isVal
    rw [if_neg (by omega), ← h8, h5]
    rfl
  · refine List.mem_cons_of_mem _ ?_
    rw [h1.flat]
    exact List.mem_flatten.2 ⟨_, hy, List.mem_cons_of_mem _ hz⟩
end Go.Proofs.YtnilaghbbhmkgaaGreatDoor
namespace Go.Proofs.YtnilaghbbhmkgaaGreatDoor
open Go.RowKit
set_option linter.unusedVariables false

theorem NL.one (w : World) (s : ByteArray) (hs : s.size ≤ maxLen) : NL (w.alloc (.cells #[.int .i64 7, .int .i64 0, .string s, .string ⟨#[]⟩] 41)) (some ⟨w.heap.size, 0, none⟩) [⟨7, 0, s, ⟨#[]⟩⟩] := by
  refine .inr ⟨w.heap.size, 0, rfl, by simp, fun i x hx => ?_⟩
  rcases i with _ | i
  · simp at hx
    subst hx
    simp [go_sem, Nd.wf, hs]
  · simp at hx
end Go.Proofs.YtnilaghbbhmkgaaGreatDoor
