/- What stands behind a value: package val's pastValue, pastSet, pastRec, by walks of their own texts; what is no value is thrown. -/
import Derived.Test.YtjbjheeigdblkabMay
import Derived.Test.YtjbjheeigdblkabBel
import Derived.Deep.RegionWith
namespace Go.Proofs.Ytjbjheeigdblkab
open Go.RowKit
set_option linter.unusedVariables false

theorem NL.tail {w : World} {b off : Nat} {x : Nd} {r : List Nd} (h : NL w (some ⟨b, off, none⟩) (x :: r)) : NL w (some ⟨b, off + 4, none⟩) r := by
  rcases h with h | ⟨b', off', h1, h2, h3⟩
  · cases h
  · cases h1
    refine .inr ⟨_, _, rfl, h2, fun i y hy => ?_⟩
    have := h3 (i + 1) y (by simpa using hy)
    rw [show off + (i + 1) * 4 = off + 4 + i * 4 by omega] at this
    exact this

theorem NL.take {w : World} {p : Option Addr} {L : List Nd} (h : NL w p L) (n : Nat) : NL w p (L.take n) := by
  rcases h with rfl | ⟨b', off', h1, h2, h3⟩
  · exact .inl (by simp)
  · refine .inr ⟨_, _, h1, h2, fun i y hy => h3 i y ?_⟩
    rw [List.getElem?_take] at hy
    split at hy
    · exact hy
    · cases hy

theorem NL.head {w : World} {p : Option Addr} {x : Nd} {r : List Nd} (h : NL w p (x :: r)) : ∃ b off, p = some ⟨b, off, none⟩ ∧ b < w.heap.size ∧
    w.cell? ⟨b, off, none⟩ = some (.int .i64 x.op) ∧ w.cell? ⟨b, off + 1, none⟩ = some (.int .i64 x.n) ∧
    w.cell? ⟨b, off + 2, none⟩ = some (.string x.s) ∧ w.cell? ⟨b, off + 3, none⟩ = some (.string x.t) ∧ x.wf := by
  rcases h with h | ⟨b, off, h1, h2, h3⟩
  · cases h
  · exact ⟨b, off, h1, h2, by simpa using h3 0 x rfl⟩


/-- Where the slice of a list's tail begins, as Go slices it, and the slice. -/
def tailV (b off c n m : Nat) : Value := .slice (some ⟨b, off + 4 * min (n - m) (c - 1), none⟩) m (c - (n - m))

/-- How a walk past a value ends: with the slice of what stands behind it, or by a throw. -/
def Past (b off c n : Nat) : Option (List Nd) → Ending
  | some r => .returned (tailV b off c n r.length)
  | none => .panicked thrown

theorem NL.drop {w : World} {b off : Nat} {v r : List Nd} (h : NL w (some ⟨b, off, none⟩) v) (ht : IsTail r v) (c : Nat) (hc : v.length ≤ c) : NL w (some ⟨b, off + 4 * min (v.length - r.length) (c - 1), none⟩) r := by
  obtain ⟨a, rfl⟩ := ht
  cases r with
  | nil => exact .inl rfl
  | cons y r =>
    rcases h with h | ⟨b', off', h1, h2, h3⟩
    · simp at h
    · cases h1
      refine .inr ⟨_, _, rfl, h2, fun i x hx => ?_⟩
      have hl : (a ++ y :: r).length - (y :: r).length = a.length := by simp
      have hm : min ((a ++ y :: r).length - (y :: r).length) (c - 1) = a.length := by
        rw [hl]; simp at hc; omega
      have := h3 (a.length + i) x (by rw [List.getElem?_append_right (by omega)]; simpa using hx)
      rw [hm]
      rw [show off + (a.length + i) * 4 = off + 4 * a.length + i * 4 by omega] at this
      exact this

theorem setLoop_none {pv : List Nd → Option (List Nd)} {n k : Nat} (h : k < n) {last : Option (List Nd)} {v : List Nd} (e : pv v = none) : setLoop pv (n - k) last v = none := by
  rw [show n - k = (n - (k + 1)) + 1 by omega]; simp only [setLoop, e]
theorem setLoop_some {pv : List Nd → Option (List Nd)} {n k : Nat} (h : k < n) {last : Option (List Nd)} {v rest : List Nd} (e : pv v = some rest) :
    setLoop pv (n - k) last v = if aheadOf last (v.take (v.length - rest.length)) then setLoop pv (n - (k + 1)) (some (v.take (v.length - rest.length))) rest else none := by
  rw [show n - k = (n - (k + 1)) + 1 by omega]; simp only [setLoop, e]

/-- The contract of pastValue for lists that are so short. -/
def PastOk (f : Nat) : Prop := ∀ (v : List Nd) (b off c : Nat) (w : World), v.length < f → NL w (some ⟨b, off, none⟩) v → v.length ≤ c → c ≤ maxLen →
  Calls Try.prog 35 #[.slice (some ⟨b, off, none⟩) v.length c] w fun e w' => e = Past b off c v.length (pastV f v) ∧ Below w.heap.size w w'

theorem tailV_next {b off c n m k : Nat} (h1 : m ≤ n) (h2 : n ≤ c) (h3 : k < m) : tailV b (off + 4 * min (n - m) (c - 1)) (c - (n - m)) m k = tailV b off c n k := by
  unfold tailV
  rw [show off + 4 * min (n - m) (c - 1) + 4 * min (m - k) (c - (n - m) - 1) = off + 4 * min (n - k) (c - 1) by omega, show c - (n - m) - (m - k) = c - (n - k) by omega]
theorem tailV_all {b off c n : Nat} : tailV b off c n n = .slice (some ⟨b, off, none⟩) n c := by
  unfold tailV
  rw [show off + 4 * min (n - n) (c - 1) = off by omega, show c - (n - n) = c by omega]

set_option maxRecDepth 100000 in
set_option maxHeartbeats 4000000 in
theorem pastSet_any (f : Nat) (ih : PastOk f) (v : List Nd) (b off c : Nat) (cnt : Int) (w : World) (hf : v.length < f) (hv : NL w (some ⟨b, off, none⟩) v) (hc : v.length ≤ c) (hcm : c ≤ maxLen) (h0 : 0 ≤ cnt) (h1 : cnt ≤ 9223372036854775807) :
    Calls Try.prog 42 #[.slice (some ⟨b, off, none⟩) v.length c, .int .i64 cnt] w fun e w' => e = Past b off c v.length (setLoop (pastV f) cnt.toNat none v) ∧ Below w.heap.size w w' := by
  unfold maxLen at hcm
  generalize hR : setLoop (pastV f) cnt.toNat none v = R
  have HR : Hid (_ = _) := hR
  clear hR
  go_enter Try.func42, Try.ntmps42
  go_wp2
  go_loopw [0, 5, 10] (fun sv sl i wr => ∃ (k : Nat) (u : List Nd) (last : Option (List Nd)) (pl : Option Addr) (nl cl : Nat),
      (k : Int) ≤ cnt ∧ i = .int .i64 k ∧ sv = tailV b off c v.length u.length ∧ Hid (IsTail u v) ∧
      sl = .slice pl nl cl ∧ Hid (last = none ↔ k = 0) ∧ Hid (∀ l, last = some l → l.length = nl ∧ NL wr pl l ∧ nl ≤ 9223372036854775807) ∧ Hid (setLoop (pastV f) (cnt.toNat - k) last u = R) ∧ Below w.heap.size w wr) (fun _ _ i _ => cnt.toNat - (intOf i).toNat)
  case atStart => exact ⟨0, v, none, none, 0, 0, by simpa using h0, rfl, tailV_all.symm, IsTail.refl _, rfl, (iff_of_true rfl rfl : _), (fun l h => by cases h), HR, Below.refl _ _⟩
  case round =>
    obtain ⟨k, u, last, pl, nl, cl, hk, rfl, rfl, HT, rfl, HL0, HL, HS, hb⟩ := hrel
    have hul := HT.out.length
    have hu := (hv.up hb).drop HT.out c hc
    by_cases hlt : (k : Int) < cnt
    · have hkn : k < cnt.toNat := by omega
      have hpast := ih u b (off + 4 * min (v.length - u.length) (c - 1)) (c - (v.length - u.length)) wr (by omega) hu (by omega) (by unfold maxLen; omega)
      unfold tailV
      go_wp2_with fail
      refine hpast.mono ?_
      rintro e w1 ⟨rfl, hb1⟩
      have hb2 : Below w.heap.size w w1 := hb.trans (hb1.mono hb.size)
      cases hv2 : pastV f u with
      | none =>
        have HN : Hid (none = R) := by rw [← HS.out, setLoop_none hkn hv2]; rfl
        clear hv2 HS HR hpast
        unfold Past
        go_wp2
        exact ⟨rfl, by rw [← HN.out]; rfl, hb2⟩
      | some rest =>
        obtain ⟨hsh, htl⟩ := pastV_shorter hv2
        have HN : Hid (_ = _) := (setLoop_some (last := last) hkn hv2).symm.trans HS.out
        have hu1 := hu.up hb1
        have HP : Hid ((u.take (u.length - rest.length)).length = u.length - rest.length) := by show _ = _; simp
        have HX : Hid (_ = _) := tailV_next (b := b) (off := off) (c := c) (n := v.length) (m := u.length) (k := rest.length) hul hc hsh
        clear hv2 HS HR hpast
        unfold Past
        simp only []
        rw [HX.out]
        unfold tailV
        generalize off + 4 * min (v.length - u.length) (c - 1) = uo at *
        generalize hcu : c - (v.length - u.length) = cu at *
        have HCU : Hid (_ = _) := hcu
        have hcu1 : u.length ≤ cu := by omega
        clear hcu
        cases last with
        | none =>
          obtain rfl : k = 0 := HL0.out.1 rfl
          go_wp2_with fail
          refine (need_true _).mono ?_
          rintro e w2 ⟨rfl, rfl⟩
          go_wp2
          go_roundw
          case rel =>
            refine ⟨1, rest, some (u.take (u.length - rest.length)), _, u.length - rest.length, _, by omega, by go_num, rfl, htl.trans HT.out, rfl, ?_, ?_, ?_, hb2⟩
            · show (_ ↔ _); exact iff_of_false (by simp) (by simp)
            · intro l hl; cases hl; exact ⟨HP.out, hu1.take _, by omega⟩
            · have := HN.out; rw [show aheadOf none (u.take (u.length - rest.length)) = true from rfl, if_pos rfl] at this; exact this
          case measure => simp [intOf]; omega
        | some l =>
          have hk0 : k ≠ 0 := fun h => by have := HL0.out.2 h; cases this
          obtain ⟨rfl, hl, hnl⟩ := HL.out l rfl
          have e0 : ((k : Int) == 0) = false := by simp; omega
          have ho := order_any l (u.take (u.length - rest.length)) pl (some ⟨b, uo, none⟩) cl cu w1 (hl.up hb1) (hu1.take _) (by unfold maxLen; omega) (by rw [HP.out]; unfold maxLen; omega)
          rw [HP.out] at ho
          generalize hm : u.take (u.length - rest.length) = m at ho HN HP
          have HM2 : Hid (_ = _) := hm
          clear hm
          go_wp2_with fail
          refine ho.mono ?_
          rintro e w2 ⟨rfl, hu2⟩
          have hb3 : Below w.heap.size w w2 := hb2.trans (hu2.1.mono hb2.size)
          cases hlt0 : decide (lsC l m < 0)
          · go_wp2_with fail
            refine (need_false _).mono ?_
            rintro e w3 ⟨rfl, rfl⟩
            go_wp2
            refine ⟨rfl, ?_, hb3⟩
            have := HN.out; rw [show aheadOf (some l) m = false by simpa only [aheadOf] using hlt0, if_neg (by simp)] at this
            rw [← this]; rfl
          · go_wp2_with fail
            refine (need_true _).mono ?_
            rintro e w3 ⟨rfl, rfl⟩
            go_wp2
            go_roundw
            case rel =>
              refine ⟨k + 1, rest, some m, _, u.length - rest.length, _, by omega, by go_num, rfl, htl.trans HT.out, rfl, ?_, ?_, ?_, hb3⟩
              · show (_ ↔ _); exact iff_of_false (by simp) (by simp)
              · intro l hl; cases hl; exact ⟨HP.out, by rw [← HM2.out]; exact (hu1.take _).up hu2.1, by omega⟩
              · have := HN.out; rw [show aheadOf (some l) m = true by simpa only [aheadOf] using hlt0, if_pos rfl] at this; exact this
            case measure => simp [intOf]; omega
    · have HN : Hid (some u = R) := by
        have := HS.out
        rw [show cnt.toNat - k = 0 by omega] at this
        exact this
      clear HS HR
      go_wp2
      go_ret
      exact ⟨by rw [← HN.out]; rfl, hb⟩

theorem bytesLess_cb : ∀ (l m : List UInt8), Op.bytesLess l m = decide (Lib.compareBytes l m < 0)
  | [], [] => rfl
  | [], _ :: _ => rfl
  | _ :: _, [] => rfl
  | a :: x, b :: y => by
    rw [Op.bytesLess, cb_cons, bytesLess_cb x y]
    by_cases h : a < b
    · simp [h]
    · by_cases k : b < a
      · have : ¬ a = b := fun e => by subst e; exact absurd k h
        simp [h, k, this]
      · have : a = b := UInt8.le_antisymm (UInt8.not_lt.1 k) (UInt8.not_lt.1 h)
        subst this
        simp

theorem recLoop_nil {pv : List Nd → Option (List Nd)} {n k : Nat} (h : k < n) {last : ByteArray} : recLoop pv (n - k) last [] = none := by
  rw [show n - k = (n - (k + 1)) + 1 by omega]; rfl
theorem recLoop_bad {pv : List Nd → Option (List Nd)} {n k : Nat} (h : k < n) {last : ByteArray} {x : Nd} {r : List Nd} (e : ¬ (x.op = 7 ∧ ndOk x = true ∧ cmpB last x.s < 0)) : recLoop pv (n - k) last (x :: r) = none := by
  rw [show n - k = (n - (k + 1)) + 1 by omega]; simp only [recLoop, if_neg e]
theorem recLoop_go {pv : List Nd → Option (List Nd)} {n k : Nat} (h : k < n) {last : ByteArray} {x : Nd} {r : List Nd} (e : x.op = 7 ∧ ndOk x = true ∧ cmpB last x.s < 0) :
    recLoop pv (n - k) last (x :: r) = match pv r with | none => none | some rest => recLoop pv (n - (k + 1)) x.s rest := by
  rw [show n - k = (n - (k + 1)) + 1 by omega]; simp only [recLoop, if_pos e]; cases pv r <;> rfl


set_option maxRecDepth 100000 in
set_option maxHeartbeats 4000000 in
theorem pastRec_any (f : Nat) (ih : PastOk f) (v : List Nd) (b off c : Nat) (cnt : Int) (w : World) (hf : v.length < f) (hv : NL w (some ⟨b, off, none⟩) v) (hbw : b < w.heap.size) (hc : v.length ≤ c) (hcm : c ≤ maxLen) (h0 : 0 ≤ cnt) (h1 : cnt ≤ 9223372036854775807) :
    Calls Try.prog 43 #[.slice (some ⟨b, off, none⟩) v.length c, .int .i64 cnt] w fun e w' => e = Past b off c v.length (recLoop (pastV f) cnt.toNat ⟨#[]⟩ v) ∧ Below w.heap.size w w' := by
  unfold maxLen at hcm
  generalize hR : recLoop (pastV f) cnt.toNat ⟨#[]⟩ v = R
  have HR : Hid (_ = _) := hR
  clear hR
  go_enter Try.func43, Try.ntmps43
  go_wp2
  go_loopw [0, 5, 7] (fun sv sl i wr => ∃ (k : Nat) (u : List Nd) (last : ByteArray),
      (k : Int) ≤ cnt ∧ i = .int .i64 k ∧ sv = tailV b off c v.length u.length ∧ Hid (IsTail u v) ∧
      sl = .string last ∧ Hid (recLoop (pastV f) (cnt.toNat - k) last u = R) ∧ Below w.heap.size w wr) (fun _ _ i _ => cnt.toNat - (intOf i).toNat)
  case atStart => exact ⟨0, v, _, by simpa using h0, rfl, tailV_all.symm, IsTail.refl _, rfl, HR, Below.refl _ _⟩
  case round =>
    obtain ⟨k, u, last, hk, rfl, rfl, HT, rfl, HS, hb⟩ := hrel
    have hul := HT.out.length
    have hu := (hv.up hb).drop HT.out c hc
    by_cases hlt : (k : Int) < cnt
    · have hkn : k < cnt.toNat := by omega
      unfold tailV
      cases u with
      | nil =>
        have HN : Hid (none = R) := (recLoop_nil hkn).symm.trans HS.out
        clear HS HR
        go_wp2_with fail
        refine (need_false _).mono ?_
        rintro e w3 ⟨rfl, rfl⟩
        go_wp2
        exact ⟨rfl, by rw [← HN.out]; rfl, hb⟩
      | cons x r =>
        have HX2 : Hid (∀ m, m < r.length + 1 → tailV b (off + 4 * min (v.length - (x :: r).length) (c - 1)) (c - (v.length - (x :: r).length)) (x :: r).length m = tailV b off c v.length m) := fun m hm => tailV_next hul hc (by simpa using hm)
        generalize off + 4 * min (v.length - (x :: r).length) (c - 1) = xo at *
        have hcu1 : (x :: r).length ≤ c - (v.length - (x :: r).length) := by omega
        have hcu2 : c - (v.length - (x :: r).length) ≤ 9223372036854775807 := by omega
        generalize c - (v.length - (x :: r).length) = cu at *
        have hxb : b < wr.heap.size := Nat.lt_of_lt_of_le hbw hb.size
        obtain ⟨xb', xo', hpe, _, x0, x1, x2, x3, xw⟩ := hu.head
        obtain ⟨rfl, rfl⟩ : b = xb' ∧ xo = xo' := by simpa using hpe
        clear hpe
        have i0 : (0 : Int) < ((x :: r).length : Int) := by simp
        simp only [List.length_cons] at *
        cases e7 : (x.op == 7)
        · have HN : Hid (none = R) := (recLoop_bad hkn (fun h => by simp [h.1] at e7)).symm.trans HS.out
          clear HS HR
          go_wp2_with fail
          refine (need_false _).mono ?_
          rintro e w3 ⟨rfl, rfl⟩
          go_wp2
          exact ⟨rfl, by rw [← HN.out]; rfl, hb⟩
        · have HX := fun w => mayBe_any x w xw
          cases hx : ndOk x <;> rw [hx] at HX
          · have HN : Hid (none = R) := (recLoop_bad hkn (fun h => by simp [h.2.1] at hx)).symm.trans HS.out
            clear HS HR
            go_wp2_with fail
            refine (HX _).mono ?_
            rintro e w2 ⟨rfl, hb2⟩
            go_wp2_with fail
            refine (need_false _).mono ?_
            rintro e w3 ⟨rfl, rfl⟩
            go_wp2
            exact ⟨rfl, by rw [← HN.out]; rfl, hb.trans (hb2.mono hb.size)⟩
          · go_wp2_with fail
            refine (HX _).mono ?_
            rintro e w2 ⟨rfl, hb2⟩
            have hb3 : Below w.heap.size w w2 := hb.trans (hb2.mono hb.size)
            have q : ∀ o, w2.cell? ⟨b, o, none⟩ = wr.cell? ⟨b, o, none⟩ := fun o => hb2.cell (p := ⟨b, o, none⟩) hxb
            have z0 := (q xo).trans x0
            have z2 := (q (xo + 2)).trans x2
            have hu2 := hu.up hb2
            have hx2 : b < w2.heap.size := Nat.lt_of_lt_of_le hxb hb2.size
            have hbl : Op.bytesLess last.toList x.s.toList = decide (cmpB last x.s < 0) := by rw [bytesLess_cb, ByteArray.toList_eq, ByteArray.toList_eq]; rfl
            clear q x0 x1 x2 x3 hu hb2 hb
            go_wp2_with fail
            refine (need_true _).mono ?_
            rintro e w3 ⟨rfl, rfl⟩
            go_wp2_with fail
            cases hlt0 : decide (cmpB last x.s < 0)
            · have HN : Hid (none = R) := (recLoop_bad hkn (fun h => by simp [h.2.2] at hlt0)).symm.trans HS.out
              refine (need_false _).mono ?_
              rintro e w4 ⟨rfl, rfl⟩
              go_wp2
              exact ⟨rfl, by rw [← HN.out]; rfl, hb3⟩
            · have HN : Hid (_ = _) := (recLoop_go hkn ⟨by simpa using e7, hx, by simpa using hlt0⟩).symm.trans HS.out
              refine (need_true _).mono ?_
              rintro e w4 ⟨rfl, rfl⟩
              have hz2 : ∀ q : BW w4.heap.size w4, q.at_.cell? ⟨b, xo + 2, none⟩ = some (.string x.s) := fun q => (q.bel.cell (p := ⟨b, xo + 2, none⟩) hx2).trans z2
              cases hp : pastV f r with
              | some rest =>
                obtain ⟨hsh, htl⟩ := pastV_shorter hp
                have hc1 : ¬ cu = 1 := by omega
                have hcall : ∀ q : BW w4.heap.size w4, Calls Try.prog 35 #[.slice (some ⟨b, xo + 4, none⟩) r.length (cu - 1)] q.at_ (fun e w'' => e = .returned (tailV b off c v.length rest.length) ∧ ∃ p' : BW w4.heap.size w4, w'' = p'.at_) := fun q => Calls.bel q (by
                  have h := ih r b (xo + 4) (cu - 1) q.at_ (by omega) (hu2.tail.up q.bel) (by omega) (by unfold maxLen; omega)
                  rw [hp] at h
                  have e1 : tailV b (xo + 4) (cu - 1) r.length rest.length = tailV b off c v.length rest.length := by
                    rw [← HX2.out rest.length (by omega)]
                    unfold tailV
                    rw [show xo + 4 + 4 * min (r.length - rest.length) (cu - 1 - 1) = xo + 4 * min (r.length + 1 - rest.length) (cu - 1) by omega, show cu - 1 - (r.length - rest.length) = cu - (r.length + 1 - rest.length) by omega]
                  unfold Past at h
                  simp only [] at h
                  rw [e1] at h
                  exact h)
                go_wp2_with fail
                refine wp_region_bel (by kernel_rfl) (by kernel_rfl) ?_
                repeat (go_big_quiet_step (exact hcall _))
                refine wpQuiet_nil ?_
                rintro _ ⟨q, rfl⟩
                have hb5 := hb3.trans (q.bel.mono hb3.size)
                have HN2 : Hid (recLoop (pastV f) (cnt.toNat - (k + 1)) x.s rest = R) := by have := HN.out; rw [hp] at this; exact this
                clear HN hp HS HR hcall hz2
                go_wp2
                go_roundw
                case rel => exact ⟨k + 1, rest, x.s, by omega, by go_num, rfl, (htl.cons x).trans HT.out, rfl, HN2, hb5⟩
                case measure => simp [intOf]; omega
              | none =>
                have HN2 : Hid (none = R) := by have := HN.out; rw [hp] at this; exact this
                have j1 : (1 : Int) ≤ (r.length : Int) + 1 := by omega
                obtain ⟨pr, hpr, hnr⟩ : ∃ pr, (if cu = 1 then some (⟨b, xo, none⟩ : Addr) else some ⟨b, xo + 4, none⟩) = some ⟨b, pr, none⟩ ∧ NL w4 (some ⟨b, pr, none⟩) r := by
                  by_cases h : cu = 1
                  · exact ⟨xo, if_pos h, .inl (List.eq_nil_of_length_eq_zero (by omega))⟩
                  · exact ⟨xo + 4, if_neg h, hu2.tail⟩
                have hcall : ∀ q : BW w4.heap.size w4, Calls Try.prog 35 #[.slice (some ⟨b, pr, none⟩) r.length (cu - 1)] q.at_ (fun e w'' => e = .panicked thrown ∧ Below w4.heap.size w4 w'') := fun q => (by
                  have h := ih r b pr (cu - 1) q.at_ (by omega) (hnr.up q.bel) (by omega) (by unfold maxLen; omega)
                  rw [hp] at h
                  exact h.mono fun e w'' ⟨h1, h2⟩ => ⟨h1, q.bel.trans (h2.mono q.bel.size)⟩)
                clear HN hp HS HR
                go_wp2_with fail
                refine wp_mono (Q := fun e a w' => e = .panic thrown ∧ a.defers = [] ∧ Below w4.heap.size w4 w') ?_ ?_
                rotate_left
                · rintro _ a w5 ⟨rfl, hd, hb5⟩
                  go_wp2
                  exact ⟨hd, by rw [← HN2.out]; rfl, hb3.trans (hb5.mono hb3.size)⟩
                refine wp_region_any (by kernel_rfl) ?_
                refine wpAny_take (i := 0) (v := ?_) rfl (by kernel_rfl) (by kernel_rfl) (by kernel_rfl) (fun _ _ _ h => h) (Or.inl ⟨by rfl, ?_⟩) ?_
                rotate_left
                · intro w; go_simp; with_reducible rfl
                refine wpAny_take (i := 1) (v := ?_) rfl (by kernel_rfl) (by kernel_rfl) (by kernel_rfl) (fun _ _ _ h => h) (Or.inl ⟨by rfl, ?_⟩) ?_
                rotate_left
                · intro w; go_simp; with_reducible rfl
                refine wpAny_take (i := 2) (v := ?_) rfl (by kernel_rfl) (by kernel_rfl) (by kernel_rfl) (fun _ _ _ h => h) (Or.inl ⟨by rfl, ?_⟩) ?_
                rotate_left
                · intro w; go_simp; with_reducible rfl
                refine wpAny_take (i := 4) (v := ?_) rfl (by kernel_rfl) (by kernel_rfl) (by kernel_rfl) (fun _ _ _ h => h) (Or.inl ⟨by rfl, ?_⟩) ?_
                rotate_left
                · intro w; go_simp; with_reducible rfl
                refine wpAny_take (i := 5) (v := .slice (some ⟨b, pr, none⟩) r.length (cu - 1)) rfl (by kernel_rfl) (by kernel_rfl) (by kernel_rfl) (fun _ _ _ h => h) (Or.inl ⟨by rfl, ?_⟩) ?_
                · intro w; go_simp
                refine wpAny_ready (rs := [3, 6]) (by kernel_rfl) (by simp) ?_
                have c0 := hcall ⟨w4.drew, (Below.refl _ _).drew⟩
                have z3 : w4.drew.cell? ⟨b, xo + 2, none⟩ = some (.string x.s) := z2
                refine AllReady.cons rfl (fun K hK => ?_) ?_
                · go_simp
                  refine hK _ _ ?_
                  clear hK K
                  refine wpAny_ready (rs := [6]) (by kernel_rfl) (by simp) ?_
                  refine AllReady.cons rfl (fun K hK => ?_) AllReady.nil
                  go_simp
                  refine c0.mono ?_
                  rintro e w5 ⟨rfl, hb5⟩
                  exact ⟨rfl, hb5⟩
                · refine AllReady.cons rfl (fun K hK => ?_) AllReady.nil
                  go_simp
                  refine c0.mono ?_
                  rintro e w5 ⟨rfl, hb5⟩
                  exact ⟨rfl, hb5⟩
    · have HN : Hid (some u = R) := by
        have := HS.out
        rw [show cnt.toNat - k = 0 by omega] at this
        cases u <;> exact this
      clear HS HR
      go_wp2
      go_ret
      exact ⟨by rw [← HN.out]; rfl, hb⟩

theorem tailV_cons {b off c n m pr : Nat} (hpr : (if c = 1 then some (⟨b, off, none⟩ : Addr) else some ⟨b, off + 4, none⟩) = some ⟨b, pr, none⟩) (h1 : m ≤ n) (h2 : n + 1 ≤ c) : tailV b pr (c - 1) n m = tailV b off c (n + 1) m := by
  unfold tailV
  by_cases h : c = 1
  · rw [if_pos h] at hpr
    obtain rfl : off = pr := by simpa using hpr
    rw [show off + 4 * min (n - m) (c - 1 - 1) = off + 4 * min (n + 1 - m) (c - 1) by omega, show c - 1 - (n - m) = c - (n + 1 - m) by omega]
  · rw [if_neg h] at hpr
    obtain rfl : off + 4 = pr := by simpa using hpr
    rw [show off + 4 + 4 * min (n - m) (c - 1 - 1) = off + 4 * min (n + 1 - m) (c - 1) by omega, show c - 1 - (n - m) = c - (n + 1 - m) by omega]
theorem Past_cons {b off c n pr : Nat} (hpr : (if c = 1 then some (⟨b, off, none⟩ : Addr) else some ⟨b, off + 4, none⟩) = some ⟨b, pr, none⟩) (h2 : n + 1 ≤ c) (R : Option (List Nd)) (hR : ∀ r, R = some r → r.length ≤ n) : Past b pr (c - 1) n R = Past b off c (n + 1) R := by
  cases R with
  | none => rfl
  | some r => unfold Past; simp only []; rw [tailV_cons hpr (hR r rfl) h2]

theorem ndOk_count {x : Nd} (h : ndOk x = true) (h5 : x.op = 5 ∨ x.op = 6) : 0 ≤ x.n := by
  unfold ndOk at h
  rcases h5 with e | e <;> simp [e] at h <;> exact h.2

set_option maxRecDepth 100000 in
set_option maxHeartbeats 4000000 in
theorem pastValue_step (f : Nat) (ih : PastOk f) (v : List Nd) (b off c : Nat) (w : World) (hf : v.length < f + 1) (hv : NL w (some ⟨b, off, none⟩) v) (hc : v.length ≤ c) (hcm : c ≤ maxLen) :
    Calls Try.prog 35 #[.slice (some ⟨b, off, none⟩) v.length c] w fun e w' => e = Past b off c v.length (pastV (f + 1) v) ∧ Below w.heap.size w w' := by
  have HM : Hid (c ≤ maxLen) := hcm
  unfold maxLen at hcm
  cases v with
  | nil =>
    go_enter Try.func35, Try.ntmps35
    go_wp2_with fail
    refine (need_false _).mono ?_
    rintro e w3 ⟨rfl, rfl⟩
    go_wp2
    exact ⟨rfl, rfl, Below.refl _ _⟩
  | cons x r =>
    obtain ⟨b', off', hpe, hbw, x0, x1, x2, x3, xw⟩ := hv.head
    obtain ⟨rfl, rfl⟩ : b = b' ∧ off = off' := by simpa using hpe
    clear hpe
    have i0 : (0 : Int) < ((x :: r).length : Int) := by simp
    simp only [List.length_cons] at *
    cases e7 : (x.op != 7)
    · have HN : Hid (pastV (f + 1) (x :: r) = none) := by show _ = _; simp only [pastV]; rw [if_neg (fun h => by simp [h.1] at e7)]
      go_enter Try.func35, Try.ntmps35
      go_wp2_with fail
      refine (need_false _).mono ?_
      rintro e w3 ⟨rfl, rfl⟩
      go_wp2
      exact ⟨rfl, by rw [HN.out]; rfl, Below.refl _ _⟩
    · have HX := fun w => mayBe_any x w xw
      cases hx : ndOk x <;> rw [hx] at HX
      · have HN : Hid (pastV (f + 1) (x :: r) = none) := by show _ = _; simp only [pastV]; rw [if_neg (fun h => by simp [h.2] at hx)]
        go_enter Try.func35, Try.ntmps35
        go_wp2_with fail
        refine (HX _).mono ?_
        rintro e w2 ⟨rfl, hb2⟩
        go_wp2_with fail
        refine (need_false _).mono ?_
        rintro e w3 ⟨rfl, rfl⟩
        go_wp2
        exact ⟨rfl, by rw [HN.out]; rfl, hb2⟩
      · have HN : Hid (pastV (f + 1) (x :: r) = if x.op = 5 then setLoop (pastV f) x.n.toNat none r else if x.op = 6 then recLoop (pastV f) x.n.toNat ⟨#[]⟩ r else some r) := by
          show _ = _; simp only [pastV]; rw [if_pos ⟨by simpa using e7, hx⟩]
        have hcnt := ndOk_count hx
        have hnn := xw.2.2
        have j1 : (1 : Int) ≤ (r.length : Int) + 1 := by omega
        obtain ⟨pr, hpr, hnr⟩ : ∃ pr, (if c = 1 then some (⟨b, off, none⟩ : Addr) else some ⟨b, off + 4, none⟩) = some ⟨b, pr, none⟩ ∧ NL w (some ⟨b, pr, none⟩) r := by
          by_cases h : c = 1
          · exact ⟨off, if_pos h, .inl (List.eq_nil_of_length_eq_zero (by omega))⟩
          · exact ⟨off + 4, if_neg h, hv.tail⟩
        have HPC := Past_cons (n := r.length) hpr (by omega)
        have hprH : Hid _ := hpr
        have hpv : ∀ v r, pastV f v = some r → IsTail r v := fun v r e => (pastV_shorter e).2
        go_enter Try.func35, Try.ntmps35
        go_wp2_with fail
        refine (HX _).mono ?_
        rintro e w2 ⟨rfl, hb2⟩
        have q : ∀ o, w2.cell? ⟨b, o, none⟩ = w.cell? ⟨b, o, none⟩ := fun o => hb2.cell (p := ⟨b, o, none⟩) hbw
        have z0 := (q off).trans x0
        have z1 := (q (off + 1)).trans x1
        have hnr2 := hnr.up hb2
        have hbw2 := Nat.lt_of_lt_of_le hbw hb2.size
        clear q x0 x1 x2 x3
        go_wp2_with fail
        refine (need_true _).mono ?_
        rintro e w3 ⟨rfl, rfl⟩
        by_cases h5 : x.op = 5
        · have e5 : (x.op == 5) = true := by simpa using h5
          have HS : Hid (pastV (f + 1) (x :: r) = setLoop (pastV f) x.n.toNat none r) := by have := HN.out; rw [if_pos h5] at this; exact this
          have hset := fun wd (hbd : Below w3.heap.size w3 wd) => pastSet_any f ih r b pr (c - 1) x.n wd (by omega) (hnr2.up hbd) (by omega) (by unfold maxLen; omega) (hcnt (.inl h5)) hnn
          rw [HPC _ (fun r' h => (setLoop_tail hpv _ _ _ _ h).length), ← HS.out] at hset
          clear HN HS HX hcnt
          generalize hRe : pastV (f + 1) (x :: r) = R at hset
          have HRe : Hid (_ = _) := hRe
          clear hRe
          go_wp2_with fail
          refine wp_region_still_tail 6 (by kernel_rfl) (by kernel_rfl) ?_
          change wpStill _ _ w3.drew (fun a' => wpList _ _ _ _ a' w3.drew) _ _
          have hbd : Below w3.heap.size w3 w3.drew := (Below.refl _ _).drew
          have hs := hset _ hbd
          have z1' : w3.drew.cell? ⟨b, off + 1, none⟩ = some (.int .i64 x.n) := z1
          have hb6 := hb2.trans (hbd.mono hb2.size)
          clear hset hb2 hbd z0 z1 hnr2 hbw2
          generalize w3.drew = wd at *
          simp only [List.take_succ_cons, List.take_zero, List.drop_succ_cons, List.drop_zero]
          repeat still_step
          refine wpStill_nil ?_
          go_wp2_with fail
          refine hs.mono ?_
          rintro e w4 ⟨rfl, hb4⟩
          have hb5 : Below w.heap.size w w4 := hb6.trans (hb4.mono hb6.size)
          cases R with
          | none =>
            unfold Past
            go_wp2
            exact ⟨rfl, by rw [HRe.out]; rfl, hb5⟩
          | some r' =>
            unfold Past
            simp only []
            go_wp2
            go_ret
            exact ⟨by rw [HRe.out]; rfl, hb5⟩
        · have e5 : (x.op == 5) = false := by simpa using h5
          by_cases h6 : x.op = 6
          · have e6 : (x.op == 6) = true := by simpa using h6
            have HS : Hid (pastV (f + 1) (x :: r) = recLoop (pastV f) x.n.toNat ⟨#[]⟩ r) := by have := HN.out; rw [if_neg h5, if_pos h6] at this; exact this
            have hset := fun wd (hbd : Below w3.heap.size w3 wd) => pastRec_any f ih r b pr (c - 1) x.n wd (by omega) (hnr2.up hbd) (Nat.lt_of_lt_of_le hbw2 hbd.size) (by omega) (by unfold maxLen; omega) (hcnt (.inr h6)) hnn
            rw [HPC _ (fun r' h => (recLoop_tail hpv _ _ _ _ h).length), ← HS.out] at hset
            clear HN HS HX hcnt
            generalize hRe : pastV (f + 1) (x :: r) = R at hset
            have HRe : Hid (_ = _) := hRe
            clear hRe
            go_wp2_with fail
            refine wp_region_still_tail 6 (by kernel_rfl) (by kernel_rfl) ?_
            change wpStill _ _ w3.drew (fun a' => wpList _ _ _ _ a' w3.drew) _ _
            have hbd : Below w3.heap.size w3 w3.drew := (Below.refl _ _).drew
            have hs := hset _ hbd
            have z1' : w3.drew.cell? ⟨b, off + 1, none⟩ = some (.int .i64 x.n) := z1
            have hb6 := hb2.trans (hbd.mono hb2.size)
            clear hset hb2 hbd z0 z1 hnr2 hbw2
            generalize w3.drew = wd at *
            simp only [List.take_succ_cons, List.take_zero, List.drop_succ_cons, List.drop_zero]
            repeat still_step
            refine wpStill_nil ?_
            go_wp2_with fail
            refine hs.mono ?_
            rintro e w4 ⟨rfl, hb4⟩
            have hb5 : Below w.heap.size w w4 := hb6.trans (hb4.mono hb6.size)
            cases R with
            | none =>
              unfold Past
              go_wp2
              exact ⟨rfl, by rw [HRe.out]; rfl, hb5⟩
            | some r' =>
              unfold Past
              simp only []
              go_wp2
              go_ret
              exact ⟨by rw [HRe.out]; rfl, hb5⟩
          · have e6 : (x.op == 6) = false := by simpa using h6
            have HS : Hid (pastV (f + 1) (x :: r) = some r) := by have := HN.out; rw [if_neg h5, if_neg h6] at this; exact this
            have HT : Hid (Value.slice (some ⟨b, pr, none⟩) r.length (c - 1) = tailV b off c (r.length + 1) r.length) := by
              show _ = _; rw [← tailV_cons (n := r.length) (m := r.length) hpr (Nat.le_refl _) (by omega)]; exact tailV_all.symm
            clear HN HX hcnt
            go_wp2
            go_ret
            exact ⟨by rw [HS.out, HT.out]; rfl, hb2⟩
theorem pastValue_any : ∀ f, PastOk f
  | 0 => fun v b off c w h => absurd h (by omega)
  | f + 1 => fun v b off c w h1 h2 h3 h4 => pastValue_step f (pastValue_any f) v b off c w h1 h2 h3 h4
end Go.Proofs.Ytjbjheeigdblkab
