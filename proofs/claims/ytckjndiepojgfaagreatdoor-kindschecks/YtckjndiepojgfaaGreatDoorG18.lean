/- What stands behind a value: package val's pastValue, pastSet, pastRec, by walks of their own texts; what is no value is thrown. Small things on items. (Parted out of Items.) The document's Parts, and package wicketgatesame's Lists: what they return, by walks of their own texts. Fields of a type have less nodes. (Parted out of KiW.) Package kinds: missesNone, hasAll, hasFields, by walks of their own texts. Package kinds: hasFields, has, by walks of their own texts. Package val's Check: what is thrown is caught; what it tells of every list of nodes. Package kinds: has whole, and Has, by walks of their own texts. Package kinds: Has, by walks of its own text. The statements on kinds: Has of arguments. (Parted out of KlC.) -/
import Derived.Test.YtckjndiepojgfaaGreatDoorG16
import Derived.Test.YtckjndiepojgfaaGreatDoorG11
import Derived.Test.YtckjndiepojgfaaGreatDoorG6
import Derived.Deep.RegionWith
import Derived.Test.YtckjndiepojgfaaGreatDoorG10
import Derived.Lib.SliceRun
import Derived.Test.YtckjndiepojgfaaGreatDoorG17
import Derived.Defers
import Derived.Recover
import Derived.Laws.Pointers
namespace Go.Proofs.YtckjndiepojgfaaGreatDoor
open Go.RowKit
set_option linter.unusedVariables false

/-- Where the slice of a list's tail begins, as Go slices it, and the slice. -/
def tailV (b off c n m : Nat) : Value := .slice (some ⟨b, off + 4 * min (n - m) (c - 1), none⟩) m (c - (n - m))

/-- How a walk past a value ends: with the slice of what stands behind it, or by a throw. -/
def Past (b off c n : Nat) : Option (List Nd) → Ending
  | some r => .returned (tailV b off c n r.length)
  | none => .panicked thrown

theorem NL.drop {w : World} {b off : Nat} {v r : List Nd} (h : NL w (some ⟨b, off, none⟩) v) (ht : IsTail r v) (c : Nat) (hc : v.length ≤ c) : NL w (some ⟨b, off + 4 * min (v.length - r.length) (c - 1), none⟩) r := by
  obtain ⟨a, rfl⟩ := ht
  cases r with
  | nil => exact .inl rfl
  | cons y r =>
    rcases h with h | ⟨b', off', h1, h2, h3⟩
    · simp at h
    · cases h1
      refine .inr ⟨_, _, rfl, h2, fun i x hx => ?_⟩
      have hl : (a ++ y :: r).length - (y :: r).length = a.length := by simp
      have hm : min ((a ++ y :: r).length - (y :: r).length) (c - 1) = a.length := by
        rw [hl]; simp at hc; omega
      have := h3 (a.length + i) x (by rw [List.getElem?_append_right (by omega)]; simpa using hx)
      rw [hm]
      rw [show off + (a.length + i) * 4 = off + 4 * a.length + i * 4 by omega] at this
      exact this

theorem setLoop_none {pv : List Nd → Option (List Nd)} {n k : Nat} (h : k < n) {last : Option (List Nd)} {v : List Nd} (e : pv v = none) : setLoop pv (n - k) last v = none := by
  rw [show n - k = (n - (k + 1)) + 1 by omega]; simp only [setLoop, e]
theorem setLoop_some {pv : List Nd → Option (List Nd)} {n k : Nat} (h : k < n) {last : Option (List Nd)} {v rest : List Nd} (e : pv v = some rest) :
    setLoop pv (n - k) last v = if aheadOf last (v.take (v.length - rest.length)) then setLoop pv (n - (k + 1)) (some (v.take (v.length - rest.length))) rest else none := by
  rw [show n - k = (n - (k + 1)) + 1 by omega]; simp only [setLoop, e]

/-- The contract of pastValue for lists that are so short. -/
def PastOk (f : Nat) : Prop := ∀ (v : List Nd) (b off c : Nat) (w : World), v.length < f → NL w (some ⟨b, off, none⟩) v → v.length ≤ c → c ≤ maxLen →
  Calls Tryz.prog 112 #[.slice (some ⟨b, off, none⟩) v.length c] w fun e w' => e = Past b off c v.length (pastV f v) ∧ Below w.heap.size w w'

theorem tailV_next {b off c n m k : Nat} (h1 : m ≤ n) (h2 : n ≤ c) (h3 : k < m) : tailV b (off + 4 * min (n - m) (c - 1)) (c - (n - m)) m k = tailV b off c n k := by
  unfold tailV
  rw [show off + 4 * min (n - m) (c - 1) + 4 * min (m - k) (c - (n - m) - 1) = off + 4 * min (n - k) (c - 1) by omega, show c - (n - m) - (m - k) = c - (n - k) by omega]
theorem tailV_all {b off c n : Nat} : tailV b off c n n = .slice (some ⟨b, off, none⟩) n c := by
  unfold tailV
  rw [show off + 4 * min (n - n) (c - 1) = off by omega, show c - (n - n) = c by omega]

set_option maxRecDepth 100000 in
set_option maxHeartbeats 4000000 in
theorem pastSet_any (f : Nat) (ih : PastOk f) (v : List Nd) (b off c : Nat) (cnt : Int) (w : World) (hf : v.length < f) (hv : NL w (some ⟨b, off, none⟩) v) (hc : v.length ≤ c) (hcm : c ≤ maxLen) (h0 : 0 ≤ cnt) (h1 : cnt ≤ 9223372036854775807) :
    Calls Tryz.prog 159 #[.slice (some ⟨b, off, none⟩) v.length c, .int .i64 cnt] w fun e w' => e = Past b off c v.length (setLoop (pastV f) cnt.toNat none v) ∧ Below w.heap.size w w' := by
  unfold maxLen at hcm
  generalize hR : setLoop (pastV f) cnt.toNat none v = R
  have HR : Hid (_ = _) := hR
  clear hR
  go_enter Tryz.func159, Tryz.ntmps159
  go_wp2
  go_loopw [0, 5, 10] (fun sv sl i wr => ∃ (k : Nat) (u : List Nd) (last : Option (List Nd)) (pl : Option Addr) (nl cl : Nat),
      (k : Int) ≤ cnt ∧ i = .int .i64 k ∧ sv = tailV b off c v.length u.length ∧ Hid (IsTail u v) ∧
      sl = .slice pl nl cl ∧ Hid (last = none ↔ k = 0) ∧ Hid (∀ l, last = some l → l.length = nl ∧ NL wr pl l ∧ nl ≤ 9223372036854775807) ∧ Hid (setLoop (pastV f) (cnt.toNat - k) last u = R) ∧ Below w.heap.size w wr) (fun _ _ i _ => cnt.toNat - (intOf i).toNat)
  case atStart => exact ⟨0, v, none, none, 0, 0, by simpa using h0, rfl, tailV_all.symm, IsTail.refl _, rfl, (iff_of_true rfl rfl : _), (fun l h => by cases h), HR, Below.refl _ _⟩
  case round =>
    obtain ⟨k, u, last, pl, nl, cl, hk, rfl, rfl, HT, rfl, HL0, HL, HS, hb⟩ := hrel
    have hul := HT.out.length
    have hu := (hv.up hb).drop HT.out c hc
    by_cases hlt : (k : Int) < cnt
    · have hkn : k < cnt.toNat := by omega
      have hpast := ih u b (off + 4 * min (v.length - u.length) (c - 1)) (c - (v.length - u.length)) wr (by omega) hu (by omega) (by unfold maxLen; omega)
      unfold tailV
      go_wp2_with fail
      refine hpast.mono ?_
      rintro e w1 ⟨rfl, hb1⟩
      have hb2 : Below w.heap.size w w1 := hb.trans (hb1.mono hb.size)
      cases hv2 : pastV f u with
      | none =>
        have HN : Hid (none = R) := by rw [← HS.out, setLoop_none hkn hv2]; rfl
        clear hv2 HS HR hpast
        unfold Past
        go_wp2
        exact ⟨rfl, by rw [← HN.out]; rfl, hb2⟩
      | some rest =>
        obtain ⟨hsh, htl⟩ := pastV_shorter hv2
        have HN : Hid (_ = _) := (setLoop_some (last := last) hkn hv2).symm.trans HS.out
        have hu1 := hu.up hb1
        have HP : Hid ((u.take (u.length - rest.length)).length = u.length - rest.length) := by show _ = _; simp
        have HX : Hid (_ = _) := tailV_next (b := b) (off := off) (c := c) (n := v.length) (m := u.length) (k := rest.length) hul hc hsh
        clear hv2 HS HR hpast
        unfold Past
        simp only []
        rw [HX.out]
        unfold tailV
        generalize off + 4 * min (v.length - u.length) (c - 1) = uo at *
        generalize hcu : c - (v.length - u.length) = cu at *
        have HCU : Hid (_ = _) := hcu
        have hcu1 : u.length ≤ cu := by omega
        clear hcu
        cases last with
        | none =>
          obtain rfl : k = 0 := HL0.out.1 rfl
          go_wp2_with fail
          refine (need_true _).mono ?_
          rintro e w2 ⟨rfl, rfl⟩
          go_wp2
          go_roundw
          case rel =>
            refine ⟨1, rest, some (u.take (u.length - rest.length)), _, u.length - rest.length, _, by omega, by go_num, rfl, htl.trans HT.out, rfl, ?_, ?_, ?_, hb2⟩
            · show (_ ↔ _); exact iff_of_false (by simp) (by simp)
            · intro l hl; cases hl; exact ⟨HP.out, hu1.take _, by omega⟩
            · have := HN.out; rw [show aheadOf none (u.take (u.length - rest.length)) = true from rfl, if_pos rfl] at this; exact this
          case measure => simp [intOf]; omega
        | some l =>
          have hk0 : k ≠ 0 := fun h => by have := HL0.out.2 h; cases this
          obtain ⟨rfl, hl, hnl⟩ := HL.out l rfl
          have e0 : ((k : Int) == 0) = false := by simp; omega
          have ho := order_any l (u.take (u.length - rest.length)) pl (some ⟨b, uo, none⟩) cl cu w1 (hl.up hb1) (hu1.take _) (by unfold maxLen; omega) (by rw [HP.out]; unfold maxLen; omega)
          rw [HP.out] at ho
          generalize hm : u.take (u.length - rest.length) = m at ho HN HP
          have HM2 : Hid (_ = _) := hm
          clear hm
          go_wp2_with fail
          refine ho.mono ?_
          rintro e w2 ⟨rfl, hu2⟩
          have hb3 : Below w.heap.size w w2 := hb2.trans (hu2.1.mono hb2.size)
          cases hlt0 : decide (lsC l m < 0)
          · go_wp2_with fail
            refine (need_false _).mono ?_
            rintro e w3 ⟨rfl, rfl⟩
            go_wp2
            refine ⟨rfl, ?_, hb3⟩
            have := HN.out; rw [show aheadOf (some l) m = false by simpa only [aheadOf] using hlt0, if_neg (by simp)] at this
            rw [← this]; rfl
          · go_wp2_with fail
            refine (need_true _).mono ?_
            rintro e w3 ⟨rfl, rfl⟩
            go_wp2
            go_roundw
            case rel =>
              refine ⟨k + 1, rest, some m, _, u.length - rest.length, _, by omega, by go_num, rfl, htl.trans HT.out, rfl, ?_, ?_, ?_, hb3⟩
              · show (_ ↔ _); exact iff_of_false (by simp) (by simp)
              · intro l hl; cases hl; exact ⟨HP.out, by rw [← HM2.out]; exact (hu1.take _).up hu2.1, by omega⟩
              · have := HN.out; rw [show aheadOf (some l) m = true by simpa only [aheadOf] using hlt0, if_pos rfl] at this; exact this
            case measure => simp [intOf]; omega
    · have HN : Hid (some u = R) := by
        have := HS.out
        rw [show cnt.toNat - k = 0 by omega] at this
        exact this
      clear HS HR
      go_wp2
      go_ret
      exact ⟨by rw [← HN.out]; rfl, hb⟩

theorem recLoop_nil {pv : List Nd → Option (List Nd)} {n k : Nat} (h : k < n) {last : ByteArray} : recLoop pv (n - k) last [] = none := by
  rw [show n - k = (n - (k + 1)) + 1 by omega]; rfl
theorem recLoop_bad {pv : List Nd → Option (List Nd)} {n k : Nat} (h : k < n) {last : ByteArray} {x : Nd} {r : List Nd} (e : ¬ (x.op = 7 ∧ ndOk x = true ∧ cmpB last x.s < 0)) : recLoop pv (n - k) last (x :: r) = none := by
  rw [show n - k = (n - (k + 1)) + 1 by omega]; simp only [recLoop, if_neg e]
theorem recLoop_go {pv : List Nd → Option (List Nd)} {n k : Nat} (h : k < n) {last : ByteArray} {x : Nd} {r : List Nd} (e : x.op = 7 ∧ ndOk x = true ∧ cmpB last x.s < 0) :
    recLoop pv (n - k) last (x :: r) = match pv r with | none => none | some rest => recLoop pv (n - (k + 1)) x.s rest := by
  rw [show n - k = (n - (k + 1)) + 1 by omega]; simp only [recLoop, if_pos e]; cases pv r <;> rfl


set_option maxRecDepth 100000 in
set_option maxHeartbeats 4000000 in
theorem pastRec_any (f : Nat) (ih : PastOk f) (v : List Nd) (b off c : Nat) (cnt : Int) (w : World) (hf : v.length < f) (hv : NL w (some ⟨b, off, none⟩) v) (hbw : b < w.heap.size) (hc : v.length ≤ c) (hcm : c ≤ maxLen) (h0 : 0 ≤ cnt) (h1 : cnt ≤ 9223372036854775807) :
    Calls Tryz.prog 160 #[.slice (some ⟨b, off, none⟩) v.length c, .int .i64 cnt] w fun e w' => e = Past b off c v.length (recLoop (pastV f) cnt.toNat ⟨#[]⟩ v) ∧ Below w.heap.size w w' := by
  unfold maxLen at hcm
  generalize hR : recLoop (pastV f) cnt.toNat ⟨#[]⟩ v = R
  have HR : Hid (_ = _) := hR
  clear hR
  go_enter Tryz.func160, Tryz.ntmps160
  go_wp2
  go_loopw [0, 5, 7] (fun sv sl i wr => ∃ (k : Nat) (u : List Nd) (last : ByteArray),
      (k : Int) ≤ cnt ∧ i = .int .i64 k ∧ sv = tailV b off c v.length u.length ∧ Hid (IsTail u v) ∧
      sl = .string last ∧ Hid (recLoop (pastV f) (cnt.toNat - k) last u = R) ∧ Below w.heap.size w wr) (fun _ _ i _ => cnt.toNat - (intOf i).toNat)
  case atStart => exact ⟨0, v, _, by simpa using h0, rfl, tailV_all.symm, IsTail.refl _, rfl, HR, Below.refl _ _⟩
  case round =>
    obtain ⟨k, u, last, hk, rfl, rfl, HT, rfl, HS, hb⟩ := hrel
    have hul := HT.out.length
    have hu := (hv.up hb).drop HT.out c hc
    by_cases hlt : (k : Int) < cnt
    · have hkn : k < cnt.toNat := by omega
      unfold tailV
      cases u with
      | nil =>
        have HN : Hid (none = R) := (recLoop_nil hkn).symm.trans HS.out
        clear HS HR
        go_wp2_with fail
        refine (need_false _).mono ?_
        rintro e w3 ⟨rfl, rfl⟩
        go_wp2
        exact ⟨rfl, by rw [← HN.out]; rfl, hb⟩
      | cons x r =>
        have HX2 : Hid (∀ m, m < r.length + 1 → tailV b (off + 4 * min (v.length - (x :: r).length) (c - 1)) (c - (v.length - (x :: r).length)) (x :: r).length m = tailV b off c v.length m) := fun m hm => tailV_next hul hc (by simpa using hm)
        generalize off + 4 * min (v.length - (x :: r).length) (c - 1) = xo at *
        have hcu1 : (x :: r).length ≤ c - (v.length - (x :: r).length) := by omega
        have hcu2 : c - (v.length - (x :: r).length) ≤ 9223372036854775807 := by omega
        generalize c - (v.length - (x :: r).length) = cu at *
        have hxb : b < wr.heap.size := Nat.lt_of_lt_of_le hbw hb.size
        obtain ⟨xb', xo', hpe, _, x0, x1, x2, x3, xw⟩ := hu.head
        obtain ⟨rfl, rfl⟩ : b = xb' ∧ xo = xo' := by simpa using hpe
        clear hpe
        have i0 : (0 : Int) < ((x :: r).length : Int) := by simp
        simp only [List.length_cons] at *
        cases e7 : (x.op == 7)
        · have HN : Hid (none = R) := (recLoop_bad hkn (fun h => by simp [h.1] at e7)).symm.trans HS.out
          clear HS HR
          go_wp2_with fail
          refine (need_false _).mono ?_
          rintro e w3 ⟨rfl, rfl⟩
          go_wp2
          exact ⟨rfl, by rw [← HN.out]; rfl, hb⟩
        · have HX := fun w => mayBe_any x w xw
          cases hx : ndOk x <;> rw [hx] at HX
          · have HN : Hid (none = R) := (recLoop_bad hkn (fun h => by simp [h.2.1] at hx)).symm.trans HS.out
            clear HS HR
            go_wp2_with fail
            refine (HX _).mono ?_
            rintro e w2 ⟨rfl, hb2⟩
            go_wp2_with fail
            refine (need_false _).mono ?_
            rintro e w3 ⟨rfl, rfl⟩
            go_wp2
            exact ⟨rfl, by rw [← HN.out]; rfl, hb.trans (hb2.mono hb.size)⟩
          · go_wp2_with fail
            refine (HX _).mono ?_
            rintro e w2 ⟨rfl, hb2⟩
            have hb3 : Below w.heap.size w w2 := hb.trans (hb2.mono hb.size)
            have q : ∀ o, w2.cell? ⟨b, o, none⟩ = wr.cell? ⟨b, o, none⟩ := fun o => hb2.cell (p := ⟨b, o, none⟩) hxb
            have z0 := (q xo).trans x0
            have z2 := (q (xo + 2)).trans x2
            have hu2 := hu.up hb2
            have hx2 : b < w2.heap.size := Nat.lt_of_lt_of_le hxb hb2.size
            have hbl : Op.bytesLess last.toList x.s.toList = decide (cmpB last x.s < 0) := by rw [bytesLess_cb, ByteArray.toList_eq, ByteArray.toList_eq]; rfl
            clear q x0 x1 x2 x3 hu hb2 hb
            go_wp2_with fail
            refine (need_true _).mono ?_
            rintro e w3 ⟨rfl, rfl⟩
            go_wp2_with fail
            cases hlt0 : decide (cmpB last x.s < 0)
            · have HN : Hid (none = R) := (recLoop_bad hkn (fun h => by simp [h.2.2] at hlt0)).symm.trans HS.out
              refine (need_false _).mono ?_
              rintro e w4 ⟨rfl, rfl⟩
              go_wp2
              exact ⟨rfl, by rw [← HN.out]; rfl, hb3⟩
            · have HN : Hid (_ = _) := (recLoop_go hkn ⟨by simpa using e7, hx, by simpa using hlt0⟩).symm.trans HS.out
              refine (need_true _).mono ?_
              rintro e w4 ⟨rfl, rfl⟩
              have hz2 : ∀ q : BW w4.heap.size w4, q.at_.cell? ⟨b, xo + 2, none⟩ = some (.string x.s) := fun q => (q.bel.cell (p := ⟨b, xo + 2, none⟩) hx2).trans z2
              cases hp : pastV f r with
              | some rest =>
                obtain ⟨hsh, htl⟩ := pastV_shorter hp
                have hc1 : ¬ cu = 1 := by omega
                have hcall : ∀ q : BW w4.heap.size w4, Calls Tryz.prog 112 #[.slice (some ⟨b, xo + 4, none⟩) r.length (cu - 1)] q.at_ (fun e w'' => e = .returned (tailV b off c v.length rest.length) ∧ ∃ p' : BW w4.heap.size w4, w'' = p'.at_) := fun q => Calls.bel q (by
                  have h := ih r b (xo + 4) (cu - 1) q.at_ (by omega) (hu2.tail.up q.bel) (by omega) (by unfold maxLen; omega)
                  rw [hp] at h
                  have e1 : tailV b (xo + 4) (cu - 1) r.length rest.length = tailV b off c v.length rest.length := by
                    rw [← HX2.out rest.length (by omega)]
                    unfold tailV
                    rw [show xo + 4 + 4 * min (r.length - rest.length) (cu - 1 - 1) = xo + 4 * min (r.length + 1 - rest.length) (cu - 1) by omega, show cu - 1 - (r.length - rest.length) = cu - (r.length + 1 - rest.length) by omega]
                  unfold Past at h
                  simp only [] at h
                  rw [e1] at h
                  exact h)
                go_wp2_with fail
                refine wp_region_bel (by kernel_rfl) (by kernel_rfl) ?_
                repeat (go_big_quiet_step (exact hcall _))
                refine wpQuiet_nil ?_
                rintro _ ⟨q, rfl⟩
                have hb5 := hb3.trans (q.bel.mono hb3.size)
                have HN2 : Hid (recLoop (pastV f) (cnt.toNat - (k + 1)) x.s rest = R) := by have := HN.out; rw [hp] at this; exact this
                clear HN hp HS HR hcall hz2
                go_wp2
                go_roundw
                case rel => exact ⟨k + 1, rest, x.s, by omega, by go_num, rfl, (htl.cons x).trans HT.out, rfl, HN2, hb5⟩
                case measure => simp [intOf]; omega
              | none =>
                have HN2 : Hid (none = R) := by have := HN.out; rw [hp] at this; exact this
                have j1 : (1 : Int) ≤ (r.length : Int) + 1 := by omega
                obtain ⟨pr, hpr, hnr⟩ : ∃ pr, (if cu = 1 then some (⟨b, xo, none⟩ : Addr) else some ⟨b, xo + 4, none⟩) = some ⟨b, pr, none⟩ ∧ NL w4 (some ⟨b, pr, none⟩) r := by
                  by_cases h : cu = 1
                  · exact ⟨xo, if_pos h, .inl (List.eq_nil_of_length_eq_zero (by omega))⟩
                  · exact ⟨xo + 4, if_neg h, hu2.tail⟩
                have hcall : ∀ q : BW w4.heap.size w4, Calls Tryz.prog 112 #[.slice (some ⟨b, pr, none⟩) r.length (cu - 1)] q.at_ (fun e w'' => e = .panicked thrown ∧ Below w4.heap.size w4 w'') := fun q => (by
                  have h := ih r b pr (cu - 1) q.at_ (by omega) (hnr.up q.bel) (by omega) (by unfold maxLen; omega)
                  rw [hp] at h
                  exact h.mono fun e w'' ⟨h1, h2⟩ => ⟨h1, q.bel.trans (h2.mono q.bel.size)⟩)
                clear HN hp HS HR
                go_wp2_with fail
                refine wp_mono (Q := fun e a w' => e = .panic thrown ∧ a.defers = [] ∧ Below w4.heap.size w4 w') ?_ ?_
                rotate_left
                · rintro _ a w5 ⟨rfl, hd, hb5⟩
                  go_wp2
                  exact ⟨hd, by rw [← HN2.out]; rfl, hb3.trans (hb5.mono hb3.size)⟩
                refine wp_region_any (by kernel_rfl) ?_
                refine wpAny_take (i := 0) (v := ?_) rfl (by kernel_rfl) (by kernel_rfl) (by kernel_rfl) (fun _ _ _ h => h) (Or.inl ⟨by rfl, ?_⟩) ?_
                rotate_left
                · intro w; go_simp; with_reducible rfl
                refine wpAny_take (i := 1) (v := ?_) rfl (by kernel_rfl) (by kernel_rfl) (by kernel_rfl) (fun _ _ _ h => h) (Or.inl ⟨by rfl, ?_⟩) ?_
                rotate_left
                · intro w; go_simp; with_reducible rfl
                refine wpAny_take (i := 2) (v := ?_) rfl (by kernel_rfl) (by kernel_rfl) (by kernel_rfl) (fun _ _ _ h => h) (Or.inl ⟨by rfl, ?_⟩) ?_
                rotate_left
                · intro w; go_simp; with_reducible rfl
                refine wpAny_take (i := 4) (v := ?_) rfl (by kernel_rfl) (by kernel_rfl) (by kernel_rfl) (fun _ _ _ h => h) (Or.inl ⟨by rfl, ?_⟩) ?_
                rotate_left
                · intro w; go_simp; with_reducible rfl
                refine wpAny_take (i := 5) (v := .slice (some ⟨b, pr, none⟩) r.length (cu - 1)) rfl (by kernel_rfl) (by kernel_rfl) (by kernel_rfl) (fun _ _ _ h => h) (Or.inl ⟨by rfl, ?_⟩) ?_
                · intro w; go_simp
                refine wpAny_ready (rs := [3, 6]) (by kernel_rfl) (by simp) ?_
                have c0 := hcall ⟨w4.drew, (Below.refl _ _).drew⟩
                have z3 : w4.drew.cell? ⟨b, xo + 2, none⟩ = some (.string x.s) := z2
                refine AllReady.cons rfl (fun K hK => ?_) ?_
                · go_simp
                  refine hK _ _ ?_
                  clear hK K
                  refine wpAny_ready (rs := [6]) (by kernel_rfl) (by simp) ?_
                  refine AllReady.cons rfl (fun K hK => ?_) AllReady.nil
                  go_simp
                  refine c0.mono ?_
                  rintro e w5 ⟨rfl, hb5⟩
                  exact ⟨rfl, hb5⟩
                · refine AllReady.cons rfl (fun K hK => ?_) AllReady.nil
                  go_simp
                  refine c0.mono ?_
                  rintro e w5 ⟨rfl, hb5⟩
                  exact ⟨rfl, hb5⟩
    · have HN : Hid (some u = R) := by
        have := HS.out
        rw [show cnt.toNat - k = 0 by omega] at this
        cases u <;> exact this
      clear HS HR
      go_wp2
      go_ret
      exact ⟨by rw [← HN.out]; rfl, hb⟩

theorem tailV_cons {b off c n m pr : Nat} (hpr : (if c = 1 then some (⟨b, off, none⟩ : Addr) else some ⟨b, off + 4, none⟩) = some ⟨b, pr, none⟩) (h1 : m ≤ n) (h2 : n + 1 ≤ c) : tailV b pr (c - 1) n m = tailV b off c (n + 1) m := by
  unfold tailV
  by_cases h : c = 1
  · rw [if_pos h] at hpr
    obtain rfl : off = pr := by simpa using hpr
    rw [show off + 4 * min (n - m) (c - 1 - 1) = off + 4 * min (n + 1 - m) (c - 1) by omega, show c - 1 - (n - m) = c - (n + 1 - m) by omega]
  · rw [if_neg h] at hpr
    obtain rfl : off + 4 = pr := by simpa using hpr
    rw [show off + 4 + 4 * min (n - m) (c - 1 - 1) = off + 4 * min (n + 1 - m) (c - 1) by omega, show c - 1 - (n - m) = c - (n + 1 - m) by omega]
theorem Past_cons {b off c n pr : Nat} (hpr : (if c = 1 then some (⟨b, off, none⟩ : Addr) else some ⟨b, off + 4, none⟩) = some ⟨b, pr, none⟩) (h2 : n + 1 ≤ c) (R : Option (List Nd)) (hR : ∀ r, R = some r → r.length ≤ n) : Past b pr (c - 1) n R = Past b off c (n + 1) R := by
  cases R with
  | none => rfl
  | some r => unfold Past; simp only []; rw [tailV_cons hpr (hR r rfl) h2]

theorem ndOk_count {x : Nd} (h : ndOk x = true) (h5 : x.op = 5 ∨ x.op = 6) : 0 ≤ x.n := by
  unfold ndOk at h
  rcases h5 with e | e <;> simp [e] at h <;> exact h.2

set_option maxRecDepth 100000 in
set_option maxHeartbeats 4000000 in
theorem pastValue_step (f : Nat) (ih : PastOk f) (v : List Nd) (b off c : Nat) (w : World) (hf : v.length < f + 1) (hv : NL w (some ⟨b, off, none⟩) v) (hc : v.length ≤ c) (hcm : c ≤ maxLen) :
    Calls Tryz.prog 112 #[.slice (some ⟨b, off, none⟩) v.length c] w fun e w' => e = Past b off c v.length (pastV (f + 1) v) ∧ Below w.heap.size w w' := by
  have HM : Hid (c ≤ maxLen) := hcm
  unfold maxLen at hcm
  cases v with
  | nil =>
    go_enter Tryz.func112, Tryz.ntmps112
    go_wp2_with fail
    refine (need_false _).mono ?_
    rintro e w3 ⟨rfl, rfl⟩
    go_wp2
    exact ⟨rfl, rfl, Below.refl _ _⟩
  | cons x r =>
    obtain ⟨b', off', hpe, hbw, x0, x1, x2, x3, xw⟩ := hv.head
    obtain ⟨rfl, rfl⟩ : b = b' ∧ off = off' := by simpa using hpe
    clear hpe
    have i0 : (0 : Int) < ((x :: r).length : Int) := by simp
    simp only [List.length_cons] at *
    cases e7 : (x.op != 7)
    · have HN : Hid (pastV (f + 1) (x :: r) = none) := by show _ = _; simp only [pastV]; rw [if_neg (fun h => by simp [h.1] at e7)]
      go_enter Tryz.func112, Tryz.ntmps112
      go_wp2_with fail
      refine (need_false _).mono ?_
      rintro e w3 ⟨rfl, rfl⟩
      go_wp2
      exact ⟨rfl, by rw [HN.out]; rfl, Below.refl _ _⟩
    · have HX := fun w => mayBe_any x w xw
      cases hx : ndOk x <;> rw [hx] at HX
      · have HN : Hid (pastV (f + 1) (x :: r) = none) := by show _ = _; simp only [pastV]; rw [if_neg (fun h => by simp [h.2] at hx)]
        go_enter Tryz.func112, Tryz.ntmps112
        go_wp2_with fail
        refine (HX _).mono ?_
        rintro e w2 ⟨rfl, hb2⟩
        go_wp2_with fail
        refine (need_false _).mono ?_
        rintro e w3 ⟨rfl, rfl⟩
        go_wp2
        exact ⟨rfl, by rw [HN.out]; rfl, hb2⟩
      · have HN : Hid (pastV (f + 1) (x :: r) = if x.op = 5 then setLoop (pastV f) x.n.toNat none r else if x.op = 6 then recLoop (pastV f) x.n.toNat ⟨#[]⟩ r else some r) := by
          show _ = _; simp only [pastV]; rw [if_pos ⟨by simpa using e7, hx⟩]
        have hcnt := ndOk_count hx
        have hnn := xw.2.2
        have j1 : (1 : Int) ≤ (r.length : Int) + 1 := by omega
        obtain ⟨pr, hpr, hnr⟩ : ∃ pr, (if c = 1 then some (⟨b, off, none⟩ : Addr) else some ⟨b, off + 4, none⟩) = some ⟨b, pr, none⟩ ∧ NL w (some ⟨b, pr, none⟩) r := by
          by_cases h : c = 1
          · exact ⟨off, if_pos h, .inl (List.eq_nil_of_length_eq_zero (by omega))⟩
          · exact ⟨off + 4, if_neg h, hv.tail⟩
        have HPC := Past_cons (n := r.length) hpr (by omega)
        have hprH : Hid _ := hpr
        have hpv : ∀ v r, pastV f v = some r → IsTail r v := fun v r e => (pastV_shorter e).2
        go_enter Tryz.func112, Tryz.ntmps112
        go_wp2_with fail
        refine (HX _).mono ?_
        rintro e w2 ⟨rfl, hb2⟩
        have q : ∀ o, w2.cell? ⟨b, o, none⟩ = w.cell? ⟨b, o, none⟩ := fun o => hb2.cell (p := ⟨b, o, none⟩) hbw
        have z0 := (q off).trans x0
        have z1 := (q (off + 1)).trans x1
        have hnr2 := hnr.up hb2
        have hbw2 := Nat.lt_of_lt_of_le hbw hb2.size
        clear q x0 x1 x2 x3
        go_wp2_with fail
        refine (need_true _).mono ?_
        rintro e w3 ⟨rfl, rfl⟩
        by_cases h5 : x.op = 5
        · have e5 : (x.op == 5) = true := by simpa using h5
          have HS : Hid (pastV (f + 1) (x :: r) = setLoop (pastV f) x.n.toNat none r) := by have := HN.out; rw [if_pos h5] at this; exact this
          have hset := fun wd (hbd : Below w3.heap.size w3 wd) => pastSet_any f ih r b pr (c - 1) x.n wd (by omega) (hnr2.up hbd) (by omega) (by unfold maxLen; omega) (hcnt (.inl h5)) hnn
          rw [HPC _ (fun r' h => (setLoop_tail hpv _ _ _ _ h).length), ← HS.out] at hset
          clear HN HS HX hcnt
          generalize hRe : pastV (f + 1) (x :: r) = R at hset
          have HRe : Hid (_ = _) := hRe
          clear hRe
          go_wp2_with fail
          refine wp_region_still_tail 6 (by kernel_rfl) (by kernel_rfl) ?_
          change wpStill _ _ w3.drew (fun a' => wpList _ _ _ _ a' w3.drew) _ _
          have hbd : Below w3.heap.size w3 w3.drew := (Below.refl _ _).drew
          have hs := hset _ hbd
          have z1' : w3.drew.cell? ⟨b, off + 1, none⟩ = some (.int .i64 x.n) := z1
          have hb6 := hb2.trans (hbd.mono hb2.size)
          clear hset hb2 hbd z0 z1 hnr2 hbw2
          generalize w3.drew = wd at *
          simp only [List.take_succ_cons, List.take_zero, List.drop_succ_cons, List.drop_zero]
          repeat still_step
          refine wpStill_nil ?_
          go_wp2_with fail
          refine hs.mono ?_
          rintro e w4 ⟨rfl, hb4⟩
          have hb5 : Below w.heap.size w w4 := hb6.trans (hb4.mono hb6.size)
          cases R with
          | none =>
            unfold Past
            go_wp2
            exact ⟨rfl, by rw [HRe.out]; rfl, hb5⟩
          | some r' =>
            unfold Past
            simp only []
            go_wp2
            go_ret
            exact ⟨by rw [HRe.out]; rfl, hb5⟩
        · have e5 : (x.op == 5) = false := by simpa using h5
          by_cases h6 : x.op = 6
          · have e6 : (x.op == 6) = true := by simpa using h6
            have HS : Hid (pastV (f + 1) (x :: r) = recLoop (pastV f) x.n.toNat ⟨#[]⟩ r) := by have := HN.out; rw [if_neg h5, if_pos h6] at this; exact this
            have hset := fun wd (hbd : Below w3.heap.size w3 wd) => pastRec_any f ih r b pr (c - 1) x.n wd (by omega) (hnr2.up hbd) (Nat.lt_of_lt_of_le hbw2 hbd.size) (by omega) (by unfold maxLen; omega) (hcnt (.inr h6)) hnn
            rw [HPC _ (fun r' h => (recLoop_tail hpv _ _ _ _ h).length), ← HS.out] at hset
            clear HN HS HX hcnt
            generalize hRe : pastV (f + 1) (x :: r) = R at hset
            have HRe : Hid (_ = _) := hRe
            clear hRe
            go_wp2_with fail
            refine wp_region_still_tail 6 (by kernel_rfl) (by kernel_rfl) ?_
            change wpStill _ _ w3.drew (fun a' => wpList _ _ _ _ a' w3.drew) _ _
            have hbd : Below w3.heap.size w3 w3.drew := (Below.refl _ _).drew
            have hs := hset _ hbd
            have z1' : w3.drew.cell? ⟨b, off + 1, none⟩ = some (.int .i64 x.n) := z1
            have hb6 := hb2.trans (hbd.mono hb2.size)
            clear hset hb2 hbd z0 z1 hnr2 hbw2
            generalize w3.drew = wd at *
            simp only [List.take_succ_cons, List.take_zero, List.drop_succ_cons, List.drop_zero]
            repeat still_step
            refine wpStill_nil ?_
            go_wp2_with fail
            refine hs.mono ?_
            rintro e w4 ⟨rfl, hb4⟩
            have hb5 : Below w.heap.size w w4 := hb6.trans (hb4.mono hb6.size)
            cases R with
            | none =>
              unfold Past
              go_wp2
              exact ⟨rfl, by rw [HRe.out]; rfl, hb5⟩
            | some r' =>
              unfold Past
              simp only []
              go_wp2
              go_ret
              exact ⟨by rw [HRe.out]; rfl, hb5⟩
          · have e6 : (x.op == 6) = false := by simpa using h6
            have HS : Hid (pastV (f + 1) (x :: r) = some r) := by have := HN.out; rw [if_neg h5, if_neg h6] at this; exact this
            have HT : Hid (Value.slice (some ⟨b, pr, none⟩) r.length (c - 1) = tailV b off c (r.length + 1) r.length) := by
              show _ = _; rw [← tailV_cons (n := r.length) (m := r.length) hpr (Nat.le_refl _) (by omega)]; exact tailV_all.symm
            clear HN HX hcnt
            go_wp2
            go_ret
            exact ⟨by rw [HS.out, HT.out]; rfl, hb2⟩
theorem pastValue_any : ∀ f, PastOk f
  | 0 => fun v b off c w h => absurd h (by omega)
  | f + 1 => fun v b off c w h1 h2 h3 h4 => pastValue_step f (pastValue_any f) v b off c w h1 h2 h3 h4
end Go.Proofs.YtckjndiepojgfaaGreatDoor
namespace Go.Proofs.YtckjndiepojgfaaGreatDoor
open Go.RowKit
set_option linter.unusedVariables false

theorem ret_it {k : IntKind} {a b : Int} (h : a = b) : Ending.returned (.int k a) = .returned (.int k b) := by rw [h]

def lenV : Value → Nat
  | .slice _ n _ => n
  | _ => 0

theorem Segs.length {f : Nat} {u : List Nd} {ss : List (List Nd)} (h : Segs f u ss) : ss.length ≤ u.length := by
  induction h with
  | nil => simp
  | cons h hs ih =>
    obtain ⟨a', e, _, hne⟩ := itemP_off h
    have := List.append_cancel_right e
    subst this
    have := List.length_pos_iff.2 hne
    simp; omega

end Go.Proofs.YtckjndiepojgfaaGreatDoor
namespace Go.Proofs.YtckjndiepojgfaaGreatDoor
open Go.RowKit
set_option linter.unusedVariables false

theorem append_listN (w : World) {ops : Array Oper} {rest : List Oper} {o : Oper} {a : Act} {Q : Exit → Act → World → Prop} (hgd : o.guard = none) (s x : Operand)
    (ho : o.op = .call { callee := .builtin .append, args := #[s, x], argTypes := #[64, 64] })
    (base : Nat) (v : Value) (vs : List (List Nd)) (hs : a.eval s = v) (hown : OL w base v vs) (L : List Nd) (n : Nat) (hn : L.length = n) (q : Option Addr) (c : Nat) (hN : NT w base q L) (hlc : n ≤ c) (hcm : c ≤ maxLen)
    (hx : a.eval x = .slice (some ⟨w.heap.size, 0, none⟩) 1 1) (hlen : vs.length + 1 ≤ 1099511627776) (hbase : base ≤ w.heap.size)
    (h : ∀ v' w', OL w' base v' (vs ++ [L]) → Kept base 22 w w' → wpList Tryz.prog ops Q rest (a.put o.dst v') w') : wpList Tryz.prog ops Q (o :: rest) a (w.alloc (.cells #[.slice q n c] 22)) := by
  subst hn
  exact append_list w hgd s x ho base v vs hs hown L q c hN hlc hcm hx hlen hbase h

/-- What Parts hands back: the parts, and their names. -/
def PartsRet (w : World) (ss : List (List Nd)) (e : Ending) : Prop := ∃ q1 c1 q2 c2, e = .returned (.tuple #[.slice q1 ss.length c1, .slice q2 ss.length c2]) ∧ LL w q1 (ss.map strip) ∧ TL w q2 (ss.map nameOf)

theorem Segs.drop_eq {v : List Nd} {at_ : Nat} {a r : List Nd} (h : v.drop at_ = a ++ r) : v.drop (at_ + a.length) = r ∧ (v.drop at_).take a.length = a := by
  refine ⟨?_, by rw [h, List.take_left]⟩
  rw [← List.drop_drop, h, List.drop_left]

theorem Rising.heads {l : ByteArray} {ss : List (List Nd)} (h : Rising l ss) : ∀ s ∈ ss, ∃ y t, s = y :: t ∧ y.op = 7 := by
  induction h with
  | nil => simp
  | cons h7 hl hs ih =>
    intro s hs'
    rcases List.mem_cons.1 hs' with rfl | hs'
    · exact ⟨_, _, rfl, h7⟩
    · exact ih s hs'

set_option maxRecDepth 100000 in
set_option maxHeartbeats 600000 in
theorem refParts_set (x : Nd) (r : List Nd) (ss : List (List Nd)) (hss : Segs (x :: r).length r ss) (hh : ∀ s ∈ ss, ∃ y t, s = y :: t ∧ y.op ≠ 7) (hcnt : (ss.length : Int) = x.n) (b off c : Nat) (w : World) (hv : NL w (some ⟨b, off, none⟩) (x :: r)) (hbw : b < w.heap.size) (hl : (x :: r).length ≤ 200) (hc : (x :: r).length ≤ c) (hcm : c ≤ maxLen) (hop : x.op = 5) :
    Calls Tryz.prog 26 #[.slice (some ⟨b, off, none⟩) (x :: r).length c] w fun e w' => PartsRet w' ss e ∧ Below w.heap.size w w' := by
  have HM : Hid (c ≤ maxLen) := hcm
  unfold maxLen at hcm
  have hsl := hss.length
  obtain ⟨b', o', hpe, _, x0, x1, _, _, xw⟩ := hv.head
  obtain ⟨rfl, rfl⟩ : b = b' ∧ off = o' := by simpa using hpe
  have HSS : Hid (Segs (x :: r).length r ss) := hss
  have HH : Hid (∀ s ∈ ss, ∃ y t, s = y :: t ∧ y.op ≠ 7) := hh
  generalize hV : x :: r = v at *
  have hvl : v.length = r.length + 1 := by rw [← hV]; rfl
  have HVL : Hid (v.length = r.length + 1) := hvl
  have hd1 : v.drop 1 = r := by rw [← hV]; rfl
  have HD1 : Hid (_ = _) := hd1
  have eop : (x.op == 6) = false := by simp [hop]
  have i0 : (0 : Int) < (v.length : Int) := by omega
  have hsl2 : ss.length + 1 ≤ v.length := by omega
  clear hss hh hpe hop hV hd1 hvl
  go_enter Tryz.func26, Tryz.ntmps26
  go_wp2
  go_loopw [4, 5, 6, 7, 8] (fun ov nv sa i sn wr => ∃ (k at_ : Nat) (done ss' : List (List Nd)), i = .int .i64 k ∧ sa = .int .i64 at_ ∧ OL wr w.heap.size ov (done.map strip) ∧ OT wr w.heap.size nv (done.map nameOf) ∧ done.length = k ∧ Hid (Segs v.length (v.drop at_) ss') ∧ Hid (done ++ ss' = ss) ∧ at_ ≤ v.length ∧ 1 ≤ at_ ∧ Below w.heap.size w wr) (fun _ _ _ i _ _ => ss.length - (intOf i).toNat)
  case atStart => exact ⟨0, 1, [], ss, rfl, rfl, OL.nil _ _, Row1.nil _ _ _, rfl, by rw [HD1.out]; exact HSS, rfl, by omega, Nat.le_refl _, Below.refl _ _⟩
  case round =>
    obtain ⟨k, at_, done, ss', rfl, rfl, hol, hot, hdl, HSg, HD, hat, hat1, hb⟩ := hrel
    have z0 := (hb.cell (p := ⟨b, off, none⟩) hbw).trans x0
    have z1 := (hb.cell (p := ⟨b, off + 1, none⟩) hbw).trans x1
    have hlen := congrArg List.length HD.out
    rw [List.length_append] at hlen
    have hvr := hv.up hb
    generalize hu : v.drop at_ = u at *
    cases hsg : HSg.out with
    | nil =>
      have HE : Hid (done = ss) := by have := HD.out; show _ = _; simpa using this
      simp at hlen
      have i1 : ¬ (k : Int) < x.n := by omega
      clear hsg
      obtain ⟨q1, c1, rfl, hll, _⟩ := hol.lists
      obtain ⟨q2, c2, rfl, htl, _⟩ := hot.texts
      rw [HE.out] at hll htl ⊢
      simp only [List.length_map]
      go_wp2
      go_ret2
      exact ⟨⟨q1, c1, q2, c2, rfl, hll, htl⟩, hb⟩
    | @cons a r' ss2 h hs =>
      obtain ⟨y, t, rfl, hy⟩ := HH.out a (by rw [← HD.out]; simp)
      simp at hlen
      have hul : (v.drop at_).length = v.length - at_ := by simp
      rw [hu] at hul
      simp at hul
      have i1 : (k : Int) < x.n := by omega
      have hda := Segs.drop_eq hu
      simp only [List.length_cons] at hda
      have HS2 : Hid (Segs v.length r' ss2) := hs
      have halt : at_ < v.length := by omega
      have HY : Hid (y.op ≠ 7) := hy
      have hpv : pastV v.length ((y :: t) ++ r') = some r' := by
        have := h
        simp only [List.cons_append, itemP, if_neg hy] at this
        exact this
      have hendc := fun w' (hb' : Below w.heap.size w w') => valueEnd_any (v.length + 1) v b off c at_ false w' (by omega) (by omega) (hv.up hb') (Nat.lt_of_lt_of_le hbw hb'.size) hc HM.out
      rw [pastF_value, hu, pastV_fuel (v.length + 1) v.length ((y :: t) ++ r') (by simp; omega) (by simp; omega), hpv] at hendc
      have hen : endI v.length (some r') = ((at_ + 1 + t.length : Nat) : Int) := by unfold endI; simp only []; omega
      rw [hen] at hendc
      have j1 : (at_ : Int) ≤ ((at_ + 1 + t.length : Nat) : Int) := by omega
      have j2 : ((at_ + 1 + t.length : Nat) : Int) ≤ (c : Int) := by omega
      have hst : strip (y :: t) = y :: t := by show (if y.op = 7 then t else y :: t) = _; rw [if_neg hy]
      have hnm : nameOf (y :: t) = ⟨#[]⟩ := by show (if y.op = 7 then y.s else _) = _; rw [if_neg hy]
      have j4 : ¬ c = at_ := by omega
      have hT : NL w (some ⟨b, off + at_ * 4, none⟩) (y :: t) := by
        have := hv.from at_ (y :: t).length
        rw [hu, List.take_left] at this
        exact this
      generalize hen2 : at_ + 1 + t.length = en at *
      have HEN : Hid (_ = _) := hen2
      clear hsg h hs hpv hu hen hy hen2
      go_wp2_with fail
      refine (hendc _ hb).mono ?_
      rintro e w1 ⟨rfl, hb1⟩
      have hb2 := hb.trans (hb1.mono hb.size)
      have hol1 := hol.below hb1 hb.size
      have hot1 : OT w1 w.heap.size u5 (done.map nameOf) := Row1.kept (e := 391) hot (Kept.of_below hb1 hb.size) (by decide)
      have hNT : NT w1 w.heap.size (some ⟨b, off + at_ * 4, none⟩) (y :: t) := ⟨hT.up hb2, .inr ⟨b, _, rfl, .inl hbw⟩⟩
      have hLn : (y :: t).length = (en - at_) := by have := HEN.out; first | (simp; omega) | omega
      have hdm : (done.map strip).length ≤ 200 := by simp; omega
      have hdm2 : (done.map nameOf).length ≤ 200 := by simp; omega
      clear hendc hol hot z0 z1
      have HOL : Hid (OL w1 w.heap.size u4 (done.map strip)) := hol1
      have HOT : Hid (OT w1 w.heap.size u5 (done.map nameOf)) := hot1
      clear hol1 hot1
      go_wp2_with (first
        | (at_builtin; refine append_listN w1 rfl (.tmp 33) (.tmp 38) rfl w.heap.size u4 (done.map strip) rfl HOL.out (y :: t) (en - at_) hLn (some ⟨b, off + at_ * 4, none⟩) (c - at_) hNT (by omega) (by unfold maxLen; omega) rfl (by omega) hb2.size ?_; intro v1 w2 hol2 hk2; have hot2 : OT w2 w.heap.size u5 (done.map nameOf) := Row1.kept HOT.out hk2 (by decide); have hb3 := hb2.trans hk2.bel; have HO2 : Hid (OL w2 w.heap.size v1 (done.map strip ++ [(y :: t)])) := hol2; clear hol2)
        | (at_builtin; refine append_text w2 rfl (.tmp 40) (.tmp 42) rfl w.heap.size u5 (done.map nameOf) rfl hot2 ⟨#[]⟩ rfl (by omega) hb3.size ?_; intro v2 w3 hot3 hk3))
      have hol3 := HO2.out.kept hk3 (by decide) (by decide)
      go_roundw
      case rel => exact ⟨k + 1, en, done ++ [y :: t], ss2, by go_num, rfl, by rw [List.map_append, List.map_cons, hst]; exact hol3, by rw [List.map_append, List.map_cons, hnm]; exact hot3, by simp [hdl], by rw [← HEN.out, show at_ + 1 + t.length = at_ + (t.length + 1) by omega, hda.1]; exact HS2, by show _ = _; rw [← HD.out]; simp, by have := HEN.out; omega, by have := HEN.out; omega, hb3.trans hk3.bel⟩
      case measure => simp [intOf]; omega

set_option maxRecDepth 100000 in
set_option maxHeartbeats 600000 in
theorem refParts_rec (x : Nd) (r : List Nd) (ss : List (List Nd)) (hss : Segs (x :: r).length r ss) (hh : ∀ s ∈ ss, ∃ y t, s = y :: t ∧ y.op = 7) (hcnt : (ss.length : Int) = x.n) (b off c : Nat) (w : World) (hv : NL w (some ⟨b, off, none⟩) (x :: r)) (hbw : b < w.heap.size) (hl : (x :: r).length ≤ 200) (hc : (x :: r).length ≤ c) (hcm : c ≤ maxLen) (hop : x.op = 6) :
    Calls Tryz.prog 26 #[.slice (some ⟨b, off, none⟩) (x :: r).length c] w fun e w' => PartsRet w' ss e ∧ Below w.heap.size w w' := by
  have HM : Hid (c ≤ maxLen) := hcm
  unfold maxLen at hcm
  have hsl := hss.length
  obtain ⟨b', o', hpe, _, x0, x1, _, _, xw⟩ := hv.head
  obtain ⟨rfl, rfl⟩ : b = b' ∧ off = o' := by simpa using hpe
  have HSS : Hid (Segs (x :: r).length r ss) := hss
  have HH : Hid (∀ s ∈ ss, ∃ y t, s = y :: t ∧ y.op = 7) := hh
  generalize hV : x :: r = v at *
  have hvl : v.length = r.length + 1 := by rw [← hV]; rfl
  have HVL : Hid (v.length = r.length + 1) := hvl
  have hd1 : v.drop 1 = r := by rw [← hV]; rfl
  have HD1 : Hid (_ = _) := hd1
  have eop : (x.op == 6) = true := by simp [hop]
  have i0 : (0 : Int) < (v.length : Int) := by omega
  have hsl2 : ss.length + 1 ≤ v.length := by omega
  clear hss hh hpe hop hV hd1 hvl
  go_enter Tryz.func26, Tryz.ntmps26
  go_wp2
  go_loopw [4, 5, 6, 7, 8] (fun ov nv sa i sn wr => ∃ (k at_ : Nat) (done ss' : List (List Nd)), i = .int .i64 k ∧ sa = .int .i64 at_ ∧ OL wr w.heap.size ov (done.map strip) ∧ OT wr w.heap.size nv (done.map nameOf) ∧ done.length = k ∧ Hid (Segs v.length (v.drop at_) ss') ∧ Hid (done ++ ss' = ss) ∧ at_ ≤ v.length ∧ 1 ≤ at_ ∧ Below w.heap.size w wr) (fun _ _ _ i _ _ => ss.length - (intOf i).toNat)
  case atStart => exact ⟨0, 1, [], ss, rfl, rfl, OL.nil _ _, Row1.nil _ _ _, rfl, by rw [HD1.out]; exact HSS, rfl, by omega, Nat.le_refl _, Below.refl _ _⟩
  case round =>
    obtain ⟨k, at_, done, ss', rfl, rfl, hol, hot, hdl, HSg, HD, hat, hat1, hb⟩ := hrel
    have z0 := (hb.cell (p := ⟨b, off, none⟩) hbw).trans x0
    have z1 := (hb.cell (p := ⟨b, off + 1, none⟩) hbw).trans x1
    have hlen := congrArg List.length HD.out
    rw [List.length_append] at hlen
    have hvr := hv.up hb
    generalize hu : v.drop at_ = u at *
    cases hsg : HSg.out with
    | nil =>
      have HE : Hid (done = ss) := by have := HD.out; show _ = _; simpa using this
      simp at hlen
      have i1 : ¬ (k : Int) < x.n := by omega
      clear hsg
      obtain ⟨q1, c1, rfl, hll, _⟩ := hol.lists
      obtain ⟨q2, c2, rfl, htl, _⟩ := hot.texts
      rw [HE.out] at hll htl ⊢
      simp only [List.length_map]
      go_wp2
      go_ret2
      exact ⟨⟨q1, c1, q2, c2, rfl, hll, htl⟩, hb⟩
    | @cons a r' ss2 h hs =>
      obtain ⟨y, t, rfl, hy⟩ := HH.out a (by rw [← HD.out]; simp)
      simp at hlen
      have hul : (v.drop at_).length = v.length - at_ := by simp
      rw [hu] at hul
      simp at hul
      have i1 : (k : Int) < x.n := by omega
      have hda := Segs.drop_eq hu
      simp only [List.length_cons] at hda
      have HS2 : Hid (Segs v.length r' ss2) := hs
      have halt : at_ < v.length := by omega
      have HY : Hid (y.op = 7) := hy
      have hcons : v.drop (at_ + 1) = t ++ r' := by
        rw [← List.drop_drop, hu]; rfl
      have hpv : pastV v.length (t ++ r') = some r' := by
        have := h
        simp only [List.cons_append, itemP, if_pos hy] at this
        exact this
      obtain ⟨b', o', hpe, _, _, _, y2, _, yw⟩ := hvr.at halt
      obtain ⟨rfl, rfl⟩ : b = b' ∧ off = o' := by simpa using hpe
      have hye : v[at_] = y := by
        have := congrArg (fun l => l[0]?) hu
        simp at this
        rw [List.getElem?_eq_getElem halt] at this
        exact Option.some.inj this
      rw [hye] at y2
      have hendc := fun w' (hb' : Below w.heap.size w w') => valueEnd_any (v.length + 1) v b off c (at_ + 1) false w' (by omega) (by omega) (hv.up hb') (Nat.lt_of_lt_of_le hbw hb'.size) hc HM.out
      rw [pastF_value, hcons, pastV_fuel (v.length + 1) v.length (t ++ r') (by simp; omega) (by simp; omega), hpv] at hendc
      have hen : endI v.length (some r') = ((at_ + 1 + t.length : Nat) : Int) := by unfold endI; simp only []; omega
      rw [hen, show ((at_ + 1 : Nat) : Int) = (at_ : Int) + 1 by omega] at hendc
      have j1 : (at_ : Int) + 1 ≤ ((at_ + 1 + t.length : Nat) : Int) := by omega
      have j2 : ((at_ + 1 + t.length : Nat) : Int) ≤ (c : Int) := by omega
      have j3 : (at_ : Int) < (v.length : Int) := by omega
      have hst : strip (y :: t) = t := by show (if y.op = 7 then t else y :: t) = t; rw [if_pos hy]
      have hnm : nameOf (y :: t) = y.s := by show (if y.op = 7 then y.s else _) = y.s; rw [if_pos hy]
      have hne : 0 < t.length := by
        have := (pastV_shorter hpv).1
        simp at this; omega
      have j4 : ¬ c = at_ + 1 := by omega
      have hT : NL w (some ⟨b, off + (at_ + 1) * 4, none⟩) t := by
        have := hv.from (at_ + 1) t.length
        rw [hcons, List.take_left] at this
        exact this
      generalize hen2 : at_ + 1 + t.length = en at *
      have HEN : Hid (_ = _) := hen2
      clear hsg h hs hpv hcons hye hu hen hy hen2 hpe
      go_wp2_with fail
      refine (hendc _ hb).mono ?_
      rintro e w1 ⟨rfl, hb1⟩
      have hb2 := hb.trans (hb1.mono hb.size)
      have hol1 := hol.below hb1 hb.size
      have hot1 : OT w1 w.heap.size u5 (done.map nameOf) := Row1.kept (e := 391) hot (Kept.of_below hb1 hb.size) (by decide)
      have hNT : NT w1 w.heap.size (some ⟨b, off + (at_ + 1) * 4, none⟩) t := ⟨hT.up hb2, .inr ⟨b, _, rfl, .inl hbw⟩⟩
      have hLn : t.length = (en - (at_ + 1)) := by have := HEN.out; first | (simp; omega) | omega
      have hdm : (done.map strip).length ≤ 200 := by simp; omega
      have hdm2 : (done.map nameOf).length ≤ 200 := by simp; omega
      clear hendc hol hot z0 z1
      have HOL : Hid (OL w1 w.heap.size u4 (done.map strip)) := hol1
      have HOT : Hid (OT w1 w.heap.size u5 (done.map nameOf)) := hot1
      clear hol1 hot1
      go_wp2_with (first
        | (at_builtin; refine append_listN w1 rfl (.tmp 33) (.tmp 38) rfl w.heap.size u4 (done.map strip) rfl HOL.out t (en - (at_ + 1)) hLn (some ⟨b, off + (at_ + 1) * 4, none⟩) (c - (at_ + 1)) hNT (by omega) (by unfold maxLen; omega) rfl (by omega) hb2.size ?_; intro v1 w2 hol2 hk2; have hot2 : OT w2 w.heap.size u5 (done.map nameOf) := Row1.kept HOT.out hk2 (by decide); have hb3 := hb2.trans hk2.bel; have HO2 : Hid (OL w2 w.heap.size v1 (done.map strip ++ [t])) := hol2; clear hol2)
        | (at_builtin; refine append_text w2 rfl (.tmp 40) (.tmp 42) rfl w.heap.size u5 (done.map nameOf) rfl hot2 y.s rfl (by omega) hb3.size ?_; intro v2 w3 hot3 hk3))
      have hol3 := HO2.out.kept hk3 (by decide) (by decide)
      go_roundw
      case rel => exact ⟨k + 1, en, done ++ [y :: t], ss2, by go_num, rfl, by rw [List.map_append, List.map_cons, hst]; exact hol3, by rw [List.map_append, List.map_cons, hnm]; exact hot3, by simp [hdl], by rw [← HEN.out, show at_ + 1 + t.length = at_ + (t.length + 1) by omega, hda.1]; exact HS2, by show _ = _; rw [← HD.out]; simp, by have := HEN.out; omega, by have := HEN.out; omega, hb3.trans hk3.bel⟩
      case measure => simp [intOf]; omega
end Go.Proofs.YtckjndiepojgfaaGreatDoor
namespace Go.Proofs.YtckjndiepojgfaaGreatDoor
open Go.RowKit
set_option linter.unusedVariables false
set_option maxRecDepth 100000

theorem find_flat {s : ByteArray} : ∀ {t : Tp} {f : Nd} {kf : Tp}, t.find s = some (f, kf) → kf.flat.length < t.flat.length := fun h => by
  have := find_sz h
  rw [tp_sz_flat, tp_sz_flat] at this
  exact this
end Go.Proofs.YtckjndiepojgfaaGreatDoor
namespace Go.Proofs.YtckjndiepojgfaaGreatDoor
open Go.RowKit
set_option linter.unusedVariables false
set_option maxRecDepth 100000

set_option maxHeartbeats 4000000 in
theorem missesNone_any (x y : Nd) (k l : Tp) (w : World) (v u : Value) (S : Nat → Prop) (hv : VK w k v S) (hu : VK w l u S) (hk1 : k.flat.length ≤ 1000) (hl1 : l.flat.length ≤ 1000) :
    Calls Tryz.prog 67 #[partV x v, partV y u] w fun e w' => e = .returned (.bool (noMiss l k)) ∧ Below w.heap.size w w' := by
  obtain ⟨q, c, rfl, hkc, hcm⟩ := hv.slice
  obtain ⟨q2, c2, rfl, hkc2, hcm2⟩ := hu.slice
  have HV : Hid (VK w k (.slice q k.len c) S) := hv
  have HU : Hid (VK w l (.slice q2 l.len c2) S) := hu
  have HK1 : Hid (l.flat.length ≤ 1000) := hl1
  have hkb : k.len ≤ 1000 := by have := tp_len_flat k; omega
  clear hv hu hk1 hl1
  obtain ⟨W, hW⟩ : ∃ W, W = (w.alloc (.cells #[.int .i64 x.op, .int .i64 x.n, .string x.s, .string x.t, .slice q k.len c] 60)).alloc (.cells #[.int .i64 y.op, .int .i64 y.n, .string y.s, .string y.t, .slice q2 l.len c2] 60) := ⟨_, rfl⟩
  have hb0 : Below w.heap.size w W := by rw [hW]; exact kqx
  have hp_0 : PBk W (w.heap.size + 1) y (.slice q2 l.len c2) := by rw [hW]; exact PBk.new _ y _ (by simp)
  unfold partV
  go_enter Tryz.func67, Tryz.ntmps67
  go_wp2
  rw [← hW]
  go_loopw [12] (fun i wr => ∃ (done todo : Tp), Hid (done.app todo = k) ∧ i = .int .i64 (done.len : Int) ∧ Hid (noMiss l k = noMiss l todo) ∧ PBk wr (w.heap.size + 1) y (.slice q2 l.len c2) ∧ Below w.heap.size w wr) (fun i _ => k.len - (intOf i).toNat)
  case atStart => exact ⟨.nil, k, rfl, rfl, rfl, hp_0, hb0⟩
  case round =>
    rename World => w3
    obtain ⟨done, todo, HD, rfl, HF, hp_3, hb3⟩ := hrel
    cases todo with
    | nil =>
      have hd : done = k := by have := HD.out; rw [tp_app_nil] at this; exact this
      subst hd
      have i1 : ¬ (done.len : Int) < (done.len : Int) := by omega
      go_wp2
      go_ret
      exact ⟨retb HF.out.symm, hb3⟩
    | cons f kf r =>
      have hv3 : VK w3 k (.slice q k.len c) S := HV.out.up hb3
      have hkl : k.len = done.len + (r.len + 1) := by rw [← HD.out, tp_app_len]; rfl
      have i1 : (done.len : Int) < (k.len : Int) := by omega
      rw [← HD.out] at hv3
      obtain ⟨g, cap, u, hu, hP, hyw, hvk, hSg⟩ := hv3.at
      rw [HD.out, ← hkl] at hu
      cases hu
      obtain ⟨qu, cu, rfl, _⟩ := hvk.slice
      obtain ⟨p0, p1, p2, p3, p4⟩ := hP.cells
      have HDn : Hid ((done.app (.cons f kf .nil)).app r = k) := by show _ = _; rw [tp_app_assoc, ← HD.out]; rfl
      have HKL : Hid (k.len = done.len + (r.len + 1)) := hkl
      obtain ⟨W4, hW4⟩ : ∃ W4, W4 = w3.alloc (.cells #[.int .i64 f.op, .int .i64 f.n, .string f.s, .string f.t, .slice qu kf.len cu] 60) := ⟨_, rfl⟩
      have hb4 : Below w3.heap.size w3 W4 := by rw [hW4]; exact kqx
      have hB4 : PBk W4 w3.heap.size f (.slice qu kf.len cu) := by rw [hW4]; exact PBk.new w3 f _ rfl
      have hp_4 := hp_3.up hb4
      have hC := field_any y l f.s W4 _ S ((HU.out.up hb3).up hb4) HK1.out
      unfold partV at hC
      obtain ⟨b0, b1, b2, b3, b4⟩ := hp_4.cells
      rw [hW4] at b0 b1 b2 b3 b4
      have HX : Hid (noMiss l k = ((decide (f.n ≠ 1) || (l.find f.s).isSome) && noMiss l r)) := by show _ = _; rw [HF.out]; rfl
      clear hv3 hP hkl hvk HF
      have HOwn : ∃ (on : Nd), Calls Tryz.prog 113 #[.agg #[.int .i64 y.op, .int .i64 y.n, .string y.s, .string y.t, .slice q2 l.len c2], .string f.s] W4 fun en w' => (∃ qo no co, en = .returned (.tuple #[.agg #[.int .i64 on.op, .int .i64 on.n, .string on.s, .string on.t, .slice qo no co], .bool (l.find f.s).isSome])) ∧ Below W4.heap.size W4 w' := by
        cases hf : l.find f.s with
        | none =>
          rw [hf] at hC
          exact ⟨zN, hC.mono (fun en w' h => ⟨⟨none, 0, 0, h.1⟩, h.2⟩)⟩
        | some p =>
          obtain ⟨o, ko⟩ := p
          rw [hf] at hC
          exact ⟨o, hC.mono (fun en w' h => by obtain ⟨⟨a, b, e, _⟩, h2⟩ := h; exact ⟨⟨a, _, b, e⟩, h2⟩)⟩
      obtain ⟨on, hC2⟩ := HOwn
      generalize (l.find f.s).isSome = G at *
      clear hC
      go_wp2_with fail
      rw [← hW4]
      refine hC2.mono ?_
      rintro _ w5 ⟨⟨qo, no, co, rfl⟩, hb5⟩
      obtain ⟨V6, hV6⟩ : ∃ V6, V6 = w5.alloc (.cells #[.int .i64 on.op, .int .i64 on.n, .string on.s, .string on.t, .slice qo no co] 60) := ⟨_, rfl⟩
      have hb6 : Below w3.heap.size w3 V6 := by rw [hV6]; exact kqA (kqt hb4 hb5)
      have hB6 : PBk V6 w3.heap.size f (.slice qu kf.len cu) := by rw [hV6]; exact (hB4.up hb5).up kqx
      obtain ⟨d0, d1, d2, d3, d4⟩ := hB6.cells
      rw [hV6] at d0 d1 d2 d3 d4
      have hb36 : Below w.heap.size w V6 := hb3.trans (hb6.mono hb3.size)
      clear b0 b1 b2 b3 b4 p0 p1 p2 p3 p4
      by_cases hn : f.n = 1
      · have e1 : (f.n == 1) = true := by rw [hn]; rfl
        cases G
        · have HF2 : Hid (noMiss l k = false) := by show _ = _; rw [HX.out]; simp [hn]
          clear HX hn
          go_wp2
          rw [← hV6]
          go_ret
          exact ⟨retb HF2.out.symm, hb36⟩
        · have HF2 : Hid (noMiss l k = noMiss l r) := by show _ = _; rw [HX.out]; simp
          clear HX hn
          go_wp2_with fail
          rw [← hV6]
          go_roundw
          case rel => exact ⟨done.app (.cons f kf .nil), r, HDn, by rw [tp_app_len]; simp only [Tp.len]; go_num, HF2, hp_3.up hb6, hb36⟩
          case measure => have := HKL.out; simp [intOf]; omega
      · have HF2 : Hid (noMiss l k = noMiss l r) := by show _ = _; rw [HX.out]; simp [hn]
        have e1 : (f.n == 1) = false := by simp [hn]
        clear HX hn
        go_wp2_with fail
        rw [← hV6]
        go_roundw
        case rel => exact ⟨done.app (.cons f kf .nil), r, HDn, by rw [tp_app_len]; simp only [Tp.len]; go_num, HF2, hp_3.up hb6, hb36⟩
        case measure => have := HKL.out; simp [intOf]; omega
/-- What has does. -/
def HasK (y : Nd) (l : Tp) : Prop := ∀ (x : Nd) (k : Tp) (w : World) (v u : Value) (S : Nat → Prop), VK w k v S → VK w l u S → TyC x k → okV none (.cons y l .nil) → k.flat.length ≤ 1000 → l.flat.length ≤ 1000 →
  Calls Tryz.prog 33 #[partV x v, partV y u] w fun e w' => e = .returned (.bool (hs false (.cons y l .nil) (.cons x k .nil))) ∧ Below w.heap.size w w'
theorem hs_split (y : Nd) (l r c : Tp) (hc : T1 c) : hs false (.cons y l r) c = (hs false (.cons y l .nil) c && hs false r c) := by
  obtain ⟨z, q, rfl, _⟩ := hc.of
  rw [hs_cons, hs_cons, show hs false .nil (.cons z q .nil) = true by rw [hs], Bool.and_true]
set_option maxHeartbeats 4000000 in
theorem hasAll_any (x : Nd) (k t : Tp) (ih : ∀ z kz, kz.flat.length < t.flat.length → HasK z kz) (w : World) (v u : Value) (S : Nat → Prop) (hv : VK w k v S) (hu : VK w t u S) (hx : TyC x k) (ht : okV none t) (hk1 : k.flat.length ≤ 1000) (hl1 : t.flat.length ≤ 1000) :
    Calls Tryz.prog 65 #[partV x v, u] w fun e w' => e = .returned (.bool (hs false t (.cons x k .nil))) ∧ Below w.heap.size w w' := by
  obtain ⟨q, c, rfl, hkc, hcm⟩ := hv.slice
  obtain ⟨q2, c2, rfl, hkc2, hcm2⟩ := hu.slice
  have HV : Hid (VK w k (.slice q k.len c) S) := hv
  have HU : Hid (VK w t (.slice q2 t.len c2) S) := hu
  have HK1 : Hid (k.flat.length ≤ 1000) := hk1
  have HL1 : Hid (t.flat.length ≤ 1000) := hl1
  have HIH : Hid (∀ z kz, kz.flat.length < t.flat.length → HasK z kz) := ih
  have HTx : Hid (TyC x k) := hx
  have HT0 : Hid (okV none t) := ht
  have hkb : t.len ≤ 1000 := by have := tp_len_flat t; omega
  clear hv hu hk1 hl1 ih hx ht
  obtain ⟨W, hW⟩ : ∃ W, W = w.alloc (.cells #[.int .i64 x.op, .int .i64 x.n, .string x.s, .string x.t, .slice q k.len c] 60) := ⟨_, rfl⟩
  have hb0 : Below w.heap.size w W := by rw [hW]; exact kqx
  have hp_0 : PBk W w.heap.size x (.slice q k.len c) := by rw [hW]; exact PBk.new _ x _ rfl
  unfold partV
  go_enter Tryz.func65, Tryz.ntmps65
  go_wp2
  rw [← hW]
  go_loopw [9] (fun i wr => ∃ (done todo : Tp), Hid (done.app todo = t) ∧ i = .int .i64 (done.len : Int) ∧ Hid (hs false t (.cons x k .nil) = hs false todo (.cons x k .nil)) ∧ Hid (okV none todo) ∧ PBk wr w.heap.size x (.slice q k.len c) ∧ Below w.heap.size w wr) (fun i _ => t.len - (intOf i).toNat)
  case atStart => exact ⟨.nil, t, rfl, rfl, rfl, HT0, hp_0, hb0⟩
  case round =>
    rename World => w3
    obtain ⟨done, todo, HD, rfl, HF, HT, hp_3, hb3⟩ := hrel
    cases todo with
    | nil =>
      have hd : done = t := by have := HD.out; rw [tp_app_nil] at this; exact this
      subst hd
      have i1 : ¬ (done.len : Int) < (done.len : Int) := by omega
      have HF2 : Hid (hs false done (.cons x k .nil) = true) := by show _ = _; rw [HF.out, hs]
      go_wp2
      go_ret
      exact ⟨retb HF2.out.symm, hb3⟩
    | cons y ky r =>
      have hu3 : VK w3 t (.slice q2 t.len c2) S := HU.out.up hb3
      have hkl : t.len = done.len + (r.len + 1) := by rw [← HD.out, tp_app_len]; rfl
      have hkf : t.flat.length = done.flat.length + (ky.flat.length + r.flat.length + 1) := by rw [← HD.out, tp_app_flat]; simp [Tp.flat] <;> omega
      have i1 : (done.len : Int) < (t.len : Int) := by omega
      rw [← HD.out] at hu3
      obtain ⟨g, cap, u, hu, hP, hyw, hvk, hSg⟩ := hu3.at
      rw [HD.out, ← hkl] at hu
      cases hu
      obtain ⟨qu, cu, rfl, _⟩ := hvk.slice
      obtain ⟨p0, p1, p2, p3, p4⟩ := hP.cells
      obtain ⟨hy1, hr1⟩ := okV.none_iff.1 HT.out
      have HDn : Hid ((done.app (.cons y ky .nil)).app r = t) := by show _ = _; rw [tp_app_assoc, ← HD.out]; rfl
      have HKL : Hid (t.len = done.len + (r.len + 1)) := hkl
      have HTr : Hid (okV none r) := hr1
      obtain ⟨W4, hW4⟩ : ∃ W4, W4 = w3.alloc (.cells #[.int .i64 y.op, .int .i64 y.n, .string y.s, .string y.t, .slice qu ky.len cu] 60) := ⟨_, rfl⟩
      have hb4 : Below w3.heap.size w3 W4 := by rw [hW4]; exact kqx
      have hB4 : PBk W4 w3.heap.size y (.slice qu ky.len cu) := by rw [hW4]; exact PBk.new w3 y _ rfl
      have hp_4 := hp_3.up hb4
      have hC := HIH.out y ky (by omega) x k W4 _ _ S ((HV.out.up hb3).up hb4) (hvk.up hb4) HTx.out (okV.none_iff.2 ⟨hy1, okV.nil⟩) HK1.out (by have := HL1.out; omega)
      unfold partV at hC
      obtain ⟨b0, b1, b2, b3, b4⟩ := hp_4.cells
      rw [hW4] at b0 b1 b2 b3 b4
      have HX : Hid (hs false t (.cons x k .nil) = (hs false (.cons y ky .nil) (.cons x k .nil) && hs false r (.cons x k .nil))) := by show _ = _; rw [HF.out]; exact hs_split _ _ _ _ (T1.iff.2 HTx.out)
      have hb34 := hb3.trans (hb4.mono hb3.size)
      clear hu3 hP hkl hvk HF hkf hy1 hr1
      cases hbb : hs false (.cons y ky .nil) (.cons x k .nil)
      · rw [hbb] at hC HX
        have HF2 : Hid (hs false t (.cons x k .nil) = false) := by show _ = _; rw [HX.out]; rfl
        clear HX hbb
        go_wp2_with fail
        rw [← hW4]
        refine hC.mono ?_
        rintro _ w5 ⟨rfl, hb5⟩
        go_wp2
        go_ret
        exact ⟨retb HF2.out.symm, hb34.trans (hb5.mono hb34.size)⟩
      · rw [hbb] at hC HX
        have HF2 : Hid (hs false t (.cons x k .nil) = hs false r (.cons x k .nil)) := by show _ = _; rw [HX.out]; rfl
        clear HX hbb
        go_wp2_with fail
        rw [← hW4]
        refine hC.mono ?_
        rintro _ w5 ⟨rfl, hb5⟩
        go_wp2_with fail
        go_roundw
        case rel => exact ⟨done.app (.cons y ky .nil), r, HDn, by rw [tp_app_len]; simp only [Tp.len]; go_num, HF2, HTr, hp_4.up hb5, hb34.trans (hb5.mono hb34.size)⟩
        case measure => have := HKL.out; simp [intOf]; omega
end Go.Proofs.YtckjndiepojgfaaGreatDoor
namespace Go.Proofs.YtckjndiepojgfaaGreatDoor
open Go.RowKit
set_option linter.unusedVariables false
set_option maxRecDepth 100000

set_option maxHeartbeats 4000000 in
theorem hasFields_any (x y : Nd) (k t : Tp) (ih : ∀ z kz, kz.flat.length < t.flat.length → HasK z kz) (w : World) (v u : Value) (S : Nat → Prop) (hv : VK w k v S) (hu : VK w t u S) (hfk : Fl e0 k) (ht : okV (some e0) t) (hk1 : k.flat.length ≤ 1000) (hl1 : t.flat.length ≤ 1000) :
    Calls Tryz.prog 66 #[partV x v, partV y u] w fun e w' => e = .returned (.bool (hs true t k)) ∧ Below w.heap.size w w' := by
  obtain ⟨q, c, rfl, hkc, hcm⟩ := hv.slice
  obtain ⟨q2, c2, rfl, hkc2, hcm2⟩ := hu.slice
  have HV : Hid (VK w k (.slice q k.len c) S) := hv
  have HU : Hid (VK w t (.slice q2 t.len c2) S) := hu
  have HK1 : Hid (k.flat.length ≤ 1000) := hk1
  have HL1 : Hid (t.flat.length ≤ 1000) := hl1
  have HIH : Hid (∀ z kz, kz.flat.length < t.flat.length → HasK z kz) := ih
  have HFk : Hid (Fl e0 k) := hfk
  have HT0 : Hid (okV (some e0) t) := ht
  have hkb : t.len ≤ 1000 := by have := tp_len_flat t; omega
  clear hv hu hk1 hl1 ih hfk ht
  obtain ⟨W, hW⟩ : ∃ W, W = (w.alloc (.cells #[.int .i64 x.op, .int .i64 x.n, .string x.s, .string x.t, .slice q k.len c] 60)).alloc (.cells #[.int .i64 y.op, .int .i64 y.n, .string y.s, .string y.t, .slice q2 t.len c2] 60) := ⟨_, rfl⟩
  have hb0 : Below w.heap.size w W := by rw [hW]; exact kqx
  have hp_0 : PBk W w.heap.size x (.slice q k.len c) := by rw [hW]; exact (PBk.new w x _ rfl).up kqx
  unfold partV
  go_enter Tryz.func66, Tryz.ntmps66
  go_wp2
  rw [← hW]
  go_loopw [12] (fun i wr => ∃ (done todo : Tp) (m : ByteArray), Hid (done.app todo = t) ∧ i = .int .i64 (done.len : Int) ∧ Hid (hs true t k = hs true todo k) ∧ Hid (okV (some m) todo) ∧ PBk wr w.heap.size x (.slice q k.len c) ∧ Below w.heap.size w wr) (fun i _ => t.len - (intOf i).toNat)
  case atStart => exact ⟨.nil, t, e0, rfl, rfl, rfl, HT0, hp_0, hb0⟩
  case round =>
    rename World => w3
    obtain ⟨done, todo, m, HD, rfl, HF, HT, hp_3, hb3⟩ := hrel
    cases todo with
    | nil =>
      have hd : done = t := by have := HD.out; rw [tp_app_nil] at this; exact this
      subst hd
      have i1 : ¬ (done.len : Int) < (done.len : Int) := by omega
      have HF2 : Hid (hs true done k = true) := by show _ = _; rw [HF.out]; simp [hs]
      go_wp2
      go_ret
      exact ⟨retb HF2.out.symm, hb3⟩
    | cons f kf r =>
      have hv3 : VK w3 t (.slice q2 t.len c2) S := HU.out.up hb3
      have hkl : t.len = done.len + (r.len + 1) := by rw [← HD.out, tp_app_len]; rfl
      have hkf : t.flat.length = done.flat.length + (kf.flat.length + r.flat.length + 1) := by rw [← HD.out, tp_app_flat]; simp [Tp.flat] <;> omega
      have i1 : (done.len : Int) < (t.len : Int) := by omega
      rw [← HD.out] at hv3
      obtain ⟨g, cap, u, hu, hP, hyw, hvk, hSg⟩ := hv3.at
      rw [HD.out, ← hkl] at hu
      cases hu
      obtain ⟨-, ⟨hl1, hkz⟩, hFr⟩ := okV.some_iff.1 HT.out
      obtain ⟨z, kz, rfl⟩ := tp_len1 hl1
      clear hl1
      obtain ⟨gf, cf, uz, rfl, hPz, hzw, hvz⟩ := hvk.single
      obtain ⟨qz, cz, rfl, _⟩ := hvz.slice
      obtain ⟨p0, p1, p2, p3, p4⟩ := hP.cells
      have HDn : Hid ((done.app (.cons f (.cons z kz .nil) .nil)).app r = t) := by show _ = _; rw [tp_app_assoc, ← HD.out]; rfl
      have HKL : Hid (t.len = done.len + (r.len + 1)) := hkl
      obtain ⟨W4, hW4⟩ : ∃ W4, W4 = w3.alloc (.cells #[.int .i64 f.op, .int .i64 f.n, .string f.s, .string f.t, .slice (some ⟨gf, 0, none⟩) 1 cf] 60) := ⟨_, rfl⟩
      have hb4 : Below w3.heap.size w3 W4 := by rw [hW4]; exact kqx
      have hB4 : PBk W4 w3.heap.size f (.slice (some ⟨gf, 0, none⟩) 1 cf) := by rw [hW4]; exact PBk.new w3 f _ rfl
      have hp_4 := hp_3.up hb4
      have hC := field_any x k f.s W4 _ S ((HV.out.up hb3).up hb4) HK1.out
      unfold partV at hC
      obtain ⟨b0, b1, b2, b3, b4⟩ := hp_4.cells
      rw [hW4] at b0 b1 b2 b3 b4
      have HX : Hid (hs true t k = ((match k.find f.s with | some (_, kg) => hs false (.cons z kz .nil) kg | none => false) && hs true r k)) := by show _ = _; rw [HF.out]; exact hs_flds _ _ _ _
      have HVz : Hid (VK w3 kz (.slice qz kz.len cz) S) := hvz
      have HFr : Hid (okV (some f.s) r) := hFr
      have HKZ : Hid (okV none (.cons z kz .nil)) := hkz
      clear hv3 hP hkl hvk HF hvz hFr hkz
      cases hf : k.find f.s with
      | none =>
        rw [hf] at hC HX
        have HF2 : Hid (hs true t k = false) := by show _ = _; rw [HX.out]; rfl
        clear HX hf
        go_wp2_with fail
        rw [← hW4]
        refine hC.mono ?_
        rintro _ w5 ⟨rfl, hb5⟩
        obtain ⟨V6, hV6⟩ : ∃ V6, V6 = w5.alloc (.cells #[.int .i64 0, .int .i64 0, .string ⟨#[]⟩, .string ⟨#[]⟩, .slice none 0 0] 60) := ⟨_, rfl⟩
        have hb6 : Below w3.heap.size w3 V6 := by rw [hV6]; exact kqA (kqt hb4 hb5)
        have hb36 : Below w.heap.size w V6 := hb3.trans (hb6.mono hb3.size)
        go_wp2_with fail
        rw [← hV6]
        clear hV6
        refine wp_region_bel (by kernel_rfl) (by kernel_rfl) ?_
        repeat (go_big_quiet_step (fail))
        refine wpQuiet_nil ?_
        rintro _ ⟨q9, rfl⟩
        go_wp2
        go_ret
        exact ⟨retb HF2.out.symm, hb36.trans (q9.bel.mono hb36.size)⟩
      | some p =>
        obtain ⟨o, ko⟩ := p
        obtain ⟨-, -, -, -, hTo⟩ := HFk.out.find hf
        obtain ⟨z2, kz2, rfl, hTz2⟩ := hTo.of
        have hof := find_flat hf
        simp only [Tp.flat, List.append_nil, List.length_cons] at hof hkf
        rw [hf] at hC HX
        have HX2 : Hid (hs true t k = (hs false (.cons z kz .nil) (.cons z2 kz2 .nil) && hs true r k)) := HX
        have HBC := fun W (hW : Below w3.heap.size w3 W) u2 (h2 : VK W kz2 u2 S) => HIH.out z kz (by omega) z2 kz2 W u2 _ S h2 (HVz.out.up hW) hTz2 HKZ.out (by have := HK1.out; omega) (by have := HL1.out; omega)
        clear HX hf hTo hof hkf
        go_wp2_with fail
        rw [← hW4]
        refine hC.mono ?_
        rintro _ w5 ⟨⟨qo, co, rfl, how, hvo⟩, hb5⟩
        obtain ⟨go_, co2, uo, huo, hPo, hzo, hvz2⟩ := hvo.single
        cases huo
        obtain ⟨qz2, cz2, rfl, _⟩ := hvz2.slice
        obtain ⟨V6, hV6⟩ : ∃ V6, V6 = w5.alloc (.cells #[.int .i64 o.op, .int .i64 o.n, .string o.s, .string o.t, .slice (some ⟨go_, 0, none⟩) 1 co] 60) := ⟨_, rfl⟩
        have hb56 : Below w5.heap.size w5 V6 := by rw [hV6]; exact kqx
        have hb36 : Below w3.heap.size w3 V6 := kqt (kqt hb4 hb5) hb56
        have hB6 : PBk V6 w3.heap.size f (.slice (some ⟨gf, 0, none⟩) 1 cf) := (hB4.up hb5).up hb56
        have hO6 : PBk V6 w5.heap.size o (.slice (some ⟨go_, 0, none⟩) 1 co) := by rw [hV6]; exact PBk.new w5 o _ rfl
        have d4 := fun q : BW V6.heap.size V6 => (hB6.up q.bel).cells.2.2.2.2
        have o4 := fun q : BW V6.heap.size V6 => (hO6.up q.bel).cells.2.2.2.2
        have e0 := fun q : BW V6.heap.size V6 => ((hPz.up hb36).up q.bel).cells.1
        have e1 := fun q : BW V6.heap.size V6 => ((hPz.up hb36).up q.bel).cells.2.1
        have e2 := fun q : BW V6.heap.size V6 => ((hPz.up hb36).up q.bel).cells.2.2.1
        have e3 := fun q : BW V6.heap.size V6 => ((hPz.up hb36).up q.bel).cells.2.2.2.1
        have e4 := fun q : BW V6.heap.size V6 => ((hPz.up hb36).up q.bel).cells.2.2.2.2
        have f0 := fun q : BW V6.heap.size V6 => ((hPo.up hb56).up q.bel).cells.1
        have f1 := fun q : BW V6.heap.size V6 => ((hPo.up hb56).up q.bel).cells.2.1
        have f2 := fun q : BW V6.heap.size V6 => ((hPo.up hb56).up q.bel).cells.2.2.1
        have f3 := fun q : BW V6.heap.size V6 => ((hPo.up hb56).up q.bel).cells.2.2.2.1
        have f4 := fun q : BW V6.heap.size V6 => ((hPo.up hb56).up q.bel).cells.2.2.2.2
        have hC6 := fun q : BW V6.heap.size V6 => Calls.bel q (HBC q.at_ (kqt hb36 q.bel) _ ((hvz2.up hb56).up q.bel))
        dsimp only [Nat.zero_add, Nat.reduceAdd] at e0 e1 e2 e3 e4 f0 f1 f2 f3 f4
        unfold partV at hC6
        clear b0 b1 b2 b3 b4 p0 p1 p2 p3 p4 hC HBC
        have hbw6 : Below w.heap.size w V6 := hb3.trans (hb36.mono hb3.size)
        have hl1 : (Tp.cons z2 kz2 .nil).len = 1 := rfl
        cases hbb : hs false (.cons z kz .nil) (.cons z2 kz2 .nil)
        · rw [hbb] at hC6 HX2
          have HF2 : Hid (hs true t k = false) := by show _ = _; rw [HX2.out]; rfl
          clear HX2 hbb
          go_wp2_with fail
          rw [← hV6]
          clear hV6
          refine wp_region_bel (by kernel_rfl) (by kernel_rfl) ?_
          repeat (go_big_quiet_step (exact hC6 _))
          refine wpQuiet_nil ?_
          rintro _ ⟨q9, rfl⟩
          have hb7 := q9.bel
          go_wp2
          go_ret
          exact ⟨retb HF2.out.symm, hbw6.trans (hb7.mono hbw6.size)⟩
        · rw [hbb] at hC6 HX2
          have HF2 : Hid (hs true t k = hs true r k) := by show _ = _; rw [HX2.out]; rfl
          clear HX2 hbb
          go_wp2_with fail
          rw [← hV6]
          clear hV6
          refine wp_region_bel (by kernel_rfl) (by kernel_rfl) ?_
          repeat (go_big_quiet_step (exact hC6 _))
          refine wpQuiet_nil ?_
          rintro _ ⟨q9, rfl⟩
          have hb7 := q9.bel
          go_wp2_with fail
          go_roundw
          case rel => exact ⟨done.app (.cons f (.cons z kz .nil) .nil), r, f.s, HDn, by rw [tp_app_len]; simp only [Tp.len]; go_num, HF2, HFr, hp_3.up (kqt hb36 hb7), hbw6.trans (hb7.mono hbw6.size)⟩
          case measure => have := HKL.out; simp [intOf]; omega
section
variable (x y : Nd) (k l : Tp) (w : World) (v u : Value) (S : Nat → Prop) (hv : VK w k v S) (hu : VK w l u S)
include hv hu
set_option maxHeartbeats 4000000 in
theorem has_leaf (o : Int) (ho : o = 41 ∨ o = 42 ∨ o = 43 ∨ o = 48 ∨ o = 49) (hx : x = lfN o) :
    Calls Tryz.prog 33 #[partV x v, partV y u] w fun e w' => e = .returned (.bool (if o = 48 then true else if o = 41 then decide (y.op = 1) else if o = 42 then decide (y.op = 2) else if o = 43 then decide (y.op = 3) else false)) ∧ Below w.heap.size w w' := by
  obtain ⟨q, c, rfl, _⟩ := hv.slice
  obtain ⟨q2, c2, rfl, _⟩ := hu.slice
  clear hv hu
  have HL : Hid (∀ o1 o2, Below w.heap.size w ((w.alloc o1).alloc o2)) := fun o1 o2 => kqx
  subst hx
  obtain ⟨yo, yn, ys, yt⟩ := y
  unfold partV lfN e0
  dsimp only
  rcases ho with rfl | rfl | rfl | rfl | rfl
  · rw [if_neg (by decide), if_pos rfl]
    go_enter Tryz.func33, Tryz.ntmps33
    go_wp2
    go_ret
    exact ⟨retb (by rw [Bool.eq_iff_iff]; simp), HL.out _ _⟩
  · rw [if_neg (by decide), if_neg (by decide), if_pos rfl]
    go_enter Tryz.func33, Tryz.ntmps33
    go_wp2
    go_ret
    exact ⟨retb (by rw [Bool.eq_iff_iff]; simp), HL.out _ _⟩
  · rw [if_neg (by decide), if_neg (by decide), if_neg (by decide), if_pos rfl]
    go_enter Tryz.func33, Tryz.ntmps33
    go_wp2
    go_ret
    exact ⟨retb (by rw [Bool.eq_iff_iff]; simp), HL.out _ _⟩
  · rw [if_pos rfl]
    go_enter Tryz.func33, Tryz.ntmps33
    go_wp2
    go_ret
    exact ⟨rfl, HL.out _ _⟩
  · rw [if_neg (by decide), if_neg (by decide), if_neg (by decide), if_neg (by decide)]
    go_enter Tryz.func33, Tryz.ntmps33
    go_wp2
    go_ret
    exact ⟨rfl, HL.out _ _⟩
set_option maxHeartbeats 4000000 in
theorem has_ent (s : ByteArray) (hx : x = ⟨44, 0, s, e0⟩) :
    Calls Tryz.prog 33 #[partV x v, partV y u] w fun e w' => e = .returned (.bool (decide (y.op = 4 ∧ y.s = s))) ∧ Below w.heap.size w w' := by
  obtain ⟨q, c, rfl, _⟩ := hv.slice
  obtain ⟨q2, c2, rfl, _⟩ := hu.slice
  clear hv hu
  have HL : Hid (∀ o1 o2, Below w.heap.size w ((w.alloc o1).alloc o2)) := fun o1 o2 => kqx
  subst hx
  obtain ⟨yo, yn, ys, yt⟩ := y
  unfold partV e0
  dsimp only
  by_cases h : ys = s
  · subst h
    by_cases h4 : yo = 4
    · subst h4
      have HR : Hid (decide ((4 : Int) = 4 ∧ ys = ys) = true) := decide_eq_true ⟨rfl, rfl⟩
      rw [HR.out]
      go_enter Tryz.func33, Tryz.ntmps33
      go_wp2
      go_ret
      exact ⟨rfl, HL.out _ _⟩
    · have HR : Hid (decide (yo = 4 ∧ ys = ys) = false) := decide_eq_false (fun e => h4 e.1)
      rw [HR.out]
      have e1 : (yo == 4) = false := by rw [beq_eq_false_iff_ne]; omega
      clear h4
      go_enter Tryz.func33, Tryz.ntmps33
      go_wp2
      go_ret
      exact ⟨rfl, HL.out _ _⟩
  · have HR : Hid (decide (yo = 4 ∧ ys = s) = false) := decide_eq_false (fun e => h e.2)
    rw [HR.out]
    have h3 : (ys.toList == s.toList) = false := by rw [beq_eq_false_iff_ne]; exact fun e => h (bytes_inj (by simpa only [ByteArray.toList_eq] using e))
    clear h
    by_cases h4 : yo = 4
    · subst h4
      go_enter Tryz.func33, Tryz.ntmps33
      go_wp2
      go_ret
      exact ⟨rfl, HL.out _ _⟩
    · have e1 : (yo == 4) = false := by rw [beq_eq_false_iff_ne]; omega
      clear h4
      go_enter Tryz.func33, Tryz.ntmps33
      go_wp2
      go_ret
      exact ⟨rfl, HL.out _ _⟩
end
end Go.Proofs.YtckjndiepojgfaaGreatDoor
namespace Go.Proofs.YtckjndiepojgfaaGreatDoor
open Go.RowKit
set_option linter.unusedVariables false

theorem catch_idle (p : Addr) (w : World) :
    CallsD Tryz.prog 110 #[.pointer (some p)] .returning w fun e u' w' => e = .returned (.tuple #[]) ∧ u' = .returning ∧ w' = w := by
  refine callsD_of_wpS Tryz.func110 rfl fun c₀ cs hu => ?_
  apply wpS_seq
  apply wpS_region
  simp [wpOpsS, go_sem, recoverD, hu, Tryz.ntmps110, Exit.thenS]
  refine wpS_of_wp ?_
  go_wp2
  cases c₀
  simp_all [bodyPostS, results, Tryz.results110]

theorem catch_thrown (p : Addr) (w : World) (u : Value) (hc : w.cell? p = some u) (hz : w.frozen? p = false) :
    CallsD Tryz.prog 110 #[.pointer (some p)] (.panicking thrown) w fun e u' w' => e = .returned (.tuple #[]) ∧ u' = .panicking [{ v := .iface 23 (.int .i64 1), recovered := true }] ∧ w' = w.setCell p (.iface 23 (.int .i64 1)) := by
  have hta : ∀ w : World, Sem.run Tryz.prog (Instr.typeAssert (.iface 23 (.int .i64 1)) 20 23 true) w = .ok (.tuple #[.int .i64 1, .bool true]) w := fun _ => by kernel_rfl
  refine callsD_of_wpS Tryz.func110 rfl fun c₀ cs hu => ?_
  unfold thrown at hu
  apply wpS_seq
  apply wpS_region
  simp [wpOpsS, go_sem, recoverD, hu, Tryz.ntmps110, Exit.thenS]
  refine wpS_of_wp ?_
  go_wp2
  cases c₀
  simp_all [bodyPostS, results, Tryz.results110]

/-- A list of nodes as a slice: nil, or one that lies somewhere. -/
def NS (w : World) (v : List Nd) (x : Value) : Prop := ∃ p c, x = .slice p v.length c ∧ (v = [] ∨ p.isSome = true) ∧ NL w p v ∧ v.length ≤ c ∧ c ≤ maxLen

theorem pastValue_slice (v : List Nd) (p : Option Addr) (c : Nat) (w : World) (hv : NL w p v) (hc : v.length ≤ c) (hcm : c ≤ maxLen) :
    Calls Tryz.prog 112 #[.slice p v.length c] w fun e w' => (match pastV (v.length + 1) v with | none => e = .panicked thrown | some r => ∃ q c', e = .returned (.slice q r.length c')) ∧ Below w.heap.size w w' := by
  cases v with
  | nil =>
    go_enter Tryz.func112, Tryz.ntmps112
    go_wp2_with fail
    refine (need_false _).mono ?_
    rintro e w3 ⟨rfl, rfl⟩
    go_wp2
    exact ⟨rfl, rfl, Below.refl _ _⟩
  | cons x r =>
    obtain ⟨b, off, rfl, hbw, _⟩ := hv.head
    refine (pastValue_any _ (x :: r) b off c w (Nat.lt_succ_self _) hv hc hcm).mono ?_
    rintro e w' ⟨rfl, hb⟩
    refine ⟨?_, hb⟩
    cases pastV ((x :: r).length + 1) (x :: r) with
    | none => rfl
    | some r' => exact ⟨_, _, rfl⟩

theorem walk_any (v : List Nd) (p : Option Addr) (c : Nat) (w : World) (hv : NL w p v) (hc : v.length ≤ c) (hcm : c ≤ maxLen) :
    Calls Tryz.prog 63 #[.slice p v.length c] w fun e w' => e = .returned (eV (if isVal v then 0 else 1)) ∧ Below w.heap.size w w' := by
  generalize hn : (if isVal v then (0 : Int) else 1) = n
  have HNN : Hid (_ = _) := hn
  clear hn
  have hmf : ∀ (fn : Fn) (first cap : Array Value) (w : World), (Instr.makeFunc fn first cap).run Tryz.prog w = .ok (.func fn first cap) w := fun _ _ _ _ => rfl
  have hp := pastValue_slice v p c (w.alloc (.cells #[.nilIface] 27)) (hv.up ((Below.refl _ _).alloc (Nat.le_refl _) _)) hc hcm
  have hb0 : Below w.heap.size w (w.alloc (.cells #[.nilIface] 27)) := (Below.refl _ _).alloc (Nat.le_refl _) _
  have hc0 : (w.alloc (.cells #[.nilIface] 27)).cell? ⟨w.heap.size, 0, none⟩ = some .nilIface := by simp [go_sem]
  have hz0 : (w.alloc (.cells #[.nilIface] 27)).frozen? ⟨w.heap.size, 0, none⟩ = false := by simp [go_sem]
  have hs0 : w.heap.size < (w.alloc (.cells #[.nilIface] 27)).heap.size := by simp
  cases hpv : pastV (v.length + 1) v with
  | none =>
    rw [hpv] at hp
    have HV : Hid (isVal v = false) := by show _ = _; unfold isVal; rw [hpv]
    clear hpv
    go_enter_defers Tryz.func63, Tryz.ntmps63
    go_wp2_with fail
    refine hp.mono ?_
    rintro e w1 ⟨rfl, hb⟩
    have hc1 := (hb.cell (p := ⟨w.heap.size, 0, none⟩) hs0).trans hc0
    have hz1 := (hb.frozen (p := ⟨w.heap.size, 0, none⟩) hs0).trans hz0
    go_wp2
    refine leaves_cons (f := 110) (args := #[.pointer (some ⟨w.heap.size, 0, none⟩)]) (by simp) (by simp [go_sem]) ?_
    refine (catch_thrown ⟨w.heap.size, 0, none⟩ _ .nilIface hc1 hz1).mono ?_
    rintro e u' w'' ⟨rfl, rfl, rfl⟩
    have hb2 : Below w.heap.size w (w1.setCell ⟨w.heap.size, 0, none⟩ (.iface 23 (.int .i64 1))) := (hb0.trans (hb.mono hb0.size)).setCell (Nat.le_refl _) _
    obtain rfl : n = 1 := by rw [← HNN.out, HV.out]; rfl
    simp [Leaves, settle, results, Tryz.results63, go_sem, hc1]
    exact ⟨rfl, hb2⟩
  | some r =>
    rw [hpv] at hp
    have HV : Hid (isVal v = r.isEmpty) := by show _ = _; unfold isVal; rw [hpv]
    clear hpv
    cases r with
    | nil =>
      go_enter_defers Tryz.func63, Tryz.ntmps63
      go_wp2_with fail
      refine hp.mono ?_
      rintro e w1 ⟨⟨q, c', rfl⟩, hb⟩
      have hc1 := (hb.cell (p := ⟨w.heap.size, 0, none⟩) hs0).trans hc0
      have hz1 := (hb.frozen (p := ⟨w.heap.size, 0, none⟩) hs0).trans hz0
      go_wp2_with fail
      refine (need_true _).mono ?_
      rintro e w2 ⟨rfl, rfl⟩
      go_wp2
      refine leaves_cons (f := 110) (args := #[.pointer (some ⟨w.heap.size, 0, none⟩)]) (by simp) (by simp [go_sem]) ?_
      refine (catch_idle ⟨w.heap.size, 0, none⟩ _).mono ?_
      rintro e u' w'' ⟨rfl, rfl, rfl⟩
      have hb2 : Below w.heap.size w (w2.setCell ⟨w.heap.size, 0, none⟩ .nilIface) := (hb0.trans (hb.mono hb0.size)).setCell (Nat.le_refl _) _
      obtain rfl : n = 0 := by rw [← HNN.out, HV.out]; rfl
      simp [Leaves, settle, results, Tryz.results63, go_sem, hc1]
      exact ⟨rfl, hb2⟩
    | cons x r =>
      go_enter_defers Tryz.func63, Tryz.ntmps63
      go_wp2_with fail
      refine hp.mono ?_
      rintro e w1 ⟨⟨q, c', rfl⟩, hb⟩
      have hc1 := (hb.cell (p := ⟨w.heap.size, 0, none⟩) hs0).trans hc0
      have hz1 := (hb.frozen (p := ⟨w.heap.size, 0, none⟩) hs0).trans hz0
      have ne : ((r.length : Int) + 1 == 0) = false := by simp; omega
      go_wp2_with fail
      refine (need_false _).mono ?_
      rintro e w2 ⟨rfl, rfl⟩
      go_wp2
      refine leaves_cons (f := 110) (args := #[.pointer (some ⟨w.heap.size, 0, none⟩)]) (by simp) (by simp [go_sem]) ?_
      refine (catch_thrown ⟨w.heap.size, 0, none⟩ _ .nilIface hc1 hz1).mono ?_
      rintro e u' w'' ⟨rfl, rfl, rfl⟩
      have hb2 : Below w.heap.size w (w2.setCell ⟨w.heap.size, 0, none⟩ (.iface 23 (.int .i64 1))) := (hb0.trans (hb.mono hb0.size)).setCell (Nat.le_refl _) _
      obtain rfl : n = 1 := by rw [← HNN.out, HV.out]; rfl
      simp [Leaves, settle, results, Tryz.results63, go_sem, hc1]
      exact ⟨rfl, hb2⟩

theorem vcheck_any (v : List Nd) (p : Option Addr) (c : Nat) (w : World) (hv : NL w p v) (hc : v.length ≤ c) (hcm : c ≤ maxLen) :
    Calls Tryz.prog 31 #[.slice p v.length c] w fun e w' => e = .returned (eV (vfault v)) ∧ Below w.heap.size w w' := by
  by_cases h : 200 < v.length
  · have HF : Hid (vfault v = 4) := by show _ = _; unfold vfault; rw [if_pos h]
    have h' : (200 : Int) < (v.length : Int) := by omega
    go_enter Tryz.func31, Tryz.ntmps31
    go_wp2
    go_ret
    exact ⟨by rw [HF.out]; rfl, Below.refl _ _⟩
  · have HF : Hid (vfault v = if isVal v then 0 else 1) := by show _ = _; unfold vfault; rw [if_neg h]
    have h' : ¬ (200 : Int) < (v.length : Int) := by omega
    go_enter Tryz.func31, Tryz.ntmps31
    go_wp2_with fail
    refine (walk_any v p c _ hv hc hcm).mono ?_
    rintro e w1 ⟨rfl, hb⟩
    rw [← HF.out]
    go_wp2
    go_ret
    exact ⟨rfl, hb⟩

end Go.Proofs.YtckjndiepojgfaaGreatDoor
namespace Go.Proofs.YtckjndiepojgfaaGreatDoor
open Go.RowKit
set_option linter.unusedVariables false
set_option maxRecDepth 100000

section
variable (x y : Nd) (k l : Tp) (w : World) (v u : Value) (S : Nat → Prop) (hv : VK w k v S) (hu : VK w l u S)
include hv hu
set_option maxHeartbeats 4000000 in
theorem has_set (ih : ∀ z kz, kz.flat.length < l.flat.length → HasK z kz) (hx : x = lfN 45) (hk : T1 k) (h5 : y.op = 5) (hl : okV none l) (hk1 : k.flat.length ≤ 1000) (hl1 : l.flat.length ≤ 1000) :
    Calls Tryz.prog 33 #[partV x v, partV y u] w fun e w' => e = .returned (.bool (hs false l k)) ∧ Below w.heap.size w w' := by
  obtain ⟨z, kz, rfl, hz⟩ := hk.of
  obtain ⟨g, cap, uz, rfl, hP, hzw, hvz⟩ := hv.single
  obtain ⟨qz, cz, rfl, _⟩ := hvz.slice
  obtain ⟨q2, c2, rfl, _⟩ := hu.slice
  simp only [Tp.flat, List.append_nil, List.length_cons] at hk1
  subst hx
  obtain ⟨yo, yn, ys, yt⟩ := y
  dsimp only at h5
  subst h5
  obtain ⟨V6, hV6⟩ : ∃ V6, V6 = (w.alloc (.cells #[.int .i64 45, .int .i64 0, .string ⟨#[]⟩, .string ⟨#[]⟩, .slice (some ⟨g, 0, none⟩) 1 cap] 60)).alloc (.cells #[.int .i64 5, .int .i64 yn, .string ys, .string yt, .slice q2 l.len c2] 60) := ⟨_, rfl⟩
  have hb6 : Below w.heap.size w V6 := by rw [hV6]; exact kqx
  have hB6 : PBk V6 w.heap.size (lfN 45) (.slice (some ⟨g, 0, none⟩) 1 cap) := by rw [hV6]; exact (PBk.new w (lfN 45) _ rfl).up kqx
  have hO6 : PBk V6 (w.heap.size + 1) ⟨5, yn, ys, yt⟩ (.slice q2 l.len c2) := by rw [hV6]; exact PBk.new _ ⟨5, yn, ys, yt⟩ _ (by simp)
  have hC6 := fun q : BW V6.heap.size V6 => Calls.bel q (hasAll_any z kz l ih q.at_ _ _ S ((hvz.up hb6).up q.bel) ((hu.up hb6).up q.bel) hz hl (by omega) hl1)
  have d4 := fun q : BW V6.heap.size V6 => (hB6.up q.bel).cells.2.2.2.2
  have o0 := fun q : BW V6.heap.size V6 => (hO6.up q.bel).cells.1
  have o4 := fun q : BW V6.heap.size V6 => (hO6.up q.bel).cells.2.2.2.2
  have e0 := fun q : BW V6.heap.size V6 => ((hP.up hb6).up q.bel).cells.1
  have e1 := fun q : BW V6.heap.size V6 => ((hP.up hb6).up q.bel).cells.2.1
  have e2 := fun q : BW V6.heap.size V6 => ((hP.up hb6).up q.bel).cells.2.2.1
  have e3 := fun q : BW V6.heap.size V6 => ((hP.up hb6).up q.bel).cells.2.2.2.1
  have e4 := fun q : BW V6.heap.size V6 => ((hP.up hb6).up q.bel).cells.2.2.2.2
  dsimp only [Nat.zero_add, Nat.reduceAdd] at e0 e1 e2 e3 e4 o0
  have HB6 : Hid (Below w.heap.size w V6) := hb6
  generalize hs false l (.cons z kz .nil) = R at *
  clear hv hu ih hk hl hk1 hl1 hz hP hvz hB6 hO6 hb6
  unfold partV at *
  unfold lfN Go.Proofs.YtckjndiepojgfaaGreatDoor.e0
  dsimp only
  go_enter Tryz.func33, Tryz.ntmps33
  go_wp2_with fail
  rw [← hV6]
  clear hV6
  refine wp_region_bel (by kernel_rfl) (by kernel_rfl) ?_
  repeat (go_big_quiet_step (exact hC6 _))
  refine wpQuiet_nil ?_
  rintro _ ⟨q9, rfl⟩
  go_wp2
  go_ret
  exact ⟨retb (by simp), HB6.out.trans (q9.bel.mono HB6.out.size)⟩
set_option maxHeartbeats 4000000 in
theorem has_setNo (hx : x = lfN 45) (h5 : y.op ≠ 5) :
    Calls Tryz.prog 33 #[partV x v, partV y u] w fun e w' => e = .returned (.bool false) ∧ Below w.heap.size w w' := by
  obtain ⟨q, c, rfl, _⟩ := hv.slice
  obtain ⟨q2, c2, rfl, _⟩ := hu.slice
  subst hx
  obtain ⟨yo, yn, ys, yt⟩ := y
  dsimp only at h5
  have e5 : (yo == 5) = false := by rw [beq_eq_false_iff_ne]; omega
  obtain ⟨V6, hV6⟩ : ∃ V6, V6 = (w.alloc (.cells #[.int .i64 45, .int .i64 0, .string ⟨#[]⟩, .string ⟨#[]⟩, .slice q k.len c] 60)).alloc (.cells #[.int .i64 yo, .int .i64 yn, .string ys, .string yt, .slice q2 l.len c2] 60) := ⟨_, rfl⟩
  have hb6 : Below w.heap.size w V6 := by rw [hV6]; exact kqx
  have hO6 : PBk V6 (w.heap.size + 1) ⟨yo, yn, ys, yt⟩ (.slice q2 l.len c2) := by rw [hV6]; exact PBk.new _ ⟨yo, yn, ys, yt⟩ _ (by simp)
  have o0 := fun q : BW V6.heap.size V6 => (hO6.up q.bel).cells.1
  have HB6 : Hid (Below w.heap.size w V6) := hb6
  clear hv hu hO6 hb6 h5
  dsimp only at o0
  unfold partV lfN e0
  dsimp only
  go_enter Tryz.func33, Tryz.ntmps33
  go_wp2_with fail
  rw [← hV6]
  clear hV6
  refine wp_region_bel (by kernel_rfl) (by kernel_rfl) ?_
  repeat (go_big_quiet_step (fail))
  refine wpQuiet_nil ?_
  rintro _ ⟨q9, rfl⟩
  go_wp2
  go_ret
  exact ⟨retb (by simp), HB6.out.trans (q9.bel.mono HB6.out.size)⟩
set_option maxHeartbeats 4000000 in
theorem has_rcd (ih : ∀ z kz, kz.flat.length < l.flat.length → HasK z kz) (m : Int) (hx : x = ⟨46, m, e0, e0⟩) (hk : Fl e0 k) (h6 : y.op = 6) (hl : okV (some e0) l) (hk1 : k.flat.length ≤ 1000) (hl1 : l.flat.length ≤ 1000) :
    Calls Tryz.prog 33 #[partV x v, partV y u] w fun e w' => e = .returned (.bool (hs true l k && noMiss l k)) ∧ Below w.heap.size w w' := by
  obtain ⟨q, c, rfl, _⟩ := hv.slice
  obtain ⟨q2, c2, rfl, _⟩ := hu.slice
  subst hx
  obtain ⟨yo, yn, ys, yt⟩ := y
  dsimp only at h6
  subst h6
  obtain ⟨V6, hV6⟩ : ∃ V6, V6 = (w.alloc (.cells #[.int .i64 46, .int .i64 m, .string ⟨#[]⟩, .string ⟨#[]⟩, .slice q k.len c] 60)).alloc (.cells #[.int .i64 6, .int .i64 yn, .string ys, .string yt, .slice q2 l.len c2] 60) := ⟨_, rfl⟩
  have hb6 : Below w.heap.size w V6 := by rw [hV6]; exact kqx
  have hB6 : PBk V6 w.heap.size ⟨46, m, ⟨#[]⟩, ⟨#[]⟩⟩ (.slice q k.len c) := by rw [hV6]; exact (PBk.new w ⟨46, m, ⟨#[]⟩, ⟨#[]⟩⟩ _ rfl).up kqx
  have hO6 : PBk V6 (w.heap.size + 1) ⟨6, yn, ys, yt⟩ (.slice q2 l.len c2) := by rw [hV6]; exact PBk.new _ ⟨6, yn, ys, yt⟩ _ (by simp)
  have HF := fun w1 (h1 : Below V6.heap.size V6 w1) => hasFields_any ⟨46, m, ⟨#[]⟩, ⟨#[]⟩⟩ ⟨6, yn, ys, yt⟩ k l ih w1 _ _ S ((hv.up hb6).up h1) ((hu.up hb6).up h1) hk hl hk1 hl1
  have HM := fun w1 (h1 : Below V6.heap.size V6 w1) => missesNone_any ⟨46, m, ⟨#[]⟩, ⟨#[]⟩⟩ ⟨6, yn, ys, yt⟩ k l w1 _ _ S ((hv.up hb6).up h1) ((hu.up hb6).up h1) hk1 hl1
  have HB6 : Hid (Below w.heap.size w V6) := hb6
  clear hv hu ih hk hl hk1 hl1 hb6
  generalize hs true l k = R1 at *
  generalize noMiss l k = R2 at *
  unfold partV at *
  unfold Go.Proofs.YtckjndiepojgfaaGreatDoor.e0 at *
  dsimp only at *
  cases R1
  · go_enter Tryz.func33, Tryz.ntmps33
    go_wp2_with fail
    rw [← hV6]
    refine (HF V6 (Below.refl _ _)).mono ?_
    rintro _ w1 ⟨rfl, hb1⟩
    go_wp2
    go_ret
    exact ⟨rfl, HB6.out.trans (hb1.mono HB6.out.size)⟩
  · go_enter Tryz.func33, Tryz.ntmps33
    go_wp2_with fail
    rw [← hV6]
    refine (HF V6 (Below.refl _ _)).mono ?_
    rintro _ w1 ⟨rfl, hb1⟩
    obtain ⟨d0, d1, d2, d3, d4⟩ := (hB6.up hb1).cells
    obtain ⟨f0, f1, f2, f3, f4⟩ := (hO6.up hb1).cells
    go_wp2_with fail
    refine (HM w1 hb1).mono ?_
    rintro _ w2 ⟨rfl, hb2⟩
    go_wp2
    go_ret
    exact ⟨retb (by simp), HB6.out.trans ((kqt hb1 hb2).mono HB6.out.size)⟩
set_option maxHeartbeats 4000000 in
theorem has_rcdNo (m : Int) (hx : x = ⟨46, m, e0, e0⟩) (h6 : y.op ≠ 6) :
    Calls Tryz.prog 33 #[partV x v, partV y u] w fun e w' => e = .returned (.bool false) ∧ Below w.heap.size w w' := by
  obtain ⟨q, c, rfl, _⟩ := hv.slice
  obtain ⟨q2, c2, rfl, _⟩ := hu.slice
  clear hv hu
  have HL : Hid (∀ o1 o2, Below w.heap.size w ((w.alloc o1).alloc o2)) := fun o1 o2 => kqx
  subst hx
  obtain ⟨yo, yn, ys, yt⟩ := y
  dsimp only at h6
  have e6 : (yo == 6) = false := by rw [beq_eq_false_iff_ne]; omega
  clear h6
  unfold partV e0
  dsimp only
  go_enter Tryz.func33, Tryz.ntmps33
  go_wp2
  go_ret
  exact ⟨rfl, HL.out _ _⟩
end
theorem hasK_any : ∀ (N : Nat) (y : Nd) (l : Tp), l.flat.length < N → HasK y l
  | 0, y, l, h => by omega
  | N + 1, y, l, h => by
    have ih : ∀ z kz, kz.flat.length < l.flat.length → HasK z kz := fun z kz hz => hasK_any N z kz (by omega)
    intro x k w v u S hv hu hx hy hk1 hl1
    obtain ⟨⟨h7, hnd, hway⟩, _⟩ := okV.none_iff.1 hy
    have hnil : ∀ c, hs false .nil c = true := fun c => by rw [hs]
    rw [hs_cons, hnil, Bool.and_true]
    cases hx with
    | leaf o ho =>
      have := has_leaf _ y .nil l w v u S hv hu o ho rfl
      have e : (lfN o).op = o := rfl
      rw [e]
      have e2 : (if o = 48 then true else if o = 41 then decide (y.op = 1) else if o = 42 then decide (y.op = 2) else if o = 43 then decide (y.op = 3) else if o = 44 then decide (y.op = 4 ∧ y.s = (lfN o).s) else if o = 45 then decide (y.op = 5) && hs false l .nil else if o = 46 then decide (y.op = 6) && hs true l .nil && noMiss l .nil else false) = (if o = 48 then true else if o = 41 then decide (y.op = 1) else if o = 42 then decide (y.op = 2) else if o = 43 then decide (y.op = 3) else false) := by
        rw [if_neg (show ¬ o = 44 by omega), if_neg (show ¬ o = 45 by omega), if_neg (show ¬ o = 46 by omega)]
      rw [e2]
      exact this
    | ent s hs' =>
      simp only [show ¬ (44 : Int) = 48 by decide, show ¬ (44 : Int) = 41 by decide, show ¬ (44 : Int) = 42 by decide, show ¬ (44 : Int) = 43 by decide, if_true, if_false]
      exact has_ent _ y .nil l w v u S hv hu s rfl
    | set k hk =>
      have e : (lfN 45).op = 45 := rfl
      simp only [e, show ¬ (45 : Int) = 48 by decide, show ¬ (45 : Int) = 41 by decide, show ¬ (45 : Int) = 42 by decide, show ¬ (45 : Int) = 43 by decide, show ¬ (45 : Int) = 44 by decide, if_true, if_false]
      by_cases h5 : y.op = 5
      · rw [decide_eq_true h5, Bool.true_and]
        rcases hway with ⟨_, _, hk0⟩ | ⟨h6, _⟩ | ⟨h6, _⟩
        · exact has_set _ y k l w v u S hv hu ih rfl hk h5 hk0 hk1 hl1
        · omega
        · exact absurd h5 h6
      · rw [decide_eq_false h5, Bool.false_and]
        exact has_setNo _ y k l w v u S hv hu rfl h5
    | rcd k hk =>
      simp only [show ¬ (46 : Int) = 48 by decide, show ¬ (46 : Int) = 41 by decide, show ¬ (46 : Int) = 42 by decide, show ¬ (46 : Int) = 43 by decide, show ¬ (46 : Int) = 44 by decide, show ¬ (46 : Int) = 45 by decide, if_true, if_false]
      by_cases h6 : y.op = 6
      · rw [decide_eq_true h6, Bool.true_and]
        rcases hway with ⟨h5, _⟩ | ⟨_, _, hk0⟩ | ⟨_, h6', _⟩
        · omega
        · exact has_rcd _ y k l w v u S hv hu ih _ rfl hk h6 hk0 hk1 hl1
        · exact absurd h6 h6'
      · rw [decide_eq_false h6, Bool.false_and, Bool.false_and]
        exact has_rcdNo _ y k l w v u S hv hu _ rfl h6
theorem hasK (y : Nd) (l : Tp) : HasK y l := hasK_any _ y l (Nat.lt_succ_self _)
end Go.Proofs.YtckjndiepojgfaaGreatDoor
namespace Go.Proofs.YtckjndiepojgfaaGreatDoor
open Go.RowKit
set_option linter.unusedVariables false
set_option linter.unusedSectionVars false
set_option maxRecDepth 100000

/-- The nodes are just this value. -/
def VTy (v : List Nd) (y : Nd) (l : Tp) : Prop := okV none (.cons y l .nil) ∧ v = y :: l.flat
theorem vty_of {v : List Nd} (h : vfault v = 0) : v.length ≤ 200 ∧ ∃ y l, VTy v y l := by
  obtain ⟨y, l, h1, h2, h3⟩ := val_treeK h
  exact ⟨by rw [h2]; simpa using h3, y, l, h1, h2⟩
theorem VTy.uniq {v : List Nd} {x y : Nd} {k l : Tp} (h : VTy v x k) (h2 : VTy v y l) : x = y ∧ k = l := by
  have := tp_flat_inj (.cons x k .nil) (.cons y l .nil) [] [] h.1.ar h2.1.ar rfl (by simp [Tp.flat, ← h.2, ← h2.2])
  cases this.1
  exact ⟨rfl, rfl⟩
/-- What Has tells, by number. -/
noncomputable def hfault (t v : List Nd) : Int := if kfault t = 0 then vfault v else kfault t
section
variable (t v : List Nd) (w : World) (p q : Option Addr) (c d : Nat) (ht : NL w p t) (hv : NL w q v) (hc : t.length ≤ c) (hcm : c ≤ maxLen) (hd : v.length ≤ d) (hdm : d ≤ maxLen)
include ht hv hc hcm hd hdm
set_option maxHeartbeats 2000000 in
theorem khas_err (h : hfault t v ≠ 0) :
    Calls Tryz.prog 12 #[.slice p t.length c, .slice q v.length d] w fun e w' => e = .returned (.tuple #[.bool false, .iface 23 (.int .i64 (hfault t v))]) ∧ Below w.heap.size w w' := by
  unfold hfault at *
  by_cases h1 : kfault t = 0
  · rw [if_pos h1] at h ⊢
    obtain ⟨h2, x, k, h3⟩ := kfault_zero h1
    have hC := read_ok t w p c ht hc hcm h2 x k h3
    have hV := fun W (hW : Below w.heap.size w W) => vcheck_any v q d W (hv.up hW) hd hdm
    rw [eV_not h] at hV
    generalize vfault v = n at *
    clear ht hv h1 h3
    go_enter Tryz.func12, Tryz.ntmps12
    go_wp2_with fail
    refine hC.mono ?_
    rintro _ w1 ⟨⟨q1, c1, rfl, hxw, hu⟩, hb1⟩
    have hV1 := fun o => hV (w1.alloc o) (kqA hb1)
    clear hC hV hu
    go_wp2_with fail
    refine (hV1 _).mono ?_
    rintro _ w2 ⟨rfl, hb2⟩
    go_wp2
    exact bodyPost_ret (v := .tuple #[.bool false, .iface 23 (.int .i64 n)]) (by simp [results, Tryz.results12, go_sem]) rfl ⟨rfl, kqt (kqA hb1) hb2⟩
  · rw [if_neg h1]
    have hC := read_err t w p c ht hc hcm h1
    generalize kfault t = n at *
    clear ht hv
    go_enter Tryz.func12, Tryz.ntmps12
    go_wp2_with fail
    refine hC.mono ?_
    rintro _ w1 ⟨rfl, hb1⟩
    go_wp2
    exact bodyPost_ret (v := .tuple #[.bool false, .iface 23 (.int .i64 n)]) (by simp [results, Tryz.results12, go_sem]) rfl ⟨rfl, kqA hb1⟩
set_option maxHeartbeats 2000000 in
theorem khas_ok (x y : Nd) (k l : Tp) (hlt : t.length ≤ 200) (hlv : v.length ≤ 200) (hk : KTy t x k) (hl : VTy v y l) (hz : vfault v = 0) :
    Calls Tryz.prog 12 #[.slice p t.length c, .slice q v.length d] w fun e w' => e = .returned (.tuple #[.bool (hs false (.cons y l .nil) (.cons x k .nil)), .nilIface]) ∧ Below w.heap.size w w' := by
  have hC := read_ok t w p c ht hc hcm hlt x k hk
  have hV := fun W (hW : Below w.heap.size w W) => vcheck_any v q d W (hv.up hW) hd hdm
  rw [eV_nil hz] at hV
  have hF := fun W (hW : Below w.heap.size w W) => (firstK v).yes hl.1.ar (z := []) (by rw [hl.2]; simp) (Below.refl _ W) (hv.up hW) rfl hd hdm (by omega)
  simp only [List.length_nil] at hF
  have hkf : k.flat.length ≤ 1000 := by rw [hk.2] at hlt; simp at hlt; omega
  have hlf : l.flat.length ≤ 1000 := by rw [hl.2] at hlv; simp at hlv; omega
  have HB := fun W v u S h1 h2 => hasK y l x k W v u S h1 h2 (T1.iff.1 hk.1) hl.1 hkf hlf
  generalize hs false (.cons y l .nil) (.cons x k .nil) = R at *
  clear ht hv hk hl hkf hlf hz
  unfold partV at *
  go_enter Tryz.func12, Tryz.ntmps12
  go_wp2_with fail
  refine hC.mono ?_
  rintro _ w1 ⟨⟨q1, c1, rfl, hxw, hu⟩, hb1⟩
  obtain ⟨V1, hV1⟩ : ∃ V1, V1 = w1.alloc (.cells #[.int .i64 x.op, .int .i64 x.n, .string x.s, .string x.t, .slice q1 k.len c1] 60) := ⟨_, rfl⟩
  have hb11 : Below w1.heap.size w1 V1 := by rw [hV1]; exact kqx
  have hB1 : PBk V1 w1.heap.size x (.slice q1 k.len c1) := by rw [hV1]; exact PBk.new w1 x _ rfl
  have hbV := kqt hb1 hb11
  clear hC
  go_wp2_with fail
  rw [← hV1]
  refine (hV V1 hbV).mono ?_
  rintro _ w2 ⟨rfl, hb2⟩
  have hb02 := kqt hbV hb2
  clear hV
  go_wp2_with fail
  refine (hF w2 hb02).mono ?_
  rintro _ w3 ⟨⟨u3, q3, c3, rfl, hyw, hv3, _, _, _⟩, hb3⟩
  obtain ⟨qu, cu, rfl, _⟩ := hv3.slice
  obtain ⟨V3, hV3⟩ : ∃ V3, V3 = w3.alloc (.cells #[.int .i64 y.op, .int .i64 y.n, .string y.s, .string y.t, .slice qu l.len cu] 60) := ⟨_, rfl⟩
  have hb33 : Below w3.heap.size w3 V3 := by rw [hV3]; exact kqx
  have hb13 : Below V1.heap.size V1 V3 := kqt hb2 (kqt hb3 hb33)
  have hB3 := hB1.up hb13
  obtain ⟨b0, b1, b2, b3, b4⟩ := hB3.cells
  rw [hV3] at b0 b1 b2 b3 b4
  have hC3 := HB V3 _ _ (fun _ => True) (((hu.up hb11).up hb13).sub (fun _ _ => trivial)) ((hv3.up hb33).sub (fun _ _ => trivial))
  have hb03 := kqt hbV hb13
  clear hF HB hu hv3
  go_wp2_with fail
  rw [← hV3]
  refine hC3.mono ?_
  rintro _ w4 ⟨rfl, hb4⟩
  go_wp2
  exact bodyPost_ret (v := .tuple #[.bool R, .nilIface]) (by simp [results, Tryz.results12, go_sem]) rfl ⟨rfl, kqt hb03 hb4⟩
end
end Go.Proofs.YtckjndiepojgfaaGreatDoor
namespace Go.Proofs.YtckjndiepojgfaaGreatDoor
open Go.RowKit
set_option linter.unusedVariables false
set_option maxRecDepth 100000

section
variable {t v : List Nd} {w : World} {p q : Option Addr} {c d : Nat} (ht : AK w t p c) (hv : AK w v q d)
include ht hv
theorem AK.has_err (h : hfault t v ≠ 0) : Calls Tryz.prog 12 #[.slice p t.length c, .slice q v.length d] w fun e w' => e = .returned (.tuple #[.bool false, .iface 23 (.int .i64 (hfault t v))]) ∧ Below w.heap.size w w' := khas_err t v w p q c d ht.nl hv.nl ht.le ht.cm hv.le hv.cm h
theorem AK.has {x y : Nd} {k l : Tp} (hlt : t.length ≤ 200) (hlv : v.length ≤ 200) (hk : KTy t x k) (hl : VTy v y l) (hz : vfault v = 0) : Calls Tryz.prog 12 #[.slice p t.length c, .slice q v.length d] w fun e w' => e = .returned (.tuple #[.bool (hs false (.cons y l .nil) (.cons x k .nil)), .nilIface]) ∧ Below w.heap.size w w' := khas_ok t v w p q c d ht.nl hv.nl ht.le ht.cm hv.le hv.cm x y k l hlt hlv hk hl hz
end
/-- Has answers, or tells an error. -/
theorem has_ways (t v : List Nd) : (∃ x y k l, t.length ≤ 200 ∧ v.length ≤ 200 ∧ KTy t x k ∧ VTy v y l ∧ vfault v = 0) ∨ hfault t v ≠ 0 := by
  by_cases h : hfault t v = 0
  · have h1 : kfault t = 0 := by
      unfold hfault at h
      split at h
      · assumption
      · exact h
    have h2 : vfault v = 0 := by unfold hfault at h; rw [if_pos h1] at h; exact h
    obtain ⟨la, x, k, hx⟩ := kfault_zero h1
    obtain ⟨lb, y, l, hy⟩ := vty_of h2
    exact .inl ⟨x, y, k, l, la, lb, hx, hy, h2⟩
  · exact .inr h
/-- What has the less has the more. -/
theorem fits_more {y x x2 : Nd} {l k k2 : Tp} (hv : okV none (.cons y l .nil)) (h1 : T1 (.cons x k .nil)) (h2 : T1 (.cons x2 k2 .nil)) (hh : hs false (.cons y l .nil) (.cons x k .nil) = true) (hb : blw false (.cons x k .nil) (.cons x2 k2 .nil) = true) : hs false (.cons y l .nil) (.cons x2 k2 .nil) = true := by
  obtain ⟨h3, h4⟩ := own_ok hv
  exact (h4 _ h2).2 (Le.trans h3 h1 h2 ((h4 _ h1).1 hh) hb)
end Go.Proofs.YtckjndiepojgfaaGreatDoor
