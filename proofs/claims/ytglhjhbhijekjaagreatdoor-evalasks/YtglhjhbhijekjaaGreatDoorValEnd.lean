/- The document's ValueEnd: what it returns, by a walk of its own text. -/
import Derived.Test.YtglhjhbhijekjaaGreatDoorValRefA
import Derived.Test.YtglhjhbhijekjaaGreatDoorG2
namespace Go.Proofs.YtglhjhbhijekjaaGreatDoor
open Go.RowKit
set_option linter.unusedVariables false

/-- The contract of ValueEnd for what is so short. -/
def EndOk (f : Nat) : Prop := ∀ (v : List Nd) (b off c at_ : Nat) (field : Bool) (w : World), at_ ≤ v.length → v.length - at_ < f → NL w (some ⟨b, off, none⟩) v → b < w.heap.size → v.length ≤ c → c ≤ maxLen →
  Calls Tryz.prog 43 #[.slice (some ⟨b, off, none⟩) v.length c, .int .i64 at_, .bool field] w fun e w' => e = .returned (.int .i64 (endI v.length (pastF f field (v.drop at_)))) ∧ Below w.heap.size w w'

theorem valueEnd_past (p : Option Addr) (n c : Nat) (field : Bool) (w : World) (hn : n ≤ maxLen) :
    Calls Tryz.prog 43 #[.slice p n c, .int .i64 n, .bool field] w fun e w' => e = .returned (.int .i64 (-1)) ∧ w' = w := by
  unfold maxLen at hn
  go_enter Tryz.func43, Tryz.ntmps43
  go_wp2
  go_ret
  exact ⟨rfl, rfl⟩

theorem NL.from {w : World} {b off : Nat} {v : List Nd} (h : NL w (some ⟨b, off, none⟩) v) (k n : Nat) : NL w (some ⟨b, off + k * 4, none⟩) ((v.drop k).take n) := by
  rcases h with rfl | ⟨b', off', h1, h2, h3⟩
  · exact .inl (by simp)
  · cases h1
    refine .inr ⟨_, _, rfl, h2, fun i x hx => ?_⟩
    have hx' : v[k + i]? = some x := by
      rw [List.getElem?_take] at hx
      split at hx
      · simpa using hx
      · cases hx
    have := h3 (k + i) x hx'
    rw [show off + (k + i) * 4 = off + k * 4 + i * 4 by omega] at this
    exact this

theorem endI_cons {v r : List Nd} {at_ : Nat} {x : Nd} (h : v.drop at_ = x :: r) : endI v.length (some r) = (at_ : Int) + 1 := by
  have : (v.drop at_).length = r.length + 1 := by rw [h]; rfl
  simp at this
  unfold endI
  simp only []
  omega

theorem pastF_value {f : Nat} {u : List Nd} : pastF f false u = pastV f u := rfl
theorem pastF_field {f : Nat} {x : Nd} {r : List Nd} (h7 : x.op = 7) (h : ndOk x = true) : pastF f true (x :: r) = pastV f r := by
  unfold pastF; simp [h7, h]
theorem pastF_bad {f : Nat} {x : Nd} {r : List Nd} {field : Bool} (h : ndOk x = false) : pastF (f + 1) field (x :: r) = none := by
  unfold pastF; cases field <;> simp [h, pastV]
theorem pastF_other {f : Nat} {x : Nd} {r : List Nd} {field : Bool} (h : (x.op == 7) ≠ field) : pastF (f + 1) field (x :: r) = none := by
  cases field
  · have : x.op = 7 := by simpa using h
    simp [pastF, pastV, this]
  · have : ¬ x.op = 7 := by simpa using h
    simp [pastF, this]

theorem setLoop_none' {pv : List Nd → Option (List Nd)} {n k : Nat} (h : k < n) {last : Option (List Nd)} {v : List Nd} (e : pv v = none) : setLoop pv (n - k) last v = none := by
  rw [show n - k = (n - (k + 1)) + 1 by omega]; simp only [setLoop, e]
theorem setLoop_some' {pv : List Nd → Option (List Nd)} {n k : Nat} (h : k < n) {last : Option (List Nd)} {v rest : List Nd} (e : pv v = some rest) :
    setLoop pv (n - k) last v = if aheadOf last (v.take (v.length - rest.length)) then setLoop pv (n - (k + 1)) (some (v.take (v.length - rest.length))) rest else none := by
  rw [show n - k = (n - (k + 1)) + 1 by omega]; simp only [setLoop, e]
theorem ret_n {k : IntKind} {a b : Int} (h : a = b) : Ending.returned (.int k a) = .returned (.int k b) := by rw [h]
theorem below_nn {B : Nat} {a w : World} (h : Below B a w) (n : Nat) : Below B a (w.drewN n) := ⟨h.os, h.tape, h.output, h.size, h.block⟩

def lastI : Option Nat → Int
  | none => -1
  | some a => a
def lastL (v : List Nd) (fr : Nat) : Option Nat → Option (List Nd)
  | none => none
  | some a => some ((v.drop a).take (fr - a))

theorem node_cells {w w1 : World} {x : Nd} {T : TypeId} (hb : Below (w.alloc (.cells #[.int .i64 x.op, .int .i64 x.n, .string x.s, .string x.t] T)).heap.size (w.alloc (.cells #[.int .i64 x.op, .int .i64 x.n, .string x.s, .string x.t] T)) w1) :
    w1.cell? ⟨w.heap.size, 0, none⟩ = some (.int .i64 x.op) ∧ w1.cell? ⟨w.heap.size, 1, none⟩ = some (.int .i64 x.n) ∧ Below w.heap.size w w1 ∧ w.heap.size < w1.heap.size := by
  have hs : w.heap.size < (w.alloc (.cells #[.int .i64 x.op, .int .i64 x.n, .string x.s, .string x.t] T)).heap.size := by simp
  refine ⟨(hb.cell (p := ⟨w.heap.size, 0, none⟩) hs).trans (by simp [go_sem]), (hb.cell (p := ⟨w.heap.size, 1, none⟩) hs).trans (by simp [go_sem]), ((Below.refl _ _).alloc (Nat.le_refl _) _).trans (hb.mono (by simp)), Nat.lt_of_lt_of_le hs hb.size⟩

theorem drop_rest {v rest : List Nd} {fr : Nat} (ht : IsTail rest (v.drop fr)) : rest = v.drop (v.length - rest.length) ∧ v.length - rest.length = fr + ((v.drop fr).length - rest.length) ∨ v.length < fr := by
  by_cases h : v.length < fr
  · exact .inr h
  · left
    obtain ⟨a, ha⟩ := ht
    have hl : (v.drop fr).length = a.length + rest.length := by rw [ha]; simp
    have hl2 : v.length - fr = a.length + rest.length := by rw [← hl]; simp
    refine ⟨?_, by omega⟩
    rw [show v.length - rest.length = fr + a.length by omega, ← List.drop_drop, ha, List.drop_left]

set_option maxRecDepth 100000 in
set_option maxHeartbeats 8000000 in
theorem valueEnd_set (f : Nat) (ih : EndOk f) (v : List Nd) (b off c at_ : Nat) (x : Nd) (r : List Nd) (w : World) (hat : v.drop at_ = x :: r) (hf : v.length - at_ < f + 1) (hv : NL w (some ⟨b, off, none⟩) v) (hbw : b < w.heap.size) (hc : v.length ≤ c) (hcm : c ≤ maxLen)
    (h5 : x.op = 5) (hx : ndOk x = true) (h0 : 0 ≤ x.n) (hxn : x.n ≤ 9223372036854775807) :
    Calls Tryz.prog 43 #[.slice (some ⟨b, off, none⟩) v.length c, .int .i64 at_, .bool false] w fun e w' => e = .returned (.int .i64 (endI v.length (setLoop (pastV f) x.n.toNat none r))) ∧ Below w.heap.size w w' := by
  have HM : Hid (c ≤ maxLen) := hcm
  unfold maxLen at hcm
  have hlen : (v.drop at_).length = r.length + 1 := by rw [hat]; rfl
  simp at hlen
  have halt : at_ < v.length := by omega
  have hrd : r = v.drop (at_ + 1) := by rw [← List.drop_drop, hat]; rfl
  have hxe : v[at_]? = some x := by have := congrArg (fun l => l[0]?) hat; simpa using this
  have HXE : Hid (_ = _) := hxe
  obtain ⟨b', o', hpe, _, x0, x1, x2, x3, xw⟩ := hv.at halt
  obtain ⟨rfl, rfl⟩ : b = b' ∧ off = o' := by simpa using hpe
  obtain rfl : v[at_] = x := by rw [List.getElem?_eq_getElem halt] at hxe; exact Option.some.inj hxe
  generalize hX : v[at_] = x at *
  have HAT : Hid (_ = _) := hat
  have HRD : Hid (_ = _) := hrd
  clear hX hpe hxe hat hrd
  have HN := fun w => valueNode_any x w xw
  rw [hx] at HN
  have i1 : (at_ : Int) < (v.length : Int) := by omega
  have e5 : (x.op == 5) = true := by simpa using h5
  have e5' : (x.op != 5) = false := by simpa using h5
  have e6 : (x.op == 6) = false := by simp [h5]
  have e7 : (x.op == 7) = false := by simp [h5]
  have HO : Hid (x.op = 5) := h5
  clear h5 hx
  generalize hR : setLoop (pastV f) x.n.toNat none r = R
  have HR : Hid (_ = _) := hR
  clear hR
  go_enter Tryz.func43, Tryz.ntmps43
  go_wp2_with fail
  refine (HN _).mono ?_
  rintro e w1 ⟨rfl, hb1⟩
  clear HN x0 x1 x2 x3
  obtain ⟨z0, z1, hbw1, hnb⟩ := node_cells hb1
  clear hb1
  have hv1 := hv.up hbw1
  have hb2 : b < w1.heap.size := Nat.lt_of_lt_of_le hbw hbw1.size
  go_wp2
  go_loopw [8, 9, 10] (fun se sl i wr => ∃ (k fr : Nat) (last : Option Nat), (k : Int) ≤ x.n ∧ i = .int .i64 k ∧ se = .int .i64 fr ∧ fr ≤ v.length ∧ at_ < fr ∧ sl = .int .i64 (lastI last) ∧ Hid (∀ a, last = some a → a < fr) ∧
      Hid (setLoop (pastV f) (x.n.toNat - k) (lastL v fr last) (v.drop fr) = R) ∧ Below w1.heap.size w1 wr) (fun _ _ i _ => x.n.toNat - (intOf i).toNat)
  case atStart => exact ⟨0, at_ + 1, none, by simpa using h0, rfl, by go_num, by omega, by omega, rfl, (fun a h => by cases h), by rw [← HRD.out]; exact HR, Below.refl _ _⟩
  case round =>
    obtain ⟨k, fr, last, hk, rfl, rfl, hfr, hatfr, rfl, HLA, HS, hbr⟩ := hrel
    have y0 := (hbr.cell (p := ⟨w.heap.size, 0, none⟩) hnb).trans z0
    have y1 := (hbr.cell (p := ⟨w.heap.size, 1, none⟩) hnb).trans z1
    have hvr := hv1.up hbr
    by_cases hlt : (k : Int) < x.n
    · have hkn : k < x.n.toNat := by omega
      have hend := ih v b off c fr false wr hfr (by omega) hvr (Nat.lt_of_lt_of_le hb2 hbr.size) hc HM.out
      rw [pastF_value] at hend
      cases hp : pastV f (v.drop fr) with
      | none =>
        have HN : Hid (none = R) := by rw [← HS.out, setLoop_none' hkn hp]; rfl
        rw [hp] at hend
        clear HS HR hp
        unfold endI at hend
        simp only [] at hend
        go_wp2_with fail
        refine hend.mono ?_
        rintro e w2 ⟨rfl, hb2'⟩
        clear hend
        go_wp2
        go_ret
        exact ⟨by rw [← HN.out]; rfl, hbw1.trans ((hbr.trans (hb2'.mono hbr.size)).mono hbw1.size)⟩
      | some rest =>
        obtain ⟨hsh, htl⟩ := pastV_shorter hp
        have hdl : (v.drop fr).length = v.length - fr := by simp
        obtain ⟨hrest, hre⟩ := (drop_rest htl).resolve_right (by omega)
        have HN : Hid (_ = _) := (setLoop_some' (last := lastL v fr last) hkn hp).symm.trans HS.out
        rw [hp] at hend
        clear HS HR hp
        obtain ⟨en, hen, hen1, hen2⟩ : ∃ en : Nat, endI v.length (some rest) = (en : Int) ∧ en = v.length - rest.length ∧ fr < en := ⟨v.length - rest.length, by unfold endI; simp only []; omega, rfl, by omega⟩
        rw [hen] at hend
        rw [show (v.drop fr).length - rest.length = en - fr by omega] at HN
        have henl : en ≤ v.length := by omega
        rw [← hen1] at hrest
        have HRS : Hid (_ = _) := hrest
        clear hen hen1 hrest hre hsh htl
        cases last with
        | none =>
          unfold lastI
          simp only []
          go_wp2_with fail
          refine hend.mono ?_
          rintro e w2 ⟨rfl, hb2'⟩
          have hb3 := hbr.trans (hb2'.mono hbr.size)
          have u0 := (hb3.cell (p := ⟨w.heap.size, 0, none⟩) hnb).trans z0
          clear hend y0 y1
          go_wp2_with fail
          go_quiet (fail)
          go_wp2_with fail
          go_quiet (fail)
          go_wp2
          go_roundw
          case rel =>
            refine ⟨k + 1, en, some fr, by omega, by go_num, rfl, henl, by omega, rfl, (fun a h => by cases h; omega), ?_, below_nn hb3 _⟩
            have := HN.out
            rw [show aheadOf (lastL v fr none) ((v.drop fr).take (en - fr)) = true from rfl, if_pos rfl, HRS.out] at this
            exact this
          case measure => simp [intOf]; omega
        | some la =>
          have hla := HLA.out la rfl
          unfold lastI
          simp only []
          have j1 : (0 : Int) ≤ (la : Int) := by omega
          have j2 : (la : Int) ≤ (fr : Int) := by omega
          have j3 : (fr : Int) ≤ (c : Int) := by omega
          have j4 : (fr : Int) ≤ (en : Int) := by omega
          have j5 : (en : Int) ≤ (c : Int) := by omega
          have j6 : ¬ c = la := by omega
          have j7 : ¬ c = fr := by omega
          have lA : ((v.drop la).take (fr - la)).length = fr - la := by simp; omega
          have lB : ((v.drop fr).take (en - fr)).length = en - fr := by simp; omega
          go_wp2_with fail
          refine hend.mono ?_
          rintro e w2 ⟨rfl, hb2'⟩
          have hb3 := hbr.trans (hb2'.mono hbr.size)
          have u0 := (hb3.cell (p := ⟨w.heap.size, 0, none⟩) hnb).trans z0
          have hv2 := hv1.up hb3
          have hcl : ∀ n, Calls Tryz.prog 78 #[.slice (some ⟨b, off + la * 4, none⟩) (fr - la) (c - la), .slice (some ⟨b, off + fr * 4, none⟩) (en - fr) (c - fr)] (w2.drewN n) fun e w'' => e = .returned (.int .i64 (lsC ((v.drop la).take (fr - la)) ((v.drop fr).take (en - fr)))) ∧ ∃ m, w'' = w2.drewN m := fun n => by
            have h := refNodes_any ((v.drop la).take (fr - la)) ((v.drop fr).take (en - fr)) (some ⟨b, off + la * 4, none⟩) (some ⟨b, off + fr * 4, none⟩) (c - la) (c - fr) (w2.drewN n) (hv2.from la (fr - la)) (hv2.from fr (en - fr)) (by rw [lA]; unfold maxLen; omega) (by rw [lB]; unfold maxLen; omega)
            rw [lA, lB] at h
            exact h.mono fun e w'' ⟨h1, m, h2⟩ => ⟨h1, n + m, by rw [h2, World.drewN_drewN]⟩
          have HAH : Hid (aheadOf (lastL v fr (some la)) ((v.drop fr).take (en - fr)) = !decide (0 ≤ lsC ((v.drop la).take (fr - la)) ((v.drop fr).take (en - fr)))) := by
            show _ = _
            by_cases h : lsC ((v.drop la).take (fr - la)) ((v.drop fr).take (en - fr)) < 0
            · rw [decide_eq_false (by omega)]; exact decide_eq_true h
            · rw [decide_eq_true (by omega)]; exact decide_eq_false h
          generalize lsC ((v.drop la).take (fr - la)) ((v.drop fr).take (en - fr)) = z at hcl HAH
          clear hend y0 y1 lA lB
          cases hz : decide (0 ≤ z)
          · rw [hz] at HAH
            go_wp2_with fail
            go_quiet (exact hcl _)
            go_wp2_with fail
            go_quiet (fail)
            go_wp2
            go_roundw
            case rel =>
              refine ⟨k + 1, en, some fr, by omega, by go_num, rfl, henl, by omega, rfl, (fun a h => by cases h; omega), ?_, below_nn hb3 _⟩
              have := HN.out
              rw [HAH.out, if_pos (by decide), HRS.out] at this
              exact this
            case measure => simp [intOf]; omega
          · rw [hz] at HAH
            have HN2 : Hid (none = R) := by
              have := HN.out
              rw [HAH.out, if_neg (by decide)] at this
              exact this
            go_wp2_with fail
            go_quiet (exact hcl _)
            go_wp2
            go_ret
            exact ⟨by rw [← HN2.out]; rfl, hbw1.trans ((below_nn hb3 _).mono hbw1.size)⟩
    · have HN : Hid (some (v.drop fr) = R) := by
        have := HS.out
        rw [show x.n.toNat - k = 0 by omega] at this
        exact this
      clear HS HR
      go_wp2
      go_ret
      exact ⟨by rw [← HN.out]; exact ret_n (by unfold endI; simp; omega), hbw1.trans (hbr.mono hbw1.size)⟩
def lastS (v : List Nd) : Option Nat → ByteArray
  | none => ⟨#[]⟩
  | some a => (v[a]?.map Nd.s).getD ⟨#[]⟩

theorem rec_bad {pv : List Nd → Option (List Nd)} {n k : Nat} (h : k < n) {last : ByteArray} {x : Nd} {r : List Nd} (e : ¬ (x.op = 7 ∧ ndOk x = true ∧ cmpB last x.s < 0)) : recLoop pv (n - k) last (x :: r) = none := by
  rw [show n - k = (n - (k + 1)) + 1 by omega]; simp only [recLoop, if_neg e]
theorem rec_go {pv : List Nd → Option (List Nd)} {n k : Nat} (h : k < n) {last : ByteArray} {x : Nd} {r rest : List Nd} (e : x.op = 7 ∧ ndOk x = true ∧ cmpB last x.s < 0) (hp : pv r = some rest) :
    recLoop pv (n - k) last (x :: r) = recLoop pv (n - (k + 1)) x.s rest := by
  rw [show n - k = (n - (k + 1)) + 1 by omega]; simp only [recLoop, if_pos e, hp]
theorem rec_none {f n k : Nat} (h : k < n) {last : ByteArray} {u : List Nd} (e : pastF f true u = none) : recLoop (pastV f) (n - k) last u = none := by
  rw [show n - k = (n - (k + 1)) + 1 by omega]
  cases u with
  | nil => rfl
  | cons x r =>
    simp only [recLoop]
    split
    · rename_i hh
      rw [pastF_field hh.1 hh.2.1] at e
      rw [e]
    · rfl
theorem rec_some {f : Nat} {u : List Nd} (e : ¬ pastF f true u = none) : ∃ y s rest, u = y :: s ∧ y.op = 7 ∧ ndOk y = true ∧ pastV f s = some rest := by
  cases u with
  | nil => exact absurd rfl e
  | cons x r =>
    by_cases h : x.op = 7 ∧ ndOk x = true
    · rw [pastF_field h.1 h.2] at e
      cases h2 : pastV f r with
      | none => exact absurd h2 e
      | some rest => exact ⟨x, r, rest, rfl, h.1, h.2, h2⟩
    · exact absurd (by unfold pastF; rw [if_pos rfl]; simp only [if_neg h]) e

set_option maxRecDepth 100000 in
set_option maxHeartbeats 8000000 in
theorem valueEnd_rec (f : Nat) (ih : EndOk f) (v : List Nd) (b off c at_ : Nat) (x : Nd) (r : List Nd) (w : World) (hat : v.drop at_ = x :: r) (hf : v.length - at_ < f + 1) (hv : NL w (some ⟨b, off, none⟩) v) (hbw : b < w.heap.size) (hc : v.length ≤ c) (hcm : c ≤ maxLen)
    (h5 : x.op = 6) (hx : ndOk x = true) (h0 : 0 ≤ x.n) (hxn : x.n ≤ 9223372036854775807) :
    Calls Tryz.prog 43 #[.slice (some ⟨b, off, none⟩) v.length c, .int .i64 at_, .bool false] w fun e w' => e = .returned (.int .i64 (endI v.length (recLoop (pastV f) x.n.toNat ⟨#[]⟩ r))) ∧ Below w.heap.size w w' := by
  have HM : Hid (c ≤ maxLen) := hcm
  unfold maxLen at hcm
  have hlen : (v.drop at_).length = r.length + 1 := by rw [hat]; rfl
  simp at hlen
  have halt : at_ < v.length := by omega
  have hrd : r = v.drop (at_ + 1) := by rw [← List.drop_drop, hat]; rfl
  have hxe : v[at_]? = some x := by have := congrArg (fun l => l[0]?) hat; simpa using this
  have HXE : Hid (_ = _) := hxe
  obtain ⟨b', o', hpe, _, x0, x1, x2, x3, xw⟩ := hv.at halt
  obtain ⟨rfl, rfl⟩ : b = b' ∧ off = o' := by simpa using hpe
  obtain rfl : v[at_] = x := by rw [List.getElem?_eq_getElem halt] at hxe; exact Option.some.inj hxe
  generalize hX : v[at_] = x at *
  have HAT : Hid (_ = _) := hat
  have HRD : Hid (_ = _) := hrd
  clear hX hpe hxe hat hrd
  have HN := fun w => valueNode_any x w xw
  rw [hx] at HN
  have i1 : (at_ : Int) < (v.length : Int) := by omega
  have e5 : (x.op == 5) = false := by simp [h5]
  have e5' : (x.op != 5) = true := by simp [h5]
  have e6 : (x.op == 6) = true := by simpa using h5
  have e6' : (x.op != 6) = false := by simpa using h5
  have e7 : (x.op == 7) = false := by simp [h5]
  have HO : Hid (x.op = 6) := h5
  clear h5 hx
  generalize hR : recLoop (pastV f) x.n.toNat ⟨#[]⟩ r = R
  have HR : Hid (_ = _) := hR
  clear hR
  go_enter Tryz.func43, Tryz.ntmps43
  go_wp2_with fail
  refine (HN _).mono ?_
  rintro e w1 ⟨rfl, hb1⟩
  clear HN x0 x1 x2 x3
  obtain ⟨z0, z1, hbw1, hnb⟩ := node_cells hb1
  clear hb1
  have hv1 := hv.up hbw1
  have hb2 : b < w1.heap.size := Nat.lt_of_lt_of_le hbw hbw1.size
  go_wp2
  go_loopw [8, 9, 10] (fun se sl i wr => ∃ (k fr : Nat) (last : Option Nat), (k : Int) ≤ x.n ∧ i = .int .i64 k ∧ se = .int .i64 fr ∧ fr ≤ v.length ∧ at_ < fr ∧ sl = .int .i64 (lastI last) ∧ Hid (∀ a, last = some a → a < fr) ∧
      Hid (recLoop (pastV f) (x.n.toNat - k) (lastS v last) (v.drop fr) = R) ∧ Below w1.heap.size w1 wr) (fun _ _ i _ => x.n.toNat - (intOf i).toNat)
  case atStart => exact ⟨0, at_ + 1, none, by simpa using h0, rfl, by go_num, by omega, by omega, rfl, (fun a h => by cases h), by rw [← HRD.out]; exact HR, Below.refl _ _⟩
  case round =>
    obtain ⟨k, fr, last, hk, rfl, rfl, hfr, hatfr, rfl, HLA, HS, hbr⟩ := hrel
    have y0 := (hbr.cell (p := ⟨w.heap.size, 0, none⟩) hnb).trans z0
    have y1 := (hbr.cell (p := ⟨w.heap.size, 1, none⟩) hnb).trans z1
    have hvr := hv1.up hbr
    by_cases hlt : (k : Int) < x.n
    · have hkn : k < x.n.toNat := by omega
      have hend := ih v b off c fr true wr hfr (by omega) hvr (Nat.lt_of_lt_of_le hb2 hbr.size) hc HM.out
      -- none of a Field with a value: the end is below 0
      by_cases hpf : pastF f true (v.drop fr) = none
      · have HN : Hid (none = R) := by
          rw [← HS.out, rec_none hkn hpf]; rfl
        rw [hpf] at hend
        clear HS HR hpf
        unfold endI at hend
        simp only [] at hend
        go_wp2_with fail
        refine hend.mono ?_
        rintro e w2 ⟨rfl, hb2'⟩
        clear hend
        go_wp2
        go_ret
        exact ⟨by rw [← HN.out]; rfl, hbw1.trans ((hbr.trans (hb2'.mono hbr.size)).mono hbw1.size)⟩
      · obtain ⟨y, s, rest, hys, h7, hok, hp⟩ := rec_some hpf
        have hp2 : pastF f true (v.drop fr) = some rest := by rw [hys, pastF_field h7 hok, hp]
        obtain ⟨hsh, htl⟩ := pastV_shorter hp
        have hfl : fr < v.length := by
          have : (v.drop fr).length = s.length + 1 := by rw [hys]; rfl
          simp at this; omega
        have hyv : v[fr]? = some y := by have := congrArg (fun l => l[0]?) hys; simpa using this
        obtain ⟨b', o', hpe, _, t0, t1, t2, t3, tw⟩ := hvr.at hfl
        obtain ⟨rfl, rfl⟩ : b = b' ∧ off = o' := by simpa using hpe
        obtain rfl : v[fr] = y := by rw [List.getElem?_eq_getElem hfl] at hyv; exact Option.some.inj hyv
        have hdl : (v.drop fr).length = v.length - fr := by simp
        obtain ⟨hrest, hre⟩ := (drop_rest (v := v) (fr := fr) (by rw [hys]; exact htl.cons _)).resolve_right (by omega)
        have hsl : s.length + 1 = v.length - fr := by rw [← hdl, hys]; rfl
        rw [hp2] at hend
        obtain ⟨en, hen, hen1, hen2⟩ : ∃ en : Nat, endI v.length (some rest) = (en : Int) ∧ en = v.length - rest.length ∧ fr < en := ⟨v.length - rest.length, by unfold endI; simp only []; omega, rfl, by omega⟩
        rw [hen] at hend
        have henl : en ≤ v.length := by omega
        rw [← hen1] at hrest
        have HRS : Hid (_ = _) := hrest
        have HY : Hid (_ = _) := hys
        have HYV : Hid (_ = _) := hyv
        have HP : Hid (_ = _) := hp
        have HK : Hid (v[fr].op = 7 ∧ ndOk v[fr] = true) := ⟨h7, hok⟩
        generalize v[fr] = y at *
        clear hen hen1 hrest hre hsh htl hpe hyv hys hp hp2 hpf h7 hok hdl
        cases last with
        | none =>
          unfold lastI
          simp only []
          have HN : Hid (recLoop (pastV f) (x.n.toNat - (k + 1)) y.s rest = R) := by
            have := HS.out
            rw [HY.out, show lastS v none = ⟨#[]⟩ from rfl, rec_go hkn ⟨HK.out.1, HK.out.2, name_ahead HK.out.1 HK.out.2⟩ HP.out] at this
            exact this
          clear HS HR
          go_wp2_with fail
          refine hend.mono ?_
          rintro e w2 ⟨rfl, hb2'⟩
          have hb3 := hbr.trans (hb2'.mono hbr.size)
          have u0 := (hb3.cell (p := ⟨w.heap.size, 0, none⟩) hnb).trans z0
          clear hend y0 y1
          go_wp2_with fail
          go_quiet (fail)
          go_wp2_with fail
          go_quiet (fail)
          go_wp2
          go_roundw
          case rel =>
            refine ⟨k + 1, en, some fr, by omega, by go_num, rfl, henl, by omega, rfl, (fun a h => by cases h; omega), ?_, below_nn hb3 _⟩
            show recLoop _ _ ((v[fr]?.map Nd.s).getD ⟨#[]⟩) _ = _
            rw [HYV.out, ← HRS.out]
            exact HN.out
          case measure => simp [intOf]; omega
        | some la =>
          have hla := HLA.out la rfl
          unfold lastI
          simp only []
          have j1 : (0 : Int) ≤ (la : Int) := by omega
          have j2 : (la : Int) < (v.length : Int) := by omega
          have j3 : (fr : Int) < (v.length : Int) := by omega
          obtain ⟨b', o', hpe, hbb, s0, s1, s2, s3, sw⟩ := hvr.at (show la < v.length by omega)
          obtain ⟨rfl, rfl⟩ : b = b' ∧ off = o' := by simpa using hpe
          have HLS : Hid (lastS v (some la) = v[la].s) := by
            show _ = _
            show (v[la]?.map Nd.s).getD ⟨#[]⟩ = _
            rw [List.getElem?_eq_getElem (show la < v.length by omega)]; rfl
          generalize v[la] = g at *
          clear hpe
          have hcl := fun w => textC_any g.s y.s w sw.1 tw.1
          go_wp2_with fail
          refine hend.mono ?_
          rintro e w2 ⟨rfl, hb2'⟩
          have hb3 := hbr.trans (hb2'.mono hbr.size)
          have u0 := (hb3.cell (p := ⟨w.heap.size, 0, none⟩) hnb).trans z0
          have u1 := (hb2'.cell (p := ⟨b, off + la * 4 + 2, none⟩) hbb).trans s2
          have u2 := (hb2'.cell (p := ⟨b, off + fr * 4 + 2, none⟩) hbb).trans t2
          clear hend y0 y1 s0 s1 s2 s3 t0 t1 t2 t3
          have HZ : Hid (cmpB (lastS v (some la)) y.s = cmpB g.s y.s) := by show _ = _; rw [HLS.out]
          generalize cmpB g.s y.s = z at *
          cases hz : decide (0 ≤ z)
          · have HN : Hid (recLoop (pastV f) (x.n.toNat - (k + 1)) y.s rest = R) := by
              have := HS.out
              rw [HY.out, rec_go hkn ⟨HK.out.1, HK.out.2, by rw [HZ.out]; simpa using hz⟩ HP.out] at this
              exact this
            clear HS HR
            go_wp2_with fail
            go_quiet (fail)
            go_wp2_with fail
            go_quiet ((first | exact quiet_ones hcl | exact quiet_more hcl))
            go_wp2
            go_roundw
            case rel =>
              refine ⟨k + 1, en, some fr, by omega, by go_num, rfl, henl, by omega, rfl, (fun a h => by cases h; omega), ?_, below_nn hb3 _⟩
              show recLoop _ _ ((v[fr]?.map Nd.s).getD ⟨#[]⟩) _ = _
              rw [HYV.out, ← HRS.out]
              exact HN.out
            case measure => simp [intOf]; omega
          · have HN2 : Hid (none = R) := by
              have := HS.out
              rw [HY.out, rec_bad hkn (fun h => by have := h.2.2; rw [HZ.out] at this; simp at hz; omega)] at this
              exact this
            clear HS HR
            go_wp2_with fail
            go_quiet (fail)
            go_wp2_with fail
            go_quiet ((first | exact quiet_ones hcl | exact quiet_more hcl))
            go_wp2
            go_ret
            exact ⟨by rw [← HN2.out]; rfl, hbw1.trans ((below_nn (below_nn hb3 _) _).mono hbw1.size)⟩
    · have HN : Hid (some (v.drop fr) = R) := by
        have := HS.out
        rw [show x.n.toNat - k = 0 by omega] at this
        cases h : v.drop fr <;> rw [h] at this <;> exact this
      clear HS HR
      go_wp2
      go_ret
      exact ⟨by rw [← HN.out]; exact ret_n (by unfold endI; simp; omega), hbw1.trans (hbr.mono hbw1.size)⟩

end Go.Proofs.YtglhjhbhijekjaaGreatDoor
