/- What the document's own Fits returns: by a walk of its own text. -/
import Derived.Test.YtilpgiapjijmmaaDoorLikeRef2
namespace Go.Proofs.YtilpgiapjijmmaaDoor
open Go.RowKit
set_option linter.unusedVariables false

/-- What stands in the row for the pieces from the k-th on. -/
def bm (ps : List Pc) (l : List UInt8) (k j : Nat) : Bool := pM (ps.drop k) (l.drop j)
/-- The next row while it is filled, from its end down. -/
def bmi (ps : List Pc) (l : List UInt8) (k m j : Nat) : Bool := if m ≤ j then bm ps l k j else false
theorem bm_start (ps : List Pc) (l : List UInt8) (j : Nat) (hj : j < l.length + 1) : (if j = l.length then true else false) = bm ps l ps.length j := by
  unfold bm
  rw [List.drop_length]
  show _ = (l.drop j).isEmpty
  by_cases e : j = l.length
  · subst e; simp
  · rw [if_neg e]
    cases hl : l.drop j with
    | nil =>
      have := congrArg List.length hl
      rw [List.length_drop, List.length_nil] at this
      omega
    | cons a b => rfl
theorem bmi_step (ps : List Pc) (l : List UInt8) (k m : Nat) (b : Bool) (hb : b = bm ps l k m) (j : Nat) : (if j = m then b else bmi ps l k (m + 1) j) = bmi ps l k m j := by
  unfold bmi
  by_cases e : j = m
  · subst e; rw [if_pos rfl, if_pos (Nat.le_refl _), hb]
  · rw [if_neg e]
    by_cases h : m ≤ j
    · rw [if_pos h, if_pos (by omega)]
    · rw [if_neg h, if_neg (by omega)]
theorem bmi_none (ps : List Pc) (l : List UInt8) (k m : Nat) (hb : bm ps l k m = false) (j : Nat) : bmi ps l k (m + 1) j = bmi ps l k m j := by
  rw [← bmi_step ps l k m false hb.symm j]
  by_cases e : j = m
  · subst e; rw [if_pos rfl]; unfold bmi; rw [if_neg (by omega)]
  · rw [if_neg e]

theorem bm_wild {ps : List Pc} {k : Nat} {x : Pc} (hx : x.1 = true) (hd : ps.drop k = x :: ps.drop (k + 1)) (l : List UInt8) (m : Nat) (hm : m < l.length) : bm ps l k m = (bm ps l (k + 1) m || bm ps l k (m + 1)) := by
  unfold bm; rw [hd]; exact M_wild_step x hx _ l m hm
theorem bm_wild_end {ps : List Pc} {k : Nat} {x : Pc} (hx : x.1 = true) (hd : ps.drop k = x :: ps.drop (k + 1)) (l : List UInt8) : bm ps l k l.length = bm ps l (k + 1) l.length := by
  unfold bm; rw [hd, List.drop_length]; exact M_wild_end x hx _
theorem bm_char {ps : List Pc} {k : Nat} {x : Pc} (hx : x.1 = false) (hd : ps.drop k = x :: ps.drop (k + 1)) (l : List UInt8) (m : Nat) (hm : m < l.length) : bm ps l k m = (l[m] == x.2 && bm ps l (k + 1) (m + 1)) := by
  unfold bm; rw [hd]; exact M_char_step x hx _ l m hm
theorem bm_char_end {ps : List Pc} {k : Nat} {x : Pc} (hx : x.1 = false) (hd : ps.drop k = x :: ps.drop (k + 1)) (l : List UInt8) : bm ps l k l.length = false := by
  unfold bm; rw [hd, List.drop_length]; exact M_char_end x hx _
theorem byte_cmp (c d : UInt8) : (c == d) = ((c.toNat : Int) == (d.toNat : Int)) := by
  rw [Bool.eq_iff_iff]
  simp only [beq_iff_eq]
  exact ⟨fun h => by rw [h], fun h => byte_same (by omega)⟩

set_option maxRecDepth 100000 in
set_option maxHeartbeats 4000000 in
theorem refFits_any (p s : ByteArray) (w : World) (hp : p.size ≤ 60) (hs : s.size ≤ 60) :
    Calls Tryd.prog 8 #[.string p, .int .i64 0, .string s, .int .i64 0] w fun e w' => e = .returned (.bool (pM (pcs p.data.toList) s.data.toList)) ∧ Below w.heap.size w w' := by
  obtain ⟨i0, hi, hz0, hz1, hz2⟩ := info_parts Tryd.infoBool
  have hb32 : i0.bytes * (s.size + 1) ≤ 281474976710656 := by rw [hz2]; omega
  have HL : Hid (s.data.toList.length = s.size) := by show _ = _; simp
  have HLN : Hid ((sts p.data.toList 0).length = (pcs p.data.toList).length) := sts_length _ _
  have hln : (sts p.data.toList 0).length ≤ 60 := by
    have h1 := pcs_len p.data.toList
    have h2 : p.data.toList.length = p.size := by simp
    rw [HLN.out]; omega
  have i3 : (s.size : Int) < (s.size : Int) + 1 := by omega
  go_enter Tryd.func8, Tryd.ntmps8
  go_wp2_with (at_make; refine wpList_make_full _ rfl _ _ 40 rfl w.heap.size 4 i0 _ 1 Tryd.underlying40 hi hz0 hz1 .i64 .i64 _ _ (s.size + 1) rfl rfl (by first | rfl | omega) (by first | rfl | omega) hb32 (by unfold maxLen; omega) (Nat.le_refl _) ?_; intro w0 hown hg1; have hR0 := RB.made hown; have c0 := hR0.at (j := s.size) (by omega); have f0 := hR0.free s.size; have HR0 : Hid (RB w0 w.heap.size (s.size + 1) (fun _ => false)) := hR0; have HB0 : Hid (Below w.heap.size w w0) := ⟨hg1.os, hg1.tape, hg1.output, hg1.size, fun i hi => hg1.block i hi (by simp)⟩; clear hown hR0 hg1)
  refine (starts_any p _ hp).mono ?_
  rintro e w1 ⟨v, rfl, hown, hb1⟩
  obtain ⟨q, c, rfl, hq, _, _⟩ := hown.slice
  have HI : Hid (IL w1 q (sts p.data.toList 0)) := hq
  have HR1' := HR0.out.set s.size true
  have HR1 : Hid (RB w1 w.heap.size (s.size + 1) (bm (pcs p.data.toList) s.data.toList (sts p.data.toList 0).length)) := (HR1'.up hb1 HR1'.lt).congr fun j hj => by
    rw [HLN.out, ← bm_start _ _ j (by rw [HL.out]; exact hj), HL.out]
  have HB1 : Hid (Below w.heap.size w w1) := (HB0.out.setCell (Nat.le_refl _) _).trans (hb1.mono (by simpa using HB0.out.size))
  clear hown hq hb1 HR1' HR0 HB0 c0 f0
  go_wp2_with fail
  go_loopw [9, 11] (fun cv kv wr => ∃ (kk g : Nat), kk ≤ (sts p.data.toList 0).length ∧ kv = .int .i64 ((kk : Int) - 1) ∧ cv = .slice (some ⟨g, 0, none⟩) (s.size + 1) (s.size + 1) ∧ Hid (RB wr g (s.size + 1) (bm (pcs p.data.toList) s.data.toList kk)) ∧ Hid (Below w1.heap.size w1 wr)) (fun _ kv _ => (intOf kv + 1).toNat)
  case atStart => exact ⟨_, w.heap.size, Nat.le_refl _, rfl, rfl, HR1, Below.refl _ _⟩
  case round =>
    obtain ⟨kk, g, hkk, rfl, rfl, HR, HB⟩ := hrel
    have HBA : Hid (Below w.heap.size w wr) := HB1.out.trans (HB.out.mono HB1.out.size)
    have hgr := HR.out.lt
    rcases Nat.eq_zero_or_pos kk with rfl | hkp
    · have i1 : ¬ (0 : Int) ≤ ((0 : Nat) : Int) - 1 := by omega
      have y0 := HR.out.at (j := 0) (by omega)
      have HE : Hid (bm (pcs p.data.toList) s.data.toList 0 0 = pM (pcs p.data.toList) s.data.toList) := rfl
      rw [HE.out] at y0
      go_wp2_with fail
      go_ret
      exact ⟨rfl, HBA.out⟩
    · obtain ⟨k, rfl⟩ : ∃ k, kk = k + 1 := ⟨kk - 1, by omega⟩
      rw [show ((k + 1 : Nat) : Int) - 1 = (k : Int) by omega]
      have i1 : (0 : Int) ≤ (k : Int) := by omega
      have i2 : (k : Int) < ((sts p.data.toList 0).length : Int) := by omega
      obtain ⟨a, ha⟩ : ∃ a, (sts p.data.toList 0)[k]? = some a := ⟨_, List.getElem?_eq_getElem (by omega)⟩
      obtain ⟨a1, _, _, _, a5⟩ := piece_at ha
      obtain ⟨b, off, rfl, hbl, hcell⟩ : ∃ b off, q = some ⟨b, off, none⟩ ∧ b < wr.heap.size ∧ ∀ (i x : Nat), (sts p.data.toList 0)[i]? = some x → wr.cell? ⟨b, off + i, none⟩ = some (.int .i64 (x : Int)) := by
        rcases HI.out.up HB.out with h | h
        · rw [h] at hkk; simp at hkk
        · exact h
      have c0 := hcell k a ha
      have j1 : (a : Int) < (p.size : Int) := by omega
      have hw := pcat_wild p a a1
      have HPB : Hid ((p[a].toNat == 42) = false → (pcat (p.data.toList.drop a)).2 = if stat (p.data.toList.drop a) then 42 else p[a]) := pcat_byte p a a1
      have HD : Hid ((pcs p.data.toList).drop k = pcat (p.data.toList.drop a) :: (pcs p.data.toList).drop (k + 1)) := a5
      have HA : Hid (a < p.size) := a1
      clear hcell ha a5
      generalize pcat (p.data.toList.drop a) = x at hw HPB HD
      generalize wr = wo at *
      go_wp2_with (at_make; refine wpList_make_full _ rfl _ _ 40 rfl wo.heap.size 4 i0 _ 1 Tryd.underlying40 hi hz0 hz1 .i64 .i64 _ _ (s.size + 1) rfl rfl (by first | rfl | omega) (by first | rfl | omega) hb32 (by unfold maxLen; omega) (Nat.le_refl _) ?_; intro w2 hown hg1; have hR0 := RB.made hown; have HR2 : Hid (RB w2 wo.heap.size (s.size + 1) (fun _ => false)) := hR0; have HB2 : Hid (Below wo.heap.size wo w2) := ⟨hg1.os, hg1.tape, hg1.output, hg1.size, fun i hi => hg1.block i hi (by simp)⟩; clear hown hR0 hg1)
      go_loopw [14] (fun mv wq => ∃ mm : Nat, mm ≤ s.size + 1 ∧ mv = .int .i64 ((mm : Int) - 1) ∧ Hid (RB wq wo.heap.size (s.size + 1) (bmi (pcs p.data.toList) s.data.toList k mm)) ∧ Hid (Below wo.heap.size wo wq)) (fun mv _ => (intOf mv + 1).toNat)
      case atStart => exact ⟨s.size + 1, Nat.le_refl _, by congr 1; omega, HR2.out.congr fun j hj => by unfold bmi; rw [if_neg (by omega)], HB2⟩
      case round =>
        obtain ⟨mm, hmm, rfl, HRN, HBN⟩ := hrel
        rcases Nat.eq_zero_or_pos mm with rfl | hmp
        · have m1 : ¬ (0 : Int) ≤ ((0 : Nat) : Int) - 1 := by omega
          have HRZ : Hid (RB wr wo.heap.size (s.size + 1) (bm (pcs p.data.toList) s.data.toList k)) := HRN.out.congr fun j hj => by unfold bmi; rw [if_pos (Nat.zero_le _)]
          have HBZ : Hid (Below w1.heap.size w1 wr) := HB.out.trans (HBN.out.mono HB.out.size)
          go_wp2_with fail
          go_roundw
          case rel => exact ⟨k, wo.heap.size, by omega, by go_num, rfl, HRZ, HBZ⟩
          case measure => (first | (simp [intOf]; done) | (simp [intOf]; omega))
        · obtain ⟨m, rfl⟩ : ∃ m, mm = m + 1 := ⟨mm - 1, by omega⟩
          rw [show ((m + 1 : Nat) : Int) - 1 = (m : Int) by omega]
          have m1 : (0 : Int) ≤ (m : Int) := by omega
          have m2 : (m : Int) < (s.size : Int) + 1 := by omega
          have m3 : m < s.size + 1 := by omega
          have HRC : Hid (RB wr g (s.size + 1) (bm (pcs p.data.toList) s.data.toList (k + 1))) := HR.out.up HBN.out hgr
          have f1 := HRN.out.free m
          have n1 := HRN.out.at m3
          have HPUT : Hid (∀ y, y = bm (pcs p.data.toList) s.data.toList k m → RB (wr.setCell ⟨wo.heap.size, m, none⟩ (.bool y)) wo.heap.size (s.size + 1) (bmi (pcs p.data.toList) s.data.toList k m)) := fun y hy => (HRN.out.set m y).congr fun j _ => bmi_step _ _ k m y hy j
          have HBP : Hid (∀ y, Below wo.heap.size wo (wr.setCell ⟨wo.heap.size, m, none⟩ (.bool y))) := fun y => HBN.out.setCell (Nat.le_refl _) _
          generalize bmi (pcs p.data.toList) s.data.toList k (m + 1) m = n0 at n1
          cases hX : (p[a].toNat == 42)
          · have bX := byte_is42 _ hX
            have hx1 : x.1 = false := hw.trans hX
            by_cases hml : m < s.size
            · have l1 : (m : Int) < (s.size : Int) := by omega
              have l2 : (m : Int) + 1 < (s.size : Int) + 1 := by omega
              have d1 := HRC.out.at (j := m + 1) (by omega)
              have HBM : Hid (bm (pcs p.data.toList) s.data.toList k m = (((s[m].toNat : Int) == (x.2.toNat : Int)) && bm (pcs p.data.toList) s.data.toList (k + 1) (m + 1))) := by
                show _ = _
                rw [bm_char hx1 HD.out s.data.toList m (by rw [HL.out]; exact hml), ← byte_cmp]; rfl
              have hx2 := HPB.out hX
              generalize bm (pcs p.data.toList) s.data.toList (k + 1) (m + 1) = D at d1 HBM
              cases hst : stat (p.data.toList.drop a)
              · have e2 : x.2 = p[a] := by rw [hx2, hst]; rfl
                have HST : Hid (_ = _) := hst
                rw [e2] at HBM
                clear hx2 hst e2 hX HPB hw
                by_cases hE : (s[m].toNat : Int) = (p[a].toNat : Int)
                · have HPQ : Hid (RB _ _ _ _) := HPUT.out D (by rw [HBM.out, hE]; simp)
                  clear HPUT HBM
                  go_wp2_with (go_at_call 19; refine (star_any p a _ (by omega) HA.out).mono ?_; rintro e w4 ⟨rfl, rfl⟩; rw [HST.out])
                  go_roundw
                  case rel => exact ⟨m, by omega, by go_num, HPQ, HBP.out _⟩
                  case measure => (first | (simp [intOf]; done) | (simp [intOf]; omega))
                · have HPQ : Hid (RB _ _ _ _) := HPUT.out false (by rw [HBM.out, beq_eq_false_iff_ne.2 hE]; rfl)
                  clear HPUT HBM
                  go_wp2_with (go_at_call 19; refine (star_any p a _ (by omega) HA.out).mono ?_; rintro e w4 ⟨rfl, rfl⟩; rw [HST.out])
                  go_roundw
                  case rel => exact ⟨m, by omega, by go_num, HPQ, HBP.out _⟩
                  case measure => (first | (simp [intOf]; done) | (simp [intOf]; omega))
              · have e2 : x.2 = 42 := by rw [hx2, hst]; rfl
                have HST : Hid (_ = _) := hst
                rw [e2] at HBM
                clear hx2 hst e2 hX HPB hw
                cases hE : ((s[m].toNat : Int) == 42)
                · have HPQ : Hid (RB _ _ _ _) := HPUT.out false (by rw [HBM.out]; show _ = (((s[m].toNat : Int) == 42) && _); rw [hE]; rfl)
                  clear HPUT HBM
                  go_wp2_with (go_at_call 19; refine (star_any p a _ (by omega) HA.out).mono ?_; rintro e w4 ⟨rfl, rfl⟩; rw [HST.out])
                  go_roundw
                  case rel => exact ⟨m, by omega, by go_num, HPQ, HBP.out _⟩
                  case measure => (first | (simp [intOf]; done) | (simp [intOf]; omega))
                · have HPQ : Hid (RB _ _ _ _) := HPUT.out D (by rw [HBM.out]; show _ = (((s[m].toNat : Int) == 42) && _); rw [hE]; rfl)
                  clear HPUT HBM
                  go_wp2_with (go_at_call 19; refine (star_any p a _ (by omega) HA.out).mono ?_; rintro e w4 ⟨rfl, rfl⟩; rw [HST.out])
                  go_roundw
                  case rel => exact ⟨m, by omega, by go_num, HPQ, HBP.out _⟩
                  case measure => (first | (simp [intOf]; done) | (simp [intOf]; omega))
            · obtain rfl : m = s.size := by omega
              have l1 : ¬ (s.size : Int) < (s.size : Int) := by omega
              have HPQ : Hid (RB wr wo.heap.size (s.size + 1) (bmi (pcs p.data.toList) s.data.toList k s.size)) := HRN.out.congr fun j _ => bmi_none _ _ k s.size (by have := bm_char_end hx1 HD.out s.data.toList; rw [HL.out] at this; exact this) j
              clear HPUT hX HPB hw
              go_wp2_with fail
              go_roundw
              case rel => exact ⟨s.size, by omega, by go_num, HPQ, HBN⟩
              case measure => (first | (simp [intOf]; done) | (simp [intOf]; omega))
          · have bX := byte_is42 _ hX
            have hx1 : x.1 = true := hw.trans hX
            have d1 := HRC.out.at m3
            by_cases hml : m < s.size
            · have l1 : (m : Int) < (s.size : Int) := by omega
              have l2 : (m : Int) + 1 < (s.size : Int) + 1 := by omega
              have HBM : Hid (bm (pcs p.data.toList) s.data.toList k m = (bm (pcs p.data.toList) s.data.toList (k + 1) m || bm (pcs p.data.toList) s.data.toList k (m + 1))) := bm_wild hx1 HD.out s.data.toList m (by rw [HL.out]; exact hml)
              have d2 := HRN.out.at (j := m + 1) (by omega)
              have e2 : bmi (pcs p.data.toList) s.data.toList k (m + 1) (m + 1) = bm (pcs p.data.toList) s.data.toList k (m + 1) := if_pos (Nat.le_refl _)
              rw [e2] at d2
              clear e2
              generalize bm (pcs p.data.toList) s.data.toList (k + 1) m = D at d1 HBM
              generalize bm (pcs p.data.toList) s.data.toList k (m + 1) = E at d2 HBM
              clear hX HPB hw
              cases D
              · have HPQ : Hid (RB _ _ _ _) := HPUT.out E (by rw [HBM.out]; rfl)
                clear HPUT HBM
                go_wp2_with fail
                go_roundw
                case rel => exact ⟨m, by omega, by go_num, HPQ, HBP.out _⟩
                case measure => (first | (simp [intOf]; done) | (simp [intOf]; omega))
              · have HPQ : Hid (RB _ _ _ _) := HPUT.out true (by rw [HBM.out]; rfl)
                clear HPUT HBM
                go_wp2_with fail
                go_roundw
                case rel => exact ⟨m, by omega, by go_num, HPQ, HBP.out _⟩
                case measure => (first | (simp [intOf]; done) | (simp [intOf]; omega))
            · obtain rfl : m = s.size := by omega
              have l1 : ¬ (s.size : Int) < (s.size : Int) := by omega
              have HBM : Hid (bm (pcs p.data.toList) s.data.toList k s.size = bm (pcs p.data.toList) s.data.toList (k + 1) s.size) := by have := bm_wild_end hx1 HD.out s.data.toList; rw [HL.out] at this; exact this
              generalize bm (pcs p.data.toList) s.data.toList (k + 1) s.size = D at d1 HBM
              clear hX HPB hw
              cases D
              · have HPQ : Hid (RB _ _ _ _) := HPUT.out false (by rw [HBM.out])
                clear HPUT HBM
                go_wp2_with fail
                go_roundw
                case rel => exact ⟨s.size, by omega, by go_num, HPQ, HBP.out _⟩
                case measure => (first | (simp [intOf]; done) | (simp [intOf]; omega))
              · have HPQ : Hid (RB _ _ _ _) := HPUT.out true (by rw [HBM.out])
                clear HPUT HBM
                go_wp2_with fail
                go_roundw
                case rel => exact ⟨s.size, by omega, by go_num, HPQ, HBP.out _⟩
                case measure => (first | (simp [intOf]; done) | (simp [intOf]; omega))
end Go.Proofs.YtilpgiapjijmmaaDoor
