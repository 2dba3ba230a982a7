/- ValParts: the walk of the statement's own function where the list is a value. -/
import Derived.Test.YthmfgnofhbmogaaDoorVpartsWalk
namespace Go.Proofs.YthmfgnofhbmogaaDoor
open Go.RowKit
set_option linter.unusedVariables false

set_option maxRecDepth 100000 in
set_option maxHeartbeats 1000000 in
/-- .. a value that is neither a set nor a record. -/
theorem vparts_type (x : Nd) (r : List Nd) (b off c : Nat) (fld : ByteArray) (w : World) (hE : ErrVar w) (hv : NL w (some ⟨b, off, none⟩) (x :: r)) (hc : (x :: r).length ≤ c) (hcm : c ≤ maxLen) (h : vfault (x :: r) = 0) (h5 : x.op ≠ 5) (h6 : x.op ≠ 6) :
    Calls Tryd.prog 6 #[.slice (some ⟨b, off, none⟩) (x :: r).length c, .string fld] w fun e w' => e = .returned (.bool true) ∧ Below w.heap.size w w' := by
  obtain ⟨b', o', hpe, hbw, x0, _⟩ := hv.head
  obtain ⟨rfl, rfl⟩ : b = b' ∧ off = o' := by simpa using hpe
  clear hpe
  have e5 : (x.op != 5) = true := by simpa using h5
  have e6 : (x.op != 6) = true := by simpa using h6
  have F := fun w' (hb : Below w.heap.size w w') => valueFault_any (x :: r) (some ⟨b, off, none⟩) c w' (hv.up hb) hc hcm
  rw [h] at F
  have P := fun w' (hb : Below w.heap.size w w') => parts_type x r b off c w' (hv.up hb) hc hcm h h5 h6
  have G := fun w' (hb : Below w.heap.size w w') => get_type x r b off c fld w' (hv.up hb) hc hcm h h6
  have hcm' : c ≤ 9223372036854775807 := hcm
  have i0 : (0 : Int) < (r.length : Int) + 1 := by omega
  clear h h5 h6
  simp only [List.length_cons] at *
  go_enter Tryd.func6, Tryd.ntmps6
  go_wp2_with fail
  refine (F _ (Below.refl _ _)).mono ?_
  rintro e w1 ⟨rfl, k1⟩
  have z1 := (k1.cell (p := ⟨b, off, none⟩) hbw).trans x0
  go_wp2_with fail
  refine (P _ k1).mono ?_
  rintro e w2 ⟨rfl, k2'⟩
  have k2 := bt2 k1 k2'
  go_wp2_with fail
  refine (toldE_any 2 2 _ (ev_up hE k2)).mono ?_
  rintro e w3 ⟨rfl, k3'⟩
  have k3 := bt2 k2 k3'
  go_wp2_with fail
  refine (sameLists_eq [] none none 0 0 _ (.inl rfl) (.inl rfl) (Nat.zero_le _)).mono ?_
  rintro e w4 ⟨rfl, k4'⟩
  have k4 := bt2 k3 k4'
  clear k1 k2 k3 k2' k3' k4' z1
  go_wp2_with fail
  refine (F _ k4).mono ?_
  rintro e w5 ⟨rfl, k5'⟩
  have k5 := bt2 k4 k5'
  have z5 := (k5.cell (p := ⟨b, off, none⟩) hbw).trans x0
  go_wp2_with fail
  refine (G _ k5).mono ?_
  rintro e w6 ⟨rfl, k6'⟩
  have k6 := bt2 k5 k6'
  go_wp2_with fail
  refine (toldE_any 2 2 _ (ev_up hE k6)).mono ?_
  rintro e w7 ⟨rfl, k7'⟩
  have k7 := bt2 k6 k7'
  go_wp2_with fail
  refine (sameNodes_any [] [] none none 0 0 _ (.inl rfl) (.inl rfl) (Nat.zero_le _) (Nat.zero_le _)).mono ?_
  rintro e w8 ⟨rfl, n8, rfl⟩
  rw [(sameNd_iff [] []).2 rfl]
  have k8 := below_nn k7 n8
  clear k4 k5 k6 k7 k5' k6' k7' z5
  go_wp2
  go_ret
  exact ⟨rfl, k8⟩

set_option maxRecDepth 100000 in
set_option maxHeartbeats 1000000 in
/-- .. a set. -/
theorem vparts_set (x : Nd) (r : List Nd) (b off c : Nat) (fld : ByteArray) (w : World) (hE : ErrVar w) (hv : NL w (some ⟨b, off, none⟩) (x :: r)) (hc : (x :: r).length ≤ c) (hcm : c ≤ maxLen) (h : vfault (x :: r) = 0) (h5 : x.op = 5) :
    Calls Tryd.prog 6 #[.slice (some ⟨b, off, none⟩) (x :: r).length c, .string fld] w fun e w' => e = .returned (.bool true) ∧ Below w.heap.size w w' := by
  obtain ⟨b', o', hpe, hbw, x0, _⟩ := hv.head
  obtain ⟨rfl, rfl⟩ : b = b' ∧ off = o' := by simpa using hpe
  clear hpe
  obtain ⟨ss, hss, hcnt, hh⟩ := set_items h h5
  obtain ⟨hl200, _⟩ := isVal_past h
  have hsl := hss.length
  obtain ⟨_, _, hcons, _, _, hok, _⟩ := value_head h
  cases hcons
  have hn := ndOk_n hok (.inl h5)
  have e5 : (x.op != 5) = false := by simpa using h5
  have e6 : (x.op != 6) = true := by simp [h5]
  have F := fun w' (hb : Below w.heap.size w w') => valueFault_any (x :: r) (some ⟨b, off, none⟩) c w' (hv.up hb) hc hcm
  rw [h] at F
  have P := fun w' (hb : Below w.heap.size w w') => parts_ok _ x r ss hss b off c w' (hv.up hb) hc hcm h (.inl h5)
  have R := fun w' (hb : Below w.heap.size w w') => refParts_set x r ss hss hh (by omega) b off c w' (hv.up hb) (Nat.lt_of_lt_of_le hbw hb.size) hl200 hc hcm h5
  have G := fun w' (hb : Below w.heap.size w w') => get_type x r b off c fld w' (hv.up hb) hc hcm h (by omega)
  have hcm' : c ≤ 9223372036854775807 := hcm
  have i0 : (0 : Int) < (r.length : Int) + 1 := by omega
  clear h h5 hss hh hcnt hok
  simp only [List.length_cons] at *
  go_enter Tryd.func6, Tryd.ntmps6
  go_wp2_with fail
  refine (F _ (Below.refl _ _)).mono ?_
  rintro e w1 ⟨rfl, k1⟩
  have z1 := (k1.cell (p := ⟨b, off, none⟩) hbw).trans x0
  go_wp2_with fail
  refine (R _ k1).mono ?_
  rintro e wa ⟨⟨q1, c1, q2, c2, rfl, hL1, hT1⟩, ka'⟩
  have ka := bt2 k1 ka'
  go_wp2_with fail
  refine (P _ ka).mono ?_
  rintro e w2 ⟨⟨q3, c3, rfl, hL2, hlc, hcc⟩, k2'⟩
  have k2 := bt2 ka k2'
  have hL1' := hL1.up k2'
  go_wp2_with fail
  refine (toldE_any 0 0 _ (ev_up hE k2)).mono ?_
  rintro e w3 ⟨rfl, k3'⟩
  have k3 := bt2 k2 k3'
  have hS := sameLists_eq (ss.map strip) q3 q1 c3 c1 w3 (hL2.up k3') (hL1'.up k3') (by simp [maxLen]; omega)
  rw [List.length_map] at hS
  go_wp2_with fail
  refine hS.mono ?_
  rintro e w4 ⟨rfl, k4'⟩
  have k4 := bt2 k3 k4'
  clear k1 ka ka' k2 k3 k2' k3' k4' z1 hS hL1 hL1' hL2 hT1
  go_wp2_with fail
  refine (F _ k4).mono ?_
  rintro e w5 ⟨rfl, k5'⟩
  have k5 := bt2 k4 k5'
  have z5 := (k5.cell (p := ⟨b, off, none⟩) hbw).trans x0
  go_wp2_with fail
  refine (G _ k5).mono ?_
  rintro e w6 ⟨rfl, k6'⟩
  have k6 := bt2 k5 k6'
  go_wp2_with fail
  refine (toldE_any 2 2 _ (ev_up hE k6)).mono ?_
  rintro e w7 ⟨rfl, k7'⟩
  have k7 := bt2 k6 k7'
  go_wp2_with fail
  refine (sameNodes_any [] [] none none 0 0 _ (.inl rfl) (.inl rfl) (Nat.zero_le _) (Nat.zero_le _)).mono ?_
  rintro e w8 ⟨rfl, n8, rfl⟩
  rw [(sameNd_iff [] []).2 rfl]
  have k8 := below_nn k7 n8
  clear k4 k5 k6 k7 k5' k6' k7' z5
  go_wp2
  go_ret
  exact ⟨rfl, k8⟩

set_option maxRecDepth 100000 in
set_option maxHeartbeats 2000000 in
/-- .. a record. -/
theorem vparts_rec (x : Nd) (r : List Nd) (b off c : Nat) (fld : ByteArray) (w : World) (hE : ErrVar w) (hv : NL w (some ⟨b, off, none⟩) (x :: r)) (hc : (x :: r).length ≤ c) (hcm : c ≤ maxLen) (h : vfault (x :: r) = 0) (h6 : x.op = 6) :
    Calls Tryd.prog 6 #[.slice (some ⟨b, off, none⟩) (x :: r).length c, .string fld] w fun e w' => e = .returned (.bool true) ∧ Below w.heap.size w w' := by
  obtain ⟨b', o', hpe, hbw, x0, _⟩ := hv.head
  obtain ⟨rfl, rfl⟩ : b = b' ∧ off = o' := by simpa using hpe
  clear hpe
  obtain ⟨ss, hss, hcnt, hris⟩ := rec_items h h6
  have hh := hris.heads
  obtain ⟨hl200, _⟩ := isVal_past h
  have hsl := hss.length
  obtain ⟨_, _, hcons, _, _, hok, _⟩ := value_head h
  cases hcons
  have hn := ndOk_n hok (.inr h6)
  have e5 : (x.op != 5) = true := by simp [h6]
  have e6 : (x.op != 6) = false := by simpa using h6
  have F := fun w' (hb : Below w.heap.size w w') => valueFault_any (x :: r) (some ⟨b, off, none⟩) c w' (hv.up hb) hc hcm
  rw [h] at F
  have P := fun w' (hb : Below w.heap.size w w') => parts_ok _ x r ss hss b off c w' (hv.up hb) hc hcm h (.inr h6)
  have R := fun w' (hb : Below w.heap.size w w') => refParts_rec x r ss hss hh (by omega) b off c w' (hv.up hb) (Nat.lt_of_lt_of_le hbw hb.size) hl200 hc hcm h6
  have G := fun w' (hb : Below w.heap.size w w') => get_ok _ x r ss hss b off c fld w' (hv.up hb) hc hcm h h6
  have hcm' : c ≤ 9223372036854775807 := hcm
  have i0 : (0 : Int) < (r.length : Int) + 1 := by omega
  have HRI : Hid (Rising ⟨#[]⟩ ss) := hris
  have HH : Hid (∀ s ∈ ss, ∃ y t, s = y :: t ∧ y.op = 7) := hh
  have HSH : Hid (∀ s ∈ ss, s.length ≤ r.length) := hss.short
  clear h h6 hss hh hcnt hok hris
  simp only [List.length_cons] at *
  go_enter Tryd.func6, Tryd.ntmps6
  go_wp2_with fail
  refine (F _ (Below.refl _ _)).mono ?_
  rintro e w1 ⟨rfl, k1⟩
  have z1 := (k1.cell (p := ⟨b, off, none⟩) hbw).trans x0
  go_wp2_with fail
  refine (R _ k1).mono ?_
  rintro e wa ⟨⟨q1, c1, q2, c2, rfl, hL1, hT1⟩, ka'⟩
  have ka := bt2 k1 ka'
  go_wp2_with fail
  refine (P _ ka).mono ?_
  rintro e w2 ⟨⟨q3, c3, rfl, hL2, hlc, hcc⟩, k2'⟩
  have k2 := bt2 ka k2'
  have hL1' := hL1.up k2'
  go_wp2_with fail
  refine (toldE_any 0 0 _ (ev_up hE k2)).mono ?_
  rintro e w3 ⟨rfl, k3'⟩
  have k3 := bt2 k2 k3'
  have hS := sameLists_eq (ss.map strip) q3 q1 c3 c1 w3 (hL2.up k3') (hL1'.up k3') (by simp [maxLen]; omega)
  rw [List.length_map] at hS
  go_wp2_with fail
  refine hS.mono ?_
  rintro e w4 ⟨rfl, k4'⟩
  have k4 := bt2 k3 k4'
  clear k1 ka ka' k2 k3 k2' k3' k4' z1 hS hL1 hL1' hL2 hT1
  go_wp2_with fail
  refine (F _ k4).mono ?_
  rintro e w5 ⟨rfl, k5'⟩
  have k5 := bt2 k4 k5'
  have z5 := (k5.cell (p := ⟨b, off, none⟩) hbw).trans x0
  go_wp2_with fail
  refine (R _ k5).mono ?_
  rintro e wb ⟨⟨q4, c4, q5, c5, rfl, hL3, hT3⟩, kb'⟩
  have kb := bt2 k5 kb'
  clear k4 k5 k5' kb' z5 R P F
  go_wp2
  go_loopw [5, 11, 14] (fun se so i wr => ∃ (k : Nat) (q : Option Addr) (cq : Nat), k ≤ ss.length ∧ i = .int .i64 k ∧ se = .int .i64 (getE (findS fld (ss.take k))) ∧ so = .slice q (getL (findS fld (ss.take k))).length cq ∧ NL wb q (getL (findS fld (ss.take k))) ∧ wr = wb) (fun _ _ i _ => ss.length - (intOf i).toNat)
  case atStart => exact ⟨0, none, 0, Nat.zero_le _, rfl, rfl, rfl, .inl rfl, rfl⟩
  case round =>
    obtain ⟨k, q, cq, hk, rfl, rfl, rfl, hnl, rfl⟩ := hrel
    by_cases hlt : k < ss.length
    · have i1 : (k : Int) < (ss.length : Int) := by omega
      have hmem : ss[k] ∈ ss := List.getElem_mem _
      obtain ⟨y, t, hyt, h7⟩ := HH.out _ hmem
      have HA := HRI.out.apart (ss.take k) ss[k] (ss.drop (k + 1)) (by rw [← List.drop_eq_getElem_cons hlt, List.take_append_drop])
      obtain ⟨lb, lo, lq, lc, rfl, hlb, hcell, hln, hl1, hl2⟩ := hL3.at (show k < (ss.map strip).length by simpa using hlt)
      have hst : (ss.map strip)[k]'(by simpa using hlt) = t := by rw [List.getElem_map, hyt, strip_field h7]
      rw [hst] at hcell hln hl1
      obtain ⟨tb, to, htq, htb, htc⟩ : ∃ tb to, q5 = some ⟨tb, to, none⟩ ∧ tb < wr.heap.size ∧ wr.cell? ⟨tb, to + k, none⟩ = some (.string y.s) := by
        rcases hT3 with e | ⟨tb, to, e1, e2, e3⟩
        · have : (ss.map nameOf).length = 0 := by rw [e]; rfl
          simp at this; rw [this] at hlt; simp at hlt
        · exact ⟨tb, to, e1, e2, e3 k y.s (by rw [List.getElem?_map, List.getElem?_eq_getElem hlt, hyt]; show some (nameOf (y :: t)) = _; rw [nameOf_field h7])⟩
      subst htq
      have hsn : findS fld (ss.take (k + 1)) = match findS fld (ss.take k) with | some u => some u | none => if y.s = fld then some t else none := by
        rw [List.take_succ_eq_append_getElem hlt, hyt, findS_snoc]; cases findS fld (ss.take k) <;> rfl
      by_cases he : y.s = fld
      · have hq : (y.s.toList == fld.toList) = true := by rw [he]; simp
        have hno : findS fld (ss.take k) = none := findS_none _ (fun s hs => HH.out s (List.mem_of_mem_take hs)) (fun s hs => by
          have := HA s hs
          rw [hyt, nameOf_field h7, he] at this
          exact this)
        rw [hno] at hsn
        simp only [if_pos he] at hsn
        have HSN : Hid (_ = _) := hsn
        have HNO : Hid (_ = _) := hno
        clear hsn hno he hyt hst HA h7 hmem
        go_wp2
        go_roundw
        case rel => exact ⟨k + 1, lq, lc, by omega, by go_num, by rw [HSN.out]; rfl, by rw [HSN.out]; rfl, by rw [HSN.out]; exact hln, by trivial⟩
        case measure => simp [intOf]; omega
      · have hq : (y.s.toList == fld.toList) = false := by
          simp only [beq_eq_false_iff_ne, ne_eq, ByteArray.toList_eq]
          exact fun h => he (bytes_inj h)
        have HSN : Hid (findS fld (ss.take (k + 1)) = findS fld (ss.take k)) := by
          show _ = _
          rw [hsn]
          cases findS fld (ss.take k) with
          | none => simp [he]
          | some u => rfl
        clear hsn he hyt hst HA h7 hmem
        go_wp2
        go_roundw
        case rel => exact ⟨k + 1, q, cq, by omega, by go_num, by rw [HSN.out], by rw [HSN.out], by rw [HSN.out]; exact hnl, by trivial⟩
        case measure => simp [intOf]; omega
    · have HT : Hid (ss.take k = ss) := by show _ = _; rw [List.take_of_length_le (by omega)]
      have i1 : ¬ (k : Int) < (ss.length : Int) := by omega
      rw [HT.out] at hnl ⊢
      have hlR : (getL (findS fld ss)).length ≤ maxLen := by
        have : ∀ (l : List (List Nd)), (∀ s ∈ l, s.length ≤ r.length) → (getL (findS fld l)).length ≤ r.length := by
          intro l
          induction l with
          | nil => intro _; simp [findS, getL]
          | cons s l ih =>
            intro hl
            cases s with
            | nil => exact ih (fun s hs => hl s (by simp [hs]))
            | cons y t =>
              show (getL (if y.s = fld then some t else findS fld l)).length ≤ _
              split
              · have := hl (y :: t) (by simp); simp at this; show t.length ≤ _; omega
              · exact ih (fun s hs => hl s (by simp [hs]))
        have := this ss HSH.out
        unfold maxLen; omega
      have hG := G _ kb
      have hself : (getE (findS fld ss) == getE (findS fld ss)) = true := by simp
      generalize findS fld ss = Z at *
      clear HT G
      go_wp2_with fail
      refine hG.mono ?_
      rintro e w6 ⟨⟨q6, c6, rfl, hn6, hc6, hm6⟩, k6'⟩
      have k6 := bt2 kb k6'
      have hnl6 := hnl.up k6'
      clear hG
      go_wp2_with fail
      refine (toldE_any _ _ _ (ev_up hE k6)).mono ?_
      rintro e w7 ⟨rfl, k7'⟩
      have k7 := bt2 k6 k7'
      have hS := sameNodes_any (getL Z) (getL Z) q6 q c6 cq w7 (hn6.up k7') (hnl6.up k7') hlR hlR
      rw [(sameNd_iff _ _).2 rfl] at hS
      go_wp2_with fail
      refine hS.mono ?_
      rintro e w8 ⟨rfl, n8, rfl⟩
      have k8 := below_nn k7 n8
      clear hS k6 k7 k6' k7'
      go_wp2
      go_ret
      exact ⟨rfl, k8⟩

theorem vparts_walk (v : List Nd) (p : Option Addr) (c : Nat) (fld : ByteArray) (w : World) (hE : ErrVar w) (hv : NL w p v) (hc : v.length ≤ c) (hcm : c ≤ maxLen) :
    Calls Tryd.prog 6 #[.slice p v.length c, .string fld] w fun e w' => e = .returned (.bool true) ∧ Below w.heap.size w w' := by
  by_cases h : vfault v = 0
  · obtain ⟨x, r, rfl, _⟩ := value_head h
    obtain ⟨b, off, rfl, _⟩ := hv.head
    by_cases h5 : x.op = 5
    · exact vparts_set x r b off c fld w hE hv hc hcm h h5
    · by_cases h6 : x.op = 6
      · exact vparts_rec x r b off c fld w hE hv hc hcm h h6
      · exact vparts_type x r b off c fld w hE hv hc hcm h h5 h6
  · exact vparts_bad v p c fld w hE hv hc hcm h
end Go.Proofs.YthmfgnofhbmogaaDoor
