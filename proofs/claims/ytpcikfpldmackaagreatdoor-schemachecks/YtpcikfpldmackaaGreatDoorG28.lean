/- The document's nameFaults, recordFault, among, KindOf, ActOf: by walks of their own texts. The document's kindFault, actFault: by walks of their own texts (written by gen_sct.py). -/
import Derived.Test.YtpcikfpldmackaaGreatDoorG23
import Derived.Test.YtpcikfpldmackaaGreatDoorG21
import Derived.Test.YtpcikfpldmackaaGreatDoorG22
import Derived.Test.YtpcikfpldmackaaGreatDoorG4
import Derived.Test.YtpcikfpldmackaaGreatDoorG6
namespace Go.Proofs.YtpcikfpldmackaaGreatDoor
open Go.RowKit
set_option linter.unusedVariables false
set_option linter.unusedSimpArgs false
set_option maxRecDepth 100000

theorem tl_neR {a b : ByteArray} (h : a ≠ b) : (a.toList == b.toList) = false := by
  rw [beq_eq_false_iff_ne]
  exact fun e => h (bytes_inj (by simpa only [ByteArray.toList_eq] using e))
theorem nsf_stepR {l : List ByteArray} {k : Nat} (h : k < l.length) : nsf (l.drop k) = orE (nmf l[k]) (nsf (l.drop (k + 1))) := by rw [List.drop_eq_getElem_cons h]; rfl
set_option maxHeartbeats 1000000 in
theorem nameFaults_any (l : List ByteArray) (p : Option Addr) (c : Nat) (w : World) (hl : TA w l p c) :
    Calls Tryz.prog 73 #[.slice p l.length c] w fun e w' => e = .returned (.int .i64 (nsf l)) ∧ w' = w := by
  have hn := Nat.le_trans hl.le hl.cm
  unfold maxLen at hn
  go_enter Tryz.func73, Tryz.ntmps73
  go_wp2
  go_loop [3, 4] (fun i _ => ∃ k : Nat, k ≤ l.length ∧ i = .int .i64 k ∧ Hid (nsf l = nsf (l.drop k))) (fun i _ => l.length - (intOf i).toNat)
  case atStart => exact ⟨0, Nat.zero_le _, rfl, rfl⟩
  case round =>
    obtain ⟨k, hk, rfl, HD⟩ := hrel
    by_cases hlt : k < l.length
    · obtain ⟨b1, o1, rfl, hb1, x0⟩ := hl.tl.at hlt
      have i1 : (k : Int) < (l.length : Int) := by omega
      have HE : Hid (nsf l = orE (nmf l[k]) (nsf (l.drop (k + 1)))) := by show _ = _; rw [HD.out, nsf_stepR hlt]
      have HC := nameFault_any l[k] w (hl.sz _ (List.getElem_mem _))
      have e1 : nfault l[k].data.toList = nmf l[k] := rfl
      rw [e1] at HC
      generalize l[k] = x at *
      clear e1 hl
      by_cases h0 : nmf x = 0
      · have HE2 : Hid (nsf l = nsf (l.drop (k + 1))) := by show _ = _; rw [HE.out, orE_r h0]
        rw [h0] at HC
        clear HE h0 HD
        go_wp2_with fail
        refine HC.mono ?_
        rintro e w1 ⟨rfl, rfl⟩
        go_wp2
        go_round
        case rel => exact ⟨k + 1, by omega, by go_num, HE2⟩
        case measure => simp [intOf]; omega
      · have HE2 : Hid (nsf l = nmf x) := by show _ = _; rw [HE.out, orE_l h0]
        have e1 : (nmf x != 0) = true := by simp [h0]
        clear HE h0 HD
        generalize nmf x = n at *
        go_wp2_with fail
        refine HC.mono ?_
        rintro e w1 ⟨rfl, rfl⟩
        go_wp2
        go_ret
        exact ⟨by rw [HE2.out]; rfl, rfl⟩
    · have i1 : ¬ (k : Int) < (l.length : Int) := by omega
      have HE2 : Hid (nsf l = 0) := by show _ = _; rw [HD.out, List.drop_of_length_le (by omega)]; rfl
      clear HD
      go_wp2
      go_ret
      exact ⟨by rw [HE2.out]; rfl, rfl⟩
theorem not_takeR {s : ByteArray} {l : List ByteArray} {k : Nat} (h : k < l.length) (h1 : s ∉ l.take k) (h2 : l[k] ≠ s) : s ∉ l.take (k + 1) := by
  rw [List.take_succ_eq_append_getElem h, List.mem_append, List.mem_singleton]
  rintro (h3 | h3)
  · exact h1 h3
  · exact h2 h3.symm
set_option maxHeartbeats 1000000 in
theorem amongR_any (s : ByteArray) (l : List ByteArray) (p : Option Addr) (c : Nat) (w : World) (hl : TA w l p c) :
    Calls Tryz.prog 43 #[.string s, .slice p l.length c] w fun e w' => e = .returned (.bool (hasT s l)) ∧ w' = w := by
  have hn := Nat.le_trans hl.le hl.cm
  unfold maxLen at hn
  go_enter Tryz.func43, Tryz.ntmps43
  go_wp2
  go_loop [5] (fun i => ∃ k : Nat, k ≤ l.length ∧ i = .int .i64 k ∧ Hid (s ∉ l.take k)) (fun i => l.length - (intOf i).toNat)
  case atStart => exact ⟨0, Nat.zero_le _, rfl, fun h => by simp at h⟩
  case round =>
    obtain ⟨k, hk, rfl, HD⟩ := hrel
    by_cases hlt : k < l.length
    · obtain ⟨b1, o1, rfl, hb1, x0⟩ := hl.tl.at hlt
      have i1 : (k : Int) < (l.length : Int) := by omega
      have HM : Hid (l[k] ∈ l) := List.getElem_mem _
      have HN : Hid (l[k] ≠ s → s ∉ l.take (k + 1)) := not_takeR hlt HD.out
      generalize l[k] = x at *
      by_cases h1 : x = s
      · have HR : Hid (hasT s l = true) := hasT_iff.2 (by rw [← h1]; exact HM.out)
        subst h1
        clear HN HM HD
        go_wp2
        go_ret
        exact ⟨by rw [HR.out]; rfl, rfl⟩
      · have h1' := tl_neR h1
        have HN2 : Hid (s ∉ l.take (k + 1)) := HN.out h1
        clear HN h1 HM HD
        go_wp2
        go_round
        case rel => exact ⟨k + 1, by omega, by go_num, HN2⟩
        case measure => simp [intOf]; omega
    · have i1 : ¬ (k : Int) < (l.length : Int) := by omega
      have HR : Hid (hasT s l = false) := by
        show _ = _
        have := HD.out
        rw [List.take_of_length_le (by omega)] at this
        cases e : hasT s l
        · rfl
        · exact absurd (hasT_iff.1 e) this
      clear HD
      go_wp2
      go_ret
      exact ⟨by rw [HR.out]; rfl, rfl⟩
theorem opE_atR {t : List Nd} (h : 0 < t.length) : opE t = if t[0].op = 46 then 0 else 2 := by
  cases t with
  | nil => simp at h
  | cons x r => rfl
set_option maxHeartbeats 1000000 in
theorem recordFault_any (t : List Nd) (p : Option Addr) (c : Nat) (w : World) (ht : AK w t p c) :
    Calls Tryz.prog 74 #[.slice p t.length c] w fun e w' => e = .returned (.int .i64 (rcf t)) ∧ Below w.heap.size w w' := by
  have HC := kindFault_any t w p c ht.nl ht.le ht.cm
  by_cases h0 : kfault t = 0
  · rw [h0] at HC
    obtain ⟨_, x, k, hk⟩ := kfault_zero h0
    have hl : 0 < t.length := by rw [hk.2]; simp
    have HR : Hid (rcf t = if t[0].op = 46 then 0 else 2) := by show _ = _; unfold rcf; rw [orE_r h0, opE_atR hl]
    obtain ⟨b, off, rfl, hbw, x0, hrest⟩ := ht.nl.at hl
    simp only [Nat.zero_mul, Nat.add_zero] at x0
    have i1 : (0 : Int) < (t.length : Int) := by omega
    clear hrest ht hk h0
    generalize t[0] = y at *
    by_cases h6 : y.op = 46
    · have e6 : (y.op != 46) = false := by simpa using h6
      have HE : Hid (rcf t = 0) := by show _ = _; rw [HR.out, if_pos h6]
      clear h6 HR
      go_enter Tryz.func74, Tryz.ntmps74
      go_wp2_with fail
      refine HC.mono ?_
      rintro e w1 ⟨rfl, hb1⟩
      have z0 := (hb1.cell (p := ⟨b, off, none⟩) hbw).trans x0
      go_wp2
      go_ret
      exact ⟨by rw [HE.out]; rfl, hb1⟩
    · have e6 : (y.op != 46) = true := by simpa using h6
      have HE : Hid (rcf t = 2) := by show _ = _; rw [HR.out, if_neg h6]
      clear h6 HR
      go_enter Tryz.func74, Tryz.ntmps74
      go_wp2_with fail
      refine HC.mono ?_
      rintro e w1 ⟨rfl, hb1⟩
      have z0 := (hb1.cell (p := ⟨b, off, none⟩) hbw).trans x0
      go_wp2
      go_ret
      exact ⟨by rw [HE.out]; rfl, hb1⟩
  · have HE : Hid (rcf t = kfault t) := by show _ = _; unfold rcf; rw [orE_l h0]
    have e0 : (kfault t == 0) = false := by simp [h0]
    generalize kfault t = n at *
    clear ht h0
    go_enter Tryz.func74, Tryz.ntmps74
    go_wp2_with fail
    refine HC.mono ?_
    rintro e w1 ⟨rfl, hb1⟩
    go_wp2
    go_ret
    exact ⟨by rw [HE.out]; rfl, hb1⟩
/-- Which kind has a name. -/
def kix (ks : List Kd) (s : ByteArray) (n : Int) : Prop := (kof ks s = none ∧ n = -1) ∨ ∃ (i : Nat) (h : i < ks.length), kof ks s = some ks[i] ∧ n = (i : Int)
theorem kof_atR {ks : List Kd} {s : ByteArray} {k : Nat} (h : k < ks.length) (hn : kof (ks.take k) s = none) : (ks[k].nm = s → kof ks s = some ks[k]) ∧ (ks[k].nm ≠ s → kof (ks.take (k + 1)) s = none) := by
  constructor
  · intro e
    have : ks = ks.take k ++ ks[k] :: ks.drop (k + 1) := by rw [← List.drop_eq_getElem_cons h, List.take_append_drop]
    conv => lhs; rw [this]
    unfold kof at *
    rw [List.find?_append, hn, Option.none_or, List.find?_cons_of_pos (by simpa using e)]
  · intro e
    rw [List.take_succ_eq_append_getElem h]
    unfold kof at *
    rw [List.find?_append, hn, Option.none_or, List.find?_cons_of_neg (by simpa using e)]
    rfl
set_option maxHeartbeats 1000000 in
theorem kindOfR_any (s : Sc) (pk pa : Option Addr) (ck ca : Nat) (x : ByteArray) (w : World) (h : SA w s pk ck pa ca) :
    Calls Tryz.prog 42 #[scV s pk ck pa ca, .string x] w fun e w' => (∃ n, e = .returned (.int .i64 n) ∧ kix s.ks x n) ∧ Below w.heap.size w w' := by
  obtain ⟨V, hV⟩ : ∃ V, V = w.alloc (.cells #[.slice pk s.ks.length ck, .slice pa s.acs.length ca] 38) := ⟨_, rfl⟩
  have hbV : Below w.heap.size w V := by rw [hV]; exact kqx
  have v0 : V.cell? ⟨w.heap.size, 0, none⟩ = some (.slice pk s.ks.length ck) := by rw [hV]; simp
  have HK : Hid (KdL V pk s.ks) := h.ks.up hbV
  have hn : s.ks.length ≤ 9223372036854775807 := by have h1 := h.kl; have h2 := h.km; unfold maxLen at h2; omega
  unfold scV
  clear h
  go_enter Tryz.func42, Tryz.ntmps42
  go_wp2_with fail
  rw [← hV]
  clear hV
  go_loop [5] (fun i => ∃ k : Nat, k ≤ s.ks.length ∧ i = .int .i64 k ∧ Hid (kof (s.ks.take k) x = none)) (fun i => s.ks.length - (intOf i).toNat)
  case atStart => exact ⟨0, Nat.zero_le _, rfl, rfl⟩
  case round =>
    obtain ⟨k, hk, rfl, HD⟩ := hrel
    by_cases hlt : k < s.ks.length
    · obtain ⟨b, off, pu, cu, pt, ct, rfl, hbl, hkv, c0, c1, c2⟩ := HK.out.at hlt
      have i1 : (k : Int) < (s.ks.length : Int) := by omega
      have HX : Hid _ := kof_atR hlt HD.out
      have HKI : Hid (s.ks[k].nm = x → kix s.ks x (k : Int)) := fun e => .inr ⟨k, hlt, HX.out.1 e, rfl⟩
      clear hkv c1 c2
      generalize s.ks[k] = y at *
      by_cases h1 : y.nm = x
      · have HR : Hid (kix s.ks x (k : Int)) := HKI.out h1
        rw [h1] at c0
        clear HX HKI h1 HD
        go_wp2
        go_ret
        exact ⟨⟨_, rfl, HR.out⟩, hbV⟩
      · have h1' := tl_neR h1
        have HN2 : Hid (kof (s.ks.take (k + 1)) x = none) := HX.out.2 h1
        clear HX HKI h1 HD
        go_wp2
        go_round
        case rel => exact ⟨k + 1, by omega, by go_num, HN2⟩
        case measure => simp [intOf]; omega
    · have i1 : ¬ (k : Int) < (s.ks.length : Int) := by omega
      have HR : Hid (kix s.ks x (-1)) := .inl ⟨by have := HD.out; rw [List.take_of_length_le (by omega)] at this; exact this, rfl⟩
      clear HD
      go_wp2
      go_ret
      exact ⟨⟨_, rfl, HR.out⟩, hbV⟩
/-- Which act has an id. -/
def aoi (al : List Ac) (s : ByteArray) : Option Ac := al.find? fun a => decide (a.id = s)
def aix (al : List Ac) (s : ByteArray) (n : Int) : Prop := (aoi al s = none ∧ n = -1) ∨ ∃ (i : Nat) (h : i < al.length), aoi al s = some al[i] ∧ n = (i : Int)
theorem aoi_at {al : List Ac} {s : ByteArray} {k : Nat} (h : k < al.length) (hn : aoi (al.take k) s = none) : (al[k].id = s → aoi al s = some al[k]) ∧ (al[k].id ≠ s → aoi (al.take (k + 1)) s = none) := by
  constructor
  · intro e
    have : al = al.take k ++ al[k] :: al.drop (k + 1) := by rw [← List.drop_eq_getElem_cons h, List.take_append_drop]
    conv => lhs; rw [this]
    unfold aoi at *
    rw [List.find?_append, hn, Option.none_or, List.find?_cons_of_pos (by simpa using e)]
  · intro e
    rw [List.take_succ_eq_append_getElem h]
    unfold aoi at *
    rw [List.find?_append, hn, Option.none_or, List.find?_cons_of_neg (by simpa using e)]
    rfl
theorem aof_aoi {al : List Ac} {u : Ui} : aof al u = if u.t = actT then aoi al u.i else none := by
  unfold aof aoi
  split
  · rename_i h; simp [h]
  · rename_i h; simp [h]
set_option maxHeartbeats 1000000 in
theorem actOfR_any (s : Sc) (pk pa : Option Addr) (ck ca : Nat) (x : ByteArray) (w : World) (h : SA w s pk ck pa ca) :
    Calls Tryz.prog 49 #[scV s pk ck pa ca, .string x] w fun e w' => (∃ n, e = .returned (.int .i64 n) ∧ aix s.acs x n) ∧ Below w.heap.size w w' := by
  obtain ⟨V, hV⟩ : ∃ V, V = w.alloc (.cells #[.slice pk s.ks.length ck, .slice pa s.acs.length ca] 38) := ⟨_, rfl⟩
  have hbV : Below w.heap.size w V := by rw [hV]; exact kqx
  have v0 : V.cell? ⟨w.heap.size, 1, none⟩ = some (.slice pa s.acs.length ca) := by rw [hV]; simp
  have HK : Hid (AcL V pa s.acs) := h.asl.up hbV
  have hn : s.acs.length ≤ 9223372036854775807 := by have h1 := h.al; have h2 := h.am; unfold maxLen at h2; omega
  unfold scV
  clear h
  go_enter Tryz.func49, Tryz.ntmps49
  go_wp2_with fail
  rw [← hV]
  clear hV
  go_loop [5] (fun i => ∃ k : Nat, k ≤ s.acs.length ∧ i = .int .i64 k ∧ Hid (aoi (s.acs.take k) x = none)) (fun i => s.acs.length - (intOf i).toNat)
  case atStart => exact ⟨0, Nat.zero_le _, rfl, rfl⟩
  case round =>
    obtain ⟨k, hk, rfl, HD⟩ := hrel
    by_cases hlt : k < s.acs.length
    · obtain ⟨b, off, p0, d0, p1, d1, pt, ct, rfl, hbl, hkv, c0, c1, c2, c3⟩ := HK.out.at hlt
      have i1 : (k : Int) < (s.acs.length : Int) := by omega
      have HX : Hid _ := aoi_at hlt HD.out
      have HKI : Hid (s.acs[k].id = x → aix s.acs x (k : Int)) := fun e => .inr ⟨k, hlt, HX.out.1 e, rfl⟩
      clear hkv c1 c2 c3
      generalize s.acs[k] = y at *
      by_cases h1 : y.id = x
      · have HR : Hid (aix s.acs x (k : Int)) := HKI.out h1
        rw [h1] at c0
        clear HX HKI h1 HD
        go_wp2
        go_ret
        exact ⟨⟨_, rfl, HR.out⟩, hbV⟩
      · have h1' := tl_neR h1
        have HN2 : Hid (aoi (s.acs.take (k + 1)) x = none) := HX.out.2 h1
        clear HX HKI h1 HD
        go_wp2
        go_round
        case rel => exact ⟨k + 1, by omega, by go_num, HN2⟩
        case measure => simp [intOf]; omega
    · have i1 : ¬ (k : Int) < (s.acs.length : Int) := by omega
      have HR : Hid (aix s.acs x (-1)) := .inl ⟨by have := HD.out; rw [List.take_of_length_le (by omega)] at this; exact this, rfl⟩
      clear HD
      go_wp2
      go_ret
      exact ⟨⟨_, rfl, HR.out⟩, hbV⟩
end Go.Proofs.YtpcikfpldmackaaGreatDoor
namespace Go.Proofs.YtpcikfpldmackaaGreatDoor
open Go.RowKit
set_option linter.unusedVariables false
set_option linter.unusedSimpArgs false
set_option maxRecDepth 100000

theorem kdf_waysR (seen : List ByteArray) (k : Kd) : (nmf k.nm ≠ 0 ∧ kdf seen k = nmf k.nm) ∨ (nmf k.nm = 0 ∧ hasT k.nm seen = true ∧ kdf seen k = 6) ∨ (nmf k.nm = 0 ∧ hasT k.nm seen = false ∧ kdf seen k = orE (fuE (decide (6 < k.up.length))) (orE (nsf k.up) (rcf k.ty))) := by
  unfold kdf
  by_cases h1 : nmf k.nm = 0
  · rw [orE_r h1]
    cases h2 : hasT k.nm seen
    · exact .inr (.inr ⟨h1, rfl, by rw [orE_r (by unfold twE; rw [h2]; rfl)]⟩)
    · exact .inr (.inl ⟨h1, rfl, by unfold twE; rw [h2]; rfl⟩)
  · exact .inl ⟨h1, orE_l h1⟩
theorem acf_waysR (seen : List ByteArray) (a : Ac) : (tmf a.id ≠ 0 ∧ acf seen a = tmf a.id) ∨ (tmf a.id = 0 ∧ hasT a.id seen = true ∧ acf seen a = 6) ∨ (tmf a.id = 0 ∧ hasT a.id seen = false ∧ acf seen a = orE (fuE (decide (6 < a.who.length ∨ 6 < a.what.length))) (orE (nsf a.who) (orE (nsf a.what) (rcf a.cx)))) := by
  unfold acf
  by_cases h1 : tmf a.id = 0
  · rw [orE_r h1]
    cases h2 : hasT a.id seen
    · exact .inr (.inr ⟨h1, rfl, by rw [orE_r (by unfold twE; rw [h2]; rfl)]⟩)
    · exact .inr (.inl ⟨h1, rfl, by unfold twE; rw [h2]; rfl⟩)
  · exact .inl ⟨h1, orE_l h1⟩
theorem kdf_seen {al : List Kd} {i : Nat} {x : ByteArray} (h : x ∉ (al.take i).map (·.nm)) : hasT x ((al.take i).map (·.nm)) = false := by
  cases e : hasT x ((al.take i).map (·.nm))
  · rfl
  · exact absurd (hasT_iff.1 e) h
theorem kdf_next {al : List Kd} {j : Nat} (h : j < al.length) {x : ByteArray} (h1 : x ∉ (al.take j).map (·.nm)) (h2 : al[j].nm ≠ x) : x ∉ (al.take (j + 1)).map (·.nm) := by
  rw [List.take_succ_eq_append_getElem h, List.map_append, List.mem_append]
  rintro (h3 | h3)
  · exact h1 h3
  · simp at h3; exact h2 h3.symm
theorem kdf_hit {al : List Kd} {i j : Nat} (h : j < al.length) (hj : j < i) {x : ByteArray} (h2 : al[j].nm = x) : hasT x ((al.take i).map (·.nm)) = true := by
  rw [hasT_iff, List.mem_map]
  refine ⟨al[j], ?_, h2⟩
  rw [List.mem_take_iff_getElem]
  exact ⟨j, by omega, rfl⟩
set_option maxHeartbeats 4000000 in
theorem kdFault_any (s : Sc) (pk pa : Option Addr) (ck ca : Nat) (i : Nat) (hi : i < s.ks.length) (w : World) (h : SA w s pk ck pa ca) (h8 : s.ks.length ≤ 8) :
    Calls Tryz.prog 37 #[scV s pk ck pa ca, .int .i64 (i : Int)] w fun e w' => e = .returned (.int .i64 (kdf ((s.ks.take i).map (·.nm)) s.ks[i])) ∧ Below w.heap.size w w' := by
  obtain ⟨b, off, pu, cu, pt, ct, hpk, hbl, hkv, c0, c1, c2⟩ := h.ks.at hi
  obtain ⟨V, hV⟩ : ∃ V, V = (w.alloc (.cells #[.slice pk s.ks.length ck, .slice pa s.acs.length ca] 38)).alloc (.cells #[.string s.ks[i].nm, .slice pu s.ks[i].up.length cu, .slice pt s.ks[i].ty.length ct] 89) := ⟨_, rfl⟩
  have hbV : Below w.heap.size w V := by rw [hV]; exact kqx
  have HB0 : Hid (Blk V w.heap.size #[.slice pk s.ks.length ck, .slice pa s.acs.length ca] 38) := by rw [hV]; exact (Blk.new w _ _ rfl).up kqx
  have HB1 : Hid (Blk V (w.heap.size + 1) #[.string s.ks[i].nm, .slice pu s.ks[i].up.length cu, .slice pt s.ks[i].ty.length ct] 89) := by rw [hV]; refine Blk.new _ _ _ ?_; simp
  have HKL : Hid (KdL V pk s.ks) := h.ks.up hbV
  have HKV : Hid (KdV V s.ks[i] pu cu pt ct) := hkv.up hbV
  have i0 : (i : Int) < (s.ks.length : Int) := by omega
  have HI : Hid (i < s.ks.length) := hi
  have hi8 : i < 8 := by omega
  subst hpk
  clear hkv h
  obtain ⟨x, hx⟩ : ∃ x, x = s.ks[i]'hi := ⟨_, rfl⟩
  rw [← hx] at c0 c1 c2 hV HB1 HKV ⊢
  have HC := nameFault_any x.nm V HKV.out.nm
  have eC : nfault x.nm.data.toList = nmf x.nm := rfl
  rw [eC] at HC
  clear eC hx
  obtain ⟨nm, up, ty⟩ := x
  dsimp only at c0 c1 c2 hV HB1 HKV HC ⊢
  unfold scV
  obtain ⟨R, hR⟩ : ∃ R, R = kdf ((s.ks.take i).map (·.nm)) ⟨nm, up, ty⟩ := ⟨_, rfl⟩
  rw [← hR]
  have HRR : Hid (R = kdf ((s.ks.take i).map (·.nm)) ⟨nm, up, ty⟩) := hR
  clear hR
  have x0 : V.cell? ⟨w.heap.size + 1, 0, none⟩ = some (.string nm) := HB1.out.cell 0
  rw [hV] at x0
  rcases kdf_waysR ((s.ks.take i).map (·.nm)) ⟨nm, up, ty⟩ with ⟨n1, e1⟩ | ⟨n1, n2, e1⟩ | ⟨n1, n2, e1⟩
  · have HE : Hid (R = nmf nm) := HRR.out.trans e1
    have e3 : (nmf nm == 0) = false := by simpa using n1
    clear n1 e1
    generalize nmf nm = n at *
    go_enter Tryz.func37, Tryz.ntmps37
    go_wp2_with fail
    rw [← hV]
    clear hV x0
    refine HC.mono ?_
    rintro _ w1 ⟨rfl, rfl⟩
    go_wp2_with fail
    go_loopw [6, 7] (fun ev jv wr => ev = .int .i64 n ∧ jv = .int .i64 0 ∧ wr = w1) (fun _ _ _ => 0)
    case atStart => exact ⟨rfl, rfl, rfl⟩
    case round =>
      rename World => wr
      obtain ⟨rfl, rfl, rfl⟩ := hrel
      by_cases hi0 : 0 < i
      · have j1 : (0 : Int) < (i : Int) := by omega
        clear hi0
        go_wp2
        go_ret
        exact ⟨by rw [HE.out]; rfl, hbV⟩
      · have j1 : ¬ (0 : Int) < (i : Int) := by omega
        clear hi0
        go_wp2
        go_ret
        exact ⟨by rw [HE.out]; rfl, hbV⟩
  all_goals
    rw [n1] at HC
    clear n1
    go_enter Tryz.func37, Tryz.ntmps37
    go_wp2_with fail
    rw [← hV]
    clear hV x0
    refine HC.mono ?_
    rintro _ w1 ⟨rfl, rfl⟩
    go_wp2_with fail
    clear HC
  · have HE : Hid (R = 6) := HRR.out.trans e1
    have HT : Hid (nm ∈ (s.ks.take i).map (·.nm)) := hasT_iff.1 n2
    clear e1 n2
    go_loopw [6, 7] (fun ev jv wr => ∃ j : Nat, j ≤ i ∧ jv = .int .i64 j ∧ (ev = .int .i64 6 ∨ (ev = .int .i64 0 ∧ Hid (nm ∉ (s.ks.take j).map (·.nm)))) ∧ Below w1.heap.size w1 wr) (fun _ jv _ => i - (intOf jv).toNat)
    case atStart => exact ⟨0, Nat.zero_le _, rfl, .inr ⟨rfl, fun h => by simp at h⟩, Below.refl _ _⟩
    case round =>
      rename World => wr
      obtain ⟨j, hj, rfl, hev, hbr⟩ := hrel
      rcases hev with rfl | ⟨rfl, HN⟩
      · by_cases hlt : j < i
        · have j1 : (j : Int) < (i : Int) := by omega
          go_wp2
          go_ret
          exact ⟨by rw [HE.out]; rfl, kqt hbV hbr⟩
        · have j1 : ¬ (j : Int) < (i : Int) := by omega
          go_wp2
          go_ret
          exact ⟨by rw [HE.out]; rfl, kqt hbV hbr⟩
      · by_cases hlt : j < i
        · have j1 : (j : Int) < (i : Int) := by omega
          have hjl : j < s.ks.length := by have := HI.out; omega
          have j2 : (j : Int) < (s.ks.length : Int) := by omega
          obtain ⟨b2, off2, _, _, _, _, e2, hbl2, _, g0, _⟩ := HKL.out.at hjl
          cases e2
          replace g0 := (hbr.cell (p := ⟨b, off + j * 3, none⟩) hbl2).trans g0
          have y0 : wr.cell? ⟨w.heap.size, 0, none⟩ = some (.slice (some ⟨b, off, none⟩) s.ks.length ck) := (HB0.out.up hbr).cell 0
          have y1 : wr.cell? ⟨w.heap.size + 1, 0, none⟩ = some (.string nm) := (HB1.out.up hbr).cell 0
          by_cases hq : s.ks[j].nm = nm
          · rw [hq] at g0
            clear hq HN
            go_wp2_with fail
            go_region
            go_wp2
            go_roundw
            case rel => exact ⟨j + 1, by omega, by go_num, .inl rfl, kqt hbr kqx⟩
            case measure => simp [intOf]; omega
          · have HN2 : Hid (nm ∉ (s.ks.take (j + 1)).map (·.nm)) := kdf_next hjl HN.out hq
            have hq' := tl_neR hq
            clear hq HN
            generalize s.ks[j].nm = z at *
            go_wp2_with fail
            go_region
            go_wp2
            go_roundw
            case rel => exact ⟨j + 1, by omega, by go_num, .inr ⟨rfl, HN2⟩, kqt hbr kqx⟩
            case measure => simp [intOf]; omega
        · exfalso
          have : j = i := by omega
          rw [this] at HN
          exact HN.out HT.out
  · have HE : Hid (R = orE (fuE (decide (6 < up.length))) (orE (nsf up) (rcf ty))) := HRR.out.trans e1
    have HT : Hid (∀ (j : Nat) (h : j < s.ks.length), j < i → s.ks[j].nm ≠ nm) := fun j h1 h2 e => by rw [kdf_hit h1 h2 e] at n2; cases n2
    clear e1 n2
    go_loopw [6, 7] (fun ev jv wr => ∃ j : Nat, j ≤ i ∧ jv = .int .i64 j ∧ ev = .int .i64 0 ∧ Below w1.heap.size w1 wr) (fun _ jv _ => i - (intOf jv).toNat)
    case atStart => exact ⟨0, Nat.zero_le _, rfl, rfl, Below.refl _ _⟩
    case round =>
      rename World => wr
      obtain ⟨j, hj, rfl, rfl, hbr⟩ := hrel
      by_cases hlt : j < i
      · have j1 : (j : Int) < (i : Int) := by omega
        have hjl : j < s.ks.length := by have := HI.out; omega
        have j2 : (j : Int) < (s.ks.length : Int) := by omega
        obtain ⟨b2, off2, _, _, _, _, e2, hbl2, _, g0, _⟩ := HKL.out.at hjl
        cases e2
        replace g0 := (hbr.cell (p := ⟨b, off + j * 3, none⟩) hbl2).trans g0
        have y0 : wr.cell? ⟨w.heap.size, 0, none⟩ = some (.slice (some ⟨b, off, none⟩) s.ks.length ck) := (HB0.out.up hbr).cell 0
        have y1 : wr.cell? ⟨w.heap.size + 1, 0, none⟩ = some (.string nm) := (HB1.out.up hbr).cell 0
        have hq' := tl_neR (HT.out j hjl hlt)
        generalize s.ks[j].nm = z at *
        go_wp2_with fail
        go_region
        go_wp2
        go_roundw
        case rel => exact ⟨j + 1, by omega, by go_num, rfl, kqt hbr kqx⟩
        case measure => simp [intOf]; omega
      · have j1 : ¬ (j : Int) < (i : Int) := by omega
        have x1 : wr.cell? ⟨w.heap.size + 1, 1, none⟩ = some (.slice pu up.length cu) := (HB1.out.up hbr).cell 1
        have x2 : wr.cell? ⟨w.heap.size + 1, 2, none⟩ = some (.slice pt ty.length ct) := (HB1.out.up hbr).cell 2
        have HN := nameFaults_any up pu cu wr (HKV.out.us.up hbr)
        have HQ := recordFault_any ty pt ct wr (HKV.out.ty.up hbr)
        clear HT hlt
        by_cases h6 : 6 < up.length
        · have k1 : (6 : Int) < (up.length : Int) := by omega
          have HR : Hid (R = 4) := by show _ = _; rw [HE.out, decide_eq_true h6]; rfl
          clear h6 HN HQ
          go_wp2
          go_ret
          exact ⟨by rw [HR.out]; rfl, kqt hbV hbr⟩
        have k1 : ¬ (6 : Int) < (up.length : Int) := by omega
        have HE2 : Hid (R = orE (nsf up) (rcf ty)) := by show _ = _; rw [HE.out, decide_eq_false h6]; rfl
        clear h6 HE
        by_cases h0 : nsf up = 0
        · rw [h0] at HN
          have HR : Hid (R = rcf ty) := by show _ = _; rw [HE2.out, orE_r h0]
          clear h0 HE2
          generalize rcf ty = n at *
          go_wp2_with fail
          refine HN.mono ?_
          rintro _ w2 ⟨rfl, rfl⟩
          go_wp2_with fail
          refine HQ.mono ?_
          rintro _ w3 ⟨rfl, hb3⟩
          go_wp2
          go_ret
          exact ⟨by rw [HR.out]; rfl, kqt hbV (kqt hbr hb3)⟩
        · have HR : Hid (R = nsf up) := by show _ = _; rw [HE2.out, orE_l h0]
          have e3 : (nsf up == 0) = false := by simpa using h0
          clear h0 HE2 HQ
          generalize nsf up = n at *
          go_wp2_with fail
          refine HN.mono ?_
          rintro _ w2 ⟨rfl, rfl⟩
          go_wp2
          go_ret
          exact ⟨by rw [HR.out]; rfl, kqt hbV hbr⟩
theorem acf_seen {al : List Ac} {i : Nat} {x : ByteArray} (h : x ∉ (al.take i).map (·.id)) : hasT x ((al.take i).map (·.id)) = false := by
  cases e : hasT x ((al.take i).map (·.id))
  · rfl
  · exact absurd (hasT_iff.1 e) h
theorem acf_next {al : List Ac} {j : Nat} (h : j < al.length) {x : ByteArray} (h1 : x ∉ (al.take j).map (·.id)) (h2 : al[j].id ≠ x) : x ∉ (al.take (j + 1)).map (·.id) := by
  rw [List.take_succ_eq_append_getElem h, List.map_append, List.mem_append]
  rintro (h3 | h3)
  · exact h1 h3
  · simp at h3; exact h2 h3.symm
theorem acf_hit {al : List Ac} {i j : Nat} (h : j < al.length) (hj : j < i) {x : ByteArray} (h2 : al[j].id = x) : hasT x ((al.take i).map (·.id)) = true := by
  rw [hasT_iff, List.mem_map]
  refine ⟨al[j], ?_, h2⟩
  rw [List.mem_take_iff_getElem]
  exact ⟨j, by omega, rfl⟩
set_option maxHeartbeats 4000000 in
theorem acFault_any (s : Sc) (pk pa : Option Addr) (ck ca : Nat) (i : Nat) (hi : i < s.acs.length) (w : World) (h : SA w s pk ck pa ca) (h8 : s.acs.length ≤ 8) :
    Calls Tryz.prog 38 #[scV s pk ck pa ca, .int .i64 (i : Int)] w fun e w' => e = .returned (.int .i64 (acf ((s.acs.take i).map (·.id)) s.acs[i])) ∧ Below w.heap.size w w' := by
  obtain ⟨b, off, p1, d1, p2, d2, pt, ct, hpk, hbl, hkv, c0, c1, c2, c3⟩ := h.asl.at hi
  obtain ⟨V, hV⟩ : ∃ V, V = (w.alloc (.cells #[.slice pk s.ks.length ck, .slice pa s.acs.length ca] 38)).alloc (.cells #[.string s.acs[i].id, .slice p1 s.acs[i].who.length d1, .slice p2 s.acs[i].what.length d2, .slice pt s.acs[i].cx.length ct] 92) := ⟨_, rfl⟩
  have hbV : Below w.heap.size w V := by rw [hV]; exact kqx
  have HB0 : Hid (Blk V w.heap.size #[.slice pk s.ks.length ck, .slice pa s.acs.length ca] 38) := by rw [hV]; exact (Blk.new w _ _ rfl).up kqx
  have HB1 : Hid (Blk V (w.heap.size + 1) #[.string s.acs[i].id, .slice p1 s.acs[i].who.length d1, .slice p2 s.acs[i].what.length d2, .slice pt s.acs[i].cx.length ct] 92) := by rw [hV]; refine Blk.new _ _ _ ?_; simp
  have HKL : Hid (AcL V pa s.acs) := h.asl.up hbV
  have HKV : Hid (AcV V s.acs[i] p1 d1 p2 d2 pt ct) := hkv.up hbV
  have i0 : (i : Int) < (s.acs.length : Int) := by omega
  have HI : Hid (i < s.acs.length) := hi
  have hi8 : i < 8 := by omega
  subst hpk
  clear hkv h
  obtain ⟨x, hx⟩ : ∃ x, x = s.acs[i]'hi := ⟨_, rfl⟩
  rw [← hx] at c0 c1 c2 c3 hV HB1 HKV ⊢
  have HC := textFault_any x.id V HKV.out.id
  have eC : tfault x.id.data.toList = tmf x.id := rfl
  rw [eC] at HC
  clear eC hx
  obtain ⟨nm, us, vs, ty⟩ := x
  dsimp only at c0 c1 c2 c3 hV HB1 HKV HC ⊢
  unfold scV
  obtain ⟨R, hR⟩ : ∃ R, R = acf ((s.acs.take i).map (·.id)) ⟨nm, us, vs, ty⟩ := ⟨_, rfl⟩
  rw [← hR]
  have HRR : Hid (R = acf ((s.acs.take i).map (·.id)) ⟨nm, us, vs, ty⟩) := hR
  clear hR
  have x0 : V.cell? ⟨w.heap.size + 1, 0, none⟩ = some (.string nm) := HB1.out.cell 0
  rw [hV] at x0
  rcases acf_waysR ((s.acs.take i).map (·.id)) ⟨nm, us, vs, ty⟩ with ⟨n1, e1⟩ | ⟨n1, n2, e1⟩ | ⟨n1, n2, e1⟩
  · have HE : Hid (R = tmf nm) := HRR.out.trans e1
    have e3 : (tmf nm == 0) = false := by simpa using n1
    clear n1 e1
    generalize tmf nm = n at *
    go_enter Tryz.func38, Tryz.ntmps38
    go_wp2_with fail
    rw [← hV]
    clear hV x0
    refine HC.mono ?_
    rintro _ w1 ⟨rfl, rfl⟩
    go_wp2_with fail
    go_loopw [6, 7] (fun ev jv wr => ev = .int .i64 n ∧ jv = .int .i64 0 ∧ wr = w1) (fun _ _ _ => 0)
    case atStart => exact ⟨rfl, rfl, rfl⟩
    case round =>
      rename World => wr
      obtain ⟨rfl, rfl, rfl⟩ := hrel
      by_cases hi0 : 0 < i
      · have j1 : (0 : Int) < (i : Int) := by omega
        clear hi0
        go_wp2
        go_ret
        exact ⟨by rw [HE.out]; rfl, hbV⟩
      · have j1 : ¬ (0 : Int) < (i : Int) := by omega
        clear hi0
        go_wp2
        go_ret
        exact ⟨by rw [HE.out]; rfl, hbV⟩
  all_goals
    rw [n1] at HC
    clear n1
    go_enter Tryz.func38, Tryz.ntmps38
    go_wp2_with fail
    rw [← hV]
    clear hV x0
    refine HC.mono ?_
    rintro _ w1 ⟨rfl, rfl⟩
    go_wp2_with fail
    clear HC
  · have HE : Hid (R = 6) := HRR.out.trans e1
    have HT : Hid (nm ∈ (s.acs.take i).map (·.id)) := hasT_iff.1 n2
    clear e1 n2
    go_loopw [6, 7] (fun ev jv wr => ∃ j : Nat, j ≤ i ∧ jv = .int .i64 j ∧ (ev = .int .i64 6 ∨ (ev = .int .i64 0 ∧ Hid (nm ∉ (s.acs.take j).map (·.id)))) ∧ Below w1.heap.size w1 wr) (fun _ jv _ => i - (intOf jv).toNat)
    case atStart => exact ⟨0, Nat.zero_le _, rfl, .inr ⟨rfl, fun h => by simp at h⟩, Below.refl _ _⟩
    case round =>
      rename World => wr
      obtain ⟨j, hj, rfl, hev, hbr⟩ := hrel
      rcases hev with rfl | ⟨rfl, HN⟩
      · by_cases hlt : j < i
        · have j1 : (j : Int) < (i : Int) := by omega
          go_wp2
          go_ret
          exact ⟨by rw [HE.out]; rfl, kqt hbV hbr⟩
        · have j1 : ¬ (j : Int) < (i : Int) := by omega
          go_wp2
          go_ret
          exact ⟨by rw [HE.out]; rfl, kqt hbV hbr⟩
      · by_cases hlt : j < i
        · have j1 : (j : Int) < (i : Int) := by omega
          have hjl : j < s.acs.length := by have := HI.out; omega
          have j2 : (j : Int) < (s.acs.length : Int) := by omega
          obtain ⟨b2, off2, _, _, _, _, _, _, e2, hbl2, _, g0, _⟩ := HKL.out.at hjl
          cases e2
          replace g0 := (hbr.cell (p := ⟨b, off + j * 4, none⟩) hbl2).trans g0
          have y0 : wr.cell? ⟨w.heap.size, 1, none⟩ = some (.slice (some ⟨b, off, none⟩) s.acs.length ca) := (HB0.out.up hbr).cell 1
          have y1 : wr.cell? ⟨w.heap.size + 1, 0, none⟩ = some (.string nm) := (HB1.out.up hbr).cell 0
          by_cases hq : s.acs[j].id = nm
          · rw [hq] at g0
            clear hq HN
            go_wp2_with fail
            go_region
            go_wp2
            go_roundw
            case rel => exact ⟨j + 1, by omega, by go_num, .inl rfl, kqt hbr kqx⟩
            case measure => simp [intOf]; omega
          · have HN2 : Hid (nm ∉ (s.acs.take (j + 1)).map (·.id)) := acf_next hjl HN.out hq
            have hq' := tl_neR hq
            clear hq HN
            generalize s.acs[j].id = z at *
            go_wp2_with fail
            go_region
            go_wp2
            go_roundw
            case rel => exact ⟨j + 1, by omega, by go_num, .inr ⟨rfl, HN2⟩, kqt hbr kqx⟩
            case measure => simp [intOf]; omega
        · exfalso
          have : j = i := by omega
          rw [this] at HN
          exact HN.out HT.out
  · have HE : Hid (R = orE (fuE (decide (6 < us.length ∨ 6 < vs.length))) (orE (nsf us) (orE (nsf vs) (rcf ty)))) := HRR.out.trans e1
    have HT : Hid (∀ (j : Nat) (h : j < s.acs.length), j < i → s.acs[j].id ≠ nm) := fun j h1 h2 e => by rw [acf_hit h1 h2 e] at n2; cases n2
    clear e1 n2
    go_loopw [6, 7] (fun ev jv wr => ∃ j : Nat, j ≤ i ∧ jv = .int .i64 j ∧ ev = .int .i64 0 ∧ Below w1.heap.size w1 wr) (fun _ jv _ => i - (intOf jv).toNat)
    case atStart => exact ⟨0, Nat.zero_le _, rfl, rfl, Below.refl _ _⟩
    case round =>
      rename World => wr
      obtain ⟨j, hj, rfl, rfl, hbr⟩ := hrel
      by_cases hlt : j < i
      · have j1 : (j : Int) < (i : Int) := by omega
        have hjl : j < s.acs.length := by have := HI.out; omega
        have j2 : (j : Int) < (s.acs.length : Int) := by omega
        obtain ⟨b2, off2, _, _, _, _, _, _, e2, hbl2, _, g0, _⟩ := HKL.out.at hjl
        cases e2
        replace g0 := (hbr.cell (p := ⟨b, off + j * 4, none⟩) hbl2).trans g0
        have y0 : wr.cell? ⟨w.heap.size, 1, none⟩ = some (.slice (some ⟨b, off, none⟩) s.acs.length ca) := (HB0.out.up hbr).cell 1
        have y1 : wr.cell? ⟨w.heap.size + 1, 0, none⟩ = some (.string nm) := (HB1.out.up hbr).cell 0
        have hq' := tl_neR (HT.out j hjl hlt)
        generalize s.acs[j].id = z at *
        go_wp2_with fail
        go_region
        go_wp2
        go_roundw
        case rel => exact ⟨j + 1, by omega, by go_num, rfl, kqt hbr kqx⟩
        case measure => simp [intOf]; omega
      · have j1 : ¬ (j : Int) < (i : Int) := by omega
        have x1 : wr.cell? ⟨w.heap.size + 1, 1, none⟩ = some (.slice p1 us.length d1) := (HB1.out.up hbr).cell 1
        have x2 : wr.cell? ⟨w.heap.size + 1, 2, none⟩ = some (.slice p2 vs.length d2) := (HB1.out.up hbr).cell 2
        have x3 : wr.cell? ⟨w.heap.size + 1, 3, none⟩ = some (.slice pt ty.length ct) := (HB1.out.up hbr).cell 3
        have HN := nameFaults_any us p1 d1 wr (HKV.out.us.up hbr)
        have HN2 := nameFaults_any vs p2 d2 wr (HKV.out.vs.up hbr)
        have HQ := recordFault_any ty pt ct wr (HKV.out.ty.up hbr)
        clear HT hlt
        by_cases h6 : 6 < us.length
        · have k1 : (6 : Int) < (us.length : Int) := by omega
          have HR : Hid (R = 4) := by show _ = _; rw [HE.out, decide_eq_true (Or.inl h6)]; rfl
          clear h6 HN HN2 HQ
          go_wp2
          go_ret
          exact ⟨by rw [HR.out]; rfl, kqt hbV hbr⟩
        have k1 : ¬ (6 : Int) < (us.length : Int) := by omega
        by_cases h7 : 6 < vs.length
        · have k2 : (6 : Int) < (vs.length : Int) := by omega
          have HR : Hid (R = 4) := by show _ = _; rw [HE.out, decide_eq_true (Or.inr h7)]; rfl
          clear h6 h7 HN HN2 HQ
          go_wp2
          go_ret
          exact ⟨by rw [HR.out]; rfl, kqt hbV hbr⟩
        have k2 : ¬ (6 : Int) < (vs.length : Int) := by omega
        have HE2 : Hid (R = orE (nsf us) (orE (nsf vs) (rcf ty))) := by show _ = _; rw [HE.out, decide_eq_false (fun h => h.elim h6 h7)]; rfl
        clear h6 h7 HE
        by_cases h0 : nsf us = 0
        · rw [h0] at HN
          by_cases h1 : nsf vs = 0
          · rw [h1] at HN2
            have HR : Hid (R = rcf ty) := by show _ = _; rw [HE2.out, orE_r h0, orE_r h1]
            clear h0 h1 HE2
            generalize rcf ty = n at *
            go_wp2_with fail
            refine HN.mono ?_
            rintro _ w2 ⟨rfl, rfl⟩
            go_wp2_with fail
            refine HN2.mono ?_
            rintro _ w2 ⟨rfl, rfl⟩
            go_wp2_with fail
            refine HQ.mono ?_
            rintro _ w3 ⟨rfl, hb3⟩
            go_wp2
            go_ret
            exact ⟨by rw [HR.out]; rfl, kqt hbV (kqt hbr hb3)⟩
          · have HR : Hid (R = nsf vs) := by show _ = _; rw [HE2.out, orE_r h0, orE_l h1]
            have e3 : (nsf vs == 0) = false := by simpa using h1
            clear h0 h1 HE2 HQ
            generalize nsf vs = n at *
            go_wp2_with fail
            refine HN.mono ?_
            rintro _ w2 ⟨rfl, rfl⟩
            go_wp2_with fail
            refine HN2.mono ?_
            rintro _ w2 ⟨rfl, rfl⟩
            go_wp2
            go_ret
            exact ⟨by rw [HR.out]; rfl, kqt hbV hbr⟩
        · have HR : Hid (R = nsf us) := by show _ = _; rw [HE2.out, orE_l h0]
          have e3 : (nsf us == 0) = false := by simpa using h0
          clear h0 HE2 HQ HN2
          generalize nsf us = n at *
          go_wp2_with fail
          refine HN.mono ?_
          rintro _ w2 ⟨rfl, rfl⟩
          go_wp2
          go_ret
          exact ⟨by rw [HR.out]; rfl, kqt hbV hbr⟩
end Go.Proofs.YtpcikfpldmackaaGreatDoor
