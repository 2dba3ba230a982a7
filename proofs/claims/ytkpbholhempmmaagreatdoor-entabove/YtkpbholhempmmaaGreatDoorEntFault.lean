/- The document's entityFault, StoreFault: by walks of their own texts. -/
import Derived.Test.YtkpbholhempmmaaGreatDoorEntRef
import Derived.Test.YtkpbholhempmmaaGreatDoorEntStore
import Derived.Test.YtkpbholhempmmaaGreatDoorValFault
import Derived.Test.YtkpbholhempmmaaGreatDoorTextRef
namespace Go.Proofs.YtkpbholhempmmaaGreatDoor
open Go.RowKit Go.Maps Go.WideMaps
set_option linter.unusedVariables false
set_option linter.unusedSimpArgs false

theorem uidF_any (u : Ui) (w : World) (h : UOk u) : Calls Tryz.prog 14 #[.agg #[.string u.t, .string u.i]] w fun e w' => e = .returned (.int .i64 (uf u)) ∧ Below w.heap.size w w' := uidFault_any u.t u.i w h.1 h.2

theorem upf_bad {seen : List Ui} {x : Ui} {r : List Ui} (h : uf x ≠ 0) : upf seen (x :: r) = uf x := by unfold upf; rw [if_neg h]
theorem upf_twice {seen : List Ui} {x : Ui} {r : List Ui} (h : uf x = 0) (k : x ∈ seen) : upf seen (x :: r) = 6 := by unfold upf; rw [if_pos h, if_pos k]
theorem upf_next {seen : List Ui} {x : Ui} {r : List Ui} (h : uf x = 0) (k : x ∉ seen) : upf seen (x :: r) = upf (seen ++ [x]) r := by conv => lhs; unfold upf; rw [if_pos h, if_neg k]

set_option maxRecDepth 100000 in
set_option maxHeartbeats 8000000 in
theorem entityFault_any (e : En) (pu : Option Addr) (cu : Nat) (pa : Option Addr) (ca : Nat) (w : World) (hUL : UL w pu e.up) (hNL : NL w pa e.nd) (hou : ∀ x ∈ e.up, UOk x) (hn1 : e.nd.length ≤ ca) (hn2 : ca ≤ maxLen) :
    Calls Tryz.prog 15 #[.agg #[.string e.u.t, .string e.u.i, .slice pu e.up.length cu, .slice pa e.nd.length ca]] w fun er w' => er = .returned (.int .i64 (efault e)) ∧ Below w.heap.size w w' := by
  have hbx := (Below.refl w.heap.size w).alloc (Nat.le_refl _) (.cells #[.string e.u.t, .string e.u.i, .slice pu e.up.length cu, .slice pa e.nd.length ca] 33)
  have hq : ∀ w', Below (w.alloc (.cells #[.string e.u.t, .string e.u.i, .slice pu e.up.length cu, .slice pa e.nd.length ca] 33)).heap.size (w.alloc (.cells #[.string e.u.t, .string e.u.i, .slice pu e.up.length cu, .slice pa e.nd.length ca] 33)) w' → w'.cell? ⟨w.heap.size, 2, none⟩ = some (.slice pu e.up.length cu) ∧ w'.cell? ⟨w.heap.size, 3, none⟩ = some (.slice pa e.nd.length ca) ∧ Below w.heap.size w w' := fun w' k =>
    ⟨(k.cell (p := ⟨w.heap.size, 2, none⟩) (by simp)).trans (by simp), (k.cell (p := ⟨w.heap.size, 3, none⟩) (by simp)).trans (by simp), hbx.trans (k.mono hbx.size)⟩
  have HQ : Hid (∀ _, _) := hq
  have HBX : Hid (Below w.heap.size w _) := hbx
  clear hq hbx
  by_cases h6 : 6 < e.up.length
  · have h' : (6 : Int) < (e.up.length : Int) := by omega
    have HE : Hid (efault e = 4) := by
      show _ = _
      have : ffup e.up = 4 := if_pos h6
      unfold efault; rw [this]; rfl
    go_enter Tryz.func15, Tryz.ntmps15
    go_wp2_with fail
    go_ret
    exact ⟨by rw [HE.out]; rfl, HBX.out⟩
  · have h' : ¬ (6 : Int) < (e.up.length : Int) := by omega
    have HU : Hid (UL w pu e.up) := hUL
    have HN : Hid (NL w pa e.nd) := hNL
    have HO : Hid (∀ x ∈ e.up, UOk x) := hou
    have HF : Hid (ffup e.up = upf [] e.up) := if_neg h6
    have HE : Hid (efault e = if ffup e.up = 0 then afault e.nd else ffup e.up) := rfl
    clear hUL hNL hou
    generalize hl : e.up = l at *
    generalize hv : e.nd = v at *
    clear hl hv
    generalize hZ : upf [] l = Z at HF
    have HZ : Hid (upf (l.take 0) (l.drop 0) = Z) := hZ
    clear hZ
    go_enter Tryz.func15, Tryz.ntmps15
    go_wp2_with fail
    go_loopw [3] (fun iv wr => ∃ i : Nat, i ≤ l.length ∧ iv = .int .i64 i ∧ Hid (upf (l.take i) (l.drop i) = Z) ∧ Hid (Below (w.alloc (.cells #[.string e.u.t, .string e.u.i, .slice pu l.length cu, .slice pa v.length ca] 33)).heap.size (w.alloc (.cells #[.string e.u.t, .string e.u.i, .slice pu l.length cu, .slice pa v.length ca] 33)) wr)) (fun iv _ => l.length - (intOf iv).toNat)
    case atStart => exact ⟨0, Nat.zero_le _, rfl, HZ, Below.refl _ _⟩
    case round =>
      obtain ⟨i, hi, rfl, HR, HB⟩ := hrel
      obtain ⟨e2, e3, hbw⟩ := HQ.out _ HB.out
      by_cases hlt : i < l.length
      · have i1 : (i : Int) < (l.length : Int) := by omega
        obtain ⟨b, off, rfl, hbl, g0, g1⟩ := HU.out.at hlt
        have HG : Hid (∀ w', Below w.heap.size w w' → w'.cell? ⟨b, off + i * 2, none⟩ = some (.string l[i].t) ∧ w'.cell? ⟨b, off + i * 2 + 1, none⟩ = some (.string l[i].i)) := fun w' k => ⟨(k.cell (p := ⟨b, off + i * 2, none⟩) hbl).trans g0, (k.cell (p := ⟨b, off + i * 2 + 1, none⟩) hbl).trans g1⟩
        obtain ⟨x0, x1⟩ := HG.out _ hbw
        have hox := HO.out _ (List.getElem_mem hlt)
        have HD : Hid (l.drop i = l[i] :: l.drop (i + 1)) := List.drop_eq_getElem_cons hlt
        have HT : Hid (l.take (i + 1) = l.take i ++ [l[i]]) := List.take_succ_eq_append_getElem hlt
        generalize l[i] = x at *
        clear hbw g0 g1
        by_cases h0 : uf x = 0
        · have HX0 : Hid (uf x = 0) := h0
          have h0' : (uf x != 0) = false := by simp [h0]
          clear h0
          go_wp2_with fail
          refine (uidF_any x _ hox).mono ?_
          rintro er w1 ⟨rfl, hb1⟩
          replace HB : Hid (Below _ _ w1) := HB.out.trans (hb1.mono HB.out.size)
          clear hb1 e2 e3 x0 x1
          rw [HX0.out]
          go_wp2_with fail
          go_loopw [5] (fun jv wr => ∃ j : Nat, j ≤ i ∧ jv = .int .i64 j ∧ Hid (x ∉ l.take j) ∧ Hid (Below (w.alloc (.cells #[.string e.u.t, .string e.u.i, .slice (some ⟨b, off, none⟩) l.length cu, .slice pa v.length ca] 33)).heap.size (w.alloc (.cells #[.string e.u.t, .string e.u.i, .slice (some ⟨b, off, none⟩) l.length cu, .slice pa v.length ca] 33)) wr)) (fun jv _ => i - (intOf jv).toNat)
          case atStart => exact ⟨0, Nat.zero_le _, rfl, by simp [Hid], HB⟩
          case round =>
            obtain ⟨j, hj, rfl, HNI, HB⟩ := hrel
            obtain ⟨e2, e3, hbw⟩ := HQ.out _ HB.out
            by_cases hlt2 : j < i
            · have i2 : (j : Int) < (i : Int) := by omega
              have i3 : (j : Int) < (l.length : Int) := by omega
              obtain ⟨x0, x1⟩ := HG.out _ hbw
              obtain ⟨b', off', hpe, hbl', y0, y1⟩ := (HU.out.up hbw).at (show j < l.length by omega)
              simp at hpe
              obtain ⟨rfl, rfl⟩ := hpe
              have HM : Hid (l[j] ∈ l.take i) := List.mem_take_iff_getElem.2 ⟨j, by omega, rfl⟩
              have HT2 : Hid (l.take (j + 1) = l.take j ++ [l[j]]) := List.take_succ_eq_append_getElem (by omega)
              generalize l[j]'(by omega) = y at *
              clear hbw
              rcases uid_cases y x with rfl | ⟨hne, ht⟩ | ⟨hne, ii, rfl, ht⟩
              · have HRZ : Hid (6 = Z) := by
                  have h := HR.out
                  rw [HD.out, upf_twice HX0.out HM.out] at h
                  exact h
                go_wp2_with fail
                go_quiet (fail)
                go_wp2_with fail
                go_ret
                refine ⟨by rw [HE.out, HF.out, ← HRZ.out]; rfl, (HQ.out _ (belD HB.out _)).2.2⟩
              · have HN2 : Hid (x ∉ l.take (j + 1)) := by
                  show _ ∉ _
                  rw [HT2.out]
                  intro q
                  rcases List.mem_append.1 q with q | q
                  · exact HNI.out q
                  · exact hne (List.mem_singleton.1 q).symm
                clear hne
                go_wp2_with fail
                go_quiet (fail)
                go_wp2_with fail
                go_roundw
                case rel => exact ⟨j + 1, by omega, by go_num, HN2, belD HB.out _⟩
                case measure => simp [intOf]; omega
              · have HN2 : Hid (x ∉ l.take (j + 1)) := by
                  show _ ∉ _
                  rw [HT2.out]
                  intro q
                  rcases List.mem_append.1 q with q | q
                  · exact HNI.out q
                  · exact hne (List.mem_singleton.1 q).symm
                clear hne
                simp only at y0 y1
                go_wp2_with fail
                go_quiet (fail)
                go_wp2_with fail
                go_roundw
                case rel => exact ⟨j + 1, by omega, by go_num, HN2, belD HB.out _⟩
                case measure => simp [intOf]; omega
            · obtain rfl : j = i := by omega
              have i2 : ¬ (j : Int) < (j : Int) := by omega
              have HRZ : Hid (upf (l.take (j + 1)) (l.drop (j + 1)) = Z) := by
                have h := HR.out
                rw [HD.out, upf_next HX0.out HNI.out] at h
                show _ = _
                rw [HT.out]
                exact h
              clear hbw
              go_wp2_with fail
              go_roundw
              case rel => exact ⟨j + 1, by omega, by go_num, HRZ, HB⟩
              case measure => simp [intOf]; omega
        · have HX0 : Hid (uf x ≠ 0) := h0
          have h0' : (uf x != 0) = true := by simp [h0]
          have HRZ : Hid (uf x = Z) := by
            have h := HR.out
            rw [HD.out, upf_bad h0] at h
            exact h
          clear h0
          go_wp2_with fail
          refine (uidF_any x _ hox).mono ?_
          rintro er w1 ⟨rfl, hb1⟩
          replace HB : Hid (Below _ _ w1) := HB.out.trans (hb1.mono HB.out.size)
          go_wp2_with fail
          go_ret
          refine ⟨?_, (HQ.out _ HB.out).2.2⟩
          rw [HE.out, HF.out, if_neg (by rw [← HRZ.out]; exact HX0.out), ← HRZ.out]
          rfl
      · obtain rfl : i = l.length := by omega
        have i1 : ¬ (l.length : Int) < (l.length : Int) := by omega
        have HZ0 : Hid (Z = 0) := by have h := HR.out; rw [List.drop_length] at h; exact h.symm
        have HE2 : Hid (efault e = afault v) := by show _ = _; rw [HE.out, HF.out, if_pos HZ0.out]
        have HBW : Hid (Below w.heap.size w _) := hbw
        clear hbw
        by_cases hv0 : vfault v = 0
        · cases v with
          | nil => exact absurd hv0 vfault_nil
          | cons y r =>
            have hv0' : (vfault (y :: r) == 0) = true := by simp [hv0]
            have HV0 : Hid (vfault (y :: r) = 0) := hv0
            have hl1 : (0 : Int) < ((r.length + 1 : Nat) : Int) := by omega
            obtain ⟨b, off, rfl, hbl, c0, _⟩ := HN.out.at (i := 0) (by simp)
            have HC : Hid (∀ w', Below w.heap.size w w' → w'.cell? ⟨b, off, none⟩ = some (.int .i64 y.op)) := fun w' k => (k.cell (p := ⟨b, off, none⟩) hbl).trans (by simpa using c0)
            have HA : Hid (afault (y :: r) = if y.op = 6 then 0 else 2) := by show _ = _; unfold afault; rw [if_pos hv0]
            clear hv0 c0 hv0'
            by_cases hy6 : y.op = 6
            · have hy6' : (y.op != 6) = false := by simp [hy6]
              have HA2 : Hid (efault e = 0) := by show _ = _; rw [HE2.out, HA.out, if_pos hy6]
              clear hy6
              go_wp2_with fail
              refine (valueFault_any (y :: r) _ ca _ (HN.out.up HBW.out) hn1 hn2).mono ?_
              rintro er w1 ⟨rfl, hb1⟩
              replace HB : Hid (Below _ _ w1) := HB.out.trans (hb1.mono HB.out.size)
              obtain ⟨f2, f3, hbw1⟩ := HQ.out _ HB.out
              have hc0 := HC.out _ hbw1
              have HBW1 : Hid (Below w.heap.size w w1) := hbw1
              clear hb1 hbw1 e2 e3
              rw [HV0.out]
              go_wp2_with fail
              go_ret
              exact ⟨by rw [HA2.out]; rfl, HBW1.out⟩
            · have hy6' : (y.op != 6) = true := by simp [hy6]
              have HA2 : Hid (efault e = 2) := by show _ = _; rw [HE2.out, HA.out, if_neg hy6]
              clear hy6
              go_wp2_with fail
              refine (valueFault_any (y :: r) _ ca _ (HN.out.up HBW.out) hn1 hn2).mono ?_
              rintro er w1 ⟨rfl, hb1⟩
              replace HB : Hid (Below _ _ w1) := HB.out.trans (hb1.mono HB.out.size)
              obtain ⟨f2, f3, hbw1⟩ := HQ.out _ HB.out
              have hc0 := HC.out _ hbw1
              have HBW1 : Hid (Below w.heap.size w w1) := hbw1
              clear hb1 hbw1 e2 e3
              rw [HV0.out]
              go_wp2_with fail
              go_ret
              exact ⟨by rw [HA2.out]; rfl, HBW1.out⟩
        · have hv0' : (vfault v == 0) = false := by simp [hv0]
          have HA2 : Hid (efault e = vfault v) := by show _ = _; rw [HE2.out]; exact if_neg hv0
          clear hv0
          go_wp2_with fail
          refine (valueFault_any v _ ca _ (HN.out.up HBW.out) hn1 hn2).mono ?_
          rintro er w1 ⟨rfl, hb1⟩
          have HBW1 : Hid (Below w.heap.size w w1) := HBW.out.trans (hb1.mono HBW.out.size)
          go_wp2_with fail
          go_ret
          exact ⟨by rw [HA2.out]; rfl, HBW1.out⟩
end Go.Proofs.YtkpbholhempmmaaGreatDoor
