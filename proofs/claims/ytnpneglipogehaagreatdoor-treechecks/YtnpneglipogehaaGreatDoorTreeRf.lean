/- The document's Reserved and Fields: by walks of their own texts. -/
import Derived.Test.YtnpneglipogehaaGreatDoorTreeRp
import Derived.Test.YtnpneglipogehaaGreatDoorValNode
namespace Go.Proofs.YtnpneglipogehaaGreatDoor
open Go.RowKit
set_option linter.unusedVariables false

set_option maxHeartbeats 1000000 in
theorem reserved_any (s : ByteArray) (w : World) :
    Calls Tryz.prog 29 #[.string s] w fun e w' => e = .returned (.bool (rsv s.data.toList)) ∧ w' = w := by
  go_enter Tryz.func29, Tryz.ntmps29
  go_wp2
  all_goals
    go_ret
    refine ⟨ret_bl ?_, rfl⟩
    simp_all [rsv, ByteArray.toList_eq]

theorem tail_byte (s : ByteArray) : (s.extract 1 s.size).data.toList = s.data.toList.tail := by
  simp [List.take_of_length_le]

/-- Fields, of a node that is no value's: the tests that decide it. -/
theorem exOk_off {x : Nd} (h : ¬ (1 ≤ x.op ∧ x.op ≤ 7)) (hp : prt x < 0) : exOk x = false := by unfold exOk; rw [if_neg h, if_pos hp]
theorem exOk_n {x : Nd} (h : ¬ (1 ≤ x.op ∧ x.op ≤ 7)) (hn : x.n ≠ 0) : exOk x = false := by
  unfold exOk
  rw [if_neg h]
  split
  · rfl
  · have : (x.n == 0) = false := by simpa using hn
    rw [this]; rfl
theorem exOk_t {x : Nd} (h : ¬ (1 ≤ x.op ∧ x.op ≤ 7)) (ht : x.t.data.toList.isEmpty = false) : exOk x = false := by
  unfold exOk
  rw [if_neg h]
  split
  · rfl
  · rw [ht]; simp
theorem exOk_on {x : Nd} (h : ¬ (1 ≤ x.op ∧ x.op ≤ 7)) (hp : ¬ prt x < 0) (hn : x.n = 0) (ht : x.t.data.toList.isEmpty = true) : exOk x =
    (if x.op = 8 then varOk x.s.data.toList else if x.op = 21 ∨ x.op = 22 ∨ x.op = 24 then nfault x.s.data.toList == 0 else if x.op = 23 then textOk x.s.data.toList else x.s.data.toList.isEmpty) := by
  unfold exOk
  rw [if_neg h, if_neg hp, hn, ht]
  rfl

theorem boxf {w w' : World} {x : Nd} {T : TypeId} (hb : Below (w.alloc (.cells #[.int .i64 x.op, .int .i64 x.n, .string x.s, .string x.t] T)).heap.size (w.alloc (.cells #[.int .i64 x.op, .int .i64 x.n, .string x.s, .string x.t] T)) w') :
    w'.cell? ⟨w.heap.size, 0, none⟩ = some (.int .i64 x.op) ∧ w'.cell? ⟨w.heap.size, 1, none⟩ = some (.int .i64 x.n) ∧ w'.cell? ⟨w.heap.size, 2, none⟩ = some (.string x.s) ∧ w'.cell? ⟨w.heap.size, 3, none⟩ = some (.string x.t) ∧ Below w.heap.size w w' := by
  refine ⟨?_, ?_, ?_, ?_, ((Below.refl _ _).alloc (Nat.le_refl _) _).trans (hb.mono (by simp))⟩
  · exact (hb.cell (p := ⟨w.heap.size, 0, none⟩) (by simp)).trans (by simp [go_sem])
  · exact (hb.cell (p := ⟨w.heap.size, 1, none⟩) (by simp)).trans (by simp [go_sem])
  · exact (hb.cell (p := ⟨w.heap.size, 2, none⟩) (by simp)).trans (by simp [go_sem])
  · exact (hb.cell (p := ⟨w.heap.size, 3, none⟩) (by simp)).trans (by simp [go_sem])

set_option maxRecDepth 100000 in
set_option maxHeartbeats 2000000 in
theorem refFields_any (x : Nd) (w : World) (hx : x.wf) :
    Calls Tryz.prog 18 #[x.val] w fun e w' => e = .returned (.bool (exOk x)) ∧ Below w.heap.size w w' := by
  have HB : Hid (∀ w', _ → _) := fun w' => boxf (w := w) (w' := w') (x := x) (T := 28)
  by_cases h : 1 ≤ x.op ∧ x.op ≤ 7
  · have HX : Hid (exOk x = ndOk x) := by show _ = _; unfold exOk; rw [if_pos h]
    have HV := fun w => valueNode_any x w hx
    rw [← HX.out] at HV
    generalize exOk x = r at *
    obtain ⟨op, n, s, t⟩ := x
    unfold Nd.val at *
    obtain ⟨h1, h2⟩ := h
    simp only at h1 h2 HB
    go_enter Tryz.func18, Tryz.ntmps18
    go_wp2_with fail
    refine (HV _).mono ?_
    rintro e w1 ⟨rfl, hb⟩
    obtain ⟨_, _, _, _, hb1⟩ := HB.out _ hb
    go_wp2
    go_ret
    exact ⟨rfl, hb1⟩
  · have HP := fun w => refPrt_any x w
    have hor : x.op < 1 ∨ 7 < x.op := by omega
    have e0 : (1 ≤ x.op ∧ ¬ x.op ≤ 7) ∨ ¬ 1 ≤ x.op := by omega
    by_cases hp : prt x < 0
    · have HX : Hid (_ = _) := exOk_off h hp
      generalize exOk x = r at *
      generalize prt x = pr at *
      obtain ⟨op, n, s, t⟩ := x
      unfold Nd.val at *
      simp only at e0 HB
      clear h hor
      rcases e0 with ⟨h1, h2⟩ | h1
      all_goals
        go_enter Tryz.func18, Tryz.ntmps18
        go_wp2_with fail
        refine (HP _).mono ?_
        rintro e w1 ⟨rfl, hb⟩
        obtain ⟨_, _, _, _, hb1⟩ := HB.out _ hb
        go_wp2
        go_ret
        exact ⟨by rw [HX.out]; rfl, hb1⟩
    · have h1 : 1 ≤ x.op := by
        refine Decidable.byContradiction fun hc => hp ?_
        unfold prt
        rw [if_neg (by omega), if_neg (by omega), if_neg (by omega), if_neg (by omega), if_neg (by omega)]; omega
      have h2 : ¬ x.op ≤ 7 := by omega
      clear hor e0
      by_cases hn : x.n = 0
      · have et : ((x.t.toList == []) = x.t.data.toList.isEmpty) := by rw [ByteArray.toList_eq]; cases x.t.data.toList <;> rfl
        have es : ((x.s.toList == []) = x.s.data.toList.isEmpty) := by rw [ByteArray.toList_eq]; cases x.s.data.toList <;> rfl
        cases ht : x.t.data.toList.isEmpty
        · have HX : Hid (_ = _) := exOk_t h ht
          rw [ht] at et
          generalize exOk x = r at *
          generalize prt x = pr at *
          obtain ⟨op, n, s, t⟩ := x
          unfold Nd.val at *
          simp only at h1 h2 HB hn et
          subst hn
          clear h ht es
          go_enter Tryz.func18, Tryz.ntmps18
          go_wp2_with fail
          refine (HP _).mono ?_
          rintro e w1 ⟨rfl, hb⟩
          obtain ⟨c0, c1, c2, c3, hb1⟩ := HB.out _ hb
          go_wp2
          go_ret
          exact ⟨by rw [HX.out]; rfl, hb1⟩
        · have HX : Hid (_ = _) := exOk_on h hp hn ht
          rw [ht] at et
          have HN := fun w => nameFault_any x.s w hx.1
          have HT := fun w => textFault_any x.s w hx.1
          generalize exOk x = r at *
          generalize prt x = pr at *
          obtain ⟨op, n, s, t⟩ := x
          unfold Nd.val at *
          simp only at h1 h2 HB hn et es HX HN HT
          subst hn
          clear h ht
          by_cases h8 : op = 8
          · rw [if_pos h8] at HX
            subst h8
            have hl : s.data.toList.length = s.size := by simp
            by_cases h63 : s.data.toList.head? = some 63
            · have hpos : 0 < s.size := by
                cases e : s.data.toList with
                | nil => rw [e] at h63; cases h63
                | cons a l => rw [e] at hl; simp at hl; omega
              have hp0 : (0 : Int) < (s.size : Int) := by omega
              have hp1 : (1 : Int) ≤ (s.size : Int) := by omega
              have hb63 : ((s[0].toNat : Int) == 63) = true := by
                have : s.data.toList.head? = some s[0] := by
                  rw [List.head?_eq_getElem?, List.getElem?_eq_getElem (by omega)]; rfl
                rw [this] at h63
                have := Option.some.inj h63
                rw [this]; rfl
              have HX2 : Hid (r = (nfault (s.extract 1 s.size).data.toList == 0)) := by
                rw [HX.out]; show _ = _
                unfold varOk; rw [if_pos h63, tail_byte]
              have HN2 := fun w => nameFault_any (s.extract 1 s.size) w (Nat.le_trans (by simp) hx.1)
              clear HX h63 HN HT hl
              generalize nfault (s.extract 1 s.size).data.toList = nf at HN2 HX2
              go_enter Tryz.func18, Tryz.ntmps18
              go_wp2_with fail
              refine (HP _).mono ?_
              rintro e w1 ⟨rfl, hb⟩
              obtain ⟨c0, c1, c2, c3, hb1⟩ := HB.out _ hb
              go_wp2_with fail
              refine (HN2 _).mono ?_
              rintro e w2 ⟨rfl, rfl⟩
              go_wp2
              go_ret
              exact ⟨by rw [HX2.out]; rfl, hb1⟩
            · have HX2 : Hid (r = (nfault s.data.toList == 0 && !rsv s.data.toList)) := by
                rw [HX.out]; show _ = _
                unfold varOk; rw [if_neg h63]
              have HR := fun w => reserved_any s w
              generalize rsv s.data.toList = rv at *
              generalize hz : (nfault s.data.toList == 0) = z at *
              have hcase : ¬ (0 : Int) < (s.size : Int) ∨ ((0 : Int) < (s.size : Int) ∧ ∃ h : 0 < s.size, ((s[0].toNat : Int) == 63) = false) := by
                by_cases h0 : 0 < s.size
                · refine .inr ⟨by omega, h0, ?_⟩
                  have : s.data.toList.head? = some s[0] := by
                    rw [List.head?_eq_getElem?, List.getElem?_eq_getElem (by omega)]; rfl
                  rw [this] at h63
                  rw [beq_eq_false_iff_ne]
                  intro e
                  apply h63
                  congr 1
                  apply UInt8.toNat_inj.1
                  have e' : s[0].toNat = 63 := by omega
                  rw [e']; rfl
                · exact .inl (by omega)
              clear HX h63 HT hl
              generalize nfault s.data.toList = nf at *
              rcases hcase with hc | ⟨hc, hc0, hc1⟩
              all_goals
                cases z
                · go_enter Tryz.func18, Tryz.ntmps18
                  go_wp2_with fail
                  refine (HP _).mono ?_
                  rintro e w1 ⟨rfl, hb⟩
                  obtain ⟨c0, c1, c2, c3, hb1⟩ := HB.out _ hb
                  go_wp2_with fail
                  refine (HN _).mono ?_
                  rintro e w2 ⟨rfl, rfl⟩
                  go_wp2
                  go_ret
                  exact ⟨by rw [HX2.out]; rfl, hb1⟩
                · go_enter Tryz.func18, Tryz.ntmps18
                  go_wp2_with fail
                  refine (HP _).mono ?_
                  rintro e w1 ⟨rfl, hb⟩
                  obtain ⟨c0, c1, c2, c3, hb1⟩ := HB.out _ hb
                  go_wp2_with fail
                  refine (HN _).mono ?_
                  rintro e w2 ⟨rfl, rfl⟩
                  go_wp2_with fail
                  refine (HR _).mono ?_
                  rintro e w2 ⟨rfl, rfl⟩
                  go_wp2
                  go_ret
                  exact ⟨by rw [HX2.out]; rfl, hb1⟩
          · rw [if_neg h8] at HX
            have e8 : (op == 8) = false := by simpa using h8
            by_cases hnm : op = 21 ∨ op = 22 ∨ op = 24
            · rw [if_pos hnm] at HX
              rcases hnm with rfl | rfl | rfl
              all_goals
                go_enter Tryz.func18, Tryz.ntmps18
                go_wp2_with fail
                refine (HP _).mono ?_
                rintro e w1 ⟨rfl, hb⟩
                obtain ⟨c0, c1, c2, c3, hb1⟩ := HB.out _ hb
                go_wp2_with fail
                refine (HN _).mono ?_
                rintro e w2 ⟨rfl, rfl⟩
                go_wp2
                go_ret
                exact ⟨by rw [HX.out]; rfl, hb1⟩
            · rw [if_neg hnm] at HX
              have e21 : (op == 21) = false := by simp; omega
              have e22 : (op == 22) = false := by simp; omega
              have e24 : (op == 24) = false := by simp; omega
              by_cases h23 : op = 23
              · rw [if_pos h23] at HX
                subst h23
                have hz := tfault_zero s.data.toList
                clear e21 e22 e24 e8
                go_enter Tryz.func18, Tryz.ntmps18
                go_wp2_with fail
                refine (HP _).mono ?_
                rintro e w1 ⟨rfl, hb⟩
                obtain ⟨c0, c1, c2, c3, hb1⟩ := HB.out _ hb
                go_wp2_with fail
                refine (HT _).mono ?_
                rintro e w2 ⟨rfl, rfl⟩
                go_wp2
                go_ret
                exact ⟨by rw [HX.out]; rfl, hb1⟩
              · rw [if_neg h23, ← ByteArray.toList_eq] at HX
                have e23 : (op == 23) = false := by simpa using h23
                clear h8 hnm h23 es
                go_enter Tryz.func18, Tryz.ntmps18
                go_wp2_with fail
                refine (HP _).mono ?_
                rintro e w1 ⟨rfl, hb⟩
                obtain ⟨c0, c1, c2, c3, hb1⟩ := HB.out _ hb
                go_wp2
                go_ret
                exact ⟨by rw [HX.out]; rfl, hb1⟩
      · have HX : Hid (_ = _) := exOk_n h hn
        generalize exOk x = r at *
        generalize prt x = pr at *
        obtain ⟨op, n, s, t⟩ := x
        unfold Nd.val at *
        simp only at h1 h2 HB hn
        have hn1 : (n != 0) = true := by simpa using hn
        clear h hn
        go_enter Tryz.func18, Tryz.ntmps18
        go_wp2_with fail
        refine (HP _).mono ?_
        rintro e w1 ⟨rfl, hb⟩
        obtain ⟨c0, c1, c2, c3, hb1⟩ := HB.out _ hb
        go_wp2
        go_ret
        exact ⟨by rw [HX.out]; rfl, hb1⟩
end Go.Proofs.YtnpneglipogehaaGreatDoor
