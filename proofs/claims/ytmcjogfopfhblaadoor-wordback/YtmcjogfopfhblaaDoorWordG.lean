/- Package word's firstSign and first, by walks of their own texts. -/
import Derived.Test.YtmcjogfopfhblaaDoorWordF
namespace Go.Proofs.YtmcjogfopfhblaaDoor
open Go.RowKit
set_option linter.unusedVariables false

/-- A token that was laid stands behind a callee as it was laid. -/
theorem tok_kept {w w1 : World} (hb : Below (w.alloc (.cells #[.int .i64 0, .string ⟨#[]⟩, .int .i64 0] 36)).heap.size (w.alloc (.cells #[.int .i64 0, .string ⟨#[]⟩, .int .i64 0] 36)) w1) :
    w1.cell? ⟨w.heap.size, 0, none⟩ = some (.int .i64 0) ∧ w1.cell? ⟨w.heap.size, 1, none⟩ = some (.string ⟨#[]⟩) ∧ w1.cell? ⟨w.heap.size, 2, none⟩ = some (.int .i64 0) ∧
    w1.frozen? ⟨w.heap.size, 0, none⟩ = false ∧ w1.frozen? ⟨w.heap.size, 1, none⟩ = false ∧ w1.frozen? ⟨w.heap.size, 2, none⟩ = false ∧ Below w.heap.size w w1 := by
  have q0 : ∀ o, w1.cell? ⟨w.heap.size, o, none⟩ = _ := fun o => hb.cell (p := ⟨w.heap.size, o, none⟩) (by simp)
  have qf : ∀ o, w1.frozen? ⟨w.heap.size, o, none⟩ = _ := fun o => hb.frozen (p := ⟨w.heap.size, o, none⟩) (by simp)
  exact ⟨(q0 0).trans (by simp [go_sem]), (q0 1).trans (by simp [go_sem]), (q0 2).trans (by simp [go_sem]), (qf 0).trans (by simp [go_sem]), (qf 1).trans (by simp [go_sem]), (qf 2).trans (by simp [go_sem]),
    ((Below.refl _ _).alloc (Nat.le_refl _) _).trans (hb.mono (by simp))⟩

theorem any_one (s : ByteArray) (h : 0 < s.size) : (s.data.toList.take 1).any (fun c => shorts.contains c) = shorts.contains s[0] := by
  have : s.data.toList.take 1 = [s[0]] := by
    have := take_snoc s 0 h
    simpa using this
  rw [this]; simp
theorem idx_short (c : UInt8) : decide (0 ≤ Lib.indexByte (⟨#[40, 41, 91, 93, 123, 125, 44, 58, 46, 60, 33, 43, 45, 42]⟩ : ByteArray).data.toList c) = shorts.contains c := idx_has shorts c

set_option maxHeartbeats 1000000 in
theorem firstSign_any (s : ByteArray) (w : World) (h1 : 0 < s.size) (hs : s.size ≤ 900) :
    Calls Tryd.prog 40 #[.string s] w fun e w' => e = endW (wSign s.data.toList) ∧ Below w.heap.size w w' := by
  have hl : s.data.toList.length = s.size := by simp
  have hone := any_one s h1
  have HI : Hid (_ = _) := idx_short s[0]
  have i1 : (0 : Int) < (s.size : Int) := by omega
  by_cases h2 : s.size = 1
  · have hmin : min (2 : Int) (s.size : Int) = 1 := by omega
    have htwo : two (s.data.toList.take 2) = false := by
      cases e : two (s.data.toList.take 2) with
      | false => rfl
      | true => have := two_len e; omega
    have hxl : (s.extract 0 1).toList.length = 1 := by rw [ByteArray.toList_eq, head_take, List.length_take]; omega
    have ne : ∀ a b : UInt8, ((s.extract 0 1).toList == [a, b]) = false := by
      intro a b
      cases e : ((s.extract 0 1).toList == [a, b]) with
      | false => rfl
      | true => rw [beq_iff_eq.1 e] at hxl; simp at hxl
    have b1 := ne 58 58
    have b2 := ne 61 61
    have b3 := ne 60 61
    have b4 := ne 38 38
    have b5 := ne 124 124
    clear ne h2 hxl
    cases hsh : shorts.contains s[0]
    · have HW : Hid (wSign s.data.toList = .error 1) := by
        show _ = _
        unfold wSign; rw [htwo, hone, hsh]; rfl
      clear htwo hone
      rw [hsh] at HI
      go_enter Tryd.func40, Tryd.ntmps40
      go_wp2_with fail
      refine (idx_any _ _ _).mono ?_
      rintro e w1 ⟨rfl, rfl⟩
      go_wp2_with fail
      rw [HI.out]
      refine (wneed_false _ _).mono ?_
      rintro e w3 ⟨rfl, rfl⟩
      go_wp2
      exact ⟨rfl, by rw [HW.out]; rfl, (Below.refl _ _).alloc (Nat.le_refl _) _⟩
    · have HW : Hid (wSign s.data.toList = .ok (5, s.data.toList.take 1, 1)) := by
        show _ = _
        unfold wSign; rw [htwo, hone, hsh]; rfl
      clear htwo hone
      rw [hsh] at HI
      have HX1 : Hid ((s.extract 0 1).data.toList = s.data.toList.take 1) := head_take s 1
      have hx1 : (s.extract 0 1).size = 1 := by simp; omega
      have i3 : (1 : Int) ≤ (s.size : Int) := by omega
      go_enter Tryd.func40, Tryd.ntmps40
      go_wp2_with fail
      refine (idx_any _ _ _).mono ?_
      rintro e w1 ⟨rfl, rfl⟩
      go_wp2_with fail
      rw [HI.out]
      refine (wneed_true _ _).mono ?_
      rintro e w3 ⟨rfl, rfl⟩
      go_wp2_with fail
      refine (clone_any (s.extract 0 1) _ (by omega)).mono ?_
      rintro e w4 ⟨rfl, hb⟩
      have q0 : ∀ o, w4.cell? ⟨w.heap.size, o, none⟩ = _ := fun o => hb.cell (p := ⟨w.heap.size, o, none⟩) (by simp)
      have qf : ∀ o, w4.frozen? ⟨w.heap.size, o, none⟩ = _ := fun o => hb.frozen (p := ⟨w.heap.size, o, none⟩) (by simp)
      have d0 : w4.cell? ⟨w.heap.size, 0, none⟩ = some (.int .i64 0) := (q0 0).trans (by simp [go_sem])
      have d1 : w4.cell? ⟨w.heap.size, 1, none⟩ = some (.string ⟨#[]⟩) := (q0 1).trans (by simp [go_sem])
      have d2 : w4.cell? ⟨w.heap.size, 2, none⟩ = some (.int .i64 0) := (q0 2).trans (by simp [go_sem])
      have f0 : w4.frozen? ⟨w.heap.size, 0, none⟩ = false := (qf 0).trans (by simp [go_sem])
      have f1 : w4.frozen? ⟨w.heap.size, 1, none⟩ = false := (qf 1).trans (by simp [go_sem])
      have f2 : w4.frozen? ⟨w.heap.size, 2, none⟩ = false := (qf 2).trans (by simp [go_sem])
      have hbw : Below w.heap.size w w4 := ((Below.refl _ _).alloc (Nat.le_refl _) _).trans (hb.mono (by simp))
      clear q0 qf
      go_wp2
      refine bodyPost_ret (v := .tuple #[.agg #[.int .i64 5, .string (s.extract 0 1), .int .i64 0], .int .i64 1]) (by simp [results, Tryd.results40, go_sem, d0, d1, d2]) rfl ⟨?_, ?_⟩
      · rw [HW.out, of_list HX1.out]
        rfl
      · exact ((hbw.setCell (Nat.le_refl _) _).setCell (Nat.le_refl _) _).setCell (Nat.le_refl _) _
  · have hmin : min (2 : Int) (s.size : Int) = 2 := by omega
    have i2 : (2 : Int) ≤ (s.size : Int) := by omega
    have HX : Hid ((s.extract 0 2).data.toList = s.data.toList.take 2) := head_take s 2
    have hxs : (s.extract 0 2).size = 2 := by simp; omega
    generalize hx : s.extract 0 2 = x at *
    have HXl : Hid (s.data.toList.take 2 = x.toList) := by show _ = _; rw [ByteArray.toList_eq]; exact HX.out.symm
    cases b1 : (x.toList == [58, 58])
    · skip
      cases b2 : (x.toList == [61, 61])
      · skip
        cases b3 : (x.toList == [60, 61])
        · skip
          cases b4 : (x.toList == [38, 38])
          · skip
            cases b5 : (x.toList == [124, 124])
            · skip
              have htwo : two (s.data.toList.take 2) = false := by
                rw [HXl.out]; unfold two; rw [b1, b2, b3, b4, b5]; rfl
              cases hsh : shorts.contains s[0]
              · have HW : Hid (wSign s.data.toList = .error 1) := by
                  show _ = _
                  unfold wSign; rw [htwo, hone, hsh]; rfl
                clear htwo hone
                rw [hsh] at HI
                go_enter Tryd.func40, Tryd.ntmps40
                go_wp2_with fail
                refine (idx_any _ _ _).mono ?_
                rintro e w1 ⟨rfl, rfl⟩
                go_wp2_with fail
                rw [HI.out]
                refine (wneed_false _ _).mono ?_
                rintro e w3 ⟨rfl, rfl⟩
                go_wp2
                exact ⟨rfl, by rw [HW.out]; rfl, (Below.refl _ _).alloc (Nat.le_refl _) _⟩
              · have HW : Hid (wSign s.data.toList = .ok (5, s.data.toList.take 1, 1)) := by
                  show _ = _
                  unfold wSign; rw [htwo, hone, hsh]; rfl
                clear htwo hone
                rw [hsh] at HI
                have HX1 : Hid ((s.extract 0 1).data.toList = s.data.toList.take 1) := head_take s 1
                have hx1 : (s.extract 0 1).size = 1 := by simp; omega
                have i3 : (1 : Int) ≤ (s.size : Int) := by omega
                go_enter Tryd.func40, Tryd.ntmps40
                go_wp2_with fail
                refine (idx_any _ _ _).mono ?_
                rintro e w1 ⟨rfl, rfl⟩
                go_wp2_with fail
                rw [HI.out]
                refine (wneed_true _ _).mono ?_
                rintro e w3 ⟨rfl, rfl⟩
                go_wp2_with fail
                refine (clone_any (s.extract 0 1) _ (by omega)).mono ?_
                rintro e w4 ⟨rfl, hb⟩
                have q0 : ∀ o, w4.cell? ⟨w.heap.size, o, none⟩ = _ := fun o => hb.cell (p := ⟨w.heap.size, o, none⟩) (by simp)
                have qf : ∀ o, w4.frozen? ⟨w.heap.size, o, none⟩ = _ := fun o => hb.frozen (p := ⟨w.heap.size, o, none⟩) (by simp)
                have d0 : w4.cell? ⟨w.heap.size, 0, none⟩ = some (.int .i64 0) := (q0 0).trans (by simp [go_sem])
                have d1 : w4.cell? ⟨w.heap.size, 1, none⟩ = some (.string ⟨#[]⟩) := (q0 1).trans (by simp [go_sem])
                have d2 : w4.cell? ⟨w.heap.size, 2, none⟩ = some (.int .i64 0) := (q0 2).trans (by simp [go_sem])
                have f0 : w4.frozen? ⟨w.heap.size, 0, none⟩ = false := (qf 0).trans (by simp [go_sem])
                have f1 : w4.frozen? ⟨w.heap.size, 1, none⟩ = false := (qf 1).trans (by simp [go_sem])
                have f2 : w4.frozen? ⟨w.heap.size, 2, none⟩ = false := (qf 2).trans (by simp [go_sem])
                have hbw : Below w.heap.size w w4 := ((Below.refl _ _).alloc (Nat.le_refl _) _).trans (hb.mono (by simp))
                clear q0 qf
                go_wp2
                refine bodyPost_ret (v := .tuple #[.agg #[.int .i64 5, .string (s.extract 0 1), .int .i64 0], .int .i64 1]) (by simp [results, Tryd.results40, go_sem, d0, d1, d2]) rfl ⟨?_, ?_⟩
                · rw [HW.out, of_list HX1.out]
                  rfl
                · exact ((hbw.setCell (Nat.le_refl _) _).setCell (Nat.le_refl _) _).setCell (Nat.le_refl _) _
            · have HW : Hid (wSign s.data.toList = .ok (5, s.data.toList.take 2, 2)) := by
                show _ = _
                have htwo : two (s.data.toList.take 2) = true := by
                  rw [HXl.out]; unfold two; rw [b1, b2, b3, b4, b5]; simp
                unfold wSign; rw [htwo]; rfl
              clear hone HI
              go_enter Tryd.func40, Tryd.ntmps40
              go_wp2_with fail
              refine (clone_any x _ (by omega)).mono ?_
              rintro e w4 ⟨rfl, hb⟩
              have q0 : ∀ o, w4.cell? ⟨w.heap.size, o, none⟩ = _ := fun o => hb.cell (p := ⟨w.heap.size, o, none⟩) (by simp)
              have qf : ∀ o, w4.frozen? ⟨w.heap.size, o, none⟩ = _ := fun o => hb.frozen (p := ⟨w.heap.size, o, none⟩) (by simp)
              have d0 : w4.cell? ⟨w.heap.size, 0, none⟩ = some (.int .i64 0) := (q0 0).trans (by simp [go_sem])
              have d1 : w4.cell? ⟨w.heap.size, 1, none⟩ = some (.string ⟨#[]⟩) := (q0 1).trans (by simp [go_sem])
              have d2 : w4.cell? ⟨w.heap.size, 2, none⟩ = some (.int .i64 0) := (q0 2).trans (by simp [go_sem])
              have f0 : w4.frozen? ⟨w.heap.size, 0, none⟩ = false := (qf 0).trans (by simp [go_sem])
              have f1 : w4.frozen? ⟨w.heap.size, 1, none⟩ = false := (qf 1).trans (by simp [go_sem])
              have f2 : w4.frozen? ⟨w.heap.size, 2, none⟩ = false := (qf 2).trans (by simp [go_sem])
              have hbw : Below w.heap.size w w4 := ((Below.refl _ _).alloc (Nat.le_refl _) _).trans (hb.mono (by simp))
              clear q0 qf
              go_wp2
              refine bodyPost_ret (v := .tuple #[.agg #[.int .i64 5, .string x, .int .i64 0], .int .i64 2]) (by simp [results, Tryd.results40, go_sem, d0, d1, d2]) rfl ⟨?_, ?_⟩
              · rw [HW.out, of_list HX.out]
                rfl
              · exact ((hbw.setCell (Nat.le_refl _) _).setCell (Nat.le_refl _) _).setCell (Nat.le_refl _) _
          · have HW : Hid (wSign s.data.toList = .ok (5, s.data.toList.take 2, 2)) := by
              show _ = _
              have htwo : two (s.data.toList.take 2) = true := by
                rw [HXl.out]; unfold two; rw [b1, b2, b3, b4]; simp
              unfold wSign; rw [htwo]; rfl
            clear hone HI
            go_enter Tryd.func40, Tryd.ntmps40
            go_wp2_with fail
            refine (clone_any x _ (by omega)).mono ?_
            rintro e w4 ⟨rfl, hb⟩
            have q0 : ∀ o, w4.cell? ⟨w.heap.size, o, none⟩ = _ := fun o => hb.cell (p := ⟨w.heap.size, o, none⟩) (by simp)
            have qf : ∀ o, w4.frozen? ⟨w.heap.size, o, none⟩ = _ := fun o => hb.frozen (p := ⟨w.heap.size, o, none⟩) (by simp)
            have d0 : w4.cell? ⟨w.heap.size, 0, none⟩ = some (.int .i64 0) := (q0 0).trans (by simp [go_sem])
            have d1 : w4.cell? ⟨w.heap.size, 1, none⟩ = some (.string ⟨#[]⟩) := (q0 1).trans (by simp [go_sem])
            have d2 : w4.cell? ⟨w.heap.size, 2, none⟩ = some (.int .i64 0) := (q0 2).trans (by simp [go_sem])
            have f0 : w4.frozen? ⟨w.heap.size, 0, none⟩ = false := (qf 0).trans (by simp [go_sem])
            have f1 : w4.frozen? ⟨w.heap.size, 1, none⟩ = false := (qf 1).trans (by simp [go_sem])
            have f2 : w4.frozen? ⟨w.heap.size, 2, none⟩ = false := (qf 2).trans (by simp [go_sem])
            have hbw : Below w.heap.size w w4 := ((Below.refl _ _).alloc (Nat.le_refl _) _).trans (hb.mono (by simp))
            clear q0 qf
            go_wp2
            refine bodyPost_ret (v := .tuple #[.agg #[.int .i64 5, .string x, .int .i64 0], .int .i64 2]) (by simp [results, Tryd.results40, go_sem, d0, d1, d2]) rfl ⟨?_, ?_⟩
            · rw [HW.out, of_list HX.out]
              rfl
            · exact ((hbw.setCell (Nat.le_refl _) _).setCell (Nat.le_refl _) _).setCell (Nat.le_refl _) _
        · have HW : Hid (wSign s.data.toList = .ok (5, s.data.toList.take 2, 2)) := by
            show _ = _
            have htwo : two (s.data.toList.take 2) = true := by
              rw [HXl.out]; unfold two; rw [b1, b2, b3]; simp
            unfold wSign; rw [htwo]; rfl
          clear hone HI
          go_enter Tryd.func40, Tryd.ntmps40
          go_wp2_with fail
          refine (clone_any x _ (by omega)).mono ?_
          rintro e w4 ⟨rfl, hb⟩
          have q0 : ∀ o, w4.cell? ⟨w.heap.size, o, none⟩ = _ := fun o => hb.cell (p := ⟨w.heap.size, o, none⟩) (by simp)
          have qf : ∀ o, w4.frozen? ⟨w.heap.size, o, none⟩ = _ := fun o => hb.frozen (p := ⟨w.heap.size, o, none⟩) (by simp)
          have d0 : w4.cell? ⟨w.heap.size, 0, none⟩ = some (.int .i64 0) := (q0 0).trans (by simp [go_sem])
          have d1 : w4.cell? ⟨w.heap.size, 1, none⟩ = some (.string ⟨#[]⟩) := (q0 1).trans (by simp [go_sem])
          have d2 : w4.cell? ⟨w.heap.size, 2, none⟩ = some (.int .i64 0) := (q0 2).trans (by simp [go_sem])
          have f0 : w4.frozen? ⟨w.heap.size, 0, none⟩ = false := (qf 0).trans (by simp [go_sem])
          have f1 : w4.frozen? ⟨w.heap.size, 1, none⟩ = false := (qf 1).trans (by simp [go_sem])
          have f2 : w4.frozen? ⟨w.heap.size, 2, none⟩ = false := (qf 2).trans (by simp [go_sem])
          have hbw : Below w.heap.size w w4 := ((Below.refl _ _).alloc (Nat.le_refl _) _).trans (hb.mono (by simp))
          clear q0 qf
          go_wp2
          refine bodyPost_ret (v := .tuple #[.agg #[.int .i64 5, .string x, .int .i64 0], .int .i64 2]) (by simp [results, Tryd.results40, go_sem, d0, d1, d2]) rfl ⟨?_, ?_⟩
          · rw [HW.out, of_list HX.out]
            rfl
          · exact ((hbw.setCell (Nat.le_refl _) _).setCell (Nat.le_refl _) _).setCell (Nat.le_refl _) _
      · have HW : Hid (wSign s.data.toList = .ok (5, s.data.toList.take 2, 2)) := by
          show _ = _
          have htwo : two (s.data.toList.take 2) = true := by
            rw [HXl.out]; unfold two; rw [b1, b2]; simp
          unfold wSign; rw [htwo]; rfl
        clear hone HI
        go_enter Tryd.func40, Tryd.ntmps40
        go_wp2_with fail
        refine (clone_any x _ (by omega)).mono ?_
        rintro e w4 ⟨rfl, hb⟩
        have q0 : ∀ o, w4.cell? ⟨w.heap.size, o, none⟩ = _ := fun o => hb.cell (p := ⟨w.heap.size, o, none⟩) (by simp)
        have qf : ∀ o, w4.frozen? ⟨w.heap.size, o, none⟩ = _ := fun o => hb.frozen (p := ⟨w.heap.size, o, none⟩) (by simp)
        have d0 : w4.cell? ⟨w.heap.size, 0, none⟩ = some (.int .i64 0) := (q0 0).trans (by simp [go_sem])
        have d1 : w4.cell? ⟨w.heap.size, 1, none⟩ = some (.string ⟨#[]⟩) := (q0 1).trans (by simp [go_sem])
        have d2 : w4.cell? ⟨w.heap.size, 2, none⟩ = some (.int .i64 0) := (q0 2).trans (by simp [go_sem])
        have f0 : w4.frozen? ⟨w.heap.size, 0, none⟩ = false := (qf 0).trans (by simp [go_sem])
        have f1 : w4.frozen? ⟨w.heap.size, 1, none⟩ = false := (qf 1).trans (by simp [go_sem])
        have f2 : w4.frozen? ⟨w.heap.size, 2, none⟩ = false := (qf 2).trans (by simp [go_sem])
        have hbw : Below w.heap.size w w4 := ((Below.refl _ _).alloc (Nat.le_refl _) _).trans (hb.mono (by simp))
        clear q0 qf
        go_wp2
        refine bodyPost_ret (v := .tuple #[.agg #[.int .i64 5, .string x, .int .i64 0], .int .i64 2]) (by simp [results, Tryd.results40, go_sem, d0, d1, d2]) rfl ⟨?_, ?_⟩
        · rw [HW.out, of_list HX.out]
          rfl
        · exact ((hbw.setCell (Nat.le_refl _) _).setCell (Nat.le_refl _) _).setCell (Nat.le_refl _) _
    · have HW : Hid (wSign s.data.toList = .ok (5, s.data.toList.take 2, 2)) := by
        show _ = _
        have htwo : two (s.data.toList.take 2) = true := by
          rw [HXl.out]; unfold two; rw [b1]; simp
        unfold wSign; rw [htwo]; rfl
      clear hone HI
      go_enter Tryd.func40, Tryd.ntmps40
      go_wp2_with fail
      refine (clone_any x _ (by omega)).mono ?_
      rintro e w4 ⟨rfl, hb⟩
      have q0 : ∀ o, w4.cell? ⟨w.heap.size, o, none⟩ = _ := fun o => hb.cell (p := ⟨w.heap.size, o, none⟩) (by simp)
      have qf : ∀ o, w4.frozen? ⟨w.heap.size, o, none⟩ = _ := fun o => hb.frozen (p := ⟨w.heap.size, o, none⟩) (by simp)
      have d0 : w4.cell? ⟨w.heap.size, 0, none⟩ = some (.int .i64 0) := (q0 0).trans (by simp [go_sem])
      have d1 : w4.cell? ⟨w.heap.size, 1, none⟩ = some (.string ⟨#[]⟩) := (q0 1).trans (by simp [go_sem])
      have d2 : w4.cell? ⟨w.heap.size, 2, none⟩ = some (.int .i64 0) := (q0 2).trans (by simp [go_sem])
      have f0 : w4.frozen? ⟨w.heap.size, 0, none⟩ = false := (qf 0).trans (by simp [go_sem])
      have f1 : w4.frozen? ⟨w.heap.size, 1, none⟩ = false := (qf 1).trans (by simp [go_sem])
      have f2 : w4.frozen? ⟨w.heap.size, 2, none⟩ = false := (qf 2).trans (by simp [go_sem])
      have hbw : Below w.heap.size w w4 := ((Below.refl _ _).alloc (Nat.le_refl _) _).trans (hb.mono (by simp))
      clear q0 qf
      go_wp2
      refine bodyPost_ret (v := .tuple #[.agg #[.int .i64 5, .string x, .int .i64 0], .int .i64 2]) (by simp [results, Tryd.results40, go_sem, d0, d1, d2]) rfl ⟨?_, ?_⟩
      · rw [HW.out, of_list HX.out]
        rfl
      · exact ((hbw.setCell (Nat.le_refl _) _).setCell (Nat.le_refl _) _).setCell (Nat.le_refl _) _

theorem run_pos {p : UInt8 → Bool} (s : ByteArray) (h : 0 < s.size) (hp : p s[0] = true) : ∃ m, runL p s.data.toList = m + 1 := by
  have e : s.data.toList = s[0] :: s.data.toList.drop 1 := by simpa using drop_at s 0 h
  unfold runL
  rw [e, List.takeWhile_cons, if_pos hp]
  exact ⟨_, rfl⟩

set_option maxHeartbeats 1000000 in
theorem first_any (s : ByteArray) (w : World) (h1 : 0 < s.size) (hs : s.size ≤ 900) :
    Calls Tryd.prog 22 #[.string s] w fun e w' => e = endW (word1 s.data.toList) ∧ Below w.heap.size w w' := by
  have HL : s.data.toList = s[0] :: s.data.toList.drop 1 := by simpa using drop_at s 0 h1
  have HW : word1 s.data.toList = _ := (congrArg word1 HL).trans (word1_cons _ _)
  rw [← HL] at HW
  have i1 : (0 : Int) < (s.size : Int) := by omega
  cases c1 : letb s[0]
  · rw [c1] at HW
    simp only [Bool.false_eq_true, if_false] at HW
    cases c2 : digb s[0]
    · rw [c2] at HW
      simp only [Bool.false_eq_true, if_false] at HW
      cases c3 : (s[0].toNat == 34)
      · rw [c3] at HW
        simp only [Bool.false_eq_true, if_false] at HW
        have n3 : ((s[0].toNat : Int) == 34) = false := by simp at c3 ⊢; omega
        cases c4 : (s[0].toNat == 63)
        · rw [c4] at HW
          simp only [Bool.false_eq_true, if_false] at HW
          have n4 : ((s[0].toNat : Int) == 63) = false := by simp at c4 ⊢; omega
          clear c3 c4
          cases hR : word1 s.data.toList with
          | error n =>
            have H1 := firstSign_any s (w.alloc (.cells #[.int .i64 0, .string ⟨#[]⟩, .int .i64 0] 36)) h1 hs
            rw [← HW, hR] at H1
            clear hR HL HW
            unfold endW at H1 ⊢
            go_enter Tryd.func22, Tryd.ntmps22
            go_wp2_with (first | (go_at_call 34; refine (wLetter_any _ _).mono ?_; rintro e w' ⟨rfl, rfl⟩; rw [c1]) | (go_at_call 36; refine (wDigit_any _ _).mono ?_; rintro e w' ⟨rfl, rfl⟩; rw [c2]) | (go_at_call 40; refine H1.mono ?_; rintro e w1 ⟨rfl, hb⟩))
            exact ⟨rfl, rfl, ((Below.refl _ _).alloc (Nat.le_refl _) _).trans (hb.mono (by simp))⟩
          | ok x =>
            obtain ⟨k, t, n⟩ := x
            have H1 := firstSign_any s (w.alloc (.cells #[.int .i64 0, .string ⟨#[]⟩, .int .i64 0] 36)) h1 hs
            rw [← HW, hR] at H1
            clear hR HL HW
            unfold endW at H1 ⊢
            simp only [] at H1 ⊢
            go_enter Tryd.func22, Tryd.ntmps22
            go_wp2_with (first | (go_at_call 34; refine (wLetter_any _ _).mono ?_; rintro e w' ⟨rfl, rfl⟩; rw [c1]) | (go_at_call 36; refine (wDigit_any _ _).mono ?_; rintro e w' ⟨rfl, rfl⟩; rw [c2]) | (go_at_call 40; refine H1.mono ?_; rintro e w1 ⟨rfl, hb⟩; obtain ⟨d0, d1, d2, f0, f1, f2, hbw⟩ := tok_kept hb))
            refine bodyPost_ret (v := .tuple #[.agg #[.int .i64 k, .string ⟨t.toArray⟩, .int .i64 0], .int .i64 n]) (by simp [results, Tryd.results22, go_sem, d0, d1, d2]) rfl ⟨rfl, ?_⟩
            exact ((hbw.setCell (Nat.le_refl _) _).setCell (Nat.le_refl _) _).setCell (Nat.le_refl _) _
        · rw [c4] at HW
          simp only [if_true] at HW
          have n4 : ((s[0].toNat : Int) == 63) = true := by simp at c4 ⊢; omega
          clear c3 c4
          cases hR : word1 s.data.toList with
          | error n =>
            have H1 := firstSlot_any s (w.alloc (.cells #[.int .i64 0, .string ⟨#[]⟩, .int .i64 0] 36)) h1 hs
            rw [← HW, hR] at H1
            clear hR HL HW
            unfold endW at H1 ⊢
            go_enter Tryd.func22, Tryd.ntmps22
            go_wp2_with (first | (go_at_call 34; refine (wLetter_any _ _).mono ?_; rintro e w' ⟨rfl, rfl⟩; rw [c1]) | (go_at_call 36; refine (wDigit_any _ _).mono ?_; rintro e w' ⟨rfl, rfl⟩; rw [c2]) | (go_at_call 39; refine H1.mono ?_; rintro e w1 ⟨rfl, hb⟩))
            exact ⟨rfl, rfl, ((Below.refl _ _).alloc (Nat.le_refl _) _).trans (hb.mono (by simp))⟩
          | ok x =>
            obtain ⟨k, t, n⟩ := x
            have H1 := firstSlot_any s (w.alloc (.cells #[.int .i64 0, .string ⟨#[]⟩, .int .i64 0] 36)) h1 hs
            rw [← HW, hR] at H1
            clear hR HL HW
            unfold endW at H1 ⊢
            simp only [] at H1 ⊢
            go_enter Tryd.func22, Tryd.ntmps22
            go_wp2_with (first | (go_at_call 34; refine (wLetter_any _ _).mono ?_; rintro e w' ⟨rfl, rfl⟩; rw [c1]) | (go_at_call 36; refine (wDigit_any _ _).mono ?_; rintro e w' ⟨rfl, rfl⟩; rw [c2]) | (go_at_call 39; refine H1.mono ?_; rintro e w1 ⟨rfl, hb⟩; obtain ⟨d0, d1, d2, f0, f1, f2, hbw⟩ := tok_kept hb))
            refine bodyPost_ret (v := .tuple #[.agg #[.int .i64 k, .string ⟨t.toArray⟩, .int .i64 0], .int .i64 n]) (by simp [results, Tryd.results22, go_sem, d0, d1, d2]) rfl ⟨rfl, ?_⟩
            exact ((hbw.setCell (Nat.le_refl _) _).setCell (Nat.le_refl _) _).setCell (Nat.le_refl _) _
      · rw [c3] at HW
        simp only [if_true] at HW
        have n3 : ((s[0].toNat : Int) == 34) = true := by simp at c3 ⊢; omega
        clear c3
        cases hR : word1 s.data.toList with
        | error n =>
          have H1 := firstQuoted_any s (w.alloc (.cells #[.int .i64 0, .string ⟨#[]⟩, .int .i64 0] 36)) h1 hs
          rw [← HW, hR] at H1
          clear hR HL HW
          unfold endW at H1 ⊢
          go_enter Tryd.func22, Tryd.ntmps22
          go_wp2_with (first | (go_at_call 34; refine (wLetter_any _ _).mono ?_; rintro e w' ⟨rfl, rfl⟩; rw [c1]) | (go_at_call 36; refine (wDigit_any _ _).mono ?_; rintro e w' ⟨rfl, rfl⟩; rw [c2]) | (go_at_call 38; refine H1.mono ?_; rintro e w1 ⟨rfl, hb⟩))
          exact ⟨rfl, rfl, ((Below.refl _ _).alloc (Nat.le_refl _) _).trans (hb.mono (by simp))⟩
        | ok x =>
          obtain ⟨k, t, n⟩ := x
          have H1 := firstQuoted_any s (w.alloc (.cells #[.int .i64 0, .string ⟨#[]⟩, .int .i64 0] 36)) h1 hs
          rw [← HW, hR] at H1
          clear hR HL HW
          unfold endW at H1 ⊢
          simp only [] at H1 ⊢
          go_enter Tryd.func22, Tryd.ntmps22
          go_wp2_with (first | (go_at_call 34; refine (wLetter_any _ _).mono ?_; rintro e w' ⟨rfl, rfl⟩; rw [c1]) | (go_at_call 36; refine (wDigit_any _ _).mono ?_; rintro e w' ⟨rfl, rfl⟩; rw [c2]) | (go_at_call 38; refine H1.mono ?_; rintro e w1 ⟨rfl, hb⟩; obtain ⟨d0, d1, d2, f0, f1, f2, hbw⟩ := tok_kept hb))
          refine bodyPost_ret (v := .tuple #[.agg #[.int .i64 k, .string ⟨t.toArray⟩, .int .i64 0], .int .i64 n]) (by simp [results, Tryd.results22, go_sem, d0, d1, d2]) rfl ⟨rfl, ?_⟩
          exact ((hbw.setCell (Nat.le_refl _) _).setCell (Nat.le_refl _) _).setCell (Nat.le_refl _) _
    · rw [c2] at HW
      simp only [if_true] at HW
      obtain ⟨m, hm⟩ := run_pos s h1 c2
      cases hR : word1 s.data.toList with
      | error n =>
        have H1 := firstNumber_any s (w.alloc (.cells #[.int .i64 0, .string ⟨#[]⟩, .int .i64 0] 36)) m hm hs
        rw [← HW, hR] at H1
        clear hR HL HW
        unfold endW at H1 ⊢
        go_enter Tryd.func22, Tryd.ntmps22
        go_wp2_with (first | (go_at_call 34; refine (wLetter_any _ _).mono ?_; rintro e w' ⟨rfl, rfl⟩; rw [c1]) | (go_at_call 36; refine (wDigit_any _ _).mono ?_; rintro e w' ⟨rfl, rfl⟩; rw [c2]) | (go_at_call 37; refine H1.mono ?_; rintro e w1 ⟨rfl, hb⟩))
        exact ⟨rfl, rfl, ((Below.refl _ _).alloc (Nat.le_refl _) _).trans (hb.mono (by simp))⟩
      | ok x =>
        obtain ⟨k, t, n⟩ := x
        have H1 := firstNumber_any s (w.alloc (.cells #[.int .i64 0, .string ⟨#[]⟩, .int .i64 0] 36)) m hm hs
        rw [← HW, hR] at H1
        clear hR HL HW
        unfold endW at H1 ⊢
        simp only [] at H1 ⊢
        go_enter Tryd.func22, Tryd.ntmps22
        go_wp2_with (first | (go_at_call 34; refine (wLetter_any _ _).mono ?_; rintro e w' ⟨rfl, rfl⟩; rw [c1]) | (go_at_call 36; refine (wDigit_any _ _).mono ?_; rintro e w' ⟨rfl, rfl⟩; rw [c2]) | (go_at_call 37; refine H1.mono ?_; rintro e w1 ⟨rfl, hb⟩; obtain ⟨d0, d1, d2, f0, f1, f2, hbw⟩ := tok_kept hb))
        refine bodyPost_ret (v := .tuple #[.agg #[.int .i64 k, .string ⟨t.toArray⟩, .int .i64 0], .int .i64 n]) (by simp [results, Tryd.results22, go_sem, d0, d1, d2]) rfl ⟨rfl, ?_⟩
        exact ((hbw.setCell (Nat.le_refl _) _).setCell (Nat.le_refl _) _).setCell (Nat.le_refl _) _
  · rw [c1] at HW
    simp only [if_true] at HW
    cases hR : word1 s.data.toList with
    | error n =>
      have H1 := firstName_any s (w.alloc (.cells #[.int .i64 0, .string ⟨#[]⟩, .int .i64 0] 36)) hs
      rw [← HW, hR] at H1
      clear hR HL HW
      unfold endW at H1 ⊢
      go_enter Tryd.func22, Tryd.ntmps22
      go_wp2_with (first | (go_at_call 34; refine (wLetter_any _ _).mono ?_; rintro e w' ⟨rfl, rfl⟩; rw [c1]) | (go_at_call 35; refine H1.mono ?_; rintro e w1 ⟨rfl, hb⟩))
      exact ⟨rfl, rfl, ((Below.refl _ _).alloc (Nat.le_refl _) _).trans (hb.mono (by simp))⟩
    | ok x =>
      obtain ⟨k, t, n⟩ := x
      have H1 := firstName_any s (w.alloc (.cells #[.int .i64 0, .string ⟨#[]⟩, .int .i64 0] 36)) hs
      rw [← HW, hR] at H1
      clear hR HL HW
      unfold endW at H1 ⊢
      simp only [] at H1 ⊢
      go_enter Tryd.func22, Tryd.ntmps22
      go_wp2_with (first | (go_at_call 34; refine (wLetter_any _ _).mono ?_; rintro e w' ⟨rfl, rfl⟩; rw [c1]) | (go_at_call 35; refine H1.mono ?_; rintro e w1 ⟨rfl, hb⟩; obtain ⟨d0, d1, d2, f0, f1, f2, hbw⟩ := tok_kept hb))
      refine bodyPost_ret (v := .tuple #[.agg #[.int .i64 k, .string ⟨t.toArray⟩, .int .i64 0], .int .i64 n]) (by simp [results, Tryd.results22, go_sem, d0, d1, d2]) rfl ⟨rfl, ?_⟩
      exact ((hbw.setCell (Nat.le_refl _) _).setCell (Nat.le_refl _) _).setCell (Nat.le_refl _) _
end Go.Proofs.YtmcjogfopfhblaaDoor
