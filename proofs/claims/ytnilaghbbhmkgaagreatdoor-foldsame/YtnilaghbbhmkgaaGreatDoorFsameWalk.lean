/- FoldSame: the walk of the statement's own function. -/
import Derived.Test.YtnilaghbbhmkgaaGreatDoorF47
import Derived.Test.YtnilaghbbhmkgaaGreatDoorF46
import Derived.Test.YtnilaghbbhmkgaaGreatDoorF14
import Derived.Test.YtnilaghbbhmkgaaGreatDoorF22
namespace Go.Proofs.YtnilaghbbhmkgaaGreatDoor
open Go.RowKit
set_option linter.unusedVariables false
set_option maxRecDepth 100000

def e23 : List Nd := [⟨17, 0, ⟨#[]⟩, ⟨#[]⟩⟩, ⟨2, 2, ⟨#[]⟩, ⟨#[]⟩⟩, ⟨2, 3, ⟨#[]⟩, ⟨#[]⟩⟩]
theorem e23_arg (w : World) : LArg (w.alloc (.cells #[.int .i64 17, .int .i64 0, .string ⟨#[]⟩, .string ⟨#[]⟩, .int .i64 2, .int .i64 2, .string ⟨#[]⟩, .string ⟨#[]⟩, .int .i64 2, .int .i64 3, .string ⟨#[]⟩, .string ⟨#[]⟩] 41)) e23 3 (some ⟨w.heap.size, 0, none⟩) 3 := by
  refine ⟨rfl, NL.lit w e23 #[.int .i64 17, .int .i64 0, .string ⟨#[]⟩, .string ⟨#[]⟩, .int .i64 2, .int .i64 2, .string ⟨#[]⟩, .string ⟨#[]⟩, .int .i64 2, .int .i64 3, .string ⟨#[]⟩, .string ⟨#[]⟩] ?_ rfl (by decide), Nat.le_refl _, by unfold maxLen; decide, ?_⟩
  · intro x hx
    simp only [e23, List.mem_cons, List.not_mem_nil, or_false] at hx
    rcases hx with rfl | rfl | rfl
    · exact oNw
    · exact n5_wf (n := 2) (by decide)
    · exact n5_wf (n := 3) (by decide)
  · intro x hx _
    simp only [e23, List.mem_cons, List.not_mem_nil, or_false] at hx
    unfold Fit
    rcases hx with rfl | rfl | rfl
    · exact ⟨by decide, by decide⟩
    · exact ⟨by decide, by decide⟩
    · exact ⟨by decide, by decide⟩
theorem five_lit (w : World) : NL (w.alloc (.cells #[.int .i64 2, .int .i64 5, .string ⟨#[]⟩, .string ⟨#[]⟩] 41)) (some ⟨w.heap.size, 0, none⟩) [⟨2, 5, ⟨#[]⟩, ⟨#[]⟩⟩] :=
  NL.lit w [⟨2, 5, ⟨#[]⟩, ⟨#[]⟩⟩] #[.int .i64 2, .int .i64 5, .string ⟨#[]⟩, .string ⟨#[]⟩] (by intro x hx; simp only [List.mem_singleton] at hx; subst hx; exact n5_wf (n := 5) (by decide)) rfl (by decide)
set_option maxHeartbeats 4000000 in
theorem fsame_walk (es : List En) (ps : Option Addr) (cs : Nat) (q : Rq) (pq : Option Addr) (cq : Nat) (e : List Nd) (pe : Option Addr) (ce : Nat) (w : World)
    (ha : EvArg w es ps q pq cq) (he : LArg w e e.length pe ce) :
    Calls Tryz.prog 4 #[.slice ps es.length cs, reqV q pq cq, .slice pe e.length ce] w fun en w' => en = .returned (.bool true) ∧ Below w.heap.size w w' := by
  have hem : e.length ≤ maxLen := Nat.le_trans he.le he.cm
  obtain ⟨W, hW⟩ : ∃ W, W = w.alloc (.cells #[.string q.who.t, .string q.who.i, .string q.act.t, .string q.act.i, .string q.what.t, .string q.what.i, .slice pq q.cx.length cq] 27) := ⟨_, rfl⟩
  have hb_0 : Below w.heap.size w W := by rw [hW]; exact (Below.refl _ _).alloc (Nat.le_refl _) _
  have hq_0 : QB W w.heap.size q pq cq := by rw [hW]; exact QB.new w q pq cq
  have ha_0 := ha.up hb_0
  have he_0 := he.up hb_0
  clear ha he
  unfold reqV
  go_enter Tryz.func4, Tryz.ntmps4
  go_wp2_with fail
  rw [← hW]
  clear hW
  refine (lnum_fn _ _).mono ?_
  rintro _ w1 ⟨rfl, hb1⟩
  go_wp2_with fail
  refine (lnum_fn _ _).mono ?_
  rintro _ w2 ⟨rfl, hb2⟩
  have hb12 := qbt hb1 hb2
  have hA := e23_arg w2
  have hbA : Below w2.heap.size w2 (w2.alloc (.cells #[.int .i64 17, .int .i64 0, .string ⟨#[]⟩, .string ⟨#[]⟩, .int .i64 2, .int .i64 2, .string ⟨#[]⟩, .string ⟨#[]⟩, .int .i64 2, .int .i64 3, .string ⟨#[]⟩, .string ⟨#[]⟩] 41)) := (Below.refl _ _).alloc (Nat.le_refl _) _
  have hb1A := qbt hb12 hbA
  have HB := fbetter_ok e23 _ _ _ _ hA (ha_0.up hb1A).er (by kernel_rfl)
  rw [show foldL e23 = [⟨2, 5, ⟨#[]⟩, ⟨#[]⟩⟩] from fold_23] at HB
  clear hA
  go_wp2_with fail
  refine HB.mono ?_
  rintro _ w3 ⟨⟨q3, c3, rfl, hx3⟩, hb3⟩
  have hb03 := qbt hb1A hb3
  have hn3 := hx3.nl
  clear HB hx3
  go_wp2_with fail
  refine (lnum_fn _ _).mono ?_
  rintro _ w4 ⟨rfl, hb4⟩
  have hbB : Below w4.heap.size w4 (w4.alloc (.cells #[.int .i64 2, .int .i64 5, .string ⟨#[]⟩, .string ⟨#[]⟩] 41)) := (Below.refl _ _).alloc (Nat.le_refl _) _
  have HS := sameO (a := [⟨2, 5, ⟨#[]⟩, ⟨#[]⟩⟩]) (n := 1) rfl c3 1 _ ((hn3.up hb4).up hbB) (five_lit w4) (by decide)
  clear hn3
  go_wp2_with fail
  refine HS.mono ?_
  rintro _ w5 ⟨rfl, hb5⟩
  have hb05 := qbt (qbt (qbt hb03 hb4) hbB) hb5
  have hb_5 := qbt hb_0 hb05
  have hq_5 := hq_0.up hb05
  have ha_5 := ha_0.up hb05
  have he_5 := he_0.up hb05
  clear HS hb1 hb2 hb12 hbA hb1A hb3 hb03 hb4 hbB hb5 hb05 hq_0 ha_0 he_0 hb_0
  by_cases hz : xfault e = 0
  · have HB := fbetter_ok e pe ce e.length w5 he_5 ha_5.er hz
    obtain ⟨f1, f2, f3, f4⟩ := fold_same hz he_5.num
    have HF := fun w1 h1 => refFault_any e pe ce w1 h1 hem
    rw [hz] at HF
    have HT := fun w1 h1 => toldE_any 0 0 w1 h1
    rw [eV_zero, show ((0 : Int) == 0) = true from rfl] at HT
    have hl := (xfault_zero hz).1
    have HVa := fun w1 (h1 : EvArg w1 es ps q pq cq) (h2 : LArg w1 e e.length pe ce) => evalue_arg cs w1 h1 h2 rfl
    have hle : ((foldL e).length : Int) ≤ (e.length : Int) := by omega
    have hf200 : (foldL e).length ≤ 200 := by omega
    have HFX : Hid (xfault (foldL e) = 0) := f1
    have HF4 : Hid (valueL es q (foldL e) = valueL es q e) := f4 es q
    clear f1 f2 f3 f4 hz
    generalize foldL e = b at *
    unfold reqV at *
    go_wp2_with fail
    refine HB.mono ?_
    rintro _ w6 ⟨⟨q6, c6, rfl, hb6⟩, hbb⟩
    have hb_6 := qbt hb_5 hbb
    have hq_6 := hq_5.up hbb
    have ha_6 := ha_5.up hbb
    have he_6 := he_5.up hbb
    clear HB hbb hb_5 hq_5 ha_5 he_5
    go_wp2_with fail
    refine (HF _ he_6.nl).mono ?_
    rintro _ w7 ⟨rfl, hbb⟩
    have hb_7 := qbt hb_6 hbb
    have hq_7 := hq_6.up hbb
    have ha_7 := ha_6.up hbb
    have he_7 := he_6.up hbb
    have hc_7 := hb6.up hbb
    clear hbb hb_6 hq_6 ha_6 he_6 hb6
    go_wp2_with fail
    refine (HT _ ha_7.er).mono ?_
    rintro _ w8 ⟨rfl, hbb⟩
    have hb_8 := qbt hb_7 hbb
    have hq_8 := hq_7.up hbb
    have ha_8 := ha_7.up hbb
    have he_8 := he_7.up hbb
    have hc_8 := hc_7.up hbb
    clear hbb hb_7 hq_7 ha_7 he_7 hc_7
    obtain ⟨x0, x1, x2, x3, x4, x5, x6⟩ := hq_8.cells
    go_wp2_with fail
    refine (HVa _ ha_8 he_8).mono ?_
    rintro _ w9 ⟨⟨v9, e9, rfl, hA9⟩, hbb⟩
    clear x0 x1 x2 x3 x4 x5 x6
    have hb_9 := qbt hb_8 hbb
    have hq_9 := hq_8.up hbb
    have ha_9 := ha_8.up hbb
    have hc_9 := hc_8.up hbb
    clear hbb hb_8 hq_8 ha_8 he_8 hc_8
    have HVb := evalue_arg cs w9 ha_9 hc_9 HF4.out
    unfold reqV at HVb
    obtain ⟨x0, x1, x2, x3, x4, x5, x6⟩ := hq_9.cells
    go_wp2_with fail
    refine HVb.mono ?_
    rintro _ w10 ⟨⟨v10, e10, rfl, hA10⟩, hbb⟩
    clear x0 x1 x2 x3 x4 x5 x6
    have hb_10 := qbt hb_9 hbb
    have hc_10 := hc_9.up hbb
    have hA9' := hA9.up hbb
    have er10 := (ha_9.up hbb).er
    clear hbb hb_9 hq_9 ha_9 hc_9 hA9 HVb
    go_wp2_with fail
    refine (same_ans _ hA9' hA10 er10).mono ?_
    rintro _ w11 ⟨rfl, hbb⟩
    have hb_11 := qbt hb_10 hbb
    have HC := tcheck_arg w11 (hc_10.up hbb)
    rw [eV_nil HFX.out] at HC
    clear hbb hb_10 hc_10 hA9' hA10
    go_wp2_with fail
    refine HC.mono ?_
    rintro _ w12 ⟨rfl, hbb⟩
    have hb_12 := qbt hb_11 hbb
    go_wp2_with fail
    go_ret
    exact ⟨rfl, hb_12⟩
  · have HB := fbetter_bad e pe ce e.length w5 he_5 hz
    have HF := fun w1 h1 => refFault_any e pe ce w1 h1 hem
    have HT := fun w1 h1 => toldE_any (xfault e) (xfault e) w1 h1
    rw [eV_not hz, show (xfault e == xfault e) = true by simp] at HT
    clear hz
    generalize xfault e = a at *
    go_wp2_with fail
    refine HB.mono ?_
    rintro _ w6 ⟨rfl, hbb⟩
    have hb_6 := qbt hb_5 hbb
    have ha_6 := ha_5.up hbb
    have he_6 := he_5.up hbb
    clear HB hbb hb_5 hq_5 ha_5 he_5
    go_wp2_with fail
    refine (HF _ he_6.nl).mono ?_
    rintro _ w7 ⟨rfl, hbb⟩
    have hb_7 := qbt hb_6 hbb
    have ha_7 := ha_6.up hbb
    clear hbb hb_6 ha_6 he_6
    go_wp2_with fail
    refine (HT _ ha_7.er).mono ?_
    rintro _ w8 ⟨rfl, hbb⟩
    have hb_8 := qbt hb_7 hbb
    go_wp2_with fail
    go_ret
    exact ⟨rfl, hb_8⟩
end Go.Proofs.YtnilaghbbhmkgaaGreatDoor
