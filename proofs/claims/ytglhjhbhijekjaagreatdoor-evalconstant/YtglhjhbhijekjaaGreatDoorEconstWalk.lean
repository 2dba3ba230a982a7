/- EvalConstant: the walk of the statement's own function. -/
import Derived.Test.YtglhjhbhijekjaaGreatDoorG39
namespace Go.Proofs.YtglhjhbhijekjaaGreatDoor
open Go.RowKit
set_option linter.unusedVariables false
set_option maxRecDepth 100000

set_option maxHeartbeats 20000000 in
theorem econst_walk (es : List En) (ps : Option Addr) (cs : Nat) (q : Rq) (pq : Option Addr) (cq : Nat) (e : List Nd) (pe : Option Addr) (ce : Nat) (v : List Nd) (pv : Option Addr) (cv : Nat) (w : World)
    (ha : EvArg w es ps q pq cq) (he : LArg w e e.length pe ce) (hv : LArg w v v.length pv cv) :
    Calls Tryz.prog 5 #[.slice ps es.length cs, reqV q pq cq, .slice pe e.length ce, .slice pv v.length cv] w fun e w' => e = .returned (.bool true) ∧ Below w.heap.size w w' := by
  obtain ⟨R, hR⟩ : ∃ R, valueL es q e = R := ⟨_, rfl⟩
  obtain ⟨W, hW⟩ : ∃ W, W = w.alloc (.cells #[.string q.who.t, .string q.who.i, .string q.act.t, .string q.act.i, .string q.what.t, .string q.what.i, .slice pq q.cx.length cq] 26) := ⟨_, rfl⟩
  have hb_0 : Below w.heap.size w W := by rw [hW]; exact (Below.refl _ _).alloc (Nat.le_refl _) _
  have hq_0 : QB W w.heap.size q pq cq := by rw [hW]; exact QB.new w q pq cq
  have ha_0 := ha.up hb_0
  have he_0 := he.up hb_0
  have hv_0 := hv.up hb_0
  clear ha he hv
  unfold reqV
  go_enter Tryz.func5, Tryz.ntmps5
  obtain ⟨x0, x1, x2, x3, x4, x5, x6⟩ := hq_0.cells
  go_wp2_with fail
  rw [← hW]
  refine (lfact_any _ ha_0.er).mono ?_
  rintro _ w1 ⟨rfl, hbb⟩
  clear x0 x1 x2 x3 x4 x5 x6
  have hb_1 := qbt hb_0 hbb
  have hq_1 := hq_0.up hbb
  have ha_1 := ha_0.up hbb
  have he_1 := he_0.up hbb
  have hv_1 := hv_0.up hbb
  clear hbb hb_0 hq_0 ha_0 he_0 hv_0
  obtain ⟨x0, x1, x2, x3, x4, x5, x6⟩ := hq_1.cells
  go_wp2_with fail
  refine (evalue_arg cs _ ha_1 he_1 hR).mono ?_
  rintro _ w2 ⟨⟨x, f, rfl, hx⟩, hbb⟩
  clear x0 x1 x2 x3 x4 x5 x6
  have hb_2 := qbt hb_1 hbb
  have hq_2 := hq_1.up hbb
  have ha_2 := ha_1.up hbb
  have he_2 := he_1.up hbb
  have hv_2 := hv_1.up hbb
  clear hbb hb_1 hq_1 ha_1 he_1 hv_1
  clear he_2
  cases R with
  | ok a =>
    obtain ⟨q2, c2, rfl, rfl, h2⟩ := hx
    have HZ := fun w1 h1 => vcheck_arg (a := a) (n := a.length) (p := q2) (c := c2) w1 h1
    rw [eV_nil h2.is.val] at HZ
    have hz_2 := h2.l
    clear h2 hR
    obtain ⟨x0, x1, x2, x3, x4, x5, x6⟩ := hq_2.cells
    go_wp2_with fail
    refine (HZ _ hz_2).mono ?_
    rintro _ w3 ⟨rfl, hbb⟩
    clear x0 x1 x2 x3 x4 x5 x6
    have hb_3 := qbt hb_2 hbb
    have hq_3 := hq_2.up hbb
    have ha_3 := ha_2.up hbb
    have hv_3 := hv_2.up hbb
    have hz_3 := hz_2.up hbb
    clear hbb hb_2 hq_2 ha_2 hv_2 hz_2
    clear hz_3
    clear HZ
    by_cases k1 : vfault v = 0
    · have HC := fun w1 h1 => vcheck_arg (a := v) (n := v.length) (p := pv) (c := cv) w1 h1
      rw [eV_nil k1] at HC
      by_cases k2 : stf es = 0
      · have HE := fun w1 hl1 => entCheck_any es ps cs w1 hl1
        rw [eV_nil k2] at HE
        by_cases k3 : askf q = 0
        · have HA := fun w1 h1 => ask_any q pq cq w1 h1
          rw [eV_nil k3] at HA
          unfold reqV at HA
          have HX : Hid (valueL es q v = .ok v) := value_val k1 k2 k3
          clear k1 k2 k3
          obtain ⟨x0, x1, x2, x3, x4, x5, x6⟩ := hq_3.cells
          go_wp2_with fail
          refine (HC _ hv_3).mono ?_
          rintro _ w4 ⟨rfl, hbb⟩
          clear x0 x1 x2 x3 x4 x5 x6
          have hb_4 := qbt hb_3 hbb
          have hq_4 := hq_3.up hbb
          have ha_4 := ha_3.up hbb
          have hv_4 := hv_3.up hbb
          clear hbb hb_3 hq_3 ha_3 hv_3
          obtain ⟨x0, x1, x2, x3, x4, x5, x6⟩ := hq_4.cells
          go_wp2_with fail
          refine (HE _ ha_4.el).mono ?_
          rintro _ w5 ⟨rfl, hbb⟩
          clear x0 x1 x2 x3 x4 x5 x6
          have hb_5 := qbt hb_4 hbb
          have hq_5 := hq_4.up hbb
          have ha_5 := ha_4.up hbb
          have hv_5 := hv_4.up hbb
          clear hbb hb_4 hq_4 ha_4 hv_4
          obtain ⟨x0, x1, x2, x3, x4, x5, x6⟩ := hq_5.cells
          go_wp2_with fail
          refine (HA _ ha_5.rq).mono ?_
          rintro _ w6 ⟨rfl, hbb⟩
          clear x0 x1 x2 x3 x4 x5 x6
          have hb_6 := qbt hb_5 hbb
          have hq_6 := hq_5.up hbb
          have ha_6 := ha_5.up hbb
          have hv_6 := hv_5.up hbb
          clear hbb hb_5 hq_5 ha_5 hv_5
          obtain ⟨x0, x1, x2, x3, x4, x5, x6⟩ := hq_6.cells
          go_wp2_with fail
          refine (evalue_arg cs _ ha_6 hv_6 HX.out).mono ?_
          rintro _ w7 ⟨⟨x7, f7, rfl, q7, c7, rfl, rfl, h7⟩, hbb⟩
          clear x0 x1 x2 x3 x4 x5 x6
          have hb_7 := qbt hb_6 hbb
          have hq_7 := hq_6.up hbb
          have ha_7 := ha_6.up hbb
          have hv_7 := hv_6.up hbb
          clear hbb hb_6 hq_6 ha_6 hv_6
          obtain ⟨x0, x1, x2, x3, x4, x5, x6⟩ := hq_7.cells
          go_wp2_with fail
          refine (sameO rfl c7 cv _ h7.nl hv_7.nl (by have := h7.is.len; omega)).mono ?_
          rintro _ w8 ⟨rfl, hbb⟩
          clear x0 x1 x2 x3 x4 x5 x6
          have hb_8 := qbt hb_7 hbb
          have hq_8 := hq_7.up hbb
          have ha_8 := ha_7.up hbb
          have hv_8 := hv_7.up hbb
          clear hbb hb_7 hq_7 ha_7 hv_7
          obtain ⟨x0, x1, x2, x3, x4, x5, x6⟩ := hq_8.cells
          go_wp2_with fail
          go_ret
          exact ⟨rfl, hb_8⟩
        · have HA := fun w1 h1 => ask_any q pq cq w1 h1
          rw [eV_not k3] at HA
          unfold reqV at HA
          clear k1 k2 k3
          generalize askf q = n3 at *
          obtain ⟨x0, x1, x2, x3, x4, x5, x6⟩ := hq_3.cells
          go_wp2_with fail
          refine (HC _ hv_3).mono ?_
          rintro _ w4 ⟨rfl, hbb⟩
          clear x0 x1 x2 x3 x4 x5 x6
          have hb_4 := qbt hb_3 hbb
          have hq_4 := hq_3.up hbb
          have ha_4 := ha_3.up hbb
          have hv_4 := hv_3.up hbb
          clear hbb hb_3 hq_3 ha_3 hv_3
          obtain ⟨x0, x1, x2, x3, x4, x5, x6⟩ := hq_4.cells
          go_wp2_with fail
          refine (HE _ ha_4.el).mono ?_
          rintro _ w5 ⟨rfl, hbb⟩
          clear x0 x1 x2 x3 x4 x5 x6
          have hb_5 := qbt hb_4 hbb
          have hq_5 := hq_4.up hbb
          have ha_5 := ha_4.up hbb
          have hv_5 := hv_4.up hbb
          clear hbb hb_4 hq_4 ha_4 hv_4
          obtain ⟨x0, x1, x2, x3, x4, x5, x6⟩ := hq_5.cells
          go_wp2_with fail
          refine (HA _ ha_5.rq).mono ?_
          rintro _ w6 ⟨rfl, hbb⟩
          clear x0 x1 x2 x3 x4 x5 x6
          have hb_6 := qbt hb_5 hbb
          have hq_6 := hq_5.up hbb
          have ha_6 := ha_5.up hbb
          have hv_6 := hv_5.up hbb
          clear hbb hb_5 hq_5 ha_5 hv_5
          obtain ⟨x0, x1, x2, x3, x4, x5, x6⟩ := hq_6.cells
          go_wp2_with fail
          go_ret
          exact ⟨rfl, hb_6⟩
      · have HE := fun w1 hl1 => entCheck_any es ps cs w1 hl1
        rw [eV_not k2] at HE
        clear k1 k2
        generalize stf es = n3 at *
        obtain ⟨x0, x1, x2, x3, x4, x5, x6⟩ := hq_3.cells
        go_wp2_with fail
        refine (HC _ hv_3).mono ?_
        rintro _ w4 ⟨rfl, hbb⟩
        clear x0 x1 x2 x3 x4 x5 x6
        have hb_4 := qbt hb_3 hbb
        have hq_4 := hq_3.up hbb
        have ha_4 := ha_3.up hbb
        have hv_4 := hv_3.up hbb
        clear hbb hb_3 hq_3 ha_3 hv_3
        obtain ⟨x0, x1, x2, x3, x4, x5, x6⟩ := hq_4.cells
        go_wp2_with fail
        refine (HE _ ha_4.el).mono ?_
        rintro _ w5 ⟨rfl, hbb⟩
        clear x0 x1 x2 x3 x4 x5 x6
        have hb_5 := qbt hb_4 hbb
        have hq_5 := hq_4.up hbb
        have ha_5 := ha_4.up hbb
        have hv_5 := hv_4.up hbb
        clear hbb hb_4 hq_4 ha_4 hv_4
        obtain ⟨x0, x1, x2, x3, x4, x5, x6⟩ := hq_5.cells
        go_wp2_with fail
        go_ret
        exact ⟨rfl, hb_5⟩
    · have HC := fun w1 h1 => vcheck_arg (a := v) (n := v.length) (p := pv) (c := cv) w1 h1
      rw [eV_not k1] at HC
      clear k1
      generalize vfault v = n3 at *
      obtain ⟨x0, x1, x2, x3, x4, x5, x6⟩ := hq_3.cells
      go_wp2_with fail
      refine (HC _ hv_3).mono ?_
      rintro _ w4 ⟨rfl, hbb⟩
      clear x0 x1 x2 x3 x4 x5 x6
      have hb_4 := qbt hb_3 hbb
      have hq_4 := hq_3.up hbb
      have ha_4 := ha_3.up hbb
      have hv_4 := hv_3.up hbb
      clear hbb hb_3 hq_3 ha_3 hv_3
      obtain ⟨x0, x1, x2, x3, x4, x5, x6⟩ := hq_4.cells
      go_wp2_with fail
      go_ret
      exact ⟨rfl, hb_4⟩
  | error n =>
    obtain ⟨rfl, rfl⟩ := hx
    clear hR
    by_cases k1 : vfault v = 0
    · have HC := fun w1 h1 => vcheck_arg (a := v) (n := v.length) (p := pv) (c := cv) w1 h1
      rw [eV_nil k1] at HC
      by_cases k2 : stf es = 0
      · have HE := fun w1 hl1 => entCheck_any es ps cs w1 hl1
        rw [eV_nil k2] at HE
        by_cases k3 : askf q = 0
        · have HA := fun w1 h1 => ask_any q pq cq w1 h1
          rw [eV_nil k3] at HA
          unfold reqV at HA
          have HX : Hid (valueL es q v = .ok v) := value_val k1 k2 k3
          clear k1 k2 k3
          obtain ⟨x0, x1, x2, x3, x4, x5, x6⟩ := hq_2.cells
          go_wp2_with fail
          refine (HC _ hv_2).mono ?_
          rintro _ w3 ⟨rfl, hbb⟩
          clear x0 x1 x2 x3 x4 x5 x6
          have hb_3 := qbt hb_2 hbb
          have hq_3 := hq_2.up hbb
          have ha_3 := ha_2.up hbb
          have hv_3 := hv_2.up hbb
          clear hbb hb_2 hq_2 ha_2 hv_2
          obtain ⟨x0, x1, x2, x3, x4, x5, x6⟩ := hq_3.cells
          go_wp2_with fail
          refine (HE _ ha_3.el).mono ?_
          rintro _ w4 ⟨rfl, hbb⟩
          clear x0 x1 x2 x3 x4 x5 x6
          have hb_4 := qbt hb_3 hbb
          have hq_4 := hq_3.up hbb
          have ha_4 := ha_3.up hbb
          have hv_4 := hv_3.up hbb
          clear hbb hb_3 hq_3 ha_3 hv_3
          obtain ⟨x0, x1, x2, x3, x4, x5, x6⟩ := hq_4.cells
          go_wp2_with fail
          refine (HA _ ha_4.rq).mono ?_
          rintro _ w5 ⟨rfl, hbb⟩
          clear x0 x1 x2 x3 x4 x5 x6
          have hb_5 := qbt hb_4 hbb
          have hq_5 := hq_4.up hbb
          have ha_5 := ha_4.up hbb
          have hv_5 := hv_4.up hbb
          clear hbb hb_4 hq_4 ha_4 hv_4
          obtain ⟨x0, x1, x2, x3, x4, x5, x6⟩ := hq_5.cells
          go_wp2_with fail
          refine (evalue_arg cs _ ha_5 hv_5 HX.out).mono ?_
          rintro _ w6 ⟨⟨x7, f7, rfl, q7, c7, rfl, rfl, h7⟩, hbb⟩
          clear x0 x1 x2 x3 x4 x5 x6
          have hb_6 := qbt hb_5 hbb
          have hq_6 := hq_5.up hbb
          have ha_6 := ha_5.up hbb
          have hv_6 := hv_5.up hbb
          clear hbb hb_5 hq_5 ha_5 hv_5
          obtain ⟨x0, x1, x2, x3, x4, x5, x6⟩ := hq_6.cells
          go_wp2_with fail
          refine (sameO rfl c7 cv _ h7.nl hv_6.nl (by have := h7.is.len; omega)).mono ?_
          rintro _ w7 ⟨rfl, hbb⟩
          clear x0 x1 x2 x3 x4 x5 x6
          have hb_7 := qbt hb_6 hbb
          have hq_7 := hq_6.up hbb
          have ha_7 := ha_6.up hbb
          have hv_7 := hv_6.up hbb
          clear hbb hb_6 hq_6 ha_6 hv_6
          obtain ⟨x0, x1, x2, x3, x4, x5, x6⟩ := hq_7.cells
          go_wp2_with fail
          go_ret
          exact ⟨rfl, hb_7⟩
        · have HA := fun w1 h1 => ask_any q pq cq w1 h1
          rw [eV_not k3] at HA
          unfold reqV at HA
          clear k1 k2 k3
          generalize askf q = n3 at *
          obtain ⟨x0, x1, x2, x3, x4, x5, x6⟩ := hq_2.cells
          go_wp2_with fail
          refine (HC _ hv_2).mono ?_
          rintro _ w3 ⟨rfl, hbb⟩
          clear x0 x1 x2 x3 x4 x5 x6
          have hb_3 := qbt hb_2 hbb
          have hq_3 := hq_2.up hbb
          have ha_3 := ha_2.up hbb
          have hv_3 := hv_2.up hbb
          clear hbb hb_2 hq_2 ha_2 hv_2
          obtain ⟨x0, x1, x2, x3, x4, x5, x6⟩ := hq_3.cells
          go_wp2_with fail
          refine (HE _ ha_3.el).mono ?_
          rintro _ w4 ⟨rfl, hbb⟩
          clear x0 x1 x2 x3 x4 x5 x6
          have hb_4 := qbt hb_3 hbb
          have hq_4 := hq_3.up hbb
          have ha_4 := ha_3.up hbb
          have hv_4 := hv_3.up hbb
          clear hbb hb_3 hq_3 ha_3 hv_3
          obtain ⟨x0, x1, x2, x3, x4, x5, x6⟩ := hq_4.cells
          go_wp2_with fail
          refine (HA _ ha_4.rq).mono ?_
          rintro _ w5 ⟨rfl, hbb⟩
          clear x0 x1 x2 x3 x4 x5 x6
          have hb_5 := qbt hb_4 hbb
          have hq_5 := hq_4.up hbb
          have ha_5 := ha_4.up hbb
          have hv_5 := hv_4.up hbb
          clear hbb hb_4 hq_4 ha_4 hv_4
          obtain ⟨x0, x1, x2, x3, x4, x5, x6⟩ := hq_5.cells
          go_wp2_with fail
          go_ret
          exact ⟨rfl, hb_5⟩
      · have HE := fun w1 hl1 => entCheck_any es ps cs w1 hl1
        rw [eV_not k2] at HE
        clear k1 k2
        generalize stf es = n3 at *
        obtain ⟨x0, x1, x2, x3, x4, x5, x6⟩ := hq_2.cells
        go_wp2_with fail
        refine (HC _ hv_2).mono ?_
        rintro _ w3 ⟨rfl, hbb⟩
        clear x0 x1 x2 x3 x4 x5 x6
        have hb_3 := qbt hb_2 hbb
        have hq_3 := hq_2.up hbb
        have ha_3 := ha_2.up hbb
        have hv_3 := hv_2.up hbb
        clear hbb hb_2 hq_2 ha_2 hv_2
        obtain ⟨x0, x1, x2, x3, x4, x5, x6⟩ := hq_3.cells
        go_wp2_with fail
        refine (HE _ ha_3.el).mono ?_
        rintro _ w4 ⟨rfl, hbb⟩
        clear x0 x1 x2 x3 x4 x5 x6
        have hb_4 := qbt hb_3 hbb
        have hq_4 := hq_3.up hbb
        have ha_4 := ha_3.up hbb
        have hv_4 := hv_3.up hbb
        clear hbb hb_3 hq_3 ha_3 hv_3
        obtain ⟨x0, x1, x2, x3, x4, x5, x6⟩ := hq_4.cells
        go_wp2_with fail
        go_ret
        exact ⟨rfl, hb_4⟩
    · have HC := fun w1 h1 => vcheck_arg (a := v) (n := v.length) (p := pv) (c := cv) w1 h1
      rw [eV_not k1] at HC
      clear k1
      generalize vfault v = n3 at *
      obtain ⟨x0, x1, x2, x3, x4, x5, x6⟩ := hq_2.cells
      go_wp2_with fail
      refine (HC _ hv_2).mono ?_
      rintro _ w3 ⟨rfl, hbb⟩
      clear x0 x1 x2 x3 x4 x5 x6
      have hb_3 := qbt hb_2 hbb
      have hq_3 := hq_2.up hbb
      have ha_3 := ha_2.up hbb
      have hv_3 := hv_2.up hbb
      clear hbb hb_2 hq_2 ha_2 hv_2
      obtain ⟨x0, x1, x2, x3, x4, x5, x6⟩ := hq_3.cells
      go_wp2_with fail
      go_ret
      exact ⟨rfl, hb_3⟩
end Go.Proofs.YtglhjhbhijekjaaGreatDoor
