/- Package kinds: isType, areFields, isField, by walks of their own texts. -/
import Derived.Test.YtjbjheeigdblkabKiP
import Derived.Test.YtjbjheeigdblkabPast
import Derived.Laws.StructEq
namespace Go.Proofs.Ytjbjheeigdblkab
open Go.RowKit
set_option linter.unusedVariables false
set_option maxRecDepth 100000

/-- The row of one part. -/
theorem VK.single {w : World} {a : Nd} {ka : Tp} {v : Value} {S : Nat → Prop} (h : VK w (.cons a ka .nil) v S) : ∃ g cap ua, v = .slice (some ⟨g, 0, none⟩) 1 cap ∧ PC w g 0 a ua ∧ a.wf ∧ VK w ka ua S := by
  obtain ⟨g, cap, ua, hv, h1, h2, h3, _⟩ := VK.at (a := .nil) h
  refine ⟨g, cap, ua, hv, ?_, h2, h3⟩
  simpa [Tp.len] using h1
/-- What isType does. -/
def IsTyK (x : Nd) (k : Tp) : Prop := ∀ (w : World) (v : Value) (S : Nat → Prop), VK w k v S → x.wf → arK (.cons x k .nil) → k.flat.length ≤ 1000 →
  Calls Try.prog 26 #[partV x v] w fun e w' => e = .returned (.bool (isTy none (.cons x k .nil))) ∧ Below w.heap.size w w'
/-- What areFields does. -/
def AreFK (k : Tp) : Prop := ∀ (w : World) (v : Value) (S : Nat → Prop), VK w k v S → arK k → k.flat.length ≤ 1000 →
  Calls Try.prog 37 #[v] w fun e w' => e = .returned (.bool (isTy (some e0) k)) ∧ Below w.heap.size w w'
theorem be0 {s : ByteArray} : s = e0 ↔ s.toList = [] := by
  rw [ByteArray.toList_eq]
  constructor
  · rintro rfl; rfl
  · intro h; exact bytes_inj (by rw [h]; rfl)
theorem ty_leaf (o n : Int) (s t : ByteArray) (ho : o = 41 ∨ o = 42 ∨ o = 43 ∨ o = 48 ∨ o = 49) : isTy none (.cons ⟨o, n, s, t⟩ .nil .nil) = decide (n = 0 ∧ s.toList = [] ∧ t.toList = []) := by
  rw [Bool.eq_iff_iff, isTy_none_cons, decide_eq_true_iff, ← be0, ← be0]
  constructor
  · rintro ⟨h, _⟩; cases h <;> first | exact ⟨rfl, rfl, rfl⟩ | omega
  · rintro ⟨rfl, rfl, rfl⟩; exact ⟨.leaf o ho, rfl⟩
theorem ty_ent (n : Int) (s t : ByteArray) : isTy none (.cons ⟨44, n, s, t⟩ .nil .nil) = decide (n = 0 ∧ t.toList = [] ∧ nfault s.data.toList = 0) := by
  rw [Bool.eq_iff_iff, isTy_none_cons, decide_eq_true_iff, ← be0]
  constructor
  · rintro ⟨h, _⟩
    cases h with
    | leaf op h => omega
    | ent s h => exact ⟨rfl, rfl, h⟩
  · rintro ⟨rfl, rfl, h⟩; exact ⟨.ent s h, rfl⟩
theorem ty_set (n : Int) (s t : ByteArray) (k : Tp) (hk : k.len = 1) : isTy none (.cons ⟨45, n, s, t⟩ k .nil) = (decide (n = 0 ∧ s.toList = [] ∧ t.toList = []) && isTy none k) := by
  rw [Bool.eq_iff_iff, isTy_none_cons, Bool.and_eq_true, decide_eq_true_iff, ← be0, ← be0]
  constructor
  · rintro ⟨h, _⟩
    cases h with
    | leaf op h => omega
    | set k h => exact ⟨⟨rfl, rfl, rfl⟩, h.2⟩
  · rintro ⟨⟨rfl, rfl, rfl⟩, h⟩; exact ⟨.set k ⟨hk, h⟩, rfl⟩
theorem ty_rcd (n : Int) (s t : ByteArray) (k : Tp) (hk : k.len = n.toNat) : isTy none (.cons ⟨46, n, s, t⟩ k .nil) = (decide (s.toList = [] ∧ t.toList = [] ∧ 0 ≤ n) && isTy (some e0) k) := by
  rw [Bool.eq_iff_iff, isTy_none_cons, Bool.and_eq_true, decide_eq_true_iff, ← be0, ← be0]
  constructor
  · rintro ⟨h, _⟩
    cases h with
    | leaf op h => omega
    | rcd k h => exact ⟨⟨rfl, rfl, by omega⟩, h⟩
  · rintro ⟨⟨rfl, rfl, h0⟩, h⟩
    obtain rfl : n = (k.len : Int) := by omega
    exact ⟨.rcd k h, rfl⟩
theorem ty_not (x : Nd) (k : Tp) (h : ¬ (41 ≤ x.op ∧ x.op ≤ 46 ∨ x.op = 48 ∨ x.op = 49)) : isTy none (.cons x k .nil) = false := by
  cases e : isTy none (.cons x k .nil) with
  | false => rfl
  | true =>
    obtain ⟨h1, _⟩ := isTy_none_cons.1 e
    cases h1 with
    | leaf op h2 => exact absurd (show 41 ≤ (lfN op).op ∧ (lfN op).op ≤ 46 ∨ (lfN op).op = 48 ∨ (lfN op).op = 49 by have : (lfN op).op = op := rfl; omega) h
    | ent s h2 => exact absurd (.inl ⟨by simp, by simp⟩) h
    | set k h2 => exact absurd (.inl ⟨by decide, by decide⟩) h
    | rcd k h2 => exact absurd (.inl ⟨by simp, by simp⟩) h
theorem retb {a b : Bool} (h : a = b) : Ending.returned (.bool a) = .returned (.bool b) := by rw [h]
set_option maxHeartbeats 4000000 in
theorem isTy_leaf (o n : Int) (s t : ByteArray) (k : Tp) (ho : o = 41 ∨ o = 42 ∨ o = 43 ∨ o = 48 ∨ o = 49) : IsTyK ⟨o, n, s, t⟩ k := by
  intro w v S hv hx har hl
  obtain ⟨hk, _, _⟩ := har
  have hk0 : k = .nil := tp_len0 (by rw [← hk]; unfold cntK; simp only []; rw [if_neg (by omega), if_neg (by omega)]; rfl)
  subst hk0
  obtain ⟨q, c, rfl, _⟩ := hv.slice
  rw [ty_leaf o n s t ho]
  have HL : Hid (∀ o1, Below w.heap.size w (w.alloc o1)) := fun o1 => kqx
  clear hv hk hx hl
  unfold partV
  dsimp only
  rcases ho with rfl | rfl | rfl | rfl | rfl
  all_goals
    go_enter Try.func26, Try.ntmps26
    go_wp2
    all_goals
      go_ret
      refine ⟨retb ?_, HL.out _⟩
      simp_all
set_option maxHeartbeats 4000000 in
theorem isTy_ent (n : Int) (s t : ByteArray) (k : Tp) : IsTyK ⟨44, n, s, t⟩ k := by
  intro w v S hv hx har hl
  obtain ⟨hk, _, _⟩ := har
  have hk0 : k = .nil := tp_len0 (by rw [← hk]; rfl)
  subst hk0
  obtain ⟨q, c, rfl, _⟩ := hv.slice
  rw [ty_ent n s t]
  have HL : Hid (∀ o1, Below w.heap.size w (w.alloc o1)) := fun o1 => kqx
  have HC := fun w => check_any s w hx.1
  clear hv hk hx hl
  unfold partV
  dsimp only
  by_cases hn : nfault s.data.toList = 0
  · rw [eV_nil hn] at HC
    go_enter Try.func26, Try.ntmps26
    go_wp2_with (go_at_call 36; refine (HC _).mono ?_; rintro e w1 ⟨rfl, rfl⟩)
    all_goals
      go_ret
      refine ⟨retb ?_, HL.out _⟩
      simp_all
  · rw [eV_not hn] at HC
    go_enter Try.func26, Try.ntmps26
    go_wp2_with (go_at_call 36; refine (HC _).mono ?_; rintro e w1 ⟨rfl, rfl⟩)
    all_goals
      go_ret
      refine ⟨retb ?_, HL.out _⟩
      simp_all
set_option maxHeartbeats 4000000 in
theorem isTy_set (n : Int) (s t : ByteArray) (k : Tp) (ih : ∀ y ky, ky.flat.length < k.flat.length → IsTyK y ky) : IsTyK ⟨45, n, s, t⟩ k := by
  intro w v S hv hx har hl
  obtain ⟨hk, hak, _⟩ := har
  have hk1 : k.len = 1 := by rw [← hk]; rfl
  rw [ty_set n s t k hk1]
  obtain ⟨y, ky, rfl⟩ := tp_len1 hk1
  obtain ⟨g, cap, u, rfl, hP, hyw, hu⟩ := hv.single
  obtain ⟨qu, cu, rfl, _⟩ := hu.slice
  simp only [Tp.flat, List.append_nil, List.length_cons] at ih hl
  have HL : Hid (∀ o1, Below w.heap.size w (w.alloc o1)) := fun o1 => kqx
  have HI := fun o1 => ih y ky (by omega) (w.alloc o1) _ S (hu.up (HL.out o1)) hyw hak (by omega)
  have HB : Hid (∀ o1 w', Below (w.alloc o1).heap.size (w.alloc o1) w' → Below w.heap.size w w') := fun o1 w' h => kqt (HL.out o1) h
  obtain ⟨c0, c1, c2, c3, c4⟩ := hP.cells
  dsimp only [Nat.zero_add, Nat.reduceAdd] at c0 c1 c2 c3 c4
  have hgl := hP.lt
  have n1 : ¬ g = w.heap.size := by omega
  clear hv hk hx hl hak ih hu hyw hk1 hP
  unfold partV at *
  dsimp only
  cases hb : isTy none (.cons y ky .nil) <;> rw [hb] at HI
  all_goals
    clear hb
    go_enter Try.func26, Try.ntmps26
    go_wp2_with (go_at_call 26; refine (HI _).mono ?_; rintro e w1 ⟨rfl, hb1⟩)
    all_goals
      go_ret
      refine ⟨retb ?_, by first | exact HL.out _ | exact HB.out _ _ hb1⟩
      simp_all
theorem leqK_no {a b : ByteArray} (h : cmpB b a < 0) : Op.bytesLess a.toList b.toList = false ∧ (a.toList == b.toList) = false := by
  rw [bytesLess_cb, ByteArray.toList_eq, ByteArray.toList_eq]
  have h1 := cmpB_is.neg a b
  refine ⟨?_, ?_⟩
  · rw [decide_eq_false_iff_not]
    show ¬ cmpB a b < 0
    omega
  · rw [beq_eq_false_iff_ne]
    intro e
    rw [bytes_inj e, cmpB_is.self] at h
    omega
theorem leqK_yes {a b : ByteArray} (h : ¬ cmpB b a < 0) : Op.bytesLess a.toList b.toList = true ∨ (Op.bytesLess a.toList b.toList = false ∧ (a.toList == b.toList) = true) := by
  rw [bytesLess_cb, ByteArray.toList_eq, ByteArray.toList_eq]
  have h1 := cmpB_is.neg a b
  by_cases h0 : cmpB a b < 0
  · exact .inl (decide_eq_true h0)
  · refine .inr ⟨decide_eq_false h0, ?_⟩
    rw [beq_iff_eq]
    have : a = b := (cmpB_is.zero a b).1 (by omega)
    rw [this]
set_option maxHeartbeats 4000000 in
theorem isTy_rcd (n : Int) (s t : ByteArray) (k : Tp) (ih : AreFK k) : IsTyK ⟨46, n, s, t⟩ k := by
  intro w v S hv hx har hl
  obtain ⟨hk, hak, _⟩ := har
  have hk1 : k.len = n.toNat := hk.symm
  rw [ty_rcd n s t k hk1]
  obtain ⟨q, c, rfl, _⟩ := hv.slice
  have HL : Hid (∀ o1, Below w.heap.size w (w.alloc o1)) := fun o1 => kqx
  have HI := fun o1 => ih (w.alloc o1) _ S (hv.up (HL.out o1)) hak hl
  have HB : Hid (∀ o1 w', Below (w.alloc o1).heap.size (w.alloc o1) w' → Below w.heap.size w w') := fun o1 w' h => kqt (HL.out o1) h
  clear hv hk hx hl hak ih hk1
  unfold partV at *
  dsimp only
  cases hb : isTy (some e0) k <;> rw [hb] at HI
  all_goals
    clear hb
    go_enter Try.func26, Try.ntmps26
    go_wp2_with (go_at_call 37; refine (HI _).mono ?_; rintro e w1 ⟨rfl, hb1⟩)
    all_goals
      go_ret
      refine ⟨retb ?_, by first | exact HL.out _ | exact HB.out _ _ hb1⟩
      simp_all
set_option maxHeartbeats 4000000 in
theorem isTy_none (x : Nd) (k : Tp) (h : ¬ (41 ≤ x.op ∧ x.op ≤ 46 ∨ x.op = 48 ∨ x.op = 49)) : IsTyK x k := by
  intro w v S hv hx har hl
  rw [ty_not x k h]
  obtain ⟨q, c, rfl, _⟩ := hv.slice
  obtain ⟨xo, xn, xs, xt⟩ := x
  have HL : Hid (∀ o1, Below w.heap.size w (w.alloc o1)) := fun o1 => kqx
  clear hv hx har hl
  dsimp only at h
  have e1 : (xo == 41) = false := by rw [beq_eq_false_iff_ne]; omega
  have e2 : (xo == 42) = false := by rw [beq_eq_false_iff_ne]; omega
  have e3 : (xo == 43) = false := by rw [beq_eq_false_iff_ne]; omega
  have e4 : (xo == 44) = false := by rw [beq_eq_false_iff_ne]; omega
  have e5 : (xo == 45) = false := by rw [beq_eq_false_iff_ne]; omega
  have e6 : (xo == 46) = false := by rw [beq_eq_false_iff_ne]; omega
  have e7 : (xo == 48) = false := by rw [beq_eq_false_iff_ne]; omega
  have e8 : (xo == 49) = false := by rw [beq_eq_false_iff_ne]; omega
  clear h
  unfold partV
  dsimp only
  go_enter Try.func26, Try.ntmps26
  go_wp2
  go_ret
  exact ⟨rfl, HL.out _⟩
/-- May a part be a field of a record's type? -/
def fldB (x : Nd) (k : Tp) : Bool := decide (x.op = 47 ∧ (x.n = 0 ∨ x.n = 1) ∧ x.t.toList = [] ∧ nfault x.s.data.toList = 0) && isTy none k
theorem ty_flds {l : ByteArray} {x : Nd} {k r : Tp} (hk : x.op = 47 → k.len = 1) : isTy (some l) (.cons x k r) = (fldB x k && (decide (cmpB l x.s < 0) && isTy (some x.s) r)) := by
  have := Fl.cons_iff (l := l) (f := x) (kf := k) (r := r)
  unfold Fl T1 at this
  rw [Bool.eq_iff_iff, this]
  unfold fldB
  simp only [Bool.and_eq_true, decide_eq_true_eq, ← be0]
  constructor
  · rintro ⟨⟨a, b, c, d, e⟩, ⟨f, g⟩, h⟩; exact ⟨⟨⟨a, b, c, d⟩, g⟩, e, h⟩
  · rintro ⟨⟨⟨a, b, c, d⟩, g⟩, e, h⟩; exact ⟨⟨a, b, c, d, e⟩, ⟨hk a, g⟩, h⟩
set_option maxHeartbeats 4000000 in
theorem isField_any (x : Nd) (k : Tp) (ih : ∀ y ky, ky.flat.length < k.flat.length → IsTyK y ky) (w : World) (v : Value) (S : Nat → Prop) (hv : VK w k v S) (hx : x.wf) (har : arK (.cons x k .nil)) (hl : k.flat.length ≤ 1000) :
    Calls Try.prog 45 #[partV x v] w fun e w' => e = .returned (.bool (fldB x k)) ∧ Below w.heap.size w w' := by
  obtain ⟨xo, xn, xs, xt⟩ := x
  obtain ⟨hk, hak, _⟩ := har
  have HL : Hid (∀ o1, Below w.heap.size w (w.alloc o1)) := fun o1 => kqx
  have HB : Hid (∀ o1 w', Below (w.alloc o1).heap.size (w.alloc o1) w' → Below w.heap.size w w') := fun o1 w' h => kqt (HL.out o1) h
  have HC := fun w => check_any xs w hx.1
  unfold partV fldB at *
  dsimp only at *
  by_cases h47 : xo = 47
  · subst h47
    have hk1 : k.len = 1 := by rw [← hk]; rfl
    obtain ⟨y, ky, rfl⟩ := tp_len1 hk1
    obtain ⟨g, cap, u, rfl, hP, hyw, hu⟩ := hv.single
    obtain ⟨qu, cu, rfl, _⟩ := hu.slice
    simp only [Tp.flat, List.append_nil, List.length_cons] at ih hl
    have HI := fun o1 => ih y ky (by omega) (w.alloc o1) _ S (hu.up (HL.out o1)) hyw hak (by omega)
    obtain ⟨c0, c1, c2, c3, c4⟩ := hP.cells
    dsimp only [Nat.zero_add, Nat.reduceAdd] at c0 c1 c2 c3 c4
    have hgl := hP.lt
    have n1 : ¬ g = w.heap.size := by omega
    clear hv hk hx hl hak ih hu hyw hk1 hP
    unfold partV at *
    by_cases hn : nfault xs.data.toList = 0
    · rw [eV_nil hn] at HC
      cases hb : isTy none (.cons y ky .nil) <;> rw [hb] at HI
      all_goals
        clear hb
        go_enter Try.func45, Try.ntmps45
        go_wp2_with (first | (go_at_call 26; refine (HI _).mono ?_; rintro e w1 ⟨rfl, hb1⟩) | (go_at_call 36; refine (HC _).mono ?_; rintro e w1 ⟨rfl, rfl⟩))
        all_goals
          go_ret
          refine ⟨retb ?_, by first | exact HL.out _ | exact HB.out _ _ hb1⟩
          simp_all
    · rw [eV_not hn] at HC
      go_enter Try.func45, Try.ntmps45
      go_wp2_with (first | (go_at_call 36; refine (HC _).mono ?_; rintro e w1 ⟨rfl, rfl⟩))
      all_goals
        go_ret
        refine ⟨retb ?_, HL.out _⟩
        simp_all
  · obtain ⟨q, c, rfl, _⟩ := hv.slice
    have e1 : (xo == 47) = false := by rw [beq_eq_false_iff_ne]; omega
    have HF : Hid ((decide (xo = 47 ∧ (xn = 0 ∨ xn = 1) ∧ xt.toList = [] ∧ nfault xs.data.toList = 0) && isTy none k) = false) := by show _ = _; simp [h47]
    rw [HF.out]
    clear hv hk hx hl hak ih HF
    go_enter Try.func45, Try.ntmps45
    go_wp2
    all_goals
      go_ret
      exact ⟨rfl, HL.out _⟩
end Go.Proofs.Ytjbjheeigdblkab
