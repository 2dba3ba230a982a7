/- Expressions as they are written, plain: what is written is read as it was. No program is named here. The words that are written can be spelt, plain. No program is named here. The words of an expression do not change with more fuel, or with what stands behind it, plain. No program is named here. What words say, plain: the whole of it, and what follows. No program is named here. The first lines of the statements of chapter 9: what their words are, and what the words say. What a reader of words sees, step by step, plain: words that stand for themselves, how long a form is, the parser's steps. No program is named here. Numbers as the library reads and writes them, plain. No program is named here. The quiet walk over a region that draws its order and calls what lays blocks. No program is named here. The fields of a record, one by one, plain. No program is named here. -/
import Derived.Test.YtpbnjdgedifnoaaGreatDoorG2
import Derived.Test.YtpbnjdgedifnoaaGreatDoorG1
import Derived.KernelRfl
import Derived.Lib.AtoiAll
import Derived.WalkKit
import Derived.Below
import Derived.Deep.RegionWith
import Derived.Deep.QuietTactic
import Derived.BigQuiet
namespace Go.Proofs.YtpbnjdgedifnoaaGreatDoor
set_option linter.unusedVariables false

theorem ex_rng {x : Nd} (h : exOk x = true) : 1 ≤ x.op ∧ x.op ≤ 27 := by
  unfold exOk at h
  split at h
  · omega
  · split at h
    · cases h
    · rename_i h1 h2
      unfold prt at h2
      split at h2
      · omega
      · split at h2
        · omega
        · split at h2
          · omega
          · split at h2
            · omega
            · split at h2
              · omega
              · omega
/-- A node with nothing but its op. -/
theorem ex_plain {x : Nd} (h : exOk x = true) (h9 : 9 ≤ x.op) (hn : ¬ (21 ≤ x.op ∧ x.op ≤ 24)) : x = opN x.op := by
  have hr := ex_rng h
  unfold exOk at h
  rw [if_neg (by omega)] at h
  split at h
  · cases h
  · rw [if_neg (by omega), if_neg (by omega), if_neg (by omega)] at h
    simp only [Bool.and_eq_true, beq_iff_eq] at h
    have e := nd_eq x
    rw [h.1.1, data_nil h.1.2, data_nil h.2] at e
    exact e
theorem ex_named {x : Nd} (h : exOk x = true) (h9 : 8 ≤ x.op) (hn : x.op = 8 ∨ 21 ≤ x.op ∧ x.op ≤ 24) : x = mkN x.op 0 x.s.data.toList [] := by
  unfold exOk at h
  rw [if_neg (by omega)] at h
  split at h
  · cases h
  · simp only [Bool.and_eq_true, beq_iff_eq] at h
    have e := nd_eq x
    rw [h.1.1, data_nil h.1.2] at e
    exact e
theorem ex_name {x : Nd} (h : exOk x = true) (hn : x.op = 21 ∨ x.op = 22 ∨ x.op = 24) : nfault x.s.data.toList = 0 := by
  unfold exOk at h
  rw [if_neg (by omega)] at h
  split at h
  · cases h
  · rw [if_neg (by omega)] at h
    simp only [Bool.and_eq_true, beq_iff_eq] at h
    exact h.2
theorem ex_var {x : Nd} (h : exOk x = true) (h8 : x.op = 8) : varOk x.s.data.toList = true := by
  unfold exOk at h
  rw [if_neg (by omega)] at h
  split at h
  · cases h
  · simp only [Bool.and_eq_true, beq_iff_eq] at h
    exact h.2
theorem ex_value {x : Nd} (h : exOk x = true) (h7 : x.op ≤ 7) : ndOk x = true := by
  have := ex_rng h
  unfold exOk at h
  rw [if_pos (by omega)] at h
  exact h

theorem lvl_sign {op : Int} (h : lftL (lvO op)) (h8 : 1 ≤ op ∧ op ≤ 27) : lvlS (lvO op) (signW op) = true ∧ opOf (signW op) = op := by
  have : op = 11 ∨ op = 12 ∨ op = 17 ∨ op = 18 ∨ op = 19 := by
    unfold lvO lftL at h
    repeat' split at h
    all_goals omega
  rcases this with h | h | h | h | h <;> subst h <;> decide
theorem rel_sign {op : Int} (h : lvO op = 3) (h2 : op ≠ 21 ∧ op ≠ 23 ∧ op ≠ 24) : relS (signW op) = true ∧ opOf (signW op) = op := by
  have : op = 14 ∨ op = 15 ∨ op = 16 ∨ op = 20 := by
    unfold lvO at h
    repeat' split at h
    all_goals omega
  rcases this with h | h | h | h <;> subst h <;> decide
theorem call_sign {op : Int} (h : lvO op = 7) (h2 : op ≠ 22) : isCall (nmW (callW op)) = true ∧ callOp (nmW (callW op)) = op := by
  have : op = 25 ∨ op = 26 ∨ op = 27 := by
    unfold lvO at h
    repeat' split at h
    all_goals omega
  rcases this with h | h | h <;> subst h <;> decide

theorem atom_der {x : Nd} (hx : exOk x = true) (hn : n64 x) (ho : x.op = 1 ∨ x.op = 2 ∨ x.op = 3 ∨ x.op = 4 ∨ x.op = 8) : Der 8 (atomW x) [x] := by
  have e := nd_eq x
  rcases ho with h | h | h | h | h
  · have hv := ex_value hx (by omega)
    unfold ndOk at hv
    rw [if_pos h] at hv
    simp only [Bool.and_eq_true, Bool.or_eq_true, beq_iff_eq] at hv
    rw [h, data_nil hv.1.1, data_nil hv.1.2] at e
    unfold atomW
    rw [if_pos h]
    rcases hv.2 with h0 | h0
    · rw [h0] at e
      rw [h0, if_neg (by omega), e]; exact Der.no _ rfl
    · rw [h0] at e
      rw [h0, if_pos rfl, e]; exact Der.yes _ rfl
  · have hv := ex_value hx (by omega)
    unfold ndOk at hv
    rw [if_neg (by omega), if_pos h] at hv
    simp only [Bool.and_eq_true] at hv
    rw [h, data_nil hv.1, data_nil hv.2] at e
    have hn := hn h
    unfold atomW
    rw [if_neg (by omega), if_pos h]
    by_cases h0 : x.n < 0
    · rw [if_pos h0]
      have := Der.mnum (sgW [45]) (numW x.n.natAbs) rfl rfl (numW_great (by simp; omega))
      rw [numW_val] at this
      have e2 : (if true = true then -(x.n.natAbs : Int) else (x.n.natAbs : Int)) = x.n := by simp; omega
      rw [e2, ← e] at this
      exact this
    · rw [if_neg h0]
      have := Der.num (numW x.n.natAbs) rfl (numW_great (by simp; omega))
      rw [numW_val] at this
      have e2 : (if false = true then -(x.n.natAbs : Int) else (x.n.natAbs : Int)) = x.n := by simp; omega
      rw [e2, ← e] at this
      exact this
  · have hv := ex_value hx (by omega)
    unfold ndOk at hv
    rw [if_neg (by omega), if_neg (by omega), if_pos h] at hv
    simp only [Bool.and_eq_true, beq_iff_eq] at hv
    rw [h, hv.1.1, data_nil hv.1.2] at e
    unfold atomW
    rw [if_neg (by omega), if_neg (by omega), if_pos h]
    have := Der.text (qtW x.s.data.toList) rfl
    rw [show (qtW x.s.data.toList).l = x.s.data.toList from rfl, ← e] at this
    exact this
  · have hv := ex_value hx (by omega)
    unfold ndOk at hv
    rw [if_neg (by omega), if_neg (by omega), if_neg (by omega), if_pos h] at hv
    simp only [Bool.and_eq_true, beq_iff_eq] at hv
    rw [h, hv.1.1] at e
    unfold atomW
    rw [if_neg (by omega), if_neg (by omega), if_neg (by omega), if_pos h]
    have := Der.ent (nmW x.s.data.toList) (sgW [58, 58]) (qtW x.t.data.toList) rfl rfl rfl
    rw [show (nmW x.s.data.toList).l = x.s.data.toList from rfl, show (qtW x.t.data.toList).l = x.t.data.toList from rfl, ← e] at this
    exact this
  · have hv := ex_var hx h
    have e := ex_named hx (by omega) (Or.inl h)
    rw [h] at e
    unfold atomW
    rw [if_neg (by omega), if_neg (by omega), if_neg (by omega), if_neg (by omega)]
    unfold varOk at hv
    by_cases hq : x.s.data.toList.head? = some 63
    · rw [if_pos hq]
      have := Der.slot (mkT 4 x.s.data.toList.tail 0) rfl
      have el : 63 :: (mkT 4 x.s.data.toList.tail 0).l = x.s.data.toList := by
        show 63 :: x.s.data.toList.tail = _
        cases hl : x.s.data.toList with
        | nil => rw [hl] at hq; cases hq
        | cons c r => rw [hl] at hq; injection hq with hq; rw [hq]; rfl
      rw [el, ← e] at this
      exact this
    · rw [if_neg hq] at hv ⊢
      simp only [Bool.and_eq_true, beq_iff_eq, Bool.not_eq_true'] at hv
      have := Der.var (nmW x.s.data.toList) rfl (fun ht => by rw [show x.s.data.toList = wTrue from ht] at hv; exact absurd hv.2 (by decide)) (fun ht => by rw [show x.s.data.toList = wFalse from ht] at hv; exact absurd hv.2 (by decide)) hv.2
      rw [show (nmW x.s.data.toList).l = x.s.data.toList from rfl, ← e] at this
      exact this

theorem negW_der {a : List Tk} {x : List Nd} (h : Der 6 a x) : Der 6 (sgW [45] :: negW a) (opN 10 :: x) := by
  unfold negW
  by_cases hn : nextNum a = true
  · rw [if_pos hn]
    exact Der.neg _ _ _ rfl rfl (der_brk (der_to h (by omega) (by omega)) (by omega))
  · rw [if_neg hn]
    exact Der.neg _ _ _ rfl (by simpa using hn) h

theorem wd_der : ∀ (f : Nat) (v r : List Nd), pastE f v = some r → (∀ x ∈ v, n64 x) → WD f v r
  | 0, v, r, h, _ => by simp [pastE] at h
  | f + 1, v, r, h, hN => by
    have ih := wd_der f
    obtain ⟨g, x, m, e, e', h7, hx, hr⟩ := pastE_cons h
    obtain rfl : f = g := by omega
    subst e'
    have hr1 := ex_rng hx
    have hNm : ∀ y ∈ m, n64 y := fun y hy => hN y (List.mem_cons_of_mem _ hy)
    unfold WD
    show ∃ a, x :: m = a ++ r ∧ Der (lvO x.op) (wdE (f + 1) (x :: m)) a
    rw [wdE]
    by_cases c13 : x.op = 13
    · rw [if_pos c13]
      rcases hr with ⟨h6, _⟩ | ⟨_, hp⟩
      · omega
      · have e3 : (prt x).toNat = 3 := by unfold prt; rw [c13]; rfl
        rw [e3] at hp
        obtain ⟨s1, p1, hp⟩ := partsE_one hp
        obtain ⟨s2, p2, hp⟩ := partsE_one hp
        obtain ⟨s3, p3, hp⟩ := partsE_one hp
        obtain ⟨a1, e1, d1⟩ := (ih m s1 p1 hNm).zero
        have hN1 : ∀ y ∈ s1, n64 y := fun y hy => hNm y (by rw [e1]; exact List.mem_append_right _ hy)
        obtain ⟨a2, e2, d2⟩ := (ih s1 s2 p2 hN1).zero
        have hN2 : ∀ y ∈ s2, n64 y := fun y hy => hN1 y (by rw [e2]; exact List.mem_append_right _ hy)
        obtain ⟨a3, e3, d3⟩ := (ih s2 s3 p3 hN2).zero
        have e4 := partsE_end hp
        subst e4
        refine ⟨x :: (a1 ++ (a2 ++ a3)), by rw [e1, e2, e3]; simp, ?_⟩
        rw [nxt_of p1, nxt_of p2, ex_plain hx (by omega) (by omega), c13]
        exact Der.ite _ _ _ _ _ _ _ _ _ rfl rfl rfl d1 d2 d3
    rw [if_neg c13]
    by_cases cl : lvO x.op = 1 ∨ lvO x.op = 2 ∨ lvO x.op = 4 ∨ lvO x.op = 5
    · rw [if_pos cl]
      obtain ⟨s1, s2⟩ := lvl_sign cl hr1
      have ho : 11 ≤ x.op ∧ x.op ≤ 19 := by
        unfold lvO at cl
        repeat' split at cl
        all_goals omega
      rcases hr with ⟨h6, _⟩ | ⟨_, hp⟩
      · omega
      · have e3 : (prt x).toNat = 2 := by
          unfold prt
          rw [if_neg (by omega), if_neg (by omega), if_neg (by omega), if_neg (by omega), if_pos (by omega)]; rfl
        rw [e3] at hp
        obtain ⟨r1, p1, hp⟩ := partsE_one hp
        obtain ⟨r2, p2, hp⟩ := partsE_one hp
        obtain ⟨a1, e1, d1⟩ := (ih m r1 p1 hNm).part (lvO x.op) (lvO_le _)
        have hN1 : ∀ y ∈ r1, n64 y := fun y hy => hNm y (by rw [e1]; exact List.mem_append_right _ hy)
        obtain ⟨a2, e2, d2⟩ := (ih r1 r2 p2 hN1).part (lvO x.op + 1) (by omega)
        have e4 := partsE_end hp
        subst e4
        refine ⟨x :: (a1 ++ a2), by rw [e1, e2]; simp, ?_⟩
        rw [nxt_of p1]
        have := Der.bin (lvO x.op) (signW x.op) _ _ _ _ cl s1 d1 d2
        rw [s2, ← ex_plain hx (by omega) (by omega)] at this
        exact this
    rw [if_neg cl]
    by_cases c3 : lvO x.op = 3
    · rw [if_pos c3]
      have ho : 14 ≤ x.op ∧ x.op ≤ 16 ∨ x.op = 20 ∨ x.op = 21 ∨ x.op = 23 ∨ x.op = 24 := by
        unfold lvO at c3
        repeat' split at c3
        all_goals omega
      rcases hr with ⟨h6, _⟩ | ⟨_, hp⟩
      · omega
      · by_cases c21 : x.op = 21 ∨ x.op = 23 ∨ x.op = 24
        · have e3 : (prt x).toNat = 1 := by
            unfold prt
            rw [if_neg (by omega), if_neg (by omega), if_pos (by omega)]; rfl
          rw [e3] at hp
          obtain ⟨r1, p1, hp⟩ := partsE_one hp
          obtain ⟨a1, e1, d1⟩ := (ih m r1 p1 hNm).part 4 (by omega)
          have e4 := partsE_end hp
          subst e4
          refine ⟨x :: a1, by rw [e1]; simp, ?_⟩
          have ex := ex_named hx (by omega) (by omega)
          rw [c3]
          rcases c21 with c | c | c
          · rw [if_pos c]
            have := Der.has (nmW wHas) (nmW x.s.data.toList) _ _ rfl rfl d1
            rw [show nam (nmW wHas) wHas = true from rfl, if_pos rfl, show (nmW x.s.data.toList).l = x.s.data.toList from rfl] at this
            rw [c] at ex
            rw [← ex] at this
            exact this
          · rw [if_neg (by omega), if_neg (by omega), if_pos c]
            have := Der.like (nmW wLike) (qtW x.s.data.toList) _ _ rfl rfl d1
            rw [show (qtW x.s.data.toList).l = x.s.data.toList from rfl] at this
            rw [c] at ex
            rw [← ex] at this
            exact this
          · rw [if_neg (by omega), if_pos c]
            have := Der.has (nmW wIs) (nmW x.s.data.toList) _ _ rfl rfl d1
            rw [show nam (nmW wIs) wHas = false from rfl, if_neg (by decide), show (nmW x.s.data.toList).l = x.s.data.toList from rfl] at this
            rw [c] at ex
            rw [← ex] at this
            exact this
        · have e3 : (prt x).toNat = 2 := by
            unfold prt
            rw [if_neg (by omega), if_neg (by omega), if_neg (by omega), if_neg (by omega), if_pos (by omega)]; rfl
          rw [e3] at hp
          obtain ⟨r1, p1, hp⟩ := partsE_one hp
          obtain ⟨r2, p2, hp⟩ := partsE_one hp
          obtain ⟨a1, e1, d1⟩ := (ih m r1 p1 hNm).part 4 (by omega)
          have hN1 : ∀ y ∈ r1, n64 y := fun y hy => hNm y (by rw [e1]; exact List.mem_append_right _ hy)
          obtain ⟨a2, e2, d2⟩ := (ih r1 r2 p2 hN1).part 4 (by omega)
          have e4 := partsE_end hp
          subst e4
          refine ⟨x :: (a1 ++ a2), by rw [e1, e2]; simp, ?_⟩
          obtain ⟨s1, s2⟩ := rel_sign c3 (by omega)
          rw [if_neg (by omega), if_neg (by omega), if_neg (by omega), nxt_of p1, c3]
          have := Der.rel (signW x.op) _ _ _ _ s1 d1 d2
          rw [s2, ← ex_plain hx (by omega) (by omega)] at this
          exact this
    rw [if_neg c3]
    by_cases c9 : x.op = 9 ∨ x.op = 10
    · have e6 : lvO x.op = 6 := by rcases c9 with c | c <;> rw [c] <;> rfl
      rcases hr with ⟨h6, _⟩ | ⟨_, hp⟩
      · omega
      · have e3 : (prt x).toNat = 1 := by
          unfold prt
          rw [if_neg (by omega), if_neg (by omega), if_pos (by omega)]; rfl
        rw [e3] at hp
        obtain ⟨r1, p1, hp⟩ := partsE_one hp
        obtain ⟨a1, e1, d1⟩ := (ih m r1 p1 hNm).part 6 (by omega)
        have e4 := partsE_end hp
        subst e4
        refine ⟨x :: a1, by rw [e1]; simp, ?_⟩
        have ex := ex_plain hx (by omega) (by omega)
        rw [e6]
        rcases c9 with c | c
        · rw [if_pos c]
          rw [c] at ex
          rw [ex]
          exact Der.not _ _ _ rfl d1
        · rw [if_neg (by omega), if_pos c]
          rw [c] at ex
          rw [ex]
          exact negW_der d1
    rw [if_neg (by omega), if_neg (by omega)]
    by_cases c7 : lvO x.op = 7
    · rw [if_pos c7]
      have ho : x.op = 22 ∨ 25 ≤ x.op ∧ x.op ≤ 27 := by
        unfold lvO at c7
        repeat' split at c7
        all_goals omega
      rcases hr with ⟨h6, _⟩ | ⟨_, hp⟩
      · omega
      · by_cases c : x.op = 22
        · have e3 : (prt x).toNat = 1 := by
            unfold prt
            rw [if_neg (by omega), if_neg (by omega), if_pos (by omega)]; rfl
          rw [e3] at hp
          obtain ⟨r1, p1, hp⟩ := partsE_one hp
          obtain ⟨a1, e1, d1⟩ := (ih m r1 p1 hNm).part 7 (by omega)
          have e4 := partsE_end hp
          subst e4
          refine ⟨x :: a1, by rw [e1]; simp, ?_⟩
          have ex := ex_named hx (by omega) (by omega)
          rw [c7, if_pos c]
          have := Der.get (sgW [46]) (nmW x.s.data.toList) _ _ rfl rfl d1
          rw [show (nmW x.s.data.toList).l = x.s.data.toList from rfl] at this
          rw [c] at ex
          rw [← ex] at this
          exact this
        · have e3 : (prt x).toNat = 2 := by
            unfold prt
            rw [if_neg (by omega), if_neg (by omega), if_neg (by omega), if_neg (by omega), if_pos (by omega)]; rfl
          rw [e3] at hp
          obtain ⟨r1, p1, hp⟩ := partsE_one hp
          obtain ⟨r2, p2, hp⟩ := partsE_one hp
          obtain ⟨a1, e1, d1⟩ := (ih m r1 p1 hNm).part 7 (by omega)
          have hN1 : ∀ y ∈ r1, n64 y := fun y hy => hNm y (by rw [e1]; exact List.mem_append_right _ hy)
          obtain ⟨a2, e2, d2⟩ := (ih r1 r2 p2 hN1).zero
          have e4 := partsE_end hp
          subst e4
          refine ⟨x :: (a1 ++ a2), by rw [e1, e2]; simp, ?_⟩
          obtain ⟨s1, s2⟩ := call_sign c7 c
          rw [if_neg c, nxt_of p1, c7]
          have := Der.call (sgW [46]) (nmW (callW x.op)) (sgW [40]) (sgW [41]) _ _ _ _ rfl rfl s1 rfl rfl d1 d2
          rw [s2, ← ex_plain hx (by omega) (by omega)] at this
          exact this
    rw [if_neg c7]
    have h8 : lvO x.op = 8 := by
      unfold lvO at cl c3 c7 ⊢
      repeat' split
      all_goals first | rfl | (simp_all; done) | omega
    rw [h8]
    by_cases c5 : x.op = 5
    · rw [if_pos c5]
      rcases hr with ⟨h6, _⟩ | ⟨_, hp⟩
      · omega
      · have hv := ex_value hx (by omega)
        unfold ndOk at hv
        rw [if_neg (by omega), if_neg (by omega), if_neg (by omega), if_neg (by omega), if_pos (by omega)] at hv
        simp only [Bool.and_eq_true, decide_eq_true_eq] at hv
        have ex := nd_eq x
        rw [c5, data_nil hv.1.1, data_nil hv.1.2] at ex
        have e3 : prt x = x.n := by unfold prt; rw [if_pos (by omega)]
        rw [e3] at hp
        cases hk : x.n.toNat with
        | zero =>
          rw [hk] at hp
          have e4 := partsE_end hp
          subst e4
          have e0 : x.n = 0 := by omega
          rw [e0] at ex
          refine ⟨[x], rfl, ?_⟩
          rw [ex]; exact Der.set0 _ _ rfl rfl
        | succ k =>
          rw [hk] at hp
          obtain ⟨a, e1, d⟩ := setW_der (fun v r => ih v r) k m r hNm hp
          have e0 : x.n = (k : Int) + 1 := by omega
          rw [e0] at ex
          refine ⟨x :: a, by rw [e1]; rfl, ?_⟩
          rw [ex]; exact Der.set _ _ _ _ rfl rfl d
    rw [if_neg c5]
    by_cases c6 : x.op = 6
    · rw [if_pos c6]
      rcases hr with ⟨_, hp⟩ | ⟨h6, _⟩
      · have hv := ex_value hx (by omega)
        unfold ndOk at hv
        rw [if_neg (by omega), if_neg (by omega), if_neg (by omega), if_neg (by omega), if_pos (by omega)] at hv
        simp only [Bool.and_eq_true, decide_eq_true_eq] at hv
        have ex := nd_eq x
        rw [c6, data_nil hv.1.1, data_nil hv.1.2] at ex
        cases hk : x.n.toNat with
        | zero =>
          rw [hk] at hp
          have e4 := recLoop_none hp
          subst e4
          have e0 : x.n = 0 := by omega
          rw [e0] at ex
          refine ⟨[x], rfl, ?_⟩
          rw [ex]
          show Der 8 (sgW [123] :: ([] ++ [sgW [125]])) _
          exact Der.rec0 _ _ rfl rfl
        | succ k =>
          rw [hk] at hp
          obtain ⟨a, nm, e1, d⟩ := recW_der (fun v r => ih v r) k m r hNm hp
          have e0 : x.n = (k : Int) + 1 := by omega
          rw [e0] at ex
          refine ⟨x :: a, by rw [e1]; rfl, ?_⟩
          rw [ex]; exact Der.fields _ _ _ _ _ _ rfl rfl d
      · exact absurd c6 h6
    rw [if_neg c6]
    have ho : x.op = 1 ∨ x.op = 2 ∨ x.op = 3 ∨ x.op = 4 ∨ x.op = 8 := by
      unfold lvO at h8
      repeat' split at h8
      all_goals omega
    rcases hr with ⟨h6, _⟩ | ⟨_, hp⟩
    · omega
    · have e3 : (prt x).toNat = 0 := by unfold prt; rw [if_neg (by omega), if_pos (by omega)]; rfl
      rw [e3] at hp
      have e4 := partsE_end hp
      subst e4
      exact ⟨[x], rfl, atom_der hx (hN x List.mem_cons_self) ho⟩

/-- The words of an expression are a line that says it. -/
theorem ex_der {v : List Nd} (h : pastE (v.length + 1) v = some []) (hN : ∀ x ∈ v, n64 x) : Der 0 (wdE (v.length + 1) v) v := by
  obtain ⟨a, h1, h2⟩ := (wd_der _ v [] h hN).zero
  rw [List.append_nil] at h1
  rw [← h1] at h2; exact h2
end Go.Proofs.YtpbnjdgedifnoaaGreatDoor
namespace Go.Proofs.YtpbnjdgedifnoaaGreatDoor
set_option linter.unusedVariables false

def AllS (l : List Tk) : Prop := ∀ t ∈ l, spB t = true
theorem AllS.nil : AllS [] := fun _ h => by cases h
theorem AllS.cons {t : Tk} {l : List Tk} (h : spB t = true) (hl : AllS l) : AllS (t :: l) := fun u hu => by
  rcases List.mem_cons.1 hu with e | e
  · rw [e]; exact h
  · exact hl u e
theorem AllS.append {a b : List Tk} (ha : AllS a) (hb : AllS b) : AllS (a ++ b) := fun u hu => by
  rcases List.mem_append.1 hu with e | e
  · exact ha u e
  · exact hb u e
theorem spB_name {l : List UInt8} (h : nfault l = 0) : spB (nmW l) = true := word1_spB 0 (word_name h)
theorem spB_text {l : List UInt8} (h : textOk l = true) : spB (qtW l) = true := word1_spB 0 (word_quo h)
theorem spB_slotW {l : List UInt8} (h : nfault l = 0) : spB (mkT 4 l 0) = true := word1_spB 0 (word_slot h)
theorem spB_num {n : Nat} (h : n ≤ 9223372036854775808) : spB (numW n) = true := by
  have := word_num (decL_dig n) (decL_ne n) (by rw [decL_zero]; exact decL_len 18 n (by omega))
  rw [decL_zero] at this
  exact word1_spB 0 this
theorem spB_sg {l : List UInt8} (h : word1 l = .ok (5, l, l.length)) : spB (sgW l) = true := word1_spB 0 h
theorem spB_nm {l : List UInt8} (h : word1 l = .ok (1, l, l.length)) : spB (nmW l) = true := word1_spB 0 h
theorem AllS.brk {a : List Tk} (h : AllS a) : AllS (brk a) := AllS.cons (spB_sg rfl) (h.append (AllS.cons (spB_sg rfl) AllS.nil))
theorem AllS.part {w : List Nd → List Tk} {l : Nat} {v : List Nd} (h : AllS (w v)) : AllS (partW w l v) := by
  unfold partW; split
  · exact h.brk
  · exact h
theorem AllS.neg {a : List Tk} (h : AllS a) : AllS (negW a) := by
  unfold negW; split
  · exact h.brk
  · exact h
theorem signW_spB (op : Int) : spB (signW op) = true := by
  unfold signW
  repeat' split
  all_goals first | exact spB_sg rfl | exact spB_nm rfl
theorem callW_spB (op : Int) : spB (nmW (callW op)) = true := by
  unfold callW
  repeat' split
  all_goals exact spB_nm rfl

theorem setW_spB {f : Nat} (ih : ∀ v r, pastE f v = some r → (∀ x ∈ v, n64 x) → AllS (wdE f v)) : ∀ (k : Nat) (m r : List Nd), (∀ x ∈ m, n64 x) → partsE (pastE f) k m = some r → AllS (setW (wdE f) (nxtE f) k m)
  | 0, _, _, _, _ => AllS.nil
  | k + 1, m, r, hN, h => by
    obtain ⟨s, h1, h2⟩ := partsE_one h
    rw [setW]
    refine (ih m s h1 hN).append ?_
    split
    · exact AllS.nil
    · rw [nxt_of h1]
      obtain ⟨_, a, e⟩ := pastE_shorter h1
      exact AllS.cons (spB_sg rfl) (setW_spB ih k s r (fun x hx => hN x (by rw [e]; exact List.mem_append_right _ hx)) h2)
theorem recW_spB {f : Nat} (ih : ∀ v r, pastE f v = some r → (∀ x ∈ v, n64 x) → AllS (wdE f v)) : ∀ (k : Nat) (nm : ByteArray) (m r : List Nd), (∀ x ∈ m, n64 x) → recLoop (pastE f) k nm m = some r → AllS (recW (wdE f) (nxtE f) k m)
  | 0, _, _, _, _, _ => AllS.nil
  | k + 1, nm, m, r, hN, h => by
    obtain ⟨x, m', s, e0, h7, hx, hc, h1, h2⟩ := recLoop_one h
    subst e0
    rw [recW]
    have hn : nfault x.s.data.toList = 0 := by
      unfold ndOk at hx
      rw [h7] at hx
      simp at hx
      exact hx.2
    refine AllS.cons (spB_name hn) (AllS.cons (spB_sg rfl) ((ih m' s h1 (fun y hy => hN y (List.mem_cons_of_mem _ hy))).append ?_))
    split
    · exact AllS.nil
    · rw [nxt_of h1]
      obtain ⟨_, a, e⟩ := pastE_shorter h1
      exact AllS.cons (spB_sg rfl) (recW_spB ih k _ s r (fun y hy => hN y (by rw [e]; exact List.mem_cons_of_mem _ (List.mem_append_right _ hy))) h2)

theorem atom_spB {x : Nd} (hx : exOk x = true) (hn : n64 x) (ho : x.op = 1 ∨ x.op = 2 ∨ x.op = 3 ∨ x.op = 4 ∨ x.op = 8) : AllS (atomW x) := by
  unfold atomW
  rcases ho with h | h | h | h | h
  · rw [if_pos h]
    split <;> exact AllS.cons (spB_nm rfl) AllS.nil
  · have hn := hn h
    rw [if_neg (by omega), if_pos h]
    split
    · exact AllS.cons (spB_sg rfl) (AllS.cons (spB_num (by omega)) AllS.nil)
    · exact AllS.cons (spB_num (by omega)) AllS.nil
  · have hv := ex_value hx (by omega)
    unfold ndOk at hv
    rw [if_neg (by omega), if_neg (by omega), if_pos h] at hv
    simp only [Bool.and_eq_true, beq_iff_eq] at hv
    rw [if_neg (by omega), if_neg (by omega), if_pos h]
    exact AllS.cons (spB_text hv.2) AllS.nil
  · have hv := ex_value hx (by omega)
    unfold ndOk at hv
    rw [if_neg (by omega), if_neg (by omega), if_neg (by omega), if_pos h] at hv
    simp only [Bool.and_eq_true, beq_iff_eq] at hv
    rw [if_neg (by omega), if_neg (by omega), if_neg (by omega), if_pos h]
    exact AllS.cons (spB_name hv.1.2) (AllS.cons (spB_sg rfl) (AllS.cons (spB_text hv.2) AllS.nil))
  · have hv := ex_var hx h
    unfold varOk at hv
    rw [if_neg (by omega), if_neg (by omega), if_neg (by omega), if_neg (by omega)]
    by_cases hq : x.s.data.toList.head? = some 63
    · rw [if_pos hq] at hv ⊢
      exact AllS.cons (spB_slotW (by simpa using hv)) AllS.nil
    · rw [if_neg hq] at hv ⊢
      simp only [Bool.and_eq_true, beq_iff_eq] at hv
      exact AllS.cons (spB_name hv.1) AllS.nil

/-- What stands behind so many parts, and what they are of. -/
theorem wd_spB : ∀ (f : Nat) (v r : List Nd), pastE f v = some r → (∀ x ∈ v, n64 x) → AllS (wdE f v)
  | 0, v, r, h, _ => by simp [pastE] at h
  | f + 1, v, r, h, hN => by
    have ih := wd_spB f
    obtain ⟨g, x, m, e, e', h7, hx, hr⟩ := pastE_cons h
    obtain rfl : f = g := by omega
    subst e'
    have hr1 := ex_rng hx
    have hNm : ∀ y ∈ m, n64 y := fun y hy => hN y (List.mem_cons_of_mem _ hy)
    -- the first part, the second one, the third one
    have one : 1 ≤ (prt x).toNat → x.op ≠ 6 → ∃ s1, pastE f m = some s1 ∧ AllS (wdE f m) ∧ (∀ y ∈ s1, n64 y) ∧ partsE (pastE f) ((prt x).toNat - 1) s1 = some r := by
      intro h1 h6
      rcases hr with ⟨h6', _⟩ | ⟨_, hp⟩
      · exact absurd h6' h6
      · cases hk : (prt x).toNat with
        | zero => omega
        | succ k =>
          rw [hk] at hp
          obtain ⟨s1, p1, hp⟩ := partsE_one hp
          obtain ⟨_, a, e⟩ := pastE_shorter p1
          exact ⟨s1, p1, ih m s1 p1 hNm, fun y hy => hNm y (by rw [e]; exact List.mem_append_right _ hy), hp⟩
    have two : 2 ≤ (prt x).toNat → x.op ≠ 6 → ∃ s2, pastE f (nxtE f m) = some s2 ∧ AllS (wdE f (nxtE f m)) ∧ (∀ y ∈ s2, n64 y) ∧ partsE (pastE f) ((prt x).toNat - 2) s2 = some r := by
      intro h2 h6
      obtain ⟨s1, p1, _, hN1, hp⟩ := one (by omega) h6
      rw [nxt_of p1]
      have e : (prt x).toNat - 1 = (prt x).toNat - 2 + 1 := by omega
      rw [e] at hp
      obtain ⟨s2, p2, hp⟩ := partsE_one hp
      obtain ⟨_, a, e⟩ := pastE_shorter p2
      exact ⟨s2, p2, ih s1 s2 p2 hN1, fun y hy => hN1 y (by rw [e]; exact List.mem_append_right _ hy), hp⟩
    rw [wdE]
    by_cases c13 : x.op = 13
    · rw [if_pos c13]
      have e3 : (prt x).toNat = 3 := by unfold prt; rw [c13]; rfl
      obtain ⟨s1, p1, w1, hN1, hp1⟩ := one (by omega) (by omega)
      obtain ⟨s2, p2, w2, hN2, hp2⟩ := two (by omega) (by omega)
      rw [e3] at hp2
      obtain ⟨s3, p3, _⟩ := partsE_one hp2
      have w3 := ih s2 s3 p3 hN2
      rw [nxt_of p2]
      exact AllS.cons (spB_nm rfl) (w1.append (AllS.cons (spB_nm rfl) (w2.append (AllS.cons (spB_nm rfl) w3))))
    rw [if_neg c13]
    by_cases cl : lvO x.op = 1 ∨ lvO x.op = 2 ∨ lvO x.op = 4 ∨ lvO x.op = 5
    · rw [if_pos cl]
      have ho : 11 ≤ x.op ∧ x.op ≤ 19 := by
        unfold lvO at cl
        repeat' split at cl
        all_goals omega
      have e3 : (prt x).toNat = 2 := by
        unfold prt
        rw [if_neg (by omega), if_neg (by omega), if_neg (by omega), if_neg (by omega), if_pos (by omega)]; rfl
      obtain ⟨s1, p1, w1, hN1, hp1⟩ := one (by omega) (by omega)
      obtain ⟨s2, p2, w2, hN2, hp2⟩ := two (by omega) (by omega)
      exact w1.part.append (AllS.cons (signW_spB _) w2.part)
    rw [if_neg cl]
    by_cases c3 : lvO x.op = 3
    · rw [if_pos c3]
      have ho : 14 ≤ x.op ∧ x.op ≤ 16 ∨ x.op = 20 ∨ x.op = 21 ∨ x.op = 23 ∨ x.op = 24 := by
        unfold lvO at c3
        repeat' split at c3
        all_goals omega
      have e1 : 1 ≤ (prt x).toNat := by
        unfold prt
        rw [if_neg (by omega), if_neg (by omega)]
        by_cases k : x.op = 7 ∨ x.op = 9 ∨ x.op = 10 ∨ 21 ≤ x.op ∧ x.op ≤ 24
        · rw [if_pos k]; decide
        · rw [if_neg k, if_neg (by omega), if_pos (by omega)]; decide
      obtain ⟨s1, p1, w1, hN1, hp1⟩ := one e1 (by omega)
      by_cases c21 : x.op = 21
      · rw [if_pos c21]
        exact w1.part.append (AllS.cons (spB_nm rfl) (AllS.cons (spB_name (ex_name hx (by omega))) AllS.nil))
      rw [if_neg c21]
      by_cases c24 : x.op = 24
      · rw [if_pos c24]
        exact w1.part.append (AllS.cons (spB_nm rfl) (AllS.cons (spB_name (ex_name hx (by omega))) AllS.nil))
      rw [if_neg c24]
      by_cases c23 : x.op = 23
      · rw [if_pos c23]
        have ht : textOk x.s.data.toList = true := by
          have h := hx
          unfold exOk at h
          rw [if_neg (by omega)] at h
          split at h
          · cases h
          · rw [if_neg (by omega), if_neg (by omega)] at h
            simp only [Bool.and_eq_true] at h
            exact h.2
        exact w1.part.append (AllS.cons (spB_nm rfl) (AllS.cons (spB_text ht) AllS.nil))
      rw [if_neg c23]
      have e3 : (prt x).toNat = 2 := by
        unfold prt
        rw [if_neg (by omega), if_neg (by omega), if_neg (by omega), if_neg (by omega), if_pos (by omega)]; rfl
      obtain ⟨s2, p2, w2, hN2, hp2⟩ := two (by omega) (by omega)
      exact w1.part.append (AllS.cons (signW_spB _) w2.part)
    rw [if_neg c3]
    by_cases c9 : x.op = 9 ∨ x.op = 10
    · have e3 : (prt x).toNat = 1 := by
        unfold prt
        rw [if_neg (by omega), if_neg (by omega), if_pos (by omega)]; rfl
      obtain ⟨s1, p1, w1, hN1, hp1⟩ := one (by omega) (by omega)
      rcases c9 with c | c
      · rw [if_pos c]; exact AllS.cons (spB_sg rfl) w1.part
      · rw [if_neg (by omega), if_pos c]; exact AllS.cons (spB_sg rfl) w1.part.neg
    rw [if_neg (by omega), if_neg (by omega)]
    by_cases c7 : lvO x.op = 7
    · rw [if_pos c7]
      have ho : x.op = 22 ∨ 25 ≤ x.op ∧ x.op ≤ 27 := by
        unfold lvO at c7
        repeat' split at c7
        all_goals omega
      by_cases c : x.op = 22
      · have e3 : (prt x).toNat = 1 := by
          unfold prt
          rw [if_neg (by omega), if_neg (by omega), if_pos (by omega)]; rfl
        obtain ⟨s1, p1, w1, hN1, hp1⟩ := one (by omega) (by omega)
        rw [if_pos c]
        exact w1.part.append (AllS.cons (spB_sg rfl) (AllS.cons (spB_name (ex_name hx (by omega))) AllS.nil))
      · have e3 : (prt x).toNat = 2 := by
          unfold prt
          rw [if_neg (by omega), if_neg (by omega), if_neg (by omega), if_neg (by omega), if_pos (by omega)]; rfl
        obtain ⟨s1, p1, w1, hN1, hp1⟩ := one (by omega) (by omega)
        obtain ⟨s2, p2, w2, hN2, hp2⟩ := two (by omega) (by omega)
        rw [if_neg c]
        exact w1.part.append (AllS.cons (spB_sg rfl) (AllS.cons (callW_spB _) w2.brk))
    rw [if_neg c7]
    by_cases c5 : x.op = 5
    · rw [if_pos c5]
      rcases hr with ⟨h6, _⟩ | ⟨_, hp⟩
      · omega
      · have e3 : prt x = x.n := by unfold prt; rw [if_pos (by omega)]
        rw [e3] at hp
        exact AllS.cons (spB_sg rfl) ((setW_spB (fun v r => ih v r) _ m r hNm hp).append (AllS.cons (spB_sg rfl) AllS.nil))
    rw [if_neg c5]
    by_cases c6 : x.op = 6
    · rw [if_pos c6]
      rcases hr with ⟨_, hp⟩ | ⟨h6, _⟩
      · exact AllS.cons (spB_sg rfl) ((recW_spB (fun v r => ih v r) _ _ m r hNm hp).append (AllS.cons (spB_sg rfl) AllS.nil))
      · exact absurd c6 h6
    rw [if_neg c6]
    have ho : x.op = 1 ∨ x.op = 2 ∨ x.op = 3 ∨ x.op = 4 ∨ x.op = 8 := by
      unfold lvO at cl c3 c7
      repeat' split at c7
      all_goals first | omega | (simp_all; done) | (simp_all; omega)
    exact atom_spB hx (hN x List.mem_cons_self) ho
theorem spB_kOk {t : Tk} (h : spB t = true) : kOk t = true := by
  unfold kOk
  by_cases h3 : t.kind = 3
  · rw [h3]; rfl
  by_cases h4 : t.kind = 4
  · rw [h4]; rfl
  unfold spB at h
  rw [if_neg h3, if_neg h4] at h
  cases hl : t.s.data.toList with
  | nil => rw [hl] at h; cases h
  | cons c r =>
    rw [hl] at h
    simp only [Bool.and_eq_true] at h
    have hw := whole_to h.2
    rcases word1_inv hw with h1 | h1 | h1 | h1 | h1 <;> rw [h1.1] <;> rfl
end Go.Proofs.YtpbnjdgedifnoaaGreatDoor
namespace Go.Proofs.YtpbnjdgedifnoaaGreatDoor
set_option linter.unusedVariables false

theorem opX_append {v : List Nd} (h : v ≠ []) (z : List Nd) : opX (v ++ z) = opX v := by
  cases v with
  | nil => exact absurd rfl h
  | cons x m => rfl
theorem past_ne {f : Nat} {v r : List Nd} (h : pastE f v = some r) : v ≠ [] := by
  intro e; subst e; rw [pastE_nil] at h; cases h
theorem past_both {f g : Nat} {v r : List Nd} (h : pastE f v = some r) (hg : f ≤ g) (z : List Nd) : pastE g (v ++ z) = some (r ++ z) := pastE_append z g v r (pastE_mono h hg)
theorem nxt_both {f g : Nat} {v r : List Nd} (h : pastE f v = some r) (hg : f ≤ g) (z : List Nd) : nxtE g (v ++ z) = nxtE f v ++ z := by rw [nxt_of h, nxt_of (past_both h hg z)]
theorem part_both {w w' : List Nd → List Tk} {v v' : List Nd} (h : w' v' = w v) (ho : opX v' = opX v) (l : Nat) : partW w' l v' = partW w l v := by unfold partW; rw [h, ho]

theorem setW_both {f g : Nat} (hg : f ≤ g) (ih : ∀ v r, pastE f v = some r → ∀ z, wdE g (v ++ z) = wdE f v) : ∀ (k : Nat) (m r z : List Nd), partsE (pastE f) k m = some r → setW (wdE g) (nxtE g) k (m ++ z) = setW (wdE f) (nxtE f) k m
  | 0, _, _, _, _ => rfl
  | k + 1, m, r, z, h => by
    obtain ⟨s, h1, h2⟩ := partsE_one h
    rw [setW, setW, ih m s h1 z, nxt_both h1 hg z, nxt_of h1, setW_both hg ih k s r z h2]
theorem recW_both {f g : Nat} (hg : f ≤ g) (ih : ∀ v r, pastE f v = some r → ∀ z, wdE g (v ++ z) = wdE f v) : ∀ (k : Nat) (nm : ByteArray) (m r z : List Nd), recLoop (pastE f) k nm m = some r → recW (wdE g) (nxtE g) k (m ++ z) = recW (wdE f) (nxtE f) k m
  | 0, _, m, _, z, _ => by cases m <;> cases z <;> rfl
  | k + 1, nm, m, r, z, h => by
    obtain ⟨x, m', s, e0, h7, hx, hc, h1, h2⟩ := recLoop_one h
    subst e0
    rw [List.cons_append, recW, recW, ih m' s h1 z, nxt_both h1 hg z, nxt_of h1, recW_both hg ih k _ s r z h2]

theorem wd_both : ∀ (f : Nat) (v r : List Nd), pastE f v = some r → ∀ (g : Nat) (z : List Nd), f ≤ g → wdE g (v ++ z) = wdE f v
  | 0, v, r, h, _, _, _ => by simp [pastE] at h
  | f + 1, v, r, h, 0, z, hg => absurd hg (by omega)
  | f + 1, v, r, h, g + 1, z, hg => by
    have hg' : f ≤ g := by omega
    have ih := wd_both f
    obtain ⟨g', x, m, e, e', h7, hx, hr⟩ := pastE_cons h
    obtain rfl : f = g' := by omega
    subst e'
    have hr1 := ex_rng hx
    have one : 1 ≤ (prt x).toNat → x.op ≠ 6 → ∃ s1, pastE f m = some s1 ∧ wdE g (m ++ z) = wdE f m ∧ (∀ l, partW (wdE g) l (m ++ z) = partW (wdE f) l m) ∧ partsE (pastE f) ((prt x).toNat - 1) s1 = some r := by
      intro h1 h6
      rcases hr with ⟨h6', _⟩ | ⟨_, hp⟩
      · exact absurd h6' h6
      · cases hk : (prt x).toNat with
        | zero => omega
        | succ k =>
          rw [hk] at hp
          obtain ⟨s1, p1, hp⟩ := partsE_one hp
          have hw := ih m s1 p1 g z hg'
          exact ⟨s1, p1, hw, fun l => part_both hw (opX_append (past_ne p1) z) l, hp⟩
    have two : 2 ≤ (prt x).toNat → x.op ≠ 6 → ∃ s2, pastE f (nxtE f m) = some s2 ∧ wdE g (nxtE g (m ++ z)) = wdE f (nxtE f m) ∧ (∀ l, partW (wdE g) l (nxtE g (m ++ z)) = partW (wdE f) l (nxtE f m)) ∧
        nxtE g (m ++ z) = nxtE f m ++ z ∧ partsE (pastE f) ((prt x).toNat - 2) s2 = some r := by
      intro h2 h6
      obtain ⟨s1, p1, _, _, hp⟩ := one (by omega) h6
      rw [nxt_both p1 hg' z, nxt_of p1]
      have e : (prt x).toNat - 1 = (prt x).toNat - 2 + 1 := by omega
      rw [e] at hp
      obtain ⟨s2, p2, hp⟩ := partsE_one hp
      have hw := ih s1 s2 p2 g z hg'
      exact ⟨s2, p2, hw, fun l => part_both hw (opX_append (past_ne p2) z) l, rfl, hp⟩
    rw [List.cons_append, wdE, wdE]
    by_cases c13 : x.op = 13
    · rw [if_pos c13, if_pos c13]
      have e3 : (prt x).toNat = 3 := by unfold prt; rw [c13]; rfl
      obtain ⟨s1, p1, w1, _, hp1⟩ := one (by omega) (by omega)
      obtain ⟨s2, p2, w2, _, n2, hp2⟩ := two (by omega) (by omega)
      rw [e3] at hp2
      obtain ⟨s3, p3, _⟩ := partsE_one hp2
      have w3 := ih s2 s3 p3 g z hg'
      have n3 : nxtE g (nxtE g (m ++ z)) = s2 ++ z := by rw [n2, nxt_both p2 hg' z, nxt_of p2]
      rw [w1, w2, n3, w3, nxt_of p2]
    rw [if_neg c13, if_neg c13]
    by_cases cl : lvO x.op = 1 ∨ lvO x.op = 2 ∨ lvO x.op = 4 ∨ lvO x.op = 5
    · rw [if_pos cl, if_pos cl]
      have ho : 11 ≤ x.op ∧ x.op ≤ 19 := by
        unfold lvO at cl
        repeat' split at cl
        all_goals omega
      have e3 : (prt x).toNat = 2 := by
        unfold prt
        rw [if_neg (by omega), if_neg (by omega), if_neg (by omega), if_neg (by omega), if_pos (by omega)]; rfl
      obtain ⟨s1, p1, w1, q1, hp1⟩ := one (by omega) (by omega)
      obtain ⟨s2, p2, w2, q2, n2, hp2⟩ := two (by omega) (by omega)
      rw [q1, q2]
    rw [if_neg cl, if_neg cl]
    by_cases c3 : lvO x.op = 3
    · rw [if_pos c3, if_pos c3]
      have ho : 14 ≤ x.op ∧ x.op ≤ 16 ∨ x.op = 20 ∨ x.op = 21 ∨ x.op = 23 ∨ x.op = 24 := by
        unfold lvO at c3
        repeat' split at c3
        all_goals omega
      have e1 : 1 ≤ (prt x).toNat := by
        unfold prt
        rw [if_neg (by omega), if_neg (by omega)]
        by_cases k : x.op = 7 ∨ x.op = 9 ∨ x.op = 10 ∨ 21 ≤ x.op ∧ x.op ≤ 24
        · rw [if_pos k]; decide
        · rw [if_neg k, if_neg (by omega), if_pos (by omega)]; decide
      obtain ⟨s1, p1, w1, q1, hp1⟩ := one e1 (by omega)
      rw [q1]
      by_cases c21 : x.op = 21
      · rw [if_pos c21, if_pos c21]
      rw [if_neg c21, if_neg c21]
      by_cases c24 : x.op = 24
      · rw [if_pos c24, if_pos c24]
      rw [if_neg c24, if_neg c24]
      by_cases c23 : x.op = 23
      · rw [if_pos c23, if_pos c23]
      rw [if_neg c23, if_neg c23]
      have e3 : (prt x).toNat = 2 := by
        unfold prt
        rw [if_neg (by omega), if_neg (by omega), if_neg (by omega), if_neg (by omega), if_pos (by omega)]; rfl
      obtain ⟨s2, p2, w2, q2, n2, hp2⟩ := two (by omega) (by omega)
      rw [q2]
    rw [if_neg c3, if_neg c3]
    by_cases c9 : x.op = 9 ∨ x.op = 10
    · have e3 : (prt x).toNat = 1 := by
        unfold prt
        rw [if_neg (by omega), if_neg (by omega), if_pos (by omega)]; rfl
      obtain ⟨s1, p1, w1, q1, hp1⟩ := one (by omega) (by omega)
      rcases c9 with c | c
      · rw [if_pos c, if_pos c, q1]
      · have c' : x.op ≠ 9 := by omega
        rw [if_neg c', if_neg c', if_pos c, if_pos c, q1]
    have c9' : x.op ≠ 9 := by omega
    have c10' : x.op ≠ 10 := by omega
    rw [if_neg c9', if_neg c9', if_neg c10', if_neg c10']
    by_cases c7 : lvO x.op = 7
    · rw [if_pos c7, if_pos c7]
      have ho : x.op = 22 ∨ 25 ≤ x.op ∧ x.op ≤ 27 := by
        unfold lvO at c7
        repeat' split at c7
        all_goals omega
      by_cases c : x.op = 22
      · have e3 : (prt x).toNat = 1 := by
          unfold prt
          rw [if_neg (by omega), if_neg (by omega), if_pos (by omega)]; rfl
        obtain ⟨s1, p1, w1, q1, hp1⟩ := one (by omega) (by omega)
        rw [if_pos c, if_pos c, q1]
      · have e3 : (prt x).toNat = 2 := by
          unfold prt
          rw [if_neg (by omega), if_neg (by omega), if_neg (by omega), if_neg (by omega), if_pos (by omega)]; rfl
        obtain ⟨s1, p1, w1, q1, hp1⟩ := one (by omega) (by omega)
        obtain ⟨s2, p2, w2, q2, n2, hp2⟩ := two (by omega) (by omega)
        rw [if_neg c, if_neg c, q1, w2]
    rw [if_neg c7, if_neg c7]
    by_cases c5 : x.op = 5
    · rw [if_pos c5, if_pos c5]
      rcases hr with ⟨h6, _⟩ | ⟨_, hp⟩
      · omega
      · have e3 : prt x = x.n := by unfold prt; rw [if_pos (by omega)]
        rw [e3] at hp
        rw [setW_both hg' (fun v r h z => ih v r h g z hg') _ m r z hp]
    rw [if_neg c5, if_neg c5]
    by_cases c6 : x.op = 6
    · rw [if_pos c6, if_pos c6]
      rcases hr with ⟨_, hp⟩ | ⟨h6, _⟩
      · rw [recW_both hg' (fun v r h z => ih v r h g z hg') _ _ m r z hp]
      · exact absurd c6 h6
    rw [if_neg c6, if_neg c6]

/-- The words of just one expression. -/
def wrd (v : List Nd) : List Tk := wdE (v.length + 1) v
theorem wd_wrd {f : Nat} {v : List Nd} (h : pastE f v = some []) {g : Nat} (hg : f ≤ g) (z : List Nd) : wdE g (v ++ z) = wrd v := by
  unfold wrd
  have h1 := pastE_any h (g := v.length + 1) (by omega)
  have e1 := wd_both f v [] h (f + (v.length + 1)) [] (by omega)
  have e2 := wd_both (v.length + 1) v [] h1 (f + (v.length + 1)) [] (by omega)
  rw [wd_both f v [] h g z hg, ← e1, e2]
end Go.Proofs.YtpbnjdgedifnoaaGreatDoor
namespace Go.Proofs.YtpbnjdgedifnoaaGreatDoor
set_option linter.unusedVariables false

def bT : Tk := ⟨0, ⟨#[]⟩, 0⟩
/-- What words say; or where it is wrong, and the error's number. -/
def parseL (ts : List Tk) : Except (Nat × Int) (List Nd) :=
  if 300 < ts.length then .error (0, 4)
  else match ts.findIdx? (fun t => !spB t) with
    | some i => .error (i, 1)
    | none =>
      match acc ps0 bT ts with
      | some x => .error (ts.length - x.1, x.2)
      | none =>
        match prs ts with
        | .ok x => if 200 < x.1.length then .error (0, 4) else .ok x.1
        | .error _ => .error (0, 0)

theorem find_none {ts : List Tk} : ts.findIdx? (fun t => !spB t) = none ↔ AllS ts := by
  rw [List.findIdx?_eq_none_iff]
  constructor
  · intro h t ht; have := h t ht; simpa using this
  · intro h t ht; have := h t ht; simpa using this
theorem AllS.kinds {ts : List Tk} (h : AllS ts) : AllK ts := fun t ht => spB_kOk (h t ht)

theorem parse_ok {ts : List Tk} {e : List Nd} (hl : ts.length ≤ 300) (hs : AllS ts) (hd : Der 0 ts e) (he : e.length ≤ 200) : parseL ts = .ok e := by
  unfold parseL
  rw [if_neg (by omega), find_none.2 hs, acc_der hs.kinds hd, prs_der hd]
  simp only
  rw [if_neg (by omega)]
theorem ok_parse {ts : List Tk} {e : List Nd} (h : parseL ts = .ok e) : ts.length ≤ 300 ∧ AllS ts ∧ Der 0 ts e ∧ e.length ≤ 200 := by
  unfold parseL at h
  split at h
  · cases h
  · rename_i hl
    cases hf : ts.findIdx? (fun t => !spB t) with
    | some i => rw [hf] at h; cases h
    | none =>
      rw [hf] at h
      have hs := find_none.1 hf
      cases ha : acc ps0 bT ts with
      | some x => rw [ha] at h; cases h
      | none =>
        rw [ha] at h
        obtain ⟨e', hd⟩ := der_acc hs.kinds ha
        rw [prs_der hd] at h
        simp only at h
        split at h
        · cases h
        · injection h with h
          subst h
          exact ⟨by omega, hs, hd, by omega⟩
/-- A line with too many nodes. -/
theorem parse_full {ts : List Tk} {e : List Nd} (hl : ts.length ≤ 300) (hs : AllS ts) (hd : Der 0 ts e) (he : 200 < e.length) : parseL ts = .error (0, 4) := by
  unfold parseL
  rw [if_neg (by omega), find_none.2 hs, acc_der hs.kinds hd, prs_der hd]
  simp only
  rw [if_pos he]
theorem parse_halt {ts : List Tk} {x : Nat × Int} (hl : ts.length ≤ 300) (hs : AllS ts) (ha : acc ps0 bT ts = some x) : parseL ts = .error (ts.length - x.1, x.2) := by
  unfold parseL
  rw [if_neg (by omega), find_none.2 hs, ha]
/-- No line: it halts somewhere. -/
theorem error_parse {ts : List Tk} {i : Nat} {k : Int} (hl : ts.length ≤ 300) (hs : AllS ts) (h : parseL ts = .error (i, k)) (hk : k ≠ 4) : ∃ n, acc ps0 bT ts = some (n, k) ∧ i = ts.length - n := by
  cases ha : acc ps0 bT ts with
  | some x =>
    rw [parse_halt hl hs ha] at h
    injection h with h
    injection h with h1 h2
    exact ⟨x.1, by rw [← h2], h1.symm⟩
  | none =>
    obtain ⟨e, hd⟩ := der_acc hs.kinds ha
    by_cases he : 200 < e.length
    · rw [parse_full hl hs hd he] at h
      injection h with h
      injection h with h1 h2
      exact absurd h2.symm hk
    · rw [parse_ok hl hs hd (by omega)] at h; cases h

/-- What is printed is read. -/
theorem parse_print {v : List Nd} (hx : xfault v = 0) (hN : ∀ x ∈ v, n64 x) (hl : (wrd v).length ≤ 300) : parseL (wrd v) = .ok v := by
  obtain ⟨h1, h2⟩ := xfault_zero hx
  exact parse_ok hl (wd_spB _ v [] h2 hN) (ex_der h2 hN) h1
/-- In brackets it is the same. -/
theorem parse_round {ts : List Tk} {e : List Nd} (h : parseL ts = .ok e) (hl : ts.length + 2 ≤ 300) {t u : Tk} (ht : sgn t [40] = true) (hu : sgn u [41] = true) (h1 : spB t = true) (h2 : spB u = true) : parseL (t :: (ts ++ [u])) = .ok e := by
  obtain ⟨_, hs, hd, he⟩ := ok_parse h
  exact parse_ok (by simp; omega) (AllS.cons h1 (hs.append (AllS.cons h2 AllS.nil))) (der_to (Der.round t u ts e ht hu hd) (by omega) (by omega)) he
/-- Three with a sign between: the first two, and then the third one. -/
theorem parse_left {a b c : List Tk} {x y z : List Nd} (ha : parseL a = .ok x) (hb : parseL b = .ok y) (hc : parseL c = .ok z) {t u s : Tk} (ht : sgn t [40] = true) (hu : sgn u [41] = true) (h1 : spB t = true) (h2 : spB u = true) (h3 : spB s = true)
    {l : Nat} (hl : lftL l) (hs : lvlS l s = true) (hw : a.length + b.length + c.length + 8 ≤ 300) (hn : x.length + y.length + z.length + 2 ≤ 200) :
    parseL ((t :: (a ++ [u])) ++ s :: ((t :: (b ++ [u])) ++ s :: (t :: (c ++ [u])))) = .ok (opN (opOf s) :: opN (opOf s) :: (x ++ (y ++ z))) := by
  obtain ⟨_, sa, da, _⟩ := ok_parse ha
  obtain ⟨_, sb, db, _⟩ := ok_parse hb
  obtain ⟨_, sc, dc, _⟩ := ok_parse hc
  have hl8 : l ≤ 7 := by unfold lftL at hl; omega
  have ra := der_to (Der.round t u a x ht hu da) (m := l) (by omega) (by omega)
  have rb := der_to (Der.round t u b y ht hu db) (m := l + 1) (by omega) (by omega)
  have rc := der_to (Der.round t u c z ht hu dc) (m := l + 1) (by omega) (by omega)
  have d := Der.bin l s _ _ _ _ hl hs (Der.bin l s _ _ _ _ hl hs ra rb) rc
  have br : ∀ w, AllS w → AllS (t :: (w ++ [u])) := fun w hw => AllS.cons h1 (hw.append (AllS.cons h2 AllS.nil))
  refine parse_ok (by simp; omega) ((br a sa).append (AllS.cons h3 ((br b sb).append (AllS.cons h3 (br c sc))))) ?_ (by simp; omega)
  have d0 := der_to d (m := 0) (by omega) (by omega)
  simpa using d0

/-- Where a word cannot stand it cannot, whatever stands behind. -/
theorem acc_more : ∀ (l : List Tk) (s : PS) (b : Tk) (n : Nat) (k : Int) (m : List Tk), acc s b l = some (n + 1, k) → acc s b (l ++ m) = some (n + 1 + m.length, k)
  | [], s, b, n, k, m, h => by
    rw [acc_nil] at h
    split at h
    · cases h
    · injection h with h; injection h with h; omega
  | t :: r, s, b, n, k, m, h => by
    rw [acc_cons] at h
    rw [List.cons_append, acc_cons]
    cases ho : s.next t b with
    | none =>
      rw [ho] at h
      rw [stp_none] at h ⊢
      injection h with h; injection h with h1 h2
      rw [← h2, List.length_append]
      have : r.length + m.length + 1 = n + 1 + m.length := by omega
      rw [this]
    | some s' =>
      rw [ho] at h
      unfold stp at h ⊢
      simp only at h ⊢
      split at h
      · rename_i hg
        rw [if_pos hg]
        injection h with h; injection h with h1 h2
        rw [← h2, List.length_append]
        have : r.length + m.length + 1 = n + 1 + m.length := by omega
        rw [this]
      · rename_i hg
        rw [if_neg hg]
        exact acc_more r s' t n k m h
/-- The words ahead of it can go on. -/
theorem acc_ahead : ∀ (a : List Tk) (s : PS) (b t : Tk) (r : List Tk) (k : Int), acc s b (a ++ t :: r) = some (r.length + 1, k) → acc s b a = none ∨ acc s b a = some (0, 1)
  | [], s, b, t, r, k, h => by
    rw [acc_nil]
    split
    · exact Or.inl rfl
    · exact Or.inr rfl
  | u :: a, s, b, t, r, k, h => by
    rw [List.cons_append, acc_cons] at h
    rw [acc_cons]
    cases ho : s.next u b with
    | none =>
      rw [ho, stp_none] at h
      injection h with h; injection h with h1 h2
      simp at h1; omega
    | some s' =>
      rw [ho] at h
      unfold stp at h ⊢
      simp only at h ⊢
      split at h
      · injection h with h; injection h with h1 h2
        simp at h1; omega
      · rename_i hg
        rw [if_neg hg]
        exact acc_ahead a s' u t r k h
theorem acc_le : ∀ (l : List Tk) (s : PS) (b : Tk) (x : Nat × Int), acc s b l = some x → x.1 ≤ l.length ∧ (x.1 = 0 → x.2 = 1) ∧ (x.2 = 1 ∨ x.2 = 5)
  | [], s, b, x, h => by
    rw [acc_nil] at h
    split at h
    · cases h
    · injection h with h; subst h; exact ⟨by simp, fun _ => rfl, Or.inl rfl⟩
  | t :: r, s, b, x, h => by
    rw [acc_cons] at h
    cases ho : s.next t b with
    | none =>
      rw [ho, stp_none] at h
      injection h with h; subst h; exact ⟨by simp, fun h => by simp at h, Or.inl rfl⟩
    | some s' =>
      rw [ho] at h
      unfold stp at h
      simp only at h
      split at h
      · injection h with h; subst h; exact ⟨by simp, fun h => by simp at h, Or.inr rfl⟩
      · obtain ⟨h1, h2⟩ := acc_le r s' t x h
        exact ⟨by simp; omega, h2⟩

/-- As soon as can be. -/
theorem parse_soon {ts more : List Tk} {i : Nat} {k : Int} (hl : (ts ++ more).length ≤ 300) (hs : AllS (ts ++ more)) (h : parseL ts = .error (i, k)) (hi : i < ts.length) (hk : k ≠ 4) :
    parseL (ts ++ more) = .error (i, k) ∧ ((∃ e, parseL (ts.take i) = .ok e) ∨ parseL (ts.take i) = .error (0, 4) ∨ parseL (ts.take i) = .error (i, 1)) := by
  have hs1 : AllS ts := fun t ht => hs t (List.mem_append_left _ ht)
  rw [List.length_append] at hl
  obtain ⟨n, ha, hn⟩ := error_parse (by omega) hs1 h hk
  obtain ⟨hle, _, _⟩ := acc_le _ _ _ _ ha
  simp only at hle
  cases n with
  | zero => omega
  | succ n =>
    constructor
    · have := acc_more ts ps0 bT n k more ha
      rw [parse_halt (by rw [List.length_append]; omega) hs this]
      have e : (ts ++ more).length - (n + 1 + more.length) = i := by rw [List.length_append]; omega
      rw [e]
    · have e1 : ts = ts.take i ++ ts.drop i := (List.take_append_drop i ts).symm
      have hd : ts.drop i ≠ [] := by
        intro h0
        have := congrArg List.length h0
        rw [List.length_drop] at this
        simp at this; omega
      cases hdr : ts.drop i with
      | nil => exact absurd hdr hd
      | cons t r =>
        have hr : r.length = n := by
          have := congrArg List.length hdr
          rw [List.length_drop, List.length_cons] at this
          omega
        rw [e1, hdr, ← hr] at ha
        have hs2 : AllS (ts.take i) := fun t ht => hs1 t (List.mem_of_mem_take ht)
        have hl2 : (ts.take i).length ≤ 300 := by rw [List.length_take]; omega
        rcases acc_ahead _ _ _ t r k ha with h0 | h0
        · obtain ⟨e, hd⟩ := der_acc hs2.kinds h0
          by_cases he : 200 < e.length
          · exact Or.inr (Or.inl (parse_full hl2 hs2 hd he))
          · exact Or.inl ⟨e, parse_ok hl2 hs2 hd (by omega)⟩
        · refine Or.inr (Or.inr ?_)
          rw [parse_halt hl2 hs2 h0]
          have : (ts.take i).length - 0 = i := by rw [List.length_take]; omega
          simp only [this]
end Go.Proofs.YtpbnjdgedifnoaaGreatDoor
namespace Go.Proofs.YtpbnjdgedifnoaaGreatDoor
set_option linter.unusedVariables false
set_option maxRecDepth 100000

def wL : List Tk := [mkT 2 [49] 0, mkT 5 [45] 2, mkT 2 [50] 4, mkT 5 [45] 6, mkT 2 [51] 8]
def wB : List Tk := [mkT 5 [40] 0, mkT 2 [53] 1, mkT 5 [41] 2]
def wS : List Tk := [mkT 2 [53] 0, mkT 5 [41] 2]
theorem read_wL : readL [49, 32, 45, 32, 50, 32, 45, 32, 51] = .ok wL := by
  unfold readL
  rw [if_neg (by decide), wds_word (by decide) (x := (2, [49], 1)) rfl (by decide)]
  simp only [List.nil_append, List.drop_zero, Nat.sub_self, Nat.zero_add]
  rw [wds_blank (by decide), wds_word (by decide) (x := (5, [45], 1)) rfl (by simp)]
  simp only [Nat.sub_self, List.drop_zero]
  rw [wds_blank (by decide), wds_word (by decide) (x := (2, [50], 1)) rfl (by simp)]
  simp only [Nat.sub_self, List.drop_zero]
  rw [wds_blank (by decide), wds_word (by decide) (x := (5, [45], 1)) rfl (by simp)]
  simp only [Nat.sub_self, List.drop_zero]
  rw [wds_blank (by decide), wds_word (by decide) (x := (2, [51], 1)) rfl (by simp)]
  simp only [Nat.sub_self, List.drop_zero]
  rw [wds_nil]
  rfl
theorem read_wB : readL [40, 53, 41] = .ok wB := by
  unfold readL
  rw [if_neg (by decide), wds_word (by decide) (x := (5, [40], 1)) rfl (by decide)]
  simp only [List.nil_append, List.drop_zero, Nat.sub_self, Nat.zero_add]
  rw [wds_word (by decide) (x := (2, [53], 1)) rfl (by simp)]
  simp only [Nat.sub_self, List.drop_zero]
  rw [wds_word (by decide) (x := (5, [41], 1)) rfl (by simp)]
  simp only [Nat.sub_self, List.drop_zero]
  rw [wds_nil]
  rfl
theorem read_wS : readL [53, 32, 41] = .ok wS := by
  unfold readL
  rw [if_neg (by decide), wds_word (by decide) (x := (2, [53], 1)) rfl (by decide)]
  simp only [List.nil_append, List.drop_zero, Nat.sub_self, Nat.zero_add]
  rw [wds_blank (by decide), wds_word (by decide) (x := (5, [41], 1)) rfl (by simp)]
  simp only [Nat.sub_self, List.drop_zero]
  rw [wds_nil]
  rfl
theorem parse_wL : parseL (wL.map at0) = .ok [opN 18, opN 18, ⟨2, 1, ⟨#[]⟩, ⟨#[]⟩⟩, ⟨2, 2, ⟨#[]⟩, ⟨#[]⟩⟩, ⟨2, 3, ⟨#[]⟩, ⟨#[]⟩⟩] := by kernel_rfl
theorem parse_wB : parseL (wB.map at0) = .ok [⟨2, 5, ⟨#[]⟩, ⟨#[]⟩⟩] := by kernel_rfl
theorem parse_wS : parseL (wS.map at0) = .error (1, 1) := by kernel_rfl
end Go.Proofs.YtpbnjdgedifnoaaGreatDoor
namespace Go.Proofs.YtpbnjdgedifnoaaGreatDoor
set_option linter.unusedVariables false

/-- What a word stands for by itself. -/
def its (t : Tk) : List UInt8 := if t.kind = 1 ∨ t.kind = 5 then t.l else []
/-- The next word; behind the last one there is one of no kind. -/
def hdT (l : List Tk) : Tk := match l with | [] => bT | t :: _ => t
def sayB (l : List Tk) (s : List UInt8) : Bool := decide (its (hdT l) = s)
def nextN (l : List Tk) (s : List UInt8) : Bool := match l with | [] => false | t :: _ => nam t s

theorem spB_word {t : Tk} (h : spB t = true) (h3 : t.kind ≠ 3) (h4 : t.kind ≠ 4) : word1 t.l = .ok (t.kind, t.l, t.l.length) := by
  unfold spB at h
  rw [if_neg h3, if_neg h4] at h
  cases hl : t.s.data.toList with
  | nil => rw [hl] at h; cases h
  | cons c r =>
    rw [hl] at h
    simp only [Bool.and_eq_true] at h
    have h2 := h.2
    have el : t.l = c :: r := hl
    rw [el]
    unfold whole at h2
    cases hw : word1 (c :: r) with
    | error n => rw [hw] at h2; cases h2
    | ok x =>
      rw [hw] at h2
      simp only [Bool.and_eq_true, beq_iff_eq] at h2
      obtain ⟨a, b, d⟩ := x
      simp only at h2
      rw [h2.1.1, h2.1.2, h2.2]
theorem spB_one {t : Tk} (h : spB t = true) (h1 : t.kind = 1) : nfault t.l = 0 := by
  have hw := spB_word h (by rw [h1]; decide) (by rw [h1]; decide)
  rcases word1_inv hw with ⟨_, _, h, _⟩ | ⟨k, _⟩ | ⟨k, _⟩ | ⟨k, _⟩ | ⟨k, _⟩
  · exact h
  all_goals rw [h1] at k; cases k
theorem spB_two {t : Tk} (h : spB t = true) (h1 : t.kind = 2) : t.l.all digb = true ∧ t.l.length ≤ 19 ∧ t.l ≠ [] := by
  have hw := spB_word h (by rw [h1]; decide) (by rw [h1]; decide)
  rcases word1_inv hw with ⟨k, _⟩ | ⟨_, e, h2, h3, h4⟩ | ⟨k, _⟩ | ⟨k, _⟩ | ⟨k, _⟩
  · rw [h1] at k; cases k
  · have ha : t.l.takeWhile digb = t.l := by
      have := List.takeWhile_prefix (p := digb) (l := t.l)
      exact this.eq_of_length h3.symm
    refine ⟨?_, h2, ?_⟩
    · rw [← ha]; exact List.all_takeWhile
    · rw [← ha]; exact h4
  all_goals rw [h1] at k; cases k
theorem spB_five {t : Tk} (h : spB t = true) (h1 : t.kind = 5) : two t.l = true ∨ (∃ c, t.l = [c] ∧ shorts.contains c = true) := by
  have hw := spB_word h (by rw [h1]; decide) (by rw [h1]; decide)
  rcases word1_inv hw with ⟨k, _⟩ | ⟨k, _⟩ | ⟨k, _⟩ | ⟨k, _⟩ | ⟨_, ⟨h2, _⟩ | ⟨h2, e, h3, h4⟩⟩
  · rw [h1] at k; cases k
  · rw [h1] at k; cases k
  · rw [h1] at k; cases k
  · rw [h1] at k; cases k
  · exact Or.inl h2
  · right
    match hl : t.l, h3, h2 with
    | [], h3, _ => simp at h3
    | [c], _, h2 => exact ⟨c, rfl, by simpa using h2⟩
    | _ :: _ :: _, h3, _ => simp at h3
theorem spB_size {t : Tk} (h : spB t = true) : t.l.length ≤ 60 := by
  by_cases h3 : t.kind = 3
  · unfold spB at h
    rw [if_pos h3] at h
    unfold textOk at h
    simp at h
    show t.s.data.toList.length ≤ 60
    simp; omega
  · by_cases h4 : t.kind = 4
    · unfold spB at h
      rw [if_neg h3, if_pos h4] at h
      have hn : nfault t.s.data.toList = 0 := by simpa using h
      have := (name_low (l := t.l) hn).1
      omega
    · have hw := spB_word h h3 h4
      rcases word1_inv hw with ⟨_, _, h, _⟩ | ⟨_, _, h, _⟩ | ⟨k, _⟩ | ⟨k, _⟩ | ⟨_, ⟨h2, _⟩ | ⟨h2, e, h3, h4⟩⟩
      · have := (name_low h).1; omega
      · omega
      · exact absurd k h3
      · exact absurd k h4
      · unfold two at h2
        simp at h2
        rcases h2 with (((h2 | h2) | h2) | h2) | h2 <;> rw [h2] <;> decide
      · omega
theorem name_head {l : List UInt8} (h : nfault l = 0) : ∃ c r, l = c :: r ∧ letb c = true := by
  unfold nfault at h
  split at h
  · rename_i hn
    unfold nm at hn
    rw [Bool.and_eq_true] at hn
    cases l with
    | nil => simp at hn
    | cons c r =>
      refine ⟨c, r, rfl, ?_⟩
      have := hn.1
      simp only [pre, Bool.and_eq_true] at this
      exact this.1
  · cases h
theorem sign_head {t : Tk} (h : spB t = true) (h1 : t.kind = 5) : ∃ c r, t.l = c :: r ∧ letb c = false := by
  rcases spB_five h h1 with h2 | ⟨c, e, hc⟩
  · unfold two at h2
    simp at h2
    rcases h2 with (((h2 | h2) | h2) | h2) | h2 <;> rw [h2] <;> exact ⟨_, _, rfl, by decide⟩
  · refine ⟨c, [], e, ?_⟩
    unfold shorts at hc
    simp at hc
    rcases hc with rfl | rfl | rfl | rfl | rfl | rfl | rfl | rfl | rfl | rfl | rfl | rfl | rfl | rfl <;> decide
/-- A name that is said. -/
theorem sayB_nam {l : List Tk} {c : UInt8} {w : List UInt8} (hl : AllS l) (hc : letb c = true) : sayB l (c :: w) = nextN l (c :: w) := by
  unfold sayB nextN
  cases l with
  | nil => rfl
  | cons t r =>
    have ht := hl t (List.mem_cons_self ..)
    show decide (its t = c :: w) = nam t (c :: w)
    unfold its nam
    by_cases h1 : t.kind = 1
    · rw [if_pos (Or.inl h1), h1]
      rw [Bool.eq_iff_iff]; simp
    · by_cases h5 : t.kind = 5
      · obtain ⟨d, r', e, hd⟩ := sign_head ht h5
        rw [if_pos (Or.inr h5), e, h5]
        rw [Bool.eq_iff_iff]; simp
        intro e1; rw [e1, hc] at hd; cases hd
      · rw [if_neg (by rintro (h | h) <;> contradiction)]
        rw [Bool.eq_iff_iff]; simp [h1]
/-- A sign that is said. -/
theorem sayB_sgn {l : List Tk} {c : UInt8} {w : List UInt8} (hl : AllS l) (hc : letb c = false) : sayB l (c :: w) = nextS l (c :: w) := by
  unfold sayB nextS
  cases l with
  | nil => rfl
  | cons t r =>
    have ht := hl t (List.mem_cons_self ..)
    show decide (its t = c :: w) = sgn t (c :: w)
    unfold its sgn
    by_cases h1 : t.kind = 1
    · obtain ⟨d, r', e, hd⟩ := name_head (spB_one ht h1)
      rw [if_pos (Or.inl h1), e, h1]
      rw [Bool.eq_iff_iff]; simp
      intro e1; rw [e1, hc] at hd; cases hd
    · by_cases h5 : t.kind = 5
      · rw [if_pos (Or.inr h5), h5]
        rw [Bool.eq_iff_iff]; simp
      · rw [if_neg (by rintro (h | h) <;> contradiction)]
        rw [Bool.eq_iff_iff]; simp [h5]

/-- A form has no more nodes than words. -/
theorem der_len {l : Nat} {a : List Tk} {x : List Nd} (h : Der l a x) : (l ≤ 8 → x.length ≤ a.length) ∧ (9 ≤ l → x.length ≤ a.length + 1) := by
  induction h with
  | up l a x hl hd ih =>
    refine ⟨fun _ => ih.1 (by omega), fun h => by omega⟩
  | bin l t a b x y hl _ _ _ iha ihb =>
    have hl' : l ≤ 5 := by unfold lftL at hl; omega
    refine ⟨fun _ => ?_, fun h => by omega⟩
    have := iha.1 (by omega); have := ihb.1 (by omega)
    simp; omega
  | _ => simp_all <;> omega
theorem der_some {l : Nat} {a : List Tk} {x : List Nd} (h : Der l a x) (hl : l ≤ 8) : x ≠ [] := by
  have : x ≠ [] := by
    clear hl
    induction h <;> simp_all
  exact this
/-- What is read is the beginning of the words, and has no more nodes. -/
theorem pE_len {n lvl : Nat} {l r : List Tk} {e : List Nd} (hk : AllK l) (hl : lvl ≤ 8) (h : pE n lvl l = some (.ok (e, r))) : e.length + r.length ≤ l.length ∧ e ≠ [] ∧ ∃ a, l = a ++ r := by
  obtain ⟨a, h1, h2⟩ := (snd_all n).E lvl l hl hk e r h
  have := (der_len h2).1 hl
  refine ⟨by rw [h1, List.length_append]; omega, ?_, a, h1⟩
  exact der_some h2 hl

abbrev PRes := Except (Nat × Int) (List Nd × List Tk)
theorem andR_some {X : Option PRes} {f : List Nd → List Tk → Option PRes} {res : PRes} (h : andR X f = some res) : (∃ e, X = some (.error e) ∧ res = .error e) ∨ ∃ a r, X = some (.ok (a, r)) ∧ f a r = some res := by
  unfold andR at h
  match X, h with
  | none, h => cases h
  | some (.error e), h => injection h with h; exact Or.inl ⟨e, rfl, h.symm⟩
  | some (.ok (a, r)), h => exact Or.inr ⟨a, r, rfl, h⟩
theorem must_some {p : Tk → Bool} {l : List Tk} {f : Tk → List Tk → Option PRes} {res : PRes} (h : must p l f = some res) :
    ((∀ t r, l = t :: r → p t = false) ∧ res = .error (l.length, 1)) ∨ ∃ t r, l = t :: r ∧ p t = true ∧ f t r = some res := by
  unfold must at h
  cases l with
  | nil => injection h with h; exact Or.inl ⟨fun _ _ h => (by cases h), h.symm⟩
  | cons t r =>
    simp only at h
    by_cases hp : p t = true
    · rw [if_pos hp] at h; exact Or.inr ⟨t, r, rfl, hp, h⟩
    · rw [if_neg hp] at h
      injection h with h
      refine Or.inl ⟨fun u r' e => ?_, h.symm⟩
      injection e with e1 _
      subst e1; simpa using hp

theorem pE_zero_if {n : Nat} {t : Tk} {r : List Tk} (c : (nam t wIf && !nextS r [58, 58]) = true) : pE (n + 1) 0 (t :: r) = andR (pE n 0 r) fun a r1 => must (fun u => nam u wThen) r1 fun _ r2 => andR (pE n 0 r2) fun b r3 => must (fun u => nam u wElse) r3 fun _ r4 =>
    andR (pE n 0 r4) fun c r5 => some (.ok (opN 13 :: (a ++ (b ++ c)), r5)) := by
  rw [pE.eq_def]; simp only [if_true, c]
theorem pE_zero_up {n : Nat} {l : List Tk} (c : (nextN l wIf && !nextS l.tail [58, 58]) = false) : pE (n + 1) 0 l = pE n 1 l := by
  cases l with
  | nil => rw [pE.eq_def]; rfl
  | cons t r =>
    have c' : ¬ (nam t wIf && !nextS r [58, 58]) = true := by
      have : (nam t wIf && !nextS r [58, 58]) = false := c
      rw [this]; decide
    rw [pE.eq_def]; simp only [if_true, if_neg c']
theorem pE_left {n lvl : Nat} {l : List Tk} (hl : lftL lvl) : pE (n + 1) lvl l = andR (pE n (lvl + 1) l) fun a r => pL n lvl a r := by
  rw [pE.eq_def]
  rcases hl with hl | hl | hl | hl <;> subst hl <;> rfl
theorem pL_go {n lvl : Nat} {a : List Nd} {t : Tk} {r : List Tk} {res : PRes} (hl : lvlS lvl t = true) (h : pL n lvl a (t :: r) = some res) :
    (∃ e, pE n (lvl + 1) r = some (.error e) ∧ res = .error e) ∨ ∃ b r1, pE n (lvl + 1) r = some (.ok (b, r1)) ∧ pL n lvl (opN (opOf t) :: (a ++ b)) r1 = some res := by
  cases n with
  | zero => rw [pL] at h; cases h
  | succ n =>
    rw [pL.eq_def] at h
    simp only [hl, if_true] at h
    rcases andR_some h with ⟨e, h1, h2⟩ | ⟨b, r1, h1, h2⟩
    · exact Or.inl ⟨e, (mono_all n (n + 1) (by omega)).E _ _ _ h1, h2⟩
    · exact Or.inr ⟨b, r1, (mono_all n (n + 1) (by omega)).E _ _ _ h1, (mono_all n (n + 1) (by omega)).L _ _ _ _ h2⟩
theorem pL_stop {n lvl : Nat} {a : List Nd} {l : List Tk} {res : PRes} (hl : ∀ t r, l = t :: r → lvlS lvl t = false) (h : pL n lvl a l = some res) : res = .ok (a, l) := by
  cases n with
  | zero => rw [pL] at h; cases h
  | succ n =>
    rw [pL.eq_def] at h
    cases l with
    | nil => injection h with h; exact h.symm
    | cons t r =>
      simp only [hl t r rfl, Bool.false_eq_true, if_false] at h
      injection h with h; exact h.symm
theorem pE_three {n : Nat} {l : List Tk} : pE (n + 1) 3 l = andR (pE n 4 l) fun a r =>
        match r with
        | [] => some (.ok (a, []))
        | t :: r1 =>
          if relS t = true then andR (pE n 4 r1) fun b r2 => some (.ok (opN (opOf t) :: (a ++ b), r2))
          else if hasS t = true then must (fun u => u.kind == 1) r1 fun u r2 => some (.ok (mkN (if nam t wHas = true then 21 else 24) 0 u.l [] :: a, r2))
          else if nam t wLike = true then must (fun u => u.kind == 3) r1 fun u r2 => some (.ok (mkN 23 0 u.l [] :: a, r2))
          else some (.ok (a, t :: r1)) := by rw [pE.eq_def]; rfl
theorem pE_not {n : Nat} {t : Tk} {r : List Tk} (c1 : sgn t [33] = true) : pE (n + 1) 6 (t :: r) = andR (pE n 6 r) fun a r1 => some (.ok (opN 9 :: a, r1)) := by
  rw [pE.eq_def]; simp [c1]
theorem pE_neg {n : Nat} {t : Tk} {r : List Tk} (c1 : sgn t [33] = false) (c2 : (sgn t [45] && !nextNum r) = true) : pE (n + 1) 6 (t :: r) = andR (pE n 6 r) fun a r1 => some (.ok (opN 10 :: a, r1)) := by
  rw [pE.eq_def]; simp [c1, c2]
theorem pE_six_up {n : Nat} {l : List Tk} (c1 : nextS l [33] = false) (c2 : (nextS l [45] && !nextNum l.tail) = false) : pE (n + 1) 6 l = pE n 7 l := by
  cases l with
  | nil => rw [pE.eq_def]; rfl
  | cons t r =>
    have c1' : sgn t [33] = false := c1
    have c2' : (sgn t [45] && !nextNum r) = false := c2
    rw [pE.eq_def]; simp only [c1', c2', Bool.false_eq_true, if_false]; rfl
theorem pE_seven {n : Nat} {l : List Tk} : pE (n + 1) 7 l = andR (pE n 8 l) fun a r => pP n a r := by rw [pE.eq_def]; rfl
theorem pP_stop {n : Nat} {a : List Nd} {l : List Tk} {res : PRes} (hl : nextS l [46] = false) (h : pP n a l = some res) : res = .ok (a, l) := by
  cases n with
  | zero => rw [pP] at h; cases h
  | succ n =>
    rw [pP.eq_def] at h
    cases l with
    | nil => injection h with h; exact h.symm
    | cons t r =>
      have hl' : sgn t [46] = false := hl
      simp only [hl', Bool.false_eq_true, if_false] at h
      injection h with h; exact h.symm
theorem pP_bad {n : Nat} {a : List Nd} {t : Tk} {r : List Tk} {res : PRes} (ht : sgn t [46] = true) (hr : ∀ u r1, r = u :: r1 → (u.kind == 1) = false) (h : pP n a (t :: r) = some res) : res = .error (r.length, 1) := by
  cases n with
  | zero => rw [pP] at h; cases h
  | succ n =>
    rw [pP.eq_def] at h
    simp only [ht, if_true] at h
    rcases must_some h with ⟨_, h1⟩ | ⟨u, r1, e, hu, _⟩
    · exact h1
    · rw [hr u r1 e] at hu; cases hu
theorem pP_get {n : Nat} {a : List Nd} {t u : Tk} {r : List Tk} {res : PRes} (ht : sgn t [46] = true) (hu : (u.kind == 1) = true) (hc : (isCall u && nextS r [40]) = false) (h : pP n a (t :: u :: r) = some res) :
    pP n (mkN 22 0 u.l [] :: a) r = some res := by
  cases n with
  | zero => rw [pP] at h; cases h
  | succ n =>
    rw [pP.eq_def] at h
    simp only [ht, if_true] at h
    rcases must_some h with ⟨h1, _⟩ | ⟨u', r1, e, _, h1⟩
    · rw [h1 u r rfl] at hu; cases hu
    · injection e with e1 e2
      subst e1 e2
      rw [hc, if_neg (by decide)] at h1
      exact (mono_all n (n + 1) (by omega)).P _ _ _ h1
theorem pP_call {n : Nat} {a : List Nd} {t u v : Tk} {r : List Tk} {res : PRes} (ht : sgn t [46] = true) (hu : (u.kind == 1) = true) (hc : isCall u = true) (hv : sgn v [40] = true) (h : pP n a (t :: u :: v :: r) = some res) :
    (∃ e, pE n 0 r = some (.error e) ∧ res = .error e) ∨ ∃ b r2, pE n 0 r = some (.ok (b, r2)) ∧
      (((∀ x r', r2 = x :: r' → sgn x [41] = false) ∧ res = .error (r2.length, 1)) ∨ ∃ x r3, r2 = x :: r3 ∧ sgn x [41] = true ∧ pP n (opN (callOp u) :: (a ++ b)) r3 = some res) := by
  cases n with
  | zero => rw [pP] at h; cases h
  | succ n =>
    rw [pP.eq_def] at h
    simp only [ht, if_true] at h
    rcases must_some h with ⟨h1, _⟩ | ⟨u', r1, e, _, h1⟩
    · rw [h1 u (v :: r) rfl] at hu; cases hu
    · injection e with e1 e2
      subst e1 e2
      rw [hc, show nextS (v :: r) [40] = true from hv, if_pos (by decide)] at h1
      rcases andR_some h1 with ⟨e, h2, h3⟩ | ⟨b, r2, h2, h3⟩
      · exact Or.inl ⟨e, (mono_all n (n + 1) (by omega)).E _ _ _ h2, h3⟩
      · refine Or.inr ⟨b, r2, (mono_all n (n + 1) (by omega)).E _ _ _ h2, ?_⟩
        rcases must_some h3 with ⟨h4, h5⟩ | ⟨x, r3, h4, h5, h6⟩
        · exact Or.inl ⟨h4, h5⟩
        · exact Or.inr ⟨x, r3, h4, h5, (mono_all n (n + 1) (by omega)).P _ _ _ h6⟩
theorem pS_go {n k : Nat} {acc : List Nd} {l : List Tk} {res : PRes} (h : pS n k acc l = some res) :
    (∃ e, pE n 0 l = some (.error e) ∧ res = .error e) ∨ ∃ b r, pE n 0 l = some (.ok (b, r)) ∧
      ((nextS r [93] = true ∧ res = .ok (mkN 5 ((k : Int) + 1) [] [] :: (acc ++ b), r.tail)) ∨ (nextS r [93] = false ∧ nextS r [44] = true ∧ pS n (k + 1) (acc ++ b) r.tail = some res) ∨ (nextS r [93] = false ∧ nextS r [44] = false ∧ res = .error (r.length, 1))) := by
  cases n with
  | zero => rw [pS] at h; cases h
  | succ n =>
    rw [pS.eq_def] at h
    simp only at h
    rcases andR_some h with ⟨e, h2, h3⟩ | ⟨b, r, h2, h3⟩
    · exact Or.inl ⟨e, (mono_all n (n + 1) (by omega)).E _ _ _ h2, h3⟩
    · refine Or.inr ⟨b, r, (mono_all n (n + 1) (by omega)).E _ _ _ h2, ?_⟩
      cases r with
      | nil => injection h3 with h3; exact Or.inr (Or.inr ⟨rfl, rfl, h3.symm⟩)
      | cons t r1 =>
        simp only at h3
        by_cases c1 : sgn t [93] = true
        · rw [if_pos c1] at h3; injection h3 with h3; exact Or.inl ⟨c1, h3.symm⟩
        · rw [if_neg c1] at h3
          have c1' : nextS (t :: r1) [93] = false := by simpa [nextS] using c1
          by_cases c2 : sgn t [44] = true
          · rw [if_pos c2] at h3; exact Or.inr (Or.inl ⟨c1', c2, (mono_all n (n + 1) (by omega)).S _ _ _ _ h3⟩)
          · rw [if_neg c2] at h3; injection h3 with h3
            exact Or.inr (Or.inr ⟨c1', by simpa [nextS] using c2, h3.symm⟩)
/-- May a field begin here, behind this name? -/
def keyB (nm : List UInt8) (l : List Tk) : Bool := match l with | [] => false | u :: _ => u.kind == 1 && decide (Lib.compareBytes nm u.l < 0)
theorem pK_bad {n k : Nat} {nm : List UInt8} {acc : List Nd} {l : List Tk} {res : PRes} (hk : keyB nm l = false) (h : pK n k nm acc l = some res) : res = .error (l.length, 1) := by
  cases n with
  | zero => rw [pK] at h; cases h
  | succ n =>
    rw [pK.eq_def] at h
    simp only at h
    rcases must_some h with ⟨_, h1⟩ | ⟨u, r, e, hu, _⟩
    · exact h1
    · subst e
      have : (u.kind == 1 && decide (Lib.compareBytes nm u.l < 0)) = false := hk
      rw [this] at hu; cases hu
theorem pK_colon {n k : Nat} {nm : List UInt8} {acc : List Nd} {u : Tk} {l : List Tk} {res : PRes} (hk : keyB nm (u :: l) = true) (hc : nextS l [58] = false) (h : pK n k nm acc (u :: l) = some res) : res = .error (l.length, 1) := by
  cases n with
  | zero => rw [pK] at h; cases h
  | succ n =>
    rw [pK.eq_def] at h
    simp only at h
    rcases must_some h with ⟨h1, _⟩ | ⟨u', r, e, hu, h1⟩
    · have : (u.kind == 1 && decide (Lib.compareBytes nm u.l < 0)) = true := hk
      rw [h1 u l rfl] at this; cases this
    · injection e with e1 e2
      subst e1 e2
      rcases must_some h1 with ⟨_, h2⟩ | ⟨v, r, e, hv, _⟩
      · exact h2
      · subst e
        have : sgn v [58] = false := hc
        rw [this] at hv; cases hv
theorem pK_go {n k : Nat} {nm : List UInt8} {acc : List Nd} {u v : Tk} {l : List Tk} {res : PRes} (hk : keyB nm (u :: v :: l) = true) (hc : sgn v [58] = true) (h : pK n k nm acc (u :: v :: l) = some res) :
    (∃ e, pE n 0 l = some (.error e) ∧ res = .error e) ∨ ∃ b r, pE n 0 l = some (.ok (b, r)) ∧
      ((nextS r [125] = true ∧ res = .ok (mkN 6 ((k : Int) + 1) [] [] :: (acc ++ (mkN 7 0 u.l [] :: b)), r.tail)) ∨
       (nextS r [125] = false ∧ u.l ≠ wLast ∧ nextS r [44] = true ∧ pK n (k + 1) u.l (acc ++ (mkN 7 0 u.l [] :: b)) r.tail = some res) ∨
       (nextS r [125] = false ∧ (u.l = wLast ∨ nextS r [44] = false) ∧ res = .error (r.length, 1))) := by
  cases n with
  | zero => rw [pK] at h; cases h
  | succ n =>
    rw [pK.eq_def] at h
    simp only at h
    rcases must_some h with ⟨h1, _⟩ | ⟨u', r, e, hu, h1⟩
    · have : (u.kind == 1 && decide (Lib.compareBytes nm u.l < 0)) = true := hk
      rw [h1 u _ rfl] at this; cases this
    · injection e with e1 e2
      subst e1 e2
      rcases must_some h1 with ⟨h2, _⟩ | ⟨v', r, e, hv, h2⟩
      · rw [h2 v l rfl] at hc; cases hc
      · injection e with e1 e2
        subst e1 e2
        rcases andR_some h2 with ⟨e, h3, h4⟩ | ⟨b, r, h3, h4⟩
        · exact Or.inl ⟨e, (mono_all n (n + 1) (by omega)).E _ _ _ h3, h4⟩
        · refine Or.inr ⟨b, r, (mono_all n (n + 1) (by omega)).E _ _ _ h3, ?_⟩
          cases r with
          | nil => injection h4 with h4; exact Or.inr (Or.inr ⟨rfl, Or.inr rfl, h4.symm⟩)
          | cons t r1 =>
            simp only at h4
            by_cases c1 : sgn t [125] = true
            · rw [if_pos c1] at h4; injection h4 with h4; exact Or.inl ⟨c1, h4.symm⟩
            · rw [if_neg c1] at h4
              have c1' : nextS (t :: r1) [125] = false := by simpa [nextS] using c1
              by_cases c2 : comR u.l t = true
              · rw [if_pos c2] at h4
                have c3 := c2
                unfold comR at c3
                rw [Bool.and_eq_true] at c3
                exact Or.inr (Or.inl ⟨c1', by simpa using c3.2, c3.1, (mono_all n (n + 1) (by omega)).K _ _ _ _ _ h4⟩)
              · rw [if_neg c2] at h4; injection h4 with h4
                refine Or.inr (Or.inr ⟨c1', ?_, h4.symm⟩)
                by_cases c3 : u.l = wLast
                · exact Or.inl c3
                · right
                  have : comR u.l t = false := by simpa using c2
                  unfold comR at this
                  rw [show (u.l == wLast) = false from by simpa using c3] at this
                  simpa [nextS] using this
end Go.Proofs.YtpbnjdgedifnoaaGreatDoor
namespace Go.Proofs.YtpbnjdgedifnoaaGreatDoor
set_option linter.unusedVariables false

theorem parse_dv : ∀ (l : List UInt8) (acc : Nat), l.all digb = true → acc * 10 ^ l.length + dv l < 10 ^ 19 → Lib.parseUint10 acc l = .ok (acc * 10 ^ l.length + dv l)
  | [], acc, _, _ => by simp [Lib.parseUint10, dv]
  | c :: r, acc, h, hl => by
    simp only [List.all_cons, Bool.and_eq_true] at h
    obtain ⟨h1, h2⟩ := dig_rng h.1
    have e : acc * 10 ^ (c :: r).length + dv (c :: r) = (acc * 10 + (c.toNat - 48)) * 10 ^ r.length + dv r := by
      simp only [dv, List.length_cons, Nat.pow_succ, Nat.add_mul]
      rw [Nat.mul_assoc acc 10, Nat.mul_comm 10 (10 ^ r.length)]
      omega
    rw [e] at hl ⊢
    have hp : 0 < 10 ^ r.length := Nat.pow_pos (by decide)
    have hm : acc * 10 + (c.toNat - 48) ≤ (acc * 10 + (c.toNat - 48)) * 10 ^ r.length := Nat.le_mul_of_pos_right _ hp
    have h19 : (10 : Nat) ^ 19 = 10000000000000000000 := by decide
    rw [Lib.parseUint10, if_pos ⟨h1, h2⟩, if_neg (by omega), if_neg (by omega)]
    exact parse_dv r _ h.2 hl
theorem mag_dv {l : List UInt8} (h : l.all digb = true) (hl : l.length ≤ 19) (hne : l ≠ []) : Lib.parseMag l = .ok (dv l) := by
  unfold Lib.parseMag
  rw [if_neg hne, parse_dv l 0 h (by
    have := dv_lt l h
    have h2 : (10 : Nat) ^ l.length ≤ 10 ^ 19 := Nat.pow_le_pow_right (by decide) hl
    omega)]
  simp
/-- A number without its sign. -/
theorem atoi_plain {t : Tk} (h : t.l.all digb = true) (hl : t.l.length ≤ 19) (hne : t.l ≠ []) : Lib.atoiAll t.l = if great t false = true then .range else .ok (digV t.l) := by
  have hg := great_iff (b := false) h hl
  simp only [Bool.false_eq_true, if_false] at hg
  have hm := mag_dv h hl hne
  have hd := digV_dv h
  cases e : t.l with
  | nil => exact absurd e hne
  | cons c r =>
    have hc : 48 ≤ c.toNat ∧ c.toNat ≤ 57 := by
      rw [e] at h
      simp only [List.all_cons, Bool.and_eq_true] at h
      exact dig_rng h.1
    rw [e] at hm hd hg
    unfold Lib.atoiAll
    simp only
    rw [if_neg (by omega), hm]
    simp only
    rw [hd]
    have n1 : ¬ c.toNat = 45 := by omega
    by_cases hb : great t false = true
    · rw [if_pos hb, if_pos ⟨n1, by have := hg.1 hb; omega⟩]
    · rw [if_neg hb, if_neg (by
        rintro ⟨_, h9⟩
        exact hb (hg.2 (by omega))), if_neg (fun h => n1 h.1), if_neg n1]
/-- A number with a minus ahead. -/
theorem atoi_minus {t : Tk} (h : t.l.all digb = true) (hl : t.l.length ≤ 19) (hne : t.l ≠ []) : Lib.atoiAll (45 :: t.l) = if great t true = true then .range else .ok (- digV t.l) := by
  have hg := great_iff (b := true) h hl
  simp only [if_true] at hg
  have hm := mag_dv h hl hne
  have hd := digV_dv h
  have e45 : (45 : UInt8).toNat = 45 := by decide
  unfold Lib.atoiAll
  simp only [e45]
  rw [if_pos (by simp), hm]
  simp only
  rw [hd]
  by_cases hb : great t true = true
  · rw [if_pos hb, if_neg (by simp), if_pos ⟨trivial, hg.1 hb⟩]
  · rw [if_neg hb, if_neg (by simp), if_neg (fun h9 => hb (hg.2 h9.2))]
    simp
theorem num_range {t : Tk} {b : Bool} (h : t.l.all digb = true) (hl : t.l.length ≤ 19) (hg : great t b = false) : -9223372036854775808 ≤ (if b then - digV t.l else digV t.l) ∧ (if b then - digV t.l else digV t.l) ≤ 9223372036854775807 := by
  have h1 := great_iff (b := b) h hl
  rw [digV_dv h]
  have h2 : ¬ (if b then 9223372036854775808 else 9223372036854775807) < dv t.l := fun h9 => by rw [h1.2 h9] at hg; cases hg
  cases b
  · simp only [Bool.false_eq_true, if_false] at *
    omega
  · simp only [if_true] at *
    omega
end Go.Proofs.YtpbnjdgedifnoaaGreatDoor
namespace Go.Proofs.YtpbnjdgedifnoaaGreatDoor
open Go.RowKit
set_option linter.unusedVariables false

/-- A world in which all that lay in w below N is as it was. -/
structure BW (N : Nat) (w : World) where
  at_ : World
  bel : Below N w at_
instance (N : Nat) (w : World) : Inhabited (BW N w) := ⟨⟨w, Below.refl _ _⟩⟩
theorem wp_region_bel {P : Program} {id : Nat} {Q : Exit → Act → World → Prop} {a : Act} {w : World} {l : List Oper} (hm : P.follows .mixedOrders = true) (hB : Region.lexB .any l.toArray = true)
    (h : wpQuiet P l.toArray (fun w' => ∃ p : BW w.heap.size w, w' = p.at_) (fun a' => ∀ w', (∃ p : BW w.heap.size w, w' = p.at_) → Q .normal a' w') l a) : (Code.region id l.toArray true).wp P Q a w :=
  wp_region_quiet (C := fun w' => ∃ p : BW w.heap.size w, w' = p.at_) hm hB ⟨⟨w.drew, (Below.refl _ _).drew⟩, rfl⟩ (by simpa using h)
theorem Calls.bel {P : Program} {f : FuncId} {args : Array Value} {w : World} {v : Value} (p : BW w.heap.size w)
    (h : Calls P f args p.at_ fun e w' => e = .returned v ∧ Below p.at_.heap.size p.at_ w') : Calls P f args p.at_ fun e w'' => e = .returned v ∧ ∃ q : BW w.heap.size w, w'' = q.at_ :=
  h.mono fun _ w' ⟨he, hb⟩ => ⟨he, ⟨w', p.bel.trans (hb.mono p.bel.size)⟩, rfl⟩
end Go.Proofs.YtpbnjdgedifnoaaGreatDoor
namespace Go.Proofs.YtpbnjdgedifnoaaGreatDoor
set_option linter.unusedVariables false

/-- What one field comes to, behind this name: where it is wrong; or its word, its nodes and what stands behind. -/
def FO (n : Nat) (nm : List UInt8) (l : List Tk) (out : Except (Nat × Int) (Tk × List Nd × List Tk)) : Prop :=
  (keyB nm l = false ∧ out = .error (l.length, 1)) ∨
  (∃ u l1, l = u :: l1 ∧ keyB nm l = true ∧
    ((nextS l1 [58] = false ∧ out = .error (l1.length, 1)) ∨
     (∃ v l2, l1 = v :: l2 ∧ sgn v [58] = true ∧
       ((∃ e, pE n 0 l2 = some (.error e) ∧ out = .error e) ∨
        (∃ b r, pE n 0 l2 = some (.ok (b, r)) ∧ ((u.l = wLast ∧ nextS r [125] = false ∧ out = .error (r.length, 1)) ∨ ((u.l ≠ wLast ∨ nextS r [125] = true) ∧ out = .ok (u, b, r))))))))
/-- Where the fields of a record stand, behind so many of them, the last name. -/
def RecI (n : Nat) (res : PRes) (vs : List (List Nd)) (nm : List UInt8) (l : List Tk) : Prop :=
  (nextS l [125] = true ∧ res = .ok (mkN 6 vs.length [] [] :: vs.flatten, l.tail)) ∨
  (nextS l [125] = false ∧ ((vs = [] ∧ nm = [] ∧ pK n 0 [] [] l = some res) ∨ (vs ≠ [] ∧ nextS l [44] = true ∧ pK n vs.length nm vs.flatten l.tail = some res) ∨ (vs ≠ [] ∧ nextS l [44] = false ∧ res = .error (l.length, 1))))
theorem RecI.start {n : Nat} {res : PRes} {l : List Tk} (h : (if nextS l [125] = true then some (.ok ([mkN 6 0 [] []], l.tail)) else pK n 0 [] [] l) = some res) : RecI n res [] [] l := by
  by_cases c : nextS l [125] = true
  · rw [if_pos c] at h; injection h with h; exact Or.inl ⟨c, h.symm⟩
  · rw [if_neg c] at h; exact Or.inr ⟨by simpa using c, Or.inl ⟨rfl, rfl, h⟩⟩
theorem RecI.part {n : Nat} {res : PRes} {vs : List (List Nd)} {nm : List UInt8} {l : List Tk} (h : pK n vs.length nm vs.flatten l = some res) :
    ∃ out, FO n nm l out ∧ ((∃ e, out = .error e ∧ res = .error e) ∨ ∃ u b r, out = .ok (u, b, r) ∧ RecI n res (vs ++ [mkN 7 0 u.l [] :: b]) u.l r) := by
  by_cases c1 : keyB nm l = true
  · cases l with
    | nil => cases c1
    | cons u l1 =>
      by_cases c2 : nextS l1 [58] = true
      · cases l1 with
        | nil => cases c2
        | cons v l2 =>
          have hv : sgn v [58] = true := c2
          rcases pK_go c1 hv h with ⟨e, h1, h2⟩ | ⟨b, r, h1, h2⟩
          · exact ⟨.error e, Or.inr ⟨u, _, rfl, c1, Or.inr ⟨v, l2, rfl, hv, Or.inl ⟨e, h1, rfl⟩⟩⟩, Or.inl ⟨e, rfl, h2⟩⟩
          · have ef : (vs ++ [mkN 7 0 u.l [] :: b]).flatten = vs.flatten ++ (mkN 7 0 u.l [] :: b) := by simp
            have el : (vs ++ [mkN 7 0 u.l [] :: b]).length = vs.length + 1 := by simp
            have hne : vs ++ [mkN 7 0 u.l [] :: b] ≠ [] := by simp
            rcases h2 with ⟨c3, h3⟩ | ⟨c3, c4, c5, h3⟩ | ⟨c3, c4, h3⟩
            · refine ⟨.ok (u, b, r), Or.inr ⟨u, _, rfl, c1, Or.inr ⟨v, l2, rfl, hv, Or.inr ⟨b, r, h1, Or.inr ⟨Or.inr c3, rfl⟩⟩⟩⟩, Or.inr ⟨u, b, r, rfl, ?_⟩⟩
              unfold RecI; rw [ef, el]; exact Or.inl ⟨c3, h3⟩
            · refine ⟨.ok (u, b, r), Or.inr ⟨u, _, rfl, c1, Or.inr ⟨v, l2, rfl, hv, Or.inr ⟨b, r, h1, Or.inr ⟨Or.inl c4, rfl⟩⟩⟩⟩, Or.inr ⟨u, b, r, rfl, ?_⟩⟩
              unfold RecI; rw [ef, el]; exact Or.inr ⟨c3, Or.inr (Or.inl ⟨hne, c5, h3⟩)⟩
            · by_cases c6 : u.l = wLast
              · exact ⟨.error (r.length, 1), Or.inr ⟨u, _, rfl, c1, Or.inr ⟨v, l2, rfl, hv, Or.inr ⟨b, r, h1, Or.inl ⟨c6, c3, rfl⟩⟩⟩⟩, Or.inl ⟨_, rfl, h3⟩⟩
              · have c7 : nextS r [44] = false := by
                  rcases c4 with c4 | c4
                  · exact absurd c4 c6
                  · exact c4
                refine ⟨.ok (u, b, r), Or.inr ⟨u, _, rfl, c1, Or.inr ⟨v, l2, rfl, hv, Or.inr ⟨b, r, h1, Or.inr ⟨Or.inl c6, rfl⟩⟩⟩⟩, Or.inr ⟨u, b, r, rfl, ?_⟩⟩
                unfold RecI; rw [ef, el]; exact Or.inr ⟨c3, Or.inr (Or.inr ⟨hne, c7, h3⟩)⟩
      · have c2' : nextS l1 [58] = false := by simpa using c2
        exact ⟨.error (l1.length, 1), Or.inr ⟨u, l1, rfl, c1, Or.inl ⟨c2', rfl⟩⟩, Or.inl ⟨_, rfl, pK_colon c1 c2' h⟩⟩
  · have c1' : keyB nm l = false := by simpa using c1
    exact ⟨.error (l.length, 1), Or.inl ⟨c1', rfl⟩, Or.inl ⟨_, rfl, pK_bad c1' h⟩⟩
end Go.Proofs.YtpbnjdgedifnoaaGreatDoor
