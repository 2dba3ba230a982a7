/- Values as trees: which types a value has, and which of its own. No program is named here. -/
import Derived.Test.YtjbjheeigdblkabKiB
import Derived.Test.YtjbjheeigdblkabShape
namespace Go.Proofs.Ytjbjheeigdblkab
set_option linter.unusedVariables false

/-- A row of values; or, behind a name, one of fields whose names rise. -/
def okV : Option ByteArray → Tp → Prop
  | _, .nil => True
  | none, .cons y l r => (y.op ≠ 7 ∧ ndOk y = true ∧ (y.op = 5 ∧ l.len = y.n.toNat ∧ okV none l ∨ y.op = 6 ∧ l.len = y.n.toNat ∧ okV (some e0) l ∨ y.op ≠ 5 ∧ y.op ≠ 6 ∧ l = .nil)) ∧ okV none r
  | some m, .cons f lf r => (f.op = 7 ∧ ndOk f = true ∧ cmpB m f.s < 0) ∧ (lf.len = 1 ∧ okV none lf) ∧ okV (some f.s) r
theorem okV.none_iff {y : Nd} {l r : Tp} : okV none (.cons y l r) ↔ (y.op ≠ 7 ∧ ndOk y = true ∧ (y.op = 5 ∧ l.len = y.n.toNat ∧ okV none l ∨ y.op = 6 ∧ l.len = y.n.toNat ∧ okV (some e0) l ∨ y.op ≠ 5 ∧ y.op ≠ 6 ∧ l = .nil)) ∧ okV none r := by rw [okV]
theorem okV.some_iff {m : ByteArray} {f : Nd} {lf r : Tp} : okV (some m) (.cons f lf r) ↔ (f.op = 7 ∧ ndOk f = true ∧ cmpB m f.s < 0) ∧ (lf.len = 1 ∧ okV none lf) ∧ okV (some f.s) r := by rw [okV]
theorem okV.nil {m : Option ByteArray} : okV m .nil := by cases m <;> simp [okV]
theorem setV_tree {f : Nat} (h : ∀ v r, pastV f v = some r → ∃ x k, okV none (.cons x k .nil) ∧ v = x :: (k.flat ++ r)) : ∀ (n : Nat) (last : Option (List Nd)) (v r : List Nd), setLoop (pastV f) n last v = some r → ∃ t, t.len = n ∧ okV none t ∧ v = t.flat ++ r
  | 0, last, v, r, e => by simp only [setLoop, Option.some.injEq] at e; subst e; exact ⟨.nil, rfl, okV.nil, rfl⟩
  | n + 1, last, v, r, e => by
    simp only [setLoop] at e
    cases e1 : pastV f v with
    | none => rw [e1] at e; cases e
    | some s =>
      simp only [e1] at e
      split at e
      · obtain ⟨x, k, h3, rfl⟩ := h _ _ e1
        obtain ⟨t, h4, h5, rfl⟩ := setV_tree h n _ s r e
        obtain ⟨a, _⟩ := okV.none_iff.1 h3
        exact ⟨.cons x k t, by simp [Tp.len, h4], okV.none_iff.2 ⟨a, h5⟩, by simp [Tp.flat]⟩
      · cases e
theorem recV_tree {f : Nat} (h : ∀ v r, pastV f v = some r → ∃ x k, okV none (.cons x k .nil) ∧ v = x :: (k.flat ++ r)) : ∀ (n : Nat) (l : ByteArray) (v r : List Nd), recLoop (pastV f) n l v = some r → ∃ t, t.len = n ∧ okV (some l) t ∧ v = t.flat ++ r
  | 0, l, v, r, e => by simp only [recLoop, Option.some.injEq] at e; subst e; exact ⟨.nil, rfl, okV.nil, rfl⟩
  | n + 1, l, [], r, e => by simp [recLoop] at e
  | n + 1, l, y :: v, r, e => by
    simp only [recLoop] at e
    split at e
    · rename_i hy
      cases e1 : pastV f v with
      | none => rw [e1] at e; cases e
      | some s =>
        rw [e1] at e
        obtain ⟨x, k, h3, rfl⟩ := h _ _ e1
        obtain ⟨t, h4, h5, rfl⟩ := recV_tree h n _ s r e
        exact ⟨.cons y (.cons x k .nil) t, by simp [Tp.len, h4], okV.some_iff.2 ⟨hy, ⟨rfl, h3⟩, h5⟩, by simp [Tp.flat]⟩
    · cases e
theorem pastV_tree : ∀ (f : Nat) (v r : List Nd), pastV f v = some r → ∃ x k, okV none (.cons x k .nil) ∧ v = x :: (k.flat ++ r)
  | 0, v, r, h => by simp [pastV] at h
  | f + 1, [], r, h => by simp [pastV] at h
  | f + 1, x :: m, r, h => by
    simp only [pastV] at h
    split at h
    · rename_i c
      split at h
      · rename_i c5
        obtain ⟨t, h1, h2, rfl⟩ := setV_tree (pastV_tree f) _ _ _ _ h
        exact ⟨x, t, okV.none_iff.2 ⟨⟨c.1, c.2, .inl ⟨c5, h1, h2⟩⟩, okV.nil⟩, rfl⟩
      · rename_i c5
        split at h
        · rename_i c6
          obtain ⟨t, h1, h2, rfl⟩ := recV_tree (pastV_tree f) _ _ _ _ h
          exact ⟨x, t, okV.none_iff.2 ⟨⟨c.1, c.2, .inr (.inl ⟨c6, h1, h2⟩)⟩, okV.nil⟩, rfl⟩
        · rename_i c6
          simp only [Option.some.injEq] at h
          subst h
          exact ⟨x, .nil, okV.none_iff.2 ⟨⟨c.1, c.2, .inr (.inr ⟨c5, c6, rfl⟩)⟩, okV.nil⟩, rfl⟩
    · cases h
/-- What is a value is such a tree. -/
theorem val_treeK {v : List Nd} (h : vfault v = 0) : ∃ x k, okV none (.cons x k .nil) ∧ v = x :: k.flat ∧ k.flat.length + 1 ≤ 200 := by
  obtain ⟨h1, h2⟩ := isVal_past h
  obtain ⟨x, k, h3, h4⟩ := pastV_tree _ _ _ h2
  rw [List.append_nil] at h4
  exact ⟨x, k, h3, h4, by rw [h4] at h1; simpa using h1⟩
theorem okV.ar : ∀ {t : Tp} {m : Option ByteArray}, okV m t → arK t
  | .nil, _, _ => trivial
  | .cons x k r, none, h => by
    obtain ⟨⟨h7, hx, h⟩, hr⟩ := okV.none_iff.1 h
    rcases h with ⟨h5, hl, hk⟩ | ⟨h6, hl, hk⟩ | ⟨h5, h6, rfl⟩
    · exact ⟨by unfold cntK; rw [if_pos (by omega)]; exact hl.symm, okV.ar hk, okV.ar hr⟩
    · exact ⟨by unfold cntK; rw [if_pos (by omega)]; exact hl.symm, okV.ar hk, okV.ar hr⟩
    · refine ⟨?_, trivial, okV.ar hr⟩
      have : x.op = 1 ∨ x.op = 2 ∨ x.op = 3 ∨ x.op = 4 := by
        unfold ndOk at hx
        repeat' split at hx
        all_goals first | omega | cases hx
      unfold cntK
      rw [if_neg (by omega), if_neg (by omega)]; rfl
  | .cons x k r, some m, h => by
    obtain ⟨⟨h7, hx, hc⟩, ⟨hl, hk⟩, hr⟩ := okV.some_iff.1 h
    exact ⟨by unfold cntK; rw [if_neg (by omega), if_pos (by omega), hl]; rfl, okV.ar hk, okV.ar hr⟩
/-- Has a record all that must be? -/
def noMiss (l : Tp) : Tp → Bool
  | .nil => true
  | .cons f _ r => (decide (f.n ≠ 1) || (l.find f.s).isSome) && noMiss l r
/-- Have all values of a row a type (false); all fields of it those of a record's type (true)? -/
def hs : Bool → Tp → Tp → Bool
  | _, .nil, _ => true
  | false, .cons y l r, k => (match k with
    | .nil => false
    | .cons x m _ => if x.op = 48 then true else if x.op = 41 then decide (y.op = 1) else if x.op = 42 then decide (y.op = 2) else if x.op = 43 then decide (y.op = 3) else if x.op = 44 then decide (y.op = 4 ∧ y.s = x.s)
      else if x.op = 45 then decide (y.op = 5) && hs false l m else if x.op = 46 then decide (y.op = 6) && hs true l m && noMiss l m else false) && hs false r k
  | true, .cons f lf r, m => (match m.find f.s with | some (_, kg) => hs false lf kg | none => false) && hs true r m
theorem hs_cons (y x : Nd) (l r m s : Tp) : hs false (.cons y l r) (.cons x m s) = ((if x.op = 48 then true else if x.op = 41 then decide (y.op = 1) else if x.op = 42 then decide (y.op = 2) else if x.op = 43 then decide (y.op = 3) else if x.op = 44 then decide (y.op = 4 ∧ y.s = x.s)
      else if x.op = 45 then decide (y.op = 5) && hs false l m else if x.op = 46 then decide (y.op = 6) && hs true l m && noMiss l m else false) && hs false r (.cons x m s)) := by rw [hs]
theorem hs_flds (f : Nd) (lf r m : Tp) : hs true (.cons f lf r) m = ((match m.find f.s with | some (_, kg) => hs false lf kg | none => false) && hs true r m) := by rw [hs]
/-- The join of all. -/
def jall : Tp → Tp → Tp
  | acc, .nil => acc
  | acc, .cons x k r => jall (jn false acc (.cons x k .nil)) r
/-- The types of a row of values of their own (false); the fields of a record's (true). -/
def ow : Bool → Tp → Tp
  | _, .nil => .nil
  | true, .cons f lf r => .cons (fdN f.s 1) (ow false lf) (ow true r)
  | false, .cons y l r => if y.op = 1 then .cons (lfN 41) .nil (ow false r) else if y.op = 2 then .cons (lfN 42) .nil (ow false r) else if y.op = 3 then .cons (lfN 43) .nil (ow false r)
    else if y.op = 4 then .cons ⟨44, 0, y.s, e0⟩ .nil (ow false r) else if y.op = 5 then .cons (lfN 45) (jall (.cons (lfN 49) .nil .nil) (ow false l)) (ow false r) else .cons ⟨46, (ow true l).len, e0, e0⟩ (ow true l) (ow false r)
theorem ow_cons (y : Nd) (l r : Tp) : ow false (.cons y l r) = if y.op = 1 then .cons (lfN 41) .nil (ow false r) else if y.op = 2 then .cons (lfN 42) .nil (ow false r) else if y.op = 3 then .cons (lfN 43) .nil (ow false r)
    else if y.op = 4 then .cons ⟨44, 0, y.s, e0⟩ .nil (ow false r) else if y.op = 5 then .cons (lfN 45) (jall (.cons (lfN 49) .nil .nil) (ow false l)) (ow false r) else .cons ⟨46, (ow true l).len, e0, e0⟩ (ow true l) (ow false r) := by rw [ow]
theorem ow_flds (f : Nd) (lf r : Tp) : ow true (.cons f lf r) = .cons (fdN f.s 1) (ow false lf) (ow true r) := by rw [ow]
/-- All of a row are below it. -/
def AllLe (c : Tp) : Tp → Prop
  | .nil => True
  | .cons x k r => Le (.cons x k .nil) c ∧ AllLe c r
theorem jall_ok {c : Tp} (hc : T1 c) : ∀ (t acc : Tp), isTy none t = true → T1 acc → T1 (jall acc t) ∧ (Le (jall acc t) c ↔ Le acc c ∧ AllLe c t)
  | .nil, acc, _, ha => ⟨ha, by simp [jall, AllLe]⟩
  | .cons x k r, acc, ht, ha => by
    obtain ⟨h1, h2⟩ := isTy_none_cons.1 ht
    have hx := T1.iff.2 h1
    obtain ⟨h3, h4⟩ := jall_ok hc r _ h2 (ha.jn hx)
    exact ⟨h3, by rw [jall, h4, jn_le_iff ha hx hc, AllLe, and_assoc]⟩
theorem T1.none : T1 (.cons (lfN 49) .nil .nil) := T1.iff.2 (.leaf 49 (by omega))
theorem ow_find {s : ByteArray} : ∀ {t : Tp}, (ow true t).find s = (t.find s).map (fun p => (fdN s 1, ow false p.2))
  | .nil => by simp [ow, Tp.find]
  | .cons f lf r => by
    rw [ow_flds, Tp.find, Tp.find, ow_find (t := r)]
    show (if f.s = s then _ else _) = _
    by_cases c : f.s = s
    · rw [if_pos c, if_pos c, c]; rfl
    · rw [if_neg c, if_neg c]
theorem noMiss_ow (l : Tp) : ∀ (m : Tp), noMiss l m = musts (ow true l) m
  | .nil => rfl
  | .cons f kf r => by
    rw [noMiss, musts, noMiss_ow l r, ow_find]
    cases l.find f.s <;> simp [fdN]
theorem AllLe.one {c t : Tp} (h : t.len = 1) : AllLe c t ↔ Le t c := by
  obtain ⟨x, k, rfl⟩ := tp_len1 h
  simp [AllLe]
/-- Each value has just the types that are above its own. -/
theorem ow_ok : ∀ (t : Tp), (okV none t → isTy none (ow false t) = true ∧ (ow false t).len = t.len ∧ ∀ c, T1 c → (hs false t c = true ↔ AllLe c (ow false t))) ∧ (∀ m, okV (some m) t → Fl m (ow true t) ∧ (ow true t).len = t.len ∧ ∀ a c, Fl a c → hs true t c = blw true (ow true t) c)
  | .nil => ⟨fun _ => ⟨rfl, rfl, fun c _ => by simp [hs, ow, AllLe]⟩, fun m _ => ⟨by simp [Fl, isTy, ow], rfl, fun a c _ => by simp [hs, ow, blw]⟩⟩
  | .cons y l r => by
    refine ⟨fun h => ?_, fun m h => ?_⟩
    · obtain ⟨⟨h7, hy, hl⟩, hr⟩ := okV.none_iff.1 h
      obtain ⟨r1, r2, r3⟩ := (ow_ok r).1 hr
      have key : ∀ (x : Nd) (k : Tp), ow false (.cons y l r) = .cons x k (ow false r) → TyC x k → (∀ c, T1 c → (hs false (.cons y l .nil) c = true ↔ Le (.cons x k .nil) c)) → isTy none (ow false (.cons y l r)) = true ∧ (ow false (.cons y l r)).len = (Tp.cons y l r).len ∧ ∀ c, T1 c → (hs false (.cons y l r) c = true ↔ AllLe c (ow false (.cons y l r))) := by
        intro x k e hx hc
        rw [e]
        refine ⟨isTy_none_cons.2 ⟨hx, r1⟩, by simp [Tp.len, r2], fun c hT => ?_⟩
        rw [AllLe, ← hc c hT, ← r3 c hT]
        obtain ⟨z, q, rfl, _⟩ := hT.of
        rw [hs_cons, hs_cons, Bool.and_eq_true, Bool.and_eq_true]
        simp [hs]
      rcases hl with ⟨h5, hn, hk⟩ | ⟨h6, hn, hk⟩ | ⟨h5, h6, rfl⟩
      · obtain ⟨l1, l2, l3⟩ := (ow_ok l).1 hk
        have hj := fun c hc => jall_ok (c := c) hc (ow false l) (.cons (lfN 49) .nil .nil) l1 T1.none
        refine key (lfN 45) (jall (.cons (lfN 49) .nil .nil) (ow false l)) (by rw [ow_cons, if_neg (by omega), if_neg (by omega), if_neg (by omega), if_neg (by omega), if_pos h5]) (.set _ (hj _ T1.none).1) (fun c hT => ?_)
        obtain ⟨z, q, rfl, hz⟩ := hT.of
        rw [hs_cons, Bool.and_eq_true]
        unfold Le
        cases hz with
        | leaf op ho =>
          rw [blw_cons]
          simp only [lfN, hs, and_true]
          rcases ho with rfl | rfl | rfl | rfl | rfl <;> simp [h5]
        | ent s hs' => rw [blw_cons]; simp [lfN, h5]
        | set q hq =>
          rw [blw_sets]
          have := (hj q hq).2
          rw [← l3 q hq] at this
          unfold Le at this
          have e : blw false (.cons (lfN 49) .nil .nil) q = true := blw_none hq _ _
          rw [this, e]
          simp [lfN, h5, hs]
        | rcd q hq => rw [blw_cons]; simp [lfN, h5]
      · obtain ⟨l1, l2, l3⟩ := (ow_ok l).2 _ hk
        refine key ⟨46, (ow true l).len, e0, e0⟩ (ow true l) (by rw [ow_cons, if_neg (by omega), if_neg (by omega), if_neg (by omega), if_neg (by omega), if_neg (by omega)]) (.rcd _ l1) (fun c hT => ?_)
        obtain ⟨z, q, rfl, hz⟩ := hT.of
        rw [hs_cons, Bool.and_eq_true]
        unfold Le
        cases hz with
        | leaf op ho =>
          rw [blw_cons]
          simp only [lfN, hs, and_true]
          rcases ho with rfl | rfl | rfl | rfl | rfl <;> simp [h6]
        | ent s hs' => rw [blw_cons]; simp [h6]
        | set q hq => rw [blw_cons]; simp [lfN, h6]
        | rcd q hq =>
          rw [blw_rcds, ← l3 e0 q hq, ← noMiss_ow]
          simp [h6, hs]
      · have ho : y.op = 1 ∨ y.op = 2 ∨ y.op = 3 ∨ y.op = 4 := by
          unfold ndOk at hy
          repeat' split at hy
          all_goals first | omega | cases hy
        have hs0 : ∀ c, hs false (.nil) c = true := fun c => by rw [hs]
        by_cases h4 : y.op = 4
        · have hnf : nfault y.s.data.toList = 0 := by
            unfold ndOk at hy
            rw [if_neg (by omega), if_neg (by omega), if_neg (by omega), if_pos h4] at hy
            simp only [Bool.and_eq_true, beq_iff_eq] at hy
            exact hy.1.2
          refine key ⟨44, 0, y.s, e0⟩ .nil (by rw [ow_cons, if_neg (by omega), if_neg (by omega), if_neg (by omega), if_pos h4]) (.ent _ hnf) (fun c hT => ?_)
          obtain ⟨z, q, rfl, hz⟩ := hT.of
          rw [hs_cons, Bool.and_eq_true]
          simp only [hs0, and_true]
          unfold Le
          rw [blw_cons]
          cases hz with
          | leaf op ho =>
            simp only [lfN]
            rcases ho with rfl | rfl | rfl | rfl | rfl <;> simp [h4]
          | ent s hs' => simp [h4, ndEq]
          | set q hq => simp [lfN, h4]
          | rcd q hq => simp [h4]
        · refine key (lfN (y.op + 40)) .nil (by rw [ow_cons]; rcases ho with e | e | e | e <;> simp [e] <;> omega) (.leaf _ (by omega)) (fun c hT => ?_)
          obtain ⟨z, q, rfl, hz⟩ := hT.of
          rw [hs_cons, Bool.and_eq_true]
          simp only [hs0, and_true]
          unfold Le
          rw [blw_cons]
          cases hz with
          | leaf op hp =>
            rcases ho with e | e | e | e
            · rcases hp with rfl | rfl | rfl | rfl | rfl <;> simp [e, lfN, ndEq]
            · rcases hp with rfl | rfl | rfl | rfl | rfl <;> simp [e, lfN, ndEq]
            · rcases hp with rfl | rfl | rfl | rfl | rfl <;> simp [e, lfN, ndEq]
            · exact absurd e h4
          | ent s hs' =>
            rcases ho with e | e | e | e
            · simp [e, lfN]
            · simp [e, lfN]
            · simp [e, lfN]
            · exact absurd e h4
          | set q hq => rcases ho with e | e | e | e <;> simp [e, lfN]
          | rcd q hq => rcases ho with e | e | e | e <;> simp [e, lfN]
    · obtain ⟨⟨h7, hy, hc⟩, ⟨hl, hk⟩, hr⟩ := okV.some_iff.1 h
      obtain ⟨r1, r2, r3⟩ := (ow_ok r).2 _ hr
      obtain ⟨l1, l2, l3⟩ := (ow_ok l).1 hk
      have hnf : nfault y.s.data.toList = 0 := by
        unfold ndOk at hy
        rw [if_neg (by omega), if_neg (by omega), if_neg (by omega), if_neg (by omega), if_neg (by omega), if_pos h7] at hy
        simp only [Bool.and_eq_true, beq_iff_eq] at hy
        exact hy.2
      rw [ow_flds]
      refine ⟨Fl.cons_iff.2 ⟨⟨rfl, .inr rfl, rfl, hnf, hc⟩, ⟨l2.trans hl, l1⟩, r1⟩, by simp [Tp.len, r2], fun a c hF => ?_⟩
      rw [hs_flds, blw_flds, r3 a c hF]
      congr 1
      show _ = (match c.find y.s with | some (_, kg) => blw false (ow false l) kg | none => false)
      cases e : c.find y.s with
      | none => rfl
      | some p =>
        have := l3 p.2 (hF.find (f := p.1) e).2.2.2.2
        rw [AllLe.one (l2.trans hl)] at this
        exact Bool.eq_iff_iff.2 this
/-- A value's own type, and what it has. -/
theorem own_ok {y : Nd} {l : Tp} (h : okV none (.cons y l .nil)) : T1 (ow false (.cons y l .nil)) ∧ ∀ c, T1 c → (hs false (.cons y l .nil) c = true ↔ Le (ow false (.cons y l .nil)) c) := by
  obtain ⟨h1, h2, h3⟩ := (ow_ok _).1 h
  exact ⟨⟨h2, h1⟩, fun c hc => by rw [h3 c hc, AllLe.one h2]⟩
end Go.Proofs.Ytjbjheeigdblkab
