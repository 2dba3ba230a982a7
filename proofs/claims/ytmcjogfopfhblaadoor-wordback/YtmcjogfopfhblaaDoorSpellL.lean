/- How words are written: which ones can be, that what is written is read, and that what is read can be written. No program is named here. -/
import Derived.Test.YtmcjogfopfhblaaDoorWordL
namespace Go.Proofs.YtmcjogfopfhblaaDoor

/-- How a word is written; of what is no word something all the same. -/
def wtn (t : Tk) : List UInt8 := if t.kind = 4 then 63 :: t.s.data.toList else if t.kind = 3 then (if textOk t.s.data.toList = true then quoted t.s.data.toList else []) else t.s.data.toList
/-- At the first byte. -/
def at0 (t : Tk) : Tk := ⟨t.kind, t.s, 0⟩
/-- Is this list all of a word of this kind, as it is read? -/
def whole (k : Int) (l : List UInt8) : Bool :=
  match word1 l with
  | .ok x => x.2.2 == l.length && x.1 == k && x.2.1 == l
  | .error _ => false
/-- A word that can be written. -/
def spB (t : Tk) : Bool :=
  if t.kind = 3 then textOk t.s.data.toList else if t.kind = 4 then nfault t.s.data.toList == 0
  else match t.s.data.toList with
    | [] => false
    | c :: r => !(c.toNat == 32 || c.toNat == 34 || c.toNat == 63) && whole t.kind (c :: r)

theorem word1_inv {l : List UInt8} {k : Int} {t : List UInt8} {n : Nat} (h : word1 l = .ok (k, t, n)) :
    (k = 1 ∧ t = l.takeWhile namb ∧ nfault t = 0 ∧ n = t.length) ∨
    (k = 2 ∧ t = dig0 (l.takeWhile digb) ∧ t.length ≤ 19 ∧ n = (l.takeWhile digb).length ∧ l.takeWhile digb ≠ []) ∨
    (k = 3 ∧ t.all okb = true ∧ t.length ≤ 60 ∧ ∃ c r, l = c :: r ∧ (c.toNat == 34) = true) ∨
    (k = 4 ∧ nfault t = 0 ∧ ∃ c r, l = c :: r ∧ (c.toNat == 63) = true ∧ t = r.takeWhile namb) ∨
    (k = 5 ∧ ((two t = true ∧ t = l.take 2 ∧ n = 2) ∨ (t.any (fun c => shorts.contains c) = true ∧ t = l.take 1 ∧ n = 1 ∧ l ≠ []))) := by
  cases l with
  | nil => simp [word1] at h
  | cons c r =>
    rw [word1_cons] at h
    split at h
    · unfold wName at h
      split at h
      · rename_i h1
        cases h
        exact .inl ⟨rfl, rfl, h1, by simp⟩
      · cases h
    · split at h
      · rename_i h2
        unfold wNum at h
        split at h
        · cases h
        · cases h
          refine .inr (.inl ⟨rfl, rfl, by omega, rfl, ?_⟩)
          rw [List.takeWhile_cons, if_pos h2]; simp
      · split at h
        · rename_i h3
          unfold wQuo at h
          cases e : qsc false r with
          | none => rw [e] at h; cases h
          | some y =>
            rw [e] at h
            have := qsc_ok _ _ _ e
            simp only at h
            split at h
            · cases h
            · cases h; exact .inr (.inr (.inl ⟨rfl, this, by omega, c, r, rfl, h3⟩))
        · split at h
          · rename_i h4
            unfold wName at h
            split at h
            · rename_i h1
              cases h
              exact .inr (.inr (.inr (.inl ⟨rfl, h1, c, r, rfl, h4, rfl⟩)))
            · cases h
          · unfold wSign at h
            split at h
            · rename_i h1
              cases h
              exact .inr (.inr (.inr (.inr ⟨rfl, .inl ⟨h1, rfl, rfl⟩⟩)))
            · split at h
              · rename_i h1
                cases h
                exact .inr (.inr (.inr (.inr ⟨rfl, .inr ⟨h1, rfl, rfl, by simp⟩⟩)))
              · cases h

theorem dig0_le : ∀ l : List UInt8, (dig0 l).length ≤ l.length
  | [] => by simp [dig0]
  | [c] => by simp [dig0]
  | c :: d :: r => by
    have := dig0_le (d :: r)
    unfold dig0
    split
    · simp only [List.length_cons] at this ⊢; omega
    · simp
theorem dig0_all (p : UInt8 → Bool) : ∀ l : List UInt8, l.all p = true → (dig0 l).all p = true
  | [], _ => by simp [dig0]
  | [c], h => by simpa [dig0] using h
  | c :: d :: r, h => by
    have ih := dig0_all p (d :: r)
    unfold dig0
    split
    · apply ih; rw [List.all_cons, Bool.and_eq_true] at h; exact h.2
    · exact h
theorem dig0_ne : ∀ l : List UInt8, l ≠ [] → dig0 l ≠ []
  | [], h => absurd rfl h
  | [c], _ => by simp [dig0]
  | c :: d :: r, _ => by
    have ih := dig0_ne (d :: r) (by simp)
    unfold dig0
    split
    · exact ih
    · simp
theorem dig0_twice : ∀ l : List UInt8, dig0 (dig0 l) = dig0 l
  | [] => by simp [dig0]
  | [c] => by simp [dig0]
  | c :: d :: r => by
    have ih := dig0_twice (d :: r)
    by_cases h : (c.toNat == 48) = true
    · have e : dig0 (c :: d :: r) = dig0 (d :: r) := by rw [dig0, if_pos h]
      rw [e, ih]
    · have e : dig0 (c :: d :: r) = c :: d :: r := by rw [dig0, if_neg h]
      rw [e, e]

theorem name_all {t : List UInt8} (h : nfault t = 0) : t.all namb = true ∧ t.length ≤ 20 ∧ ∃ c r, t = c :: r ∧ letb c = true := by
  have hs := nfault_small h
  unfold nfault at h
  split at h
  · rename_i h1
    unfold nm at h1
    rw [Bool.and_eq_true] at h1
    cases t with
    | nil => simp at h1
    | cons c r =>
      have hp := h1.1
      unfold pre at hp
      rw [Bool.and_eq_true] at hp
      refine ⟨?_, hs, c, r, rfl, hp.1⟩
      rw [List.all_cons]
      have : namb c = true := by unfold namb; rw [hp.1]; rfl
      rw [this, Bool.true_and]
      exact hp.2
  · cases h
theorem let_not {c : UInt8} (h : letb c = true) : (c.toNat == 32 || c.toNat == 34 || c.toNat == 63) = false := by
  unfold letb at h
  simp only [Bool.or_eq_true, Bool.and_eq_true, decide_eq_true_eq, beq_iff_eq] at h
  simp only [Bool.or_eq_false_iff, beq_eq_false_iff_ne]
  omega
theorem dig_not {c : UInt8} (h : digb c = true) : (c.toNat == 32 || c.toNat == 34 || c.toNat == 63) = false := by
  unfold digb at h
  simp only [Bool.and_eq_true, decide_eq_true_eq] at h
  simp only [Bool.or_eq_false_iff, beq_eq_false_iff_ne]
  omega
theorem dig_let {c : UInt8} (h : digb c = true) : letb c = false := by
  unfold digb at h
  simp only [Bool.and_eq_true, decide_eq_true_eq] at h
  cases e : letb c with
  | false => rfl
  | true =>
    unfold letb at e
    simp only [Bool.or_eq_true, Bool.and_eq_true, decide_eq_true_eq, beq_iff_eq] at e
    omega
theorem whole_of {k : Int} {l : List UInt8} (h : word1 l = .ok (k, l, l.length)) : whole k l = true := by
  unfold whole; rw [h]; simp
theorem whole_to {k : Int} {l : List UInt8} (h : whole k l = true) : word1 l = .ok (k, l, l.length) := by
  unfold whole at h
  cases e : word1 l with
  | error n => rw [e] at h; cases h
  | ok x =>
    rw [e] at h
    obtain ⟨a, b, c⟩ := x
    simp only [Bool.and_eq_true, beq_iff_eq] at h
    rw [h.1.1, h.1.2, h.2]

theorem word_name {t : List UInt8} (h : nfault t = 0) : word1 t = .ok (1, t, t.length) := by
  obtain ⟨h1, _, c, r, e, h2⟩ := name_all h
  have : word1 t = wName 1 0 t := by rw [e, word1_cons, if_pos h2]
  rw [this]
  unfold wName
  rw [takeWhile_id _ _ h1, if_pos h]
  simp
theorem word_num {f : List UInt8} (h : f.all digb = true) (hne : f ≠ []) (hl : (dig0 f).length ≤ 19) : word1 (dig0 f) = .ok (2, dig0 f, (dig0 f).length) := by
  have ha := dig0_all digb f h
  have hn := dig0_ne f hne
  obtain ⟨c, r, e⟩ := List.exists_cons_of_ne_nil hn
  have hc : digb c = true := by rw [e, List.all_cons, Bool.and_eq_true] at ha; exact ha.1
  have : word1 (dig0 f) = wNum (dig0 f) := by rw [e, word1_cons, if_neg (by rw [dig_let hc]; decide), if_pos hc]
  rw [this]
  unfold wNum
  rw [takeWhile_id _ _ ha, dig0_twice, if_neg (by omega)]
theorem word_quo {t : List UInt8} (h : textOk t = true) : word1 (quoted t) = .ok (3, t, (quoted t).length) := by
  unfold textOk at h
  rw [Bool.and_eq_true, decide_eq_true_eq] at h
  have e : quoted t = 34 :: (body t ++ 34 :: []) := rfl
  rw [e, word1_cons, if_neg (by decide), if_neg (by decide), if_pos (by decide)]
  unfold wQuo
  rw [qsc_body [] t h.2]
  simp only
  rw [if_neg (by omega)]
  simp
theorem word_slot {t : List UInt8} (h : nfault t = 0) : word1 (63 :: t) = .ok (4, t, (63 :: t).length) := by
  obtain ⟨h1, _⟩ := name_all h
  rw [word1_cons, if_neg (by decide), if_neg (by decide), if_neg (by decide), if_pos (by decide)]
  unfold wName
  rw [takeWhile_id _ _ h1, if_pos h]
  simp; omega

theorem mkT_data (k : Int) (l : List UInt8) (a : Nat) : (mkT k l a).s.data.toList = l := rfl
theorem mkT_kind (k : Int) (l : List UInt8) (a : Nat) : (mkT k l a).kind = k := rfl
theorem tk_eta (t : Tk) : mkT t.kind t.s.data.toList 0 = at0 t := rfl
theorem two_cases {t : List UInt8} (h : two t = true) : t = [58, 58] ∨ t = [61, 61] ∨ t = [60, 61] ∨ t = [38, 38] ∨ t = [124, 124] := by
  unfold two at h
  simp only [Bool.or_eq_true, beq_iff_eq] at h
  rcases h with (((h | h) | h) | h) | h
  · exact .inl h
  · exact .inr (.inl h)
  · exact .inr (.inr (.inl h))
  · exact .inr (.inr (.inr (.inl h)))
  · exact .inr (.inr (.inr (.inr h)))

/-- What is read can be written. -/
theorem word1_spB {l : List UInt8} {k : Int} {t : List UInt8} {n : Nat} (a : Nat) (h : word1 l = .ok (k, t, n)) : spB (mkT k t a) = true := by
  unfold spB
  rw [mkT_kind, mkT_data]
  rcases word1_inv h with ⟨rfl, _, h2, _⟩ | ⟨rfl, h1, h2, _, h4⟩ | ⟨rfl, h1, h2, _⟩ | ⟨rfl, h1, _⟩ | ⟨rfl, h1⟩
  · obtain ⟨_, _, c, r, e, hc⟩ := name_all h2
    have hw := whole_of (word_name h2)
    rw [if_neg (by decide), if_neg (by decide)]
    subst e
    simp only [let_not hc, hw]; rfl
  · have hall := takeWhile_all digb l
    rw [h1] at h2
    have hw := whole_of (word_num hall h4 h2)
    rw [if_neg (by decide), if_neg (by decide)]
    rw [← h1] at hw
    have hda := dig0_all digb _ hall
    rw [← h1] at hda
    have hn := dig0_ne _ h4
    rw [← h1] at hn
    obtain ⟨c, r, e⟩ := List.exists_cons_of_ne_nil hn
    subst e
    rw [List.all_cons, Bool.and_eq_true] at hda
    simp only [dig_not hda.1, hw]; rfl
  · rw [if_pos rfl]
    unfold textOk; rw [h1, decide_eq_true h2]; rfl
  · rw [if_neg (by decide), if_pos rfl, h1]; rfl
  · rw [if_neg (by decide), if_neg (by decide)]
    rcases h1 with ⟨h1, _⟩ | ⟨h1, h2, _, h3⟩
    · rcases two_cases h1 with rfl | rfl | rfl | rfl | rfl <;> rfl
    · obtain ⟨c, r, e⟩ := List.exists_cons_of_ne_nil h3
      have et : t = [c] := by rw [h2, e]; rfl
      subst et
      have hc : shorts.contains c = true := by simpa using h1
      unfold shorts at hc
      simp only [List.contains_cons, List.contains_nil, Bool.or_false, Bool.or_eq_true, beq_iff_eq] at hc
      rcases hc with rfl | rfl | rfl | rfl | rfl | rfl | rfl | rfl | rfl | rfl | rfl | rfl | rfl | rfl <;> rfl

theorem word1_small {l : List UInt8} {k : Int} {t : List UInt8} {n : Nat} (h : word1 l = .ok (k, t, n)) : t.length ≤ 60 := by
  rcases word1_inv h with ⟨_, _, h2, _⟩ | ⟨_, h1, h2, _⟩ | ⟨_, _, h2, _⟩ | ⟨_, h1, _⟩ | ⟨_, h1⟩
  · have := (name_all h2).2.1; omega
  · omega
  · exact h2
  · have := (name_all h1).2.1; omega
  · rcases h1 with ⟨_, h1, _⟩ | ⟨_, h1, _⟩
    · rw [h1, List.length_take]; omega
    · rw [h1, List.length_take]; omega

theorem read_one {c : UInt8} {r : List UInt8} {k : Int} {t : List UInt8} (hc : (c.toNat == 32) = false) (h : word1 (c :: r) = .ok (k, t, (c :: r).length)) (hl : (c :: r).length ≤ 900) : readL (c :: r) = .ok [mkT k t 0] := by
  unfold readL
  rw [if_neg (by omega), wds_word hc h (by simp)]
  simp only
  rw [List.drop_of_length_le (by simp), wds_nil]
  rfl
theorem read_first {u : List UInt8} {x : Tk} (h : readL u = .ok [x]) (hx : x.at_ = 0) : ∃ c r n, u = c :: r ∧ (c.toNat == 32) = false ∧ word1 u = .ok (x.kind, x.s.data.toList, n) := by
  unfold readL at h
  split at h
  · cases h
  · cases u with
    | nil => rw [wds_nil] at h; cases h
    | cons c r =>
      by_cases hb : (c.toNat == 32) = true
      · rw [wds_blank hb] at h
        obtain ⟨ys, e, _, hp, _⟩ := wds_move _ r [] 1 [x] (Nat.le_refl _) h
        rw [List.nil_append] at e
        have := hp x (by rw [← e]; simp)
        omega
      · have hb' : (c.toNat == 32) = false := by simpa using hb
        cases hw : word1 (c :: r) with
        | error e => rw [wds_bad hb' hw] at h; cases h
        | ok y =>
          rw [wds_word hb' hw (by simp)] at h
          obtain ⟨ys, e, _⟩ := wds_move _ _ _ _ _ (Nat.le_refl _) h
          simp only [List.nil_append, List.cons_append, List.cons.injEq] at e
          obtain ⟨k, t, n⟩ := y
          exact ⟨c, r, n, rfl, hb', by rw [e.1]; rfl⟩

theorem wr_slot {t : Tk} (h : t.kind = 4) : wtn t = 63 :: t.s.data.toList := if_pos h
theorem wr_quo {t : Tk} (h : t.kind = 3) : wtn t = if textOk t.s.data.toList = true then quoted t.s.data.toList else [] := by
  unfold wtn; rw [if_neg (by rw [h]; decide), if_pos h]
theorem wr_else {t : Tk} (h3 : t.kind ≠ 3) (h4 : t.kind ≠ 4) : wtn t = t.s.data.toList := by
  unfold wtn; rw [if_neg h4, if_neg h3]
theorem spB_quo {t : Tk} (h : t.kind = 3) : spB t = textOk t.s.data.toList := if_pos h
theorem spB_slot {t : Tk} (h : t.kind = 4) : spB t = (nfault t.s.data.toList == 0) := by
  unfold spB; rw [if_neg (by rw [h]; decide), if_pos h]

/-- What can be written is read as it was; and nothing else is. -/
theorem spB_read {t : Tk} (h : spB t = true) : readL (wtn t) = .ok [at0 t] := by
  by_cases h3 : t.kind = 3
  · rw [spB_quo h3] at h
    rw [wr_quo h3, if_pos h]
    have hw := word_quo h
    have e : quoted t.s.data.toList = 34 :: (body t.s.data.toList ++ [34]) := rfl
    have hl := body_length t.s.data.toList
    unfold textOk at h
    rw [Bool.and_eq_true, decide_eq_true_eq] at h
    rw [e] at hw ⊢
    rw [read_one (by decide) hw (by simp; omega), ← tk_eta, h3]
  · by_cases h4 : t.kind = 4
    · rw [spB_slot h4] at h
      have hn : nfault t.s.data.toList = 0 := by simpa using h
      have := (name_all hn).2.1
      rw [wr_slot h4, read_one (by decide) (word_slot hn) (by simp only [List.length_cons]; omega), ← tk_eta, h4]
    · rw [wr_else h3 h4]
      unfold spB at h
      rw [if_neg h3, if_neg h4] at h
      cases e : t.s.data.toList with
      | nil => rw [e] at h; cases h
      | cons c r =>
        rw [e] at h
        simp only [Bool.and_eq_true, Bool.not_eq_true', Bool.or_eq_false_iff] at h
        have hw := whole_to h.2
        have hl := word1_small hw
        rw [read_one h.1.1.1 hw (by omega), ← tk_eta, e]
theorem read_spB {t : Tk} (h : readL (wtn t) = .ok [at0 t]) : spB t = true := by
  obtain ⟨c, r, n, e, hc, hw⟩ := read_first h rfl
  have hw : word1 (wtn t) = .ok (t.kind, t.s.data.toList, n) := hw
  by_cases h3 : t.kind = 3
  · rw [spB_quo h3]
    rw [wr_quo h3] at e
    split at e
    · assumption
    · cases e
  · by_cases h4 : t.kind = 4
    · rw [spB_slot h4]
      rw [wr_slot h4] at hw
      rcases word1_inv hw with ⟨h1, _⟩ | ⟨h1, _⟩ | ⟨h1, _⟩ | ⟨_, h1, _⟩ | ⟨h1, _⟩
      · omega
      · omega
      · omega
      · rw [h1]; rfl
      · omega
    · rw [wr_else h3 h4] at e hw
      unfold spB
      rw [if_neg h3, if_neg h4, e]
      simp only
      have hn : n = t.s.data.toList.length := by
        obtain ⟨_, n2⟩ := word1_size hw
        simp only at n2
        rcases word1_inv hw with ⟨_, _, _, h1⟩ | ⟨_, h1, _, h2, _⟩ | ⟨h1, _⟩ | ⟨h1, _⟩ | ⟨_, h1⟩
        · exact h1
        · have := dig0_le (t.s.data.toList.takeWhile digb)
          rw [← h1] at this
          omega
        · exact absurd h1 h3
        · exact absurd h1 h4
        · rcases h1 with ⟨h1, h2, h5⟩ | ⟨_, h2, h5, _⟩
          · have := two_len (l := t.s.data.toList) (by rw [← h2]; exact h1)
            have h6 := congrArg List.length h2
            rw [List.length_take] at h6
            omega
          · have h6 := congrArg List.length h2
            rw [List.length_take] at h6
            omega
      rw [hn] at hw
      rw [e] at hw
      have q34 : (c.toNat == 34) = false := by
        cases q : (c.toNat == 34) with
        | false => rfl
        | true =>
          have hc' : c = 34 := UInt8.toNat_inj.1 (by simpa using q)
          subst hc'
          rw [word1_cons, if_neg (by decide), if_neg (by decide), if_pos (by decide)] at hw
          unfold wQuo at hw
          cases e2 : qsc false r with
          | none => rw [e2] at hw; cases hw
          | some y =>
            rw [e2] at hw
            simp only at hw
            split at hw
            · cases hw
            · injection hw with hw; injection hw with hw _; exact absurd hw.symm h3
      have q63 : (c.toNat == 63) = false := by
        cases q : (c.toNat == 63) with
        | false => rfl
        | true =>
          have hc' : c = 63 := UInt8.toNat_inj.1 (by simpa using q)
          subst hc'
          rw [word1_cons, if_neg (by decide), if_neg (by decide), if_neg (by decide), if_pos (by decide)] at hw
          unfold wName at hw
          split at hw
          · injection hw with hw; injection hw with hw _; exact absurd hw.symm h4
          · cases hw
      rw [hc, q34, q63, whole_of hw]; rfl

/-- Each word with a blank ahead of it. -/
def gaps (ts : List Tk) : List UInt8 := ts.flatMap fun t => 32 :: wtn t
/-- The line of these words. -/
def lineW (ts : List Tk) : List UInt8 := (gaps ts).tail
theorem gaps_cons (t : Tk) (r : List Tk) : gaps (t :: r) = 32 :: (wtn t ++ gaps r) := by simp [gaps]
theorem lineW_cons (t : Tk) (r : List Tk) : lineW (t :: r) = wtn t ++ gaps r := by unfold lineW; rw [gaps_cons]; rfl
theorem gaps_snoc (ts : List Tk) (t : Tk) : gaps (ts ++ [t]) = gaps ts ++ 32 :: wtn t := by simp [gaps]
theorem lineW_snoc {ts : List Tk} (h : ts ≠ []) (t : Tk) : lineW (ts ++ [t]) = (lineW ts ++ [32]) ++ wtn t := by
  obtain ⟨x, r, rfl⟩ := List.exists_cons_of_ne_nil h
  rw [List.cons_append, lineW_cons, lineW_cons, gaps_snoc]
  simp
theorem lineW_one (t : Tk) : lineW [t] = wtn t := by rw [lineW_cons]; simp [gaps]
theorem at0_sh (d : Nat) (t : Tk) : at0 (sh d t) = at0 t := rfl

theorem spelt_read : ∀ (r : List Tk) (t : Tk) (acc : List Tk) (a : Nat), spB t = true → r.all spB = true → acc.length + (r.length + 1) ≤ 300 →
    ∃ us, wds (wtn t ++ gaps r) acc a = .ok (acc ++ us) ∧ us.map at0 = (t :: r).map at0
  | r, t, acc, a, ht, hr, hl => by
    have h1 : wds (wtn t) [] 0 = .ok [at0 t] := by
      have := spB_read ht
      unfold readL at this
      split at this
      · cases this
      · exact this
    obtain ⟨ys, e, _, _, hm⟩ := wds_move _ _ [] 0 _ (Nat.le_refl _) h1
    rw [List.nil_append] at e
    subst e
    have hm2 := hm acc a (by simp; omega)
    rw [Nat.zero_add] at hm2
    cases r with
    | nil =>
      refine ⟨[sh a (at0 t)], ?_, rfl⟩
      have : wtn t ++ gaps [] = wtn t := by simp [gaps]
      rw [this, hm2]; rfl
    | cons u r =>
      rw [List.all_cons, Bool.and_eq_true] at hr
      rw [gaps_cons, wds_sep _ _ _ _ _ _ (Nat.le_refl _) hm2]
      obtain ⟨us, hu1, hu2⟩ := spelt_read r u (acc ++ [at0 t].map (sh a)) (a + (wtn t).length + 1) hr.1 hr.2 (by simp only [List.length_append, List.length_map, List.length_cons, List.length_nil] at hl ⊢; omega)
      refine ⟨[at0 t].map (sh a) ++ us, ?_, ?_⟩
      · rw [hu1, List.append_assoc]
      · rw [List.map_append, hu2]; rfl

/-- What Spell tells. -/
def spellL (ts : List Tk) : Except Int (List UInt8) :=
  if 300 < ts.length then .error 4 else if ts.all spB = true then (if 900 < (lineW ts).length then .error 4 else .ok (lineW ts)) else .error 1
/-- WHAT IS SPELT IS READ. -/
theorem spell_read {ts : List Tk} {l : List UInt8} (h : spellL ts = .ok l) : l.length ≤ 900 ∧ ∃ us, readL l = .ok us ∧ us.map at0 = ts.map at0 := by
  unfold spellL at h
  split at h
  · cases h
  · split at h
    · rename_i h1 h2
      split at h
      · cases h
      · rename_i h3
        injection h with h
        subst h
        refine ⟨by omega, ?_⟩
        unfold readL
        rw [if_neg h3]
        cases ts with
        | nil => exact ⟨[], by rw [show lineW [] = [] from rfl, wds_nil], rfl⟩
        | cons t r =>
          rw [List.all_cons, Bool.and_eq_true] at h2
          obtain ⟨us, e1, e2⟩ := spelt_read r t [] 0 h2.1 h2.2 (by simp only [List.length_cons, List.length_nil] at h1 ⊢; omega)
          rw [lineW_cons]
          exact ⟨us, by rw [e1]; rfl, e2⟩
    · cases h

theorem wds_spB : ∀ (n : Nat) (l : List UInt8) (acc : List Tk) (a : Nat) (xs : List Tk), l.length ≤ n → acc.all spB = true → wds l acc a = .ok xs → xs.all spB = true
  | _, [], acc, a, xs, _, ha, h => by rw [wds_nil] at h; cases h; exact ha
  | 0, c :: r, _, _, _, hn, _, _ => by simp at hn
  | n + 1, c :: r, acc, a, xs, hn, ha, h => by
    simp only [List.length_cons] at hn
    by_cases hb : (c.toNat == 32) = true
    · rw [wds_blank hb] at h
      exact wds_spB n r acc (a + 1) xs (by omega) ha h
    · have hb' : (c.toNat == 32) = false := by simpa using hb
      cases hw : word1 (c :: r) with
      | error e => rw [wds_bad hb' hw] at h; cases h
      | ok x =>
        by_cases hf : 300 ≤ acc.length
        · rw [wds_full hb' hw hf] at h; cases h
        · rw [wds_word hb' hw hf] at h
          refine wds_spB n _ _ _ xs (by simp; omega) ?_ h
          rw [List.all_append, ha]
          obtain ⟨k, t, m⟩ := x
          simp [word1_spB a hw]
/-- WHAT IS READ CAN BE SPELT, if it is not too long. -/
theorem read_spell {l : List UInt8} {us : List Tk} (h : readL l = .ok us) : us.length ≤ 300 ∧ (spellL us = .error 4 ∨ ∃ m, spellL us = .ok m) := by
  unfold readL at h
  split at h
  · cases h
  · have h1 := wds_count h
    have h2 := wds_spB _ l [] 0 us (Nat.le_refl _) rfl h
    refine ⟨h1, ?_⟩
    unfold spellL
    rw [if_neg (by omega), if_pos h2]
    split
    · exact .inl rfl
    · exact .inr ⟨_, rfl⟩
end Go.Proofs.YtmcjogfopfhblaaDoor
