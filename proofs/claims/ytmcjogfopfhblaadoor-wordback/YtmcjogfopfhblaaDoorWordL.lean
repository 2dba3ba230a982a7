/- Words of a line, as lists of bytes: the word that a line begins with, all words, how words are written; that lines stand one behind the other, that what is written is read, and that what is read can be written. No program is named here. -/
import Derived.Test.YtmcjogfopfhblaaDoorTFault
namespace Go.Proofs.YtmcjogfopfhblaaDoor

/-- A byte of a name. -/
def namb (c : UInt8) : Bool := letb c || digb c
/-- A name, of this kind, with so many bytes ahead of it. (Of a word these are told: its kind, its text, and how many bytes it has; or the number of what is wrong.) -/
def wName (k : Int) (m : Nat) (l : List UInt8) : Except Int (Int × List UInt8 × Nat) :=
  if nfault (l.takeWhile namb) = 0 then .ok (k, l.takeWhile namb, m + (l.takeWhile namb).length) else .error (nfault (l.takeWhile namb))
/-- Without needless 0 ahead. -/
def dig0 : List UInt8 → List UInt8
  | [] => []
  | [c] => [c]
  | c :: d :: r => if c.toNat == 48 then dig0 (d :: r) else c :: d :: r
def wNum (l : List UInt8) : Except Int (Int × List UInt8 × Nat) :=
  if 19 < (dig0 (l.takeWhile digb)).length then .error 4 else .ok (2, dig0 (l.takeWhile digb), (l.takeWhile digb).length)
/-- Up to the quote that no sign guards: the text, and how many bytes stand ahead of that quote. -/
def qsc : Bool → List UInt8 → Option (List UInt8 × Nat)
  | _, [] => none
  | g, c :: r => if (c.toNat == 34 && !g) = true then some ([], 0)
    else if (okb c && (!g || grd c)) = true then (qsc (c.toNat == 92 && !g) r).map fun x => (if (c.toNat == 92 && !g) = true then x.1 else c :: x.1, x.2 + 1)
    else none
def wQuo (l : List UInt8) : Except Int (Int × List UInt8 × Nat) :=
  match qsc false l with
  | none => .error 1
  | some x => if 60 < x.1.length then .error 4 else .ok (3, x.1, x.2 + 2)
def two (l : List UInt8) : Bool := l == [58, 58] || l == [61, 61] || l == [60, 61] || l == [38, 38] || l == [124, 124]
def shorts : List UInt8 := [40, 41, 91, 93, 123, 125, 44, 58, 46, 60, 33, 43, 45, 42]
def wSign (l : List UInt8) : Except Int (Int × List UInt8 × Nat) :=
  if two (l.take 2) = true then .ok (5, l.take 2, 2) else if (l.take 1).any (fun c => shorts.contains c) = true then .ok (5, l.take 1, 1) else .error 1
/-- The word that a line begins with. -/
def word1 : List UInt8 → Except Int (Int × List UInt8 × Nat)
  | [] => .error 1
  | c :: r => if letb c = true then wName 1 0 (c :: r) else if digb c = true then wNum (c :: r) else if (c.toNat == 34) = true then wQuo r else if (c.toNat == 63) = true then wName 4 1 r else wSign (c :: r)

theorem word1_cons (c : UInt8) (r : List UInt8) : word1 (c :: r) = if letb c = true then wName 1 0 (c :: r) else if digb c = true then wNum (c :: r) else if (c.toNat == 34) = true then wQuo r else if (c.toNat == 63) = true then wName 4 1 r else wSign (c :: r) := rfl

/-- A word with its place. -/
structure Tk where
  kind : Int
  s : ByteArray
  at_ : Int
def mkT (k : Int) (l : List UInt8) (a : Nat) : Tk := ⟨k, ⟨l.toArray⟩, a⟩
/-- All words of a line, behind these, from this byte on; or what is wrong, and where. -/
def wds (l : List UInt8) (acc : List Tk) (a : Nat) : Except (Int × Nat) (List Tk) :=
  match l with
  | [] => .ok acc
  | c :: r =>
    if (c.toNat == 32) = true then wds r acc (a + 1)
    else match word1 (c :: r) with
      | .error e => .error (e, a)
      | .ok x => if 300 ≤ acc.length then .error (4, a) else wds (r.drop (x.2.2 - 1)) (acc ++ [mkT x.1 x.2.1 a]) (a + x.2.2)
  termination_by l.length
  decreasing_by all_goals (simp; try omega)
def readL (l : List UInt8) : Except (Int × Nat) (List Tk) := if 900 < l.length then .error (4, 0) else wds l [] 0

theorem wds_nil (acc : List Tk) (a : Nat) : wds [] acc a = .ok acc := by rw [wds]
theorem wds_blank {c : UInt8} (h : (c.toNat == 32) = true) (r : List UInt8) (acc : List Tk) (a : Nat) : wds (c :: r) acc a = wds r acc (a + 1) := by
  rw [wds]; simp only [h, if_true]
theorem wds_bad {c : UInt8} (h : (c.toNat == 32) = false) {r : List UInt8} {e : Int} (hw : word1 (c :: r) = .error e) (acc : List Tk) (a : Nat) : wds (c :: r) acc a = .error (e, a) := by
  rw [wds]; simp only [h, hw]; rfl
theorem wds_full {c : UInt8} (h : (c.toNat == 32) = false) {r : List UInt8} {x : Int × List UInt8 × Nat} (hw : word1 (c :: r) = .ok x) {acc : List Tk} (ha : 300 ≤ acc.length) (a : Nat) : wds (c :: r) acc a = .error (4, a) := by
  rw [wds]; simp only [h, hw, if_pos ha]; rfl
theorem wds_word {c : UInt8} (h : (c.toNat == 32) = false) {r : List UInt8} {x : Int × List UInt8 × Nat} (hw : word1 (c :: r) = .ok x) {acc : List Tk} (ha : ¬ 300 ≤ acc.length) (a : Nat) : wds (c :: r) acc a = wds (r.drop (x.2.2 - 1)) (acc ++ [mkT x.1 x.2.1 a]) (a + x.2.2) := by
  rw [wds]; simp only [h, hw, if_neg ha]; rfl

/-- How many bytes of a set a line begins with. -/
def runL (p : UInt8 → Bool) (l : List UInt8) : Nat := (l.takeWhile p).length
theorem runL_le (p : UInt8 → Bool) (l : List UInt8) : runL p l ≤ l.length := by
  induction l with
  | nil => simp [runL]
  | cons c r ih =>
    unfold runL at *
    by_cases h : p c = true
    · simp [h]; omega
    · simp [h]
theorem runL_take (p : UInt8 → Bool) (l : List UInt8) : l.take (runL p l) = l.takeWhile p := by
  induction l with
  | nil => simp [runL]
  | cons c r ih =>
    unfold runL at *
    by_cases h : p c = true
    · simp [h]; exact ih
    · simp [h]
def blankb (c : UInt8) : Bool := c.toNat == 32
theorem wds_run (l : List UInt8) (acc : List Tk) (a : Nat) : wds l acc a = wds (l.drop (runL blankb l)) acc (a + runL blankb l) := by
  induction l generalizing a with
  | nil => rfl
  | cons c r ih =>
    by_cases h : (c.toNat == 32) = true
    · rw [wds_blank h, ih (a + 1)]
      have e : runL blankb (c :: r) = runL blankb r + 1 := by
        unfold runL; rw [List.takeWhile_cons, if_pos (by exact h)]; rfl
      rw [e, List.drop_succ_cons, show a + 1 + runL blankb r = a + (runL blankb r + 1) by omega]
    · have e : runL blankb (c :: r) = 0 := by unfold runL; rw [List.takeWhile_cons, if_neg (by exact h)]; rfl
      rw [e]; rfl
theorem run_next (l : List UInt8) : ∀ c r, l.drop (runL blankb l) = c :: r → (c.toNat == 32) = false := by
  induction l with
  | nil => intro c r h; simp [runL] at h
  | cons d m ih =>
    intro c r h
    by_cases hd : (d.toNat == 32) = true
    · have e : runL blankb (d :: m) = runL blankb m + 1 := by
        unfold runL; rw [List.takeWhile_cons, if_pos (by exact hd)]; rfl
      rw [e, List.drop_succ_cons] at h
      exact ih c r h
    · have e : runL blankb (d :: m) = 0 := by unfold runL; rw [List.takeWhile_cons, if_neg (by exact hd)]; rfl
      rw [e] at h
      simp only [List.drop_zero, List.cons.injEq] at h
      rw [← h.1]; simpa using hd

theorem takeWhile_sep (p : UInt8 → Bool) (h : p 32 = false) (l m : List UInt8) : (l ++ 32 :: m).takeWhile p = l.takeWhile p := by
  induction l with
  | nil => simp [h]
  | cons c r ih =>
    rw [List.cons_append, List.takeWhile_cons, List.takeWhile_cons, ih]
theorem takeWhile_le (p : UInt8 → Bool) (l : List UInt8) : (l.takeWhile p).length ≤ l.length := runL_le p l
theorem takeWhile_all (p : UInt8 → Bool) (l : List UInt8) : (l.takeWhile p).all p = true := by
  induction l with
  | nil => rfl
  | cons c r ih =>
    rw [List.takeWhile_cons]
    split
    · rename_i h; rw [List.all_cons, h, ih]; rfl
    · rfl
theorem takeWhile_id (p : UInt8 → Bool) (l : List UInt8) (h : l.all p = true) : l.takeWhile p = l := by
  induction l with
  | nil => rfl
  | cons c r ih =>
    rw [List.all_cons, Bool.and_eq_true] at h
    rw [List.takeWhile_cons, if_pos h.1, ih h.2]

theorem qsc_append (z : List UInt8) : ∀ (l : List UInt8) (g : Bool) (x : List UInt8 × Nat), qsc g l = some x → qsc g (l ++ z) = some x
  | [], g, x, h => by simp [qsc] at h
  | c :: r, g, x, h => by
    rw [List.cons_append]
    unfold qsc at h ⊢
    split at h
    · rename_i h1; rw [if_pos h1]; exact h
    · rename_i h1
      rw [if_neg h1]
      split at h
      · rename_i h2
        rw [if_pos h2]
        rw [Option.map_eq_some_iff] at h ⊢
        obtain ⟨y, hy, e⟩ := h
        exact ⟨y, qsc_append z r _ y hy, e⟩
      · cases h
theorem qsc_len : ∀ (l : List UInt8) (g : Bool) (x : List UInt8 × Nat), qsc g l = some x → x.2 + 1 ≤ l.length ∧ x.1.length ≤ x.2
  | [], g, x, h => by simp [qsc] at h
  | c :: r, g, x, h => by
    unfold qsc at h
    split at h
    · cases h; simp
    · split at h
      · rw [Option.map_eq_some_iff] at h
        obtain ⟨y, hy, e⟩ := h
        have ih := qsc_len r _ y hy
        subst e
        simp only [List.length_cons]
        split
        · omega
        · simp only [List.length_cons]; omega
      · cases h
theorem qsc_ok : ∀ (l : List UInt8) (g : Bool) (x : List UInt8 × Nat), qsc g l = some x → x.1.all okb = true
  | [], g, x, h => by simp [qsc] at h
  | c :: r, g, x, h => by
    unfold qsc at h
    split at h
    · cases h; rfl
    · split at h
      · rename_i h2
        rw [Option.map_eq_some_iff] at h
        obtain ⟨y, hy, e⟩ := h
        have ih := qsc_ok r _ y hy
        subst e
        simp only []
        split
        · exact ih
        · rw [Bool.and_eq_true] at h2
          rw [List.all_cons, h2.1, ih]; rfl
      · cases h
theorem grd_ok {c : UInt8} (h : grd c = true) : okb c = true := by
  unfold grd at h; unfold okb
  simp only [Bool.or_eq_true, beq_iff_eq] at h
  simp only [Bool.and_eq_true, decide_eq_true_eq]
  omega
theorem qsc_body (z : List UInt8) : ∀ (t : List UInt8), t.all okb = true → qsc false (body t ++ 34 :: z) = some (t, (body t).length)
  | [], _ => by simp [body, qsc]
  | c :: r, h => by
    rw [List.all_cons, Bool.and_eq_true] at h
    have ih := qsc_body z r h.2
    unfold body one
    by_cases hg : grd c = true
    · rw [if_pos hg]
      show qsc false (92 :: c :: (body r ++ 34 :: z)) = _
      unfold qsc
      rw [if_neg (by decide), if_pos (by decide)]
      unfold qsc
      rw [show ((92 : UInt8).toNat == 92 && !false) = true by decide]
      rw [if_neg (by simp), if_pos (by rw [grd_ok hg, hg]; rfl)]
      rw [show (c.toNat == 92 && !true) = false by simp, ih]
      simp
    · rw [if_neg hg]
      show qsc false (c :: (body r ++ 34 :: z)) = _
      have g1 : (c.toNat == 34) = false := by
        cases e : (c.toNat == 34) with
        | false => rfl
        | true => exact absurd (by unfold grd; rw [e]; rfl) hg
      have g2 : (c.toNat == 92) = false := by
        cases e : (c.toNat == 92) with
        | false => rfl
        | true => exact absurd (by unfold grd; rw [e]; simp) hg
      unfold qsc
      rw [g1, g2, if_neg (by simp), if_pos (by rw [h.1]; rfl)]
      simp only [Bool.false_and]
      rw [ih]
      simp

theorem two_len {l : List UInt8} (h : two (l.take 2) = true) : 2 ≤ l.length := by
  cases l with
  | nil => exact absurd h (by decide)
  | cons c r =>
    cases r with
    | nil =>
      have : two [c] = false := by unfold two; simp
      simp only [List.take_succ_cons, List.take_nil] at h
      rw [this] at h; cases h
    | cons d m => simp
theorem two_sep (c : UInt8) : two [c, 32] = false := by
  unfold two
  simp only [List.cons_beq_cons, Bool.or_eq_false_iff, Bool.and_eq_false_iff]
  have : ((32 : UInt8) == 58) = false ∧ ((32 : UInt8) == 61) = false ∧ ((32 : UInt8) == 38) = false ∧ ((32 : UInt8) == 124) = false := by decide
  simp [this]

theorem wSign_sep (c : UInt8) (r m : List UInt8) {x : Int × List UInt8 × Nat} (h : wSign (c :: r) = .ok x) : wSign (c :: r ++ 32 :: m) = .ok x := by
  cases r with
  | nil =>
    have e1 : two ([c].take 2) = false := by
      cases e : two ([c].take 2) with
      | false => rfl
      | true => have := two_len e; simp at this
    have e2 : two (([c] ++ 32 :: m).take 2) = false := two_sep c
    unfold wSign at h ⊢
    rw [e1] at h
    rw [e2]
    exact h
  | cons d q => exact h
theorem word1_sep {l : List UInt8} {x : Int × List UInt8 × Nat} (m : List UInt8) (h : word1 l = .ok x) : word1 (l ++ 32 :: m) = .ok x := by
  have n32 : namb 32 = false := by decide
  have d32 : digb 32 = false := by decide
  cases l with
  | nil => simp [word1] at h
  | cons c r =>
    rw [List.cons_append]
    rw [word1_cons] at h ⊢
    split at h
    · rename_i h1
      rw [if_pos h1]
      unfold wName at h ⊢
      rw [← List.cons_append, takeWhile_sep _ n32]
      exact h
    · rename_i h1
      rw [if_neg h1]
      split at h
      · rename_i h2
        rw [if_pos h2]
        unfold wNum at h ⊢
        rw [← List.cons_append, takeWhile_sep _ d32]
        exact h
      · rename_i h2
        rw [if_neg h2]
        split at h
        · rename_i h3
          rw [if_pos h3]
          unfold wQuo at h ⊢
          cases e : qsc false r with
          | none => rw [e] at h; cases h
          | some y => rw [e] at h; rw [qsc_append _ _ _ _ e]; exact h
        · rename_i h3
          rw [if_neg h3]
          split at h
          · rename_i h4
            rw [if_pos h4]
            unfold wName at h ⊢
            rw [takeWhile_sep _ n32]
            exact h
          · rename_i h4
            rw [if_neg h4]
            exact wSign_sep c r m h

theorem nfault_pos {l : List UInt8} (h : nfault l = 0) : 1 ≤ l.length := by
  unfold nfault at h
  split at h
  · rename_i h1
    unfold nm at h1
    cases l with
    | nil => simp at h1
    | cons c r => simp
  · cases h
theorem word1_size {l : List UInt8} {x : Int × List UInt8 × Nat} (h : word1 l = .ok x) : 1 ≤ x.2.2 ∧ x.2.2 ≤ l.length := by
  cases l with
  | nil => simp [word1] at h
  | cons c r =>
    rw [word1_cons] at h
    split at h
    · unfold wName at h
      split at h
      · rename_i h1
        have := nfault_pos h1
        have := takeWhile_le namb (c :: r)
        cases h; simp only; omega
      · cases h
    · split at h
      · rename_i h2
        unfold wNum at h
        split at h
        · cases h
        · have := takeWhile_le digb (c :: r)
          cases h
          refine ⟨?_, this⟩
          rw [List.takeWhile_cons, if_pos h2]; simp
      · split at h
        · unfold wQuo at h
          cases e : qsc false r with
          | none => rw [e] at h; cases h
          | some y =>
            rw [e] at h
            have := qsc_len _ _ _ e
            simp only at h
            split at h
            · cases h
            · cases h; simp only [List.length_cons]; omega
        · split at h
          · unfold wName at h
            split at h
            · rename_i h1
              have := takeWhile_le namb r
              cases h; simp only [List.length_cons]; omega
            · cases h
          · unfold wSign at h
            split at h
            · rename_i h1
              have := two_len h1
              cases h; exact ⟨by simp, this⟩
            · split at h
              · cases h; simp
              · cases h

/-- LINE BEHIND LINE: behind the words of a line and a blank those of another one. -/
theorem wds_sep (m : List UInt8) : ∀ (n : Nat) (l : List UInt8) (acc : List Tk) (a : Nat) (xs : List Tk), l.length ≤ n → wds l acc a = .ok xs → wds (l ++ 32 :: m) acc a = wds m xs (a + l.length + 1)
  | _, [], acc, a, xs, _, h => by
    rw [wds_nil] at h
    cases h
    rw [List.nil_append, wds_blank (by decide)]; rfl
  | 0, c :: r, _, _, _, hn, _ => by simp at hn
  | n + 1, c :: r, acc, a, xs, hn, h => by
    simp only [List.length_cons] at hn
    by_cases hb : (c.toNat == 32) = true
    · rw [wds_blank hb] at h
      rw [List.cons_append, wds_blank hb, wds_sep m n r acc (a + 1) xs (by omega) h]
      rw [List.length_cons, show a + 1 + r.length + 1 = a + (r.length + 1) + 1 by omega]
    · have hb' : (c.toNat == 32) = false := by simpa using hb
      cases hw : word1 (c :: r) with
      | error e => rw [wds_bad hb' hw] at h; cases h
      | ok x =>
        by_cases ha : 300 ≤ acc.length
        · rw [wds_full hb' hw ha] at h; cases h
        · rw [wds_word hb' hw ha] at h
          obtain ⟨s1, s2⟩ := word1_size hw
          simp only [List.length_cons] at s2
          have hw' := word1_sep m hw
          rw [List.cons_append] at hw' ⊢
          rw [wds_word hb' hw' ha]
          have e : (r ++ 32 :: m).drop (x.2.2 - 1) = r.drop (x.2.2 - 1) ++ 32 :: m := by
            rw [List.drop_append_of_le_length (by omega)]
          rw [e, wds_sep m n _ _ _ xs (by simp; omega) h]
          rw [List.length_drop, List.length_cons, show a + x.2.2 + (r.length - (x.2.2 - 1)) + 1 = a + (r.length + 1) + 1 by omega]

/-- Further on. -/
def sh (d : Nat) (t : Tk) : Tk := ⟨t.kind, t.s, t.at_ + d⟩
theorem wds_move : ∀ (n : Nat) (l : List UInt8) (acc : List Tk) (a : Nat) (xs : List Tk), l.length ≤ n → wds l acc a = .ok xs →
    ∃ ys, xs = acc ++ ys ∧ acc.length + ys.length ≤ max acc.length 300 ∧ (∀ y ∈ ys, (a : Int) ≤ y.at_) ∧ ∀ (acc' : List Tk) (d : Nat), acc'.length + ys.length ≤ 300 → wds l acc' (a + d) = .ok (acc' ++ ys.map (sh d))
  | _, [], acc, a, xs, _, h => by
    rw [wds_nil] at h
    cases h
    exact ⟨[], by simp, by simp; omega, by simp, fun acc' d _ => by rw [wds_nil]; simp⟩
  | 0, c :: r, _, _, _, hn, _ => by simp at hn
  | n + 1, c :: r, acc, a, xs, hn, h => by
    simp only [List.length_cons] at hn
    by_cases hb : (c.toNat == 32) = true
    · rw [wds_blank hb] at h
      obtain ⟨ys, e, hl, hp, hm⟩ := wds_move n r acc (a + 1) xs (by omega) h
      refine ⟨ys, e, hl, fun y hy => ?_, fun acc' d hd => ?_⟩
      · have := hp y hy; omega
      · rw [wds_blank hb, show a + d + 1 = a + 1 + d by omega]; exact hm acc' d hd
    · have hb' : (c.toNat == 32) = false := by simpa using hb
      cases hw : word1 (c :: r) with
      | error e => rw [wds_bad hb' hw] at h; cases h
      | ok x =>
        by_cases ha : 300 ≤ acc.length
        · rw [wds_full hb' hw ha] at h; cases h
        · rw [wds_word hb' hw ha] at h
          obtain ⟨ys, e, hl, hp, hm⟩ := wds_move n _ _ _ xs (by simp; omega) h
          refine ⟨mkT x.1 x.2.1 a :: ys, by rw [e]; simp, by simp only [List.length_append, List.length_cons, List.length_nil] at hl ⊢; omega, fun y hy => ?_, fun acc' d hd => ?_⟩
          · rcases List.mem_cons.1 hy with rfl | hy
            · simp [mkT]
            · have := hp y hy; omega
          · simp only [List.length_cons] at hd
            rw [wds_word hb' hw (by omega), show a + d + x.2.2 = a + x.2.2 + d by omega, hm _ d (by simp; omega)]
            simp [sh, mkT]
theorem wds_count {l : List UInt8} {xs : List Tk} (h : wds l [] 0 = .ok xs) : xs.length ≤ 300 := by
  obtain ⟨ys, e, hl, _⟩ := wds_move _ l [] 0 xs (Nat.le_refl _) h
  rw [e]; simpa using hl
theorem joins {l m : List UInt8} {xs ys : List Tk} (h : wds l [] 0 = .ok xs) (k : wds m [] 0 = .ok ys) (hc : xs.length + ys.length ≤ 300) :
    wds (l ++ 32 :: m) [] 0 = .ok (xs ++ ys.map (sh (l.length + 1))) := by
  obtain ⟨zs, e, _, _, hm⟩ := wds_move _ m [] 0 ys (Nat.le_refl _) k
  rw [wds_sep m _ l [] 0 xs (Nat.le_refl _) h]
  rw [List.nil_append] at e
  subst e
  have := hm xs (l.length + 1) hc
  rw [show 0 + l.length + 1 = 0 + (l.length + 1) by omega]
  exact this
end Go.Proofs.YtmcjogfopfhblaaDoor
