/- Names as lists of bytes: letters, digits, which lists are names, and the number of what is told of one. No program is named here. Texts between quotes, as lists of bytes: which bytes a text may have, how it is quoted, what is stripped of it, and that stripping what was quoted gives it back. No program is named here. Texts and uids that may not be, by numbers. No program is named here. Words of a line, as lists of bytes: the word that a line begins with, all words, how words are written; that lines stand one behind the other, that what is written is read, and that what is read can be written. No program is named here. How words are written: which ones can be, that what is written is read, and that what is read can be written. No program is named here. Two texts are compared byte by byte: the plain facts about that order (its values, its turning round, when it is 0, that it goes on), and one step of it at a place. No program is named here. Nodes as plain data, the order of nodes and of lists of them, and what is a value: no program is named here. What is a value does not hang on the bound that the walk is given; Fields; the document's end of a value, by number. No program is named here. Expressions as plain data: how many parts a node has, what stands behind an expression, the names in it, an expression put for a name. No program is named here. Words of a line as they are read, plain: what may stand next (the document's way), and a parser form by form; that both halt at the same word. No program is named here. A parser of words, form by form, plain. No program is named here. The parser of words and the document's way of reading them halt at the same word, with the same error. No program is named here. -/
import Derived.Lib.Strings
import Derived.Lib.Bytealg
namespace Go.Proofs.YtpbnjdgedifnoaaGreatDoor

def letb (c : UInt8) : Bool := decide (65 ≤ c.toNat) && decide (c.toNat ≤ 90) || decide (97 ≤ c.toNat) && decide (c.toNat ≤ 122) || c.toNat == 95
def digb (c : UInt8) : Bool := decide (48 ≤ c.toNat) && decide (c.toNat ≤ 57)
/-- A list that may begin a name. -/
def pre : List UInt8 → Bool
  | [] => true
  | c :: r => letb c && r.all fun d => letb d || digb d
/-- A name, of any length. -/
def nm (l : List UInt8) : Bool := pre l && !l.isEmpty
/-- 0: a name; 1: it is none; 4: it is too long. -/
def nfault (l : List UInt8) : Int := if nm l then (if 20 < l.length then 4 else 0) else 1

theorem pre_left {l m : List UInt8} (h : pre (l ++ m) = true) : pre l = true := by
  cases l with
  | nil => rfl
  | cons c r =>
    simp only [List.cons_append, pre, Bool.and_eq_true, List.all_append] at h ⊢
    exact ⟨h.1, h.2.1⟩
theorem pre_snoc (l : List UInt8) (c : UInt8) : pre (l ++ [c]) = (pre l && (letb c || (!l.isEmpty && digb c))) := by
  cases l with
  | nil => simp [pre]
  | cons d r => simp [pre, Bool.and_assoc]
theorem pre_bad (s : ByteArray) (k : Nat) (h : k < s.size) (hb : (letb s[k] || (!(k == 0) && digb s[k])) = false) : pre s.data.toList = false := by
  have hl : s.data.toList.length = s.size := by simp
  cases hp : pre s.data.toList with
  | false => rfl
  | true =>
    have e : s.data.toList.take (k + 1) = s.data.toList.take k ++ [s[k]] := by
      rw [List.take_succ_eq_append_getElem (by omega)]; rfl
    have h1 : pre (s.data.toList.take (k + 1)) = true := pre_left (m := s.data.toList.drop (k + 1)) (by rw [List.take_append_drop]; exact hp)
    rw [e, pre_snoc] at h1
    have h2 : (s.data.toList.take k).isEmpty = (k == 0) := by
      cases k with
      | zero => rfl
      | succ j =>
        have : (s.data.toList.take (j + 1)).length = j + 1 := by rw [List.length_take]; omega
        cases ht : s.data.toList.take (j + 1) with
        | nil => rw [ht] at this; simp at this
        | cons x y => rfl
    rw [h2, hb] at h1
    simp at h1
theorem pre_go (s : ByteArray) (k : Nat) (h : k < s.size) (hp : pre (s.data.toList.take k) = true) (hb : (letb s[k] || (!(k == 0) && digb s[k])) = true) : pre (s.data.toList.take (k + 1)) = true := by
  have hl : s.data.toList.length = s.size := by simp
  have e : s.data.toList.take (k + 1) = s.data.toList.take k ++ [s[k]] := by
    rw [List.take_succ_eq_append_getElem (by omega)]; rfl
  rw [e, pre_snoc, hp, Bool.true_and]
  have h2 : (s.data.toList.take k).isEmpty = (k == 0) := by
    cases k with
    | zero => rfl
    | succ j =>
      have : (s.data.toList.take (j + 1)).length = j + 1 := by rw [List.length_take]; omega
      cases ht : s.data.toList.take (j + 1) with
      | nil => rw [ht] at this; simp at this
      | cons x y => rfl
  rw [h2]; exact hb
theorem nm_of_bad {l : List UInt8} (h : pre l = false) : nm l = false := by unfold nm; rw [h]; rfl
theorem nm_of_pre {l : List UInt8} (h : pre l = true) : nm l = !l.isEmpty := by unfold nm; rw [h]; rfl
theorem empty_size (s : ByteArray) : s.data.toList.isEmpty = (s.size == 0) := by
  have : s.data.toList.length = s.size := by simp
  cases h : s.data.toList with
  | nil => rw [h] at this; simp at this; simp [← this]
  | cons x y => rw [h] at this; simp at this; simp [← this]
end Go.Proofs.YtpbnjdgedifnoaaGreatDoor
namespace Go.Proofs.YtpbnjdgedifnoaaGreatDoor

/-- A byte that a text may have. -/
def okb (c : UInt8) : Bool := decide (32 ≤ c.toNat) && decide (c.toNat ≤ 126)
/-- A byte with a sign ahead of it between quotes. -/
def grd (c : UInt8) : Bool := c.toNat == 34 || c.toNat == 92
def one (c : UInt8) : List UInt8 := if grd c then [92, c] else [c]
def body : List UInt8 → List UInt8
  | [] => []
  | c :: l => one c ++ body l
def quoted (l : List UInt8) : List UInt8 := 34 :: (body l ++ [34])
/-- A text: its length and its bytes. -/
def textOk (l : List UInt8) : Bool := decide (l.length ≤ 60) && l.all okb

theorem body_snoc (l : List UInt8) (c : UInt8) : body (l ++ [c]) = body l ++ one c := by
  induction l with
  | nil => simp [body]
  | cons d l ih => simp [body, ih]

theorem one_length (c : UInt8) : (one c).length ≤ 2 := by unfold one; split <;> simp
theorem body_length (l : List UInt8) : (body l).length ≤ 2 * l.length := by
  induction l with
  | nil => simp [body]
  | cons c l ih => have := one_length c; simp only [body, List.length_append, List.length_cons]; omega
theorem body_length_ge (l : List UInt8) : l.length ≤ (body l).length := by
  induction l with
  | nil => simp [body]
  | cons c l ih =>
    have : 1 ≤ (one c).length := by unfold one; split <;> simp
    simp only [body, List.length_append, List.length_cons]; omega

/-- What strip makes of what stands from a place on. -/
def st : List UInt8 → List UInt8
  | [] => []
  | [_] => []
  | x :: y :: r => if x.toNat == 92 then y :: st r else x :: st (y :: r)

/-- What the document's Bare makes of it. -/
def bl : List UInt8 → List UInt8
  | [] => []
  | [_] => []
  | x :: y :: r => if x.toNat == 92 then (if r.isEmpty then [] else y :: bl r) else x :: bl (y :: r)

theorem st_length : ∀ (n : Nat) (l : List UInt8), l.length ≤ n → (st l).length ≤ l.length
  | _, [], _ => by simp [st]
  | _, [_], _ => by simp [st]
  | 0, _ :: _ :: _, h => by simp at h
  | n + 1, x :: y :: r, h => by
    simp only [List.length_cons] at h
    have i1 := st_length n r (by omega)
    have i2 := st_length n (y :: r) (by simp only [List.length_cons]; omega)
    unfold st
    split
    · simp only [List.length_cons]; omega
    · simp only [List.length_cons] at i2 ⊢; omega

theorem st_body (l r : List UInt8) (hr : r ≠ []) : st (body l ++ r) = l ++ st r := by
  induction l with
  | nil => rfl
  | cons c l ih =>
    unfold body one
    obtain ⟨x, r', hx⟩ := List.exists_cons_of_ne_nil hr
    by_cases h : grd c = true
    · rw [if_pos h]
      show st (92 :: c :: (body l ++ r)) = _
      rw [st, if_pos (by decide), ih]; rfl
    · rw [if_neg h]
      show st (c :: (body l ++ r)) = _
      have hc : ¬ (c.toNat == 92) = true := by
        intro h2; apply h; unfold grd; rw [h2]; simp
      obtain ⟨y, m, hm⟩ : ∃ y m, body l ++ r = y :: m := List.exists_cons_of_ne_nil (by simp [hr])
      rw [hm, st, if_neg hc, ← hm, ih]; rfl

theorem bl_body (l : List UInt8) : bl (body l ++ [34]) = l := by
  induction l with
  | nil => rfl
  | cons c l ih =>
    unfold body one
    by_cases h : grd c = true
    · rw [if_pos h]
      show bl (92 :: c :: (body l ++ [34])) = _
      rw [bl, if_pos (by decide), if_neg (by simp), ih]
    · rw [if_neg h]
      show bl (c :: (body l ++ [34])) = _
      have hc : ¬ (c.toNat == 92) = true := by
        intro h2; apply h; unfold grd; rw [h2]; simp
      obtain ⟨y, m, hm⟩ : ∃ y m, body l ++ [34] = y :: m := List.exists_cons_of_ne_nil (by simp)
      rw [hm, bl, if_neg hc, ← hm, ih]

theorem st_quoted (l : List UInt8) : st ((quoted l).drop 1) = l := by
  show st (body l ++ [34]) = l
  rw [st_body l [34] (by simp)]; simp [st]
theorem bl_quoted (l : List UInt8) : bl ((quoted l).drop 1) = l := bl_body l

/-- Of a text that is quoted so there is but one. -/
theorem quoted_inj {l m : List UInt8} (h : quoted l = quoted m) : l = m := by
  rw [← st_quoted l, h, st_quoted]

/-- One step of stripping. -/
theorem st_step (s : ByteArray) (k : Nat) (h : k + 1 < s.size) : st (s.data.toList.drop k) = if s[k].toNat == 92 then s[k + 1] :: st (s.data.toList.drop (k + 2)) else s[k] :: st (s.data.toList.drop (k + 1)) := by
  have e1 : s.data.toList.drop k = s[k] :: s.data.toList.drop (k + 1) := by
    rw [List.drop_eq_getElem_cons (by simp; omega)]; rfl
  have e2 : s.data.toList.drop (k + 1) = s[k + 1] :: s.data.toList.drop (k + 2) := by
    rw [List.drop_eq_getElem_cons (by simp; omega)]; rfl
  rw [e1, e2, st]
theorem st_end (s : ByteArray) (k : Nat) (h : s.size ≤ k + 1) : st (s.data.toList.drop k) = [] := by
  rcases Nat.lt_or_ge k s.size with hk | hk
  · have e1 : s.data.toList.drop k = s[k] :: s.data.toList.drop (k + 1) := by
      rw [List.drop_eq_getElem_cons (by simpa using hk)]; rfl
    rw [e1, List.drop_of_length_le (by simpa using h)]; rfl
  · rw [List.drop_of_length_le (by simpa using hk)]; rfl

theorem bl_step (s : ByteArray) (k : Nat) (h : k + 2 < s.size) : bl (s.data.toList.drop k) = if s[k].toNat == 92 then s[k + 1] :: bl (s.data.toList.drop (k + 2)) else s[k] :: bl (s.data.toList.drop (k + 1)) := by
  have e1 : s.data.toList.drop k = s[k] :: s.data.toList.drop (k + 1) := by
    rw [List.drop_eq_getElem_cons (by simp; omega)]; rfl
  have e2 : s.data.toList.drop (k + 1) = s[k + 1] :: s.data.toList.drop (k + 2) := by
    rw [List.drop_eq_getElem_cons (by simp; omega)]; rfl
  have e3 : (s.data.toList.drop (k + 2)).isEmpty = false := by
    have : (s.data.toList.drop (k + 2)).length ≠ 0 := by simp; omega
    cases hd : s.data.toList.drop (k + 2) with
    | nil => rw [hd] at this; simp at this
    | cons x y => rfl
  rw [e1, e2, bl, e3]; rfl
theorem bl_last (s : ByteArray) (k : Nat) (h : k + 2 = s.size) : bl (s.data.toList.drop k) = if s[k].toNat == 92 then [] else s[k] :: bl (s.data.toList.drop (k + 1)) := by
  have e1 : s.data.toList.drop k = s[k] :: s.data.toList.drop (k + 1) := by
    rw [List.drop_eq_getElem_cons (by simp; omega)]; rfl
  have e2 : s.data.toList.drop (k + 1) = s[k + 1] :: s.data.toList.drop (k + 2) := by
    rw [List.drop_eq_getElem_cons (by simp; omega)]; rfl
  have e3 : s.data.toList.drop (k + 2) = [] := List.drop_of_length_le (by simp; omega)
  rw [e1, e2, e3, bl]; rfl
theorem bl_end (s : ByteArray) (k : Nat) (h : s.size ≤ k + 1) : bl (s.data.toList.drop k) = [] := by
  rcases Nat.lt_or_ge k s.size with hk | hk
  · have e1 : s.data.toList.drop k = s[k] :: s.data.toList.drop (k + 1) := by
      rw [List.drop_eq_getElem_cons (by simpa using hk)]; rfl
    rw [e1, List.drop_of_length_le (by simpa using h)]; rfl
  · rw [List.drop_of_length_le (by simpa using hk)]; rfl
theorem bl_length : ∀ (n : Nat) (l : List UInt8), l.length ≤ n → (bl l).length ≤ l.length
  | _, [], _ => by simp [bl]
  | _, [_], _ => by simp [bl]
  | 0, _ :: _ :: _, h => by simp at h
  | n + 1, x :: y :: r, h => by
    simp only [List.length_cons] at h
    have i1 := bl_length n r (by omega)
    have i2 := bl_length n (y :: r) (by simp only [List.length_cons]; omega)
    unfold bl
    split
    · split
      · simp
      · simp only [List.length_cons]; omega
    · simp only [List.length_cons] at i2 ⊢; omega

theorem take_snoc (s : ByteArray) (k : Nat) (h : k < s.size) : s.data.toList.take (k + 1) = s.data.toList.take k ++ [s[k]] := by
  rw [List.take_succ_eq_append_getElem (by simpa using h)]; rfl
theorem take_all (s : ByteArray) : s.data.toList.take s.size = s.data.toList := List.take_of_length_le (by simp)
theorem all_take_bad (s : ByteArray) (k : Nat) (h : k < s.size) (hb : okb s[k] = false) : s.data.toList.all okb = false := by
  rw [List.all_eq_false]
  exact ⟨s[k], by
    have : s[k] = s.data.toList[k]'(by simpa using h) := rfl
    rw [this]; exact List.getElem_mem _, by simp [hb]⟩
end Go.Proofs.YtpbnjdgedifnoaaGreatDoor
namespace Go.Proofs.YtpbnjdgedifnoaaGreatDoor

/-- 0: a text; 1: a byte of it may not be; 4: it is too long. -/
def tfault (l : List UInt8) : Int := if l.length ≤ 60 then (if l.all okb then 0 else 1) else 4
theorem tfault_long {l : List UInt8} (h : ¬ l.length ≤ 60) : tfault l = 4 := if_neg h
theorem tfault_bad {l : List UInt8} (h : l.length ≤ 60) (h2 : l.all okb = false) : tfault l = 1 := by unfold tfault; rw [if_pos h, h2]; rfl
theorem tfault_ok {l : List UInt8} (h : textOk l = true) : tfault l = 0 := by
  unfold textOk at h
  simp only [Bool.and_eq_true, decide_eq_true_eq] at h
  unfold tfault; rw [if_pos h.1, h.2]; rfl
theorem tfault_not {l : List UInt8} (h : textOk l = false) : tfault l ≠ 0 := by
  unfold tfault
  unfold textOk at h
  by_cases h1 : l.length ≤ 60
  · rw [decide_eq_true h1, Bool.true_and] at h
    rw [if_pos h1, h]; decide
  · rw [if_neg h1]; decide
/-- What is wrong with a uid. -/
def ufault (t i : List UInt8) : Int := if nfault t = 0 then tfault i else nfault t
theorem ufault_both {t i : List UInt8} (h : ufault t i = 0) : nfault t = 0 ∧ textOk i = true := by
  unfold ufault at h
  by_cases h1 : nfault t = 0
  · rw [if_pos h1] at h
    refine ⟨h1, ?_⟩
    cases h2 : textOk i
    · exact absurd h (tfault_not h2)
    · rfl
  · rw [if_neg h1] at h
    exact absurd h h1
theorem nfault_small {t : List UInt8} (h : nfault t = 0) : t.length ≤ 20 := by
  unfold nfault at h
  by_cases h1 : nm t = true
  · rw [if_pos h1] at h
    by_cases h2 : 20 < t.length
    · rw [if_pos h2] at h; exact absurd h (by decide)
    · omega
  · rw [if_neg h1] at h; exact absurd h (by decide)
theorem ufault_small {t i : List UInt8} (h : ufault t i = 0) : t.length ≤ 20 ∧ i.length ≤ 60 := by
  obtain ⟨h1, h2⟩ := ufault_both h
  refine ⟨nfault_small h1, ?_⟩
  unfold textOk at h2
  rw [Bool.and_eq_true, decide_eq_true_eq] at h2
  exact h2.1
end Go.Proofs.YtpbnjdgedifnoaaGreatDoor
namespace Go.Proofs.YtpbnjdgedifnoaaGreatDoor

/-- A byte of a name. -/
def namb (c : UInt8) : Bool := letb c || digb c
/-- A name, of this kind, with so many bytes ahead of it. (Of a word these are told: its kind, its text, and how many bytes it has; or the number of what is wrong.) -/
def wName (k : Int) (m : Nat) (l : List UInt8) : Except Int (Int × List UInt8 × Nat) :=
  if nfault (l.takeWhile namb) = 0 then .ok (k, l.takeWhile namb, m + (l.takeWhile namb).length) else .error (nfault (l.takeWhile namb))
/-- Without needless 0 ahead. -/
def dig0 : List UInt8 → List UInt8
  | [] => []
  | [c] => [c]
  | c :: d :: r => if c.toNat == 48 then dig0 (d :: r) else c :: d :: r
def wNum (l : List UInt8) : Except Int (Int × List UInt8 × Nat) :=
  if 19 < (dig0 (l.takeWhile digb)).length then .error 4 else .ok (2, dig0 (l.takeWhile digb), (l.takeWhile digb).length)
/-- Up to the quote that no sign guards: the text, and how many bytes stand ahead of that quote. -/
def qsc : Bool → List UInt8 → Option (List UInt8 × Nat)
  | _, [] => none
  | g, c :: r => if (c.toNat == 34 && !g) = true then some ([], 0)
    else if (okb c && (!g || grd c)) = true then (qsc (c.toNat == 92 && !g) r).map fun x => (if (c.toNat == 92 && !g) = true then x.1 else c :: x.1, x.2 + 1)
    else none
def wQuo (l : List UInt8) : Except Int (Int × List UInt8 × Nat) :=
  match qsc false l with
  | none => .error 1
  | some x => if 60 < x.1.length then .error 4 else .ok (3, x.1, x.2 + 2)
def two (l : List UInt8) : Bool := l == [58, 58] || l == [61, 61] || l == [60, 61] || l == [38, 38] || l == [124, 124]
def shorts : List UInt8 := [40, 41, 91, 93, 123, 125, 44, 58, 46, 60, 33, 43, 45, 42]
def wSign (l : List UInt8) : Except Int (Int × List UInt8 × Nat) :=
  if two (l.take 2) = true then .ok (5, l.take 2, 2) else if (l.take 1).any (fun c => shorts.contains c) = true then .ok (5, l.take 1, 1) else .error 1
/-- The word that a line begins with. -/
def word1 : List UInt8 → Except Int (Int × List UInt8 × Nat)
  | [] => .error 1
  | c :: r => if letb c = true then wName 1 0 (c :: r) else if digb c = true then wNum (c :: r) else if (c.toNat == 34) = true then wQuo r else if (c.toNat == 63) = true then wName 4 1 r else wSign (c :: r)

theorem word1_cons (c : UInt8) (r : List UInt8) : word1 (c :: r) = if letb c = true then wName 1 0 (c :: r) else if digb c = true then wNum (c :: r) else if (c.toNat == 34) = true then wQuo r else if (c.toNat == 63) = true then wName 4 1 r else wSign (c :: r) := rfl

/-- A word with its place. -/
structure Tk where
  kind : Int
  s : ByteArray
  at_ : Int
def mkT (k : Int) (l : List UInt8) (a : Nat) : Tk := ⟨k, ⟨l.toArray⟩, a⟩
/-- All words of a line, behind these, from this byte on; or what is wrong, and where. -/
def wds (l : List UInt8) (acc : List Tk) (a : Nat) : Except (Int × Nat) (List Tk) :=
  match l with
  | [] => .ok acc
  | c :: r =>
    if (c.toNat == 32) = true then wds r acc (a + 1)
    else match word1 (c :: r) with
      | .error e => .error (e, a)
      | .ok x => if 300 ≤ acc.length then .error (4, a) else wds (r.drop (x.2.2 - 1)) (acc ++ [mkT x.1 x.2.1 a]) (a + x.2.2)
  termination_by l.length
  decreasing_by all_goals (simp; try omega)
def readL (l : List UInt8) : Except (Int × Nat) (List Tk) := if 900 < l.length then .error (4, 0) else wds l [] 0

theorem wds_nil (acc : List Tk) (a : Nat) : wds [] acc a = .ok acc := by rw [wds]
theorem wds_blank {c : UInt8} (h : (c.toNat == 32) = true) (r : List UInt8) (acc : List Tk) (a : Nat) : wds (c :: r) acc a = wds r acc (a + 1) := by
  rw [wds]; simp only [h, if_true]
theorem wds_bad {c : UInt8} (h : (c.toNat == 32) = false) {r : List UInt8} {e : Int} (hw : word1 (c :: r) = .error e) (acc : List Tk) (a : Nat) : wds (c :: r) acc a = .error (e, a) := by
  rw [wds]; simp only [h, hw]; rfl
theorem wds_full {c : UInt8} (h : (c.toNat == 32) = false) {r : List UInt8} {x : Int × List UInt8 × Nat} (hw : word1 (c :: r) = .ok x) {acc : List Tk} (ha : 300 ≤ acc.length) (a : Nat) : wds (c :: r) acc a = .error (4, a) := by
  rw [wds]; simp only [h, hw, if_pos ha]; rfl
theorem wds_word {c : UInt8} (h : (c.toNat == 32) = false) {r : List UInt8} {x : Int × List UInt8 × Nat} (hw : word1 (c :: r) = .ok x) {acc : List Tk} (ha : ¬ 300 ≤ acc.length) (a : Nat) : wds (c :: r) acc a = wds (r.drop (x.2.2 - 1)) (acc ++ [mkT x.1 x.2.1 a]) (a + x.2.2) := by
  rw [wds]; simp only [h, hw, if_neg ha]; rfl

/-- How many bytes of a set a line begins with. -/
def runL (p : UInt8 → Bool) (l : List UInt8) : Nat := (l.takeWhile p).length
theorem runL_le (p : UInt8 → Bool) (l : List UInt8) : runL p l ≤ l.length := by
  induction l with
  | nil => simp [runL]
  | cons c r ih =>
    unfold runL at *
    by_cases h : p c = true
    · simp [h]; omega
    · simp [h]
theorem runL_take (p : UInt8 → Bool) (l : List UInt8) : l.take (runL p l) = l.takeWhile p := by
  induction l with
  | nil => simp [runL]
  | cons c r ih =>
    unfold runL at *
    by_cases h : p c = true
    · simp [h]; exact ih
    · simp [h]
def blankb (c : UInt8) : Bool := c.toNat == 32
theorem wds_run (l : List UInt8) (acc : List Tk) (a : Nat) : wds l acc a = wds (l.drop (runL blankb l)) acc (a + runL blankb l) := by
  induction l generalizing a with
  | nil => rfl
  | cons c r ih =>
    by_cases h : (c.toNat == 32) = true
    · rw [wds_blank h, ih (a + 1)]
      have e : runL blankb (c :: r) = runL blankb r + 1 := by
        unfold runL; rw [List.takeWhile_cons, if_pos (by exact h)]; rfl
      rw [e, List.drop_succ_cons, show a + 1 + runL blankb r = a + (runL blankb r + 1) by omega]
    · have e : runL blankb (c :: r) = 0 := by unfold runL; rw [List.takeWhile_cons, if_neg (by exact h)]; rfl
      rw [e]; rfl
theorem run_next (l : List UInt8) : ∀ c r, l.drop (runL blankb l) = c :: r → (c.toNat == 32) = false := by
  induction l with
  | nil => intro c r h; simp [runL] at h
  | cons d m ih =>
    intro c r h
    by_cases hd : (d.toNat == 32) = true
    · have e : runL blankb (d :: m) = runL blankb m + 1 := by
        unfold runL; rw [List.takeWhile_cons, if_pos (by exact hd)]; rfl
      rw [e, List.drop_succ_cons] at h
      exact ih c r h
    · have e : runL blankb (d :: m) = 0 := by unfold runL; rw [List.takeWhile_cons, if_neg (by exact hd)]; rfl
      rw [e] at h
      simp only [List.drop_zero, List.cons.injEq] at h
      rw [← h.1]; simpa using hd

theorem takeWhile_sep (p : UInt8 → Bool) (h : p 32 = false) (l m : List UInt8) : (l ++ 32 :: m).takeWhile p = l.takeWhile p := by
  induction l with
  | nil => simp [h]
  | cons c r ih =>
    rw [List.cons_append, List.takeWhile_cons, List.takeWhile_cons, ih]
theorem takeWhile_le (p : UInt8 → Bool) (l : List UInt8) : (l.takeWhile p).length ≤ l.length := runL_le p l
theorem takeWhile_all (p : UInt8 → Bool) (l : List UInt8) : (l.takeWhile p).all p = true := by
  induction l with
  | nil => rfl
  | cons c r ih =>
    rw [List.takeWhile_cons]
    split
    · rename_i h; rw [List.all_cons, h, ih]; rfl
    · rfl
theorem takeWhile_id (p : UInt8 → Bool) (l : List UInt8) (h : l.all p = true) : l.takeWhile p = l := by
  induction l with
  | nil => rfl
  | cons c r ih =>
    rw [List.all_cons, Bool.and_eq_true] at h
    rw [List.takeWhile_cons, if_pos h.1, ih h.2]

theorem qsc_append (z : List UInt8) : ∀ (l : List UInt8) (g : Bool) (x : List UInt8 × Nat), qsc g l = some x → qsc g (l ++ z) = some x
  | [], g, x, h => by simp [qsc] at h
  | c :: r, g, x, h => by
    rw [List.cons_append]
    unfold qsc at h ⊢
    split at h
    · rename_i h1; rw [if_pos h1]; exact h
    · rename_i h1
      rw [if_neg h1]
      split at h
      · rename_i h2
        rw [if_pos h2]
        rw [Option.map_eq_some_iff] at h ⊢
        obtain ⟨y, hy, e⟩ := h
        exact ⟨y, qsc_append z r _ y hy, e⟩
      · cases h
theorem qsc_len : ∀ (l : List UInt8) (g : Bool) (x : List UInt8 × Nat), qsc g l = some x → x.2 + 1 ≤ l.length ∧ x.1.length ≤ x.2
  | [], g, x, h => by simp [qsc] at h
  | c :: r, g, x, h => by
    unfold qsc at h
    split at h
    · cases h; simp
    · split at h
      · rw [Option.map_eq_some_iff] at h
        obtain ⟨y, hy, e⟩ := h
        have ih := qsc_len r _ y hy
        subst e
        simp only [List.length_cons]
        split
        · omega
        · simp only [List.length_cons]; omega
      · cases h
theorem qsc_ok : ∀ (l : List UInt8) (g : Bool) (x : List UInt8 × Nat), qsc g l = some x → x.1.all okb = true
  | [], g, x, h => by simp [qsc] at h
  | c :: r, g, x, h => by
    unfold qsc at h
    split at h
    · cases h; rfl
    · split at h
      · rename_i h2
        rw [Option.map_eq_some_iff] at h
        obtain ⟨y, hy, e⟩ := h
        have ih := qsc_ok r _ y hy
        subst e
        simp only []
        split
        · exact ih
        · rw [Bool.and_eq_true] at h2
          rw [List.all_cons, h2.1, ih]; rfl
      · cases h
theorem grd_ok {c : UInt8} (h : grd c = true) : okb c = true := by
  unfold grd at h; unfold okb
  simp only [Bool.or_eq_true, beq_iff_eq] at h
  simp only [Bool.and_eq_true, decide_eq_true_eq]
  omega
theorem qsc_body (z : List UInt8) : ∀ (t : List UInt8), t.all okb = true → qsc false (body t ++ 34 :: z) = some (t, (body t).length)
  | [], _ => by simp [body, qsc]
  | c :: r, h => by
    rw [List.all_cons, Bool.and_eq_true] at h
    have ih := qsc_body z r h.2
    unfold body one
    by_cases hg : grd c = true
    · rw [if_pos hg]
      show qsc false (92 :: c :: (body r ++ 34 :: z)) = _
      unfold qsc
      rw [if_neg (by decide), if_pos (by decide)]
      unfold qsc
      rw [show ((92 : UInt8).toNat == 92 && !false) = true by decide]
      rw [if_neg (by simp), if_pos (by rw [grd_ok hg, hg]; rfl)]
      rw [show (c.toNat == 92 && !true) = false by simp, ih]
      simp
    · rw [if_neg hg]
      show qsc false (c :: (body r ++ 34 :: z)) = _
      have g1 : (c.toNat == 34) = false := by
        cases e : (c.toNat == 34) with
        | false => rfl
        | true => exact absurd (by unfold grd; rw [e]; rfl) hg
      have g2 : (c.toNat == 92) = false := by
        cases e : (c.toNat == 92) with
        | false => rfl
        | true => exact absurd (by unfold grd; rw [e]; simp) hg
      unfold qsc
      rw [g1, g2, if_neg (by simp), if_pos (by rw [h.1]; rfl)]
      simp only [Bool.false_and]
      rw [ih]
      simp

theorem two_len {l : List UInt8} (h : two (l.take 2) = true) : 2 ≤ l.length := by
  cases l with
  | nil => exact absurd h (by decide)
  | cons c r =>
    cases r with
    | nil =>
      have : two [c] = false := by unfold two; simp
      simp only [List.take_succ_cons, List.take_nil] at h
      rw [this] at h; cases h
    | cons d m => simp
theorem two_sep (c : UInt8) : two [c, 32] = false := by
  unfold two
  simp only [List.cons_beq_cons, Bool.or_eq_false_iff, Bool.and_eq_false_iff]
  have : ((32 : UInt8) == 58) = false ∧ ((32 : UInt8) == 61) = false ∧ ((32 : UInt8) == 38) = false ∧ ((32 : UInt8) == 124) = false := by decide
  simp [this]

theorem wSign_sep (c : UInt8) (r m : List UInt8) {x : Int × List UInt8 × Nat} (h : wSign (c :: r) = .ok x) : wSign (c :: r ++ 32 :: m) = .ok x := by
  cases r with
  | nil =>
    have e1 : two ([c].take 2) = false := by
      cases e : two ([c].take 2) with
      | false => rfl
      | true => have := two_len e; simp at this
    have e2 : two (([c] ++ 32 :: m).take 2) = false := two_sep c
    unfold wSign at h ⊢
    rw [e1] at h
    rw [e2]
    exact h
  | cons d q => exact h
theorem word1_sep {l : List UInt8} {x : Int × List UInt8 × Nat} (m : List UInt8) (h : word1 l = .ok x) : word1 (l ++ 32 :: m) = .ok x := by
  have n32 : namb 32 = false := by decide
  have d32 : digb 32 = false := by decide
  cases l with
  | nil => simp [word1] at h
  | cons c r =>
    rw [List.cons_append]
    rw [word1_cons] at h ⊢
    split at h
    · rename_i h1
      rw [if_pos h1]
      unfold wName at h ⊢
      rw [← List.cons_append, takeWhile_sep _ n32]
      exact h
    · rename_i h1
      rw [if_neg h1]
      split at h
      · rename_i h2
        rw [if_pos h2]
        unfold wNum at h ⊢
        rw [← List.cons_append, takeWhile_sep _ d32]
        exact h
      · rename_i h2
        rw [if_neg h2]
        split at h
        · rename_i h3
          rw [if_pos h3]
          unfold wQuo at h ⊢
          cases e : qsc false r with
          | none => rw [e] at h; cases h
          | some y => rw [e] at h; rw [qsc_append _ _ _ _ e]; exact h
        · rename_i h3
          rw [if_neg h3]
          split at h
          · rename_i h4
            rw [if_pos h4]
            unfold wName at h ⊢
            rw [takeWhile_sep _ n32]
            exact h
          · rename_i h4
            rw [if_neg h4]
            exact wSign_sep c r m h

theorem nfault_pos {l : List UInt8} (h : nfault l = 0) : 1 ≤ l.length := by
  unfold nfault at h
  split at h
  · rename_i h1
    unfold nm at h1
    cases l with
    | nil => simp at h1
    | cons c r => simp
  · cases h
theorem word1_size {l : List UInt8} {x : Int × List UInt8 × Nat} (h : word1 l = .ok x) : 1 ≤ x.2.2 ∧ x.2.2 ≤ l.length := by
  cases l with
  | nil => simp [word1] at h
  | cons c r =>
    rw [word1_cons] at h
    split at h
    · unfold wName at h
      split at h
      · rename_i h1
        have := nfault_pos h1
        have := takeWhile_le namb (c :: r)
        cases h; simp only; omega
      · cases h
    · split at h
      · rename_i h2
        unfold wNum at h
        split at h
        · cases h
        · have := takeWhile_le digb (c :: r)
          cases h
          refine ⟨?_, this⟩
          rw [List.takeWhile_cons, if_pos h2]; simp
      · split at h
        · unfold wQuo at h
          cases e : qsc false r with
          | none => rw [e] at h; cases h
          | some y =>
            rw [e] at h
            have := qsc_len _ _ _ e
            simp only at h
            split at h
            · cases h
            · cases h; simp only [List.length_cons]; omega
        · split at h
          · unfold wName at h
            split at h
            · rename_i h1
              have := takeWhile_le namb r
              cases h; simp only [List.length_cons]; omega
            · cases h
          · unfold wSign at h
            split at h
            · rename_i h1
              have := two_len h1
              cases h; exact ⟨by simp, this⟩
            · split at h
              · cases h; simp
              · cases h

/-- LINE BEHIND LINE: behind the words of a line and a blank those of another one. -/
theorem wds_sep (m : List UInt8) : ∀ (n : Nat) (l : List UInt8) (acc : List Tk) (a : Nat) (xs : List Tk), l.length ≤ n → wds l acc a = .ok xs → wds (l ++ 32 :: m) acc a = wds m xs (a + l.length + 1)
  | _, [], acc, a, xs, _, h => by
    rw [wds_nil] at h
    cases h
    rw [List.nil_append, wds_blank (by decide)]; rfl
  | 0, c :: r, _, _, _, hn, _ => by simp at hn
  | n + 1, c :: r, acc, a, xs, hn, h => by
    simp only [List.length_cons] at hn
    by_cases hb : (c.toNat == 32) = true
    · rw [wds_blank hb] at h
      rw [List.cons_append, wds_blank hb, wds_sep m n r acc (a + 1) xs (by omega) h]
      rw [List.length_cons, show a + 1 + r.length + 1 = a + (r.length + 1) + 1 by omega]
    · have hb' : (c.toNat == 32) = false := by simpa using hb
      cases hw : word1 (c :: r) with
      | error e => rw [wds_bad hb' hw] at h; cases h
      | ok x =>
        by_cases ha : 300 ≤ acc.length
        · rw [wds_full hb' hw ha] at h; cases h
        · rw [wds_word hb' hw ha] at h
          obtain ⟨s1, s2⟩ := word1_size hw
          simp only [List.length_cons] at s2
          have hw' := word1_sep m hw
          rw [List.cons_append] at hw' ⊢
          rw [wds_word hb' hw' ha]
          have e : (r ++ 32 :: m).drop (x.2.2 - 1) = r.drop (x.2.2 - 1) ++ 32 :: m := by
            rw [List.drop_append_of_le_length (by omega)]
          rw [e, wds_sep m n _ _ _ xs (by simp; omega) h]
          rw [List.length_drop, List.length_cons, show a + x.2.2 + (r.length - (x.2.2 - 1)) + 1 = a + (r.length + 1) + 1 by omega]

/-- Further on. -/
def sh (d : Nat) (t : Tk) : Tk := ⟨t.kind, t.s, t.at_ + d⟩
theorem wds_move : ∀ (n : Nat) (l : List UInt8) (acc : List Tk) (a : Nat) (xs : List Tk), l.length ≤ n → wds l acc a = .ok xs →
    ∃ ys, xs = acc ++ ys ∧ acc.length + ys.length ≤ max acc.length 300 ∧ (∀ y ∈ ys, (a : Int) ≤ y.at_) ∧ ∀ (acc' : List Tk) (d : Nat), acc'.length + ys.length ≤ 300 → wds l acc' (a + d) = .ok (acc' ++ ys.map (sh d))
  | _, [], acc, a, xs, _, h => by
    rw [wds_nil] at h
    cases h
    exact ⟨[], by simp, by simp; omega, by simp, fun acc' d _ => by rw [wds_nil]; simp⟩
  | 0, c :: r, _, _, _, hn, _ => by simp at hn
  | n + 1, c :: r, acc, a, xs, hn, h => by
    simp only [List.length_cons] at hn
    by_cases hb : (c.toNat == 32) = true
    · rw [wds_blank hb] at h
      obtain ⟨ys, e, hl, hp, hm⟩ := wds_move n r acc (a + 1) xs (by omega) h
      refine ⟨ys, e, hl, fun y hy => ?_, fun acc' d hd => ?_⟩
      · have := hp y hy; omega
      · rw [wds_blank hb, show a + d + 1 = a + 1 + d by omega]; exact hm acc' d hd
    · have hb' : (c.toNat == 32) = false := by simpa using hb
      cases hw : word1 (c :: r) with
      | error e => rw [wds_bad hb' hw] at h; cases h
      | ok x =>
        by_cases ha : 300 ≤ acc.length
        · rw [wds_full hb' hw ha] at h; cases h
        · rw [wds_word hb' hw ha] at h
          obtain ⟨ys, e, hl, hp, hm⟩ := wds_move n _ _ _ xs (by simp; omega) h
          refine ⟨mkT x.1 x.2.1 a :: ys, by rw [e]; simp, by simp only [List.length_append, List.length_cons, List.length_nil] at hl ⊢; omega, fun y hy => ?_, fun acc' d hd => ?_⟩
          · rcases List.mem_cons.1 hy with rfl | hy
            · simp [mkT]
            · have := hp y hy; omega
          · simp only [List.length_cons] at hd
            rw [wds_word hb' hw (by omega), show a + d + x.2.2 = a + x.2.2 + d by omega, hm _ d (by simp; omega)]
            simp [sh, mkT]
theorem wds_count {l : List UInt8} {xs : List Tk} (h : wds l [] 0 = .ok xs) : xs.length ≤ 300 := by
  obtain ⟨ys, e, hl, _⟩ := wds_move _ l [] 0 xs (Nat.le_refl _) h
  rw [e]; simpa using hl
theorem joins {l m : List UInt8} {xs ys : List Tk} (h : wds l [] 0 = .ok xs) (k : wds m [] 0 = .ok ys) (hc : xs.length + ys.length ≤ 300) :
    wds (l ++ 32 :: m) [] 0 = .ok (xs ++ ys.map (sh (l.length + 1))) := by
  obtain ⟨zs, e, _, _, hm⟩ := wds_move _ m [] 0 ys (Nat.le_refl _) k
  rw [wds_sep m _ l [] 0 xs (Nat.le_refl _) h]
  rw [List.nil_append] at e
  subst e
  have := hm xs (l.length + 1) hc
  rw [show 0 + l.length + 1 = 0 + (l.length + 1) by omega]
  exact this
end Go.Proofs.YtpbnjdgedifnoaaGreatDoor
namespace Go.Proofs.YtpbnjdgedifnoaaGreatDoor

/-- How a word is written; of what is no word something all the same. -/
def wtn (t : Tk) : List UInt8 := if t.kind = 4 then 63 :: t.s.data.toList else if t.kind = 3 then (if textOk t.s.data.toList = true then quoted t.s.data.toList else []) else t.s.data.toList
/-- At the first byte. -/
def at0 (t : Tk) : Tk := ⟨t.kind, t.s, 0⟩
/-- Is this list all of a word of this kind, as it is read? -/
def whole (k : Int) (l : List UInt8) : Bool :=
  match word1 l with
  | .ok x => x.2.2 == l.length && x.1 == k && x.2.1 == l
  | .error _ => false
/-- A word that can be written. -/
def spB (t : Tk) : Bool :=
  if t.kind = 3 then textOk t.s.data.toList else if t.kind = 4 then nfault t.s.data.toList == 0
  else match t.s.data.toList with
    | [] => false
    | c :: r => !(c.toNat == 32 || c.toNat == 34 || c.toNat == 63) && whole t.kind (c :: r)

theorem word1_inv {l : List UInt8} {k : Int} {t : List UInt8} {n : Nat} (h : word1 l = .ok (k, t, n)) :
    (k = 1 ∧ t = l.takeWhile namb ∧ nfault t = 0 ∧ n = t.length) ∨
    (k = 2 ∧ t = dig0 (l.takeWhile digb) ∧ t.length ≤ 19 ∧ n = (l.takeWhile digb).length ∧ l.takeWhile digb ≠ []) ∨
    (k = 3 ∧ t.all okb = true ∧ t.length ≤ 60 ∧ ∃ c r, l = c :: r ∧ (c.toNat == 34) = true) ∨
    (k = 4 ∧ nfault t = 0 ∧ ∃ c r, l = c :: r ∧ (c.toNat == 63) = true ∧ t = r.takeWhile namb) ∨
    (k = 5 ∧ ((two t = true ∧ t = l.take 2 ∧ n = 2) ∨ (t.any (fun c => shorts.contains c) = true ∧ t = l.take 1 ∧ n = 1 ∧ l ≠ []))) := by
  cases l with
  | nil => simp [word1] at h
  | cons c r =>
    rw [word1_cons] at h
    split at h
    · unfold wName at h
      split at h
      · rename_i h1
        cases h
        exact .inl ⟨rfl, rfl, h1, by simp⟩
      · cases h
    · split at h
      · rename_i h2
        unfold wNum at h
        split at h
        · cases h
        · cases h
          refine .inr (.inl ⟨rfl, rfl, by omega, rfl, ?_⟩)
          rw [List.takeWhile_cons, if_pos h2]; simp
      · split at h
        · rename_i h3
          unfold wQuo at h
          cases e : qsc false r with
          | none => rw [e] at h; cases h
          | some y =>
            rw [e] at h
            have := qsc_ok _ _ _ e
            simp only at h
            split at h
            · cases h
            · cases h; exact .inr (.inr (.inl ⟨rfl, this, by omega, c, r, rfl, h3⟩))
        · split at h
          · rename_i h4
            unfold wName at h
            split at h
            · rename_i h1
              cases h
              exact .inr (.inr (.inr (.inl ⟨rfl, h1, c, r, rfl, h4, rfl⟩)))
            · cases h
          · unfold wSign at h
            split at h
            · rename_i h1
              cases h
              exact .inr (.inr (.inr (.inr ⟨rfl, .inl ⟨h1, rfl, rfl⟩⟩)))
            · split at h
              · rename_i h1
                cases h
                exact .inr (.inr (.inr (.inr ⟨rfl, .inr ⟨h1, rfl, rfl, by simp⟩⟩)))
              · cases h

theorem dig0_le : ∀ l : List UInt8, (dig0 l).length ≤ l.length
  | [] => by simp [dig0]
  | [c] => by simp [dig0]
  | c :: d :: r => by
    have := dig0_le (d :: r)
    unfold dig0
    split
    · simp only [List.length_cons] at this ⊢; omega
    · simp
theorem dig0_all (p : UInt8 → Bool) : ∀ l : List UInt8, l.all p = true → (dig0 l).all p = true
  | [], _ => by simp [dig0]
  | [c], h => by simpa [dig0] using h
  | c :: d :: r, h => by
    have ih := dig0_all p (d :: r)
    unfold dig0
    split
    · apply ih; rw [List.all_cons, Bool.and_eq_true] at h; exact h.2
    · exact h
theorem dig0_ne : ∀ l : List UInt8, l ≠ [] → dig0 l ≠ []
  | [], h => absurd rfl h
  | [c], _ => by simp [dig0]
  | c :: d :: r, _ => by
    have ih := dig0_ne (d :: r) (by simp)
    unfold dig0
    split
    · exact ih
    · simp
theorem dig0_twice : ∀ l : List UInt8, dig0 (dig0 l) = dig0 l
  | [] => by simp [dig0]
  | [c] => by simp [dig0]
  | c :: d :: r => by
    have ih := dig0_twice (d :: r)
    by_cases h : (c.toNat == 48) = true
    · have e : dig0 (c :: d :: r) = dig0 (d :: r) := by rw [dig0, if_pos h]
      rw [e, ih]
    · have e : dig0 (c :: d :: r) = c :: d :: r := by rw [dig0, if_neg h]
      rw [e, e]

theorem name_all {t : List UInt8} (h : nfault t = 0) : t.all namb = true ∧ t.length ≤ 20 ∧ ∃ c r, t = c :: r ∧ letb c = true := by
  have hs := nfault_small h
  unfold nfault at h
  split at h
  · rename_i h1
    unfold nm at h1
    rw [Bool.and_eq_true] at h1
    cases t with
    | nil => simp at h1
    | cons c r =>
      have hp := h1.1
      unfold pre at hp
      rw [Bool.and_eq_true] at hp
      refine ⟨?_, hs, c, r, rfl, hp.1⟩
      rw [List.all_cons]
      have : namb c = true := by unfold namb; rw [hp.1]; rfl
      rw [this, Bool.true_and]
      exact hp.2
  · cases h
theorem let_not {c : UInt8} (h : letb c = true) : (c.toNat == 32 || c.toNat == 34 || c.toNat == 63) = false := by
  unfold letb at h
  simp only [Bool.or_eq_true, Bool.and_eq_true, decide_eq_true_eq, beq_iff_eq] at h
  simp only [Bool.or_eq_false_iff, beq_eq_false_iff_ne]
  omega
theorem dig_not {c : UInt8} (h : digb c = true) : (c.toNat == 32 || c.toNat == 34 || c.toNat == 63) = false := by
  unfold digb at h
  simp only [Bool.and_eq_true, decide_eq_true_eq] at h
  simp only [Bool.or_eq_false_iff, beq_eq_false_iff_ne]
  omega
theorem dig_let {c : UInt8} (h : digb c = true) : letb c = false := by
  unfold digb at h
  simp only [Bool.and_eq_true, decide_eq_true_eq] at h
  cases e : letb c with
  | false => rfl
  | true =>
    unfold letb at e
    simp only [Bool.or_eq_true, Bool.and_eq_true, decide_eq_true_eq, beq_iff_eq] at e
    omega
theorem whole_of {k : Int} {l : List UInt8} (h : word1 l = .ok (k, l, l.length)) : whole k l = true := by
  unfold whole; rw [h]; simp
theorem whole_to {k : Int} {l : List UInt8} (h : whole k l = true) : word1 l = .ok (k, l, l.length) := by
  unfold whole at h
  cases e : word1 l with
  | error n => rw [e] at h; cases h
  | ok x =>
    rw [e] at h
    obtain ⟨a, b, c⟩ := x
    simp only [Bool.and_eq_true, beq_iff_eq] at h
    rw [h.1.1, h.1.2, h.2]

theorem word_name {t : List UInt8} (h : nfault t = 0) : word1 t = .ok (1, t, t.length) := by
  obtain ⟨h1, _, c, r, e, h2⟩ := name_all h
  have : word1 t = wName 1 0 t := by rw [e, word1_cons, if_pos h2]
  rw [this]
  unfold wName
  rw [takeWhile_id _ _ h1, if_pos h]
  simp
theorem word_num {f : List UInt8} (h : f.all digb = true) (hne : f ≠ []) (hl : (dig0 f).length ≤ 19) : word1 (dig0 f) = .ok (2, dig0 f, (dig0 f).length) := by
  have ha := dig0_all digb f h
  have hn := dig0_ne f hne
  obtain ⟨c, r, e⟩ := List.exists_cons_of_ne_nil hn
  have hc : digb c = true := by rw [e, List.all_cons, Bool.and_eq_true] at ha; exact ha.1
  have : word1 (dig0 f) = wNum (dig0 f) := by rw [e, word1_cons, if_neg (by rw [dig_let hc]; decide), if_pos hc]
  rw [this]
  unfold wNum
  rw [takeWhile_id _ _ ha, dig0_twice, if_neg (by omega)]
theorem word_quo {t : List UInt8} (h : textOk t = true) : word1 (quoted t) = .ok (3, t, (quoted t).length) := by
  unfold textOk at h
  rw [Bool.and_eq_true, decide_eq_true_eq] at h
  have e : quoted t = 34 :: (body t ++ 34 :: []) := rfl
  rw [e, word1_cons, if_neg (by decide), if_neg (by decide), if_pos (by decide)]
  unfold wQuo
  rw [qsc_body [] t h.2]
  simp only
  rw [if_neg (by omega)]
  simp
theorem word_slot {t : List UInt8} (h : nfault t = 0) : word1 (63 :: t) = .ok (4, t, (63 :: t).length) := by
  obtain ⟨h1, _⟩ := name_all h
  rw [word1_cons, if_neg (by decide), if_neg (by decide), if_neg (by decide), if_pos (by decide)]
  unfold wName
  rw [takeWhile_id _ _ h1, if_pos h]
  simp; omega

theorem mkT_data (k : Int) (l : List UInt8) (a : Nat) : (mkT k l a).s.data.toList = l := rfl
theorem mkT_kind (k : Int) (l : List UInt8) (a : Nat) : (mkT k l a).kind = k := rfl
theorem tk_eta (t : Tk) : mkT t.kind t.s.data.toList 0 = at0 t := rfl
theorem two_cases {t : List UInt8} (h : two t = true) : t = [58, 58] ∨ t = [61, 61] ∨ t = [60, 61] ∨ t = [38, 38] ∨ t = [124, 124] := by
  unfold two at h
  simp only [Bool.or_eq_true, beq_iff_eq] at h
  rcases h with (((h | h) | h) | h) | h
  · exact .inl h
  · exact .inr (.inl h)
  · exact .inr (.inr (.inl h))
  · exact .inr (.inr (.inr (.inl h)))
  · exact .inr (.inr (.inr (.inr h)))

/-- What is read can be written. -/
theorem word1_spB {l : List UInt8} {k : Int} {t : List UInt8} {n : Nat} (a : Nat) (h : word1 l = .ok (k, t, n)) : spB (mkT k t a) = true := by
  unfold spB
  rw [mkT_kind, mkT_data]
  rcases word1_inv h with ⟨rfl, _, h2, _⟩ | ⟨rfl, h1, h2, _, h4⟩ | ⟨rfl, h1, h2, _⟩ | ⟨rfl, h1, _⟩ | ⟨rfl, h1⟩
  · obtain ⟨_, _, c, r, e, hc⟩ := name_all h2
    have hw := whole_of (word_name h2)
    rw [if_neg (by decide), if_neg (by decide)]
    subst e
    simp only [let_not hc, hw]; rfl
  · have hall := takeWhile_all digb l
    rw [h1] at h2
    have hw := whole_of (word_num hall h4 h2)
    rw [if_neg (by decide), if_neg (by decide)]
    rw [← h1] at hw
    have hda := dig0_all digb _ hall
    rw [← h1] at hda
    have hn := dig0_ne _ h4
    rw [← h1] at hn
    obtain ⟨c, r, e⟩ := List.exists_cons_of_ne_nil hn
    subst e
    rw [List.all_cons, Bool.and_eq_true] at hda
    simp only [dig_not hda.1, hw]; rfl
  · rw [if_pos rfl]
    unfold textOk; rw [h1, decide_eq_true h2]; rfl
  · rw [if_neg (by decide), if_pos rfl, h1]; rfl
  · rw [if_neg (by decide), if_neg (by decide)]
    rcases h1 with ⟨h1, _⟩ | ⟨h1, h2, _, h3⟩
    · rcases two_cases h1 with rfl | rfl | rfl | rfl | rfl <;> rfl
    · obtain ⟨c, r, e⟩ := List.exists_cons_of_ne_nil h3
      have et : t = [c] := by rw [h2, e]; rfl
      subst et
      have hc : shorts.contains c = true := by simpa using h1
      unfold shorts at hc
      simp only [List.contains_cons, List.contains_nil, Bool.or_false, Bool.or_eq_true, beq_iff_eq] at hc
      rcases hc with rfl | rfl | rfl | rfl | rfl | rfl | rfl | rfl | rfl | rfl | rfl | rfl | rfl | rfl <;> rfl

theorem word1_small {l : List UInt8} {k : Int} {t : List UInt8} {n : Nat} (h : word1 l = .ok (k, t, n)) : t.length ≤ 60 := by
  rcases word1_inv h with ⟨_, _, h2, _⟩ | ⟨_, h1, h2, _⟩ | ⟨_, _, h2, _⟩ | ⟨_, h1, _⟩ | ⟨_, h1⟩
  · have := (name_all h2).2.1; omega
  · omega
  · exact h2
  · have := (name_all h1).2.1; omega
  · rcases h1 with ⟨_, h1, _⟩ | ⟨_, h1, _⟩
    · rw [h1, List.length_take]; omega
    · rw [h1, List.length_take]; omega

theorem read_one {c : UInt8} {r : List UInt8} {k : Int} {t : List UInt8} (hc : (c.toNat == 32) = false) (h : word1 (c :: r) = .ok (k, t, (c :: r).length)) (hl : (c :: r).length ≤ 900) : readL (c :: r) = .ok [mkT k t 0] := by
  unfold readL
  rw [if_neg (by omega), wds_word hc h (by simp)]
  simp only
  rw [List.drop_of_length_le (by simp), wds_nil]
  rfl
theorem read_first {u : List UInt8} {x : Tk} (h : readL u = .ok [x]) (hx : x.at_ = 0) : ∃ c r n, u = c :: r ∧ (c.toNat == 32) = false ∧ word1 u = .ok (x.kind, x.s.data.toList, n) := by
  unfold readL at h
  split at h
  · cases h
  · cases u with
    | nil => rw [wds_nil] at h; cases h
    | cons c r =>
      by_cases hb : (c.toNat == 32) = true
      · rw [wds_blank hb] at h
        obtain ⟨ys, e, _, hp, _⟩ := wds_move _ r [] 1 [x] (Nat.le_refl _) h
        rw [List.nil_append] at e
        have := hp x (by rw [← e]; simp)
        omega
      · have hb' : (c.toNat == 32) = false := by simpa using hb
        cases hw : word1 (c :: r) with
        | error e => rw [wds_bad hb' hw] at h; cases h
        | ok y =>
          rw [wds_word hb' hw (by simp)] at h
          obtain ⟨ys, e, _⟩ := wds_move _ _ _ _ _ (Nat.le_refl _) h
          simp only [List.nil_append, List.cons_append, List.cons.injEq] at e
          obtain ⟨k, t, n⟩ := y
          exact ⟨c, r, n, rfl, hb', by rw [e.1]; rfl⟩

theorem wr_slot {t : Tk} (h : t.kind = 4) : wtn t = 63 :: t.s.data.toList := if_pos h
theorem wr_quo {t : Tk} (h : t.kind = 3) : wtn t = if textOk t.s.data.toList = true then quoted t.s.data.toList else [] := by
  unfold wtn; rw [if_neg (by rw [h]; decide), if_pos h]
theorem wr_else {t : Tk} (h3 : t.kind ≠ 3) (h4 : t.kind ≠ 4) : wtn t = t.s.data.toList := by
  unfold wtn; rw [if_neg h4, if_neg h3]
theorem spB_quo {t : Tk} (h : t.kind = 3) : spB t = textOk t.s.data.toList := if_pos h
theorem spB_slot {t : Tk} (h : t.kind = 4) : spB t = (nfault t.s.data.toList == 0) := by
  unfold spB; rw [if_neg (by rw [h]; decide), if_pos h]

/-- What can be written is read as it was; and nothing else is. -/
theorem spB_read {t : Tk} (h : spB t = true) : readL (wtn t) = .ok [at0 t] := by
  by_cases h3 : t.kind = 3
  · rw [spB_quo h3] at h
    rw [wr_quo h3, if_pos h]
    have hw := word_quo h
    have e : quoted t.s.data.toList = 34 :: (body t.s.data.toList ++ [34]) := rfl
    have hl := body_length t.s.data.toList
    unfold textOk at h
    rw [Bool.and_eq_true, decide_eq_true_eq] at h
    rw [e] at hw ⊢
    rw [read_one (by decide) hw (by simp; omega), ← tk_eta, h3]
  · by_cases h4 : t.kind = 4
    · rw [spB_slot h4] at h
      have hn : nfault t.s.data.toList = 0 := by simpa using h
      have := (name_all hn).2.1
      rw [wr_slot h4, read_one (by decide) (word_slot hn) (by simp only [List.length_cons]; omega), ← tk_eta, h4]
    · rw [wr_else h3 h4]
      unfold spB at h
      rw [if_neg h3, if_neg h4] at h
      cases e : t.s.data.toList with
      | nil => rw [e] at h; cases h
      | cons c r =>
        rw [e] at h
        simp only [Bool.and_eq_true, Bool.not_eq_true', Bool.or_eq_false_iff] at h
        have hw := whole_to h.2
        have hl := word1_small hw
        rw [read_one h.1.1.1 hw (by omega), ← tk_eta, e]
theorem read_spB {t : Tk} (h : readL (wtn t) = .ok [at0 t]) : spB t = true := by
  obtain ⟨c, r, n, e, hc, hw⟩ := read_first h rfl
  have hw : word1 (wtn t) = .ok (t.kind, t.s.data.toList, n) := hw
  by_cases h3 : t.kind = 3
  · rw [spB_quo h3]
    rw [wr_quo h3] at e
    split at e
    · assumption
    · cases e
  · by_cases h4 : t.kind = 4
    · rw [spB_slot h4]
      rw [wr_slot h4] at hw
      rcases word1_inv hw with ⟨h1, _⟩ | ⟨h1, _⟩ | ⟨h1, _⟩ | ⟨_, h1, _⟩ | ⟨h1, _⟩
      · omega
      · omega
      · omega
      · rw [h1]; rfl
      · omega
    · rw [wr_else h3 h4] at e hw
      unfold spB
      rw [if_neg h3, if_neg h4, e]
      simp only
      have hn : n = t.s.data.toList.length := by
        obtain ⟨_, n2⟩ := word1_size hw
        simp only at n2
        rcases word1_inv hw with ⟨_, _, _, h1⟩ | ⟨_, h1, _, h2, _⟩ | ⟨h1, _⟩ | ⟨h1, _⟩ | ⟨_, h1⟩
        · exact h1
        · have := dig0_le (t.s.data.toList.takeWhile digb)
          rw [← h1] at this
          omega
        · exact absurd h1 h3
        · exact absurd h1 h4
        · rcases h1 with ⟨h1, h2, h5⟩ | ⟨_, h2, h5, _⟩
          · have := two_len (l := t.s.data.toList) (by rw [← h2]; exact h1)
            have h6 := congrArg List.length h2
            rw [List.length_take] at h6
            omega
          · have h6 := congrArg List.length h2
            rw [List.length_take] at h6
            omega
      rw [hn] at hw
      rw [e] at hw
      have q34 : (c.toNat == 34) = false := by
        cases q : (c.toNat == 34) with
        | false => rfl
        | true =>
          have hc' : c = 34 := UInt8.toNat_inj.1 (by simpa using q)
          subst hc'
          rw [word1_cons, if_neg (by decide), if_neg (by decide), if_pos (by decide)] at hw
          unfold wQuo at hw
          cases e2 : qsc false r with
          | none => rw [e2] at hw; cases hw
          | some y =>
            rw [e2] at hw
            simp only at hw
            split at hw
            · cases hw
            · injection hw with hw; injection hw with hw _; exact absurd hw.symm h3
      have q63 : (c.toNat == 63) = false := by
        cases q : (c.toNat == 63) with
        | false => rfl
        | true =>
          have hc' : c = 63 := UInt8.toNat_inj.1 (by simpa using q)
          subst hc'
          rw [word1_cons, if_neg (by decide), if_neg (by decide), if_neg (by decide), if_pos (by decide)] at hw
          unfold wName at hw
          split at hw
          · injection hw with hw; injection hw with hw _; exact absurd hw.symm h4
          · cases hw
      rw [hc, q34, q63, whole_of hw]; rfl

/-- Each word with a blank ahead of it. -/
def gaps (ts : List Tk) : List UInt8 := ts.flatMap fun t => 32 :: wtn t
/-- The line of these words. -/
def lineW (ts : List Tk) : List UInt8 := (gaps ts).tail
theorem gaps_cons (t : Tk) (r : List Tk) : gaps (t :: r) = 32 :: (wtn t ++ gaps r) := by simp [gaps]
theorem lineW_cons (t : Tk) (r : List Tk) : lineW (t :: r) = wtn t ++ gaps r := by unfold lineW; rw [gaps_cons]; rfl
theorem gaps_snoc (ts : List Tk) (t : Tk) : gaps (ts ++ [t]) = gaps ts ++ 32 :: wtn t := by simp [gaps]
theorem lineW_snoc {ts : List Tk} (h : ts ≠ []) (t : Tk) : lineW (ts ++ [t]) = (lineW ts ++ [32]) ++ wtn t := by
  obtain ⟨x, r, rfl⟩ := List.exists_cons_of_ne_nil h
  rw [List.cons_append, lineW_cons, lineW_cons, gaps_snoc]
  simp
theorem lineW_one (t : Tk) : lineW [t] = wtn t := by rw [lineW_cons]; simp [gaps]
theorem at0_sh (d : Nat) (t : Tk) : at0 (sh d t) = at0 t := rfl

theorem spelt_read : ∀ (r : List Tk) (t : Tk) (acc : List Tk) (a : Nat), spB t = true → r.all spB = true → acc.length + (r.length + 1) ≤ 300 →
    ∃ us, wds (wtn t ++ gaps r) acc a = .ok (acc ++ us) ∧ us.map at0 = (t :: r).map at0
  | r, t, acc, a, ht, hr, hl => by
    have h1 : wds (wtn t) [] 0 = .ok [at0 t] := by
      have := spB_read ht
      unfold readL at this
      split at this
      · cases this
      · exact this
    obtain ⟨ys, e, _, _, hm⟩ := wds_move _ _ [] 0 _ (Nat.le_refl _) h1
    rw [List.nil_append] at e
    subst e
    have hm2 := hm acc a (by simp; omega)
    rw [Nat.zero_add] at hm2
    cases r with
    | nil =>
      refine ⟨[sh a (at0 t)], ?_, rfl⟩
      have : wtn t ++ gaps [] = wtn t := by simp [gaps]
      rw [this, hm2]; rfl
    | cons u r =>
      rw [List.all_cons, Bool.and_eq_true] at hr
      rw [gaps_cons, wds_sep _ _ _ _ _ _ (Nat.le_refl _) hm2]
      obtain ⟨us, hu1, hu2⟩ := spelt_read r u (acc ++ [at0 t].map (sh a)) (a + (wtn t).length + 1) hr.1 hr.2 (by simp only [List.length_append, List.length_map, List.length_cons, List.length_nil] at hl ⊢; omega)
      refine ⟨[at0 t].map (sh a) ++ us, ?_, ?_⟩
      · rw [hu1, List.append_assoc]
      · rw [List.map_append, hu2]; rfl

/-- What Spell tells. -/
def spellL (ts : List Tk) : Except Int (List UInt8) :=
  if 300 < ts.length then .error 4 else if ts.all spB = true then (if 900 < (lineW ts).length then .error 4 else .ok (lineW ts)) else .error 1
/-- WHAT IS SPELT IS READ. -/
theorem spell_read {ts : List Tk} {l : List UInt8} (h : spellL ts = .ok l) : l.length ≤ 900 ∧ ∃ us, readL l = .ok us ∧ us.map at0 = ts.map at0 := by
  unfold spellL at h
  split at h
  · cases h
  · split at h
    · rename_i h1 h2
      split at h
      · cases h
      · rename_i h3
        injection h with h
        subst h
        refine ⟨by omega, ?_⟩
        unfold readL
        rw [if_neg h3]
        cases ts with
        | nil => exact ⟨[], by rw [show lineW [] = [] from rfl, wds_nil], rfl⟩
        | cons t r =>
          rw [List.all_cons, Bool.and_eq_true] at h2
          obtain ⟨us, e1, e2⟩ := spelt_read r t [] 0 h2.1 h2.2 (by simp only [List.length_cons, List.length_nil] at h1 ⊢; omega)
          rw [lineW_cons]
          exact ⟨us, by rw [e1]; rfl, e2⟩
    · cases h

theorem wds_spB : ∀ (n : Nat) (l : List UInt8) (acc : List Tk) (a : Nat) (xs : List Tk), l.length ≤ n → acc.all spB = true → wds l acc a = .ok xs → xs.all spB = true
  | _, [], acc, a, xs, _, ha, h => by rw [wds_nil] at h; cases h; exact ha
  | 0, c :: r, _, _, _, hn, _, _ => by simp at hn
  | n + 1, c :: r, acc, a, xs, hn, ha, h => by
    simp only [List.length_cons] at hn
    by_cases hb : (c.toNat == 32) = true
    · rw [wds_blank hb] at h
      exact wds_spB n r acc (a + 1) xs (by omega) ha h
    · have hb' : (c.toNat == 32) = false := by simpa using hb
      cases hw : word1 (c :: r) with
      | error e => rw [wds_bad hb' hw] at h; cases h
      | ok x =>
        by_cases hf : 300 ≤ acc.length
        · rw [wds_full hb' hw hf] at h; cases h
        · rw [wds_word hb' hw hf] at h
          refine wds_spB n _ _ _ xs (by simp; omega) ?_ h
          rw [List.all_append, ha]
          obtain ⟨k, t, m⟩ := x
          simp [word1_spB a hw]
/-- WHAT IS READ CAN BE SPELT, if it is not too long. -/
theorem read_spell {l : List UInt8} {us : List Tk} (h : readL l = .ok us) : us.length ≤ 300 ∧ (spellL us = .error 4 ∨ ∃ m, spellL us = .ok m) := by
  unfold readL at h
  split at h
  · cases h
  · have h1 := wds_count h
    have h2 := wds_spB _ l [] 0 us (Nat.le_refl _) rfl h
    refine ⟨h1, ?_⟩
    unfold spellL
    rw [if_neg (by omega), if_pos h2]
    split
    · exact .inl rfl
    · exact .inr ⟨_, rfl⟩
end Go.Proofs.YtpbnjdgedifnoaaGreatDoor
namespace Go.Proofs.YtpbnjdgedifnoaaGreatDoor

theorem cb_cons (x y : UInt8) (l m : List UInt8) : Lib.compareBytes (x :: l) (y :: m) = if x < y then -1 else if y < x then 1 else Lib.compareBytes l m := rfl

theorem cb_range : ∀ (l m : List UInt8), Lib.compareBytes l m = -1 ∨ Lib.compareBytes l m = 0 ∨ Lib.compareBytes l m = 1
  | [], [] => Or.inr (Or.inl rfl)
  | [], _ :: _ => Or.inl rfl
  | _ :: _, [] => Or.inr (Or.inr rfl)
  | x :: l, y :: m => by
    rw [cb_cons]
    by_cases h : x < y
    · rw [if_pos h]; exact Or.inl rfl
    · rw [if_neg h]
      by_cases k : y < x
      · rw [if_pos k]; exact Or.inr (Or.inr rfl)
      · rw [if_neg k]; exact cb_range l m

theorem cb_neg : ∀ (l m : List UInt8), Lib.compareBytes l m = - Lib.compareBytes m l
  | [], [] => rfl
  | [], _ :: _ => rfl
  | _ :: _, [] => rfl
  | x :: l, y :: m => by
    rw [cb_cons, cb_cons]
    by_cases h : x < y
    · have k : ¬ y < x := by rw [UInt8.lt_iff_toNat_lt] at h ⊢; omega
      rw [if_pos h, if_neg k, if_pos h]
    · rw [if_neg h]
      by_cases k : y < x
      · rw [if_pos k, if_pos k]; rfl
      · rw [if_neg k, if_neg k, if_neg h]; exact cb_neg l m

theorem cb_zero : ∀ (l m : List UInt8), Lib.compareBytes l m = 0 ↔ l = m
  | [], [] => ⟨fun _ => rfl, fun _ => rfl⟩
  | [], _ :: _ => ⟨fun h => absurd h (show ¬ (-1 : Int) = 0 by decide), fun h => (List.cons_ne_nil _ _ h.symm).elim⟩
  | _ :: _, [] => ⟨fun h => absurd h (show ¬ (1 : Int) = 0 by decide), fun h => (List.cons_ne_nil _ _ h).elim⟩
  | x :: l, y :: m => by
    rw [cb_cons]
    by_cases h : x < y
    · rw [if_pos h]
      refine ⟨fun e => absurd e (by decide), fun e => ?_⟩
      injection e with e1 _
      subst e1
      rw [UInt8.lt_iff_toNat_lt] at h; omega
    · rw [if_neg h]
      by_cases k : y < x
      · rw [if_pos k]
        refine ⟨fun e => absurd e (by decide), fun e => ?_⟩
        injection e with e1 _
        subst e1
        rw [UInt8.lt_iff_toNat_lt] at k; omega
      · rw [if_neg k]
        have hxy : x = y := by
          rw [UInt8.lt_iff_toNat_lt] at h k
          apply UInt8.toNat_inj.1; omega
        subst hxy
        rw [cb_zero l m]
        exact ⟨fun e => by rw [e], fun e => by injection e⟩

theorem cb_trans : ∀ (l m n : List UInt8), Lib.compareBytes l m ≤ 0 → Lib.compareBytes m n ≤ 0 → Lib.compareBytes l n ≤ 0
  | [], _, [], _, _ => Int.le_refl _
  | [], _, _ :: _, _, _ => (show (-1 : Int) ≤ 0 by decide)
  | _ :: _, [], _, h, _ => absurd h (show ¬ (1 : Int) ≤ 0 by decide)
  | _ :: _, _ :: _, [], _, h => absurd h (show ¬ (1 : Int) ≤ 0 by decide)
  | x :: l, y :: m, z :: n, h1, h2 => by
    rw [cb_cons] at h1 h2 ⊢
    by_cases a1 : x < y
    · by_cases b1 : y < z
      · have c : x < z := by rw [UInt8.lt_iff_toNat_lt] at a1 b1 ⊢; omega
        rw [if_pos c]; decide
      · rw [if_neg b1] at h2
        by_cases b2 : z < y
        · rw [if_pos b2] at h2; exact absurd h2 (by decide)
        · have c : x < z := by rw [UInt8.lt_iff_toNat_lt] at a1 b1 b2 ⊢; omega
          rw [if_pos c]; decide
    · rw [if_neg a1] at h1
      by_cases a2 : y < x
      · rw [if_pos a2] at h1; exact absurd h1 (by decide)
      · rw [if_neg a2] at h1
        by_cases b1 : y < z
        · have c : x < z := by rw [UInt8.lt_iff_toNat_lt] at a1 a2 b1 ⊢; omega
          rw [if_pos c]; decide
        · rw [if_neg b1] at h2
          by_cases b2 : z < y
          · rw [if_pos b2] at h2; exact absurd h2 (by decide)
          · rw [if_neg b2] at h2
            have c1 : ¬ x < z := by rw [UInt8.lt_iff_toNat_lt] at a1 a2 b1 b2 ⊢; omega
            have c2 : ¬ z < x := by rw [UInt8.lt_iff_toNat_lt] at a1 a2 b1 b2 ⊢; omega
            rw [if_neg c1, if_neg c2]
            exact cb_trans l m n h1 h2

/-- The order of two pairs of texts: the first ones, then the second ones. -/
def uc (a b c d : List UInt8) : Int := if Lib.compareBytes a c = 0 then Lib.compareBytes b d else Lib.compareBytes a c

theorem uc_range (a b c d : List UInt8) : uc a b c d = -1 ∨ uc a b c d = 0 ∨ uc a b c d = 1 := by
  unfold uc; split
  · exact cb_range _ _
  · exact cb_range _ _

theorem uc_neg (a b c d : List UInt8) : uc a b c d = - uc c d a b := by
  unfold uc
  have h := cb_neg a c
  by_cases k : Lib.compareBytes a c = 0
  · have k2 : Lib.compareBytes c a = 0 := by omega
    rw [if_pos k, if_pos k2]; exact cb_neg _ _
  · have k2 : ¬ Lib.compareBytes c a = 0 := by omega
    rw [if_neg k, if_neg k2]; exact h

theorem uc_zero (a b c d : List UInt8) : uc a b c d = 0 ↔ a = c ∧ b = d := by
  unfold uc
  by_cases k : Lib.compareBytes a c = 0
  · rw [if_pos k, cb_zero]
    exact ⟨fun h => ⟨(cb_zero _ _).1 k, h⟩, fun h => h.2⟩
  · rw [if_neg k]
    exact ⟨fun h => absurd h k, fun h => absurd ((cb_zero _ _).2 h.1) k⟩

theorem uc_trans (a b c d e f : List UInt8) (h1 : uc a b c d ≤ 0) (h2 : uc c d e f ≤ 0) : uc a b e f ≤ 0 := by
  unfold uc at h1 h2 ⊢
  by_cases k1 : Lib.compareBytes a c = 0
  · rw [if_pos k1] at h1
    have e1 := (cb_zero _ _).1 k1
    subst e1
    by_cases k2 : Lib.compareBytes a e = 0
    · rw [if_pos k2] at h2
      rw [if_pos k2]; exact cb_trans _ _ _ h1 h2
    · rw [if_neg k2] at h2
      rw [if_neg k2]; exact h2
  · rw [if_neg k1] at h1
    by_cases k2 : Lib.compareBytes c e = 0
    · have e2 := (cb_zero _ _).1 k2
      subst e2
      rw [if_neg k1]; exact h1
    · rw [if_neg k2] at h2
      have h3 := cb_trans _ _ _ h1 h2
      by_cases k3 : Lib.compareBytes a e = 0
      · have e3 := (cb_zero _ _).1 k3
        subst e3
        have := cb_neg a c
        omega
      · rw [if_neg k3]; exact h3

/-- One step at place k. -/
theorem cb_step (s t : ByteArray) (k : Nat) (hs : k < s.size) (ht : k < t.size) :
    Lib.compareBytes (s.data.toList.drop k) (t.data.toList.drop k) = if (s[k].toNat : Int) < (t[k].toNat : Int) then -1 else if (t[k].toNat : Int) < (s[k].toNat : Int) then 1 else Lib.compareBytes (s.data.toList.drop (k + 1)) (t.data.toList.drop (k + 1)) := by
  have e1 : s.data.toList.drop k = s[k] :: s.data.toList.drop (k + 1) := by
    rw [List.drop_eq_getElem_cons (by simpa using hs)]; rfl
  have e2 : t.data.toList.drop k = t[k] :: t.data.toList.drop (k + 1) := by
    rw [List.drop_eq_getElem_cons (by simpa using ht)]; rfl
  rw [e1, e2, cb_cons]
  simp only [UInt8.lt_iff_toNat_lt, Int.ofNat_lt]

/-- Where one of them is at its end: by their lengths. -/
theorem cb_end (s t : ByteArray) (k : Nat) (hk : k ≤ s.size) (hk2 : k ≤ t.size) (h : k = s.size ∨ k = t.size) :
    Lib.compareBytes (s.data.toList.drop k) (t.data.toList.drop k) = if s.size < t.size then -1 else if t.size < s.size then 1 else 0 := by
  have ls : s.data.toList.length = s.size := by simp
  have lt : t.data.toList.length = t.size := by simp
  rcases h with h | h
  · rw [List.drop_of_length_le (by omega : s.data.toList.length ≤ k)]
    by_cases q : s.size < t.size
    · rw [if_pos q]
      rw [List.drop_eq_getElem_cons (by omega : k < t.data.toList.length)]; rfl
    · rw [if_neg q, if_neg (by omega), List.drop_of_length_le (by omega : t.data.toList.length ≤ k)]; rfl
  · rw [List.drop_of_length_le (by omega : t.data.toList.length ≤ k)]
    by_cases q : t.size < s.size
    · rw [if_neg (by omega), if_pos q]
      rw [List.drop_eq_getElem_cons (by omega : k < s.data.toList.length)]; rfl
    · rw [if_neg (by omega), if_neg q, List.drop_of_length_le (by omega : s.data.toList.length ≤ k)]; rfl

end Go.Proofs.YtpbnjdgedifnoaaGreatDoor
namespace Go.Proofs.YtpbnjdgedifnoaaGreatDoor

structure Nd where
  op : Int
  n : Int
  s : ByteArray
  t : ByteArray

/-- A way to compare: -1, 0, 1; turned round it is turned; 0 just where they are one; it goes on. -/
structure IsCmp {α : Type} (c : α → α → Int) : Prop where
  range : ∀ x y, c x y = -1 ∨ c x y = 0 ∨ c x y = 1
  neg : ∀ x y, c x y = - c y x
  zero : ∀ x y, c x y = 0 ↔ x = y
  trans : ∀ x y z, c x y ≤ 0 → c y z ≤ 0 → c x z ≤ 0

namespace IsCmp
variable {α β : Type} {c : α → α → Int} {d : β → β → Int}
theorem self (h : IsCmp c) (x : α) : c x x = 0 := (h.zero x x).2 rfl
theorem lt_le (h : IsCmp c) {x y z : α} (h1 : c x y < 0) (h2 : c y z ≤ 0) : c x z < 0 := by
  have h3 := h.trans x y z (by omega) h2
  rcases Int.lt_or_eq_of_le h3 with h4 | h4
  · exact h4
  · obtain rfl := (h.zero x z).1 h4
    have := h.neg x y
    omega
theorem le_lt (h : IsCmp c) {x y z : α} (h1 : c x y ≤ 0) (h2 : c y z < 0) : c x z < 0 := by
  have h3 := h.trans x y z h1 (by omega)
  rcases Int.lt_or_eq_of_le h3 with h4 | h4
  · exact h4
  · obtain rfl := (h.zero x z).1 h4
    have := h.neg x y
    omega

/-- First by the one, then by the other. -/
def both (c : α → α → Int) (d : β → β → Int) (x y : α × β) : Int := if c x.1 y.1 = 0 then d x.2 y.2 else c x.1 y.1

theorem both_is (h : IsCmp c) (k : IsCmp d) : IsCmp (both c d) where
  range x y := by unfold both; split; exact k.range _ _; exact h.range _ _
  neg x y := by
    unfold both
    have := h.neg x.1 y.1
    by_cases e : c x.1 y.1 = 0
    · rw [if_pos e, if_pos (by omega)]; exact k.neg _ _
    · rw [if_neg e, if_neg (by omega)]; exact this
  zero x y := by
    obtain ⟨x1, x2⟩ := x
    obtain ⟨y1, y2⟩ := y
    unfold both
    by_cases e : c x1 y1 = 0
    · simp only [e, if_pos]; rw [k.zero, Prod.mk.injEq]; exact ⟨fun q => ⟨(h.zero _ _).1 e, q⟩, fun q => q.2⟩
    · simp only [e, if_false]; rw [Prod.mk.injEq]; exact ⟨fun q => q.elim, fun q => e ((h.zero _ _).2 q.1)⟩
  trans x y z h1 h2 := by
    obtain ⟨x1, x2⟩ := x
    obtain ⟨y1, y2⟩ := y
    obtain ⟨z1, z2⟩ := z
    unfold both at *
    simp only at *
    by_cases e1 : c x1 y1 = 0
    · obtain rfl := (h.zero _ _).1 e1
      by_cases e2 : c x1 z1 = 0
      · rw [if_pos e1] at h1
        rw [if_pos e2] at h2 ⊢
        exact k.trans _ _ _ h1 h2
      · rw [if_neg e2] at h2 ⊢
        exact h2
    · rw [if_neg e1] at h1
      by_cases e2 : c y1 z1 = 0
      · obtain rfl := (h.zero _ _).1 e2
        rw [if_neg e1]; exact h1
      · rw [if_neg e2] at h2
        have := h.lt_le (x := x1) (y := y1) (z := z1) (by omega) h2
        rw [if_neg (by omega)]; omega

theorem map_is {γ : Type} (h : IsCmp c) (f : γ → α) (hf : ∀ x y, f x = f y → x = y) : IsCmp (fun x y => c (f x) (f y)) where
  range x y := h.range _ _
  neg x y := h.neg _ _
  zero x y := (h.zero _ _).trans ⟨hf x y, fun e => by rw [e]⟩
  trans x y z := h.trans _ _ _

/-- Lists: the first that differs decides, else the shorter one is ahead. -/
def lists (c : α → α → Int) : List α → List α → Int
  | [], [] => 0
  | [], _ :: _ => -1
  | _ :: _, [] => 1
  | x :: l, y :: m => if c x y = 0 then lists c l m else c x y

theorem lists_is (h : IsCmp c) : IsCmp (lists c) where
  range x y := by
    induction x generalizing y with
    | nil => cases y <;> simp [lists]
    | cons a l ih => cases y with
      | nil => simp [lists]
      | cons b m => simp only [lists]; split; exact ih m; exact h.range _ _
  neg x y := by
    induction x generalizing y with
    | nil => cases y <;> simp [lists]
    | cons a l ih => cases y with
      | nil => simp [lists]
      | cons b m =>
        simp only [lists]
        have := h.neg a b
        by_cases e : c a b = 0
        · rw [if_pos e, if_pos (by omega)]; exact ih m
        · rw [if_neg e, if_neg (by omega)]; exact this
  zero x y := by
    induction x generalizing y with
    | nil => cases y <;> simp [lists]
    | cons a l ih => cases y with
      | nil => simp [lists]
      | cons b m =>
        simp only [lists]
        by_cases e : c a b = 0
        · rw [if_pos e, ih m, (h.zero _ _).1 e]; simp
        · rw [if_neg e]
          exact ⟨fun q => (e q).elim, fun q => by injection q with q1 q2; exact (h.zero _ _).2 q1⟩
  trans x y z h1 h2 := by
    induction x generalizing y z with
    | nil => cases z <;> simp [lists]
    | cons a l ih => cases y with
      | nil => simp [lists] at h1
      | cons b m => cases z with
        | nil => simp [lists] at h2
        | cons d n =>
          simp only [lists] at *
          by_cases e1 : c a b = 0
          · obtain rfl := (h.zero _ _).1 e1
            rw [if_pos e1] at h1
            by_cases e2 : c a d = 0
            · rw [if_pos e2] at h2 ⊢; exact ih m n h1 h2
            · rw [if_neg e2] at h2 ⊢; exact h2
          · rw [if_neg e1] at h1
            by_cases e2 : c b d = 0
            · obtain rfl := (h.zero _ _).1 e2
              rw [if_neg e1]; exact h1
            · rw [if_neg e2] at h2
              have := h.lt_le (x := a) (y := b) (z := d) (by omega) h2
              rw [if_neg (by omega)]; omega
end IsCmp

def cmpI (a b : Int) : Int := if a < b then -1 else if b < a then 1 else 0
theorem cmpI_is : IsCmp cmpI where
  range x y := by unfold cmpI; split; simp; split <;> simp
  neg x y := by unfold cmpI; repeat' split <;> omega
  zero x y := by unfold cmpI; constructor <;> intro h <;> (repeat' split at *) <;> omega
  trans x y z h1 h2 := by unfold cmpI at *; repeat' split at * <;> omega

def cmpB (a b : ByteArray) : Int := Lib.compareBytes a.data.toList b.data.toList
theorem bytes_inj {a b : ByteArray} (h : a.data.toList = b.data.toList) : a = b := by
  obtain ⟨⟨a⟩⟩ := a
  obtain ⟨⟨b⟩⟩ := b
  simp at h
  rw [h]
theorem cmpB_is : IsCmp cmpB where
  range x y := cb_range _ _
  neg x y := cb_neg _ _
  zero x y := (cb_zero _ _).trans ⟨bytes_inj, fun h => by rw [h]⟩
  trans x y z := cb_trans _ _ _

/-- The first of the numbers that is not 0. -/
def orI : List Int → Int
  | [] => 0
  | x :: l => if x = 0 then orI l else x

def ndC (x y : Nd) : Int := orI [cmpI x.op y.op, cmpI x.n y.n, cmpB x.s y.s, cmpB x.t y.t]
theorem ndC_is : IsCmp ndC := by
  have h := (cmpI_is.both_is (cmpI_is.both_is (cmpB_is.both_is cmpB_is))).map_is (γ := Nd) (fun x => (x.op, x.n, x.s, x.t)) (fun x y e => by
    obtain ⟨a, b, c, d⟩ := x
    obtain ⟨a', b', c', d'⟩ := y
    simp at e
    simp [e])
  have e : (fun x y : Nd => IsCmp.both cmpI (IsCmp.both cmpI (IsCmp.both cmpB cmpB)) (x.op, x.n, x.s, x.t) (y.op, y.n, y.s, y.t)) = ndC := by
    funext x y
    simp only [ndC, orI, IsCmp.both]
    repeat' split
    all_goals first | rfl | assumption | (symm; assumption)
  rw [← e]; exact h

def lsC : List Nd → List Nd → Int := IsCmp.lists ndC
theorem lsC_is : IsCmp lsC := ndC_is.lists_is

/-- May a node be one of a value? -/
def ndOk (x : Nd) : Bool :=
  if x.op = 1 then x.s.data.toList.isEmpty && x.t.data.toList.isEmpty && (x.n == 0 || x.n == 1)
  else if x.op = 2 then x.s.data.toList.isEmpty && x.t.data.toList.isEmpty
  else if x.op = 3 then x.n == 0 && x.t.data.toList.isEmpty && textOk x.s.data.toList
  else if x.op = 4 then x.n == 0 && nfault x.s.data.toList == 0 && textOk x.t.data.toList
  else if x.op = 5 ∨ x.op = 6 then x.s.data.toList.isEmpty && x.t.data.toList.isEmpty && decide (0 ≤ x.n)
  else if x.op = 7 then x.n == 0 && x.t.data.toList.isEmpty && nfault x.s.data.toList == 0
  else false

def aheadOf (last : Option (List Nd)) (part : List Nd) : Bool :=
  match last with
  | none => true
  | some l => decide (lsC l part < 0)

def setLoop (pv : List Nd → Option (List Nd)) : Nat → Option (List Nd) → List Nd → Option (List Nd)
  | 0, _, v => some v
  | k + 1, last, v =>
    match pv v with
    | none => none
    | some rest => if aheadOf last (v.take (v.length - rest.length)) then setLoop pv k (some (v.take (v.length - rest.length))) rest else none

def recLoop (pv : List Nd → Option (List Nd)) : Nat → ByteArray → List Nd → Option (List Nd)
  | 0, _, v => some v
  | _ + 1, _, [] => none
  | k + 1, last, x :: r =>
    if x.op = 7 ∧ ndOk x = true ∧ cmpB last x.s < 0 then
      match pv r with
      | none => none
      | some rest => recLoop pv k x.s rest
    else none

/-- What stands behind the value that a list begins with; the number bounds how deep it goes. -/
def pastV : Nat → List Nd → Option (List Nd)
  | 0, _ => none
  | _ + 1, [] => none
  | f + 1, x :: r =>
    if x.op ≠ 7 ∧ ndOk x = true then
      if x.op = 5 then setLoop (pastV f) x.n.toNat none r
      else if x.op = 6 then recLoop (pastV f) x.n.toNat ⟨#[]⟩ r
      else some r
    else none

def IsTail (r v : List Nd) : Prop := ∃ a, v = a ++ r
theorem IsTail.refl (v : List Nd) : IsTail v v := ⟨[], rfl⟩
theorem IsTail.trans {a b c : List Nd} (h : IsTail a b) (k : IsTail b c) : IsTail a c := by
  obtain ⟨x, rfl⟩ := h
  obtain ⟨y, rfl⟩ := k
  exact ⟨y ++ x, by simp⟩
theorem IsTail.cons {a b : List Nd} (x : Nd) (h : IsTail a b) : IsTail a (x :: b) := by obtain ⟨y, rfl⟩ := h; exact ⟨x :: y, rfl⟩
theorem IsTail.length {a b : List Nd} (h : IsTail a b) : a.length ≤ b.length := by obtain ⟨y, rfl⟩ := h; simp

theorem setLoop_tail {pv : List Nd → Option (List Nd)} (hp : ∀ v r, pv v = some r → IsTail r v) : ∀ (k : Nat) (last : Option (List Nd)) (v r : List Nd), setLoop pv k last v = some r → IsTail r v
  | 0, last, v, r, h => by simp only [setLoop, Option.some.injEq] at h; subst h; exact IsTail.refl _
  | k + 1, last, v, r, h => by
    simp only [setLoop] at h
    cases e : pv v with
    | none => rw [e] at h; cases h
    | some rest =>
      simp only [e] at h
      split at h
      · exact (setLoop_tail hp k _ rest r h).trans (hp _ _ e)
      · cases h
theorem recLoop_tail {pv : List Nd → Option (List Nd)} (hp : ∀ v r, pv v = some r → IsTail r v) : ∀ (k : Nat) (last : ByteArray) (v r : List Nd), recLoop pv k last v = some r → IsTail r v
  | 0, last, v, r, h => by simp only [recLoop, Option.some.injEq] at h; subst h; exact IsTail.refl _
  | k + 1, last, [], r, h => by simp [recLoop] at h
  | k + 1, last, x :: v, r, h => by
    simp only [recLoop] at h
    split at h
    · cases e : pv v with
      | none => rw [e] at h; cases h
      | some rest =>
        simp only [e] at h
        exact ((recLoop_tail hp k _ rest r h).trans (hp _ _ e)).cons x
    · cases h
theorem pastV_tail : ∀ (f : Nat) (v r : List Nd), pastV f v = some r → ∃ x m, v = x :: m ∧ IsTail r m
  | 0, v, r, h => by simp [pastV] at h
  | f + 1, [], r, h => by simp [pastV] at h
  | f + 1, x :: m, r, h => by
    have hp : ∀ v r, pastV f v = some r → IsTail r v := fun v r e => by
      obtain ⟨x, m, rfl, ht⟩ := pastV_tail f v r e
      exact ht.cons x
    refine ⟨x, m, rfl, ?_⟩
    simp only [pastV] at h
    split at h
    · split at h
      · exact setLoop_tail hp _ _ _ _ h
      · split at h
        · exact recLoop_tail hp _ _ _ _ h
        · simp only [Option.some.injEq] at h; subst h; exact IsTail.refl _
    · cases h
theorem pastV_shorter {f : Nat} {v r : List Nd} (h : pastV f v = some r) : r.length < v.length ∧ IsTail r v := by
  obtain ⟨x, m, rfl, ht⟩ := pastV_tail f v r h
  have := ht.length
  exact ⟨by simp; omega, ht.cons x⟩

/-- Just one value? -/
def isVal (v : List Nd) : Bool :=
  match pastV (v.length + 1) v with
  | some r => r.isEmpty
  | none => false
/-- What Check tells of a list of nodes, by number. -/
def vfault (v : List Nd) : Int := if 200 < v.length then 4 else if isVal v then 0 else 1
end Go.Proofs.YtpbnjdgedifnoaaGreatDoor
namespace Go.Proofs.YtpbnjdgedifnoaaGreatDoor

theorem setLoop_same {pv pw : List Nd → Option (List Nd)} {n : Nat} (h : ∀ u, u.length < n → pv u = pw u) (hs : ∀ u r, pv u = some r → r.length < u.length) :
    ∀ (k : Nat) (last : Option (List Nd)) (u : List Nd), u.length < n → setLoop pv k last u = setLoop pw k last u
  | 0, _, _, _ => rfl
  | k + 1, last, u, hu => by
    simp only [setLoop]
    rw [← h u hu]
    cases e : pv u with
    | none => rfl
    | some rest =>
      simp only []
      split
      · exact setLoop_same h hs k _ rest (by have := hs u rest e; omega)
      · rfl
theorem recLoop_same {pv pw : List Nd → Option (List Nd)} {n : Nat} (h : ∀ u, u.length < n → pv u = pw u) (hs : ∀ u r, pv u = some r → r.length < u.length) :
    ∀ (k : Nat) (last : ByteArray) (u : List Nd), u.length < n → recLoop pv k last u = recLoop pw k last u
  | 0, _, _, _ => rfl
  | _ + 1, _, [], _ => rfl
  | k + 1, last, x :: u, hu => by
    simp only [recLoop]
    rw [← h u (by simp at hu; omega)]
    split
    · cases e : pv u with
      | none => rfl
      | some rest =>
        simp only []
        exact recLoop_same h hs k _ rest (by have := hs u rest e; simp at hu; omega)
    · rfl
theorem pastV_fuel : ∀ (f g : Nat) (u : List Nd), u.length < f → u.length < g → pastV f u = pastV g u
  | 0, _, _, h, _ => absurd h (by omega)
  | _ + 1, 0, _, _, h => absurd h (by omega)
  | _ + 1, _ + 1, [], _, _ => rfl
  | f + 1, g + 1, x :: r, hf, hg => by
    simp only [List.length_cons] at hf hg
    have h : ∀ u : List Nd, u.length < r.length + 1 → pastV f u = pastV g u := fun u hu => pastV_fuel f g u (by omega) (by omega)
    have hs : ∀ u r, pastV f u = some r → r.length < u.length := fun u r e => (pastV_shorter e).1
    simp only [pastV]
    rw [setLoop_same h hs _ _ r (by omega), recLoop_same h hs _ _ r (by omega)]

/-- .. of a value, or of a Field with its value. -/
def pastF (f : Nat) (field : Bool) (u : List Nd) : Option (List Nd) :=
  if field then
    match u with
    | [] => none
    | x :: r => if x.op = 7 ∧ ndOk x = true then pastV f r else none
  else pastV f u

def endI (n : Nat) : Option (List Nd) → Int
  | none => -1
  | some r => (n : Int) - (r.length : Int)

theorem name_ahead {x : Nd} (h7 : x.op = 7) (h : ndOk x = true) : cmpB ⟨#[]⟩ x.s < 0 := by
  unfold ndOk at h
  simp [h7] at h
  have hn := h.2
  unfold cmpB
  cases e : x.s.data.toList with
  | nil => rw [e] at hn; simp [nfault, nm, pre] at hn
  | cons c l => simp [Lib.compareBytes]
end Go.Proofs.YtpbnjdgedifnoaaGreatDoor
namespace Go.Proofs.YtpbnjdgedifnoaaGreatDoor
set_option linter.unusedVariables false

/-- How many parts a node has; below 0: it is none of an expression. -/
def prt (x : Nd) : Int :=
  if x.op = 5 ∨ x.op = 6 then x.n
  else if 1 ≤ x.op ∧ x.op ≤ 4 ∨ x.op = 8 then 0
  else if x.op = 7 ∨ x.op = 9 ∨ x.op = 10 ∨ 21 ≤ x.op ∧ x.op ≤ 24 then 1
  else if x.op = 13 then 3
  else if 11 ≤ x.op ∧ x.op ≤ 20 ∨ 25 ≤ x.op ∧ x.op ≤ 27 then 2
  else -1

/-- A word of the language? -/
def rsv (l : List UInt8) : Bool :=
  l == [105, 102] || l == [116, 104, 101, 110] || l == [101, 108, 115, 101] || l == [116, 114, 117, 101] || l == [102, 97, 108, 115, 101] ||
  l == [105, 110] || l == [104, 97, 115] || l == [108, 105, 107, 101] || l == [105, 115]
/-- May something stand for it: a slot, or a name that is no such word. -/
def varOk (l : List UInt8) : Bool := if l.head? = some 63 then nfault l.tail == 0 else nfault l == 0 && !rsv l

/-- May a node be one of an expression, or a Field? -/
def exOk (x : Nd) : Bool :=
  if 1 ≤ x.op ∧ x.op ≤ 7 then ndOk x
  else if prt x < 0 then false
  else x.n == 0 && x.t.data.toList.isEmpty &&
    (if x.op = 8 then varOk x.s.data.toList
     else if x.op = 21 ∨ x.op = 22 ∨ x.op = 24 then nfault x.s.data.toList == 0
     else if x.op = 23 then textOk x.s.data.toList
     else x.s.data.toList.isEmpty)

/-- Behind so many. -/
def partsE (pv : List Nd → Option (List Nd)) : Nat → List Nd → Option (List Nd)
  | 0, v => some v
  | k + 1, v =>
    match pv v with
    | none => none
    | some r => partsE pv k r

/-- What stands behind the expression that a list begins with; the number bounds how deep it goes. -/
def pastE : Nat → List Nd → Option (List Nd)
  | 0, _ => none
  | _ + 1, [] => none
  | f + 1, x :: r =>
    if x.op ≠ 7 ∧ exOk x = true then
      if x.op = 6 then recLoop (pastE f) x.n.toNat ⟨#[]⟩ r
      else partsE (pastE f) (prt x).toNat r
    else none

theorem partsE_tail {pv : List Nd → Option (List Nd)} (hp : ∀ v r, pv v = some r → IsTail r v) : ∀ (k : Nat) (v r : List Nd), partsE pv k v = some r → IsTail r v
  | 0, v, r, h => by simp only [partsE, Option.some.injEq] at h; subst h; exact IsTail.refl _
  | k + 1, v, r, h => by
    simp only [partsE] at h
    cases e : pv v with
    | none => rw [e] at h; cases h
    | some rest =>
      simp only [e] at h
      exact (partsE_tail hp k rest r h).trans (hp _ _ e)

theorem pastE_cons {f : Nat} {v r : List Nd} (h : pastE f v = some r) : ∃ g x m, f = g + 1 ∧ v = x :: m ∧ x.op ≠ 7 ∧ exOk x = true ∧
    (x.op = 6 ∧ recLoop (pastE g) x.n.toNat ⟨#[]⟩ m = some r ∨ x.op ≠ 6 ∧ partsE (pastE g) (prt x).toNat m = some r) := by
  cases f with
  | zero => simp [pastE] at h
  | succ g =>
    cases v with
    | nil => simp [pastE] at h
    | cons x m =>
      simp only [pastE] at h
      split at h
      · rename_i hx
        refine ⟨g, x, m, rfl, rfl, hx.1, hx.2, ?_⟩
        split at h
        · exact .inl ⟨‹_›, h⟩
        · exact .inr ⟨‹_›, h⟩
      · cases h
theorem pastE_rec {g : Nat} {x : Nd} {m : List Nd} (h7 : x.op ≠ 7) (hx : exOk x = true) (h6 : x.op = 6) : pastE (g + 1) (x :: m) = recLoop (pastE g) x.n.toNat ⟨#[]⟩ m := by
  simp only [pastE]; rw [if_pos ⟨h7, hx⟩, if_pos h6]
theorem pastE_parts {g : Nat} {x : Nd} {m : List Nd} (h7 : x.op ≠ 7) (hx : exOk x = true) (h6 : x.op ≠ 6) : pastE (g + 1) (x :: m) = partsE (pastE g) (prt x).toNat m := by
  simp only [pastE]; rw [if_pos ⟨h7, hx⟩, if_neg h6]
theorem pastE_bad {g : Nat} {x : Nd} {m : List Nd} (h : ¬ (x.op ≠ 7 ∧ exOk x = true)) : pastE g (x :: m) = none := by
  cases g with
  | zero => rfl
  | succ g => simp only [pastE]; rw [if_neg h]
theorem pastE_nil (f : Nat) : pastE f [] = none := by cases f <;> rfl

theorem pastE_tail : ∀ (f : Nat) (v r : List Nd), pastE f v = some r → ∃ x m, v = x :: m ∧ IsTail r m
  | 0, v, r, h => by simp [pastE] at h
  | f + 1, v, r, h => by
    have hp : ∀ v r, pastE f v = some r → IsTail r v := fun v r e => by
      obtain ⟨x, m, rfl, ht⟩ := pastE_tail f v r e
      exact ht.cons x
    obtain ⟨g, x, m, e, rfl, _, _, hr⟩ := pastE_cons h
    obtain rfl : f = g := by omega
    refine ⟨x, m, rfl, ?_⟩
    rcases hr with ⟨_, hr⟩ | ⟨_, hr⟩
    · exact recLoop_tail hp _ _ _ _ hr
    · exact partsE_tail hp _ _ _ hr
theorem pastE_shorter {f : Nat} {v r : List Nd} (h : pastE f v = some r) : r.length < v.length ∧ IsTail r v := by
  obtain ⟨x, m, rfl, ht⟩ := pastE_tail f v r h
  have := ht.length
  exact ⟨by simp; omega, ht.cons x⟩

theorem partsE_same {pv pw : List Nd → Option (List Nd)} {n : Nat} (h : ∀ u, u.length < n → pv u = pw u) (hs : ∀ u r, pv u = some r → r.length < u.length) :
    ∀ (k : Nat) (u : List Nd), u.length < n → partsE pv k u = partsE pw k u
  | 0, _, _ => rfl
  | k + 1, u, hu => by
    simp only [partsE]
    rw [← h u hu]
    cases e : pv u with
    | none => rfl
    | some rest =>
      simp only []
      exact partsE_same h hs k rest (by have := hs u rest e; omega)
theorem pastE_fuel : ∀ (f g : Nat) (u : List Nd), u.length < f → u.length < g → pastE f u = pastE g u
  | 0, _, _, h, _ => absurd h (by omega)
  | _ + 1, 0, _, _, h => absurd h (by omega)
  | _ + 1, _ + 1, [], _, _ => rfl
  | f + 1, g + 1, x :: r, hf, hg => by
    simp only [List.length_cons] at hf hg
    have h : ∀ u : List Nd, u.length < r.length + 1 → pastE f u = pastE g u := fun u hu => pastE_fuel f g u (by omega) (by omega)
    have hs : ∀ u r, pastE f u = some r → r.length < u.length := fun u r e => (pastE_shorter e).1
    simp only [pastE]
    rw [partsE_same h hs _ r (by omega), recLoop_same h hs _ _ r (by omega)]

/-- Just one expression? -/
def isEx (v : List Nd) : Bool :=
  match pastE (v.length + 1) v with
  | some r => r.isEmpty
  | none => false
/-- What Check tells of a list of nodes, by number. -/
def xfault (v : List Nd) : Int := if 200 < v.length then 4 else if isEx v then 0 else 1

theorem isEx_iff (v : List Nd) : isEx v = true ↔ pastE (v.length + 1) v = some [] := by
  unfold isEx
  cases e : pastE (v.length + 1) v with
  | none => simp
  | some r => cases r <;> simp
theorem xfault_long {v : List Nd} (h : 200 < v.length) : xfault v = 4 := if_pos h
theorem xfault_bad {v : List Nd} (h : ¬ 200 < v.length) (h2 : isEx v = false) : xfault v = 1 := by unfold xfault; rw [if_neg h, h2]; rfl
theorem xfault_ok {v : List Nd} (h : ¬ 200 < v.length) (h2 : isEx v = true) : xfault v = 0 := by unfold xfault; rw [if_neg h, h2]; rfl
theorem xfault_zero {v : List Nd} (h : xfault v = 0) : v.length ≤ 200 ∧ pastE (v.length + 1) v = some [] := by
  by_cases h1 : 200 < v.length
  · rw [xfault_long h1] at h; cases h
  · cases h2 : isEx v
    · rw [xfault_bad h1 h2] at h; cases h
    · exact ⟨by omega, (isEx_iff v).1 h2⟩

/-- What holds of each step holds of all of them. -/
theorem partsE_lift {pv pw : List Nd → Option (List Nd)} {φ : List Nd → List Nd} (h : ∀ v r, pv v = some r → pw (φ v) = some (φ r)) :
    ∀ (k : Nat) (v r : List Nd), partsE pv k v = some r → partsE pw k (φ v) = some (φ r)
  | 0, v, r, e => by simp only [partsE, Option.some.injEq] at e ⊢; rw [e]
  | k + 1, v, r, e => by
    simp only [partsE] at e ⊢
    cases e2 : pv v with
    | none => rw [e2] at e; cases e
    | some rest =>
      simp only [e2] at e
      rw [h _ _ e2]
      exact partsE_lift h k rest r e
theorem recLoop_lift {pv pw : List Nd → Option (List Nd)} {φ : List Nd → List Nd} (hc : ∀ x r, x.op = 7 → φ (x :: r) = x :: φ r) (h : ∀ v r, pv v = some r → pw (φ v) = some (φ r)) :
    ∀ (k : Nat) (last : ByteArray) (v r : List Nd), recLoop pv k last v = some r → recLoop pw k last (φ v) = some (φ r)
  | 0, last, v, r, e => by simp only [recLoop, Option.some.injEq] at e ⊢; rw [e]
  | k + 1, last, [], r, e => by simp [recLoop] at e
  | k + 1, last, x :: v, r, e => by
    simp only [recLoop] at e
    split at e
    · rename_i hx
      rw [hc x v hx.1]
      simp only [recLoop]
      rw [if_pos hx]
      cases e2 : pv v with
      | none => rw [e2] at e; cases e
      | some rest =>
        simp only [e2] at e
        rw [h _ _ e2]
        exact recLoop_lift hc h k _ rest r e
    · cases e

theorem pastE_more : ∀ (f : Nat) (v r : List Nd), pastE f v = some r → pastE (f + 1) v = some r
  | 0, v, r, h => by simp [pastE] at h
  | f + 1, v, r, h => by
    obtain ⟨g, x, m, e, rfl, h7, hx, hr⟩ := pastE_cons h
    obtain rfl : f = g := by omega
    rcases hr with ⟨h6, hr⟩ | ⟨h6, hr⟩
    · rw [pastE_rec h7 hx h6]
      exact recLoop_lift (φ := id) (fun _ _ _ => rfl) (pastE_more f) _ _ _ _ hr
    · rw [pastE_parts h7 hx h6]
      exact partsE_lift (φ := id) (pastE_more f) _ _ _ hr
theorem pastE_mono {f g : Nat} {v r : List Nd} (h : pastE f v = some r) (hg : f ≤ g) : pastE g v = some r := by
  obtain ⟨d, rfl⟩ : ∃ d, g = f + d := ⟨g - f, by omega⟩
  clear hg
  induction d with
  | zero => exact h
  | succ d ih => exact pastE_more _ _ _ ih
theorem pastE_any {f g : Nat} {v r : List Nd} (h : pastE f v = some r) (hg : v.length < g) : pastE g v = some r := by
  by_cases hf : f ≤ g
  · exact pastE_mono h hf
  · rw [← pastE_fuel f g v (by omega) hg]; exact h

theorem pastE_append (z : List Nd) : ∀ (f : Nat) (v r : List Nd), pastE f v = some r → pastE f (v ++ z) = some (r ++ z)
  | 0, v, r, h => by simp [pastE] at h
  | f + 1, v, r, h => by
    obtain ⟨g, x, m, e, rfl, h7, hx, hr⟩ := pastE_cons h
    obtain rfl : f = g := by omega
    rw [List.cons_append]
    rcases hr with ⟨h6, hr⟩ | ⟨h6, hr⟩
    · rw [pastE_rec h7 hx h6]
      exact recLoop_lift (φ := (· ++ z)) (fun _ _ _ => rfl) (pastE_append z f) _ _ _ _ hr
    · rw [pastE_parts h7 hx h6]
      exact partsE_lift (φ := (· ++ z)) (pastE_append z f) _ _ _ hr

/-- A Var of that name? -/
def isV (s : ByteArray) (x : Nd) : Bool := x.op == 8 && x.s.data.toList == s.data.toList
theorem isV_iff (s : ByteArray) (x : Nd) : isV s x = true ↔ x.op = 8 ∧ x.s = s := by
  unfold isV
  rw [Bool.and_eq_true, beq_iff_eq, beq_iff_eq]
  exact ⟨fun h => ⟨h.1, bytes_inj h.2⟩, fun h => ⟨h.1, by rw [h.2]⟩⟩
def rep (s : ByteArray) (V : List Nd) (x : Nd) : List Nd := if isV s x then V else [x]
/-- An expression put at the place of each Var of that name. -/
def putE (s : ByteArray) (V : List Nd) (e : List Nd) : List Nd := e.flatMap (rep s V)
def cntV (s : ByteArray) (e : List Nd) : Nat := e.countP (isV s)
theorem putE_nil (s : ByteArray) (V : List Nd) : putE s V [] = [] := rfl
theorem putE_cons (s : ByteArray) (V : List Nd) (x : Nd) (e : List Nd) : putE s V (x :: e) = rep s V x ++ putE s V e := by unfold putE; rw [List.flatMap_cons]
theorem putE_append (s : ByteArray) (V a b : List Nd) : putE s V (a ++ b) = putE s V a ++ putE s V b := by unfold putE; rw [List.flatMap_append]
theorem rep_no {s : ByteArray} {V : List Nd} {x : Nd} (h : isV s x = false) : rep s V x = [x] := by unfold rep; rw [h]; rfl
theorem rep_yes {s : ByteArray} {V : List Nd} {x : Nd} (h : isV s x = true) : rep s V x = V := by unfold rep; rw [h]; rfl
theorem isV_op {s : ByteArray} {x : Nd} (h : x.op ≠ 8) : isV s x = false := by
  cases e : isV s x with
  | false => rfl
  | true => exact absurd ((isV_iff s x).1 e).1 h
theorem putE_length (s : ByteArray) (V e : List Nd) : (putE s V e).length + cntV s e = e.length + cntV s e * V.length := by
  induction e with
  | nil => simp [putE, cntV]
  | cons x e ih =>
    rw [putE_cons, List.length_append]
    unfold cntV at *
    rw [List.countP_cons, List.length_cons]
    cases h : isV s x
    · rw [rep_no h]; simp; omega
    · rw [rep_yes h]; simp [Nat.add_mul]; omega
theorem putE_none {s : ByteArray} {V e : List Nd} (h : ∀ x ∈ e, isV s x = false) : putE s V e = e := by
  induction e with
  | nil => rfl
  | cons x e ih =>
    rw [putE_cons, rep_no (h x (by simp)), ih (fun y hy => h y (by simp [hy]))]; rfl
theorem putE_le (s : ByteArray) (V : List Nd) {a b : List Nd} : (putE s V a).length ≤ (putE s V (a ++ b)).length := by
  rw [putE_append, List.length_append]; omega

/-- With an expression put for a name an expression is one. -/
theorem pastE_put (s : ByteArray) {V : List Nd} {F : Nat} (hV : pastE F V = some []) : ∀ (f : Nat) (v r : List Nd), pastE f v = some r → pastE (f + F) (putE s V v) = some (putE s V r)
  | 0, v, r, h => by simp [pastE] at h
  | f + 1, v, r, h => by
    obtain ⟨g, x, m, e, rfl, h7, hx, hr⟩ := pastE_cons h
    obtain rfl : f = g := by omega
    rw [putE_cons]
    cases hs : isV s x with
    | true =>
      have h8 := ((isV_iff s x).1 hs).1
      rw [rep_yes hs]
      rcases hr with ⟨h6, hr⟩ | ⟨h6, hr⟩
      · omega
      · have : (prt x).toNat = 0 := by unfold prt; rw [if_neg (by omega), if_pos (by omega)]; rfl
        rw [this] at hr
        simp only [partsE, Option.some.injEq] at hr
        subst hr
        exact pastE_mono (pastE_append (putE s V m) F V [] hV) (by omega)
    | false =>
      rw [rep_no hs, show f + 1 + F = (f + F) + 1 by omega]
      rcases hr with ⟨h6, hr⟩ | ⟨h6, hr⟩
      · show pastE (f + F + 1) (x :: putE s V m) = _
        rw [pastE_rec h7 hx h6]
        exact recLoop_lift (fun y r h => by rw [putE_cons, rep_no (isV_op (by omega))]; rfl) (pastE_put s hV f) _ _ _ _ hr
      · show pastE (f + F + 1) (x :: putE s V m) = _
        rw [pastE_parts h7 hx h6]
        exact partsE_lift (pastE_put s hV f) _ _ _ hr
theorem put_isEx {s : ByteArray} {e V : List Nd} (he : xfault e = 0) (hV : xfault V = 0) (hl : (putE s V e).length ≤ 200) : xfault (putE s V e) = 0 := by
  have h1 := (xfault_zero he).2
  have h2 := (xfault_zero hV).2
  have h3 := pastE_put s h2 _ _ _ h1
  exact xfault_ok (by omega) ((isEx_iff _).2 (pastE_any h3 (Nat.lt_succ_self _)))

/-- Each node that was passed is as it may be. -/
theorem partsE_all {pv : List Nd → Option (List Nd)} {q : Nd → Prop} (h : ∀ v r, pv v = some r → ∃ a, v = a ++ r ∧ ∀ x ∈ a, q x) :
    ∀ (k : Nat) (v r : List Nd), partsE pv k v = some r → ∃ a, v = a ++ r ∧ ∀ x ∈ a, q x
  | 0, v, r, e => by simp only [partsE, Option.some.injEq] at e; subst e; exact ⟨[], rfl, fun x hx => by cases hx⟩
  | k + 1, v, r, e => by
    simp only [partsE] at e
    cases e2 : pv v with
    | none => rw [e2] at e; cases e
    | some rest =>
      simp only [e2] at e
      obtain ⟨a, rfl, ha⟩ := h _ _ e2
      obtain ⟨b, rfl, hb⟩ := partsE_all h k rest r e
      exact ⟨a ++ b, by simp, fun x hx => (List.mem_append.1 hx).elim (ha x) (hb x)⟩
theorem recLoop_all {pv : List Nd → Option (List Nd)} {q : Nd → Prop} (h7 : ∀ x, x.op = 7 → ndOk x = true → q x) (h : ∀ v r, pv v = some r → ∃ a, v = a ++ r ∧ ∀ x ∈ a, q x) :
    ∀ (k : Nat) (last : ByteArray) (v r : List Nd), recLoop pv k last v = some r → ∃ a, v = a ++ r ∧ ∀ x ∈ a, q x
  | 0, last, v, r, e => by simp only [recLoop, Option.some.injEq] at e; subst e; exact ⟨[], rfl, fun x hx => by cases hx⟩
  | k + 1, last, [], r, e => by simp [recLoop] at e
  | k + 1, last, y :: v, r, e => by
    simp only [recLoop] at e
    split at e
    · rename_i hy
      cases e2 : pv v with
      | none => rw [e2] at e; cases e
      | some rest =>
        simp only [e2] at e
        obtain ⟨a, rfl, ha⟩ := h _ _ e2
        obtain ⟨b, rfl, hb⟩ := recLoop_all h7 h k _ rest r e
        refine ⟨y :: (a ++ b), by simp, fun x hx => ?_⟩
        rcases List.mem_cons.1 hx with rfl | hx
        · exact h7 _ hy.1 hy.2.1
        · exact (List.mem_append.1 hx).elim (ha x) (hb x)
    · cases e
theorem exOk_field {x : Nd} (h : x.op = 7) (h2 : ndOk x = true) : exOk x = true := by unfold exOk; rw [if_pos (by omega)]; exact h2
theorem pastE_all : ∀ (f : Nat) (v r : List Nd), pastE f v = some r → ∃ a, v = a ++ r ∧ ∀ x ∈ a, exOk x = true
  | 0, v, r, h => by simp [pastE] at h
  | f + 1, v, r, h => by
    obtain ⟨g, x, m, e, rfl, h7, hx, hr⟩ := pastE_cons h
    obtain rfl : f = g := by omega
    have : ∃ a, m = a ++ r ∧ ∀ x ∈ a, exOk x = true := by
      rcases hr with ⟨h6, hr⟩ | ⟨h6, hr⟩
      · exact recLoop_all (fun x => exOk_field) (pastE_all f) _ _ _ _ hr
      · exact partsE_all (pastE_all f) _ _ _ hr
    obtain ⟨a, rfl, ha⟩ := this
    exact ⟨x :: a, rfl, fun y hy => by
      rcases List.mem_cons.1 hy with rfl | hy
      · exact hx
      · exact ha y hy⟩
theorem xfault_all {v : List Nd} (h : xfault v = 0) : ∀ x ∈ v, exOk x = true := by
  obtain ⟨a, e, ha⟩ := pastE_all _ _ _ (xfault_zero h).2
  rw [List.append_nil] at e
  subst e
  exact ha
theorem var_ne {x : Nd} (h : exOk x = true) (h8 : x.op = 8) : x.s.data.toList ≠ [] := by
  intro e
  unfold exOk at h
  rw [if_neg (by omega)] at h
  simp [h8, prt, e, varOk, nfault, nm, pre] at h

/-- Where something other than a Field stands in an expression an expression begins. -/
theorem tail_of_tails {u r v : List Nd} (h1 : IsTail u v) (h2 : IsTail r v) (h : u.length ≤ r.length) : IsTail u r := by
  obtain ⟨a, rfl⟩ := h1
  obtain ⟨b, e⟩ := h2
  have := List.suffix_of_suffix_length_le (l₃ := a ++ u) ⟨a, rfl⟩ ⟨b, e.symm⟩ h
  obtain ⟨c, hc⟩ := this
  exact ⟨c, hc.symm⟩
theorem partsE_at {pv : List Nd → Option (List Nd)} {q : List Nd → Prop} (hs : ∀ v r, pv v = some r → IsTail r v) (h : ∀ v r, pv v = some r → ∀ u, IsTail u v → r.length < u.length → q u) :
    ∀ (k : Nat) (v r : List Nd), partsE pv k v = some r → ∀ u, IsTail u v → r.length < u.length → q u
  | 0, v, r, e, u, hu, hl => by
    simp only [partsE, Option.some.injEq] at e
    subst e
    have := hu.length
    omega
  | k + 1, v, r, e, u, hu, hl => by
    simp only [partsE] at e
    cases e2 : pv v with
    | none => rw [e2] at e; cases e
    | some rest =>
      simp only [e2] at e
      by_cases hlt : rest.length < u.length
      · exact h _ _ e2 u hu hlt
      · exact partsE_at hs h k rest r e u (tail_of_tails hu (hs _ _ e2) (by omega)) hl
theorem recLoop_at {pv : List Nd → Option (List Nd)} {q : List Nd → Prop} (hq : ∀ x r, x.op = 7 → q (x :: r)) (hs : ∀ v r, pv v = some r → IsTail r v) (h : ∀ v r, pv v = some r → ∀ u, IsTail u v → r.length < u.length → q u) :
    ∀ (k : Nat) (last : ByteArray) (v r : List Nd), recLoop pv k last v = some r → ∀ u, IsTail u v → r.length < u.length → q u
  | 0, last, v, r, e, u, hu, hl => by
    simp only [recLoop, Option.some.injEq] at e
    subst e
    have := hu.length
    omega
  | k + 1, last, [], r, e, u, hu, hl => by simp [recLoop] at e
  | k + 1, last, y :: v, r, e, u, hu, hl => by
    simp only [recLoop] at e
    split at e
    · rename_i hy
      cases e2 : pv v with
      | none => rw [e2] at e; cases e
      | some rest =>
        simp only [e2] at e
        by_cases hul : u.length = v.length + 1
        · obtain ⟨a, ha⟩ := hu
          have : a = [] := by
            have hh := congrArg List.length ha
            rw [List.length_append, List.length_cons] at hh
            exact List.eq_nil_of_length_eq_zero (by omega)
          subst this
          rw [List.nil_append] at ha
          subst ha
          exact hq y v hy.1
        · have hu2 : IsTail u v := tail_of_tails hu ⟨[y], rfl⟩ (by have := hu.length; simp at this; omega)
          by_cases hlt : rest.length < u.length
          · exact h _ _ e2 u hu2 hlt
          · exact recLoop_at hq hs h k _ rest r e u (tail_of_tails hu2 (hs _ _ e2) (by omega)) hl
    · cases e
def begins (u : List Nd) : Prop := (∃ x r, u = x :: r ∧ x.op = 7) ∨ ∃ f r, pastE f u = some r
theorem pastE_at : ∀ (f : Nat) (v r : List Nd), pastE f v = some r → ∀ u, IsTail u v → r.length < u.length → begins u
  | 0, v, r, h, u, hu, hl => by simp [pastE] at h
  | f + 1, v, r, h, u, hu, hl => by
    have h0 := h
    obtain ⟨g, x, m, e, rfl, h7, hx, hr⟩ := pastE_cons h
    obtain rfl : f = g := by omega
    by_cases hul : u.length = m.length + 1
    · obtain ⟨a, ha⟩ := hu
      have : a = [] := by
        have hh := congrArg List.length ha
        rw [List.length_append, List.length_cons] at hh
        exact List.eq_nil_of_length_eq_zero (by omega)
      subst this
      rw [List.nil_append] at ha
      subst ha
      exact .inr ⟨_, _, h0⟩
    · have hu2 : IsTail u m := tail_of_tails hu ⟨[x], rfl⟩ (by have := hu.length; simp at this; omega)
      have hs : ∀ v r, pastE f v = some r → IsTail r v := fun v r e => (pastE_shorter e).2
      rcases hr with ⟨h6, hr⟩ | ⟨h6, hr⟩
      · exact recLoop_at (fun x r h => .inl ⟨x, r, rfl, h⟩) hs (pastE_at f) _ _ _ _ hr u hu2 hl
      · exact partsE_at hs (pastE_at f) _ _ _ hr u hu2 hl
theorem ex_at {v : List Nd} (h : xfault v = 0) {k : Nat} (hk : k < v.length) (h7 : v[k].op ≠ 7) : ∃ r, pastE (v.length + 1) (v.drop k) = some r := by
  have hp := (xfault_zero h).2
  have := pastE_at _ _ _ hp (v.drop k) ⟨v.take k, (List.take_append_drop k v).symm⟩ (by simp; omega)
  rcases this with ⟨x, r, e, hx⟩ | ⟨f, r, e⟩
  · rw [List.drop_eq_getElem_cons hk] at e
    injection e with e1 e2
    rw [e1] at h7
    exact absurd hx h7
  · exact ⟨r, pastE_any e (by simp; omega)⟩

/-- A value is an expression, without names. -/
theorem setLoop_parts {pv pw : List Nd → Option (List Nd)} (h : ∀ v r, pv v = some r → pw v = some r) : ∀ (k : Nat) (last : Option (List Nd)) (v r : List Nd), setLoop pv k last v = some r → partsE pw k v = some r
  | 0, last, v, r, e => by simp only [setLoop, Option.some.injEq] at e; simp only [partsE]; rw [e]
  | k + 1, last, v, r, e => by
    simp only [setLoop] at e
    simp only [partsE]
    cases e2 : pv v with
    | none => rw [e2] at e; cases e
    | some rest =>
      simp only [e2] at e
      rw [h _ _ e2]
      split at e
      · exact setLoop_parts h k _ rest r e
      · cases e
theorem ndOk_op {x : Nd} (h : ndOk x = true) : 1 ≤ x.op ∧ x.op ≤ 7 := by
  unfold ndOk at h
  by_cases h1 : x.op = 1; · omega
  by_cases h2 : x.op = 2; · omega
  by_cases h3 : x.op = 3; · omega
  by_cases h4 : x.op = 4; · omega
  by_cases h5 : x.op = 5; · omega
  by_cases h6 : x.op = 6; · omega
  by_cases h7 : x.op = 7; · omega
  simp [h1, h2, h3, h4, h5, h6, h7] at h
theorem exOk_value {x : Nd} (h : ndOk x = true) : exOk x = true := by unfold exOk; rw [if_pos (ndOk_op h)]; exact h
theorem pastV_pastE : ∀ (f : Nat) (v r : List Nd), pastV f v = some r → pastE f v = some r
  | 0, v, r, h => by simp [pastV] at h
  | f + 1, [], r, h => by simp [pastV] at h
  | f + 1, x :: m, r, h => by
    simp only [pastV] at h
    split at h
    · rename_i hx
      have hop := ndOk_op hx.2
      by_cases h5 : x.op = 5
      · rw [if_pos h5] at h
        rw [pastE_parts hx.1 (exOk_value hx.2) (by omega)]
        have : prt x = x.n := by unfold prt; rw [if_pos (.inl h5)]
        rw [this]
        exact setLoop_parts (pastV_pastE f) _ _ _ _ h
      · rw [if_neg h5] at h
        by_cases h6 : x.op = 6
        · rw [if_pos h6] at h
          rw [pastE_rec hx.1 (exOk_value hx.2) h6]
          exact recLoop_lift (φ := id) (fun _ _ _ => rfl) (pastV_pastE f) _ _ _ _ h
        · rw [if_neg h6] at h
          rw [pastE_parts hx.1 (exOk_value hx.2) h6]
          have : (prt x).toNat = 0 := by unfold prt; rw [if_neg (by omega), if_pos (by omega)]; rfl
          rw [this]
          exact h
    · cases h
theorem setLoop_all {pv : List Nd → Option (List Nd)} {q : Nd → Prop} (h : ∀ v r, pv v = some r → ∃ a, v = a ++ r ∧ ∀ x ∈ a, q x) :
    ∀ (k : Nat) (last : Option (List Nd)) (v r : List Nd), setLoop pv k last v = some r → ∃ a, v = a ++ r ∧ ∀ x ∈ a, q x
  | 0, last, v, r, e => by simp only [setLoop, Option.some.injEq] at e; subst e; exact ⟨[], rfl, fun x hx => by cases hx⟩
  | k + 1, last, v, r, e => by
    simp only [setLoop] at e
    cases e2 : pv v with
    | none => rw [e2] at e; cases e
    | some rest =>
      simp only [e2] at e
      split at e
      · obtain ⟨a, e3, ha⟩ := h _ _ e2
        obtain ⟨b, e4, hb⟩ := setLoop_all h k _ rest r e
        refine ⟨a ++ b, by rw [e3, e4]; simp, fun x hx => (List.mem_append.1 hx).elim (ha x) (hb x)⟩
      · cases e
theorem pastV_all : ∀ (f : Nat) (v r : List Nd), pastV f v = some r → ∃ a, v = a ++ r ∧ ∀ x ∈ a, ndOk x = true
  | 0, v, r, h => by simp [pastV] at h
  | f + 1, [], r, h => by simp [pastV] at h
  | f + 1, x :: m, r, h => by
    simp only [pastV] at h
    split at h
    · rename_i hx
      have : ∃ a, m = a ++ r ∧ ∀ x ∈ a, ndOk x = true := by
        split at h
        · exact setLoop_all (pastV_all f) _ _ _ _ h
        · split at h
          · exact recLoop_all (fun x _ h => h) (pastV_all f) _ _ _ _ h
          · simp only [Option.some.injEq] at h; subst h; exact ⟨[], rfl, fun x hx => by cases hx⟩
      obtain ⟨a, rfl, ha⟩ := this
      exact ⟨x :: a, rfl, fun y hy => by
        rcases List.mem_cons.1 hy with rfl | hy
        · exact hx.2
        · exact ha y hy⟩
    · cases h
theorem vfault_zero {v : List Nd} (h : vfault v = 0) : v.length ≤ 200 ∧ pastV (v.length + 1) v = some [] := by
  unfold vfault at h
  split at h
  · cases h
  · split at h
    · rename_i h1 h2
      unfold isVal at h2
      refine ⟨by omega, ?_⟩
      cases e : pastV (v.length + 1) v with
      | none => rw [e] at h2; cases h2
      | some r => rw [e] at h2; cases r with
        | nil => rfl
        | cons y r => cases h2
    · cases h
theorem value_ex {v : List Nd} (h : vfault v = 0) : xfault v = 0 := by
  obtain ⟨h1, h2⟩ := vfault_zero h
  exact xfault_ok (by omega) ((isEx_iff v).2 (pastV_pastE _ _ _ h2))
theorem value_novar {v : List Nd} (h : vfault v = 0) : ∀ x ∈ v, x.op ≠ 8 := by
  obtain ⟨a, e, ha⟩ := pastV_all _ _ _ (vfault_zero h).2
  rw [List.append_nil] at e
  subst e
  intro x hx
  have := ndOk_op (ha x hx)
  omega
end Go.Proofs.YtpbnjdgedifnoaaGreatDoor
namespace Go.Proofs.YtpbnjdgedifnoaaGreatDoor
set_option linter.unusedVariables false

/-- A word's text. -/
def Tk.l (t : Tk) : List UInt8 := t.s.data.toList
def nam (t : Tk) (s : List UInt8) : Bool := t.kind == 1 && t.l == s
def sgn (t : Tk) (s : List UInt8) : Bool := t.kind == 5 && t.l == s
def wIf : List UInt8 := [105, 102]
def wThen : List UInt8 := [116, 104, 101, 110]
def wElse : List UInt8 := [101, 108, 115, 101]
def wTrue : List UInt8 := [116, 114, 117, 101]
def wFalse : List UInt8 := [102, 97, 108, 115, 101]
def wIn : List UInt8 := [105, 110]
def wHas : List UInt8 := [104, 97, 115]
def wLike : List UInt8 := [108, 105, 107, 101]
def wIs : List UInt8 := [105, 115]
def wOne : List UInt8 := [99, 111, 110, 116, 97, 105, 110, 115]
def wAll : List UInt8 := wOne ++ [65, 108, 108]
def wAny : List UInt8 := wOne ++ [65, 110, 121]
/-- The last name there may be. -/
def wLast : List UInt8 := [122, 122, 122, 122, 122, 122, 122, 122, 122, 122, 122, 122, 122, 122, 122, 122, 122, 122, 122, 122]
/-- A comma behind a field of this name: behind the last name there is no other one. -/
def comR (nm : List UInt8) (t : Tk) : Bool := sgn t [44] && !(nm == wLast)
/-- A sign of a rel. -/
def relS (t : Tk) : Bool := sgn t [61, 61] || sgn t [60] || sgn t [60, 61] || nam t wIn
def hasS (t : Tk) : Bool := nam t wHas || nam t wIs
def sumS (t : Tk) : Bool := sgn t [43] || sgn t [45]
def ands (t : Tk) : Bool := sgn t [38, 38]
def ors (t : Tk) : Bool := sgn t [124, 124]

/-- What may stand next, what is open (the last one first), of each whether its rel had its sign, the last name of each record. -/
structure PS where
  want : Nat
  opn : List Nat
  rel : List Bool
  last : List (List UInt8)
def PS.to (s : PS) (w : Nat) : PS := ⟨w, s.opn, s.rel, s.last⟩
def PS.push (s : PS) (o : Nat) : PS := ⟨1, o :: s.opn, false :: s.rel, [] :: s.last⟩
def PS.pop (s : PS) : PS := ⟨3, s.opn.tail, s.rel.tail, s.last.tail⟩
def PS.put (s : PS) (b : Bool) : PS := ⟨s.want, s.opn, b :: s.rel.tail, s.last⟩
def PS.had (s : PS) : Bool := s.rel.headD false

/-- What closes, or goes on around it. -/
def doneO : List Nat → List Bool → List (List UInt8) → Tk → Option PS
  | [], _, _, _ => none
  | top :: o, rel, last, t =>
    if (top == 1 && nam t wThen || top == 2 && nam t wElse) = true then some ⟨1, (top + 1) :: o, false :: rel.tail, [] :: last.tail⟩
    else if (top == 3) = true then doneO o rel.tail last.tail t
    else if (top == 4 && sgn t [41] || top == 5 && sgn t [93] || top == 6 && sgn t [125]) = true then some ⟨3, o, rel.tail, last.tail⟩
    else if (top == 5 && sgn t [44]) = true then some ⟨1, top :: o, false :: rel.tail, last⟩
    else if (top == 6 && comR (last.headD []) t) = true then some ⟨8, top :: o, false :: rel.tail, last⟩
    else none
def PS.done (s : PS) (t : Tk) : Option PS := doneO s.opn s.rel s.last t
def PS.atom (s : PS) (t : Tk) : Option PS :=
  if (t.kind == 2 || t.kind == 3 || t.kind == 4) = true then some (s.to 3)
  else if (t.kind == 1) = true then (if (t.l == wTrue || t.l == wFalse || !rsv t.l) = true then some (s.to 14) else some (s.to 11))
  else if (t.l == [33]) = true then some (s.to 2)
  else if (t.l == [45]) = true then some (s.to 4)
  else if (t.l == [40]) = true then some (s.push 4)
  else if (t.l == [91]) = true then some ((s.push 5).to 12)
  else if (t.l == [123]) = true then some ((s.push 6).to 8)
  else none
def PS.after (s : PS) (t : Tk) : Option PS :=
  if (!(s.want == 10) && sgn t [46]) = true then some (s.to 5)
  else if (!(s.want == 10) && (sumS t || sgn t [42])) = true then some (s.to 2)
  else if (!(s.want == 10) && !s.had && relS t) = true then some ((s.put true).to 2)
  else if (!(s.want == 10) && !s.had && hasS t) = true then some ((s.put true).to 6)
  else if (!(s.want == 10) && !s.had && nam t wLike) = true then some ((s.put true).to 7)
  else if (ands t || ors t) = true then some ((s.put false).to 2)
  else s.done t
def PS.key (s : PS) (t b : Tk) : Option PS :=
  if (sgn t [125] && sgn b [123]) = true then some s.pop
  else if (t.kind == 1 && decide (Lib.compareBytes (s.last.headD []) t.l < 0)) = true then some ⟨9, s.opn, s.rel, t.l :: s.last.tail⟩
  else none
/-- Behind if it is an if, or the type of an entity; this is the step where a whole begins. -/
def PS.whole (s : PS) (t : Tk) : Option PS :=
  if nam t wIf = true then some (s.to 15) else if (s.want == 12 && sgn t [93]) = true then some s.pop else s.atom t
def PS.next (s : PS) (t b : Tk) : Option PS :=
  if (s.want == 1 || s.want == 12) = true then s.whole t
  else if (s.want == 15) = true then (if sgn t [58, 58] = true then some (s.to 7) else (s.push 1).whole t)
  else if (s.want == 2 || s.want == 4) = true then s.atom t
  else if (s.want == 5) = true then (if (t.kind == 1) = true then (if (t.l == wOne || t.l == wAll || t.l == wAny) = true then some (s.to 13) else some (s.to 3)) else none)
  else if (s.want == 13) = true then (if sgn t [40] = true then some (s.push 4) else (s.to 3).after t)
  else if (s.want == 6) = true then (if (t.kind == 1) = true then some (s.to 10) else none)
  else if (s.want == 7) = true then (if (t.kind == 3) = true then (if sgn b [58, 58] = true then some (s.to 3) else some (s.to 10)) else none)
  else if (s.want == 11 || s.want == 14) = true then (if sgn t [58, 58] = true then some (s.to 7) else if (s.want == 11) = true then none else (s.to 3).after t)
  else if (s.want == 8) = true then s.key t b
  else if (s.want == 9) = true then (if sgn t [58] = true then some (s.to 1) else none)
  else s.after t

/-- A number that is none of 64 bits. -/
def great (t : Tk) (minus : Bool) : Bool :=
  t.l.length == 19 && decide (0 < Lib.compareBytes t.l (if minus then [57, 50, 50, 51, 51, 55, 50, 48, 51, 54, 56, 53, 52, 55, 55, 53, 56, 48, 56] else [57, 50, 50, 51, 51, 55, 50, 48, 51, 54, 56, 53, 52, 55, 55, 53, 56, 48, 55]))
/-- What may stand at the end. -/
def PS.fin (s : PS) : Bool := (s.want == 3 || s.want == 10 || s.want == 14 || s.want == 13) && s.opn.all (· == 3)
/-- How many words are left where it halts, that one too, and the error's number; none: it does not. -/
def acc : PS → Tk → List Tk → Option (Nat × Int)
  | s, _, [] => if s.fin = true then none else some (0, 1)
  | s, b, t :: r =>
    match s.next t b with
    | none => some (r.length + 1, 1)
    | some s' => if (t.kind == 2 && great t (s.want == 4)) = true then some (r.length + 1, 5) else acc s' t r
/-- A word has one of the five kinds. -/
def kOk (t : Tk) : Bool := t.kind == 1 || t.kind == 2 || t.kind == 3 || t.kind == 4 || t.kind == 5

/-- One step, and what follows. -/
def stp (o : Option PS) (g : Bool) (t : Tk) (r : List Tk) : Option (Nat × Int) :=
  match o with
  | none => some (r.length + 1, 1)
  | some s' => if g = true then some (r.length + 1, 5) else acc s' t r
/-- Where something begins that is no if. -/
def accB (s : PS) (mn : Bool) : List Tk → Option (Nat × Int)
  | [] => some (0, 1)
  | t :: r => stp (s.atom t) (t.kind == 2 && great t mn) t r
/-- At the end. -/
def accE (s : PS) : Option (Nat × Int) := if (s.opn.all (· == 3)) = true then none else some (0, 1)
/-- Behind an operand. -/
def accA (s : PS) : List Tk → Option (Nat × Int)
  | [] => accE s
  | t :: r => stp ((s.to 3).after t) false t r
/-- Behind a rel. -/
def accR (s : PS) : List Tk → Option (Nat × Int)
  | [] => accE s
  | t :: r => stp (if (ands t || ors t) = true then some ((s.put false).to 2) else s.done t) false t r
/-- Behind a whole. -/
def accW (s : PS) : List Tk → Option (Nat × Int)
  | [] => accE s
  | t :: r => stp (s.done t) false t r
end Go.Proofs.YtpbnjdgedifnoaaGreatDoor
namespace Go.Proofs.YtpbnjdgedifnoaaGreatDoor
set_option linter.unusedVariables false

def mkN (op n : Int) (s t : List UInt8) : Nd := ⟨op, n, ⟨s.toArray⟩, ⟨t.toArray⟩⟩
def opN (op : Int) : Nd := mkN op 0 [] []
/-- The number of digits. -/
def digV (l : List UInt8) : Int := l.foldl (fun n c => n * 10 + ((c.toNat : Int) - 48)) 0
def numN (t : Tk) (minus : Bool) : Nd := mkN 2 (if minus then - digV t.l else digV t.l) [] []
/-- The op of a sign between. -/
def opOf (t : Tk) : Int :=
  if t.l == [124, 124] then 12 else if t.l == [38, 38] then 11 else if t.l == [61, 61] then 14 else if t.l == [60] then 15 else if t.l == [60, 61] then 16
  else if t.l == wIn then 20 else if t.l == [43] then 17 else if t.l == [45] then 18 else 19
/-- Is it a sign of this level? -/
def lvlS (lvl : Nat) (t : Tk) : Bool :=
  if lvl = 1 then ors t else if lvl = 2 then ands t else if lvl = 4 then sumS t else sgn t [42]
def isCall (t : Tk) : Bool := t.l == wOne || t.l == wAll || t.l == wAny
def callOp (t : Tk) : Int := if t.l == wAll then 26 else if t.l == wAny then 27 else 25
/-- Does this sign stand first? -/
def nextS (l : List Tk) (s : List UInt8) : Bool := match l with | [] => false | t :: _ => sgn t s
def nextNum (l : List Tk) : Bool := match l with | [] => false | t :: _ => t.kind == 2

/-- One behind the other. -/
def andR (a : Option (Except (Nat × Int) (List Nd × List Tk))) (f : List Nd → List Tk → Option (Except (Nat × Int) (List Nd × List Tk))) : Option (Except (Nat × Int) (List Nd × List Tk)) :=
  match a with
  | none => none
  | some (.error e) => some (.error e)
  | some (.ok x) => f x.1 x.2
/-- A word that must be there. -/
def must (p : Tk → Bool) (l : List Tk) (f : Tk → List Tk → Option (Except (Nat × Int) (List Nd × List Tk))) : Option (Except (Nat × Int) (List Nd × List Tk)) :=
  match l with
  | [] => some (.error (0, 1))
  | t :: r => if p t = true then f t r else some (.error (r.length + 1, 1))

mutual
/-- The form of a level that words begin with: 0 whole, 1 either, 2 both, 3 rel, 4 sum, 5 prod, 6 sign, 7 post, 8 atom; and what stands behind it. -/
def pE : Nat → Nat → List Tk → Option (Except (Nat × Int) (List Nd × List Tk))
  | 0, _, _ => none
  | n + 1, lvl, l =>
    if lvl = 0 then
      match l with
      | [] => pE n 1 []
      | t :: r =>
        if (nam t wIf && !nextS r [58, 58]) = true then
          andR (pE n 0 r) fun a r1 => must (fun u => nam u wThen) r1 fun _ r2 => andR (pE n 0 r2) fun b r3 => must (fun u => nam u wElse) r3 fun _ r4 =>
            andR (pE n 0 r4) fun c r5 => some (.ok (opN 13 :: (a ++ (b ++ c)), r5))
        else pE n 1 (t :: r)
    else if lvl = 1 ∨ lvl = 2 ∨ lvl = 4 ∨ lvl = 5 then andR (pE n (lvl + 1) l) fun a r => pL n lvl a r
    else if lvl = 3 then
      andR (pE n 4 l) fun a r =>
        match r with
        | [] => some (.ok (a, []))
        | t :: r1 =>
          if relS t = true then andR (pE n 4 r1) fun b r2 => some (.ok (opN (opOf t) :: (a ++ b), r2))
          else if hasS t = true then must (fun u => u.kind == 1) r1 fun u r2 => some (.ok (mkN (if nam t wHas = true then 21 else 24) 0 u.l [] :: a, r2))
          else if nam t wLike = true then must (fun u => u.kind == 3) r1 fun u r2 => some (.ok (mkN 23 0 u.l [] :: a, r2))
          else some (.ok (a, t :: r1))
    else if lvl = 6 then
      match l with
      | [] => pE n 7 []
      | t :: r =>
        if sgn t [33] = true then andR (pE n 6 r) fun a r1 => some (.ok (opN 9 :: a, r1))
        else if (sgn t [45] && !nextNum r) = true then andR (pE n 6 r) fun a r1 => some (.ok (opN 10 :: a, r1))
        else pE n 7 (t :: r)
    else if lvl = 7 then andR (pE n 8 l) fun a r => pP n a r
    else
      match l with
      | [] => some (.error (0, 1))
      | t :: r =>
        if (t.kind == 2) = true then (if great t false = true then some (.error (r.length + 1, 5)) else some (.ok ([numN t false], r)))
        else if (t.kind == 3) = true then some (.ok ([mkN 3 0 t.l []], r))
        else if (t.kind == 4) = true then some (.ok ([mkN 8 0 (63 :: t.l) []], r))
        else if (t.kind == 1) = true then
          (if nextS r [58, 58] = true then must (fun u => u.kind == 3) r.tail fun u r2 => some (.ok ([mkN 4 0 t.l u.l], r2))
           else if (t.l == wTrue) = true then some (.ok ([mkN 1 1 [] []], r))
           else if (t.l == wFalse) = true then some (.ok ([mkN 1 0 [] []], r))
           else if rsv t.l = true then some (.error (r.length, 1))
           else some (.ok ([mkN 8 0 t.l []], r)))
        else if (t.l == [45]) = true then must (fun u => u.kind == 2) r fun u r2 => (if great u true = true then some (.error (r2.length + 1, 5)) else some (.ok ([numN u true], r2)))
        else if (t.l == [40]) = true then andR (pE n 0 r) fun a r1 => must (fun u => sgn u [41]) r1 fun _ r2 => some (.ok (a, r2))
        else if (t.l == [91]) = true then (if nextS r [93] = true then some (.ok ([mkN 5 0 [] []], r.tail)) else pS n 0 [] r)
        else if (t.l == [123]) = true then (if nextS r [125] = true then some (.ok ([mkN 6 0 [] []], r.tail)) else pK n 0 [] [] r)
        else some (.error (r.length + 1, 1))
/-- More of a level, from the left. -/
def pL : Nat → Nat → List Nd → List Tk → Option (Except (Nat × Int) (List Nd × List Tk))
  | 0, _, _, _ => none
  | n + 1, lvl, a, l =>
    match l with
    | [] => some (.ok (a, []))
    | t :: r => if lvlS lvl t = true then andR (pE n (lvl + 1) r) fun b r1 => pL n lvl (opN (opOf t) :: (a ++ b)) r1 else some (.ok (a, t :: r))
/-- More of a post. -/
def pP : Nat → List Nd → List Tk → Option (Except (Nat × Int) (List Nd × List Tk))
  | 0, _, _ => none
  | n + 1, a, l =>
    match l with
    | [] => some (.ok (a, []))
    | t :: r =>
      if sgn t [46] = true then must (fun u => u.kind == 1) r fun u r1 =>
        (if (isCall u && nextS r1 [40]) = true then andR (pE n 0 r1.tail) fun b r2 => must (fun v => sgn v [41]) r2 fun _ r3 => pP n (opN (callOp u) :: (a ++ b)) r3
         else pP n (mkN 22 0 u.l [] :: a) r1)
      else some (.ok (a, t :: r))
/-- The parts of a set, behind so many. -/
def pS : Nat → Nat → List Nd → List Tk → Option (Except (Nat × Int) (List Nd × List Tk))
  | 0, _, _, _ => none
  | n + 1, k, acc, l =>
    andR (pE n 0 l) fun a r =>
      match r with
      | [] => some (.error (0, 1))
      | t :: r1 => if sgn t [93] = true then some (.ok (mkN 5 ((k : Int) + 1) [] [] :: (acc ++ a), r1)) else if sgn t [44] = true then pS n (k + 1) (acc ++ a) r1 else some (.error (r1.length + 1, 1))
/-- The fields of a record, behind so many, the last name of them. -/
def pK : Nat → Nat → List UInt8 → List Nd → List Tk → Option (Except (Nat × Int) (List Nd × List Tk))
  | 0, _, _, _, _ => none
  | n + 1, k, last, acc, l =>
    must (fun u => u.kind == 1 && decide (Lib.compareBytes last u.l < 0)) l fun u r0 => must (fun v => sgn v [58]) r0 fun _ r1 =>
      andR (pE n 0 r1) fun a r =>
        match r with
        | [] => some (.error (0, 1))
        | t :: r2 => if sgn t [125] = true then some (.ok (mkN 6 ((k : Int) + 1) [] [] :: (acc ++ (mkN 7 0 u.l [] :: a)), r2)) else if comR u.l t = true then pK n (k + 1) u.l (acc ++ (mkN 7 0 u.l [] :: a)) r2 else some (.error (r2.length + 1, 1))
end
end Go.Proofs.YtpbnjdgedifnoaaGreatDoor
namespace Go.Proofs.YtpbnjdgedifnoaaGreatDoor
set_option linter.unusedVariables false

def AllK (l : List Tk) : Prop := ∀ t ∈ l, kOk t = true
theorem AllK.tail {t : Tk} {r : List Tk} (h : AllK (t :: r)) : AllK r := fun u hu => h u (List.mem_cons_of_mem _ hu)
theorem AllK.head {t : Tk} {r : List Tk} (h : AllK (t :: r)) : kOk t = true := h t List.mem_cons_self

theorem sgn_kind {t : Tk} {a : List UInt8} (h : sgn t a = true) : t.kind = 5 ∧ t.l = a := by
  unfold sgn at h; rw [Bool.and_eq_true] at h; exact ⟨by simpa using h.1, by simpa using h.2⟩
theorem nam_kind {t : Tk} {a : List UInt8} (h : nam t a = true) : t.kind = 1 ∧ t.l = a := by
  unfold nam at h; rw [Bool.and_eq_true] at h; exact ⟨by simpa using h.1, by simpa using h.2⟩
theorem sgn_off {t : Tk} (h : t.kind ≠ 5) (a : List UInt8) : sgn t a = false := by
  unfold sgn; have : (t.kind == 5) = false := by simpa using h
  rw [this]; rfl
theorem nam_off {t : Tk} (h : t.kind ≠ 1) (a : List UInt8) : nam t a = false := by
  unfold nam; have : (t.kind == 1) = false := by simpa using h
  rw [this]; rfl
theorem sgn_ne {t : Tk} {a b : List UInt8} (h : sgn t a = true) (hab : a ≠ b) : sgn t b = false := by
  obtain ⟨_, h2⟩ := sgn_kind h
  unfold sgn; have : (t.l == b) = false := by rw [h2]; simpa using hab
  rw [this]; simp
theorem nam_ne {t : Tk} {a b : List UInt8} (h : nam t a = true) (hab : a ≠ b) : nam t b = false := by
  obtain ⟨_, h2⟩ := nam_kind h
  unfold nam; have : (t.l == b) = false := by rw [h2]; simpa using hab
  rw [this]; simp
theorem nam_sgn {t : Tk} {a : List UInt8} (h : nam t a = true) (b : List UInt8) : sgn t b = false := sgn_off (by rw [(nam_kind h).1]; decide) b
theorem sgn_nam {t : Tk} {a : List UInt8} (h : sgn t a = true) (b : List UInt8) : nam t b = false := nam_off (by rw [(sgn_kind h).1]; decide) b

theorem doneO_put (o : List Nat) (b : Bool) (rel : List Bool) (last : List (List UInt8)) (t : Tk) : doneO o (b :: rel.tail) last t = doneO o rel last t := by
  cases o with
  | nil => rfl
  | cons top o => simp only [doneO, List.tail_cons]
theorem done_put (s : PS) (b : Bool) (t : Tk) : (s.put b).done t = s.done t := doneO_put _ _ _ _ _
theorem done_to (s : PS) (w : Nat) (t : Tk) : (s.to w).done t = s.done t := rfl
theorem doneO_kind : ∀ (o : List Nat) (rel : List Bool) (last : List (List UInt8)) (t : Tk), t.kind = 2 → doneO o rel last t = none
  | [], _, _, _, _ => rfl
  | top :: o, rel, last, t, h => by
    have h1 : ∀ a, sgn t a = false := sgn_off (by rw [h]; decide)
    have h2 : ∀ a, nam t a = false := nam_off (by rw [h]; decide)
    simp only [doneO, comR, h1, h2, Bool.false_and, Bool.and_false, Bool.or_false, Bool.false_eq_true, if_false]
    split
    · exact doneO_kind o _ _ t h
    · rfl
theorem done_kind {s s' : PS} {t : Tk} (h : s.done t = some s') : (t.kind == 2) = false := by
  cases e : (t.kind == 2) with
  | false => rfl
  | true => unfold PS.done at h; rw [doneO_kind _ _ _ _ (by simpa using e)] at h; cases h
theorem after_kind {s s' : PS} {t : Tk} (h : s.after t = some s') : (t.kind == 2) = false := by
  cases e : (t.kind == 2) with
  | false => rfl
  | true =>
    have h5 : t.kind = 2 := by simpa using e
    have h1 : ∀ a, sgn t a = false := sgn_off (by rw [h5]; decide)
    have h2 : ∀ a, nam t a = false := nam_off (by rw [h5]; decide)
    unfold PS.after sumS relS hasS ands ors PS.done at h
    simp only [h1, h2, Bool.or_false, Bool.and_false, Bool.false_eq_true, if_false, doneO_kind _ _ _ _ h5] at h
    cases h

theorem acc_nil (s : PS) (b : Tk) : acc s b [] = if s.fin = true then none else some (0, 1) := rfl
theorem acc_cons (s : PS) (b t : Tk) (r : List Tk) : acc s b (t :: r) = stp (s.next t b) (t.kind == 2 && great t (s.want == 4)) t r := rfl
theorem accB_cons (s : PS) (mn : Bool) (t : Tk) (r : List Tk) : accB s mn (t :: r) = stp (s.atom t) (t.kind == 2 && great t mn) t r := rfl
theorem accA_cons (s : PS) (t : Tk) (r : List Tk) : accA s (t :: r) = stp ((s.to 3).after t) false t r := rfl
theorem accW_cons (s : PS) (t : Tk) (r : List Tk) : accW s (t :: r) = stp (s.done t) false t r := rfl
theorem accR_cons (s : PS) (t : Tk) (r : List Tk) : accR s (t :: r) = stp (if (ands t || ors t) = true then some ((s.put false).to 2) else s.done t) false t r := rfl
theorem stp_off {o : Option PS} {g : Bool} {t : Tk} {r : List Tk} (h : ∀ s', o = some s' → g = false) : stp o g t r = stp o false t r := by
  cases o with
  | none => rfl
  | some s' => rw [h s' rfl]
theorem stp_some (s' : PS) (t : Tk) (r : List Tk) : stp (some s') false t r = acc s' t r := rfl
theorem stp_none (g : Bool) (t : Tk) (r : List Tk) : stp none g t r = some (r.length + 1, 1) := rfl
theorem off_kind {t : Tk} {x : Bool} (h : (t.kind == 2) = false) : (t.kind == 2 && x) = false := by rw [h]; rfl

theorem acc_two (s : PS) (b : Tk) (l : List Tk) : acc (s.to 2) b l = accB s false l := by
  cases l with
  | nil => rfl
  | cons t r => rfl
theorem acc_four (s : PS) (b : Tk) (l : List Tk) (h : nextNum l = false) : acc (s.to 4) b l = accB s false l := by
  cases l with
  | nil => rfl
  | cons t r =>
    have hk : (t.kind == 2) = false := h
    rw [acc_cons, accB_cons, off_kind hk, off_kind hk]
    rfl
theorem acc_three (s : PS) (b : Tk) (l : List Tk) : acc (s.to 3) b l = accA s l := by
  cases l with
  | nil => rw [acc_nil]; unfold accA accE PS.fin; simp [PS.to]
  | cons t r =>
    rw [acc_cons, accA_cons]
    exact stp_off (o := (s.to 3).after t) (fun s' h => off_kind (after_kind h))
theorem acc_name (s : PS) (b : Tk) (l : List Tk) (h : nextS l [58, 58] = false) : acc (s.to 14) b l = accA s l := by
  cases l with
  | nil => rw [acc_nil]; unfold accA accE PS.fin; simp [PS.to]
  | cons t r =>
    have hs : sgn t [58, 58] = false := h
    rw [acc_cons, accA_cons]
    have e : (s.to 14).next t b = (s.to 3).after t := by
      show (if sgn t [58, 58] = true then _ else _) = _
      rw [hs]; rfl
    rw [e]
    exact stp_off (fun s' h => off_kind (after_kind h))
theorem acc_open (s : PS) (b : Tk) (l : List Tk) (h : nextS l [40] = false) : acc (s.to 13) b l = accA s l := by
  cases l with
  | nil => rw [acc_nil]; unfold accA accE PS.fin; simp [PS.to]
  | cons t r =>
    have hs : sgn t [40] = false := h
    rw [acc_cons, accA_cons]
    have e : (s.to 13).next t b = (s.to 3).after t := by
      show (if sgn t [40] = true then _ else _) = _
      rw [hs]; rfl
    rw [e]
    exact stp_off (fun s' h => off_kind (after_kind h))
theorem after_ten (s : PS) (t : Tk) : (s.to 10).after t = if (ands t || ors t) = true then some ((s.put false).to 2) else s.done t := by
  unfold PS.after
  have e : ((s.to 10).want == 10) = true := rfl
  simp only [e, Bool.not_true, Bool.false_and, Bool.false_eq_true, if_false]
  rfl
theorem acc_ten (s : PS) (b : Tk) (l : List Tk) : acc (s.to 10) b l = accR s l := by
  cases l with
  | nil => rw [acc_nil]; unfold accR accE PS.fin; simp [PS.to]
  | cons t r =>
    rw [acc_cons, accR_cons, ← after_ten]
    exact stp_off (o := (s.to 10).after t) (fun s' h => off_kind (after_kind h))
theorem whole_plain (s : PS) (w : Nat) (t : Tk) (h : (w == 12 && sgn t [93]) = false) : (s.to w).whole t = if nam t wIf = true then some (s.to 15) else s.atom t := by
  unfold PS.whole
  have e : ((s.to w).want == 12 && sgn t [93]) = false := h
  rw [e]; rfl
theorem acc_first (s : PS) (b : Tk) (l : List Tk) (h : nextS l [93] = false) : acc (s.to 12) b l = acc (s.to 1) b l := by
  cases l with
  | nil => rfl
  | cons t r =>
    have hs : sgn t [93] = false := h
    rw [acc_cons, acc_cons]
    have e1 : (s.to 12).next t b = (s.to 12).whole t := rfl
    have e2 : (s.to 1).next t b = (s.to 1).whole t := rfl
    rw [e1, e2, whole_plain _ _ _ (by rw [hs]; rfl), whole_plain _ _ _ (by rw [hs]; rfl)]
    rfl
theorem acc_if (s : PS) (b c : Tk) (l : List Tk) (h : nextS l [58, 58] = false) : acc (s.to 15) b l = acc (s.push 1) c l := by
  cases l with
  | nil => rfl
  | cons t r =>
    have hs : sgn t [58, 58] = false := h
    rw [acc_cons, acc_cons]
    have e : (s.to 15).next t b = (s.push 1).next t c := by
      show (if sgn t [58, 58] = true then _ else _) = _
      rw [hs]; rfl
    rw [e]
    rfl

theorem put_put (s : PS) (a b : Bool) : (s.put a).put b = s.put b := rfl
theorem accR_put (s : PS) (b : Bool) (l : List Tk) : accR (s.put b) l = accR s l := by
  cases l with
  | nil => rfl
  | cons t r => rw [accR_cons, accR_cons, done_put, put_put]
theorem accW_put (s : PS) (b : Bool) (l : List Tk) : accW (s.put b) l = accW s l := by
  cases l with
  | nil => rfl
  | cons t r => rw [accW_cons, accW_cons, done_put]

/-- Behind operands no sign of these stands. -/
def stopA (t : Tk) : Bool := sgn t [46] || sumS t || sgn t [42]
theorem after_three (s : PS) (t : Tk) (h : stopA t = false) : (s.to 3).after t =
    if (!s.had && relS t) = true then some ((s.put true).to 2) else if (!s.had && hasS t) = true then some ((s.put true).to 6) else if (!s.had && nam t wLike) = true then some ((s.put true).to 7)
    else if (ands t || ors t) = true then some ((s.put false).to 2) else s.done t := by
  unfold stopA at h
  simp only [Bool.or_eq_false_iff] at h
  unfold PS.after
  have e : ((s.to 3).want == 10) = false := rfl
  simp only [e, h.1.1, h.1.2, h.2, Bool.not_false, Bool.true_and, Bool.or_false, Bool.false_eq_true, if_false]
  rfl

/-- What the parser comes to, held against what is read: from X on, and behind it as Y has it; at the next word stop does not hold. -/
def SimR (X : Option (Nat × Int)) (Y : List Tk → Option (Nat × Int)) (stop : Tk → Bool) (R : Option (Except (Nat × Int) (List Nd × List Tk))) : Prop :=
  (∀ e, R = some (.error e) → X = some e) ∧ ∀ x, R = some (.ok x) → X = Y x.2 ∧ (∀ t r, x.2 = t :: r → stop t = false) ∧ AllK x.2
theorem SimR.none {X : Option (Nat × Int)} {Y : List Tk → Option (Nat × Int)} {stop : Tk → Bool} : SimR X Y stop none := ⟨fun _ h => (by cases h), fun _ h => (by cases h)⟩
theorem SimR.err {X : Option (Nat × Int)} {Y : List Tk → Option (Nat × Int)} {stop : Tk → Bool} {e : Nat × Int} (h : X = some e) : SimR X Y stop (some (.error e)) :=
  ⟨fun e' he => by injection he with he; injection he with he; rw [← he]; exact h, fun _ h => (by cases h)⟩
theorem SimR.ok {X : Option (Nat × Int)} {Y : List Tk → Option (Nat × Int)} {stop : Tk → Bool} {a : List Nd} {r : List Tk} (h : X = Y r) (hs : ∀ t r', r = t :: r' → stop t = false) (hk : AllK r) : SimR X Y stop (some (.ok (a, r))) :=
  ⟨fun _ h => (by cases h), fun x hx => by injection hx with hx; injection hx with hx; subst hx; exact ⟨h, hs, hk⟩⟩
theorem SimR.and {X : Option (Nat × Int)} {Y Y' : List Tk → Option (Nat × Int)} {stop stop' : Tk → Bool} {A : Option (Except (Nat × Int) (List Nd × List Tk))} {f : List Nd → List Tk → Option (Except (Nat × Int) (List Nd × List Tk))}
    (hA : SimR X Y stop A) (hf : ∀ a r, (∀ t r', r = t :: r' → stop t = false) → AllK r → SimR (Y r) Y' stop' (f a r)) : SimR X Y' stop' (andR A f) := by
  unfold andR
  match A, hA with
  | Option.none, _ => exact SimR.none
  | some (.error e), hA => exact SimR.err (hA.1 e rfl)
  | some (.ok x), hA =>
    obtain ⟨h1, h2, h3⟩ := hA.2 x rfl
    rw [h1]
    exact hf x.1 x.2 h2 h3
theorem SimR.need {X : Option (Nat × Int)} {Y : List Tk → Option (Nat × Int)} {stop : Tk → Bool} {p : Tk → Bool} {l : List Tk} {f : Tk → List Tk → Option (Except (Nat × Int) (List Nd × List Tk))}
    (h0 : l = [] → X = some (0, 1)) (h1 : ∀ t r, l = t :: r → p t = false → X = some (r.length + 1, 1)) (h2 : ∀ t r, l = t :: r → p t = true → SimR X Y stop (f t r)) : SimR X Y stop (must p l f) := by
  unfold must
  cases l with
  | nil => exact SimR.err (h0 rfl)
  | cons t r =>
    cases hp : p t with
    | true => simp only [hp, if_true]; exact h2 t r rfl hp
    | false => simp only [hp, Bool.false_eq_true, if_false]; exact SimR.err (h1 t r rfl hp)
theorem SimR.eqX {X X' : Option (Nat × Int)} {Y : List Tk → Option (Nat × Int)} {stop : Tk → Bool} {R : Option (Except (Nat × Int) (List Nd × List Tk))} (h : X = X') (k : SimR X' Y stop R) : SimR X Y stop R := by rw [h]; exact k
theorem SimR.eqY {X : Option (Nat × Int)} {Y Y' : List Tk → Option (Nat × Int)} {stop stop' : Tk → Bool} {R : Option (Except (Nat × Int) (List Nd × List Tk))}
    (h : ∀ r, (∀ t r', r = t :: r' → stop t = false) → Y r = Y' r ∧ ∀ t r', r = t :: r' → stop' t = false) (k : SimR X Y stop R) : SimR X Y' stop' R :=
  ⟨k.1, fun x hx => by obtain ⟨h1, h2, h3⟩ := k.2 x hx; obtain ⟨g1, g2⟩ := h x.2 h2; exact ⟨h1.trans g1, g2, h3⟩⟩

/-- Where an operand that is no sign begins. -/
def noSign (l : List Tk) : Prop := ∀ t r, l = t :: r → sgn t [33] = false ∧ (sgn t [45] = true → nextNum r = true)
def st8 : Tk → Bool := fun _ => false
def st7 : Tk → Bool := fun t => sgn t [46]
def st5 : Tk → Bool := fun t => sgn t [46] || sgn t [42]
def st2 : Tk → Bool := fun t => ands t
def st1 : Tk → Bool := fun t => ands t || ors t

/-- What is shown of all words with so much fuel. -/
structure Sim (n : Nat) : Prop where
  whole : ∀ s b l, AllK l → s.had = false → SimR (acc (s.to 1) b l) (accW s) st8 (pE n 0 l)
  either : ∀ s l, AllK l → s.had = false → SimR (accB s false l) (accW s) st8 (pE n 1 l)
  both : ∀ s l, AllK l → s.had = false → SimR (accB s false l) (accR s) st2 (pE n 2 l)
  rel : ∀ s l, AllK l → s.had = false → SimR (accB s false l) (accR s) st8 (pE n 3 l)
  sum : ∀ s l, AllK l → SimR (accB s false l) (accA s) stopA (pE n 4 l)
  prod : ∀ s l, AllK l → SimR (accB s false l) (accA s) st5 (pE n 5 l)
  sign : ∀ s l, AllK l → SimR (accB s false l) (accA s) st7 (pE n 6 l)
  post : ∀ s l, AllK l → noSign l → SimR (accB s false l) (accA s) st7 (pE n 7 l)
  atom : ∀ s l, AllK l → noSign l → SimR (accB s false l) (accA s) st8 (pE n 8 l)
  ors1 : ∀ s a l, AllK l → (∀ t r, l = t :: r → st2 t = false) → SimR (accR s l) (accW s) st8 (pL n 1 a l)
  ands2 : ∀ s a l, AllK l → SimR (accR s l) (accR s) st2 (pL n 2 a l)
  sums4 : ∀ s a l, AllK l → (∀ t r, l = t :: r → st5 t = false) → SimR (accA s l) (accA s) stopA (pL n 4 a l)
  prods5 : ∀ s a l, AllK l → (∀ t r, l = t :: r → st7 t = false) → SimR (accA s l) (accA s) st5 (pL n 5 a l)
  posts : ∀ s a l, AllK l → SimR (accA s l) (accA s) st7 (pP n a l)
  sets : ∀ s b k a l, AllK l → SimR (acc ((s.push 5).to 1) b l) (accA s) st8 (pS n k a l)
  keys : ∀ s b k nm a l, AllK l → (∀ t r, l = t :: r → (sgn t [125] && sgn b [123]) = false) → SimR (acc ⟨8, 6 :: s.opn, false :: s.rel, nm :: s.last⟩ b l) (accA s) st8 (pK n k nm a l)

theorem sim_zero : Sim 0 := by
  constructor <;> intros <;> (first | rw [pE] | rw [pL] | rw [pP] | rw [pS] | rw [pK]) <;> exact SimR.none
theorem put_had (s : PS) (b : Bool) : (s.put b).had = b := rfl
theorem push_had (s : PS) (o : Nat) : (s.push o).had = false := rfl
theorem push_to (s : PS) (o : Nat) : (s.push o).to 1 = s.push o := rfl

theorem pL_nil (n lvl : Nat) (a : List Nd) : pL (n + 1) lvl a [] = some (.ok (a, [])) := by rw [pL.eq_def]
theorem sim_either {n : Nat} (h : Sim n) (s : PS) (l : List Tk) (hk : AllK l) (hh : s.had = false) : SimR (accB s false l) (accW s) st8 (pE (n + 1) 1 l) := by
  have e : pE (n + 1) 1 l = andR (pE n 2 l) fun a r => pL n 1 a r := by rw [pE.eq_def]; rfl
  rw [e]
  exact SimR.and (h.both s l hk hh) fun a r h1 h2 => h.ors1 s a r h2 h1
theorem sim_both {n : Nat} (h : Sim n) (s : PS) (l : List Tk) (hk : AllK l) (hh : s.had = false) : SimR (accB s false l) (accR s) st2 (pE (n + 1) 2 l) := by
  have e : pE (n + 1) 2 l = andR (pE n 3 l) fun a r => pL n 2 a r := by rw [pE.eq_def]; rfl
  rw [e]
  exact SimR.and (h.rel s l hk hh) fun a r h1 h2 => h.ands2 s a r h2
theorem sim_sum {n : Nat} (h : Sim n) (s : PS) (l : List Tk) (hk : AllK l) : SimR (accB s false l) (accA s) stopA (pE (n + 1) 4 l) := by
  have e : pE (n + 1) 4 l = andR (pE n 5 l) fun a r => pL n 4 a r := by rw [pE.eq_def]; rfl
  rw [e]
  exact SimR.and (h.prod s l hk) fun a r h1 h2 => h.sums4 s a r h2 h1
theorem sim_prod {n : Nat} (h : Sim n) (s : PS) (l : List Tk) (hk : AllK l) : SimR (accB s false l) (accA s) st5 (pE (n + 1) 5 l) := by
  have e : pE (n + 1) 5 l = andR (pE n 6 l) fun a r => pL n 5 a r := by rw [pE.eq_def]; rfl
  rw [e]
  exact SimR.and (h.sign s l hk) fun a r h1 h2 => h.prods5 s a r h2 h1
theorem sim_post {n : Nat} (h : Sim n) (s : PS) (l : List Tk) (hk : AllK l) (hn : noSign l) : SimR (accB s false l) (accA s) st7 (pE (n + 1) 7 l) := by
  have e : pE (n + 1) 7 l = andR (pE n 8 l) fun a r => pP n a r := by rw [pE.eq_def]; rfl
  rw [e]
  exact SimR.and (h.atom s l hk hn) fun a r h1 h2 => h.posts s a r h2

theorem sim_ors1 {n : Nat} (h : Sim n) (s : PS) (a : List Nd) (l : List Tk) (hk : AllK l) (hs : ∀ t r, l = t :: r → st2 t = false) : SimR (accR s l) (accW s) st8 (pL (n + 1) 1 a l) := by
  cases l with
  | nil => rw [pL_nil]; exact SimR.ok rfl (fun t r' h => by cases h) hk
  | cons t r =>
    have ha : ands t = false := hs t r rfl
    cases ho : ors t with
    | true =>
      have e : pL (n + 1) 1 a (t :: r) = andR (pE n 2 r) fun b r1 => pL n 1 (opN (opOf t) :: (a ++ b)) r1 := by rw [pL.eq_def]; simp only [lvlS, ho, if_true]
      rw [e]
      refine SimR.eqX ?_ (SimR.and (h.both (s.put false) r hk.tail rfl) fun b r1 h1 h2 => ?_)
      · rw [accR_cons, ho, Bool.or_true, if_pos rfl, stp_some, acc_two]
      · rw [accR_put]
        exact h.ors1 s _ r1 h2 h1
    | false =>
      have e : pL (n + 1) 1 a (t :: r) = some (.ok (a, t :: r)) := by rw [pL.eq_def]; simp only [lvlS, ho, if_true, Bool.false_eq_true, if_false]
      rw [e]
      refine SimR.ok ?_ (fun _ _ _ => rfl) hk
      rw [accR_cons, accW_cons, ha, ho]
      rfl
theorem sim_ands2 {n : Nat} (h : Sim n) (s : PS) (a : List Nd) (l : List Tk) (hk : AllK l) : SimR (accR s l) (accR s) st2 (pL (n + 1) 2 a l) := by
  cases l with
  | nil => rw [pL_nil]; exact SimR.ok rfl (fun t r' h => by cases h) hk
  | cons t r =>
    cases ho : ands t with
    | true =>
      have e : pL (n + 1) 2 a (t :: r) = andR (pE n 3 r) fun b r1 => pL n 2 (opN (opOf t) :: (a ++ b)) r1 := by rw [pL.eq_def]; simp [lvlS, ho]
      rw [e]
      refine SimR.eqX ?_ (SimR.and (h.rel (s.put false) r hk.tail rfl) fun b r1 h1 h2 => ?_)
      · rw [accR_cons, ho, Bool.true_or, if_pos rfl, stp_some, acc_two]
      · rw [accR_put]
        exact h.ands2 s _ r1 h2
    | false =>
      have e : pL (n + 1) 2 a (t :: r) = some (.ok (a, t :: r)) := by rw [pL.eq_def]; simp [lvlS, ho]
      rw [e]
      exact SimR.ok rfl (fun t' r' h' => by injection h' with h1 _; rw [← h1]; exact ho) hk
theorem sim_sums4 {n : Nat} (h : Sim n) (s : PS) (a : List Nd) (l : List Tk) (hk : AllK l) (hs : ∀ t r, l = t :: r → st5 t = false) : SimR (accA s l) (accA s) stopA (pL (n + 1) 4 a l) := by
  cases l with
  | nil => rw [pL_nil]; exact SimR.ok rfl (fun t r' h => by cases h) hk
  | cons t r =>
    have h5 := hs t r rfl
    unfold st5 at h5
    rw [Bool.or_eq_false_iff] at h5
    cases ho : sumS t with
    | true =>
      have e : pL (n + 1) 4 a (t :: r) = andR (pE n 5 r) fun b r1 => pL n 4 (opN (opOf t) :: (a ++ b)) r1 := by rw [pL.eq_def]; simp [lvlS, ho]
      rw [e]
      refine SimR.eqX ?_ (SimR.and (h.prod s r hk.tail) fun b r1 h1 h2 => h.sums4 s _ r1 h2 h1)
      have e2 : (s.to 3).after t = some (s.to 2) := by
        unfold PS.after
        have e3 : ((s.to 3).want == 10) = false := rfl
        rw [e3, h5.1, ho]; rfl
      rw [accA_cons, e2, stp_some, acc_two]
    | false =>
      have e : pL (n + 1) 4 a (t :: r) = some (.ok (a, t :: r)) := by rw [pL.eq_def]; simp [lvlS, ho]
      rw [e]
      exact SimR.ok rfl (fun t' r' h' => by injection h' with h1 _; rw [← h1]; unfold stopA; rw [h5.1, h5.2, ho]; rfl) hk
theorem sim_prods5 {n : Nat} (h : Sim n) (s : PS) (a : List Nd) (l : List Tk) (hk : AllK l) (hs : ∀ t r, l = t :: r → st7 t = false) : SimR (accA s l) (accA s) st5 (pL (n + 1) 5 a l) := by
  cases l with
  | nil => rw [pL_nil]; exact SimR.ok rfl (fun t r' h => by cases h) hk
  | cons t r =>
    have h7 : sgn t [46] = false := hs t r rfl
    cases ho : sgn t [42] with
    | true =>
      have e : pL (n + 1) 5 a (t :: r) = andR (pE n 6 r) fun b r1 => pL n 5 (opN (opOf t) :: (a ++ b)) r1 := by rw [pL.eq_def]; simp [lvlS, ho]
      rw [e]
      refine SimR.eqX ?_ (SimR.and (h.sign s r hk.tail) fun b r1 h1 h2 => h.prods5 s _ r1 h2 h1)
      have e2 : (s.to 3).after t = some (s.to 2) := by
        unfold PS.after
        have e3 : ((s.to 3).want == 10) = false := rfl
        rw [e3, h7, ho, Bool.or_true]; rfl
      rw [accA_cons, e2, stp_some, acc_two]
    | false =>
      have e : pL (n + 1) 5 a (t :: r) = some (.ok (a, t :: r)) := by rw [pL.eq_def]; simp [lvlS, ho]
      rw [e]
      exact SimR.ok rfl (fun t' r' h' => by injection h' with h1 _; rw [← h1]; unfold st5; rw [h7, ho]; rfl) hk
end Go.Proofs.YtpbnjdgedifnoaaGreatDoor
