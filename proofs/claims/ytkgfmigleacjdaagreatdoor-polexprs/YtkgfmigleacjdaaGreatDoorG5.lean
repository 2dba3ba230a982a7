/- Entities as data: what is wrong with a store, who is above whom. No program is named here. Policies as data: what is wrong with one, and its expression. No program is named here. -/
import Derived.Test.YtkgfmigleacjdaaGreatDoorG3
import Derived.Test.YtkgfmigleacjdaaGreatDoorG2
import Derived.Below
namespace Go.Proofs.YtkgfmigleacjdaaGreatDoor
set_option linter.unusedVariables false

structure Ui where
  t : ByteArray
  i : ByteArray

theorem Ui.ext' {a b : Ui} (h1 : a.t = b.t) (h2 : a.i = b.i) : a = b := by cases a; cases b; simp_all
instance : DecidableEq Ui := fun a b =>
  if h1 : a.t = b.t then
    if h2 : a.i = b.i then isTrue (Ui.ext' h1 h2) else isFalse (fun e => h2 (by rw [e]))
  else isFalse (fun e => h1 (by rw [e]))

structure En where
  u : Ui
  up : List Ui
  nd : List Nd

instance : Inhabited Ui := ⟨⟨⟨#[]⟩, ⟨#[]⟩⟩⟩
instance : Inhabited En := ⟨⟨default, [], []⟩⟩
/-- The order of uids. -/
def uC (a b : Ui) : Int := uc a.t.data.toList a.i.data.toList b.t.data.toList b.i.data.toList
theorem uC_is : IsCmp uC where
  range a b := uc_range _ _ _ _
  neg a b := uc_neg _ _ _ _
  zero a b := by
    unfold uC
    rw [uc_zero]
    exact ⟨fun h => Ui.ext' (bytes_inj h.1) (bytes_inj h.2), fun h => by rw [h]; exact ⟨rfl, rfl⟩⟩
  trans a b c := uc_trans _ _ _ _ _ _

/-- What is wrong with a uid. -/
def uf (u : Ui) : Int := ufault u.t.data.toList u.i.data.toList
def UOk (u : Ui) : Prop := u.t.size ≤ maxLen ∧ u.i.size ≤ maxLen
theorem uf_ok {u : Ui} (h : uf u = 0) : UOk u := by
  have := ufault_small h
  simp at this
  unfold UOk maxLen; omega

/-- The first one that may not be, or is there already. -/
def upf (seen : List Ui) : List Ui → Int
  | [] => 0
  | x :: r => if uf x = 0 then (if x ∈ seen then 6 else upf (seen ++ [x]) r) else uf x
/-- What is wrong with a record. -/
def afault (l : List Nd) : Int := if vfault l = 0 then (match l with | x :: _ => if x.op = 6 then 0 else 2 | [] => 0) else vfault l
/-- What is wrong with those right above. -/
def ffup (l : List Ui) : Int := if 6 < l.length then 4 else upf [] l
def efault (e : En) : Int := if ffup e.up = 0 then afault e.nd else ffup e.up
def lfault (seen : List Ui) : List En → Int
  | [] => 0
  | e :: r => if uf e.u = 0 then (if e.u ∈ seen then 6 else if efault e = 0 then lfault (seen ++ [e.u]) r else efault e) else uf e.u

/-- Those right above one: of what is not in the store, none. -/
def upsOf (es : List En) (u : Ui) : List Ui := match es.find? (fun e => decide (e.u = u)) with | some e => e.up | none => []
inductive Abv (es : List En) : Ui → Ui → Prop
  | one {a b : Ui} : b ∈ upsOf es a → Abv es a b
  | more {a b c : Ui} : b ∈ upsOf es a → Abv es b c → Abv es a c
def Cyc (es : List En) : Prop := ∃ e ∈ es, Abv es e.u e.u
open Classical in
noncomputable def stf (es : List En) : Int := if 16 < es.length then 4 else if lfault [] es = 0 then (if Cyc es then 7 else 0) else lfault [] es

theorem Abv.trans {es : List En} {a b c : Ui} (h : Abv es a b) (k : Abv es b c) : Abv es a c := by
  induction h with
  | one h => exact .more h k
  | more h _ ih => exact .more h (ih k)
theorem upsOf_mem {es : List En} {a b : Ui} (h : b ∈ upsOf es a) : ∃ e ∈ es, e.u = a ∧ e.up = upsOf es a := by
  unfold upsOf at h ⊢
  cases hf : es.find? (fun e => decide (e.u = a)) with
  | none => rw [hf] at h; cases h
  | some e => exact ⟨e, List.mem_of_find?_eq_some hf, by simpa using List.find?_some hf, rfl⟩
theorem Abv.from {es : List En} {a b : Ui} (h : Abv es a b) : ∃ e ∈ es, e.u = a := by
  cases h with
  | one h => obtain ⟨e, h1, h2, _⟩ := upsOf_mem h; exact ⟨e, h1, h2⟩
  | more h _ => obtain ⟨e, h1, h2, _⟩ := upsOf_mem h; exact ⟨e, h1, h2⟩
theorem Abv.steps {es : List En} {a b : Ui} : Abv es a b ↔ ∃ x ∈ upsOf es a, x = b ∨ Abv es x b := by
  constructor
  · intro h
    cases h with
    | one h => exact ⟨b, h, .inl rfl⟩
    | more h k => exact ⟨_, h, .inr k⟩
  · rintro ⟨x, hx, rfl | h⟩
    · exact .one hx
    · exact .more hx h
/-- Nobody is above itself: so two that are above each other are none. -/
theorem abv_anti {es : List En} (hc : ¬ Cyc es) {a b : Ui} (h : Abv es a b) (k : Abv es b a) : False := by
  obtain ⟨e, he, rfl⟩ := h.from
  exact hc ⟨e, he, h.trans k⟩

/-- What a set that is closed holds. -/
theorem abv_closed {es : List En} {a : Ui} {L : List Ui} (h0 : ∀ x ∈ upsOf es a, x ∈ L) (hc : ∀ v ∈ L, ∀ x ∈ upsOf es v, x ∈ L) {b : Ui} (h : Abv es a b) : b ∈ L := by
  induction h with
  | one h => exact h0 _ h
  | more h _ ih => exact ih (hc _ (h0 _ h))

/-- Uids that are all different. -/
def Uniq (es : List En) : Prop := es.Pairwise (fun a b => a.u ≠ b.u)
theorem upsOf_of_mem {es : List En} (hu : Uniq es) {e : En} (he : e ∈ es) : upsOf es e.u = e.up := by
  induction es with
  | nil => cases he
  | cons x r ih =>
    obtain ⟨h1, h2⟩ := List.pairwise_cons.1 hu
    rcases List.mem_cons.1 he with rfl | hr
    · simp [upsOf]
    · have hne : ¬ x.u = e.u := h1 e hr
      have := ih h2 hr
      unfold upsOf at this ⊢
      rw [List.find?_cons_of_neg (by simpa using hne)]
      exact this
theorem upsOf_none {es : List En} {u : Ui} (h : ∀ e ∈ es, e.u ≠ u) : upsOf es u = [] := by
  unfold upsOf
  rw [List.find?_eq_none.2 (fun e he => by simpa using h e he)]

theorem upf_zero : ∀ (seen l : List Ui), upf seen l = 0 → ∀ x ∈ l, uf x = 0
  | _, [], _, x, hx => by cases hx
  | seen, y :: r, h, x, hx => by
    unfold upf at h
    by_cases h1 : uf y = 0
    · rw [if_pos h1] at h
      by_cases h2 : y ∈ seen
      · rw [if_pos h2] at h; cases h
      · rw [if_neg h2] at h
        rcases List.mem_cons.1 hx with rfl | hx
        · exact h1
        · exact upf_zero _ r h x hx
    · rw [if_neg h1] at h; exact absurd h h1
theorem ffup_zero {l : List Ui} (h : ffup l = 0) : l.length ≤ 6 ∧ ∀ x ∈ l, uf x = 0 := by
  unfold ffup at h
  by_cases h1 : 6 < l.length
  · rw [if_pos h1] at h; cases h
  · rw [if_neg h1] at h; exact ⟨by omega, upf_zero _ _ h⟩
theorem efault_zero {e : En} (h : efault e = 0) : ffup e.up = 0 ∧ afault e.nd = 0 := by
  unfold efault at h
  by_cases h1 : ffup e.up = 0
  · rw [if_pos h1] at h; exact ⟨h1, h⟩
  · rw [if_neg h1] at h; exact absurd h h1
theorem lfault_zero : ∀ (seen : List Ui) (es : List En), lfault seen es = 0 → (∀ e ∈ es, uf e.u = 0 ∧ e.u ∉ seen ∧ efault e = 0) ∧ Uniq es
  | _, [], _ => ⟨fun e he => by (cases he), List.Pairwise.nil⟩
  | seen, x :: r, h => by
    unfold lfault at h
    by_cases h1 : uf x.u = 0
    · rw [if_pos h1] at h
      by_cases h2 : x.u ∈ seen
      · rw [if_pos h2] at h; cases h
      · rw [if_neg h2] at h
        by_cases h3 : efault x = 0
        · rw [if_pos h3] at h
          obtain ⟨i1, i2⟩ := lfault_zero (seen ++ [x.u]) r h
          refine ⟨fun e he => ?_, List.pairwise_cons.2 ⟨fun e he q => (i1 e he).2.1 (by simp [q]), i2⟩⟩
          rcases List.mem_cons.1 he with rfl | he
          · exact ⟨h1, h2, h3⟩
          · obtain ⟨j1, j2, j3⟩ := i1 e he
            exact ⟨j1, fun q => j2 (by simp [q]), j3⟩
        · rw [if_neg h3] at h; exact absurd h h3
    · rw [if_neg h1] at h; exact absurd h h1
/-- A store that may be. -/
structure Good (es : List En) : Prop where
  few : es.length ≤ 16
  uniq : Uniq es
  uids : ∀ e ∈ es, uf e.u = 0
  ups : ∀ e ∈ es, e.up.length ≤ 6 ∧ ∀ x ∈ e.up, uf x = 0
  cyc : ¬ Cyc es
theorem stf_zero {es : List En} (h : stf es = 0) : Good es := by
  unfold stf at h
  by_cases h1 : 16 < es.length
  · rw [if_pos h1] at h; cases h
  · rw [if_neg h1] at h
    by_cases h2 : lfault [] es = 0
    · rw [if_pos h2] at h
      by_cases h3 : Cyc es
      · rw [if_pos h3] at h; cases h
      · obtain ⟨i1, i2⟩ := lfault_zero _ _ h2
        exact ⟨by omega, i2, fun e he => (i1 e he).1, fun e he => ffup_zero (efault_zero (i1 e he).2.2).1, h3⟩
    · rw [if_neg h2] at h; exact absurd h h2
/-- One is the other, or below it. -/
def Inn (es : List En) (a b : Ui) : Prop := a = b ∨ Abv es a b

/-- With one more below, all others have those above them that they had. -/
theorem abv_leaf {es : List En} {x : En} (hx : ∀ e ∈ es, e.u ≠ x.u) (hn : ∀ e ∈ es, x.u ∉ e.up) {a : Ui} (ha : a ≠ x.u) {b : Ui} : Abv (es ++ [x]) a b ↔ Abv es a b := by
  have hups : ∀ a, a ≠ x.u → upsOf (es ++ [x]) a = upsOf es a := by
    intro a ha
    unfold upsOf
    rw [List.find?_append]
    cases hf : es.find? (fun e => decide (e.u = a)) with
    | some e => rfl
    | none => simp [Ne.symm ha]
  have hne : ∀ a y, y ∈ upsOf es a → y ≠ x.u := by
    intro a y hy e
    obtain ⟨e', h1, _, h3⟩ := upsOf_mem hy
    exact hn e' h1 (by rw [h3, ← e]; exact hy)
  constructor
  · intro h
    induction h with
    | one h => rw [hups _ ha] at h; exact .one h
    | more h _ ih => rw [hups _ ha] at h; exact .more h (ih (hne _ _ h))
  · intro h
    induction h with
    | one h => exact .one (by rw [hups _ ha]; exact h)
    | more h _ ih => exact .more (by rw [hups _ ha]; exact h) (ih (hne _ _ h))
end Go.Proofs.YtkgfmigleacjdaaGreatDoor
namespace Go.Proofs.YtkgfmigleacjdaaGreatDoor
set_option linter.unusedVariables false

/-- A scope: its kind, a type, a uid. -/
structure Sco where
  op : Int
  ty : ByteArray
  u : Ui
structure Cnd where
  un : Bool
  ex : List Nd
structure Po where
  nm : ByteArray
  fb : Bool
  who : Sco
  act : Sco
  what : Sco
  cs : List Cnd
def eB : ByteArray := ⟨#[]⟩
def eU : Ui := ⟨eB, eB⟩
/-- A name, by its bytes. -/
def okN (s : ByteArray) : Bool := nfault s.data.toList == 0
def okU (u : Ui) : Bool := uf u == 0
/-- May it be a scope, of a side that has a slot or none? -/
def scOk (slot : Bool) (s : Sco) : Bool :=
  if s.op = 0 then decide (s.ty = eB) && decide (s.u = eU)
  else if s.op = 1 ∨ s.op = 2 then decide (s.ty = eB) && okU s.u
  else if s.op = 3 then okN s.ty && decide (s.u = eU)
  else if s.op = 4 then okN s.ty && okU s.u
  else if s.op = 5 ∨ s.op = 6 then slot && (decide (s.ty = eB) && decide (s.u = eU))
  else false
/-- A slot. -/
def isQ (s : ByteArray) : Bool := decide (s.data.toList.head? = some 63)
def cdf (c : Cnd) : Int := if xfault c.ex = 0 then (if (nms c.ex).any isQ then 1 else 0) else xfault c.ex
def csf : List Cnd → Int
  | [] => 0
  | c :: r => if cdf c = 0 then csf r else cdf c
/-- What is wrong with a policy. -/
def pof (p : Po) : Int :=
  if nfault p.nm.data.toList = 0 then
    (if scOk true p.who && scOk false p.act && scOk true p.what then (if 4 < p.cs.length then 4 else csf p.cs) else 1)
  else nfault p.nm.data.toList
theorem nfault_ne {l : List UInt8} : nfault l = 0 ∨ nfault l = 1 ∨ nfault l = 4 := by
  unfold nfault
  split
  · split
    · exact .inr (.inr rfl)
    · exact .inl rfl
  · exact .inr (.inl rfl)
theorem csf_zero : ∀ {l : List Cnd}, csf l = 0 → ∀ c ∈ l, cdf c = 0
  | [], _, c, h => by cases h
  | d :: r, h0, c, h => by
    unfold csf at h0
    by_cases hd : cdf d = 0
    · rw [if_pos hd] at h0
      rcases List.mem_cons.1 h with rfl | h
      · exact hd
      · exact csf_zero h0 c h
    · rw [if_neg hd] at h0; exact absurd h0 hd
theorem csf_ok : ∀ {l : List Cnd}, (∀ c ∈ l, cdf c = 0) → csf l = 0
  | [], _ => rfl
  | d :: r, h => by
    unfold csf
    rw [if_pos (h d (by simp))]
    exact csf_ok (fun c hc => h c (by simp [hc]))
theorem csf_cons (d : Cnd) (r : List Cnd) : csf (d :: r) = if cdf d = 0 then csf r else cdf d := rfl
theorem csf_app : ∀ (a b : List Cnd), csf (a ++ b) = if csf a = 0 then csf b else csf a
  | [], b => by rw [List.nil_append]; exact (if_pos rfl).symm
  | d :: r, b => by
    rw [List.cons_append, csf_cons, csf_cons]
    by_cases hd : cdf d = 0
    · rw [if_pos hd, if_pos hd]; exact csf_app r b
    · rw [if_neg hd, if_neg hd, if_neg hd]
theorem cdf_zero {c : Cnd} (h : cdf c = 0) : xfault c.ex = 0 ∧ (nms c.ex).any isQ = false := by
  unfold cdf at h
  by_cases h1 : xfault c.ex = 0
  · rw [if_pos h1] at h
    refine ⟨h1, ?_⟩
    cases h2 : (nms c.ex).any isQ
    · rfl
    · rw [h2] at h; cases h
  · rw [if_neg h1] at h; exact absurd h h1
theorem pof_ways {p : Po} (h : pof p = 0) : nfault p.nm.data.toList = 0 ∧ scOk true p.who = true ∧ scOk false p.act = true ∧ scOk true p.what = true ∧ p.cs.length ≤ 4 ∧ csf p.cs = 0 := by
  unfold pof at h
  by_cases h1 : nfault p.nm.data.toList = 0
  · rw [if_pos h1] at h
    by_cases h2 : (scOk true p.who && scOk false p.act && scOk true p.what) = true
    · rw [if_pos h2] at h
      simp only [Bool.and_eq_true] at h2
      by_cases h3 : 4 < p.cs.length
      · rw [if_pos h3] at h; cases h
      · rw [if_neg h3] at h
        exact ⟨h1, h2.1.1, h2.1.2, h2.2, by omega, h⟩
    · rw [if_neg h2] at h; cases h
  · rw [if_neg h1] at h; exact absurd h h1
def nO (op : Int) : Nd := ⟨op, 0, eB, eB⟩
def nSy (op : Int) (s : ByteArray) : Nd := ⟨op, 0, s, eB⟩
def nEn (u : Ui) : Nd := ⟨4, 0, u.t, u.i⟩
def nTr : Nd := ⟨1, 1, eB, eB⟩
/-- A slot of that name. -/
def qv (v : ByteArray) : ByteArray := ⟨#[63]⟩ ++ v
/-- The expression of a scope, the one that it is about being of that name. -/
def scE (v : ByteArray) (s : Sco) : List Nd :=
  if s.op = 1 then [nO 14, nSy 8 v, nEn s.u]
  else if s.op = 2 then [nO 20, nSy 8 v, nEn s.u]
  else if s.op = 3 then [nSy 24 s.ty, nSy 8 v]
  else if s.op = 4 then [nO 11, nSy 24 s.ty, nSy 8 v, nO 20, nSy 8 v, nEn s.u]
  else if s.op = 5 then [nO 14, nSy 8 v, nSy 8 (qv v)]
  else if s.op = 6 then [nO 20, nSy 8 v, nSy 8 (qv v)]
  else [nTr]
theorem scE_len (v : ByteArray) (s : Sco) : (scE v s).length ≤ 6 ∧ 1 ≤ (scE v s).length := by
  unfold scE
  repeat' split
  all_goals exact ⟨by simp, by simp⟩
def cdE (c : Cnd) : List Nd := if c.un then nO 9 :: c.ex else c.ex
def sPrin : ByteArray := ⟨#[112, 114, 105, 110, 99, 105, 112, 97, 108]⟩
def sAct : ByteArray := ⟨#[97, 99, 116, 105, 111, 110]⟩
def sRes : ByteArray := ⟨#[114, 101, 115, 111, 117, 114, 99, 101]⟩
/-- The parts of a policy's expression. -/
def poP (p : Po) : List (List Nd) := scE sPrin p.who :: scE sAct p.act :: scE sRes p.what :: p.cs.map cdE
/-- Each And is about all that is ahead of its second part. -/
def andsL (n : Nat) (l : List (List Nd)) : List Nd := List.replicate n (nO 11) ++ l.flatten
def poE (p : Po) : List Nd := andsL (2 + p.cs.length) (poP p)
theorem andsL_snoc (n : Nat) (l : List (List Nd)) (x : List Nd) : andsL (n + 1) (l ++ [x]) = nO 11 :: (andsL n l ++ x) := by
  unfold andsL
  rw [List.replicate_succ]
  simp
/-- What Expr tells. -/
def exprL (p : Po) : Except Int (List Nd) := if pof p = 0 then (if (poE p).length ≤ 200 then .ok (poE p) else .error 4) else .error (pof p)
theorem cdE_len (c : Cnd) (h : xfault c.ex = 0) : (cdE c).length ≤ 201 ∧ 1 ≤ (cdE c).length := by
  have h2 := xfault_zero h
  have h3 : 1 ≤ c.ex.length := by
    cases hc : c.ex with
    | nil => rw [hc] at h2; simp [pastE] at h2
    | cons x r => simp
  unfold cdE
  split
  · simp; omega
  · omega
theorem flatten_len : ∀ (l : List (List Nd)) (n : Nat), (∀ x ∈ l, x.length ≤ n) → l.flatten.length ≤ l.length * n
  | [], n, _ => by simp
  | x :: r, n, h => by
    have h1 := flatten_len r n (fun y hy => h y (by simp [hy]))
    have h2 := h x (by simp)
    rw [List.flatten_cons, List.length_append, List.length_cons, Nat.add_mul]
    omega
end Go.Proofs.YtkgfmigleacjdaaGreatDoor
