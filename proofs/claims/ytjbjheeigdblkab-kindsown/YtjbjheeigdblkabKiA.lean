/- Types and values as trees: rows of parts; what is a type; below, joined, has, own. No program is named here. -/
import Derived.Test.YtjbjheeigdblkabNd
namespace Go.Proofs.Ytjbjheeigdblkab
set_option linter.unusedVariables false

/-- A row of parts: a node, its own parts, and those behind it. -/
inductive Tp where
  | nil : Tp
  | cons (x : Nd) (k r : Tp) : Tp
namespace Tp
def flat : Tp → List Nd
  | nil => []
  | cons x k r => x :: (k.flat ++ r.flat)
def len : Tp → Nat
  | nil => 0
  | cons _ _ r => r.len + 1
def app : Tp → Tp → Tp
  | nil, b => b
  | cons x k r, b => cons x k (r.app b)
def sz : Tp → Nat
  | nil => 0
  | cons x k r => k.sz + r.sz + 1
/-- The part of a name. -/
def find (s : ByteArray) : Tp → Option (Nd × Tp)
  | nil => none
  | cons f kf r => if f.s = s then some (f, kf) else r.find s
end Tp
theorem tp_app_len : ∀ a b : Tp, (a.app b).len = a.len + b.len
  | .nil, b => by simp [Tp.app, Tp.len]
  | .cons x k r, b => by simp [Tp.app, Tp.len, tp_app_len r b]; omega
theorem tp_app_flat : ∀ a b : Tp, (a.app b).flat = a.flat ++ b.flat
  | .nil, b => rfl
  | .cons x k r, b => by simp [Tp.app, Tp.flat, tp_app_flat r b]
theorem tp_app_nil : ∀ a : Tp, a.app .nil = a
  | .nil => rfl
  | .cons x k r => by simp [Tp.app, tp_app_nil r]
theorem tp_app_assoc : ∀ a b c : Tp, (a.app b).app c = a.app (b.app c)
  | .nil, b, c => rfl
  | .cons x k r, b, c => by simp [Tp.app, tp_app_assoc r b c]
theorem tp_len_flat : ∀ t : Tp, t.len ≤ t.flat.length
  | .nil => by simp [Tp.len]
  | .cons x k r => by have := tp_len_flat r; simp [Tp.len, Tp.flat]; omega
theorem tp_sz_flat : ∀ t : Tp, t.sz = t.flat.length
  | .nil => rfl
  | .cons x k r => by simp [Tp.sz, Tp.flat, tp_sz_flat k, tp_sz_flat r]
theorem tp_len0 : ∀ {t : Tp}, t.len = 0 → t = .nil
  | .nil, _ => rfl
  | .cons _ _ _, h => by simp [Tp.len] at h
theorem tp_len1 : ∀ {t : Tp}, t.len = 1 → ∃ x k, t = .cons x k .nil
  | .nil, h => by simp [Tp.len] at h
  | .cons x k r, h => ⟨x, k, by rw [tp_len0 (t := r) (by simpa [Tp.len] using h)]⟩

def e0 : ByteArray := ⟨#[]⟩
def lfN (op : Int) : Nd := ⟨op, 0, e0, e0⟩
def fdN (s : ByteArray) (n : Int) : Nd := ⟨47, n, s, e0⟩
/-- How many parts, as the program counts. -/
def cntK (x : Nd) : Int := if x.op = 5 ∨ x.op = 6 ∨ x.op = 46 then x.n else if x.op = 7 ∨ x.op = 45 ∨ x.op = 47 then 1 else 0
/-- Each node has as many parts as it should. -/
def arK : Tp → Prop
  | .nil => True
  | .cons x k r => (cntK x).toNat = k.len ∧ arK k ∧ arK r
theorem arK_app : ∀ {a b : Tp}, arK (a.app b) ↔ arK a ∧ arK b
  | .nil, b => by simp [Tp.app, arK]
  | .cons x k r, b => by simp [Tp.app, arK, arK_app (a := r) (b := b), and_assoc]
theorem tp_flat_inj : ∀ (a b : Tp) (u v : List Nd), arK a → arK b → a.len = b.len → a.flat ++ u = b.flat ++ v → a = b ∧ u = v
  | .nil, .nil, u, v, _, _, _, h => ⟨rfl, by simpa [Tp.flat] using h⟩
  | .nil, .cons _ _ _, u, v, _, _, hl, _ => by simp [Tp.len] at hl
  | .cons _ _ _, .nil, u, v, _, _, hl, _ => by simp [Tp.len] at hl
  | .cons x k r, .cons y l s, u, v, ⟨h1, h2, h3⟩, ⟨k1, k2, k3⟩, hl, h => by
    simp only [Tp.flat, List.cons_append, List.cons.injEq, List.append_assoc] at h
    obtain ⟨rfl, h⟩ := h
    obtain ⟨e1, hh⟩ := tp_flat_inj k l _ _ h2 k2 (by rw [← h1, ← k1]) h
    obtain ⟨e2, hz⟩ := tp_flat_inj r s _ _ h3 k3 (by simpa [Tp.len] using hl) hh
    subst e1 e2
    exact ⟨rfl, hz⟩
theorem tp_split : ∀ (t : Tp) (n : Nat), n ≤ t.len → ∃ a b : Tp, t = a.app b ∧ a.len = n
  | t, 0, _ => ⟨.nil, t, rfl, rfl⟩
  | .nil, n + 1, h => by simp [Tp.len] at h
  | .cons x k r, n + 1, h => by
    obtain ⟨a, b, h1, h2⟩ := tp_split r n (by simpa [Tp.len] using h)
    exact ⟨.cons x k a, b, by rw [h1]; rfl, by simp [Tp.len, h2]⟩

/-- Is a row one of types; or, behind a name, one of fields whose names rise? -/
def isTy : Option ByteArray → Tp → Bool
  | _, .nil => true
  | none, .cons x k r =>
    (decide (x.t = e0) && (if x.op = 44 then decide (x.n = 0) && (nfault x.s.data.toList == 0) && decide (k.len = 0)
      else decide (x.s = e0) && (if x.op = 45 then decide (x.n = 0) && decide (k.len = 1) && isTy none k
        else if x.op = 46 then decide (0 ≤ x.n) && decide ((k.len : Int) = x.n) && isTy (some e0) k
        else decide (x.n = 0) && decide (x.op = 41 ∨ x.op = 42 ∨ x.op = 43 ∨ x.op = 48 ∨ x.op = 49) && decide (k.len = 0)))) && isTy none r
  | some l, .cons x k r =>
    (decide (x.op = 47) && decide (x.n = 0 ∨ x.n = 1) && decide (x.t = e0) && (nfault x.s.data.toList == 0) && decide (cmpB l x.s < 0) && decide (k.len = 1) && isTy none k) && isTy (some x.s) r
/-- One type. -/
def T1 (t : Tp) : Prop := t.len = 1 ∧ isTy none t = true
/-- Fields whose names rise. -/
def Fl (l : ByteArray) (t : Tp) : Prop := isTy (some l) t = true
theorem Fl.cons_iff {l : ByteArray} {f : Nd} {kf r : Tp} : Fl l (.cons f kf r) ↔ (f.op = 47 ∧ (f.n = 0 ∨ f.n = 1) ∧ f.t = e0 ∧ nfault f.s.data.toList = 0 ∧ cmpB l f.s < 0) ∧ T1 kf ∧ Fl f.s r := by
  unfold Fl T1
  rw [isTy]
  simp only [Bool.and_eq_true, decide_eq_true_eq, beq_iff_eq]
  constructor
  · rintro ⟨⟨⟨⟨⟨⟨⟨a, b⟩, c⟩, d⟩, e⟩, f⟩, g⟩, h⟩; exact ⟨⟨a, b, c, d, e⟩, ⟨f, g⟩, h⟩
  · rintro ⟨⟨a, b, c, d, e⟩, ⟨f, g⟩, h⟩; exact ⟨⟨⟨⟨⟨⟨⟨a, b⟩, c⟩, d⟩, e⟩, f⟩, g⟩, h⟩
/-- The ways in which there is one type. -/
inductive TyC : Nd → Tp → Prop
  | leaf (op : Int) (h : op = 41 ∨ op = 42 ∨ op = 43 ∨ op = 48 ∨ op = 49) : TyC (lfN op) .nil
  | ent (s : ByteArray) (h : nfault s.data.toList = 0) : TyC ⟨44, 0, s, e0⟩ .nil
  | set (k : Tp) (h : T1 k) : TyC (lfN 45) k
  | rcd (k : Tp) (h : Fl e0 k) : TyC ⟨46, k.len, e0, e0⟩ k
theorem isTy_none_cons {x : Nd} {k r : Tp} : isTy none (.cons x k r) = true ↔ TyC x k ∧ isTy none r = true := by
  obtain ⟨xo, xn, xs, xt⟩ := x
  rw [isTy]
  simp only [Bool.and_eq_true]
  refine and_congr_left (fun _ => ?_)
  simp only [decide_eq_true_eq]
  constructor
  · rintro ⟨rfl, h⟩
    split at h
    · rename_i h44
      subst h44
      simp only [Bool.and_eq_true, decide_eq_true_eq, beq_iff_eq] at h
      obtain ⟨⟨rfl, h1⟩, h2⟩ := h
      rw [tp_len0 h2]
      exact .ent xs h1
    · simp only [Bool.and_eq_true, decide_eq_true_eq] at h
      obtain ⟨rfl, h⟩ := h
      split at h
      · rename_i h45
        subst h45
        simp only [Bool.and_eq_true, decide_eq_true_eq] at h
        obtain ⟨⟨rfl, h1⟩, h2⟩ := h
        exact .set k ⟨h1, h2⟩
      · split at h
        · rename_i h46
          subst h46
          simp only [Bool.and_eq_true, decide_eq_true_eq] at h
          obtain ⟨⟨h0, rfl⟩, h2⟩ := h
          exact .rcd k h2
        · simp only [Bool.and_eq_true, decide_eq_true_eq] at h
          obtain ⟨⟨rfl, h1⟩, h2⟩ := h
          rw [tp_len0 h2]
          exact .leaf xo h1
  · intro h
    cases h with
    | leaf op h =>
      refine ⟨rfl, ?_⟩
      simp only []
      rw [if_neg (by omega), if_neg (by omega), if_neg (by omega)]
      simp [Tp.len, h]
    | ent s h => exact ⟨rfl, by simp [Tp.len, h]⟩
    | set k h => exact ⟨rfl, by simp [h.1, h.2, e0]⟩
    | rcd k h =>
      have h : isTy (some e0) k = true := h
      exact ⟨rfl, by simp [h]⟩
theorem T1.iff {x : Nd} {k : Tp} : T1 (.cons x k .nil) ↔ TyC x k := by
  unfold T1
  rw [isTy_none_cons]
  simp [Tp.len, isTy]
theorem T1.of {t : Tp} (h : T1 t) : ∃ x k, t = .cons x k .nil ∧ TyC x k := by
  obtain ⟨x, k, rfl⟩ := tp_len1 h.1
  exact ⟨x, k, rfl, T1.iff.1 h⟩
theorem TyC.nil {x : Nd} {k : Tp} (h : TyC x k) (a : x.op ≠ 45) (b : x.op ≠ 46) : k = .nil := by
  cases h with
  | leaf op h => rfl
  | ent s h => rfl
  | set k h => exact absurd rfl a
  | rcd k h => exact absurd rfl b
theorem isTy_ar : ∀ (t : Tp) (m : Option ByteArray), isTy m t = true → arK t
  | .nil, _, _ => trivial
  | .cons x k r, none, h => by
    obtain ⟨h1, h2⟩ := isTy_none_cons.1 h
    refine ⟨?_, ?_, isTy_ar r none h2⟩
    · cases h1 with
      | leaf op h => unfold cntK lfN; simp only []; rw [if_neg (by omega), if_neg (by omega)]; rfl
      | ent s h => simp [cntK, Tp.len]
      | set k h => simp [cntK, lfN, h.1]
      | rcd k h => simp [cntK]
    · cases h1 with
      | leaf op h => trivial
      | ent s h => trivial
      | set k h => exact isTy_ar k none h.2
      | rcd k hk => exact isTy_ar k _ hk
  | .cons x k r, some l, h => by
    obtain ⟨⟨h1, _⟩, h2, h3⟩ := Fl.cons_iff.1 h
    exact ⟨by simp [cntK, h1, h2.1], isTy_ar k none h2.2, isTy_ar r _ h3⟩

theorem find_name {s : ByteArray} : ∀ {t : Tp} {f : Nd} {kf : Tp}, t.find s = some (f, kf) → f.s = s
  | .nil, f, kf, h => by simp [Tp.find] at h
  | .cons x k r, f, kf, h => by
    rw [Tp.find] at h
    split at h
    · simp only [Option.some.injEq, Prod.mk.injEq] at h
      obtain ⟨rfl, rfl⟩ := h
      assumption
    · exact find_name h
theorem find_sz {s : ByteArray} : ∀ {t : Tp} {f : Nd} {kf : Tp}, t.find s = some (f, kf) → kf.sz < t.sz
  | .nil, f, kf, h => by simp [Tp.find] at h
  | .cons x k r, f, kf, h => by
    rw [Tp.find] at h
    split at h
    · simp only [Option.some.injEq, Prod.mk.injEq] at h
      obtain ⟨rfl, rfl⟩ := h
      simp [Tp.sz]; omega
    · have := find_sz h; simp [Tp.sz]; omega
theorem Fl.find {s : ByteArray} : ∀ {t : Tp} {l : ByteArray} {f : Nd} {kf : Tp}, Fl l t → t.find s = some (f, kf) → f = fdN s f.n ∧ (f.n = 0 ∨ f.n = 1) ∧ nfault s.data.toList = 0 ∧ cmpB l s < 0 ∧ T1 kf
  | .nil, l, f, kf, _, h => by simp [Tp.find] at h
  | .cons x k r, l, f, kf, hl, h => by
    obtain ⟨⟨h1, h2, h3, h4, h5⟩, h6, h7⟩ := Fl.cons_iff.1 hl
    rw [Tp.find] at h
    split at h
    · rename_i hs
      simp only [Option.some.injEq, Prod.mk.injEq] at h
      obtain ⟨rfl, rfl⟩ := h
      subst hs
      obtain ⟨xo, xn, xs, xt⟩ := x
      simp only at h1 h3
      subst h1 h3
      exact ⟨rfl, h2, h4, h5, h6⟩
    · obtain ⟨a, b, c, d, e⟩ := Fl.find h7 h
      exact ⟨a, b, c, cmpB_is.lt_le h5 (by omega), e⟩
theorem Fl.low {l : ByteArray} {t : Tp} (h : Fl l t) {s : ByteArray} (hs : cmpB s l ≤ 0) : t.find s = none := by
  cases e : t.find s with
  | none => rfl
  | some p =>
    obtain ⟨_, _, _, h1, _⟩ := h.find (f := p.1) (kf := p.2) e
    have := cmpB_is.lt_le h1 hs
    rw [cmpB_is.self] at this
    omega
theorem Fl.find_tail {l : ByteArray} {f : Nd} {kf r : Tp} (h : Fl l (.cons f kf r)) {s : ByteArray} {g : Nd} {kg : Tp} (hs : r.find s = some (g, kg)) : (Tp.cons f kf r).find s = some (g, kg) := by
  obtain ⟨_, _, h7⟩ := Fl.cons_iff.1 h
  rw [Tp.find, if_neg, hs]
  intro e
  rw [h7.low (by rw [e, cmpB_is.self]; omega)] at hs
  cases hs
theorem Fl.find_head {f : Nd} {kf r : Tp} : (Tp.cons f kf r).find f.s = some (f, kf) := by rw [Tp.find, if_pos rfl]
theorem find_ne {f : Nd} {kf r : Tp} {s : ByteArray} (h : f.s ≠ s) : (Tp.cons f kf r).find s = r.find s := by rw [Tp.find, if_neg h]
theorem Fl.from {l l' : ByteArray} {t : Tp} (h : Fl l t) (hl : cmpB l' l ≤ 0) : Fl l' t := by
  cases t with
  | nil => simp [Fl, isTy]
  | cons x k r =>
    obtain ⟨⟨h1, h2, h3, h4, h5⟩, h6, h7⟩ := Fl.cons_iff.1 h
    exact Fl.cons_iff.2 ⟨⟨h1, h2, h3, h4, cmpB_is.le_lt hl h5⟩, h6, h7⟩
/-- What rises is one, if the same is found in it. -/
theorem Fl.ext : ∀ {t u : Tp} {l m : ByteArray}, Fl l t → Fl m u → (∀ s, t.find s = u.find s) → t = u
  | .nil, .nil, _, _, _, _, _ => rfl
  | .nil, .cons y k r, l, m, _, _, h => by have := h y.s; rw [Fl.find_head] at this; simp [Tp.find] at this
  | .cons y k r, .nil, l, m, _, _, h => by have := h y.s; rw [Fl.find_head] at this; simp [Tp.find] at this
  | .cons x k r, .cons y k' r', l, m, ht, hu, h => by
    obtain ⟨_, _, h7⟩ := Fl.cons_iff.1 ht
    obtain ⟨_, _, k7⟩ := Fl.cons_iff.1 hu
    have hxy : x.s = y.s := by
      have a := h x.s
      have b := h y.s
      rw [Fl.find_head] at a b
      have a' := a.symm
      rw [Tp.find] at a' b
      by_cases e : y.s = x.s
      · exact e.symm
      · rw [if_neg e] at a'
        rw [if_neg (fun q => e q.symm)] at b
        have p := (k7.find a').2.2.2.1
        have q := (h7.find b).2.2.2.1
        have := cmpB_is.neg x.s y.s
        omega
    have a := h x.s
    rw [Fl.find_head, hxy, Fl.find_head] at a
    simp only [Option.some.injEq, Prod.mk.injEq] at a
    obtain ⟨rfl, rfl⟩ := a
    have : r = r' := Fl.ext h7 k7 (fun s => by
      have := h s
      rw [Tp.find, Tp.find] at this
      by_cases e : x.s = s
      · rw [h7.low (by rw [← e, cmpB_is.self]; omega), k7.low (by rw [← e, cmpB_is.self]; omega)]
      · rw [if_neg e, if_neg e] at this; exact this)
    rw [this]

/-- All that must be in l must be in k. -/
def musts (k : Tp) : Tp → Bool
  | .nil => true
  | .cons f _ r => (decide (f.n ≠ 1) || (match k.find f.s with | some (g, _) => decide (g.n = 1) | none => false)) && musts k r
theorem musts_iff {k : Tp} : ∀ {l : ByteArray} {m : Tp}, Fl l m → (musts k m = true ↔ ∀ s g kg, m.find s = some (g, kg) → g.n = 1 → ∃ f kf, k.find s = some (f, kf) ∧ f.n = 1)
  | l, .nil, _ => by simp [musts, Tp.find]
  | l, .cons x kx r, h => by
    obtain ⟨_, _, h7⟩ := Fl.cons_iff.1 h
    rw [musts, Bool.and_eq_true, musts_iff h7]
    constructor
    · rintro ⟨h1, h2⟩ s g kg hs hg
      rw [Tp.find] at hs
      split at hs
      · rename_i e
        simp only [Option.some.injEq, Prod.mk.injEq] at hs
        obtain ⟨rfl, rfl⟩ := hs
        subst e
        simp only [Bool.or_eq_true, decide_eq_true_eq] at h1
        rcases h1 with h1 | h1
        · exact absurd hg h1
        · cases e : k.find x.s with
          | none => rw [e] at h1; cases h1
          | some p => rw [e] at h1; exact ⟨p.1, p.2, rfl, by simpa using h1⟩
      · exact h2 s g kg hs hg
    · intro h1
      refine ⟨?_, fun s g kg hs hg => h1 s g kg (h.find_tail hs) hg⟩
      by_cases e : x.n = 1
      · obtain ⟨f, kf, h2, h3⟩ := h1 x.s x kx Fl.find_head e
        rw [h2]
        simp [h3]
      · simp [e]
def ndEq (x y : Nd) : Bool := decide (x.op = y.op ∧ x.n = y.n ∧ x.s = y.s ∧ x.t = y.t)
theorem ndEq_iff {x y : Nd} : ndEq x y = true ↔ x = y := by
  obtain ⟨a, b, c, d⟩ := x
  obtain ⟨a', b', c', d'⟩ := y
  simp [ndEq]
/-- Is the first part of a row below that of another (false); are all fields of it (true)? -/
def blw : Bool → Tp → Tp → Bool
  | _, .nil, _ => true
  | false, .cons x k _, u =>
    match u with
    | .nil => false
    | .cons y l _ => if x.op = 49 ∨ y.op = 48 then true else if x.op ≠ y.op then false else if x.op = 45 then blw false k l else if x.op = 46 then blw true k l && musts k l else ndEq x y
  | true, .cons f kf r, l => (match l.find f.s with | some (_, kg) => blw false kf kg | none => false) && blw true r l
theorem blw_cons (x y : Nd) (k l r s : Tp) : blw false (.cons x k r) (.cons y l s) = if x.op = 49 ∨ y.op = 48 then true else if x.op ≠ y.op then false else if x.op = 45 then blw false k l else if x.op = 46 then blw true k l && musts k l else ndEq x y := by rw [blw]
theorem blw_flds (f : Nd) (kf r l : Tp) : blw true (.cons f kf r) l = ((match l.find f.s with | some (_, kg) => blw false kf kg | none => false) && blw true r l) := by rw [blw]
theorem flds_iff {m : Tp} : ∀ {l : ByteArray} {k : Tp}, Fl l k → (blw true k m = true ↔ ∀ s f kf, k.find s = some (f, kf) → ∃ g kg, m.find s = some (g, kg) ∧ blw false kf kg = true)
  | l, .nil, _ => by simp [blw, Tp.find]
  | l, .cons x kx r, h => by
    obtain ⟨_, _, h7⟩ := Fl.cons_iff.1 h
    rw [blw_flds, Bool.and_eq_true, flds_iff h7]
    constructor
    · rintro ⟨h1, h2⟩ s f kf hs
      rw [Tp.find] at hs
      split at hs
      · rename_i e
        simp only [Option.some.injEq, Prod.mk.injEq] at hs
        obtain ⟨rfl, rfl⟩ := hs
        subst e
        cases e : m.find x.s with
        | none => rw [e] at h1; cases h1
        | some p => rw [e] at h1; exact ⟨p.1, p.2, rfl, h1⟩
      · exact h2 s f kf hs
    · intro h1
      refine ⟨?_, fun s g kg hs => h1 s g kg (h.find_tail hs)⟩
      obtain ⟨g, kg, h2, h3⟩ := h1 x.s x kx Fl.find_head
      rw [h2]
      exact h3
theorem blw_none {u : Tp} (h : T1 u) (k r : Tp) : blw false (.cons (lfN 49) k r) u = true := by
  obtain ⟨y, l, rfl, _⟩ := h.of
  rw [blw_cons]; simp [lfN]
theorem blw_top (t : Tp) (k r : Tp) : blw false t (.cons (lfN 48) k r) = true := by
  cases t with
  | nil => rw [blw]
  | cons x k r => rw [blw_cons]; simp [lfN]
theorem blw_sets (k l : Tp) : blw false (.cons (lfN 45) k .nil) (.cons (lfN 45) l .nil) = blw false k l := by rw [blw_cons]; simp [lfN]
theorem blw_rcds (k l : Tp) (m n : Int) (r s : Tp) : blw false (.cons ⟨46, m, e0, e0⟩ k r) (.cons ⟨46, n, e0, e0⟩ l s) = (blw true k l && musts k l) := by rw [blw_cons]; simp
theorem rcds_iff {k l : Tp} {a b : ByteArray} (hk : Fl a k) (hl : Fl b l) : (blw true k l && musts k l) = true ↔ (∀ s f kf, k.find s = some (f, kf) → ∃ g kg, l.find s = some (g, kg) ∧ blw false kf kg = true) ∧ (∀ s g kg, l.find s = some (g, kg) → g.n = 1 → ∃ f kf, k.find s = some (f, kf) ∧ f.n = 1) := by
  rw [Bool.and_eq_true, flds_iff hk, musts_iff hl]
/-- How two types stand that one is below the other. -/
theorem blw_ways {x y : Nd} {k l : Tp} (hx : TyC x k) (hy : TyC y l) (h : blw false (.cons x k .nil) (.cons y l .nil) = true) : x = lfN 49 ∨ y = lfN 48 ∨ (x = y ∧ k = .nil ∧ l = .nil ∧ x.op ≠ 45 ∧ x.op ≠ 46) ∨ (x = lfN 45 ∧ y = lfN 45 ∧ T1 k ∧ T1 l ∧ blw false k l = true) ∨ (x = ⟨46, k.len, e0, e0⟩ ∧ y = ⟨46, l.len, e0, e0⟩ ∧ Fl e0 k ∧ Fl e0 l ∧ (blw true k l && musts k l) = true) := by
  rw [blw_cons] at h
  by_cases c1 : x.op = 49
  · left; cases hx with
    | leaf op h => simp only [lfN] at c1; subst c1; rfl
    | ent s h => simp at c1
    | set k h => simp [lfN] at c1
    | rcd k h => simp at c1
  by_cases c2 : y.op = 48
  · right; left; cases hy with
    | leaf op h => simp only [lfN] at c2; subst c2; rfl
    | ent s h => simp at c2
    | set k h => simp [lfN] at c2
    | rcd k h => simp at c2
  rw [if_neg (by omega)] at h
  by_cases c3 : x.op = y.op
  · rw [if_neg (by omega)] at h
    by_cases c4 : x.op = 45
    · rw [if_pos c4] at h
      right; right; right; left
      cases hx with
      | leaf op h => simp only [lfN] at c4; omega
      | ent s h => simp at c4
      | rcd k h => simp at c4
      | set k hk =>
        cases hy with
        | leaf op h => simp only [lfN] at c3; omega
        | ent s h => simp [lfN] at c3
        | rcd k h => simp [lfN] at c3
        | set l hl => exact ⟨rfl, rfl, hk, hl, h⟩
    · rw [if_neg c4] at h
      by_cases c5 : x.op = 46
      · rw [if_pos c5] at h
        right; right; right; right
        cases hx with
        | leaf op h => simp only [lfN] at c5; omega
        | ent s h => simp at c5
        | set k h => simp [lfN] at c5
        | rcd k hk =>
          cases hy with
          | leaf op h => simp only [lfN] at c3; omega
          | ent s h => simp at c3
          | set k h => simp [lfN] at c3
          | rcd l hl => exact ⟨rfl, rfl, hk, hl, h⟩
      · rw [if_neg c5] at h
        have := ndEq_iff.1 h
        subst this
        right; right; left
        refine ⟨rfl, ?_, ?_, c4, c5⟩
        · cases hx with
          | leaf op h => rfl
          | ent s h => rfl
          | set k h => simp [lfN] at c4
          | rcd k h => simp at c5
        · cases hy with
          | leaf op h => rfl
          | ent s h => rfl
          | set k h => simp [lfN] at c4
          | rcd k h => simp at c5
  · rw [if_pos c3] at h; cases h
theorem blw_refl : ∀ (n : Nat) (t : Tp), t.sz < n → T1 t → blw false t t = true
  | 0, t, h, _ => by omega
  | n + 1, t, h, ht => by
    obtain ⟨x, k, rfl, hx⟩ := ht.of
    simp only [Tp.sz] at h
    cases hx with
    | leaf op ho =>
      rw [blw_cons]
      have e : (lfN op).op = op := rfl
      by_cases c : (lfN op).op = 49 ∨ (lfN op).op = 48
      · rw [if_pos c]
      · rw [if_neg c, if_neg (by simp), if_neg (by omega), if_neg (by omega)]; exact ndEq_iff.2 rfl
    | ent s h => rw [blw_cons]; simp [ndEq]
    | set k hk => rw [blw_sets]; exact blw_refl n k (by omega) hk
    | rcd k hk =>
      rw [blw_rcds, rcds_iff hk hk]
      exact ⟨fun s f kf hs => ⟨f, kf, hs, blw_refl n kf (by have := find_sz hs; omega) (hk.find hs).2.2.2.2⟩, fun s g kg hs hg => ⟨g, kg, hs, hg⟩⟩
theorem blw_trans : ∀ (n : Nat) (a b c : Tp), a.sz < n → T1 a → T1 b → T1 c → blw false a b = true → blw false b c = true → blw false a c = true
  | 0, a, b, c, h, _, _, _, _, _ => by omega
  | n + 1, a, b, c, h, ha, hb, hc, h1, h2 => by
    obtain ⟨x, k, rfl, hx⟩ := ha.of
    obtain ⟨y, l, rfl, hy⟩ := hb.of
    obtain ⟨z, m, rfl, hz⟩ := hc.of
    simp only [Tp.sz] at h
    rcases blw_ways hx hy h1 with e | e | ⟨e, e2, e3, e4, e5⟩ | ⟨e, e2, e3, e4, e5⟩ | ⟨e, e2, e3, e4, e5⟩
    · subst e; exact blw_none hc _ _
    · subst e
      rcases blw_ways hy hz h2 with e | e | ⟨e, e2, e3, e4, e5⟩ | ⟨e, e2, e3, e4, e5⟩ | ⟨e, e2, e3, e4, e5⟩
      · simp [lfN] at e
      · subst e; exact blw_top _ _ _
      · subst e; exact blw_top _ _ _
      · simp [lfN] at e
      · simp [lfN] at e
    · subst e e2 e3; exact h2
    · subst e e2
      rcases blw_ways hy hz h2 with e | e | ⟨e, f2, f3, f4, f5⟩ | ⟨e, f2, f3, f4, f5⟩ | ⟨e, f2, f3, f4, f5⟩
      · simp [lfN] at e
      · subst e; exact blw_top _ _ _
      · simp [lfN] at f4
      · subst f2; rw [blw_sets]; exact blw_trans n k l m (by omega) e3 e4 f4 e5 f5
      · simp [lfN] at e
    · rcases blw_ways hy hz h2 with g | g | ⟨g, f2, f3, f4, f5⟩ | ⟨g, f2, f3, f4, f5⟩ | ⟨g, f2, f3, f4, f5⟩
      · rw [g] at e2; simp [lfN] at e2
      · subst g; exact blw_top _ _ _
      · rw [e2] at f5; simp at f5
      · rw [g] at e2; simp [lfN] at e2
      · subst e f2
        rw [blw_rcds, rcds_iff e3 f4]
        rw [rcds_iff e3 e4] at e5
        rw [rcds_iff f3 f4] at f5
        refine ⟨fun s f kf hs => ?_, fun s q kq hs hq => ?_⟩
        · obtain ⟨p, kp, p1, p2⟩ := e5.1 s f kf hs
          obtain ⟨q, kq, q1, q2⟩ := f5.1 s p kp p1
          exact ⟨q, kq, q1, blw_trans n kf kp kq (by have := find_sz hs; omega) (e3.find hs).2.2.2.2 (f3.find p1).2.2.2.2 (f4.find q1).2.2.2.2 p2 q2⟩
        · obtain ⟨p, kp, p1, p2⟩ := f5.2 s q kq hs hq
          exact e5.2 s p kp p1 p2
theorem blw_anti : ∀ (n : Nat) (a b : Tp), a.sz < n → T1 a → T1 b → blw false a b = true → blw false b a = true → a = b
  | 0, a, b, h, _, _, _, _ => by omega
  | n + 1, a, b, h, ha, hb, h1, h2 => by
    obtain ⟨x, k, rfl, hx⟩ := ha.of
    obtain ⟨y, l, rfl, hy⟩ := hb.of
    simp only [Tp.sz] at h
    have hl : ∀ {x : Nd} {k : Tp}, TyC x k → x.op ≠ 45 → x.op ≠ 46 → k = .nil := fun h => h.nil
    rcases blw_ways hx hy h1 with e | e | ⟨e, e2, e3, e4, e5⟩ | ⟨e, e2, e3, e4, e5⟩ | ⟨e, e2, e3, e4, e5⟩
    · subst e
      rcases blw_ways hy hx h2 with g | g | ⟨g, _⟩ | ⟨g, g2, _⟩ | ⟨g, g2, _⟩
      · subst g; rw [hl hx (by simp [lfN]) (by simp [lfN]), hl hy (by simp [lfN]) (by simp [lfN])]
      · simp [lfN] at g
      · subst g; rw [hl hx (by simp [lfN]) (by simp [lfN]), hl hy (by simp [lfN]) (by simp [lfN])]
      · simp [lfN] at g2
      · simp [lfN] at g2
    · subst e
      rcases blw_ways hy hx h2 with g | g | ⟨g, _⟩ | ⟨g, g2, _⟩ | ⟨g, g2, _⟩
      · simp [lfN] at g
      · subst g; rw [hl hx (by simp [lfN]) (by simp [lfN]), hl hy (by simp [lfN]) (by simp [lfN])]
      · subst g; rw [hl hx (by simp [lfN]) (by simp [lfN]), hl hy (by simp [lfN]) (by simp [lfN])]
      · simp [lfN] at g
      · simp [lfN] at g
    · subst e e2 e3; rfl
    · subst e e2
      rw [blw_sets] at h2
      rw [blw_anti n k l (by omega) e3 e4 e5 h2]
    · rw [e, e2, blw_rcds, rcds_iff e4 e3] at h2
      rw [rcds_iff e3 e4] at e5
      have : k = l := Fl.ext e3 e4 (fun s => by
        cases ek : k.find s with
        | none =>
          cases el : l.find s with
          | none => rfl
          | some p => obtain ⟨q, kq, q1, _⟩ := h2.1 s p.1 p.2 el; rw [ek] at q1; cases q1
        | some p =>
          obtain ⟨f, kf⟩ := p
          obtain ⟨g, kg, g1, g2⟩ := e5.1 s f kf ek
          obtain ⟨f', kf', f1, f2⟩ := h2.1 s g kg g1
          rw [ek] at f1
          simp only [Option.some.injEq, Prod.mk.injEq] at f1
          obtain ⟨rfl, rfl⟩ := f1
          have hf := e3.find ek
          have hg := e4.find g1
          have e6 := blw_anti n kf kg (by have := find_sz ek; omega) hf.2.2.2.2 hg.2.2.2.2 g2 f2
          subst e6
          have hn : f.n = g.n := by
            rcases hf.2.1 with a | a
            · rcases hg.2.1 with b | b
              · rw [a, b]
              · obtain ⟨f', kf', p1, p2⟩ := e5.2 s g kf g1 b
                rw [ek] at p1
                simp only [Option.some.injEq, Prod.mk.injEq] at p1
                rw [p1.1, p2, b]
            · obtain ⟨f', kf', p1, p2⟩ := h2.2 s f kf ek a
              rw [g1] at p1
              simp only [Option.some.injEq, Prod.mk.injEq] at p1
              rw [p1.1, p2, a]
          rw [g1, hf.1, hg.1, hn])
      subst this
      rw [e, e2]
end Go.Proofs.Ytjbjheeigdblkab
