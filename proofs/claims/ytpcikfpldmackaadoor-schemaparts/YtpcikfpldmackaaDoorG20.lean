/- Schemas, plain: what is wrong with one; is a store, is a request as it may be. No walk is here. Kinds, acts and schemas in memory. Package schema: names (put, checkNames); slices.Contains at texts: by walks of their own texts. Package kinds: Check, by a walk of its own text. The statements on kinds: Check of an argument. Package schema: checkRec, wantType, checkKinds: by walks of their own texts. Package schema: checkActs, Check: by walks of their own texts. Package schema: kindOf, actOf: by walks of their own texts. Package eval: Ask, by a walk of its own text. -/
import Derived.Test.YtpcikfpldmackaaDoorG19
import Derived.Test.YtpcikfpldmackaaDoorG5
import Derived.Test.YtpcikfpldmackaaDoorG12
import Derived.Maps.OwnSet
import Derived.Maps.OwnOps
import Derived.Test.YtpcikfpldmackaaDoorG11
import Derived.Test.YtpcikfpldmackaaDoorG3
namespace Go.Proofs.YtpcikfpldmackaaDoor
set_option linter.unusedVariables false

structure Kd where
  nm : ByteArray
  up : List ByteArray
  ty : List Nd
structure Ac where
  id : ByteArray
  who : List ByteArray
  what : List ByteArray
  cx : List Nd
structure Sc where
  ks : List Kd
  acs : List Ac
def hasT (s : ByteArray) (l : List ByteArray) : Bool := l.any fun t => decide (t = s)
theorem hasT_iff {s : ByteArray} {l : List ByteArray} : hasT s l = true ↔ s ∈ l := by
  unfold hasT
  rw [List.any_eq_true]
  constructor
  · rintro ⟨t, h1, h2⟩; rw [decide_eq_true_eq] at h2; rw [← h2]; exact h1
  · intro h; exact ⟨s, h, decide_eq_true rfl⟩
def nmf (s : ByteArray) : Int := nfault s.data.toList
def tmf (s : ByteArray) : Int := tfault s.data.toList
/-- The first error, if one is there. -/
def orE (a b : Int) : Int := if a = 0 then b else a
theorem orE_zero {a b : Int} : orE a b = 0 ↔ a = 0 ∧ b = 0 := by
  unfold orE
  split
  · rename_i h; exact ⟨fun k => ⟨h, k⟩, fun k => k.2⟩
  · rename_i h; exact ⟨fun k => absurd k h, fun k => absurd k.1 h⟩
theorem orE_l {a b : Int} (h : a ≠ 0) : orE a b = a := if_neg h
theorem orE_r {a b : Int} (h : a = 0) : orE a b = b := if_pos h
def nsf : List ByteArray → Int
  | [] => 0
  | s :: r => orE (nmf s) (nsf r)
def opE (t : List Nd) : Int := match t with | x :: _ => if x.op = 46 then 0 else 2 | [] => 2
noncomputable def rcf (t : List Nd) : Int := orE (kfault t) (opE t)
def twE (s : ByteArray) (l : List ByteArray) : Int := if hasT s l then 6 else 0
def fuE (b : Bool) : Int := if b then 4 else 0
noncomputable def kdf (seen : List ByteArray) (k : Kd) : Int := orE (nmf k.nm) (orE (twE k.nm seen) (orE (fuE (decide (6 < k.up.length))) (orE (nsf k.up) (rcf k.ty))))
noncomputable def ksf : List ByteArray → List Kd → Int
  | _, [] => 0
  | seen, k :: r => orE (kdf seen k) (ksf (seen ++ [k.nm]) r)
noncomputable def acf (seen : List ByteArray) (a : Ac) : Int := orE (tmf a.id) (orE (twE a.id seen) (orE (fuE (decide (6 < a.who.length ∨ 6 < a.what.length))) (orE (nsf a.who) (orE (nsf a.what) (rcf a.cx)))))
noncomputable def asf : List ByteArray → List Ac → Int
  | _, [] => 0
  | seen, a :: r => orE (acf seen a) (asf (seen ++ [a.id]) r)
noncomputable def scf (s : Sc) : Int := orE (fuE (decide (8 < s.ks.length ∨ 8 < s.acs.length))) (orE (ksf [] s.ks) (asf [] s.acs))
open Classical in
/-- Has a value a type? -/
noncomputable def hasB (t v : List Nd) : Bool := decide (∃ x k y l, KTy t x k ∧ VTy v y l ∧ hs false (.cons y l .nil) (.cons x k .nil) = true)
open Classical in
theorem hasB_of {t v : List Nd} {x y : Nd} {k l : Tp} (h1 : KTy t x k) (h2 : VTy v y l) : hasB t v = hs false (.cons y l .nil) (.cons x k .nil) := by
  unfold hasB
  rw [Bool.eq_iff_iff, decide_eq_true_iff]
  constructor
  · rintro ⟨x', k', y', l', g1, g2, g3⟩
    obtain ⟨rfl, rfl⟩ := h1.uniq g1
    obtain ⟨rfl, rfl⟩ := h2.uniq g2
    exact g3
  · intro h; exact ⟨x, k, y, l, h1, h2, h⟩
noncomputable def wtf (t v : List Nd) : Int := orE (hfault t v) (if hasB t v then 0 else 2)
def kof (ks : List Kd) (s : ByteArray) : Option Kd := ks.find? fun k => decide (k.nm = s)
/-- May there be such an entity? -/
noncomputable def mbf (ks : List Kd) (e : En) : Int := match kof ks e.u.t with | none => 3 | some k => if e.up.all (fun u => hasT u.t k.up) then wtf k.ty e.nd else 2
noncomputable def esf (ks : List Kd) : List En → Int
  | [] => 0
  | e :: r => orE (mbf ks e) (esf ks r)
noncomputable def stof (s : Sc) (es : List En) : Int := orE (scf s) (orE (stf es) (esf s.ks es))
def actT : ByteArray := ⟨#[65, 99, 116, 105, 111, 110]⟩
def aof (acs : List Ac) (u : Ui) : Option Ac := acs.find? fun a => decide (u.t = actT) && decide (a.id = u.i)
noncomputable def asks (s : Sc) (q : Rq) : Int := orE (scf s) (orE (askf q) (match aof s.acs q.act with | none => 3 | some a => if hasT q.who.t a.who && hasT q.what.t a.what then wtf a.cx q.cx else 2))

theorem fuE_zero {b : Bool} : fuE b = 0 ↔ b = false := by unfold fuE; cases b <;> simp
theorem esf_zero {ks : List Kd} : ∀ {es : List En}, esf ks es = 0 ↔ ∀ e ∈ es, mbf ks e = 0
  | [] => by simp [esf]
  | e :: r => by rw [esf, orE_zero, esf_zero (es := r)]; simp
/-- A store's entities, one by one. -/
theorem stf_one {es : List En} (h : stf es = 0) {e : En} (he : e ∈ es) : stf [e] = 0 := by
  have hg := stf_zero h
  have h16 : ¬ 16 < es.length := by have := hg.few; omega
  have hl : lfault [] es = 0 := by
    unfold stf at h
    rw [if_neg h16] at h
    by_cases h2 : lfault [] es = 0
    · exact h2
    · rw [if_neg h2] at h; exact h
  obtain ⟨i1, i2⟩ := lfault_zero _ _ hl
  obtain ⟨hu, _, hef⟩ := i1 e he
  have hf : lfault [] [e] = 0 := by
    unfold lfault
    rw [if_pos hu, if_neg (by simp), if_pos hef]
    rfl
  have hc : ¬ Cyc [e] := by
    rintro ⟨x, hx, ha⟩
    rw [List.mem_singleton] at hx
    subst hx
    have hup : ∀ a b, b ∈ upsOf [x] a → b ∈ upsOf es a := by
      intro a b hb
      unfold upsOf at hb
      rw [List.find?_singleton] at hb
      by_cases hxa : x.u = a
      · subst hxa
        rw [decide_eq_true rfl] at hb
        rw [upsOf_of_mem i2 he]
        exact hb
      · rw [decide_eq_false hxa] at hb
        simp at hb
    have hm : ∀ a b, Abv [x] a b → Abv es a b := by
      intro a b hab
      induction hab with
      | one h => exact .one (hup _ _ h)
      | more h _ ih => exact .more (hup _ _ h) ih
    exact hg.cyc ⟨x, he, hm _ _ ha⟩
  unfold stf
  rw [if_neg (by simp), if_pos hf, if_neg hc]
theorem stof_parts {s : Sc} {es : List En} (hs : scf s = 0) (he : stf es = 0) : stof s es = 0 ↔ ∀ e ∈ es, stof s [e] = 0 := by
  unfold stof
  rw [orE_zero, orE_zero, esf_zero]
  constructor
  · rintro ⟨_, _, h⟩ e hm
    rw [orE_zero, orE_zero, esf_zero]
    exact ⟨hs, stf_one he hm, fun x hx => by rw [List.mem_singleton] at hx; rw [hx]; exact h e hm⟩
  · intro h
    refine ⟨hs, he, fun e hm => ?_⟩
    have := h e hm
    rw [orE_zero, orE_zero, esf_zero] at this
    exact this.2.2 e (List.mem_singleton.2 rfl)
/-- With an act more. -/
theorem asks_more {s : Sc} {a : Ac} {q : Rq} (h : asks s q = 0) (hm : scf ⟨s.ks, s.acs ++ [a]⟩ = 0) : asks ⟨s.ks, s.acs ++ [a]⟩ q = 0 := by
  unfold asks at *
  rw [orE_zero, orE_zero] at h ⊢
  refine ⟨hm, h.2.1, ?_⟩
  have h2 := h.2.2
  simp only [aof] at h2 ⊢
  rw [List.find?_append]
  cases e : s.acs.find? (fun a => decide (q.act.t = actT) && decide (a.id = q.act.i)) with
  | none => rw [e] at h2; simp at h2
  | some b => rw [e] at h2; simpa using h2
/-- A kind's type made another. -/
def Kd.put (k : Kd) (t : List Nd) : Kd := ⟨k.nm, k.up, t⟩
theorem ksf_set {t : List Nd} (ht : rcf t = 0) : ∀ (seen : List ByteArray) (ks : List Kd) (k : Nat), ksf seen ks = 0 → ksf seen (ks.modify k (·.put t)) = 0
  | seen, [], k, h => by simpa using h
  | seen, x :: r, 0, h => by
    rw [ksf, orE_zero] at h
    simp only [List.modify_zero_cons]
    rw [ksf, orE_zero]
    refine ⟨?_, h.2⟩
    have h1 := h.1
    unfold kdf at *
    rw [orE_zero, orE_zero, orE_zero, orE_zero] at h1 ⊢
    exact ⟨h1.1, h1.2.1, h1.2.2.1, h1.2.2.2.1, ht⟩
  | seen, x :: r, k + 1, h => by
    rw [ksf, orE_zero] at h
    simp only [List.modify_succ_cons]
    rw [ksf, orE_zero]
    exact ⟨h.1, ksf_set ht _ r k h.2⟩
theorem kof_set {t : List Nd} {s : ByteArray} : ∀ (ks : List Kd) (k : Nat), kof (ks.modify k (·.put t)) s = kof ks s ∨ ∃ (h : k < ks.length), kof ks s = some ks[k] ∧ kof (ks.modify k (·.put t)) s = some (ks[k].put t)
  | [], k => by left; simp
  | x :: r, 0 => by
    simp only [List.modify_zero_cons]
    by_cases e : x.nm = s
    · right
      refine ⟨by simp, ?_, ?_⟩
      · unfold kof; rw [List.find?_cons_of_pos (by simpa using e)]; rfl
      · unfold kof; rw [List.find?_cons_of_pos (by show decide (x.nm = s) = true; exact decide_eq_true e)]; rfl
    · left
      unfold kof
      rw [List.find?_cons_of_neg (by show ¬ decide (x.nm = s) = true; simpa using e), List.find?_cons_of_neg (by simpa using e)]
  | x :: r, k + 1 => by
    simp only [List.modify_succ_cons]
    by_cases e : x.nm = s
    · left
      unfold kof
      rw [List.find?_cons_of_pos (by simpa using e), List.find?_cons_of_pos (by simpa using e)]
    · rcases kof_set (t := t) (s := s) r k with h | ⟨h, h1, h2⟩
      · left
        unfold kof at *
        rw [List.find?_cons_of_neg (by simpa using e), List.find?_cons_of_neg (by simpa using e), h]
      · right
        refine ⟨by simpa using h, ?_, ?_⟩
        · unfold kof at *
          rw [List.find?_cons_of_neg (by simpa using e), h1]; rfl
        · unfold kof at *
          rw [List.find?_cons_of_neg (by simpa using e), h2]; rfl
open Classical in
/-- A type is below another. -/
noncomputable def blB (a b : List Nd) : Bool := decide (∃ x k y l, KTy a x k ∧ KTy b y l ∧ blw false (.cons x k .nil) (.cons y l .nil) = true)
open Classical in
theorem blB_of {a b : List Nd} {x y : Nd} {k l : Tp} (h1 : KTy a x k) (h2 : KTy b y l) : blB a b = blw false (.cons x k .nil) (.cons y l .nil) := by
  unfold blB
  rw [Bool.eq_iff_iff, decide_eq_true_iff]
  constructor
  · rintro ⟨x', k', y', l', g1, g2, g3⟩
    obtain ⟨rfl, rfl⟩ := h1.uniq g1
    obtain ⟨rfl, rfl⟩ := h2.uniq g2
    exact g3
  · intro h; exact ⟨x, k, y, l, h1, h2, h⟩
theorem wtf_wider {a t v : List Nd} (hb : bfault a t = 0) (hl : blB a t = true) (h : wtf a v = 0) : wtf t v = 0 := by
  rcases below_ways a t with ⟨x, y, k, l, la, lb, hx, hy⟩ | hbe
  · rcases has_ways a v with ⟨x', z, k', m, _, lv, hx', hz, hvf⟩ | hhe
    · obtain ⟨rfl, rfl⟩ := hx.uniq hx'
      unfold wtf at *
      rw [orE_zero] at h ⊢
      have h2 := h.2
      rw [hasB_of hx hz] at h2
      rw [hasB_of hy hz]
      rw [blB_of hx hy] at hl
      refine ⟨?_, ?_⟩
      · unfold hfault; rw [if_pos (kfault_ok lb hy)]; exact hvf
      · have : hs false (.cons z m .nil) (.cons x k .nil) = true := by
          cases e : hs false (.cons z m .nil) (.cons x k .nil)
          · rw [e] at h2; simp at h2
          · rfl
        rw [fits_more hz.1 hx.1 hy.1 this hl]
        rfl
    · unfold wtf at h; rw [orE_zero] at h; exact absurd h.1 hhe
  · exact absurd hb hbe
/-- Who may be more is still what it was. -/
theorem stof_wider {s : Sc} {es : List En} {k : Nat} {t : List Nd} (hk : k < s.ks.length) (h : stof s es = 0) (hb : bfault s.ks[k].ty t = 0) (hl : blB s.ks[k].ty t = true) (hw : scf ⟨s.ks.modify k (·.put t), s.acs⟩ = 0) : stof ⟨s.ks.modify k (·.put t), s.acs⟩ es = 0 := by
  unfold stof at *
  rw [orE_zero, orE_zero, esf_zero] at h ⊢
  refine ⟨hw, h.2.1, fun e he => ?_⟩
  have h1 := h.2.2 e he
  unfold mbf at *
  rcases kof_set (t := t) (s := e.u.t) s.ks k with h2 | ⟨h2, h3, h4⟩
  · simp only [h2]; exact h1
  · simp only [h3] at h1
    simp only [h4]
    split at h1
    · rename_i hup
      rw [if_pos (by simpa [Kd.put] using hup)]
      exact wtf_wider hb hl h1
    · cases h1
/-- The wider schema is one, if it is a record's type. -/
theorem scf_wider {s : Sc} {k : Nat} {t : List Nd} (hs : scf s = 0) (ht : rcf t = 0) : scf ⟨s.ks.modify k (·.put t), s.acs⟩ = 0 := by
  unfold scf at *
  rw [orE_zero, orE_zero] at hs ⊢
  refine ⟨?_, ksf_set ht _ _ _ hs.2.1, hs.2.2⟩
  have := hs.1
  simp only [List.length_modify]
  exact this
theorem bfault_right {a b : List Nd} (h : bfault a b = 0) : kfault b = 0 := by
  unfold bfault at h
  split at h
  · exact h
  · rename_i h1; exact absurd h h1
end Go.Proofs.YtpcikfpldmackaaDoor
namespace Go.Proofs.YtpcikfpldmackaaDoor
open Go.RowKit
set_option linter.unusedVariables false

/-- Texts as an argument. -/
structure TA (w : World) (l : List ByteArray) (p : Option Addr) (c : Nat) : Prop where
  tl : TL w p l
  sz : ∀ t ∈ l, t.size ≤ maxLen
  le : l.length ≤ c
  cm : c ≤ maxLen
theorem TA.up {w w' : World} {l : List ByteArray} {p : Option Addr} {c : Nat} (h : TA w l p c) (k : Below w.heap.size w w') : TA w' l p c := ⟨h.tl.up k, h.sz, h.le, h.cm⟩
/-- What a kind's cells lead to. -/
structure KdV (w : World) (k : Kd) (pu : Option Addr) (cu : Nat) (pt : Option Addr) (ct : Nat) : Prop where
  nm : k.nm.size ≤ maxLen
  us : TA w k.up pu cu
  ty : AK w k.ty pt ct
theorem KdV.up {w w' : World} {k : Kd} {pu pt : Option Addr} {cu ct : Nat} (h : KdV w k pu cu pt ct) (hb : Below w.heap.size w w') : KdV w' k pu cu pt ct := ⟨h.nm, h.us.up hb, h.ty.up hb⟩
/-- A list of kinds lies behind an address. -/
def KdL (w : World) (p : Option Addr) (ks : List Kd) : Prop :=
  ks = [] ∨ ∃ b off, p = some ⟨b, off, none⟩ ∧ b < w.heap.size ∧ ∀ i k, ks[i]? = some k → ∃ pu cu pt ct, KdV w k pu cu pt ct ∧
    w.cell? ⟨b, off + i * 3, none⟩ = some (.string k.nm) ∧ w.cell? ⟨b, off + i * 3 + 1, none⟩ = some (.slice pu k.up.length cu) ∧ w.cell? ⟨b, off + i * 3 + 2, none⟩ = some (.slice pt k.ty.length ct)
theorem KdL.up {w w' : World} {p : Option Addr} {ks : List Kd} (h : KdL w p ks) (k : Below w.heap.size w w') : KdL w' p ks := by
  rcases h with h | ⟨b, off, h1, h2, h3⟩
  · exact .inl h
  · refine .inr ⟨b, off, h1, Nat.lt_of_lt_of_le h2 k.size, fun i x hx => ?_⟩
    obtain ⟨pu, cu, pt, ct, q0, q1⟩ := h3 i x hx
    have q : ∀ o, w'.cell? ⟨b, o, none⟩ = w.cell? ⟨b, o, none⟩ := fun o => k.cell (p := ⟨b, o, none⟩) h2
    refine ⟨pu, cu, pt, ct, q0.up k, ?_⟩
    simp only [q]
    exact q1
theorem KdL.at {w : World} {p : Option Addr} {ks : List Kd} (h : KdL w p ks) {i : Nat} (hi : i < ks.length) : ∃ b off pu cu pt ct, p = some ⟨b, off, none⟩ ∧ b < w.heap.size ∧ KdV w ks[i] pu cu pt ct ∧
    w.cell? ⟨b, off + i * 3, none⟩ = some (.string ks[i].nm) ∧ w.cell? ⟨b, off + i * 3 + 1, none⟩ = some (.slice pu ks[i].up.length cu) ∧ w.cell? ⟨b, off + i * 3 + 2, none⟩ = some (.slice pt ks[i].ty.length ct) := by
  rcases h with rfl | ⟨b, off, h1, h2, h3⟩
  · simp at hi
  · obtain ⟨pu, cu, pt, ct, q0, q1, q2, q3⟩ := h3 i _ (List.getElem?_eq_getElem hi)
    exact ⟨b, off, pu, cu, pt, ct, h1, h2, q0, q1, q2, q3⟩
/-- What an act's cells lead to. -/
structure AcV (w : World) (a : Ac) (p0 : Option Addr) (c0 : Nat) (p1 : Option Addr) (c1 : Nat) (pt : Option Addr) (ct : Nat) : Prop where
  id : a.id.size ≤ maxLen
  us : TA w a.who p0 c0
  vs : TA w a.what p1 c1
  ty : AK w a.cx pt ct
theorem AcV.up {w w' : World} {a : Ac} {p0 p1 pt : Option Addr} {c0 c1 ct : Nat} (h : AcV w a p0 c0 p1 c1 pt ct) (hb : Below w.heap.size w w') : AcV w' a p0 c0 p1 c1 pt ct := ⟨h.id, h.us.up hb, h.vs.up hb, h.ty.up hb⟩
/-- A list of acts lies behind an address. -/
def AcL (w : World) (p : Option Addr) (al : List Ac) : Prop :=
  al = [] ∨ ∃ b off, p = some ⟨b, off, none⟩ ∧ b < w.heap.size ∧ ∀ i a, al[i]? = some a → ∃ p0 c0 p1 c1 pt ct, AcV w a p0 c0 p1 c1 pt ct ∧
    w.cell? ⟨b, off + i * 4, none⟩ = some (.string a.id) ∧ w.cell? ⟨b, off + i * 4 + 1, none⟩ = some (.slice p0 a.who.length c0) ∧ w.cell? ⟨b, off + i * 4 + 2, none⟩ = some (.slice p1 a.what.length c1) ∧ w.cell? ⟨b, off + i * 4 + 3, none⟩ = some (.slice pt a.cx.length ct)
theorem AcL.up {w w' : World} {p : Option Addr} {al : List Ac} (h : AcL w p al) (k : Below w.heap.size w w') : AcL w' p al := by
  rcases h with h | ⟨b, off, h1, h2, h3⟩
  · exact .inl h
  · refine .inr ⟨b, off, h1, Nat.lt_of_lt_of_le h2 k.size, fun i x hx => ?_⟩
    obtain ⟨p0, c0, p1, c1, pt, ct, q0, q1⟩ := h3 i x hx
    have q : ∀ o, w'.cell? ⟨b, o, none⟩ = w.cell? ⟨b, o, none⟩ := fun o => k.cell (p := ⟨b, o, none⟩) h2
    refine ⟨p0, c0, p1, c1, pt, ct, q0.up k, ?_⟩
    simp only [q]
    exact q1
theorem AcL.at {w : World} {p : Option Addr} {al : List Ac} (h : AcL w p al) {i : Nat} (hi : i < al.length) : ∃ b off p0 c0 p1 c1 pt ct, p = some ⟨b, off, none⟩ ∧ b < w.heap.size ∧ AcV w al[i] p0 c0 p1 c1 pt ct ∧
    w.cell? ⟨b, off + i * 4, none⟩ = some (.string al[i].id) ∧ w.cell? ⟨b, off + i * 4 + 1, none⟩ = some (.slice p0 al[i].who.length c0) ∧ w.cell? ⟨b, off + i * 4 + 2, none⟩ = some (.slice p1 al[i].what.length c1) ∧ w.cell? ⟨b, off + i * 4 + 3, none⟩ = some (.slice pt al[i].cx.length ct) := by
  rcases h with rfl | ⟨b, off, h1, h2, h3⟩
  · simp at hi
  · obtain ⟨p0, c0, p1, c1, pt, ct, q0, q1, q2, q3, q4⟩ := h3 i _ (List.getElem?_eq_getElem hi)
    exact ⟨b, off, p0, c0, p1, c1, pt, ct, h1, h2, q0, q1, q2, q3, q4⟩
/-- A schema as an argument. -/
structure SA (w : World) (s : Sc) (pk : Option Addr) (ck : Nat) (pa : Option Addr) (ca : Nat) : Prop where
  ks : KdL w pk s.ks
  kl : s.ks.length ≤ ck
  km : ck ≤ maxLen
  asl : AcL w pa s.acs
  al : s.acs.length ≤ ca
  am : ca ≤ maxLen
theorem SA.up {w w' : World} {s : Sc} {pk pa : Option Addr} {ck ca : Nat} (h : SA w s pk ck pa ca) (hb : Below w.heap.size w w') : SA w' s pk ck pa ca := ⟨h.ks.up hb, h.kl, h.km, h.asl.up hb, h.al, h.am⟩
def scV (s : Sc) (pk : Option Addr) (ck : Nat) (pa : Option Addr) (ca : Nat) : Value := .agg #[.slice pk s.ks.length ck, .slice pa s.acs.length ca]
end Go.Proofs.YtpcikfpldmackaaDoor
namespace Go.Proofs.YtpcikfpldmackaaDoor
open Go.RowKit Go.Maps Go.WideMaps
set_option linter.unusedVariables false
set_option linter.unusedSimpArgs false
set_option maxRecDepth 100000

theorem tl_neS {a b : ByteArray} (h : a ≠ b) : ¬ a.toList = b.toList := fun e => h (bytes_inj (by simpa only [ByteArray.toList_eq] using e))
theorem skey_law : Keyed Tryd.prog 9 := string_keyed Tryd.underlying9
theorem zeroUnitS (w : World) : (zeroValue 133).run Tryd.prog w = .ok (.agg #[]) w := by kernel_rfl
/-- A set of names: a map of the call's own. -/
def NSet (w : World) (b : Nat) (L : List ByteArray) : Prop :=
  ∃ D : DataW Unit, w.ownsMap Tryd.prog 9 unitElem b L.length D ∧ (∀ s : ByteArray, Maps.has D (.string s.data.toList) = hasT s L) ∧ Maps.size D = L.length
theorem gbS_of {w w' : World} (h : Below w.heap.size w w') : w.grownBy w' none := ⟨h.os, h.tape, h.output, h.size, fun i hi _ => h.block i hi⟩
theorem NSet.made (w : World) : NSet (w.alloc (.map #[] 0)) w.heap.size [] := ⟨.map [], World.ownsMap_made _ _ _ _, fun s => by simp [Maps.has, hasT], rfl⟩
theorem NSet.up {w w' : World} {b : Nat} {L : List ByteArray} (h : NSet w b L) (k : Below w.heap.size w w') : NSet w' b L := by
  obtain ⟨D, h1, h2⟩ := h
  exact ⟨D, h1.kept (gbS_of k) (by simp), h2⟩
theorem NSet.lt {w : World} {b : Nat} {L : List ByteArray} (h : NSet w b L) : b < w.heap.size := by
  obtain ⟨D, h1, _⟩ := h
  exact h1.lt
theorem NSet.put {D : DataW Unit} {L : List ByteArray} {s : ByteArray} (ht : Tidy D) (h2 : ∀ s : ByteArray, Maps.has D (.string s.data.toList) = hasT s L) (h3 : Maps.size D = L.length) (hn : hasT s L = false) (d : DataW Unit) : (∀ v : ByteArray, Maps.has (D.put (.string s.data.toList) d) (.string v.data.toList) = hasT v (L ++ [s])) ∧ Maps.size (D.put (.string s.data.toList) d) = (L ++ [s]).length := by
  have hno : Maps.has D (.string s.data.toList) = false := by rw [h2, hn]
  have hkl : WideAt.IsKeyLit (.string s.data.toList) := trivial
  refine ⟨fun v => ?_, ?_⟩
  · by_cases e : v = s
    · subst e
      rw [has_put_same ht.isMap hkl]
      exact (hasT_iff.2 (by simp)).symm
    · rw [has_put_other (fun q => e (bytes_inj (by injection q))), h2 v, Bool.eq_iff_iff, hasT_iff, hasT_iff]
      simp [e]
  · rw [size_put ht, hno, h3]; simp
set_option maxHeartbeats 1000000 in
theorem sput_twice (b : Nat) (L : List ByteArray) (s : ByteArray) (w : World) (hs : NSet w b L) (hz : s.size ≤ maxLen) (h : hasT s L = true) :
    Calls Tryd.prog 47 #[.map (some b), .string s] w fun e w' => e = .returned (.iface 23 (.int .i64 6)) ∧ Below w.heap.size w w' := by
  obtain ⟨D, h1, h2, _⟩ := hs
  have hD : Maps.has D (.string s.data.toList) = true := by rw [h2, h]
  clear h2 h
  go_enter Tryd.func47, Tryd.ntmps47
  go_wp2_with (at_lookup; refine wpList_lookup_own_unit _ rfl _ _ 97 rfl 9 133 skey_law Tryd.underlying97 (zeroUnitS _) b L.length D rfl h1 _ _ rfl (keyOf_string_mk Tryd.underlying9 hz) ?_; rw [hD])
  go_ret
  exact ⟨rfl, kqx⟩
set_option maxHeartbeats 1000000 in
theorem sput_ok (b : Nat) (L : List ByteArray) (s : ByteArray) (w : World) (hs : NSet w b L) (hz : s.size ≤ maxLen) (h : hasT s L = false) (hl : L.length < 1000) :
    Calls Tryd.prog 47 #[.map (some b), .string s] w fun e w' => e = .returned .nilIface ∧ NSet w' b (L ++ [s]) ∧ w.grownBy w' (some b) := by
  have HS : Hid (NSet w b L) := hs
  obtain ⟨D, h1, h2, h3⟩ := hs
  have hD : Maps.has D (.string s.data.toList) = false := by rw [h2, h]
  have HT : Hid (_ ∧ _) := NSet.put (d := .agg []) (h1.tidy skey_law) h2 h3 h
  clear h2 h3 h
  go_enter Tryd.func47, Tryd.ntmps47
  have h1a := fun o => h1.alloc o
  go_wp2_with (first | (at_lookup; refine wpList_lookup_own_unit _ rfl _ _ 97 rfl 9 133 skey_law Tryd.underlying97 (zeroUnitS _) b L.length D rfl h1 _ _ rfl (keyOf_string_mk Tryd.underlying9 hz) ?_; rw [hD]) | (at_mapUpdate; refine wpList_mapUpdate_own _ rfl _ _ _ 97 rfl 9 133 skey_law Tryd.underlying97 _ b L.length D rfl (h1a _) (by unfold maxLen; omega) _ _ (.string s.data.toList) rfl rfl (keyOf_string_mk Tryd.underlying9 hz) (.agg []) [] unitElem_mk ?_; intro w3 hown3 hg3))
  go_ret
  refine ⟨rfl, ⟨_, by simpa using hown3, HT.out⟩, ((gbS_of kqx).but _).trans hg3⟩
theorem not_takeS {s : ByteArray} {l : List ByteArray} {k : Nat} (h : k < l.length) (h1 : s ∉ l.take k) (h2 : l[k] ≠ s) : s ∉ l.take (k + 1) := by
  rw [List.take_succ_eq_append_getElem h, List.mem_append, List.mem_singleton]
  rintro (h3 | h3)
  · exact h1 h3
  · exact h2 h3.symm
set_option maxHeartbeats 1000000 in
theorem indexS_any (s : ByteArray) (l : List ByteArray) (p : Option Addr) (c : Nat) (w : World) (hl : TL w p l) (hn : l.length ≤ maxLen) :
    Calls Tryd.prog 57 #[.slice p l.length c, .string s] w fun e w' => ∃ k : Int, e = .returned (.int .i64 k) ∧ (0 ≤ k ↔ s ∈ l) ∧ w' = w := by
  unfold maxLen at hn
  go_enter Tryd.func57, Tryd.ntmps57
  go_wp2
  go_loop [8] (fun i => ∃ k : Nat, k ≤ l.length ∧ i = .int .i64 k ∧ Hid (s ∉ l.take k)) (fun i => l.length - (intOf i).toNat)
  case atStart => exact ⟨0, Nat.zero_le _, rfl, fun h => by simp at h⟩
  case round =>
    obtain ⟨k, hk, rfl, HD⟩ := hrel
    by_cases hlt : k < l.length
    · obtain ⟨b1, o1, rfl, hb1, x0⟩ := hl.at hlt
      have i1 : (k : Int) < (l.length : Int) := by omega
      have HM : Hid (l[k] ∈ l) := List.getElem_mem _
      have HN : Hid (l[k] ≠ s → s ∉ l.take (k + 1)) := not_takeS hlt HD.out
      generalize l[k] = x at *
      by_cases h1 : s = x
      · subst h1
        clear HN
        go_wp2
        go_ret
        exact ⟨_, rfl, ⟨fun _ => HM.out, fun _ => by omega⟩, rfl⟩
      · have h1' : (s.toList == x.toList) = false := by simpa using tl_neS h1
        have HN2 : Hid (s ∉ l.take (k + 1)) := HN.out (fun e => h1 e.symm)
        clear HN h1 HM
        go_wp2
        go_round
        case rel => exact ⟨k + 1, by omega, by go_num, HN2⟩
        case measure => simp [intOf]; omega
    · have i1 : ¬ (k : Int) < (l.length : Int) := by omega
      have HS : Hid (s ∉ l) := by
        have := HD.out
        rw [List.take_of_length_le (by omega)] at this
        exact this
      clear HD
      go_wp2
      go_ret
      exact ⟨_, rfl, ⟨fun h => absurd h (by decide), fun h => absurd h HS.out⟩, rfl⟩
theorem containsS_any (s : ByteArray) (l : List ByteArray) (p : Option Addr) (c : Nat) (w : World) (hl : TA w l p c) :
    Calls Tryd.prog 33 #[.slice p l.length c, .string s] w fun e w' => e = .returned (.bool (hasT s l)) ∧ w' = w := by
  have H1 := indexS_any s l p c w hl.tl (Nat.le_trans hl.le hl.cm)
  go_enter Tryd.func33, Tryd.ntmps33
  go_wp2_with fail
  refine H1.mono ?_
  rintro e w1 ⟨k, rfl, hk, rfl⟩
  have HD : Hid (decide (0 ≤ k) = hasT s l) := by show _ = _; rw [Bool.eq_iff_iff, decide_eq_true_eq, hasT_iff]; exact hk
  clear hk H1
  go_wp2
  go_ret
  exact ⟨by rw [← HD.out]; rfl, rfl⟩
theorem nsf_step {l : List ByteArray} {k : Nat} (h : k < l.length) : nsf (l.drop k) = orE (nmf l[k]) (nsf (l.drop (k + 1))) := by rw [List.drop_eq_getElem_cons h]; rfl
set_option maxHeartbeats 1000000 in
theorem checkNames_any (l : List ByteArray) (p : Option Addr) (c : Nat) (w : World) (hl : TA w l p c) :
    Calls Tryd.prog 48 #[.slice p l.length c] w fun e w' => e = .returned (eV (nsf l)) ∧ w' = w := by
  have hn := Nat.le_trans hl.le hl.cm
  unfold maxLen at hn
  go_enter Tryd.func48, Tryd.ntmps48
  go_wp2
  go_loop [8] (fun i => ∃ k : Nat, k ≤ l.length ∧ i = .int .i64 k ∧ Hid (nsf l = nsf (l.drop k))) (fun i => l.length - (intOf i).toNat)
  case atStart => exact ⟨0, Nat.zero_le _, rfl, rfl⟩
  case round =>
    obtain ⟨k, hk, rfl, HD⟩ := hrel
    by_cases hlt : k < l.length
    · obtain ⟨b1, o1, rfl, hb1, x0⟩ := hl.tl.at hlt
      have i1 : (k : Int) < (l.length : Int) := by omega
      have HE : Hid (nsf l = orE (nmf l[k]) (nsf (l.drop (k + 1)))) := by show _ = _; rw [HD.out, nsf_step hlt]
      have HC := check_any l[k] w (hl.sz _ (List.getElem_mem _))
      have e1 : nfault l[k].data.toList = nmf l[k] := rfl
      rw [e1] at HC
      generalize l[k] = x at *
      clear e1 hl
      by_cases h0 : nmf x = 0
      · rw [eV_nil h0] at HC
        have HE2 : Hid (nsf l = nsf (l.drop (k + 1))) := by show _ = _; rw [HE.out, orE_r h0]
        clear HE h0 HD
        go_wp2_with fail
        refine HC.mono ?_
        rintro e w1 ⟨rfl, rfl⟩
        go_wp2
        go_round
        case rel => exact ⟨k + 1, by omega, by go_num, HE2⟩
        case measure => simp [intOf]; omega
      · rw [eV_not h0] at HC
        have HE2 : Hid (eV (nsf l) = .iface 23 (.int .i64 (nmf x))) := by show _ = _; rw [HE.out, orE_l h0, eV_not h0]
        clear HE h0 HD
        generalize nmf x = n at *
        go_wp2_with fail
        refine HC.mono ?_
        rintro e w1 ⟨rfl, rfl⟩
        go_wp2
        go_ret
        exact ⟨by rw [HE2.out]; rfl, rfl⟩
    · have i1 : ¬ (k : Int) < (l.length : Int) := by omega
      have HE2 : Hid (nsf l = 0) := by show _ = _; rw [HD.out, List.drop_of_length_le (by omega)]; rfl
      clear HD
      go_wp2
      go_ret
      exact ⟨by rw [HE2.out]; rfl, rfl⟩
end Go.Proofs.YtpcikfpldmackaaDoor
namespace Go.Proofs.YtpcikfpldmackaaDoor
open Go.RowKit
set_option linter.unusedVariables false
set_option maxRecDepth 100000

/-- Check of kinds. -/
theorem kcheck_any (v : List Nd) (w : World) (p : Option Addr) (c : Nat) (hv : NL w p v) (hc : v.length ≤ c) (hcm : c ≤ maxLen) :
    Calls Tryd.prog 74 #[.slice p v.length c] w fun e w' => e = .returned (eV (kfault v)) ∧ Below w.heap.size w w' := by
  by_cases h : kfault v = 0
  · obtain ⟨h1, x, k, h2⟩ := kfault_zero h
    have hC := read_ok v w p c hv hc hcm h1 x k h2
    rw [eV_nil h]
    clear hv h h1 h2
    go_enter Tryd.func74, Tryd.ntmps74
    go_wp2_with fail
    refine hC.mono ?_
    rintro _ w1 ⟨⟨q, c', rfl, _, _⟩, hb⟩
    go_wp2
    go_ret
    exact ⟨rfl, kqA hb⟩
  · have hC := read_err v w p c hv hc hcm h
    rw [eV_not h]
    generalize kfault v = n at *
    clear hv
    go_enter Tryd.func74, Tryd.ntmps74
    go_wp2_with fail
    refine hC.mono ?_
    rintro _ w1 ⟨rfl, hb⟩
    go_wp2
    go_ret
    exact ⟨rfl, kqA hb⟩
end Go.Proofs.YtpcikfpldmackaaDoor
namespace Go.Proofs.YtpcikfpldmackaaDoor
open Go.RowKit
set_option linter.unusedVariables false

theorem AK.check {a : List Nd} {w : World} {p : Option Addr} {c : Nat} (ha : AK w a p c) : Calls Tryd.prog 74 #[.slice p a.length c] w fun e w' => e = .returned (eV (kfault a)) ∧ Below w.heap.size w w' := kcheck_any a w p c ha.nl ha.le ha.cm
end Go.Proofs.YtpcikfpldmackaaDoor
namespace Go.Proofs.YtpcikfpldmackaaDoor
open Go.RowKit Go.Maps Go.WideMaps
set_option linter.unusedVariables false
set_option linter.unusedSimpArgs false
set_option maxRecDepth 100000

theorem opE_at {t : List Nd} (h : 0 < t.length) : opE t = if t[0].op = 46 then 0 else 2 := by
  cases t with
  | nil => simp at h
  | cons x r => rfl
set_option maxHeartbeats 1000000 in
theorem checkRec_any (t : List Nd) (p : Option Addr) (c : Nat) (w : World) (ht : AK w t p c) :
    Calls Tryd.prog 49 #[.slice p t.length c] w fun e w' => e = .returned (eV (rcf t)) ∧ Below w.heap.size w w' := by
  have HC := ht.check
  by_cases h0 : kfault t = 0
  · rw [eV_nil h0] at HC
    obtain ⟨_, x, k, hk⟩ := kfault_zero h0
    have hl : 0 < t.length := by rw [hk.2]; simp
    have HR : Hid (rcf t = if t[0].op = 46 then 0 else 2) := by show _ = _; unfold rcf; rw [orE_r h0, opE_at hl]
    obtain ⟨b, off, rfl, hbw, x0, hrest⟩ := ht.nl.at hl
    simp only [Nat.zero_mul, Nat.add_zero] at x0
    have i1 : (0 : Int) < (t.length : Int) := by omega
    clear hrest ht hk h0
    generalize t[0] = y at *
    by_cases h6 : y.op = 46
    · have e6 : (y.op != 46) = false := by simpa using h6
      have HE : Hid (eV (rcf t) = .nilIface) := by show _ = _; rw [HR.out, if_pos h6]; rfl
      clear h6 HR
      go_enter Tryd.func49, Tryd.ntmps49
      go_wp2_with fail
      refine HC.mono ?_
      rintro e w1 ⟨rfl, hb1⟩
      have z0 := (hb1.cell (p := ⟨b, off, none⟩) hbw).trans x0
      go_wp2
      go_ret
      exact ⟨by rw [HE.out]; rfl, hb1⟩
    · have e6 : (y.op != 46) = true := by simpa using h6
      have HE : Hid (eV (rcf t) = .iface 23 (.int .i64 2)) := by show _ = _; rw [HR.out, if_neg h6]; rfl
      clear h6 HR
      go_enter Tryd.func49, Tryd.ntmps49
      go_wp2_with fail
      refine HC.mono ?_
      rintro e w1 ⟨rfl, hb1⟩
      have z0 := (hb1.cell (p := ⟨b, off, none⟩) hbw).trans x0
      go_wp2
      go_ret
      exact ⟨by rw [HE.out]; rfl, hb1⟩
  · rw [eV_not h0] at HC
    have HE : Hid (eV (rcf t) = .iface 23 (.int .i64 (kfault t))) := by show _ = _; unfold rcf; rw [orE_l h0, eV_not h0]
    generalize kfault t = n at *
    clear ht h0
    go_enter Tryd.func49, Tryd.ntmps49
    go_wp2_with fail
    refine HC.mono ?_
    rintro e w1 ⟨rfl, hb1⟩
    go_wp2
    go_ret
    exact ⟨by rw [HE.out]; rfl, hb1⟩
set_option maxHeartbeats 1000000 in
theorem wantType_any (t v : List Nd) (p q : Option Addr) (c d : Nat) (w : World) (ht : AK w t p c) (hv : AK w v q d) :
    Calls Tryd.prog 34 #[.slice p t.length c, .slice q v.length d] w fun e w' => e = .returned (eV (wtf t v)) ∧ Below w.heap.size w w' := by
  rcases has_ways t v with ⟨x, y, k, l, h1, h2, h3, h4, h5⟩ | h
  · have HC := AK.has ht hv h1 h2 h3 h4 h5
    rw [← hasB_of h3 h4] at HC
    have HE : Hid (wtf t v = if hasB t v then 0 else 2) := by
      show _ = _
      unfold wtf hfault
      rw [if_pos (kfault_ok h1 h3), h5]
      rfl
    clear ht hv h1 h2 h3 h4 h5
    generalize hasB t v = r at *
    cases r
    · have HE2 : Hid (eV (wtf t v) = .iface 23 (.int .i64 2)) := by show _ = _; rw [HE.out]; rfl
      clear HE
      go_enter Tryd.func34, Tryd.ntmps34
      go_wp2_with fail
      refine HC.mono ?_
      rintro e w1 ⟨rfl, hb1⟩
      go_wp2
      go_ret
      exact ⟨by rw [HE2.out]; rfl, hb1⟩
    · have HE2 : Hid (eV (wtf t v) = .nilIface) := by show _ = _; rw [HE.out]; rfl
      clear HE
      go_enter Tryd.func34, Tryd.ntmps34
      go_wp2_with fail
      refine HC.mono ?_
      rintro e w1 ⟨rfl, hb1⟩
      go_wp2
      go_ret
      exact ⟨by rw [HE2.out]; rfl, hb1⟩
  · have HC := AK.has_err ht hv h
    have HE2 : Hid (eV (wtf t v) = .iface 23 (.int .i64 (hfault t v))) := by show _ = _; unfold wtf; rw [orE_l h, eV_not h]
    clear ht hv h
    generalize hfault t v = n at *
    go_enter Tryd.func34, Tryd.ntmps34
    go_wp2_with fail
    refine HC.mono ?_
    rintro e w1 ⟨rfl, hb1⟩
    go_wp2
    go_ret
    exact ⟨by rw [HE2.out]; rfl, hb1⟩
theorem ksf_step {ks : List Kd} {k : Nat} (h : k < ks.length) : ksf ((ks.take k).map (·.nm)) (ks.drop k) = orE (kdf ((ks.take k).map (·.nm)) ks[k]) (ksf ((ks.take (k + 1)).map (·.nm)) (ks.drop (k + 1))) := by
  rw [List.take_succ_eq_append_getElem h, List.map_append]
  rw [List.drop_eq_getElem_cons h]
  rfl
/-- Where a kind's error comes from. -/
theorem kdf_ways (seen : List ByteArray) (k : Kd) : (nmf k.nm ≠ 0 ∧ kdf seen k = nmf k.nm) ∨ (nmf k.nm = 0 ∧ hasT k.nm seen = true ∧ kdf seen k = 6) ∨ (nmf k.nm = 0 ∧ hasT k.nm seen = false ∧ 6 < k.up.length ∧ kdf seen k = 4) ∨ (nmf k.nm = 0 ∧ hasT k.nm seen = false ∧ ¬ 6 < k.up.length ∧ nsf k.up ≠ 0 ∧ kdf seen k = nsf k.up) ∨ (nmf k.nm = 0 ∧ hasT k.nm seen = false ∧ ¬ 6 < k.up.length ∧ nsf k.up = 0 ∧ kdf seen k = rcf k.ty) := by
  unfold kdf
  by_cases h1 : nmf k.nm = 0
  · rw [orE_r h1]
    cases h2 : hasT k.nm seen
    · rw [orE_r (by unfold twE; rw [h2]; rfl)]
      by_cases h3 : 6 < k.up.length
      · exact .inr (.inr (.inl ⟨h1, rfl, h3, by rw [decide_eq_true h3]; rfl⟩))
      · rw [orE_r (by rw [decide_eq_false h3]; rfl)]
        by_cases h4 : nsf k.up = 0
        · exact .inr (.inr (.inr (.inr ⟨h1, rfl, h3, h4, orE_r h4⟩)))
        · exact .inr (.inr (.inr (.inl ⟨h1, rfl, h3, h4, orE_l h4⟩)))
    · exact .inr (.inl ⟨h1, rfl, by unfold twE; rw [h2]; rfl⟩)
  · exact .inl ⟨h1, orE_l h1⟩
theorem grown_cell {w w' : World} {r : Nat} (h : w.grownBy w' (some r)) {a : Addr} (hl : a.block < w.heap.size) (hn : a.block ≠ r) : w'.cell? a = w.cell? a := World.cell?_of_block (h.block _ hl (fun e => hn (Option.some.inj e)))
set_option maxHeartbeats 4000000 in
theorem checkKinds_any (ks : List Kd) (p : Option Addr) (c : Nat) (w : World) (hl : KdL w p ks) (h8 : ks.length ≤ 8) :
    Calls Tryd.prog 28 #[.slice p ks.length c] w fun e w' => e = .returned (eV (ksf [] ks)) ∧ Below w.heap.size w w' := by
  have HL : Hid (KdL w p ks) := hl
  have hmm := @run_makeMap Tryd.prog
  clear hl
  go_enter Tryd.func28, Tryd.ntmps28
  go_wp2_with fail
  go_loopw [13] (fun i wr => ∃ k : Nat, k ≤ ks.length ∧ i = .int .i64 k ∧ NSet wr w.heap.size ((ks.take k).map (·.nm)) ∧ Below w.heap.size w wr ∧ Hid (ksf [] ks = ksf ((ks.take k).map (·.nm)) (ks.drop k))) (fun i _ => ks.length - (intOf i).toNat)
  case atStart => exact ⟨0, Nat.zero_le _, rfl, by simpa using NSet.made w, (Below.refl _ _).alloc (Nat.le_refl _) _, by simp [Hid]⟩
  case round =>
    rename World => wr
    obtain ⟨k, hk, rfl, hset, hnx, HR⟩ := hrel
    by_cases hlt : k < ks.length
    · have i1 : (k : Int) < (ks.length : Int) := by omega
      obtain ⟨b, off, pu, cu, pt, ct, rfl, hbl, hkv, c0, c1, c2⟩ := HL.out.at hlt
      replace c0 := (hnx.cell (p := ⟨b, off + k * 3, none⟩) hbl).trans c0
      replace c1 := (hnx.cell (p := ⟨b, off + k * 3 + 1, none⟩) hbl).trans c1
      replace c2 := (hnx.cell (p := ⟨b, off + k * 3 + 2, none⟩) hbl).trans c2
      have HS : Hid (ksf [] ks = orE (kdf ((ks.take k).map (·.nm)) ks[k]) (ksf ((ks.take (k + 1)).map (·.nm)) (ks.drop (k + 1)))) := by show _ = _; rw [HR.out]; exact ksf_step hlt
      have HT : Hid ((ks.take (k + 1)).map (·.nm) = (ks.take k).map (·.nm) ++ [ks[k].nm]) := by show _ = _; rw [List.take_succ_eq_append_getElem hlt, List.map_append]; rfl
      have hsl : ((ks.take k).map (·.nm)).length < 1000 := by simp; omega
      generalize ks[k] = x at *
      obtain ⟨nm, up, ty⟩ := x
      dsimp only at c0 c1 c2
      obtain ⟨V, hV⟩ : ∃ V, V = wr.alloc (.cells #[.string nm, .slice pu up.length cu, .slice pt ty.length ct] 57) := ⟨_, rfl⟩
      have hbV : Below wr.heap.size wr V := by rw [hV]; exact kqx
      have hVs : V.heap.size = wr.heap.size + 1 := by rw [hV]; simp
      have v0 : V.cell? ⟨wr.heap.size, 0, none⟩ = some (.string nm) := by rw [hV]; simp
      have v1 : V.cell? ⟨wr.heap.size, 1, none⟩ = some (.slice pu up.length cu) := by rw [hV]; simp
      have v2 : V.cell? ⟨wr.heap.size, 2, none⟩ = some (.slice pt ty.length ct) := by rw [hV]; simp
      have hwr := hset.lt
      have hbw := kqt hnx hbV
      have HC := check_any nm V hkv.nm
      have eC : nfault nm.data.toList = nmf nm := rfl
      rw [eC] at HC
      have HS2 := hset.up hbV
      rcases kdf_ways ((ks.take k).map (·.nm)) ⟨nm, up, ty⟩ with ⟨n1, e1⟩ | ⟨n1, n2, e1⟩ | ⟨n1, n2, n3, e1⟩ | ⟨n1, n2, n3, n4, e1⟩ | ⟨n1, n2, n3, n4, e1⟩
      · rw [eV_not n1] at HC
        have HE : Hid (eV (ksf [] ks) = .iface 23 (.int .i64 (nmf nm))) := by show _ = _; rw [HS.out, e1, orE_l n1, eV_not n1]
        clear e1 n1 HS HR hset HS2
        generalize nmf nm = n at *
        go_wp2_with fail
        rw [← hV]
        clear hV
        refine HC.mono ?_
        rintro e w1 ⟨rfl, rfl⟩
        go_wp2
        go_ret
        exact ⟨by rw [HE.out]; rfl, hbw⟩
      · rw [eV_nil n1] at HC
        have HE : Hid (eV (ksf [] ks) = .iface 23 (.int .i64 6)) := by show _ = _; rw [HS.out, e1]; rfl
        have HP := sput_twice w.heap.size _ nm V HS2 hkv.nm n2
        clear e1 n1 HS HR hset HS2 n2
        go_wp2_with fail
        rw [← hV]
        clear hV
        refine HC.mono ?_
        rintro e w1 ⟨rfl, rfl⟩
        go_wp2_with fail
        refine HP.mono ?_
        rintro e w2 ⟨rfl, hb2⟩
        go_wp2
        go_ret
        exact ⟨by rw [HE.out]; rfl, kqt hbw hb2⟩
      · rw [eV_nil n1] at HC
        have HE : Hid (eV (ksf [] ks) = .iface 23 (.int .i64 4)) := by show _ = _; rw [HS.out, e1]; rfl
        have HP := sput_ok w.heap.size _ nm V HS2 hkv.nm n2 hsl
        have i6 : (6 : Int) < (up.length : Int) := by dsimp only at n3; omega
        clear e1 n1 HS HR hset HS2 n2 n3
        go_wp2_with fail
        rw [← hV]
        clear hV
        refine HC.mono ?_
        rintro e w1 ⟨rfl, rfl⟩
        go_wp2_with fail
        refine HP.mono ?_
        rintro e w2 ⟨rfl, hset2, hg2⟩
        have u1 := (grown_cell hg2 (a := ⟨wr.heap.size, 1, none⟩) (by show wr.heap.size < _; omega) (by show wr.heap.size ≠ _; omega)).trans v1
        have hb2 := hbw.grown hg2 hbw.size (fun j hj => by cases hj; exact Nat.le_refl _)
        go_wp2
        go_ret
        exact ⟨by rw [HE.out]; rfl, hb2⟩
      · rw [eV_nil n1] at HC
        have HE : Hid (eV (ksf [] ks) = .iface 23 (.int .i64 (nsf up))) := by show _ = _; rw [HS.out, e1, orE_l n4, eV_not n4]
        have HP := sput_ok w.heap.size _ nm V HS2 hkv.nm n2 hsl
        have i6 : ¬ (6 : Int) < (up.length : Int) := by dsimp only at n3; omega
        have HN := fun W (hW : Below w.heap.size w W) => checkNames_any up pu cu W (hkv.us.up hW)
        rw [eV_not n4] at HN
        clear e1 n1 HS HR hset HS2 n2 n3 n4
        dsimp only at HN
        generalize nsf up = n at *
        go_wp2_with fail
        rw [← hV]
        clear hV
        refine HC.mono ?_
        rintro e w1 ⟨rfl, rfl⟩
        go_wp2_with fail
        refine HP.mono ?_
        rintro e w2 ⟨rfl, hset2, hg2⟩
        have u1 := (grown_cell hg2 (a := ⟨wr.heap.size, 1, none⟩) (by show wr.heap.size < _; omega) (by show wr.heap.size ≠ _; omega)).trans v1
        have hb2 := hbw.grown hg2 hbw.size (fun j hj => by cases hj; exact Nat.le_refl _)
        go_wp2_with fail
        refine (HN w2 hb2).mono ?_
        rintro e w3 ⟨rfl, rfl⟩
        go_wp2
        go_ret
        exact ⟨by rw [HE.out]; rfl, hb2⟩
      · rw [eV_nil n1] at HC
        have HP := sput_ok w.heap.size _ nm V HS2 hkv.nm n2 hsl
        have i6 : ¬ (6 : Int) < (up.length : Int) := by dsimp only at n3; omega
        have HN := fun W (hW : Below w.heap.size w W) => checkNames_any up pu cu W (hkv.us.up hW)
        rw [eV_nil n4] at HN
        have HQ := fun W (hW : Below w.heap.size w W) => checkRec_any ty pt ct W (hkv.ty.up hW)
        rw [e1] at HS
        clear e1 n1 hset HS2 n2 n3 n4 HR
        dsimp only at HN HQ HS HT HP
        by_cases h0 : rcf ty = 0
        · have HE : Hid (ksf [] ks = ksf ((ks.take (k + 1)).map (·.nm)) (ks.drop (k + 1))) := by show _ = _; rw [HS.out, orE_r h0]
          rw [eV_nil h0] at HQ
          clear HS h0
          go_wp2_with fail
          rw [← hV]
          clear hV
          refine HC.mono ?_
          rintro e w1 ⟨rfl, rfl⟩
          go_wp2_with fail
          refine HP.mono ?_
          rintro e w2 ⟨rfl, hset2, hg2⟩
          have u1 := (grown_cell hg2 (a := ⟨wr.heap.size, 1, none⟩) (by show wr.heap.size < _; omega) (by show wr.heap.size ≠ _; omega)).trans v1
          have u2 := (grown_cell hg2 (a := ⟨wr.heap.size, 2, none⟩) (by show wr.heap.size < _; omega) (by show wr.heap.size ≠ _; omega)).trans v2
          have hb2 := hbw.grown hg2 hbw.size (fun j hj => by cases hj; exact Nat.le_refl _)
          go_wp2_with fail
          refine (HN w2 hb2).mono ?_
          rintro e w3 ⟨rfl, rfl⟩
          go_wp2_with fail
          refine (HQ _ hb2).mono ?_
          rintro e w4 ⟨rfl, hb4⟩
          have hset4 := hset2.up hb4
          have hb04 := kqt hb2 hb4
          clear hset2
          go_wp2
          go_roundw
          case rel => exact ⟨k + 1, by omega, by go_num, by rw [HT.out]; exact hset4, hb04, HE⟩
          case measure => simp [intOf]; omega
        · have HE : Hid (eV (ksf [] ks) = .iface 23 (.int .i64 (rcf ty))) := by show _ = _; rw [HS.out, orE_l h0, eV_not h0]
          rw [eV_not h0] at HQ
          clear HS h0
          generalize rcf ty = n at *
          go_wp2_with fail
          rw [← hV]
          clear hV
          refine HC.mono ?_
          rintro e w1 ⟨rfl, rfl⟩
          go_wp2_with fail
          refine HP.mono ?_
          rintro e w2 ⟨rfl, hset2, hg2⟩
          have u1 := (grown_cell hg2 (a := ⟨wr.heap.size, 1, none⟩) (by show wr.heap.size < _; omega) (by show wr.heap.size ≠ _; omega)).trans v1
          have u2 := (grown_cell hg2 (a := ⟨wr.heap.size, 2, none⟩) (by show wr.heap.size < _; omega) (by show wr.heap.size ≠ _; omega)).trans v2
          have hb2 := hbw.grown hg2 hbw.size (fun j hj => by cases hj; exact Nat.le_refl _)
          go_wp2_with fail
          refine (HN w2 hb2).mono ?_
          rintro e w3 ⟨rfl, rfl⟩
          go_wp2_with fail
          refine (HQ _ hb2).mono ?_
          rintro e w4 ⟨rfl, hb4⟩
          go_wp2
          go_ret
          exact ⟨by rw [HE.out]; rfl, kqt hb2 hb4⟩
    · have i1 : ¬ (k : Int) < (ks.length : Int) := by omega
      have HE : Hid (ksf [] ks = 0) := by show _ = _; rw [HR.out, List.drop_of_length_le (by omega)]; rfl
      clear HR
      go_wp2
      go_ret
      exact ⟨by rw [HE.out]; rfl, hnx⟩
end Go.Proofs.YtpcikfpldmackaaDoor
namespace Go.Proofs.YtpcikfpldmackaaDoor
open Go.RowKit Go.Maps Go.WideMaps
set_option linter.unusedVariables false
set_option linter.unusedSimpArgs false
set_option maxRecDepth 100000

theorem asf_step {al : List Ac} {k : Nat} (h : k < al.length) : asf ((al.take k).map (·.id)) (al.drop k) = orE (acf ((al.take k).map (·.id)) al[k]) (asf ((al.take (k + 1)).map (·.id)) (al.drop (k + 1))) := by
  rw [List.take_succ_eq_append_getElem h, List.map_append]
  rw [List.drop_eq_getElem_cons h]
  rfl
/-- Where an act's error comes from. -/
theorem acf_ways (seen : List ByteArray) (a : Ac) : (tmf a.id ≠ 0 ∧ acf seen a = tmf a.id) ∨ (tmf a.id = 0 ∧ hasT a.id seen = true ∧ acf seen a = 6) ∨ (tmf a.id = 0 ∧ hasT a.id seen = false ∧ (6 < a.who.length ∨ 6 < a.what.length) ∧ acf seen a = 4) ∨ (tmf a.id = 0 ∧ hasT a.id seen = false ∧ a.who.length ≤ 6 ∧ a.what.length ≤ 6 ∧ acf seen a = orE (nsf a.who) (orE (nsf a.what) (rcf a.cx))) := by
  unfold acf
  by_cases h1 : tmf a.id = 0
  · rw [orE_r h1]
    cases h2 : hasT a.id seen
    · rw [orE_r (by unfold twE; rw [h2]; rfl)]
      by_cases h3 : 6 < a.who.length ∨ 6 < a.what.length
      · exact .inr (.inr (.inl ⟨h1, rfl, h3, by rw [decide_eq_true h3]; rfl⟩))
      · rw [orE_r (by rw [decide_eq_false h3]; rfl)]
        exact .inr (.inr (.inr ⟨h1, rfl, by omega, by omega, rfl⟩))
    · exact .inr (.inl ⟨h1, rfl, by unfold twE; rw [h2]; rfl⟩)
  · exact .inl ⟨h1, orE_l h1⟩
set_option maxHeartbeats 8000000 in
theorem checkActs_any (al : List Ac) (p : Option Addr) (c : Nat) (w : World) (hl : AcL w p al) (h8 : al.length ≤ 8) :
    Calls Tryd.prog 29 #[.slice p al.length c] w fun e w' => e = .returned (eV (asf [] al)) ∧ Below w.heap.size w w' := by
  have HL : Hid (AcL w p al) := hl
  have hmm := @run_makeMap Tryd.prog
  clear hl
  go_enter Tryd.func29, Tryd.ntmps29
  go_wp2_with fail
  go_loopw [15] (fun i wr => ∃ k : Nat, k ≤ al.length ∧ i = .int .i64 k ∧ NSet wr w.heap.size ((al.take k).map (·.id)) ∧ Below w.heap.size w wr ∧ Hid (asf [] al = asf ((al.take k).map (·.id)) (al.drop k))) (fun i _ => al.length - (intOf i).toNat)
  case atStart => exact ⟨0, Nat.zero_le _, rfl, by simpa using NSet.made w, (Below.refl _ _).alloc (Nat.le_refl _) _, by simp [Hid]⟩
  case round =>
    rename World => wr
    obtain ⟨k, hk, rfl, hset, hnx, HR⟩ := hrel
    by_cases hlt : k < al.length
    · have i1 : (k : Int) < (al.length : Int) := by omega
      obtain ⟨b, off, p0, c0', p1, c1', pt, ct, rfl, hbl, hkv, c0, c1, c2, c3⟩ := HL.out.at hlt
      replace c0 := (hnx.cell (p := ⟨b, off + k * 4, none⟩) hbl).trans c0
      replace c1 := (hnx.cell (p := ⟨b, off + k * 4 + 1, none⟩) hbl).trans c1
      replace c2 := (hnx.cell (p := ⟨b, off + k * 4 + 2, none⟩) hbl).trans c2
      replace c3 := (hnx.cell (p := ⟨b, off + k * 4 + 3, none⟩) hbl).trans c3
      have HS : Hid (asf [] al = orE (acf ((al.take k).map (·.id)) al[k]) (asf ((al.take (k + 1)).map (·.id)) (al.drop (k + 1)))) := by show _ = _; rw [HR.out]; exact asf_step hlt
      have HT : Hid ((al.take (k + 1)).map (·.id) = (al.take k).map (·.id) ++ [al[k].id]) := by show _ = _; rw [List.take_succ_eq_append_getElem hlt, List.map_append]; rfl
      have hsl : ((al.take k).map (·.id)).length < 1000 := by simp; omega
      generalize al[k] = x at *
      obtain ⟨nm, us, vs, ty⟩ := x
      dsimp only at c0 c1 c2 c3
      obtain ⟨V, hV⟩ : ∃ V, V = wr.alloc (.cells #[.string nm, .slice p0 us.length c0', .slice p1 vs.length c1', .slice pt ty.length ct] 45) := ⟨_, rfl⟩
      have hbV : Below wr.heap.size wr V := by rw [hV]; exact kqx
      have hVs : V.heap.size = wr.heap.size + 1 := by rw [hV]; simp
      have v0 : V.cell? ⟨wr.heap.size, 0, none⟩ = some (.string nm) := by rw [hV]; simp
      have v1 : V.cell? ⟨wr.heap.size, 1, none⟩ = some (.slice p0 us.length c0') := by rw [hV]; simp
      have v2 : V.cell? ⟨wr.heap.size, 2, none⟩ = some (.slice p1 vs.length c1') := by rw [hV]; simp
      have v3 : V.cell? ⟨wr.heap.size, 3, none⟩ = some (.slice pt ty.length ct) := by rw [hV]; simp
      have hwr := hset.lt
      have hbw := kqt hnx hbV
      have HC := quoteN_any nm V hkv.id
      have eC : tfault nm.data.toList = tmf nm := rfl
      rw [eC] at HC
      have hcV : ∀ w', Below V.heap.size V w' → w'.cell? ⟨wr.heap.size, 0, none⟩ = some (.string nm) ∧ w'.cell? ⟨wr.heap.size, 1, none⟩ = some (.slice p0 us.length c0') ∧ w'.cell? ⟨wr.heap.size, 2, none⟩ = some (.slice p1 vs.length c1') ∧ w'.cell? ⟨wr.heap.size, 3, none⟩ = some (.slice pt ty.length ct) := fun w' h => ⟨(h.cell (p := ⟨wr.heap.size, 0, none⟩) (by show wr.heap.size < _; omega)).trans v0, (h.cell (p := ⟨wr.heap.size, 1, none⟩) (by show wr.heap.size < _; omega)).trans v1, (h.cell (p := ⟨wr.heap.size, 2, none⟩) (by show wr.heap.size < _; omega)).trans v2, (h.cell (p := ⟨wr.heap.size, 3, none⟩) (by show wr.heap.size < _; omega)).trans v3⟩
      have HCV : Hid (∀ w', _) := hcV
      have HS2 := hset.up hbV
      have HSV : Hid (NSet V w.heap.size _) := HS2
      have HKV : Hid (AcV w ⟨nm, us, vs, ty⟩ p0 c0' p1 c1' pt ct) := hkv
      clear hcV v0 v1 v2 v3 hset HS2 hkv
      rcases acf_ways ((al.take k).map (·.id)) ⟨nm, us, vs, ty⟩ with ⟨n1, e1⟩ | ⟨n1, n2, e1⟩ | ⟨n1, n2, n3, e1⟩ | ⟨n1, n2, n3, n4, e1⟩
      · rw [eV_not n1] at HC
        have HE : Hid (eV (asf [] al) = .iface 23 (.int .i64 (tmf nm))) := by show _ = _; rw [HS.out, e1, orE_l n1, eV_not n1]
        clear e1 n1 HS HR
        generalize tmf nm = n at *
        go_wp2_with fail
        rw [← hV]
        clear hV
        refine HC.mono ?_
        rintro e w1 ⟨q, _, rfl, hb1⟩
        go_wp2
        go_ret
        exact ⟨by rw [HE.out]; rfl, kqt hbw hb1⟩
      all_goals
        rw [eV_nil n1] at HC
        clear n1 HR
        go_wp2_with fail
        rw [← hV]
        clear hV
        refine HC.mono ?_
        rintro e w1 ⟨q, _, rfl, hb1⟩
        obtain ⟨v0, v1, v2, v3⟩ := HCV.out w1 hb1
        have hb01 := kqt hbw hb1
        have hs1 := HSV.out.up hb1
        have hw1 : wr.heap.size < w1.heap.size := by have := hb1.size; omega
        clear HCV HSV HC
      · have HE : Hid (eV (asf [] al) = .iface 23 (.int .i64 6)) := by show _ = _; rw [HS.out, e1]; rfl
        have HP := sput_twice w.heap.size _ nm w1 hs1 HKV.out.id n2
        clear e1 HS n2 hs1
        go_wp2_with fail
        refine HP.mono ?_
        rintro e w2 ⟨rfl, hb2⟩
        go_wp2
        go_ret
        exact ⟨by rw [HE.out]; rfl, kqt hb01 hb2⟩
      all_goals
        have HP := sput_ok w.heap.size _ nm w1 hs1 HKV.out.id n2 hsl
        clear n2 hs1
        go_wp2_with fail
        refine HP.mono ?_
        rintro e w2 ⟨rfl, hset2, hg2⟩
        have u1 := (grown_cell hg2 (a := ⟨wr.heap.size, 1, none⟩) hw1 (by show wr.heap.size ≠ _; omega)).trans v1
        have u2 := (grown_cell hg2 (a := ⟨wr.heap.size, 2, none⟩) hw1 (by show wr.heap.size ≠ _; omega)).trans v2
        have u3 := (grown_cell hg2 (a := ⟨wr.heap.size, 3, none⟩) hw1 (by show wr.heap.size ≠ _; omega)).trans v3
        have hb2 := hb01.grown hg2 hb01.size (fun j hj => by cases hj; exact Nat.le_refl _)
        clear v0 v1 v2 v3 HP hg2
      · have HE : Hid (eV (asf [] al) = .iface 23 (.int .i64 4)) := by show _ = _; rw [HS.out, e1]; rfl
        clear e1 HS
        try dsimp only at n3
        by_cases h6 : 6 < us.length
        · have j1 : (6 : Int) < (us.length : Int) := by omega
          clear n3 h6
          go_wp2
          go_ret
          exact ⟨by rw [HE.out]; rfl, hb2⟩
        · have j1 : ¬ (6 : Int) < (us.length : Int) := by omega
          have j2 : (6 : Int) < (vs.length : Int) := by omega
          clear n3 h6
          go_wp2
          go_ret
          exact ⟨by rw [HE.out]; rfl, hb2⟩
      · try dsimp only at n3
        try dsimp only at n4
        try dsimp only at e1
        try dsimp only at HT
        have j1 : ¬ (6 : Int) < (us.length : Int) := by omega
        have j2 : ¬ (6 : Int) < (vs.length : Int) := by omega
        have HN1 := checkNames_any us p0 c0' w2 (HKV.out.us.up hb2)
        have HN2 := checkNames_any vs p1 c1' w2 (HKV.out.vs.up hb2)
        have HQ := checkRec_any ty pt ct w2 (HKV.out.ty.up hb2)
        rw [e1] at HS
        clear e1 n3 n4
        by_cases h1 : nsf us = 0
        · rw [eV_nil h1] at HN1
          rw [orE_r h1] at HS
          by_cases h2 : nsf vs = 0
          · rw [eV_nil h2] at HN2
            rw [orE_r h2] at HS
            by_cases h0 : rcf ty = 0
            · have HE : Hid (asf [] al = asf ((al.take (k + 1)).map (·.id)) (al.drop (k + 1))) := by show _ = _; rw [HS.out, orE_r h0]
              rw [eV_nil h0] at HQ
              clear HS h0 h1 h2
              go_wp2_with fail
              refine HN1.mono ?_
              rintro e w3 ⟨rfl, rfl⟩
              go_wp2_with fail
              refine HN2.mono ?_
              rintro e w3 ⟨rfl, rfl⟩
              go_wp2_with fail
              refine HQ.mono ?_
              rintro e w4 ⟨rfl, hb4⟩
              have hset4 := hset2.up hb4
              have hb04 := kqt hb2 hb4
              clear hset2
              go_wp2
              go_roundw
              case rel => exact ⟨k + 1, by omega, by go_num, by rw [HT.out]; exact hset4, hb04, HE⟩
              case measure => simp [intOf]; omega
            · have HE : Hid (eV (asf [] al) = .iface 23 (.int .i64 (rcf ty))) := by show _ = _; rw [HS.out, orE_l h0, eV_not h0]
              rw [eV_not h0] at HQ
              clear HS h0 h1 h2
              generalize rcf ty = n at *
              go_wp2_with fail
              refine HN1.mono ?_
              rintro e w3 ⟨rfl, rfl⟩
              go_wp2_with fail
              refine HN2.mono ?_
              rintro e w3 ⟨rfl, rfl⟩
              go_wp2_with fail
              refine HQ.mono ?_
              rintro e w4 ⟨rfl, hb4⟩
              go_wp2
              go_ret
              exact ⟨by rw [HE.out]; rfl, kqt hb2 hb4⟩
          · have HE : Hid (eV (asf [] al) = .iface 23 (.int .i64 (nsf vs))) := by show _ = _; rw [HS.out, orE_l h2, orE_l h2, eV_not h2]
            rw [eV_not h2] at HN2
            clear HS h1 h2 HQ
            generalize nsf vs = n at *
            go_wp2_with fail
            refine HN1.mono ?_
            rintro e w3 ⟨rfl, rfl⟩
            go_wp2_with fail
            refine HN2.mono ?_
            rintro e w3 ⟨rfl, rfl⟩
            go_wp2
            go_ret
            exact ⟨by rw [HE.out]; rfl, hb2⟩
        · have HE : Hid (eV (asf [] al) = .iface 23 (.int .i64 (nsf us))) := by show _ = _; rw [HS.out, orE_l h1, orE_l h1, eV_not h1]
          rw [eV_not h1] at HN1
          clear HS h1 HN2 HQ
          generalize nsf us = n at *
          go_wp2_with fail
          refine HN1.mono ?_
          rintro e w3 ⟨rfl, rfl⟩
          go_wp2
          go_ret
          exact ⟨by rw [HE.out]; rfl, hb2⟩
    · have i1 : ¬ (k : Int) < (al.length : Int) := by omega
      have HE : Hid (asf [] al = 0) := by show _ = _; rw [HR.out, List.drop_of_length_le (by omega)]; rfl
      clear HR
      go_wp2
      go_ret
      exact ⟨by rw [HE.out]; rfl, hnx⟩
theorem scf_ways (s : Sc) : ((8 < s.ks.length ∨ 8 < s.acs.length) ∧ scf s = 4) ∨ (s.ks.length ≤ 8 ∧ s.acs.length ≤ 8 ∧ scf s = orE (ksf [] s.ks) (asf [] s.acs)) := by
  unfold scf
  by_cases h : 8 < s.ks.length ∨ 8 < s.acs.length
  · exact .inl ⟨h, by rw [decide_eq_true h]; rfl⟩
  · exact .inr ⟨by omega, by omega, by rw [decide_eq_false h]; rfl⟩
set_option maxHeartbeats 2000000 in
/-- Check of a schema. -/
theorem scheck_any (s : Sc) (pk pa : Option Addr) (ck ca : Nat) (w : World) (h : SA w s pk ck pa ca) :
    Calls Tryd.prog 14 #[scV s pk ck pa ca] w fun e w' => e = .returned (eV (scf s)) ∧ Below w.heap.size w w' := by
  unfold scV
  obtain ⟨V, hV⟩ : ∃ V, V = w.alloc (.cells #[.slice pk s.ks.length ck, .slice pa s.acs.length ca] 37) := ⟨_, rfl⟩
  have hbV : Below w.heap.size w V := by rw [hV]; exact kqx
  have hVs : V.heap.size = w.heap.size + 1 := by rw [hV]; simp
  have v0 : V.cell? ⟨w.heap.size, 0, none⟩ = some (.slice pk s.ks.length ck) := by rw [hV]; simp
  have v1 : V.cell? ⟨w.heap.size, 1, none⟩ = some (.slice pa s.acs.length ca) := by rw [hV]; simp
  have HSA : Hid (SA V s pk ck pa ca) := h.up hbV
  clear h
  rcases scf_ways s with ⟨h8, e⟩ | ⟨hk, ha, e⟩
  · have HE : Hid (scf s = 4) := e
    clear e
    by_cases h6 : 8 < s.ks.length
    · have j1 : (8 : Int) < (s.ks.length : Int) := by omega
      clear h8 h6
      go_enter Tryd.func14, Tryd.ntmps14
      go_wp2
      go_ret
      exact ⟨by rw [HE.out]; rfl, kqx⟩
    · have j1 : ¬ (8 : Int) < (s.ks.length : Int) := by omega
      have j2 : (8 : Int) < (s.acs.length : Int) := by omega
      clear h8 h6
      go_enter Tryd.func14, Tryd.ntmps14
      go_wp2
      go_ret
      exact ⟨by rw [HE.out]; rfl, kqx⟩
  · have HE : Hid (scf s = orE (ksf [] s.ks) (asf [] s.acs)) := e
    have j1 : ¬ (8 : Int) < (s.ks.length : Int) := by omega
    have j2 : ¬ (8 : Int) < (s.acs.length : Int) := by omega
    have HC := checkKinds_any s.ks pk ck V HSA.out.ks hk
    by_cases h0 : ksf [] s.ks = 0
    · rw [eV_nil h0] at HC
      have HE2 : Hid (scf s = asf [] s.acs) := by show _ = _; rw [HE.out, orE_r h0]
      have HA := fun W (hW : Below V.heap.size V W) => checkActs_any s.acs pa ca W (HSA.out.asl.up hW) ha
      clear h0 HE e
      by_cases h1 : asf [] s.acs = 0
      · rw [eV_nil h1] at HA
        have HE3 : Hid (eV (scf s) = .nilIface) := by show _ = _; rw [HE2.out, eV_nil h1]
        clear h1 HE2
        go_enter Tryd.func14, Tryd.ntmps14
        go_wp2_with fail
        rw [← hV]
        clear hV
        refine HC.mono ?_
        rintro e w1 ⟨rfl, hb1⟩
        have u1 := (hb1.cell (p := ⟨w.heap.size, 1, none⟩) (by show w.heap.size < _; omega)).trans v1
        go_wp2_with fail
        refine (HA _ hb1).mono ?_
        rintro e w2 ⟨rfl, hb2⟩
        go_wp2
        go_ret
        exact ⟨by rw [HE3.out]; rfl, kqt hbV (kqt hb1 hb2)⟩
      · rw [eV_not h1] at HA
        have HE3 : Hid (eV (scf s) = .iface 23 (.int .i64 (asf [] s.acs))) := by show _ = _; rw [HE2.out, eV_not h1]
        clear h1 HE2
        generalize asf [] s.acs = n at *
        go_enter Tryd.func14, Tryd.ntmps14
        go_wp2_with fail
        rw [← hV]
        clear hV
        refine HC.mono ?_
        rintro e w1 ⟨rfl, hb1⟩
        have u1 := (hb1.cell (p := ⟨w.heap.size, 1, none⟩) (by show w.heap.size < _; omega)).trans v1
        go_wp2_with fail
        refine (HA _ hb1).mono ?_
        rintro e w2 ⟨rfl, hb2⟩
        go_wp2
        go_ret
        exact ⟨by rw [HE3.out]; rfl, kqt hbV (kqt hb1 hb2)⟩
    · rw [eV_not h0] at HC
      have HE3 : Hid (eV (scf s) = .iface 23 (.int .i64 (ksf [] s.ks))) := by show _ = _; rw [HE.out, orE_l h0, eV_not h0]
      clear h0 HE e
      generalize ksf [] s.ks = n at *
      go_enter Tryd.func14, Tryd.ntmps14
      go_wp2_with fail
      rw [← hV]
      clear hV
      refine HC.mono ?_
      rintro e w1 ⟨rfl, hb1⟩
      go_wp2
      go_ret
      exact ⟨by rw [HE3.out]; rfl, kqt hbV hb1⟩
end Go.Proofs.YtpcikfpldmackaaDoor
namespace Go.Proofs.YtpcikfpldmackaaDoor
open Go.RowKit
set_option linter.unusedVariables false
set_option linter.unusedSimpArgs false
set_option maxRecDepth 100000

/-- A kind in a block of its own. -/
structure K3 (w : World) (B : Nat) (a b c : Value) : Prop where
  blk : w.heap[B]? = some (.cells #[a, b, c] 57 (0, 0))
theorem K3.lt {w : World} {B : Nat} {a b c : Value} (h : K3 w B a b c) : B < w.heap.size := (Array.getElem?_eq_some_iff.1 h.blk).1
theorem K3.up {w w' : World} {B : Nat} {a b c : Value} (h : K3 w B a b c) (hb : Below w.heap.size w w') : K3 w' B a b c := ⟨(hb.block B h.lt).trans h.blk⟩
theorem K3.new (w : World) (a b c : Value) {N : Nat} (h : N = w.heap.size) : K3 (w.alloc (.cells #[a, b, c] 57)) N a b c := ⟨fnew_at h⟩
theorem K3.cells {w : World} {B : Nat} {a b c : Value} (h : K3 w B a b c) : w.cell? ⟨B, 0, none⟩ = some a ∧ w.cell? ⟨B, 1, none⟩ = some b ∧ w.cell? ⟨B, 2, none⟩ = some c := by
  have := h.blk
  simp [World.cell?, this]
theorem K3.free {w : World} {B : Nat} {a b c : Value} (h : K3 w B a b c) (j : Nat) : w.frozen? ⟨B, j, none⟩ = false := by
  have := h.blk
  simp [World.frozen?, this]
theorem K3.put {w w' : World} {B : Nat} {a b c a' b' c' : Value} (h : K3 w B a b c) (hw : w' = ((w.setCell ⟨B, 0, none⟩ a').setCell ⟨B, 1, none⟩ b').setCell ⟨B, 2, none⟩ c') : K3 w' B a' b' c' ∧ Keep (fun x => x = B) w w' := by
  have e1 := heap_setCell_same w B 0 _ _ a' h.blk
  have e2 := heap_setCell_same _ B 1 _ _ b' e1
  have e3 := heap_setCell_same _ B 2 _ _ c' e2
  subst hw
  have q : ∀ (W : World) (o : Nat) (z : Value), Keep (fun x => x = B) W (W.setCell ⟨B, o, none⟩ z) := fun W o z => keep_set W B o z
  have t : ∀ {a b c : World}, Keep (fun x => x = B) a b → Keep (fun x => x = B) b c → Keep (fun x => x = B) a c := fun h k => h.trans k (fun _ e => .inl e)
  exact ⟨⟨e3⟩, t (t (q _ _ _) (q _ _ _)) (q _ _ _)⟩
/-- An act in a block of its own. -/
structure K4 (w : World) (B : Nat) (a b c d : Value) : Prop where
  blk : w.heap[B]? = some (.cells #[a, b, c, d] 45 (0, 0))
theorem K4.lt {w : World} {B : Nat} {a b c d : Value} (h : K4 w B a b c d) : B < w.heap.size := (Array.getElem?_eq_some_iff.1 h.blk).1
theorem K4.up {w w' : World} {B : Nat} {a b c d : Value} (h : K4 w B a b c d) (hb : Below w.heap.size w w') : K4 w' B a b c d := ⟨(hb.block B h.lt).trans h.blk⟩
theorem K4.new (w : World) (a b c d : Value) {N : Nat} (h : N = w.heap.size) : K4 (w.alloc (.cells #[a, b, c, d] 45)) N a b c d := ⟨fnew_at h⟩
theorem K4.cells {w : World} {B : Nat} {a b c d : Value} (h : K4 w B a b c d) : w.cell? ⟨B, 0, none⟩ = some a ∧ w.cell? ⟨B, 1, none⟩ = some b ∧ w.cell? ⟨B, 2, none⟩ = some c ∧ w.cell? ⟨B, 3, none⟩ = some d := by
  have := h.blk
  simp [World.cell?, this]
theorem K4.free {w : World} {B : Nat} {a b c d : Value} (h : K4 w B a b c d) (j : Nat) : w.frozen? ⟨B, j, none⟩ = false := by
  have := h.blk
  simp [World.frozen?, this]
theorem K4.put {w w' : World} {B : Nat} {a b c d a' b' c' d' : Value} (h : K4 w B a b c d) (hw : w' = (((w.setCell ⟨B, 0, none⟩ a').setCell ⟨B, 1, none⟩ b').setCell ⟨B, 2, none⟩ c').setCell ⟨B, 3, none⟩ d') : K4 w' B a' b' c' d' ∧ Keep (fun x => x = B) w w' := by
  have e1 := heap_setCell_same w B 0 _ _ a' h.blk
  have e2 := heap_setCell_same _ B 1 _ _ b' e1
  have e3 := heap_setCell_same _ B 2 _ _ c' e2
  have e4 := heap_setCell_same _ B 3 _ _ d' e3
  subst hw
  have q : ∀ (W : World) (o : Nat) (z : Value), Keep (fun x => x = B) W (W.setCell ⟨B, o, none⟩ z) := fun W o z => keep_set W B o z
  have t : ∀ {a b c : World}, Keep (fun x => x = B) a b → Keep (fun x => x = B) b c → Keep (fun x => x = B) a c := fun h k => h.trans k (fun _ e => .inl e)
  exact ⟨⟨e4⟩, t (t (t (q _ _ _) (q _ _ _)) (q _ _ _)) (q _ _ _)⟩
/-- What kindOf tells. -/
def KofRet (w' : World) (en : Ending) : Option Kd → Prop
  | some k => ∃ pu cu pt ct, en = .returned (.tuple #[.agg #[.string k.nm, .slice pu k.up.length cu, .slice pt k.ty.length ct], .nilIface]) ∧ KdV w' k pu cu pt ct
  | none => en = .returned (.tuple #[.agg #[.string ⟨#[]⟩, .slice none 0 0, .slice none 0 0], .iface 23 (.int .i64 3)])
theorem kof_at {ks : List Kd} {s : ByteArray} {k : Nat} (h : k < ks.length) (hn : kof (ks.take k) s = none) : (ks[k].nm = s → kof ks s = some ks[k]) ∧ (ks[k].nm ≠ s → kof (ks.take (k + 1)) s = none) := by
  constructor
  · intro e
    have : ks = ks.take k ++ ks[k] :: ks.drop (k + 1) := by rw [← List.drop_eq_getElem_cons h, List.take_append_drop]
    conv => lhs; rw [this]
    unfold kof at *
    rw [List.find?_append, hn, Option.none_or, List.find?_cons_of_pos (by simpa using e)]
  · intro e
    rw [List.take_succ_eq_append_getElem h]
    unfold kof at *
    rw [List.find?_append, hn, Option.none_or, List.find?_cons_of_neg (by simpa using e)]
    rfl
set_option maxHeartbeats 4000000 in
theorem kindOf_any (ks : List Kd) (p : Option Addr) (c : Nat) (s : ByteArray) (w : World) (hl : KdL w p ks) (h8 : ks.length ≤ 8) :
    Calls Tryd.prog 45 #[.slice p ks.length c, .string s] w fun e w' => KofRet w' e (kof ks s) ∧ Below w.heap.size w w' := by
  have HL : Hid (KdL w p ks) := hl
  clear hl
  obtain ⟨W, hW⟩ : ∃ W, W = w.alloc (.cells #[.string ⟨#[]⟩, .slice none 0 0, .slice none 0 0] 57) := ⟨_, rfl⟩
  have hbW : Below w.heap.size w W := by rw [hW]; exact kqx
  have hr_0 : K3 W w.heap.size (.string ⟨#[]⟩) (.slice none 0 0) (.slice none 0 0) := by rw [hW]; exact K3.new w _ _ _ rfl
  have hWs : w.heap.size + 1 ≤ W.heap.size := by rw [hW]; simp
  go_enter Tryd.func45, Tryd.ntmps45
  go_wp2
  rw [← hW]
  clear hW
  go_loopw [10] (fun i wr => ∃ k : Nat, k ≤ ks.length ∧ i = .int .i64 k ∧ Hid (kof (ks.take k) s = none) ∧ K3 wr w.heap.size (.string ⟨#[]⟩) (.slice none 0 0) (.slice none 0 0) ∧ Below w.heap.size w wr ∧ w.heap.size + 1 ≤ wr.heap.size) (fun i _ => ks.length - (intOf i).toNat)
  case atStart => exact ⟨0, Nat.zero_le _, rfl, rfl, hr_0, hbW, hWs⟩
  case round =>
    rename World => w3
    obtain ⟨k, hk, rfl, HF, hr_3, hb3, hs3⟩ := hrel
    by_cases hlt : k < ks.length
    · have i1 : (k : Int) < (ks.length : Int) := by omega
      obtain ⟨b, off, pu, cu, pt, ct, rfl, hbl, hkv, c0, c1, c2⟩ := HL.out.at hlt
      replace c0 := (hb3.cell (p := ⟨b, off + k * 3, none⟩) hbl).trans c0
      replace c1 := (hb3.cell (p := ⟨b, off + k * 3 + 1, none⟩) hbl).trans c1
      replace c2 := (hb3.cell (p := ⟨b, off + k * 3 + 2, none⟩) hbl).trans c2
      have HX : Hid _ := kof_at (s := s) hlt HF.out
      have HKV : Hid (KdV w ks[k] pu cu pt ct) := hkv
      clear hkv
      generalize ks[k] = x at *
      obtain ⟨nm, up, ty⟩ := x
      dsimp only at c0 c1 c2
      obtain ⟨V6, hV6⟩ : ∃ V6, V6 = w3.alloc (.cells #[.string nm, .slice pu up.length cu, .slice pt ty.length ct] 57) := ⟨_, rfl⟩
      have hb6 : Below w3.heap.size w3 V6 := by rw [hV6]; exact kqx
      have hr_6 := hr_3.up hb6
      by_cases he : nm = s
      · subst he
        have HK : Hid (kof ks nm = some ⟨nm, up, ty⟩) := HX.out.1 rfl
        obtain ⟨s0, s1, s2⟩ := hr_6.cells
        have fr := hr_6.free
        rw [hV6] at s0 s1 s2 fr
        clear HX HF
        go_wp2
        rw [← hV6]
        obtain ⟨V, hV⟩ : ∃ V, V = ((V6.setCell ⟨w.heap.size, 0, none⟩ (.string nm)).setCell ⟨w.heap.size, 1, none⟩ (.slice pu up.length cu)).setCell ⟨w.heap.size, 2, none⟩ (.slice pt ty.length ct) := ⟨_, rfl⟩
        obtain ⟨hPV, hKV⟩ := hr_6.put hV
        obtain ⟨t0, t1, t2⟩ := hPV.cells
        have hbV : Below w.heap.size V6 V := hKV.below (by have := hb6.size; omega) (fun a e => by omega)
        rw [← hV]
        have hbf : Below w.heap.size w V := (hb3.trans (hb6.mono hb3.size)).trans hbV
        refine bodyPost_ret (v := .tuple #[.agg #[.string nm, .slice pu up.length cu, .slice pt ty.length ct], .nilIface]) (by simp [results, Tryd.results45, go_sem, t0, t1, t2]) rfl ⟨?_, hbf⟩
        rw [HK.out]
        exact ⟨_, _, _, _, rfl, HKV.out.up hbf⟩
      · have HF2 : Hid (kof (ks.take (k + 1)) s = none) := HX.out.2 he
        have e1 : (nm.toList == s.toList) = false := by simpa using tl_neS he
        clear he HX HF
        go_wp2_with fail
        rw [← hV6]
        go_roundw
        case rel => exact ⟨k + 1, by omega, by go_num, HF2, hr_6, kqt hb3 hb6, by have := hb6.size; omega⟩
        case measure => simp [intOf]; omega
    · have i1 : ¬ (k : Int) < (ks.length : Int) := by omega
      have HK : Hid (kof ks s = none) := by
        have := HF.out
        rw [List.take_of_length_le (by omega)] at this
        exact this
      obtain ⟨s0, s1, s2⟩ := hr_3.cells
      have fr := hr_3.free
      clear HF
      go_wp2
      obtain ⟨V, hV⟩ : ∃ V, V = ((w3.setCell ⟨w.heap.size, 0, none⟩ (.string ⟨#[]⟩)).setCell ⟨w.heap.size, 1, none⟩ (.slice none 0 0)).setCell ⟨w.heap.size, 2, none⟩ (.slice none 0 0) := ⟨_, rfl⟩
      obtain ⟨hPV, hKV⟩ := hr_3.put hV
      obtain ⟨t0, t1, t2⟩ := hPV.cells
      have hbV : Below w.heap.size w3 V := hKV.below (by omega) (fun a e => by omega)
      try rw [← hV]
      refine bodyPost_ret (v := .tuple #[.agg #[.string ⟨#[]⟩, .slice none 0 0, .slice none 0 0], .iface 23 (.int .i64 3)]) (by simp [results, Tryd.results45, go_sem, t0, t1, t2]) rfl ⟨?_, hb3.trans hbV⟩
      rw [HK.out]
      rfl
/-- What actOf tells. -/
def AofRet (w' : World) (en : Ending) : Option Ac → Prop
  | some a => ∃ p0 c0 p1 c1 pt ct, en = .returned (.tuple #[.agg #[.string a.id, .slice p0 a.who.length c0, .slice p1 a.what.length c1, .slice pt a.cx.length ct], .nilIface]) ∧ AcV w' a p0 c0 p1 c1 pt ct
  | none => en = .returned (.tuple #[.agg #[.string ⟨#[]⟩, .slice none 0 0, .slice none 0 0, .slice none 0 0], .iface 23 (.int .i64 3)])
theorem aof_at {al : List Ac} {u : Ui} {k : Nat} (h : k < al.length) (hn : aof (al.take k) u = none) : (u.t = actT → al[k].id = u.i → aof al u = some al[k]) ∧ (¬ (u.t = actT ∧ al[k].id = u.i) → aof (al.take (k + 1)) u = none) := by
  constructor
  · intro e1 e2
    have : al = al.take k ++ al[k] :: al.drop (k + 1) := by rw [← List.drop_eq_getElem_cons h, List.take_append_drop]
    conv => lhs; rw [this]
    unfold aof at *
    rw [List.find?_append, hn, Option.none_or, List.find?_cons_of_pos (by simp [e1, e2])]
  · intro e
    rw [List.take_succ_eq_append_getElem h]
    unfold aof at *
    rw [List.find?_append, hn, Option.none_or, List.find?_cons_of_neg (by simpa using e)]
    rfl
set_option maxHeartbeats 4000000 in
theorem actOf_any (al : List Ac) (p : Option Addr) (c : Nat) (u : Ui) (w : World) (hl : AcL w p al) (h8 : al.length ≤ 8) :
    Calls Tryd.prog 32 #[.slice p al.length c, .agg #[.string u.t, .string u.i]] w fun e w' => AofRet w' e (aof al u) ∧ Below w.heap.size w w' := by
  have HL : Hid (AcL w p al) := hl
  clear hl
  obtain ⟨W, hW⟩ : ∃ W, W = (w.alloc (.cells #[.string u.t, .string u.i] 40)).alloc (.cells #[.string ⟨#[]⟩, .slice none 0 0, .slice none 0 0, .slice none 0 0] 45) := ⟨_, rfl⟩
  have hbW : Below w.heap.size w W := by rw [hW]; exact kqx
  have hr_0 : K4 W (w.heap.size + 1) (.string ⟨#[]⟩) (.slice none 0 0) (.slice none 0 0) (.slice none 0 0) := by rw [hW]; exact K4.new _ _ _ _ _ (by simp)
  have hWs : w.heap.size + 2 ≤ W.heap.size := by rw [hW]; simp
  have a0 : W.cell? ⟨w.heap.size, 0, none⟩ = some (.string u.t) := by rw [hW]; simp
  have a1 : W.cell? ⟨w.heap.size, 1, none⟩ = some (.string u.i) := by rw [hW]; simp
  go_enter Tryd.func32, Tryd.ntmps32
  go_wp2
  rw [← hW]
  clear hW
  go_loopw [10] (fun i wr => ∃ k : Nat, k ≤ al.length ∧ i = .int .i64 k ∧ Hid (aof (al.take k) u = none) ∧ K4 wr (w.heap.size + 1) (.string ⟨#[]⟩) (.slice none 0 0) (.slice none 0 0) (.slice none 0 0) ∧ wr.cell? ⟨w.heap.size, 0, none⟩ = some (.string u.t) ∧ wr.cell? ⟨w.heap.size, 1, none⟩ = some (.string u.i) ∧ Below w.heap.size w wr ∧ w.heap.size + 2 ≤ wr.heap.size) (fun i _ => al.length - (intOf i).toNat)
  case atStart => exact ⟨0, Nat.zero_le _, rfl, rfl, hr_0, a0, a1, hbW, hWs⟩
  case round =>
    rename World => w3
    obtain ⟨k, hk, rfl, HF, hr_3, a0, a1, hb3, hs3⟩ := hrel
    by_cases hlt : k < al.length
    · have i1 : (k : Int) < (al.length : Int) := by omega
      obtain ⟨b, off, p0, c0', p1, c1', pt, ct, rfl, hbl, hkv, c0, c1, c2, c3⟩ := HL.out.at hlt
      replace c0 := (hb3.cell (p := ⟨b, off + k * 4, none⟩) hbl).trans c0
      replace c1 := (hb3.cell (p := ⟨b, off + k * 4 + 1, none⟩) hbl).trans c1
      replace c2 := (hb3.cell (p := ⟨b, off + k * 4 + 2, none⟩) hbl).trans c2
      replace c3 := (hb3.cell (p := ⟨b, off + k * 4 + 3, none⟩) hbl).trans c3
      have HX : Hid _ := aof_at (u := u) hlt HF.out
      have HKV : Hid (AcV w al[k] p0 c0' p1 c1' pt ct) := hkv
      clear hkv
      generalize al[k] = x at *
      obtain ⟨nm, us, vs, ty⟩ := x
      dsimp only at c0 c1 c2 c3
      obtain ⟨V6, hV6⟩ : ∃ V6, V6 = w3.alloc (.cells #[.string nm, .slice p0 us.length c0', .slice p1 vs.length c1', .slice pt ty.length ct] 45) := ⟨_, rfl⟩
      have hb6 : Below w3.heap.size w3 V6 := by rw [hV6]; exact kqx
      have hr_6 := hr_3.up hb6
      have d0 := (hb6.cell (p := ⟨w.heap.size, 0, none⟩) (by show w.heap.size < _; omega)).trans a0
      have d1 := (hb6.cell (p := ⟨w.heap.size, 1, none⟩) (by show w.heap.size < _; omega)).trans a1
      by_cases he : u.t = actT ∧ nm = u.i
      · obtain ⟨he1, he2⟩ := he
        have HK : Hid (aof al u = some ⟨nm, us, vs, ty⟩) := HX.out.1 he1 he2
        obtain ⟨s0, s1, s2, s3⟩ := hr_6.cells
        have fr := hr_6.free
        rw [hV6] at s0 s1 s2 s3 fr
        rw [hV6, he1] at d0
        rw [hV6, ← he2] at d1
        unfold actT at d0
        clear HX HF he1 he2 a0 a1
        go_wp2
        rw [← hV6]
        obtain ⟨V, hV⟩ : ∃ V, V = (((V6.setCell ⟨w.heap.size + 1, 0, none⟩ (.string nm)).setCell ⟨w.heap.size + 1, 1, none⟩ (.slice p0 us.length c0')).setCell ⟨w.heap.size + 1, 2, none⟩ (.slice p1 vs.length c1')).setCell ⟨w.heap.size + 1, 3, none⟩ (.slice pt ty.length ct) := ⟨_, rfl⟩
        obtain ⟨hPV, hKV⟩ := hr_6.put hV
        obtain ⟨t0, t1, t2, t3⟩ := hPV.cells
        have hbV : Below w.heap.size V6 V := hKV.below (by have := hb6.size; omega) (fun a e => by omega)
        rw [← hV]
        have hbf : Below w.heap.size w V := (hb3.trans (hb6.mono hb3.size)).trans hbV
        refine bodyPost_ret (v := .tuple #[.agg #[.string nm, .slice p0 us.length c0', .slice p1 vs.length c1', .slice pt ty.length ct], .nilIface]) (by simp [results, Tryd.results32, go_sem, t0, t1, t2, t3]) rfl ⟨?_, hbf⟩
        rw [HK.out]
        exact ⟨_, _, _, _, _, _, rfl, HKV.out.up hbf⟩
      · have HF2 : Hid (aof (al.take (k + 1)) u = none) := HX.out.2 he
        by_cases he1 : u.t = actT
        · have e1 : (nm.toList == u.i.toList) = false := by simpa using tl_neS (fun e => he ⟨he1, e⟩)
          have D0 := d0
          have D1 := d1
          rw [hV6, he1] at d0
          rw [hV6] at d1
          unfold actT at d0
          have HD0 : Hid (V6.cell? ⟨w.heap.size, 0, none⟩ = some (.string u.t)) := D0
          have HD1 : Hid (V6.cell? ⟨w.heap.size, 1, none⟩ = some (.string u.i)) := D1
          clear he HX HF he1 D0 D1 a0 a1
          go_wp2_with fail
          rw [← hV6]
          go_roundw
          case rel => exact ⟨k + 1, by omega, by go_num, HF2, hr_6, HD0.out, HD1.out, kqt hb3 hb6, by have := hb6.size; omega⟩
          case measure => simp [intOf]; omega
        · have e1 : ¬ u.t.toList = [65, 99, 116, 105, 111, 110] := fun e => tl_neS he1 (by rw [e, ByteArray.toList_eq]; rfl)
          have e2 : (u.t.toList == [65, 99, 116, 105, 111, 110]) = false := by rw [beq_eq_false_iff_ne]; exact e1
          have HD0 : Hid (V6.cell? ⟨w.heap.size, 0, none⟩ = some (.string u.t)) := d0
          have HD1 : Hid (V6.cell? ⟨w.heap.size, 1, none⟩ = some (.string u.i)) := d1
          rw [hV6] at d0 d1
          clear he HX HF he1 a0 a1
          go_wp2_with fail
          rw [← hV6]
          go_roundw
          case rel => exact ⟨k + 1, by omega, by go_num, HF2, hr_6, HD0.out, HD1.out, kqt hb3 hb6, by have := hb6.size; omega⟩
          case measure => simp [intOf]; omega
    · have i1 : ¬ (k : Int) < (al.length : Int) := by omega
      have HK : Hid (aof al u = none) := by
        have := HF.out
        rw [List.take_of_length_le (by omega)] at this
        exact this
      obtain ⟨s0, s1, s2, s3⟩ := hr_3.cells
      have fr := hr_3.free
      clear HF
      go_wp2
      obtain ⟨V, hV⟩ : ∃ V, V = (((w3.setCell ⟨w.heap.size + 1, 0, none⟩ (.string ⟨#[]⟩)).setCell ⟨w.heap.size + 1, 1, none⟩ (.slice none 0 0)).setCell ⟨w.heap.size + 1, 2, none⟩ (.slice none 0 0)).setCell ⟨w.heap.size + 1, 3, none⟩ (.slice none 0 0) := ⟨_, rfl⟩
      obtain ⟨hPV, hKV⟩ := hr_3.put hV
      obtain ⟨t0, t1, t2, t3⟩ := hPV.cells
      have hbV : Below w.heap.size w3 V := hKV.below (by omega) (fun a e => by omega)
      try rw [← hV]
      refine bodyPost_ret (v := .tuple #[.agg #[.string ⟨#[]⟩, .slice none 0 0, .slice none 0 0, .slice none 0 0], .iface 23 (.int .i64 3)]) (by simp [results, Tryd.results32, go_sem, t0, t1, t2, t3]) rfl ⟨?_, hb3.trans hbV⟩
      rw [HK.out]
      rfl
end Go.Proofs.YtpcikfpldmackaaDoor
namespace Go.Proofs.YtpcikfpldmackaaDoor
open Go.RowKit
set_option linter.unusedVariables false
set_option maxRecDepth 100000

theorem aqt {a b c : World} (h : Below a.heap.size a b) (k : Below b.heap.size b c) : Below a.heap.size a c := h.trans (k.mono h.size)
/-- A request as a value. -/
def reqV (q : Rq) (pq : Option Addr) (cq : Nat) : Value := .agg #[.string q.who.t, .string q.who.i, .string q.act.t, .string q.act.i, .string q.what.t, .string q.what.i, .slice pq q.cx.length cq]
def uAt (q : Rq) : Nat → Ui
  | 0 => q.who | 1 => q.act | _ => q.what
structure RqArg (w : World) (q : Rq) (pq : Option Addr) (cq : Nat) : Prop where
  u0 : UOk q.who
  u1 : UOk q.act
  u2 : UOk q.what
  nl : NL w pq q.cx
  le : q.cx.length ≤ cq
  cm : cq ≤ maxLen
set_option maxHeartbeats 1000000 in
theorem ask_any (q : Rq) (pq : Option Addr) (cq : Nat) (w : World) (h : RqArg w q pq cq) :
    Calls Tryd.prog 31 #[reqV q pq cq] w fun e w' => e = .returned (eV (askf q)) ∧ Below w.heap.size w w' := by
  unfold reqV
  have hAsk : ∀ j, j ≤ 2 → (∀ l, l < j → uf (uAt q l) = 0) → uf (uAt q j) ≠ 0 → askf q = uf (uAt q j) := by
    intro j hj hz hn
    unfold askf
    match j, hj with
    | 0, _ =>
      have n0 : uf q.who ≠ 0 := hn
      rw [if_neg n0]; rfl
    | 1, _ =>
      have z0 : uf q.who = 0 := hz 0 (by omega)
      have n0 : uf q.act ≠ 0 := hn
      rw [if_pos z0, if_neg n0]; rfl
    | 2, _ =>
      have z0 : uf q.who = 0 := hz 0 (by omega)
      have z1 : uf q.act = 0 := hz 1 (by omega)
      have n0 : uf q.what ≠ 0 := hn
      rw [if_pos z0, if_pos z1, if_neg n0]; rfl
  have hAll : (∀ l, l < 3 → uf (uAt q l) = 0) → askf q = afault q.cx := by
    intro hz
    have z0 : uf q.who = 0 := hz 0 (by omega)
    have z1 : uf q.act = 0 := hz 1 (by omega)
    have z2 : uf q.what = 0 := hz 2 (by omega)
    unfold askf
    rw [if_pos z0, if_pos z1, if_pos z2]
  have hok : ∀ j, UOk (uAt q j) := fun j => by
    match j with
    | 0 => exact h.u0
    | 1 => exact h.u1
    | _ + 2 => exact h.u2
  have hbW : Below w.heap.size w ((w.alloc (.cells #[.string q.who.t, .string q.who.i, .string q.act.t, .string q.act.i, .string q.what.t, .string q.what.i, .slice pq q.cx.length cq] 42)).alloc (.cells #[.string q.who.t, .string q.who.i, .string q.act.t, .string q.act.i, .string q.what.t, .string q.what.i] 40)) := ((Below.refl _ _).alloc (Nat.le_refl _) _).alloc (by simp) _
  have hsW : ((w.alloc (.cells #[.string q.who.t, .string q.who.i, .string q.act.t, .string q.act.i, .string q.what.t, .string q.what.i, .slice pq q.cx.length cq] 42)).alloc (.cells #[.string q.who.t, .string q.who.i, .string q.act.t, .string q.act.i, .string q.what.t, .string q.what.i] 40)).heap.size = w.heap.size + 2 := by simp
  have hcW : ∀ j, j ≤ 2 → ((w.alloc (.cells #[.string q.who.t, .string q.who.i, .string q.act.t, .string q.act.i, .string q.what.t, .string q.what.i, .slice pq q.cx.length cq] 42)).alloc (.cells #[.string q.who.t, .string q.who.i, .string q.act.t, .string q.act.i, .string q.what.t, .string q.what.i] 40)).cell? ⟨w.heap.size + 1, j * 2, none⟩ = some (.string (uAt q j).t) ∧ ((w.alloc (.cells #[.string q.who.t, .string q.who.i, .string q.act.t, .string q.act.i, .string q.what.t, .string q.what.i, .slice pq q.cx.length cq] 42)).alloc (.cells #[.string q.who.t, .string q.who.i, .string q.act.t, .string q.act.i, .string q.what.t, .string q.what.i] 40)).cell? ⟨w.heap.size + 1, j * 2 + 1, none⟩ = some (.string (uAt q j).i) := by
    intro j hj
    have e : ∀ o, ((w.alloc (.cells #[.string q.who.t, .string q.who.i, .string q.act.t, .string q.act.i, .string q.what.t, .string q.what.i, .slice pq q.cx.length cq] 42)).alloc (.cells #[.string q.who.t, .string q.who.i, .string q.act.t, .string q.act.i, .string q.what.t, .string q.what.i] 40)).cell? ⟨w.heap.size + 1, o, none⟩ = (#[.string q.who.t, .string q.who.i, .string q.act.t, .string q.act.i, .string q.what.t, .string q.what.i] : Array Value)[o]? := fun o => World.cell?_alloc_at _ _ _ o (by simp)
    rw [e, e]
    match j, hj with
    | 0, _ => exact ⟨rfl, rfl⟩
    | 1, _ => exact ⟨rfl, rfl⟩
    | 2, _ => exact ⟨rfl, rfl⟩
  have hqW : ((w.alloc (.cells #[.string q.who.t, .string q.who.i, .string q.act.t, .string q.act.i, .string q.what.t, .string q.what.i, .slice pq q.cx.length cq] 42)).alloc (.cells #[.string q.who.t, .string q.who.i, .string q.act.t, .string q.act.i, .string q.what.t, .string q.what.i] 40)).cell? ⟨w.heap.size, 6, none⟩ = some (.slice pq q.cx.length cq) := by simp
  have hn0 := h.nl
  have hle := h.le
  have hcm := h.cm
  clear h
  go_enter Tryd.func31, Tryd.ntmps31
  go_wp2_with fail
  generalize (w.alloc (.cells #[.string q.who.t, .string q.who.i, .string q.act.t, .string q.act.i, .string q.what.t, .string q.what.i, .slice pq q.cx.length cq] 42)).alloc (.cells #[.string q.who.t, .string q.who.i, .string q.act.t, .string q.act.i, .string q.what.t, .string q.what.i] 40) = W at *
  go_loopw [16] (fun i wr => ∃ j : Nat, j ≤ 3 ∧ i = .int .i64 j ∧ Hid (∀ l, l < j → uf (uAt q l) = 0) ∧ Below W.heap.size W wr) (fun i _ => 3 - (intOf i).toNat)
  case atStart => exact ⟨0, Nat.zero_le _, rfl, fun l hl => absurd hl (by omega), Below.refl _ _⟩
  case round =>
    rename World => wr
    obtain ⟨j, hj, rfl, HZ, hbr⟩ := hrel
    by_cases hlt : j < 3
    · have i1 : (j : Int) < 3 := by omega
      obtain ⟨c0, c1⟩ := hcW j (by omega)
      have y0 := (hbr.cell (p := ⟨w.heap.size + 1, j * 2, none⟩) (by show w.heap.size + 1 < _; omega)).trans c0
      have y1 := (hbr.cell (p := ⟨w.heap.size + 1, j * 2 + 1, none⟩) (by show w.heap.size + 1 < _; omega)).trans c1
      have HW := fun w1 => write_any (uAt q j).t (uAt q j).i w1 (hok j).1 (hok j).2
      have hbx : Below wr.heap.size wr (wr.alloc (.cells #[.string (uAt q j).t, .string (uAt q j).i] 40)) := (Below.refl _ _).alloc (Nat.le_refl _) _
      have eU : ufault (uAt q j).t.data.toList (uAt q j).i.data.toList = uf (uAt q j) := rfl
      rw [eU] at HW
      clear c0 c1 eU
      by_cases hu : uf (uAt q j) = 0
      · rw [eV_nil hu] at HW
        have HZ2 : Hid (∀ l, l < j + 1 → uf (uAt q l) = 0) := fun l hl => by
          by_cases e : l = j
          · rw [e]; exact hu
          · exact HZ.out l (by omega)
        clear hu HZ
        generalize uAt q j = u at *
        obtain ⟨ut, ui⟩ := u
        go_wp2_with (go_at_call 55; refine (HW _).mono ?_; rintro e w1 ⟨t1, rfl, hb1⟩)
        go_roundw
        case rel => exact ⟨j + 1, by omega, by go_num, HZ2, hbr.trans ((hbx.trans (hb1.mono hbx.size)).mono hbr.size)⟩
        case measure => simp [intOf]; omega
      · rw [eV_not hu] at HW
        have HA2 : Hid (askf q = uf (uAt q j)) := hAsk j (by omega) HZ.out hu
        have HU : Hid (uf (uAt q j) ≠ 0) := hu
        clear hu HZ
        generalize hn : uf (uAt q j) = n at *
        clear hn
        generalize uAt q j = u at *
        obtain ⟨ut, ui⟩ := u
        go_wp2_with (go_at_call 55; refine (HW _).mono ?_; rintro e w1 ⟨t1, rfl, hb1⟩)
        go_ret
        rw [HA2.out, eV_not HU.out]
        exact ⟨rfl, aqt hbW (hbr.trans ((hbx.trans (hb1.mono hbx.size)).mono hbr.size))⟩
    · have i1 : ¬ (j : Int) < 3 := by omega
      obtain rfl : j = 3 := by omega
      have HA2 : Hid (askf q = afault q.cx) := hAll HZ.out
      have y6 := (hbr.cell (p := ⟨w.heap.size, 6, none⟩) (by show w.heap.size < _; omega)).trans hqW
      have hbw := aqt hbW hbr
      have HC := vcheck_any q.cx pq cq wr (hn0.up hbw) hle hcm
      by_cases hv : vfault q.cx = 0
      · rw [eV_nil hv] at HC
        obtain ⟨x, r, ex, _⟩ := value_head hv
        have hnr := hn0.up hbw
        obtain ⟨b, off, rfl, hbb, x0, hrest⟩ := hnr.at (i := 0) (by rw [ex]; simp)
        clear hrest
        simp only [Nat.zero_mul, Nat.add_zero] at x0
        have hx0 : q.cx[0]'(by rw [ex]; simp) = x := by simp [ex]
        rw [hx0] at x0
        have i2 : (0 : Int) < (q.cx.length : Int) := by rw [ex]; simp
        have HF : Hid (afault q.cx = if x.op = 6 then 0 else 2) := by show _ = _; unfold afault; rw [if_pos hv, ex]
        by_cases h6 : x.op = 6
        · have e6 : (x.op != 6) = false := by simpa using h6
          have HE : Hid (eV (askf q) = .nilIface) := by show _ = _; rw [HA2.out, HF.out, if_pos h6]; rfl
          clear hv h6 ex hx0 HF HA2
          go_wp2_with fail
          refine HC.mono ?_
          rintro e w1 ⟨rfl, hb1⟩
          have z0 := (hb1.cell (p := ⟨b, off, none⟩) hbb).trans x0
          have z6 := (hb1.cell (p := ⟨w.heap.size, 6, none⟩) (by have := hbr.size; show w.heap.size < _; omega)).trans y6
          go_wp2
          go_ret
          rw [HE.out]
          exact ⟨rfl, aqt hbw hb1⟩
        · have e6 : (x.op != 6) = true := by simpa using h6
          have HE : Hid (eV (askf q) = .iface 23 (.int .i64 2)) := by show _ = _; rw [HA2.out, HF.out, if_neg h6]; rfl
          clear hv h6 ex hx0 HF HA2
          go_wp2_with fail
          refine HC.mono ?_
          rintro e w1 ⟨rfl, hb1⟩
          have z0 := (hb1.cell (p := ⟨b, off, none⟩) hbb).trans x0
          have z6 := (hb1.cell (p := ⟨w.heap.size, 6, none⟩) (by have := hbr.size; show w.heap.size < _; omega)).trans y6
          go_wp2
          go_ret
          rw [HE.out]
          exact ⟨rfl, aqt hbw hb1⟩
      · rw [eV_not hv] at HC
        have HF : Hid (eV (askf q) = .iface 23 (.int .i64 (vfault q.cx))) := by
          show _ = _
          rw [HA2.out]
          unfold afault
          rw [if_neg hv, eV_not hv]
        clear hv HA2
        generalize vfault q.cx = n at *
        go_wp2_with fail
        refine HC.mono ?_
        rintro e w1 ⟨rfl, hb1⟩
        go_wp2
        go_ret
        rw [HF.out]
        exact ⟨rfl, aqt hbw hb1⟩
end Go.Proofs.YtpcikfpldmackaaDoor
