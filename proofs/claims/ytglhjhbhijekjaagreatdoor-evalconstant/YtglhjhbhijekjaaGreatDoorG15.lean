/- The value of an expression, plain: a store, a request, what each operator makes of its parts' values. No program is named here. What an expression's value is, is a value, and its numbers are of 64 bits. No program is named here. The value of an expression is a value: by the bound. No program is named here. The value of an expression: what stands behind it does not matter, nor the bound; a value's value is itself; what is put for a name. No program is named here. The laws of values: De Morgan, what is not asked for, sets. No program is named here. -/
import Derived.Test.YtglhjhbhijekjaaGreatDoorG3
import Derived.Test.YtglhjhbhijekjaaGreatDoorG12
import Derived.Test.YtglhjhbhijekjaaGreatDoorG13
import Derived.Test.YtglhjhbhijekjaaGreatDoorG2
import Derived.Test.YtglhjhbhijekjaaGreatDoorG14
namespace Go.Proofs.YtglhjhbhijekjaaGreatDoor
set_option linter.unusedVariables false

structure Rq where
  who : Ui
  act : Ui
  what : Ui
  cx : List Nd

def opV (v : List Nd) : Int := match v with | [] => 0 | x :: _ => x.op
def nV (v : List Nd) : Int := match v with | [] => 0 | x :: _ => x.n
def sV (v : List Nd) : ByteArray := match v with | [] => ⟨#[]⟩ | x :: _ => x.s
def uidV (v : List Nd) : Ui := match v with | [] => ⟨⟨#[]⟩, ⟨#[]⟩⟩ | x :: _ => ⟨x.s, x.t⟩
def tN (b : Bool) : List Nd := [⟨1, if b then 1 else 0, ⟨#[]⟩, ⟨#[]⟩⟩]
def mN (n : Int) : List Nd := [⟨2, n, ⟨#[]⟩, ⟨#[]⟩⟩]
def uN (u : Ui) : List Nd := [⟨4, 0, u.t, u.i⟩]
/-- What stands behind the expression at the front. -/
def bh (f : Nat) (v : List Nd) : List Nd := (pastE f v).getD []
theorem bh_of {f : Nat} {v r : List Nd} (h : pastE f v = some r) : bh f v = r := by unfold bh; rw [h]; rfl

/-- The parts of a set. -/
noncomputable def setR (v : List Nd) : List (List Nd) := open Classical in if h : ∃ l, IsSet l ∧ v = setN l then Classical.choose h else []
theorem setR_of {l : List (List Nd)} (h : IsSet l) : setR (setN l) = l := by
  have h1 : ∃ m, IsSet m ∧ setN l = setN m := ⟨l, h, rfl⟩
  unfold setR
  rw [dif_pos h1]
  have h2 := Classical.choose_spec h1
  exact (setN_inj h h2.1 h2.2).symm
theorem setR_spec {v : List Nd} (h : vfault v = 0) (h5 : opV v = 5) : IsSet (setR v) ∧ v = setN (setR v) := by
  obtain ⟨x, r, rfl, _⟩ := value_head h
  obtain ⟨l, hl, e⟩ := set_row h h5
  rw [e, setR_of hl]
  exact ⟨hl, rfl⟩
/-- What a record has by a name. -/
noncomputable def fldV (v : List Nd) (s : ByteArray) : Option (List Nd) :=
  match v with
  | [] => none
  | x :: r => open Classical in if h : ∃ ss, Segs (x :: r).length r ss then findS s (Classical.choose h) else none
theorem fldV_spec {x : Nd} {r : List Nd} (h : vfault (x :: r) = 0) (h6 : x.op = 6) (s : ByteArray) : ∃ ss, Segs (x :: r).length r ss ∧ fldV (x :: r) s = findS s ss := by
  obtain ⟨ss, h1, _⟩ := rec_items h h6
  have h2 : ∃ ss, Segs (x :: r).length r ss := ⟨ss, h1⟩
  refine ⟨Classical.choose h2, Classical.choose_spec h2, ?_⟩
  unfold fldV
  simp only
  rw [dif_pos h2]

/-- One value behind the other. -/
def evS (ev : List Nd → Except Int (List Nd)) (nx : List Nd → List Nd) : Nat → List Nd → Except Int (List (List Nd))
  | 0, _ => .ok []
  | k + 1, v =>
    match ev v with
    | .error n => .error n
    | .ok a =>
      match evS ev nx k (nx v) with
      | .error n => .error n
      | .ok l => .ok (a :: l)
/-- Names with values, one behind the other. -/
def evR (ev : List Nd → Except Int (List Nd)) (nx : List Nd → List Nd) : Nat → List Nd → Except Int (List Fd)
  | 0, _ => .ok []
  | _ + 1, [] => .error 0
  | k + 1, x :: v =>
    match ev v with
    | .error n => .error n
    | .ok a =>
      match evR ev nx k (nx v) with
      | .error n => .error n
      | .ok l => .ok ((x.s, a) :: l)
def setE (ps : List (List Nd)) : Except Int (List Nd) := if (setN (setL ps)).length ≤ 200 then .ok (setN (setL ps)) else .error 4
def recE (ps : List Fd) : Except Int (List Nd) := if rfault [] ps = 0 then (if (recN (recS ps)).length ≤ 200 then .ok (recN (recS ps)) else .error 4) else .error (rfault [] ps)
def wPrin : ByteArray := ⟨#[112, 114, 105, 110, 99, 105, 112, 97, 108]⟩
def wAct : ByteArray := ⟨#[97, 99, 116, 105, 111, 110]⟩
def wRes : ByteArray := ⟨#[114, 101, 115, 111, 117, 114, 99, 101]⟩
def wCtx : ByteArray := ⟨#[99, 111, 110, 116, 101, 120, 116]⟩
def varE (q : Rq) (s : ByteArray) : Except Int (List Nd) :=
  if s = wPrin then .ok (uN q.who) else if s = wAct then .ok (uN q.act) else if s = wRes then .ok (uN q.what) else if s = wCtx then .ok q.cx else .error 3
/-- A record, or that of an entity. -/
def attE (es : List En) (v : List Nd) : Except Int (List Nd) :=
  if opV v = 6 then .ok v else if opV v = 4 then (match es.find? (fun e => decide (e.u = uidV v)) with | some e => .ok e.nd | none => .error 8) else .error 2
noncomputable def hasE (es : List En) (v : List Nd) (s : ByteArray) : Except Int (List Nd) :=
  match attE es v with
  | .ok r => .ok (tN (fldV r s).isSome)
  | .error n => if n = 8 then .ok (tN false) else .error n
noncomputable def getV (es : List En) (v : List Nd) (s : ByteArray) : Except Int (List Nd) :=
  match attE es v with
  | .ok r => (match fldV r s with | some u => .ok u | none => .error 3)
  | .error n => .error n
/-- What a node with one part makes of its value. -/
noncomputable def oneE (es : List En) (x : Nd) (v : List Nd) : Except Int (List Nd) :=
  if x.op = 9 then (if opV v = 1 then .ok (tN (!(nV v == 1))) else .error 2)
  else if x.op = 10 then (if opV v = 2 then (if Fit (-nV v) then .ok (mN (-nV v)) else .error 5) else .error 2)
  else if x.op = 21 then hasE es v x.s
  else if x.op = 22 then getV es v x.s
  else if x.op = 23 then (if opV v = 3 then .ok (tN (pM (pcs x.s.data.toList) (sV v).data.toList)) else .error 2)
  else (if opV v = 4 then .ok (tN (decide (sV v = x.s))) else .error 2)
/-- The uids that a value stands for, on the right of In. -/
noncomputable def uidsE (v : List Nd) : Option (List Ui) :=
  if opV v = 5 then (if ∀ u ∈ setR v, opV u = 4 then some ((setR v).map uidV) else none) else if opV v = 4 then some [uidV v] else none
open Classical in
noncomputable def inE (es : List En) (a b : List Nd) : Except Int (List Nd) :=
  if opV a = 4 then (match uidsE b with | some us => .ok (tN (decide (∃ t ∈ us, t = uidV a ∨ Abv es (uidV a) t))) | none => .error 2) else .error 2
/-- What a node with two parts makes of their values. -/
noncomputable def twoE (es : List En) (op : Int) (a b : List Nd) : Except Int (List Nd) :=
  if op = 14 then .ok (tN (decide (lsC a b = 0)))
  else if op = 15 then (if opV a = 2 ∧ opV b = 2 then .ok (tN (decide (nV a < nV b))) else .error 2)
  else if op = 16 then (if opV a = 2 ∧ opV b = 2 then .ok (tN (decide (nV a ≤ nV b))) else .error 2)
  else if op = 20 then inE es a b
  else if op = 25 then (if opV a = 5 then .ok (tN (inB (setR a) b)) else .error 2)
  else if op = 26 then (if opV a = 5 ∧ opV b = 5 then .ok (tN (allB (setR a) (setR b))) else .error 2)
  else if op = 27 then (if opV a = 5 ∧ opV b = 5 then .ok (tN (anyB (setR a) (setR b))) else .error 2)
  else (if opV a = 2 ∧ opV b = 2 then (if nmf op (nV a) (nV b) = 0 then .ok (mN (nx op (nV a) (nV b))) else .error (nmf op (nV a) (nV b))) else .error 2)
/-- A value that must be a Bool. -/
def boolE (a : Except Int (List Nd)) : Except Int Bool :=
  match a with
  | .error n => .error n
  | .ok v => if opV v = 1 then .ok (nV v == 1) else .error 2
def lazyE (enough : Bool) (a b : Except Int (List Nd)) : Except Int (List Nd) :=
  match boolE a with
  | .error n => .error n
  | .ok t => if t = enough then .ok (tN enough) else
    match boolE b with
    | .error n => .error n
    | .ok u => .ok (tN u)
def ifE (a b c : Except Int (List Nd)) : Except Int (List Nd) :=
  match boolE a with
  | .error n => .error n
  | .ok t => if t = true then b else c
def bindE {α β : Type} (a : Except Int α) (f : α → Except Int β) : Except Int β :=
  match a with
  | .error n => .error n
  | .ok v => f v
/-- The value of the expression that a list begins with. -/
noncomputable def evE (es : List En) (q : Rq) : Nat → List Nd → Except Int (List Nd)
  | 0, _ => .error 0
  | _ + 1, [] => .error 0
  | f + 1, x :: m =>
    if 1 ≤ x.op ∧ x.op ≤ 4 then .ok [x]
    else if x.op = 5 then bindE (evS (evE es q f) (bh f) x.n.toNat m) setE
    else if x.op = 6 then bindE (evR (evE es q f) (bh f) x.n.toNat m) recE
    else if x.op = 8 then varE q x.s
    else if x.op = 11 then lazyE false (evE es q f m) (evE es q f (bh f m))
    else if x.op = 12 then lazyE true (evE es q f m) (evE es q f (bh f m))
    else if x.op = 13 then ifE (evE es q f m) (evE es q f (bh f m)) (evE es q f (bh f (bh f m)))
    else if x.op = 9 ∨ x.op = 10 ∨ 21 ≤ x.op ∧ x.op ≤ 24 then bindE (evE es q f m) (oneE es x)
    else bindE (evE es q f m) fun a => bindE (evE es q f (bh f m)) fun b => twoE es x.op a b

/-- What is wrong with a request. -/
def askf (q : Rq) : Int := if uf q.who = 0 then (if uf q.act = 0 then (if uf q.what = 0 then afault q.cx else uf q.what) else uf q.act) else uf q.who
/-- All of Value. -/
noncomputable def valueL (es : List En) (q : Rq) (e : List Nd) : Except Int (List Nd) :=
  if stf es = 0 then (if askf q = 0 then (if xfault e = 0 then evE es q (e.length + 1) e else .error (xfault e)) else .error (askf q)) else .error (stf es)
end Go.Proofs.YtglhjhbhijekjaaGreatDoor
namespace Go.Proofs.YtglhjhbhijekjaaGreatDoor
set_option linter.unusedVariables false

/-- The numbers of some nodes are of 64 bits. -/
def N64 (v : List Nd) : Prop := ∀ x ∈ v, x.op = 2 → Fit x.n
/-- A value. -/
structure IsV (v : List Nd) : Prop where
  val : vfault v = 0
  num : N64 v
theorem N64.tail {x : Nd} {v : List Nd} (h : N64 (x :: v)) : N64 v := fun y hy => h y (List.mem_cons_of_mem _ hy)
theorem N64.drop {v : List Nd} (h : N64 v) (k : Nat) : N64 (v.drop k) := fun y hy => h y (List.mem_of_mem_drop hy)
theorem IsV.ne {v : List Nd} (h : IsV v) : v ≠ [] := by obtain ⟨x, r, e, _⟩ := value_head h.val; rw [e]; simp
theorem IsV.len {v : List Nd} (h : IsV v) : v.length ≤ 200 := (isVal_past h.val).1
theorem one_val {x : Nd} (h7 : x.op ≠ 7) (h5 : x.op ≠ 5) (h6 : x.op ≠ 6) (h : ndOk x = true) : vfault [x] = 0 := by
  unfold vfault isVal
  simp [pastV, h7, h5, h6, h]
theorem tN_is (b : Bool) : IsV (tN b) := ⟨by cases b <;> exact one_val (by decide) (by decide) (by decide) rfl, fun x hx h => by simp only [tN, List.mem_singleton] at hx; subst hx; exact absurd h (by decide : ¬ (1 : Int) = 2)⟩
theorem mN_is {n : Int} (h : Fit n) : IsV (mN n) := ⟨one_val (by show (2 : Int) ≠ 7; decide) (by show (2 : Int) ≠ 5; decide) (by show (2 : Int) ≠ 6; decide) rfl, fun x hx _ => by simp only [mN, List.mem_singleton] at hx; subst hx; exact h⟩
theorem uN_is {u : Ui} (h : uf u = 0) : IsV (uN u) := by
  refine ⟨one_val (by show (4 : Int) ≠ 7; decide) (by show (4 : Int) ≠ 5; decide) (by show (4 : Int) ≠ 6; decide) ?_, fun x hx h => by simp only [uN, List.mem_singleton] at hx; subst hx; exact absurd h (by decide : ¬ (4 : Int) = 2)⟩
  obtain ⟨h1, h2⟩ := ufault_both h
  simp [ndOk, h1, h2]
theorem atom_is {x : Nd} (h : exOk x = true) (h4 : 1 ≤ x.op ∧ x.op ≤ 4) (hn : x.op = 2 → Fit x.n) : IsV [x] := by
  refine ⟨one_val (by omega) (by omega) (by omega) ?_, fun y hy => by simp only [List.mem_singleton] at hy; subst hy; exact hn⟩
  unfold exOk at h
  rwa [if_pos (by omega)] at h
theorem flat_N64 {l : List (List Nd)} (h : ∀ v ∈ l, N64 v) : N64 l.flatten := by
  intro x hx
  obtain ⟨v, hv, hx⟩ := List.mem_flatten.1 hx
  exact h v hv x hx
theorem setE_is {ps : List (List Nd)} {a : List Nd} (h : ∀ v ∈ ps, IsV v) (e : setE ps = .ok a) : IsV a ∧ IsSet (setL ps) ∧ a = setN (setL ps) := by
  unfold setE at e
  split at e
  · rename_i hl
    injection e with e
    subst e
    have hs : IsSet (setL ps) := ⟨strict_setL ps, fun v hv => (h v ((mem_setL ps v).1 hv)).val, hl⟩
    refine ⟨⟨hs.value, ?_⟩, hs, rfl⟩
    intro x hx
    rcases List.mem_cons.1 hx with rfl | hx
    · intro h; exact absurd h (by decide : ¬ (5 : Int) = 2)
    · exact flat_N64 (fun v hv => (h v ((mem_setL ps v).1 hv)).num) x hx
  · cases e
theorem recE_is {ps : List Fd} {a : List Nd} (h : ∀ p ∈ ps, IsV p.2) (e : recE ps = .ok a) : IsV a ∧ a = recN (recS ps) := by
  unfold recE at e
  split at e
  · rename_i hf
    split at e
    · rename_i hl
      injection e with e
      subst e
      obtain ⟨h1, _, h3⟩ := (rfault_zero [] ps).1 hf
      refine ⟨⟨recN_value (strict_recS ps h3) (fun p hp => h1 p ((perm_recS ps).mem_iff.1 hp)) hl, ?_⟩, rfl⟩
      intro x hx
      rcases List.mem_cons.1 hx with rfl | hx
      · intro h; exact absurd h (by decide : ¬ (6 : Int) = 2)
      · obtain ⟨v, hv, hx⟩ := List.mem_flatten.1 hx
        obtain ⟨p, hp, rfl⟩ := List.mem_map.1 hv
        rcases List.mem_cons.1 hx with rfl | hx
        · intro h; exact absurd h (by decide : ¬ (7 : Int) = 2)
        · exact (h p ((perm_recS ps).mem_iff.1 hp)).num x hx
    · cases e
  · cases e
theorem Segs.flat {f : Nat} {u : List Nd} {ss : List (List Nd)} (h : Segs f u ss) : u = ss.flatten := by
  induction h with
  | nil => rfl
  | cons _ _ ih => rw [List.flatten_cons, ← ih]
theorem Segs.unique {f : Nat} {u : List Nd} {ss : List (List Nd)} (h : Segs f u ss) : ∀ {tt : List (List Nd)}, Segs f u tt → ss = tt := by
  induction h with
  | nil =>
    intro tt ht
    generalize hu : ([] : List Nd) = u at ht
    cases ht with
    | nil => rfl
    | cons h1 _ =>
      obtain ⟨a', e, _, hne⟩ := itemP_off h1
      rw [← hu] at e
      have := congrArg List.length e
      simp only [List.length_nil, List.length_append] at this
      exact absurd (List.eq_nil_of_length_eq_zero (by omega)) hne
  | @cons a r ss h1 h2 ih =>
    intro tt ht
    generalize hu : a ++ r = u at ht
    cases ht with
    | nil =>
      obtain ⟨a', e, _, hne⟩ := itemP_off h1
      rw [hu] at e
      have := congrArg List.length e
      simp only [List.length_nil, List.length_append] at this
      exact absurd (List.eq_nil_of_length_eq_zero (by omega)) hne
    | @cons b s tt h3 h4 =>
      rw [← hu, h1] at h3
      have e : r = s := Option.some.inj h3
      subst e
      have e2 := List.append_cancel_right hu
      rw [ih h4, e2]
theorem rising_item : ∀ {l : ByteArray} {ss : List (List Nd)}, Rising l ss → ∀ s ∈ ss, ∃ x r, s = x :: r ∧ x.op = 7
  | _, _, .nil _, s, h => by cases h
  | _, _, .cons h7 _ hs, s, h => by
    rcases List.mem_cons.1 h with rfl | h
    · exact ⟨_, _, rfl, h7⟩
    · exact rising_item hs s h
theorem segs_item {f : Nat} {u : List Nd} {ss : List (List Nd)} (h : Segs f u ss) : ∀ s ∈ ss, ∃ r, itemP f (s ++ r) = some r := by
  induction h with
  | nil => simp
  | @cons a r ss h1 _ ih =>
    intro s hs
    rcases List.mem_cons.1 hs with rfl | hs
    · exact ⟨r, h1⟩
    · exact ih s hs
theorem findS_mem {s : ByteArray} {u : List Nd} : ∀ {ss : List (List Nd)}, findS s ss = some u → ∃ x, (x :: u) ∈ ss
  | [], h => by cases h
  | [] :: ss, h => by obtain ⟨x, hx⟩ := findS_mem (ss := ss) h; exact ⟨x, List.mem_cons_of_mem _ hx⟩
  | (y :: t) :: ss, h => by
    simp only [findS] at h
    split at h
    · injection h with h; subst h; exact ⟨y, List.mem_cons_self⟩
    · obtain ⟨x, hx⟩ := findS_mem (ss := ss) h; exact ⟨x, List.mem_cons_of_mem _ hx⟩
theorem fldV_is {v u : List Nd} (h : IsV v) (h6 : opV v = 6) {s : ByteArray} (hu : fldV v s = some u) : IsV u := by
  have hv := h.val
  obtain ⟨x, r, rfl, _⟩ := value_head hv
  obtain ⟨ss, h1, e⟩ := fldV_spec hv h6 s
  obtain ⟨tt, h2, _, h3⟩ := rec_items hv h6
  have e2 := h1.unique h2
  subst e2
  rw [e] at hu
  obtain ⟨y, hy⟩ := findS_mem hu
  obtain ⟨_, _, e3, h7⟩ := rising_item h3 _ hy
  cases e3
  obtain ⟨rr, h4⟩ := segs_item h1 _ hy
  simp only [List.cons_append, itemP, h7, if_true] at h4
  obtain ⟨a, e4, h5⟩ := pastV_front _ _ _ h4
  have e5 := List.append_cancel_right e4
  subst e5
  have hlen := (h1.short _ hy)
  have hl := h.len
  simp only [List.length_cons] at hlen hl h5
  refine ⟨?_, fun z hz => h.num z ?_⟩
  · have h8 := pastV_fuel (r.length + 1) (u.length + 1) u (by omega) (by omega)
    unfold vfault isVal
    rw [if_neg (by omega), ← h8, h5]
    rfl
  · refine List.mem_cons_of_mem _ ?_
    rw [h1.flat]
    exact List.mem_flatten.2 ⟨_, hy, List.mem_cons_of_mem _ hz⟩
end Go.Proofs.YtglhjhbhijekjaaGreatDoor
namespace Go.Proofs.YtglhjhbhijekjaaGreatDoor
set_option linter.unusedVariables false

/-- A store and a request that are as they may be. -/
structure EnvOk (es : List En) (q : Rq) : Prop where
  st : stf es = 0
  ask : askf q = 0
  esN : ∀ e ∈ es, N64 e.nd
  cxN : N64 q.cx
theorem stf_list {es : List En} (h : stf es = 0) : lfault [] es = 0 := by
  unfold stf at h
  by_cases h1 : 16 < es.length
  · rw [if_pos h1] at h; cases h
  · rw [if_neg h1] at h
    by_cases h2 : lfault [] es = 0
    · exact h2
    · rw [if_neg h2] at h; exact absurd h h2
theorem afault_zero {l : List Nd} (h : afault l = 0) : vfault l = 0 ∧ opV l = 6 := by
  unfold afault at h
  split at h
  · rename_i hv
    refine ⟨hv, ?_⟩
    obtain ⟨x, r, rfl, _⟩ := value_head hv
    simp only at h
    split at h
    · assumption
    · cases h
  · rename_i hv; exact absurd h hv
theorem EnvOk.ent {es : List En} {q : Rq} (h : EnvOk es q) {e : En} (he : e ∈ es) : IsV e.nd ∧ opV e.nd = 6 := by
  obtain ⟨h1, _⟩ := lfault_zero [] es (stf_list h.st)
  obtain ⟨h2, h3⟩ := afault_zero (efault_zero (h1 e he).2.2).2
  exact ⟨⟨h2, h.esN e he⟩, h3⟩
theorem askf_zero {q : Rq} (h : askf q = 0) : uf q.who = 0 ∧ uf q.act = 0 ∧ uf q.what = 0 ∧ afault q.cx = 0 := by
  unfold askf at h
  split at h
  · rename_i h1
    split at h
    · rename_i h2
      split at h
      · rename_i h3
        exact ⟨h1, h2, h3, h⟩
      · rename_i h3; exact absurd h h3
    · rename_i h2; exact absurd h h2
  · rename_i h1; exact absurd h h1
theorem EnvOk.ctx {es : List En} {q : Rq} (h : EnvOk es q) : IsV q.cx ∧ opV q.cx = 6 := by
  obtain ⟨_, _, _, h4⟩ := askf_zero h.ask
  obtain ⟨h2, h3⟩ := afault_zero h4
  exact ⟨⟨h2, h.cxN⟩, h3⟩
theorem varE_is {es : List En} {q : Rq} (h : EnvOk es q) {s : ByteArray} {a : List Nd} (e : varE q s = .ok a) : IsV a := by
  obtain ⟨h1, h2, h3, _⟩ := askf_zero h.ask
  unfold varE at e
  split at e
  · injection e with e; subst e; exact uN_is h1
  · split at e
    · injection e with e; subst e; exact uN_is h2
    · split at e
      · injection e with e; subst e; exact uN_is h3
      · split at e
        · injection e with e; subst e; exact h.ctx.1
        · cases e
theorem attE_is {es : List En} {q : Rq} (h : EnvOk es q) {v r : List Nd} (hv : IsV v) (e : attE es v = .ok r) : IsV r ∧ opV r = 6 := by
  unfold attE at e
  split at e
  · rename_i h6; injection e with e; subst e; exact ⟨hv, h6⟩
  · split at e
    · split at e
      · rename_i x hx
        injection e with e; subst e
        exact h.ent (List.mem_of_find?_eq_some hx)
      · cases e
    · cases e
theorem oneE_is {es : List En} {q : Rq} (h : EnvOk es q) {x : Nd} {v a : List Nd} (hv : IsV v) (e : oneE es x v = .ok a) : IsV a := by
  unfold oneE at e
  split at e
  · split at e
    · injection e with e; subst e; exact tN_is _
    · cases e
  split at e
  · split at e
    · split at e
      · rename_i hf; injection e with e; subst e; exact mN_is hf
      · cases e
    · cases e
  split at e
  · unfold hasE at e
    split at e
    · injection e with e; subst e; exact tN_is _
    · split at e
      · injection e with e; subst e; exact tN_is _
      · cases e
  split at e
  · unfold getV at e
    split at e
    · rename_i r hr
      split at e
      · rename_i u hu
        injection e with e; subst e
        obtain ⟨h1, h2⟩ := attE_is h hv hr
        exact fldV_is h1 h2 hu
      · cases e
    · cases e
  split at e
  · split at e
    · injection e with e; subst e; exact tN_is _
    · cases e
  split at e
  · injection e with e; subst e; exact tN_is _
  · cases e
theorem nmf_fit {op a b : Int} (h : nmf op a b = 0) : Fit (nx op a b) := by
  unfold nmf at h
  split at h
  · split at h
    · assumption
    · cases h
  · cases h
theorem twoE_is {es : List En} {op : Int} {v u a : List Nd} (e : twoE es op v u = .ok a) : IsV a := by
  unfold twoE at e
  split at e
  · injection e with e; subst e; exact tN_is _
  split at e
  · split at e
    · injection e with e; subst e; exact tN_is _
    · cases e
  split at e
  · split at e
    · injection e with e; subst e; exact tN_is _
    · cases e
  split at e
  · unfold inE at e
    split at e
    · split at e
      · injection e with e; subst e; exact tN_is _
      · cases e
    · cases e
  split at e
  · split at e
    · injection e with e; subst e; exact tN_is _
    · cases e
  split at e
  · split at e
    · injection e with e; subst e; exact tN_is _
    · cases e
  split at e
  · split at e
    · injection e with e; subst e; exact tN_is _
    · cases e
  split at e
  · split at e
    · rename_i hf; injection e with e; subst e; exact mN_is (nmf_fit hf)
    · cases e
  · cases e
theorem lazyE_is {b : Bool} {x y : Except Int (List Nd)} {a : List Nd} (e : lazyE b x y = .ok a) : IsV a := by
  unfold lazyE at e
  split at e
  · cases e
  · split at e
    · injection e with e; subst e; exact tN_is _
    · split at e
      · cases e
      · injection e with e; subst e; exact tN_is _
theorem evS_is {ev : List Nd → Except Int (List Nd)} {f : Nat} (ih : ∀ v r a, pastE f v = some r → N64 v → ev v = .ok a → IsV a) :
    ∀ (k : Nat) (v r : List Nd) (l : List (List Nd)), partsE (pastE f) k v = some r → N64 v → evS ev (bh f) k v = .ok l → (∀ a ∈ l, IsV a) ∧ l.length = k
  | 0, v, r, l, _, _, h => by simp only [evS] at h; injection h with h; subst h; simp
  | k + 1, v, r, l, hp, hn, h => by
    simp only [partsE] at hp
    cases e1 : pastE f v with
    | none => rw [e1] at hp; cases hp
    | some s =>
      rw [e1] at hp
      simp only [evS] at h
      cases e2 : ev v with
      | error n => rw [e2] at h; cases h
      | ok a =>
        rw [e2, bh_of e1] at h
        simp only at h
        cases e3 : evS ev (bh f) k s with
        | error n => rw [e3] at h; cases h
        | ok m =>
          rw [e3] at h
          simp only at h
          injection h with h
          subst h
          obtain ⟨t, ht⟩ := (pastE_shorter e1).2
          obtain ⟨h1, h2⟩ := evS_is ih k s r m hp (fun x hx => hn x (by rw [ht]; exact List.mem_append_right _ hx)) e3
          refine ⟨fun b hb => ?_, by simp [h2]⟩
          rcases List.mem_cons.1 hb with rfl | hb
          · exact ih v s _ e1 hn e2
          · exact h1 b hb
theorem evR_is {ev : List Nd → Except Int (List Nd)} {f : Nat} (ih : ∀ v r a, pastE f v = some r → N64 v → ev v = .ok a → IsV a) :
    ∀ (k : Nat) (last : ByteArray) (v r : List Nd) (l : List Fd), recLoop (pastE f) k last v = some r → N64 v → evR ev (bh f) k v = .ok l → (∀ p ∈ l, IsV p.2) ∧ l.length = k
  | 0, _, v, r, l, _, _, h => by simp only [evR] at h; injection h with h; subst h; simp
  | k + 1, _, [], r, l, hp, hn, h => by simp [recLoop] at hp
  | k + 1, _, x :: v, r, l, hp, hn, h => by
    simp only [recLoop] at hp
    split at hp
    · cases e1 : pastE f v with
      | none => rw [e1] at hp; cases hp
      | some s =>
        rw [e1] at hp
        simp only [evR] at h
        cases e2 : ev v with
        | error n => rw [e2] at h; cases h
        | ok a =>
          rw [e2, bh_of e1] at h
          simp only at h
          cases e3 : evR ev (bh f) k s with
          | error n => rw [e3] at h; cases h
          | ok m =>
            rw [e3] at h
            simp only at h
            injection h with h
            subst h
            obtain ⟨t, ht⟩ := (pastE_shorter e1).2
            obtain ⟨h1, h2⟩ := evR_is ih k _ s r m hp (fun y hy => hn y (by rw [ht]; exact List.mem_cons_of_mem _ (List.mem_append_right _ hy))) e3
            refine ⟨fun b hb => ?_, by simp [h2]⟩
            rcases List.mem_cons.1 hb with rfl | hb
            · exact ih v s _ e1 hn.tail e2
            · exact h1 b hb
    · cases hp
theorem exOk_n {es : List En} {x : Nd} (h : exOk x = true) (h5 : x.op = 5) : (prt x).toNat = x.n.toNat := by unfold prt; rw [if_pos (Or.inl h5)]
/-- The value of an expression is a value. -/
theorem ev_is {es : List En} {q : Rq} (h : EnvOk es q) : ∀ (f : Nat) (v r a : List Nd), pastE f v = some r → N64 v → evE es q f v = .ok a → IsV a
  | 0, v, r, a, hp, _, _ => by simp [pastE] at hp
  | f + 1, v, r, a, hp, hn, e => by
    have ih := ev_is h f
    obtain ⟨g, x, m, e1, rfl, h7, hx, hr⟩ := pastE_cons hp
    obtain rfl : f = g := by omega
    simp only [evE] at e
    have one : 1 ≤ (prt x).toNat → x.op ≠ 6 → ∃ s1, pastE f m = some s1 ∧ partsE (pastE f) ((prt x).toNat - 1) s1 = some r := by
      intro h1 h6
      rcases hr with ⟨h6', _⟩ | ⟨_, hp⟩
      · exact absurd h6' h6
      · cases hk : (prt x).toNat with
        | zero => omega
        | succ d =>
          rw [hk] at hp
          simp only [partsE] at hp
          cases e1 : pastE f m with
          | none => rw [e1] at hp; cases hp
          | some s => rw [e1] at hp; exact ⟨s, rfl, hp⟩
    have tailN : ∀ s, IsTail s m → N64 s := fun s ⟨t, ht⟩ y hy => hn y (List.mem_cons_of_mem _ (by rw [ht]; exact List.mem_append_right _ hy))
    split at e
    · rename_i h4; injection e with e; subst e; exact atom_is hx h4 (hn x List.mem_cons_self)
    split at e
    · rename_i h5
      rcases hr with ⟨h6', _⟩ | ⟨_, hp⟩
      · omega
      · cases e2 : evS (evE es q f) (bh f) x.n.toNat m with
        | error n => rw [e2] at e; cases e
        | ok l =>
          rw [e2] at e
          rw [exOk_n (es := es) hx h5] at hp
          exact (setE_is (evS_is (f := f) (fun v r a h1 h2 h3 => ih v r a h1 h2 h3) _ _ _ _ hp hn.tail e2).1 e).1
    split at e
    · rename_i h6
      rcases hr with ⟨_, hp⟩ | ⟨h6', _⟩
      · cases e2 : evR (evE es q f) (bh f) x.n.toNat m with
        | error n => rw [e2] at e; cases e
        | ok l =>
          rw [e2] at e
          exact (recE_is (evR_is (f := f) (fun v r a h1 h2 h3 => ih v r a h1 h2 h3) _ _ _ _ _ hp hn.tail e2).1 e).1
      · exact absurd h6 h6'
    split at e
    · exact varE_is h e
    split at e
    · exact lazyE_is e
    split at e
    · exact lazyE_is e
    split at e
    · rename_i h13
      have e3 : (prt x).toNat = 3 := by unfold prt; rw [h13]; rfl
      obtain ⟨s1, p1, hp1⟩ := one (by omega) (by omega)
      rw [e3] at hp1
      simp only [partsE] at hp1
      cases e4 : pastE f s1 with
      | none => rw [e4] at hp1; cases hp1
      | some s2 =>
        rw [e4] at hp1
        simp only at hp1
        cases e5 : pastE f s2 with
        | none => rw [e5] at hp1; cases hp1
        | some s3 =>
          rw [bh_of p1, bh_of e4] at e
          have t1 := (pastE_shorter p1).2
          have t2 := (pastE_shorter e4).2.trans t1
          unfold ifE at e
          split at e
          · cases e
          · split at e
            · exact ih s1 s2 a e4 (tailN _ t1) e
            · exact ih s2 s3 a e5 (tailN _ t2) e
    split at e
    · rename_i h1
      have e3 : (prt x).toNat = 1 := by unfold prt; rw [if_neg (by omega), if_neg (by omega), if_pos (by omega)]; rfl
      obtain ⟨s1, p1, _⟩ := one (by omega) (by omega)
      cases e2 : evE es q f m with
      | error n => rw [e2] at e; cases e
      | ok v => rw [e2] at e; exact oneE_is h (ih m s1 v p1 hn.tail e2) e
    · cases e2 : evE es q f m with
      | error n => rw [e2] at e; cases e
      | ok v =>
        rw [e2] at e
        simp only [bindE] at e
        cases e3 : evE es q f (bh f m) with
        | error n => rw [e3] at e; cases e
        | ok u => rw [e3] at e; exact twoE_is e
end Go.Proofs.YtglhjhbhijekjaaGreatDoor
namespace Go.Proofs.YtglhjhbhijekjaaGreatDoor
set_option linter.unusedVariables false

theorem partsE_fst {pv : List Nd → Option (List Nd)} {k : Nat} {v r : List Nd} (h : partsE pv (k + 1) v = some r) : ∃ s, pv v = some s ∧ partsE pv k s = some r := by
  simp only [partsE] at h
  cases e : pv v with
  | none => rw [e] at h; cases h
  | some s => rw [e] at h; exact ⟨s, rfl, h⟩
section
variable {es : List En} {q : Rq} {f g : Nat} {φ : List Nd → List Nd}
theorem evS_lift (h : ∀ v r, pastE f v = some r → pastE g (φ v) = some (φ r) ∧ evE es q g (φ v) = evE es q f v) :
    ∀ (k : Nat) (v r : List Nd), partsE (pastE f) k v = some r → evS (evE es q g) (bh g) k (φ v) = evS (evE es q f) (bh f) k v
  | 0, v, r, _ => rfl
  | k + 1, v, r, hp => by
    obtain ⟨s, h1, h2⟩ := partsE_fst hp
    obtain ⟨h3, h4⟩ := h v s h1
    simp only [evS]
    rw [h4, bh_of h3, bh_of h1, evS_lift h k s r h2]
theorem evR_lift (hc : ∀ x r, x.op = 7 → φ (x :: r) = x :: φ r) (h : ∀ v r, pastE f v = some r → pastE g (φ v) = some (φ r) ∧ evE es q g (φ v) = evE es q f v) :
    ∀ (k : Nat) (last : ByteArray) (v r : List Nd), recLoop (pastE f) k last v = some r → evR (evE es q g) (bh g) k (φ v) = evR (evE es q f) (bh f) k v
  | 0, _, v, r, _ => by cases v <;> rfl
  | k + 1, _, [], r, hp => by simp [recLoop] at hp
  | k + 1, last, x :: v, r, hp => by
    simp only [recLoop] at hp
    split at hp
    · rename_i hx
      cases e : pastE f v with
      | none => rw [e] at hp; cases hp
      | some s =>
        rw [e] at hp
        obtain ⟨h3, h4⟩ := h v s e
        rw [hc x v hx.1]
        simp only [evR]
        rw [h4, bh_of h3, bh_of e, evR_lift hc h k _ s r hp]
    · cases hp
theorem evE_lift (hc : ∀ x r, x.op = 7 → φ (x :: r) = x :: φ r) (h : ∀ v r, pastE f v = some r → pastE g (φ v) = some (φ r) ∧ evE es q g (φ v) = evE es q f v)
    {x : Nd} {m r : List Nd} (hp : pastE (f + 1) (x :: m) = some r) : evE es q (g + 1) (x :: φ m) = evE es q (f + 1) (x :: m) := by
  obtain ⟨f', y, m', e1, e2, h7, hx, hr⟩ := pastE_cons hp
  obtain rfl : f = f' := by omega
  cases e2
  have hrng : 1 ≤ x.op ∧ x.op ≤ 27 := by
    unfold exOk prt at hx
    repeat' split at hx
    all_goals first | omega | cases hx
  have pp : x.op ≠ 6 → partsE (pastE f) (prt x).toNat m = some r := by
    intro h6
    rcases hr with ⟨h6', _⟩ | ⟨_, hp⟩
    · exact absurd h6' h6
    · exact hp
  simp only [evE]
  by_cases c4 : 1 ≤ x.op ∧ x.op ≤ 4
  · rw [if_pos c4, if_pos c4]
  rw [if_neg c4, if_neg c4]
  by_cases c5 : x.op = 5
  · have hq := pp (by omega)
    have e5 : (prt x).toNat = x.n.toNat := by unfold prt; rw [if_pos (Or.inl c5)]
    rw [e5] at hq
    rw [if_pos c5, if_pos c5, evS_lift h _ _ _ hq]
  rw [if_neg c5, if_neg c5]
  by_cases c6 : x.op = 6
  · rw [if_pos c6, if_pos c6]
    rcases hr with ⟨_, hq⟩ | ⟨h6, _⟩
    · rw [evR_lift hc h _ _ _ _ hq]
    · exact absurd c6 h6
  rw [if_neg c6, if_neg c6]
  by_cases c8 : x.op = 8
  · rw [if_pos c8, if_pos c8]
  rw [if_neg c8, if_neg c8]
  have hq := pp c6
  obtain ⟨k, hk⟩ : ∃ k, (prt x).toNat = k + 1 := by
    unfold prt
    rw [if_neg (by omega), if_neg (by omega)]
    split
    · exact ⟨0, rfl⟩
    · split
      · exact ⟨2, rfl⟩
      · exact ⟨1, by first | rfl | (split <;> first | rfl | omega)⟩
  rw [hk] at hq
  obtain ⟨s1, p1, hq1⟩ := partsE_fst hq
  obtain ⟨g1, v1⟩ := h m s1 p1
  by_cases c1 : x.op = 9 ∨ x.op = 10 ∨ 21 ≤ x.op ∧ x.op ≤ 24
  · rw [if_neg (by omega), if_neg (by omega), if_neg (by omega), if_pos c1, if_neg (by omega), if_neg (by omega), if_neg (by omega), if_pos c1, v1]
  obtain ⟨k2, hk2⟩ : ∃ k, (prt x).toNat = k + 2 := by
    unfold prt
    rw [if_neg (by omega), if_neg (by omega), if_neg (by omega)]
    split
    · exact ⟨1, rfl⟩
    · exact ⟨0, by first | rfl | (split <;> first | rfl | omega)⟩
  obtain rfl : k = k2 + 1 := by omega
  obtain ⟨s2, p2, hq2⟩ := partsE_fst hq1
  obtain ⟨g2, v2⟩ := h s1 s2 p2
  by_cases c3 : x.op = 13
  · have e3 : (prt x).toNat = 3 := by unfold prt; rw [c3]; rfl
    obtain rfl : k2 = 1 := by omega
    obtain ⟨s3, p3, _⟩ := partsE_fst hq2
    obtain ⟨g3, v3⟩ := h s2 s3 p3
    rw [if_neg (by omega), if_neg (by omega), if_pos c3, if_neg (by omega), if_neg (by omega), if_pos c3, bh_of g1, bh_of p1, bh_of g2, bh_of p2, v1, v2, v3]
  rw [if_neg c3, if_neg c3, if_neg c1, if_neg c1, bh_of g1, bh_of p1, v1, v2]
end
theorem ev_more (es : List En) (q : Rq) : ∀ (f : Nat) (v r : List Nd), pastE f v = some r → evE es q (f + 1) v = evE es q f v
  | 0, v, r, h => by simp [pastE] at h
  | f + 1, v, r, h => by
    obtain ⟨f', x, m, e1, rfl, _⟩ := pastE_cons h
    exact evE_lift (φ := id) (fun _ _ _ => rfl) (fun v r hv => ⟨pastE_more f v r hv, ev_more es q f v r hv⟩) h
theorem ev_mono {es : List En} {q : Rq} {f g : Nat} {v r : List Nd} (h : pastE f v = some r) (hg : f ≤ g) : evE es q g v = evE es q f v := by
  obtain ⟨d, rfl⟩ : ∃ d, g = f + d := ⟨g - f, by omega⟩
  clear hg
  induction d with
  | zero => rfl
  | succ d ih => rw [← Nat.add_assoc, ev_more es q (f + d) v r (pastE_mono h (by omega)), ih]
theorem ev_any {es : List En} {q : Rq} {f g : Nat} {v r : List Nd} (h : pastE f v = some r) (hg : v.length < g) : evE es q g v = evE es q f v := by
  by_cases hf : f ≤ g
  · exact ev_mono h hf
  · exact (ev_mono (pastE_any h hg) (by omega)).symm
theorem ev_append (es : List En) (q : Rq) (z : List Nd) : ∀ (f : Nat) (v r : List Nd), pastE f v = some r → evE es q f (v ++ z) = evE es q f v
  | 0, v, r, h => by simp [pastE] at h
  | f + 1, v, r, h => by
    obtain ⟨f', x, m, e1, rfl, _⟩ := pastE_cons h
    exact evE_lift (φ := (· ++ z)) (fun _ _ _ => rfl) (fun v r hv => ⟨pastE_append z f v r hv, ev_append es q z f v r hv⟩) h
/-- The value of all of an expression. -/
noncomputable def ev0 (es : List En) (q : Rq) (a : List Nd) : Except Int (List Nd) := evE es q (a.length + 1) a
theorem ev_part {es : List En} {q : Rq} {a : List Nd} (h : xfault a = 0) (z : List Nd) {f : Nat} (hf : a.length < f) : evE es q f (a ++ z) = ev0 es q a ∧ pastE f (a ++ z) = some z ∧ bh f (a ++ z) = z := by
  have h1 := (xfault_zero h).2
  have h2 : pastE f a = some [] := pastE_any h1 hf
  have h3 := pastE_append z f a [] h2
  rw [List.nil_append] at h3
  refine ⟨?_, h3, bh_of h3⟩
  rw [ev_append es q z f a [] h2]
  exact ev_any h1 hf
theorem valueL_ex {es : List En} {q : Rq} {e : List Nd} (h : xfault e = 0) : valueL es q e = if stf es = 0 then (if askf q = 0 then ev0 es q e else .error (askf q)) else .error (stf es) := by
  unfold valueL
  rw [if_pos h]
  rfl
theorem valueL_ok {es : List En} {q : Rq} {e v : List Nd} (h : valueL es q e = .ok v) : stf es = 0 ∧ askf q = 0 ∧ xfault e = 0 ∧ ev0 es q e = .ok v := by
  unfold valueL at h
  split at h
  · split at h
    · split at h
      · exact ⟨by assumption, by assumption, by assumption, h⟩
      · cases h
    · cases h
  · cases h

/-- A record's names with their values. -/
theorem recLoop_row {f : Nat} : ∀ (k : Nat) (last : ByteArray) (u r : List Nd), recLoop (pastV f) k last u = some r →
    ∃ l : List Fd, u = (l.map itemOf).flatten ++ r ∧ l.length = k ∧ RStrict l ∧ (∀ p ∈ l, nfault p.1.data.toList = 0 ∧ pastV f p.2 = some []) ∧ ∀ p ∈ l, cmpB last p.1 < 0
  | 0, last, u, r, h => by
    simp only [recLoop, Option.some.injEq] at h
    subst h
    exact ⟨[], rfl, rfl, List.Pairwise.nil, by simp, by simp⟩
  | k + 1, last, [], r, h => by simp [recLoop] at h
  | k + 1, last, x :: u, r, h => by
    simp only [recLoop] at h
    split at h
    · rename_i hx
      obtain ⟨x7, xo, xl⟩ := hx
      cases e : pastV f u with
      | none => rw [e] at h; cases h
      | some s =>
        rw [e] at h
        obtain ⟨a, ea, ha⟩ := pastV_front f u s e
        obtain ⟨l, e1, e2, e3, e4, e5⟩ := recLoop_row k x.s s r h
        have hnd : nfault x.s.data.toList = 0 ∧ x = ⟨7, 0, x.s, ⟨#[]⟩⟩ := by
          unfold ndOk at xo
          rw [if_neg (by omega), if_neg (by omega), if_neg (by omega), if_neg (by omega), if_neg (by omega), if_pos x7] at xo
          simp only [Bool.and_eq_true, beq_iff_eq] at xo
          obtain ⟨xop, xn, xs, xt⟩ := x
          simp only at x7 xo ⊢
          obtain ⟨⟨h1, h2⟩, h3⟩ := xo
          subst x7
          refine ⟨h3, ?_⟩
          rw [h1, empty_bytes h2]
        refine ⟨(x.s, a) :: l, ?_, by simp [e2], List.pairwise_cons.2 ⟨fun p hp => e5 p hp, e3⟩, fun p hp => ?_, fun p hp => ?_⟩
        · rw [ea, e1, List.map_cons, List.flatten_cons]
          unfold itemOf
          rw [← hnd.2]
          simp
        · rcases List.mem_cons.1 hp with rfl | hp
          · exact ⟨hnd.1, ha⟩
          · exact e4 p hp
        · rcases List.mem_cons.1 hp with rfl | hp
          · exact xl
          · exact cmpB_is.lt_le xl (by have := e5 p hp; omega)
    · cases h
theorem evS_vals {es : List En} {q : Rq} {f : Nat} (z : List Nd) : ∀ (l : List (List Nd)), (∀ v ∈ l, pastE f v = some [] ∧ evE es q f v = .ok v) → evS (evE es q f) (bh f) l.length (l.flatten ++ z) = .ok l
  | [], _ => rfl
  | v :: l, h => by
    obtain ⟨h1, h2⟩ := h v List.mem_cons_self
    have h3 := pastE_append (l.flatten ++ z) f v [] h1
    rw [List.nil_append] at h3
    simp only [List.length_cons, evS, List.flatten_cons, List.append_assoc]
    rw [ev_append es q _ f v [] h1, h2, bh_of h3, evS_vals z l (fun u hu => h u (List.mem_cons_of_mem _ hu))]
theorem evR_vals {es : List En} {q : Rq} {f : Nat} (z : List Nd) : ∀ (l : List Fd), (∀ p ∈ l, pastE f p.2 = some [] ∧ evE es q f p.2 = .ok p.2) → evR (evE es q f) (bh f) l.length ((l.map itemOf).flatten ++ z) = .ok l
  | [], _ => by cases z <;> rfl
  | p :: l, h => by
    obtain ⟨h1, h2⟩ := h p List.mem_cons_self
    have h3 := pastE_append ((l.map itemOf).flatten ++ z) f p.2 [] h1
    rw [List.nil_append] at h3
    simp only [List.length_cons, List.map_cons, List.flatten_cons, itemOf, List.cons_append, List.append_assoc, evR]
    rw [ev_append es q _ f p.2 [] h1, h2, bh_of h3]
    have := evR_vals z l (fun u hu => h u (List.mem_cons_of_mem _ hu))
    rw [this]
theorem past_val {f : Nat} {v : List Nd} (h : pastV f v = some []) (hl : v.length ≤ 200) : vfault v = 0 := by
  have h2 : pastV (v.length + 1) v = some [] := by
    by_cases hf : f ≤ v.length + 1
    · have := pastV_behind [] f (v.length + 1) v [] hf h; simpa using this
    · rw [← pastV_fuel f (v.length + 1) v (by omega) (by omega)]; exact h
  unfold vfault isVal
  rw [if_neg (by omega), h2]
  rfl
/-- A value's value is itself. -/
theorem const_ev (es : List En) (q : Rq) : ∀ (f : Nat) (v : List Nd), pastV f v = some [] → v.length ≤ 200 → evE es q f v = .ok v
  | 0, v, h, _ => by simp [pastV] at h
  | f + 1, [], h, _ => by simp [pastV] at h
  | f + 1, x :: m, h, hl => by
    have hv := past_val h hl
    obtain ⟨_, _, e, _, h7, hok, _⟩ := value_head hv
    cases e
    have ih := const_ev es q f
    have hop := ndOk_op hok
    simp only [pastV] at h
    rw [if_pos ⟨h7, hok⟩] at h
    simp only [evE]
    by_cases h5 : x.op = 5
    · rw [if_neg (by omega), if_pos h5]
      rw [if_pos h5] at h
      obtain ⟨l, e1, e2, e3, e4, _, _⟩ := setLoop_front (pv := pastV f) (fun u r hu => pastV_front f u r hu) (fun u r hu s => pastV_more f hu s) _ _ _ _ h
      rw [List.append_nil] at e1
      have hle : l.flatten.length + 1 ≤ 200 := by rw [← e1]; simpa using hl
      have hlen : ∀ v ∈ l, v.length ≤ 200 := fun v hv => by have := mem_flat hv; omega
      have h6 := evS_vals (es := es) (q := q) (f := f) [] l (fun v hv => ⟨pastV_pastE _ _ _ (e4 v hv), ih v (e4 v hv) (hlen v hv)⟩)
      rw [List.append_nil, e2, ← e1] at h6
      rw [h6]
      obtain ⟨L, hL, eL⟩ := set_row hv h5
      have hx : x = ⟨5, l.length, ⟨#[]⟩, ⟨#[]⟩⟩ := by
        have hxL : x = ⟨5, (L.length : Int), ⟨#[]⟩, ⟨#[]⟩⟩ := (List.cons.inj eL).1
        rw [hxL] at e2
        have : L.length = l.length := by simpa using e2.symm
        rw [hxL, this]
      have hsl : setL l = l := (setL_is e3 (fun x => Iff.rfl)).symm
      have hN : setN l = x :: m := by rw [hx, e1]; rfl
      simp only [bindE, setE]
      rw [hsl, hN, if_pos hl]
    · by_cases h6 : x.op = 6
      · rw [if_neg (by omega), if_neg h5, if_pos h6]
        rw [if_neg h5, if_pos h6] at h
        obtain ⟨l, e1, e2, e3, e4, _⟩ := recLoop_row _ _ _ _ h
        rw [List.append_nil] at e1
        have hsz : fsize l + 1 ≤ 200 := by rw [← fsize_flat, ← e1]; simpa using hl
        have hlen : ∀ p ∈ l, p.2.length ≤ 200 := fun p hp => by have := mem_fsize hp; omega
        have h8 := evR_vals (es := es) (q := q) (f := f) [] l (fun p hp => ⟨pastV_pastE _ _ _ (e4 p hp).2, ih p.2 (e4 p hp).2 (hlen p hp)⟩)
        rw [List.append_nil, e2, ← e1] at h8
        rw [h8]
        have hnd : (l.map Prod.fst).Nodup := by
          rw [List.Nodup, List.pairwise_map]
          exact e3.imp (fun {a b} hab e => by rw [e, cmpB_self] at hab; omega)
        have hrf : rfault [] l = 0 := (rfault_zero [] l).2 ⟨fun p hp => ⟨(e4 p hp).1, past_val (e4 p hp).2 (hlen p hp)⟩, by simp, hnd⟩
        have hrs : recS l = l := (recS_is hnd e3 (fun x => Iff.rfl)).symm
        have hN : recN l = x :: m := by
          have hx : x = ⟨6, (l.length : Int), ⟨#[]⟩, ⟨#[]⟩⟩ := by
            unfold ndOk at hok
            rw [if_neg (by omega), if_neg (by omega), if_neg (by omega), if_neg (by omega), if_pos (by omega)] at hok
            simp only [Bool.and_eq_true, decide_eq_true_eq] at hok
            obtain ⟨xop, xn, xs, xt⟩ := x
            simp only at h6 hok e2 ⊢
            obtain ⟨⟨h1, h2⟩, h3⟩ := hok
            subst h6
            have : xn = (l.length : Int) := by omega
            rw [this, empty_bytes h1, empty_bytes h2]
          rw [hx, e1]; rfl
        simp only [bindE, recE]
        rw [if_pos hrf, hrs, hN, if_pos hl]
      · rw [if_neg h5, if_neg h6] at h
        injection h with h
        subst h
        rw [if_pos (by omega)]
theorem const0 {es : List En} {q : Rq} {v : List Nd} (h : vfault v = 0) : ev0 es q v = .ok v := const_ev es q _ v (vfault_zero h).2 (vfault_zero h).1
/-- What a name stands for, put in its place. -/
theorem ev_put (es : List En) (q : Rq) (s : ByteArray) {V : List Nd} (hV : vfault V = 0) (hq : varE q s = .ok V) :
    ∀ (f : Nat) (v r : List Nd), pastE f v = some r → evE es q (f + (V.length + 1)) (putE s V v) = evE es q f v
  | 0, v, r, h => by simp [pastE] at h
  | f + 1, v, r, h => by
    have hx := value_ex hV
    obtain ⟨f', x, m, e1, rfl, h7, hok, hr⟩ := pastE_cons h
    rw [putE_cons]
    cases hs : isV s x with
    | true =>
      obtain ⟨h8, hxs⟩ := (isV_iff s x).1 hs
      rw [rep_yes hs, (ev_part hx _ (by omega)).1, const0 hV]
      simp only [evE]
      rw [if_neg (by omega), if_neg (by omega), if_neg (by omega), if_pos h8, hxs, hq]
    | false =>
      rw [rep_no hs, show f + 1 + (V.length + 1) = (f + (V.length + 1)) + 1 by omega]
      exact evE_lift (φ := putE s V) (fun x r h7 => by rw [putE_cons, rep_no (isV_op (by omega))]; rfl) (fun v r hv => ⟨pastE_put s (xfault_zero hx).2 f v r hv, ev_put es q s hV hq f v r hv⟩) h
theorem ev0_put {es : List En} {q : Rq} {s : ByteArray} {V e : List Nd} (hV : vfault V = 0) (hq : varE q s = .ok V) (he : xfault e = 0) (hl : (putE s V e).length ≤ 200) : ev0 es q (putE s V e) = ev0 es q e := by
  have h1 := (xfault_zero he).2
  have h2 := ev_put es q s hV hq _ _ _ h1
  have h4 := pastE_put s (xfault_zero (value_ex hV)).2 _ _ _ h1
  unfold ev0
  rw [← h2]
  exact ev_any h4 (by omega)
end Go.Proofs.YtglhjhbhijekjaaGreatDoor
namespace Go.Proofs.YtglhjhbhijekjaaGreatDoor
set_option linter.unusedVariables false

/-- A sign by itself. -/
def oN (o : Int) : Nd := ⟨o, 0, ⟨#[]⟩, ⟨#[]⟩⟩
section
variable {es : List En} {q : Rq}
theorem op1_ex {o : Int} (h7 : o ≠ 7) (h6 : o ≠ 6) (hx : exOk (oN o) = true) (hp : prt (oN o) = 1) {a : List Nd} (ha : xfault a = 0) (hl : a.length + 1 ≤ 200) : xfault (oN o :: a) = 0 := by
  refine xfault_ok (by simp; omega) ((isEx_iff _).2 ?_)
  rw [pastE_parts (g := (oN o :: a).length) (x := oN o) h7 hx h6, hp]
  have := (ev_part (es := []) (q := ⟨⟨⟨#[]⟩, ⟨#[]⟩⟩, ⟨⟨#[]⟩, ⟨#[]⟩⟩, ⟨⟨#[]⟩, ⟨#[]⟩⟩, []⟩) ha [] (f := (oN o :: a).length) (by simp)).2.1
  rw [List.append_nil] at this
  show partsE _ 1 a = _
  simp only [partsE]
  rw [this]
theorem op2_ex {o : Int} (h7 : o ≠ 7) (h6 : o ≠ 6) (hx : exOk (oN o) = true) (hp : prt (oN o) = 2) {a b : List Nd} (ha : xfault a = 0) (hb : xfault b = 0) (hl : a.length + b.length + 1 ≤ 200) : xfault (oN o :: (a ++ b)) = 0 := by
  refine xfault_ok (by simp; omega) ((isEx_iff _).2 ?_)
  rw [pastE_parts (g := (oN o :: (a ++ b)).length) (x := oN o) h7 hx h6, hp]
  have h1 := (ev_part (es := []) (q := ⟨⟨⟨#[]⟩, ⟨#[]⟩⟩, ⟨⟨#[]⟩, ⟨#[]⟩⟩, ⟨⟨#[]⟩, ⟨#[]⟩⟩, []⟩) ha b (f := (oN o :: (a ++ b)).length) (by simp; omega)).2.1
  have h2 := (ev_part (es := []) (q := ⟨⟨⟨#[]⟩, ⟨#[]⟩⟩, ⟨⟨#[]⟩, ⟨#[]⟩⟩, ⟨⟨#[]⟩, ⟨#[]⟩⟩, []⟩) hb [] (f := (oN o :: (a ++ b)).length) (by simp; omega)).2.1
  rw [List.append_nil] at h2
  show partsE _ 2 (a ++ b) = _
  simp only [partsE]
  rw [h1]
  simp only
  rw [h2]
theorem if_ex {a b c : List Nd} (ha : xfault a = 0) (hb : xfault b = 0) (hc : xfault c = 0) (hl : a.length + b.length + c.length + 1 ≤ 200) : xfault (oN 13 :: (a ++ (b ++ c))) = 0 := by
  refine xfault_ok (by simp; omega) ((isEx_iff _).2 ?_)
  rw [pastE_parts (g := (oN 13 :: (a ++ (b ++ c))).length) (x := oN 13) (by decide) rfl (by decide)]
  have h1 := (ev_part (es := []) (q := ⟨⟨⟨#[]⟩, ⟨#[]⟩⟩, ⟨⟨#[]⟩, ⟨#[]⟩⟩, ⟨⟨#[]⟩, ⟨#[]⟩⟩, []⟩) ha (b ++ c) (f := (oN 13 :: (a ++ (b ++ c))).length) (by simp; omega)).2.1
  have h2 := (ev_part (es := []) (q := ⟨⟨⟨#[]⟩, ⟨#[]⟩⟩, ⟨⟨#[]⟩, ⟨#[]⟩⟩, ⟨⟨#[]⟩, ⟨#[]⟩⟩, []⟩) hb c (f := (oN 13 :: (a ++ (b ++ c))).length) (by simp; omega)).2.1
  have h3 := (ev_part (es := []) (q := ⟨⟨⟨#[]⟩, ⟨#[]⟩⟩, ⟨⟨#[]⟩, ⟨#[]⟩⟩, ⟨⟨#[]⟩, ⟨#[]⟩⟩, []⟩) hc [] (f := (oN 13 :: (a ++ (b ++ c))).length) (by simp; omega)).2.1
  rw [List.append_nil] at h3
  show partsE _ 3 (a ++ (b ++ c)) = _
  simp only [partsE]
  rw [h1]
  simp only
  rw [h2]
  simp only
  rw [h3]
theorem ev_not {a : List Nd} (ha : xfault a = 0) : ev0 es q (oN 9 :: a) = bindE (ev0 es q a) (oneE es (oN 9)) := by
  have h := (ev_part (es := es) (q := q) ha [] (f := (oN 9 :: a).length) (by simp)).1
  rw [List.append_nil] at h
  show evE es q ((oN 9 :: a).length + 1) (oN 9 :: a) = _
  rw [show evE es q ((oN 9 :: a).length + 1) (oN 9 :: a) = bindE (evE es q (oN 9 :: a).length a) (oneE es (oN 9)) from rfl, h]
theorem ev_two {o : Int} {a b : List Nd} (ha : xfault a = 0) (hb : xfault b = 0) : evE es q ((oN o :: (a ++ b)).length) (a ++ b) = ev0 es q a ∧ evE es q ((oN o :: (a ++ b)).length) (bh ((oN o :: (a ++ b)).length) (a ++ b)) = ev0 es q b := by
  have h1 := ev_part (es := es) (q := q) ha b (f := (oN o :: (a ++ b)).length) (by simp; omega)
  have h2 := ev_part (es := es) (q := q) hb [] (f := (oN o :: (a ++ b)).length) (by simp; omega)
  rw [List.append_nil] at h2
  exact ⟨h1.1, by rw [h1.2.2]; exact h2.1⟩
theorem ev_and {a b : List Nd} (ha : xfault a = 0) (hb : xfault b = 0) : ev0 es q (oN 11 :: (a ++ b)) = lazyE false (ev0 es q a) (ev0 es q b) := by
  obtain ⟨h1, h2⟩ := ev_two (es := es) (q := q) (o := 11) ha hb
  rw [← h1, ← h2]; rfl
theorem ev_or {a b : List Nd} (ha : xfault a = 0) (hb : xfault b = 0) : ev0 es q (oN 12 :: (a ++ b)) = lazyE true (ev0 es q a) (ev0 es q b) := by
  obtain ⟨h1, h2⟩ := ev_two (es := es) (q := q) (o := 12) ha hb
  rw [← h1, ← h2]; rfl
theorem ev_eq {a b : List Nd} (ha : xfault a = 0) (hb : xfault b = 0) : ev0 es q (oN 14 :: (a ++ b)) = bindE (ev0 es q a) fun x => bindE (ev0 es q b) fun y => twoE es 14 x y := by
  obtain ⟨h1, h2⟩ := ev_two (es := es) (q := q) (o := 14) ha hb
  rw [← h1, ← h2]; rfl
theorem ev_one {a b : List Nd} (ha : xfault a = 0) (hb : xfault b = 0) : ev0 es q (oN 25 :: (a ++ b)) = bindE (ev0 es q a) fun x => bindE (ev0 es q b) fun y => twoE es 25 x y := by
  obtain ⟨h1, h2⟩ := ev_two (es := es) (q := q) (o := 25) ha hb
  rw [← h1, ← h2]; rfl
theorem ev_in {a b : List Nd} (ha : xfault a = 0) (hb : xfault b = 0) : ev0 es q (oN 20 :: (a ++ b)) = bindE (ev0 es q a) fun x => bindE (ev0 es q b) fun y => twoE es 20 x y := by
  obtain ⟨h1, h2⟩ := ev_two (es := es) (q := q) (o := 20) ha hb
  rw [← h1, ← h2]; rfl
theorem ev_if {a b c : List Nd} (ha : xfault a = 0) (hb : xfault b = 0) (hc : xfault c = 0) : ev0 es q (oN 13 :: (a ++ (b ++ c))) = ifE (ev0 es q a) (ev0 es q b) (ev0 es q c) := by
  have h1 := ev_part (es := es) (q := q) ha (b ++ c) (f := (oN 13 :: (a ++ (b ++ c))).length) (by simp; omega)
  have h2 := ev_part (es := es) (q := q) hb c (f := (oN 13 :: (a ++ (b ++ c))).length) (by simp; omega)
  have h3 := ev_part (es := es) (q := q) hc [] (f := (oN 13 :: (a ++ (b ++ c))).length) (by simp; omega)
  rw [List.append_nil] at h3
  have e : ev0 es q (oN 13 :: (a ++ (b ++ c))) = ifE (evE es q ((oN 13 :: (a ++ (b ++ c))).length) (a ++ (b ++ c))) (evE es q ((oN 13 :: (a ++ (b ++ c))).length) (bh ((oN 13 :: (a ++ (b ++ c))).length) (a ++ (b ++ c)))) (evE es q ((oN 13 :: (a ++ (b ++ c))).length) (bh ((oN 13 :: (a ++ (b ++ c))).length) (bh ((oN 13 :: (a ++ (b ++ c))).length) (a ++ (b ++ c))))) := rfl
  rw [e, h1.2.2, h2.2.2, h1.1, h2.1, h3.1]

/-- Not, of a value. -/
theorem not_of (v : List Nd) : oneE es (oN 9) v = if opV v = 1 then .ok (tN (!(nV v == 1))) else .error 2 := rfl
theorem bool_tN (b : Bool) : boolE (.ok (tN b)) = .ok b := by cases b <;> rfl
theorem bool_not (A : Except Int (List Nd)) : boolE (bindE A (oneE es (oN 9))) = bindE (boolE A) (fun b => .ok (!b)) := by
  cases A with
  | error n => rfl
  | ok v =>
    simp only [bindE, not_of, boolE]
    by_cases h : opV v = 1
    · rw [if_pos h, if_pos h]
      show boolE (.ok (tN _)) = _
      rw [bool_tN]
    · rw [if_neg h, if_neg h]
theorem lazy_bool (e : Bool) (A B : Except Int (List Nd)) : lazyE e A B = bindE (boolE A) (fun t => if t = e then .ok (tN e) else bindE (boolE B) (fun u => .ok (tN u))) := by
  unfold lazyE
  cases boolE A with
  | error n => rfl
  | ok t =>
    simp only [bindE]
    by_cases h : t = e
    · rw [if_pos h, if_pos h]
    · rw [if_neg h, if_neg h]
      cases boolE B <;> rfl
theorem not_tN (b : Bool) : oneE es (oN 9) (tN b) = .ok (tN (!b)) := by
  rw [not_of]
  cases b <;> rfl
theorem morgan_one (A B : Except Int (List Nd)) : bindE (lazyE false A B) (oneE es (oN 9)) = lazyE true (bindE A (oneE es (oN 9))) (bindE B (oneE es (oN 9))) := by
  rw [lazy_bool, lazy_bool, bool_not, bool_not]
  cases boolE A with
  | error n => rfl
  | ok t =>
    cases boolE B with
    | error n => cases t <;> simp [bindE, not_tN]
    | ok u => cases t <;> simp [bindE, not_tN]
theorem morgan_two (A B : Except Int (List Nd)) : bindE (lazyE true A B) (oneE es (oN 9)) = lazyE false (bindE A (oneE es (oN 9))) (bindE B (oneE es (oN 9))) := by
  rw [lazy_bool, lazy_bool, bool_not, bool_not]
  cases boolE A with
  | error n => rfl
  | ok t =>
    cases boolE B with
    | error n => cases t <;> simp [bindE, not_tN]
    | ok u => cases t <;> simp [bindE, not_tN]
theorem notnot_eq (A B : Except Int (List Nd)) : bindE (bindE (bindE A fun x => bindE B fun y => twoE es 14 x y) (oneE es (oN 9))) (oneE es (oN 9)) = bindE A fun x => bindE B fun y => twoE es 14 x y := by
  cases A with
  | error n => rfl
  | ok x =>
    cases B with
    | error n => rfl
    | ok y =>
      show bindE (bindE (.ok (tN _)) _) _ = Except.ok (tN _)
      simp [bindE, not_tN]
theorem value_same {a b : List Nd} (ha : xfault a = 0) (hb : xfault b = 0) (h : ev0 es q a = ev0 es q b) : valueL es q a = valueL es q b := by
  rw [valueL_ex ha, valueL_ex hb, h]
/-- De Morgan, with their errors. -/
theorem morgan_and {a b : List Nd} (ha : xfault a = 0) (hb : xfault b = 0) (hl : a.length + b.length + 3 ≤ 200) :
    valueL es q (oN 9 :: (oN 11 :: (a ++ b))) = valueL es q (oN 12 :: ((oN 9 :: a) ++ (oN 9 :: b))) := by
  have na := op1_ex (o := 9) (by decide) (by decide) rfl rfl ha (by omega)
  have nb := op1_ex (o := 9) (by decide) (by decide) rfl rfl hb (by omega)
  have ab := op2_ex (o := 11) (by decide) (by decide) rfl rfl ha hb (by omega)
  refine value_same (op1_ex (by decide) (by decide) rfl rfl ab (by simp; omega)) (op2_ex (by decide) (by decide) rfl rfl na nb (by simp; omega)) ?_
  rw [ev_not ab, ev_and ha hb, ev_or na nb, ev_not ha, ev_not hb, morgan_one]
theorem morgan_or {a b : List Nd} (ha : xfault a = 0) (hb : xfault b = 0) (hl : a.length + b.length + 3 ≤ 200) :
    valueL es q (oN 9 :: (oN 12 :: (a ++ b))) = valueL es q (oN 11 :: ((oN 9 :: a) ++ (oN 9 :: b))) := by
  have na := op1_ex (o := 9) (by decide) (by decide) rfl rfl ha (by omega)
  have nb := op1_ex (o := 9) (by decide) (by decide) rfl rfl hb (by omega)
  have ab := op2_ex (o := 12) (by decide) (by decide) rfl rfl ha hb (by omega)
  refine value_same (op1_ex (by decide) (by decide) rfl rfl ab (by simp; omega)) (op2_ex (by decide) (by decide) rfl rfl na nb (by simp; omega)) ?_
  rw [ev_not ab, ev_or ha hb, ev_and na nb, ev_not ha, ev_not hb, morgan_two]
theorem not_not {a b : List Nd} (ha : xfault a = 0) (hb : xfault b = 0) (hl : a.length + b.length + 3 ≤ 200) :
    valueL es q (oN 9 :: (oN 9 :: (oN 14 :: (a ++ b)))) = valueL es q (oN 14 :: (a ++ b)) := by
  have ab := op2_ex (o := 14) (by decide) (by decide) rfl rfl ha hb (by omega)
  have nab := op1_ex (o := 9) (by decide) (by decide) rfl rfl ab (by simp; omega)
  refine value_same (op1_ex (by decide) (by decide) rfl rfl nab (by simp; omega)) ab ?_
  rw [ev_not nab, ev_not ab, ev_eq ha hb, notnot_eq]

/-- A value that is true or false. -/
theorem truth_is {v : List Nd} (h : vfault v = 0) (h1 : opV v = 1) : v = tN (nV v == 1) := by
  obtain ⟨x, r, rfl, hl, h7, hok, hp⟩ := value_head h
  have x1 : x.op = 1 := h1
  rw [(isVal_past h).2, if_neg (by omega), if_neg (by omega)] at hp
  injection hp with hp
  subst hp
  unfold ndOk at hok
  rw [if_pos x1] at hok
  obtain ⟨xop, xn, xs, xt⟩ := x
  simp only [Bool.and_eq_true, Bool.or_eq_true, beq_iff_eq] at hok x1
  obtain ⟨⟨e1, e2⟩, e3⟩ := hok
  rw [x1, empty_bytes e1, empty_bytes e2]
  rcases e3 with rfl | rfl <;> rfl
theorem short_if {a b c v : List Nd} (ha : xfault a = 0) (hb : xfault b = 0) (hc : xfault c = 0) (hv : ev0 es q a = .ok v) (h1 : opV v = 1) : ev0 es q (oN 13 :: (a ++ (b ++ c))) = if nV v = 1 then ev0 es q b else ev0 es q c := by
  rw [ev_if ha hb hc, hv]
  simp only [ifE, boolE]
  rw [if_pos h1]
  by_cases h : nV v = 1
  · simp [h]
  · simp [h]
theorem short_and {a b v : List Nd} (ha : xfault a = 0) (hb : xfault b = 0) (hv : ev0 es q a = .ok v) (hva : vfault v = 0) (h1 : opV v = 1) (hn : nV v ≠ 1) : ev0 es q (oN 11 :: (a ++ b)) = .ok v := by
  rw [ev_and ha hb, hv]
  simp only [lazyE, boolE]
  rw [if_pos h1]
  have e : (nV v == 1) = false := by simpa using hn
  rw [e]
  simp only [if_true]
  rw [truth_is hva h1, e]
theorem short_or {a b v : List Nd} (ha : xfault a = 0) (hb : xfault b = 0) (hv : ev0 es q a = .ok v) (hva : vfault v = 0) (h1 : opV v = 1) (hn : nV v = 1) : ev0 es q (oN 12 :: (a ++ b)) = .ok v := by
  rw [ev_or ha hb, hv]
  simp only [lazyE, boolE]
  rw [if_pos h1]
  have e : (nV v == 1) = true := by simpa using hn
  rw [e]
  simp only [if_true]
  rw [truth_is hva h1, e]

/-- Parts, one behind the other. -/
theorem parts_rows {f : Nat} (z : List Nd) : ∀ (l : List (List Nd)), (∀ a ∈ l, xfault a = 0 ∧ a.length < f) → partsE (pastE f) l.length (l.flatten ++ z) = some z
  | [], _ => rfl
  | a :: l, h => by
    obtain ⟨h1, h2⟩ := h a List.mem_cons_self
    simp only [List.length_cons, List.flatten_cons, List.append_assoc, partsE]
    rw [(ev_part (es := []) (q := ⟨⟨⟨#[]⟩, ⟨#[]⟩⟩, ⟨⟨#[]⟩, ⟨#[]⟩⟩, ⟨⟨#[]⟩, ⟨#[]⟩⟩, []⟩) h1 (l.flatten ++ z) h2).2.1]
    exact parts_rows z l (fun b hb => h b (List.mem_cons_of_mem _ hb))
/-- The values of some expressions. -/
def okAll (ev : List Nd → Except Int (List Nd)) : List (List Nd) → Except Int (List (List Nd))
  | [] => .ok []
  | a :: l => bindE (ev a) fun v => bindE (okAll ev l) fun vs => .ok (v :: vs)
theorem evS_rows {f : Nat} (z : List Nd) : ∀ (l : List (List Nd)), (∀ a ∈ l, xfault a = 0 ∧ a.length < f) → evS (evE es q f) (bh f) l.length (l.flatten ++ z) = okAll (ev0 es q) l
  | [], _ => rfl
  | a :: l, h => by
    obtain ⟨h1, h2⟩ := h a List.mem_cons_self
    have h3 := ev_part (es := es) (q := q) h1 (l.flatten ++ z) h2
    simp only [List.length_cons, List.flatten_cons, List.append_assoc, evS, okAll]
    rw [h3.1, h3.2.2, evS_rows z l (fun b hb => h b (List.mem_cons_of_mem _ hb))]
    cases ev0 es q a with
    | error n => rfl
    | ok v =>
      simp only [bindE]
      cases okAll (ev0 es q) l <;> rfl
/-- A set of some expressions. -/
def sN (l : List (List Nd)) : List Nd := ⟨5, l.length, ⟨#[]⟩, ⟨#[]⟩⟩ :: l.flatten
theorem set_ex {l : List (List Nd)} (h : ∀ a ∈ l, xfault a = 0) (hl : l.flatten.length + 1 ≤ 200) : xfault (sN l) = 0 := by
  refine xfault_ok (by simp [sN]; simpa using hl) ((isEx_iff _).2 ?_)
  have hx : exOk ⟨5, (l.length : Int), ⟨#[]⟩, ⟨#[]⟩⟩ = true := by
    unfold exOk ndOk
    simp
  show pastE ((sN l).length + 1) (⟨5, (l.length : Int), ⟨#[]⟩, ⟨#[]⟩⟩ :: l.flatten) = _
  rw [pastE_parts (g := (sN l).length) (x := ⟨5, (l.length : Int), ⟨#[]⟩, ⟨#[]⟩⟩) (by show (5 : Int) ≠ 7; decide) hx (by show (5 : Int) ≠ 6; decide)]
  have := parts_rows (f := (sN l).length) [] l (fun a ha => ⟨h a ha, by have := mem_flat ha; show a.length < l.flatten.length + 1; omega⟩)
  rw [List.append_nil] at this
  exact this
theorem ev_set {l : List (List Nd)} (h : ∀ a ∈ l, xfault a = 0) : ev0 es q (sN l) = bindE (okAll (ev0 es q) l) setE := by
  have h1 := evS_rows (es := es) (q := q) (f := (sN l).length) [] l (fun a ha => ⟨h a ha, by have := mem_flat ha; show a.length < l.flatten.length + 1; omega⟩)
  rw [List.append_nil] at h1
  rw [← h1]
  rfl
theorem okAll_of {ev : List Nd → Except Int (List Nd)} (g : List Nd → List Nd) : ∀ (l : List (List Nd)), (∀ a ∈ l, ev a = .ok (g a)) → okAll ev l = .ok (l.map g)
  | [], _ => rfl
  | a :: l, h => by
    simp only [okAll]
    rw [h a List.mem_cons_self, okAll_of g l (fun b hb => h b (List.mem_cons_of_mem _ hb))]
    rfl
theorem setL_same {l m : List (List Nd)} (h : ∀ x, x ∈ l ↔ x ∈ m) : setL l = setL m :=
  setL_is (strict_setL l) (fun x => (mem_setL l x).trans (h x))
theorem setE_same {l m : List (List Nd)} (h : ∀ x, x ∈ l ↔ x ∈ m) : setE l = setE m := by
  unfold setE
  rw [setL_same h]
/-- A set does not see the order. -/
theorem sets_same {a b va vb : List Nd} (ha : xfault a = 0) (hb : xfault b = 0) (hl : 2 * (a.length + b.length) + 1 ≤ 200) (h1 : ev0 es q a = .ok va) (h2 : ev0 es q b = .ok vb) :
    xfault (sN [a, b]) = 0 ∧ xfault (sN [b, a, b]) = 0 ∧ ev0 es q (sN [a, b]) = setE [va, vb] ∧ ev0 es q (sN [b, a, b]) = setE [va, vb] := by
  have m2 : ∀ x ∈ [a, b], xfault x = 0 := by
    intro x hx
    simp only [List.mem_cons, List.not_mem_nil, or_false] at hx
    rcases hx with rfl | rfl <;> assumption
  have m3 : ∀ x ∈ [b, a, b], xfault x = 0 := by
    intro x hx
    simp only [List.mem_cons, List.not_mem_nil, or_false] at hx
    rcases hx with rfl | rfl | rfl <;> assumption
  refine ⟨set_ex m2 (by simp; omega), set_ex m3 (by simp; omega), ?_, ?_⟩
  · rw [ev_set m2]
    simp only [okAll, h1, h2, bindE]
  · rw [ev_set m3]
    simp only [okAll, h1, h2, bindE]
    exact setE_same (fun x => by simp only [List.mem_cons, List.not_mem_nil, or_false]; exact ⟨fun h => by rcases h with h | h | h <;> simp [h], fun h => by rcases h with h | h <;> simp [h]⟩)
theorem sets_has {a b va vb s : List Nd} (ha : xfault a = 0) (hb : xfault b = 0) (hl : 2 * (a.length + b.length) + 1 ≤ 200) (h1 : ev0 es q a = .ok va) (h2 : ev0 es q b = .ok vb) (k1 : IsV va) (k2 : IsV vb) (hs : setE [va, vb] = .ok s) (hbl : 1 ≤ b.length) :
    xfault (oN 25 :: (sN [a, b] ++ a)) = 0 ∧ ev0 es q (oN 25 :: (sN [a, b] ++ a)) = .ok (tN true) := by
  obtain ⟨x1, _, e1, _⟩ := sets_same ha hb hl h1 h2
  refine ⟨op2_ex (by decide) (by decide) rfl rfl x1 ha (by simp [sN]; omega), ?_⟩
  rw [ev_one x1 ha, e1, hs, h1]
  obtain ⟨_, hS, rfl⟩ := setE_is (fun v hv => by simp only [List.mem_cons, List.not_mem_nil, or_false] at hv; rcases hv with rfl | rfl <;> assumption) hs
  show (if opV (setN (setL [va, vb])) = 5 then Except.ok (tN (inB (setR (setN (setL [va, vb]))) va)) else .error 2) = _
  rw [if_pos (show opV (setN (setL [va, vb])) = 5 from rfl), setR_of hS, (inB_iff _ _).2 ((mem_setL _ _).2 (by simp))]
end
end Go.Proofs.YtglhjhbhijekjaaGreatDoor
