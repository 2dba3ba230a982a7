/- The value of an expression is a value: by the bound. No program is named here. The value of an expression: what stands behind it does not matter, nor the bound; a value's value is itself; what is put for a name. No program is named here. An error of a value has a number that is not zero. No program is named here. The laws of values: De Morgan, what is not asked for, sets. No program is named here. The parts of an expression, as what stands there on: with their values, one by one. No program is named here. Expressions as trees: a row of nodes, each with the row of its parts; what they are written out, and what they are worth. No program is named here. What is known ahead, plain: which part of an expression is the same in fewer nodes, or as a value; that it has the same value or error. No program is named here. What is better has the same value or error, in no more nodes. No program is named here. Package tree's partsOf and isField: by walks of their own texts. -/
import Derived.Test.YtnilaghbbhmkgaaGreatDoorF25
import Derived.Test.YtnilaghbbhmkgaaGreatDoorF22
import Derived.BigQuiet
import Derived.Deep.RegionWith
namespace Go.Proofs.YtnilaghbbhmkgaaGreatDoor
set_option linter.unusedVariables false

/-- A store and a request that are as they may be. -/
structure EnvOk (es : List En) (q : Rq) : Prop where
  st : stf es = 0
  ask : askf q = 0
  esN : ∀ e ∈ es, N64 e.nd
  cxN : N64 q.cx
theorem stf_list {es : List En} (h : stf es = 0) : lfault [] es = 0 := by
  unfold stf at h
  by_cases h1 : 16 < es.length
  · rw [if_pos h1] at h; cases h
  · rw [if_neg h1] at h
    by_cases h2 : lfault [] es = 0
    · exact h2
    · rw [if_neg h2] at h; exact absurd h h2
theorem afault_zero {l : List Nd} (h : afault l = 0) : vfault l = 0 ∧ opV l = 6 := by
  unfold afault at h
  split at h
  · rename_i hv
    refine ⟨hv, ?_⟩
    obtain ⟨x, r, rfl, _⟩ := value_head hv
    simp only at h
    split at h
    · assumption
    · cases h
  · rename_i hv; exact absurd h hv
theorem EnvOk.ent {es : List En} {q : Rq} (h : EnvOk es q) {e : En} (he : e ∈ es) : IsV e.nd ∧ opV e.nd = 6 := by
  obtain ⟨h1, _⟩ := lfault_zero [] es (stf_list h.st)
  obtain ⟨h2, h3⟩ := afault_zero (efault_zero (h1 e he).2.2).2
  exact ⟨⟨h2, h.esN e he⟩, h3⟩
theorem askf_zero {q : Rq} (h : askf q = 0) : uf q.who = 0 ∧ uf q.act = 0 ∧ uf q.what = 0 ∧ afault q.cx = 0 := by
  unfold askf at h
  split at h
  · rename_i h1
    split at h
    · rename_i h2
      split at h
      · rename_i h3
        exact ⟨h1, h2, h3, h⟩
      · rename_i h3; exact absurd h h3
    · rename_i h2; exact absurd h h2
  · rename_i h1; exact absurd h h1
theorem EnvOk.ctx {es : List En} {q : Rq} (h : EnvOk es q) : IsV q.cx ∧ opV q.cx = 6 := by
  obtain ⟨_, _, _, h4⟩ := askf_zero h.ask
  obtain ⟨h2, h3⟩ := afault_zero h4
  exact ⟨⟨h2, h.cxN⟩, h3⟩
theorem varE_is {es : List En} {q : Rq} (h : EnvOk es q) {s : ByteArray} {a : List Nd} (e : varE q s = .ok a) : IsV a := by
  obtain ⟨h1, h2, h3, _⟩ := askf_zero h.ask
  unfold varE at e
  split at e
  · injection e with e; subst e; exact uN_is h1
  · split at e
    · injection e with e; subst e; exact uN_is h2
    · split at e
      · injection e with e; subst e; exact uN_is h3
      · split at e
        · injection e with e; subst e; exact h.ctx.1
        · cases e
theorem attE_is {es : List En} {q : Rq} (h : EnvOk es q) {v r : List Nd} (hv : IsV v) (e : attE es v = .ok r) : IsV r ∧ opV r = 6 := by
  unfold attE at e
  split at e
  · rename_i h6; injection e with e; subst e; exact ⟨hv, h6⟩
  · split at e
    · split at e
      · rename_i x hx
        injection e with e; subst e
        exact h.ent (List.mem_of_find?_eq_some hx)
      · cases e
    · cases e
theorem oneE_is {es : List En} {q : Rq} (h : EnvOk es q) {x : Nd} {v a : List Nd} (hv : IsV v) (e : oneE es x v = .ok a) : IsV a := by
  unfold oneE at e
  split at e
  · split at e
    · injection e with e; subst e; exact tN_is _
    · cases e
  split at e
  · split at e
    · split at e
      · rename_i hf; injection e with e; subst e; exact mN_is hf
      · cases e
    · cases e
  split at e
  · unfold hasE at e
    split at e
    · injection e with e; subst e; exact tN_is _
    · split at e
      · injection e with e; subst e; exact tN_is _
      · cases e
  split at e
  · unfold getV at e
    split at e
    · rename_i r hr
      split at e
      · rename_i u hu
        injection e with e; subst e
        obtain ⟨h1, h2⟩ := attE_is h hv hr
        exact fldV_is h1 h2 hu
      · cases e
    · cases e
  split at e
  · split at e
    · injection e with e; subst e; exact tN_is _
    · cases e
  split at e
  · injection e with e; subst e; exact tN_is _
  · cases e
theorem nmf_fit {op a b : Int} (h : nmf op a b = 0) : Fit (nx op a b) := by
  unfold nmf at h
  split at h
  · split at h
    · assumption
    · cases h
  · cases h
theorem twoE_is {es : List En} {op : Int} {v u a : List Nd} (e : twoE es op v u = .ok a) : IsV a := by
  unfold twoE at e
  split at e
  · injection e with e; subst e; exact tN_is _
  split at e
  · split at e
    · injection e with e; subst e; exact tN_is _
    · cases e
  split at e
  · split at e
    · injection e with e; subst e; exact tN_is _
    · cases e
  split at e
  · unfold inE at e
    split at e
    · split at e
      · injection e with e; subst e; exact tN_is _
      · cases e
    · cases e
  split at e
  · split at e
    · injection e with e; subst e; exact tN_is _
    · cases e
  split at e
  · split at e
    · injection e with e; subst e; exact tN_is _
    · cases e
  split at e
  · split at e
    · injection e with e; subst e; exact tN_is _
    · cases e
  split at e
  · split at e
    · rename_i hf; injection e with e; subst e; exact mN_is (nmf_fit hf)
    · cases e
  · cases e
theorem lazyE_is {b : Bool} {x y : Except Int (List Nd)} {a : List Nd} (e : lazyE b x y = .ok a) : IsV a := by
  unfold lazyE at e
  split at e
  · cases e
  · split at e
    · injection e with e; subst e; exact tN_is _
    · split at e
      · cases e
      · injection e with e; subst e; exact tN_is _
theorem evS_is {ev : List Nd → Except Int (List Nd)} {f : Nat} (ih : ∀ v r a, pastE f v = some r → N64 v → ev v = .ok a → IsV a) :
    ∀ (k : Nat) (v r : List Nd) (l : List (List Nd)), partsE (pastE f) k v = some r → N64 v → evS ev (bh f) k v = .ok l → (∀ a ∈ l, IsV a) ∧ l.length = k
  | 0, v, r, l, _, _, h => by simp only [evS] at h; injection h with h; subst h; simp
  | k + 1, v, r, l, hp, hn, h => by
    simp only [partsE] at hp
    cases e1 : pastE f v with
    | none => rw [e1] at hp; cases hp
    | some s =>
      rw [e1] at hp
      simp only [evS] at h
      cases e2 : ev v with
      | error n => rw [e2] at h; cases h
      | ok a =>
        rw [e2, bh_of e1] at h
        simp only at h
        cases e3 : evS ev (bh f) k s with
        | error n => rw [e3] at h; cases h
        | ok m =>
          rw [e3] at h
          simp only at h
          injection h with h
          subst h
          obtain ⟨t, ht⟩ := (pastE_shorter e1).2
          obtain ⟨h1, h2⟩ := evS_is ih k s r m hp (fun x hx => hn x (by rw [ht]; exact List.mem_append_right _ hx)) e3
          refine ⟨fun b hb => ?_, by simp [h2]⟩
          rcases List.mem_cons.1 hb with rfl | hb
          · exact ih v s _ e1 hn e2
          · exact h1 b hb
theorem evR_is {ev : List Nd → Except Int (List Nd)} {f : Nat} (ih : ∀ v r a, pastE f v = some r → N64 v → ev v = .ok a → IsV a) :
    ∀ (k : Nat) (last : ByteArray) (v r : List Nd) (l : List Fd), recLoop (pastE f) k last v = some r → N64 v → evR ev (bh f) k v = .ok l → (∀ p ∈ l, IsV p.2) ∧ l.length = k
  | 0, _, v, r, l, _, _, h => by simp only [evR] at h; injection h with h; subst h; simp
  | k + 1, _, [], r, l, hp, hn, h => by simp [recLoop] at hp
  | k + 1, _, x :: v, r, l, hp, hn, h => by
    simp only [recLoop] at hp
    split at hp
    · cases e1 : pastE f v with
      | none => rw [e1] at hp; cases hp
      | some s =>
        rw [e1] at hp
        simp only [evR] at h
        cases e2 : ev v with
        | error n => rw [e2] at h; cases h
        | ok a =>
          rw [e2, bh_of e1] at h
          simp only at h
          cases e3 : evR ev (bh f) k s with
          | error n => rw [e3] at h; cases h
          | ok m =>
            rw [e3] at h
            simp only at h
            injection h with h
            subst h
            obtain ⟨t, ht⟩ := (pastE_shorter e1).2
            obtain ⟨h1, h2⟩ := evR_is ih k _ s r m hp (fun y hy => hn y (by rw [ht]; exact List.mem_cons_of_mem _ (List.mem_append_right _ hy))) e3
            refine ⟨fun b hb => ?_, by simp [h2]⟩
            rcases List.mem_cons.1 hb with rfl | hb
            · exact ih v s _ e1 hn.tail e2
            · exact h1 b hb
    · cases hp
theorem exOk_n {es : List En} {x : Nd} (h : exOk x = true) (h5 : x.op = 5) : (prt x).toNat = x.n.toNat := by unfold prt; rw [if_pos (Or.inl h5)]
/-- The value of an expression is a value. -/
theorem ev_is {es : List En} {q : Rq} (h : EnvOk es q) : ∀ (f : Nat) (v r a : List Nd), pastE f v = some r → N64 v → evE es q f v = .ok a → IsV a
  | 0, v, r, a, hp, _, _ => by simp [pastE] at hp
  | f + 1, v, r, a, hp, hn, e => by
    have ih := ev_is h f
    obtain ⟨g, x, m, e1, rfl, h7, hx, hr⟩ := pastE_cons hp
    obtain rfl : f = g := by omega
    simp only [evE] at e
    have one : 1 ≤ (prt x).toNat → x.op ≠ 6 → ∃ s1, pastE f m = some s1 ∧ partsE (pastE f) ((prt x).toNat - 1) s1 = some r := by
      intro h1 h6
      rcases hr with ⟨h6', _⟩ | ⟨_, hp⟩
      · exact absurd h6' h6
      · cases hk : (prt x).toNat with
        | zero => omega
        | succ d =>
          rw [hk] at hp
          simp only [partsE] at hp
          cases e1 : pastE f m with
          | none => rw [e1] at hp; cases hp
          | some s => rw [e1] at hp; exact ⟨s, rfl, hp⟩
    have tailN : ∀ s, IsTail s m → N64 s := fun s ⟨t, ht⟩ y hy => hn y (List.mem_cons_of_mem _ (by rw [ht]; exact List.mem_append_right _ hy))
    split at e
    · rename_i h4; injection e with e; subst e; exact atom_is hx h4 (hn x List.mem_cons_self)
    split at e
    · rename_i h5
      rcases hr with ⟨h6', _⟩ | ⟨_, hp⟩
      · omega
      · cases e2 : evS (evE es q f) (bh f) x.n.toNat m with
        | error n => rw [e2] at e; cases e
        | ok l =>
          rw [e2] at e
          rw [exOk_n (es := es) hx h5] at hp
          exact (setE_is (evS_is (f := f) (fun v r a h1 h2 h3 => ih v r a h1 h2 h3) _ _ _ _ hp hn.tail e2).1 e).1
    split at e
    · rename_i h6
      rcases hr with ⟨_, hp⟩ | ⟨h6', _⟩
      · cases e2 : evR (evE es q f) (bh f) x.n.toNat m with
        | error n => rw [e2] at e; cases e
        | ok l =>
          rw [e2] at e
          exact (recE_is (evR_is (f := f) (fun v r a h1 h2 h3 => ih v r a h1 h2 h3) _ _ _ _ _ hp hn.tail e2).1 e).1
      · exact absurd h6 h6'
    split at e
    · exact varE_is h e
    split at e
    · exact lazyE_is e
    split at e
    · exact lazyE_is e
    split at e
    · rename_i h13
      have e3 : (prt x).toNat = 3 := by unfold prt; rw [h13]; rfl
      obtain ⟨s1, p1, hp1⟩ := one (by omega) (by omega)
      rw [e3] at hp1
      simp only [partsE] at hp1
      cases e4 : pastE f s1 with
      | none => rw [e4] at hp1; cases hp1
      | some s2 =>
        rw [e4] at hp1
        simp only at hp1
        cases e5 : pastE f s2 with
        | none => rw [e5] at hp1; cases hp1
        | some s3 =>
          rw [bh_of p1, bh_of e4] at e
          have t1 := (pastE_shorter p1).2
          have t2 := (pastE_shorter e4).2.trans t1
          unfold ifE at e
          split at e
          · cases e
          · split at e
            · exact ih s1 s2 a e4 (tailN _ t1) e
            · exact ih s2 s3 a e5 (tailN _ t2) e
    split at e
    · rename_i h1
      have e3 : (prt x).toNat = 1 := by unfold prt; rw [if_neg (by omega), if_neg (by omega), if_pos (by omega)]; rfl
      obtain ⟨s1, p1, _⟩ := one (by omega) (by omega)
      cases e2 : evE es q f m with
      | error n => rw [e2] at e; cases e
      | ok v => rw [e2] at e; exact oneE_is h (ih m s1 v p1 hn.tail e2) e
    · cases e2 : evE es q f m with
      | error n => rw [e2] at e; cases e
      | ok v =>
        rw [e2] at e
        simp only [bindE] at e
        cases e3 : evE es q f (bh f m) with
        | error n => rw [e3] at e; cases e
        | ok u => rw [e3] at e; exact twoE_is e
end Go.Proofs.YtnilaghbbhmkgaaGreatDoor
namespace Go.Proofs.YtnilaghbbhmkgaaGreatDoor
set_option linter.unusedVariables false

theorem partsE_fst {pv : List Nd → Option (List Nd)} {k : Nat} {v r : List Nd} (h : partsE pv (k + 1) v = some r) : ∃ s, pv v = some s ∧ partsE pv k s = some r := by
  simp only [partsE] at h
  cases e : pv v with
  | none => rw [e] at h; cases h
  | some s => rw [e] at h; exact ⟨s, rfl, h⟩
section
variable {es : List En} {q : Rq} {f g : Nat} {φ : List Nd → List Nd}
theorem evS_lift (h : ∀ v r, pastE f v = some r → pastE g (φ v) = some (φ r) ∧ evE es q g (φ v) = evE es q f v) :
    ∀ (k : Nat) (v r : List Nd), partsE (pastE f) k v = some r → evS (evE es q g) (bh g) k (φ v) = evS (evE es q f) (bh f) k v
  | 0, v, r, _ => rfl
  | k + 1, v, r, hp => by
    obtain ⟨s, h1, h2⟩ := partsE_fst hp
    obtain ⟨h3, h4⟩ := h v s h1
    simp only [evS]
    rw [h4, bh_of h3, bh_of h1, evS_lift h k s r h2]
theorem evR_lift (hc : ∀ x r, x.op = 7 → φ (x :: r) = x :: φ r) (h : ∀ v r, pastE f v = some r → pastE g (φ v) = some (φ r) ∧ evE es q g (φ v) = evE es q f v) :
    ∀ (k : Nat) (last : ByteArray) (v r : List Nd), recLoop (pastE f) k last v = some r → evR (evE es q g) (bh g) k (φ v) = evR (evE es q f) (bh f) k v
  | 0, _, v, r, _ => by cases v <;> rfl
  | k + 1, _, [], r, hp => by simp [recLoop] at hp
  | k + 1, last, x :: v, r, hp => by
    simp only [recLoop] at hp
    split at hp
    · rename_i hx
      cases e : pastE f v with
      | none => rw [e] at hp; cases hp
      | some s =>
        rw [e] at hp
        obtain ⟨h3, h4⟩ := h v s e
        rw [hc x v hx.1]
        simp only [evR]
        rw [h4, bh_of h3, bh_of e, evR_lift hc h k _ s r hp]
    · cases hp
theorem evE_lift (hc : ∀ x r, x.op = 7 → φ (x :: r) = x :: φ r) (h : ∀ v r, pastE f v = some r → pastE g (φ v) = some (φ r) ∧ evE es q g (φ v) = evE es q f v)
    {x : Nd} {m r : List Nd} (hp : pastE (f + 1) (x :: m) = some r) : evE es q (g + 1) (x :: φ m) = evE es q (f + 1) (x :: m) := by
  obtain ⟨f', y, m', e1, e2, h7, hx, hr⟩ := pastE_cons hp
  obtain rfl : f = f' := by omega
  cases e2
  have hrng : 1 ≤ x.op ∧ x.op ≤ 27 := by
    unfold exOk prt at hx
    repeat' split at hx
    all_goals first | omega | cases hx
  have pp : x.op ≠ 6 → partsE (pastE f) (prt x).toNat m = some r := by
    intro h6
    rcases hr with ⟨h6', _⟩ | ⟨_, hp⟩
    · exact absurd h6' h6
    · exact hp
  simp only [evE]
  by_cases c4 : 1 ≤ x.op ∧ x.op ≤ 4
  · rw [if_pos c4, if_pos c4]
  rw [if_neg c4, if_neg c4]
  by_cases c5 : x.op = 5
  · have hq := pp (by omega)
    have e5 : (prt x).toNat = x.n.toNat := by unfold prt; rw [if_pos (Or.inl c5)]
    rw [e5] at hq
    rw [if_pos c5, if_pos c5, evS_lift h _ _ _ hq]
  rw [if_neg c5, if_neg c5]
  by_cases c6 : x.op = 6
  · rw [if_pos c6, if_pos c6]
    rcases hr with ⟨_, hq⟩ | ⟨h6, _⟩
    · rw [evR_lift hc h _ _ _ _ hq]
    · exact absurd c6 h6
  rw [if_neg c6, if_neg c6]
  by_cases c8 : x.op = 8
  · rw [if_pos c8, if_pos c8]
  rw [if_neg c8, if_neg c8]
  have hq := pp c6
  obtain ⟨k, hk⟩ : ∃ k, (prt x).toNat = k + 1 := by
    unfold prt
    rw [if_neg (by omega), if_neg (by omega)]
    split
    · exact ⟨0, rfl⟩
    · split
      · exact ⟨2, rfl⟩
      · exact ⟨1, by first | rfl | (split <;> first | rfl | omega)⟩
  rw [hk] at hq
  obtain ⟨s1, p1, hq1⟩ := partsE_fst hq
  obtain ⟨g1, v1⟩ := h m s1 p1
  by_cases c1 : x.op = 9 ∨ x.op = 10 ∨ 21 ≤ x.op ∧ x.op ≤ 24
  · rw [if_neg (by omega), if_neg (by omega), if_neg (by omega), if_pos c1, if_neg (by omega), if_neg (by omega), if_neg (by omega), if_pos c1, v1]
  obtain ⟨k2, hk2⟩ : ∃ k, (prt x).toNat = k + 2 := by
    unfold prt
    rw [if_neg (by omega), if_neg (by omega), if_neg (by omega)]
    split
    · exact ⟨1, rfl⟩
    · exact ⟨0, by first | rfl | (split <;> first | rfl | omega)⟩
  obtain rfl : k = k2 + 1 := by omega
  obtain ⟨s2, p2, hq2⟩ := partsE_fst hq1
  obtain ⟨g2, v2⟩ := h s1 s2 p2
  by_cases c3 : x.op = 13
  · have e3 : (prt x).toNat = 3 := by unfold prt; rw [c3]; rfl
    obtain rfl : k2 = 1 := by omega
    obtain ⟨s3, p3, _⟩ := partsE_fst hq2
    obtain ⟨g3, v3⟩ := h s2 s3 p3
    rw [if_neg (by omega), if_neg (by omega), if_pos c3, if_neg (by omega), if_neg (by omega), if_pos c3, bh_of g1, bh_of p1, bh_of g2, bh_of p2, v1, v2, v3]
  rw [if_neg c3, if_neg c3, if_neg c1, if_neg c1, bh_of g1, bh_of p1, v1, v2]
end
theorem ev_more (es : List En) (q : Rq) : ∀ (f : Nat) (v r : List Nd), pastE f v = some r → evE es q (f + 1) v = evE es q f v
  | 0, v, r, h => by simp [pastE] at h
  | f + 1, v, r, h => by
    obtain ⟨f', x, m, e1, rfl, _⟩ := pastE_cons h
    exact evE_lift (φ := id) (fun _ _ _ => rfl) (fun v r hv => ⟨pastE_more f v r hv, ev_more es q f v r hv⟩) h
theorem ev_mono {es : List En} {q : Rq} {f g : Nat} {v r : List Nd} (h : pastE f v = some r) (hg : f ≤ g) : evE es q g v = evE es q f v := by
  obtain ⟨d, rfl⟩ : ∃ d, g = f + d := ⟨g - f, by omega⟩
  clear hg
  induction d with
  | zero => rfl
  | succ d ih => rw [← Nat.add_assoc, ev_more es q (f + d) v r (pastE_mono h (by omega)), ih]
theorem ev_any {es : List En} {q : Rq} {f g : Nat} {v r : List Nd} (h : pastE f v = some r) (hg : v.length < g) : evE es q g v = evE es q f v := by
  by_cases hf : f ≤ g
  · exact ev_mono h hf
  · exact (ev_mono (pastE_any h hg) (by omega)).symm
theorem ev_append (es : List En) (q : Rq) (z : List Nd) : ∀ (f : Nat) (v r : List Nd), pastE f v = some r → evE es q f (v ++ z) = evE es q f v
  | 0, v, r, h => by simp [pastE] at h
  | f + 1, v, r, h => by
    obtain ⟨f', x, m, e1, rfl, _⟩ := pastE_cons h
    exact evE_lift (φ := (· ++ z)) (fun _ _ _ => rfl) (fun v r hv => ⟨pastE_append z f v r hv, ev_append es q z f v r hv⟩) h
/-- The value of all of an expression. -/
noncomputable def ev0 (es : List En) (q : Rq) (a : List Nd) : Except Int (List Nd) := evE es q (a.length + 1) a
theorem ev_part {es : List En} {q : Rq} {a : List Nd} (h : xfault a = 0) (z : List Nd) {f : Nat} (hf : a.length < f) : evE es q f (a ++ z) = ev0 es q a ∧ pastE f (a ++ z) = some z ∧ bh f (a ++ z) = z := by
  have h1 := (xfault_zero h).2
  have h2 : pastE f a = some [] := pastE_any h1 hf
  have h3 := pastE_append z f a [] h2
  rw [List.nil_append] at h3
  refine ⟨?_, h3, bh_of h3⟩
  rw [ev_append es q z f a [] h2]
  exact ev_any h1 hf
theorem valueL_ex {es : List En} {q : Rq} {e : List Nd} (h : xfault e = 0) : valueL es q e = if stf es = 0 then (if askf q = 0 then ev0 es q e else .error (askf q)) else .error (stf es) := by
  unfold valueL
  rw [if_pos h]
  rfl
theorem valueL_ok {es : List En} {q : Rq} {e v : List Nd} (h : valueL es q e = .ok v) : stf es = 0 ∧ askf q = 0 ∧ xfault e = 0 ∧ ev0 es q e = .ok v := by
  unfold valueL at h
  split at h
  · split at h
    · split at h
      · exact ⟨by assumption, by assumption, by assumption, h⟩
      · cases h
    · cases h
  · cases h

/-- A record's names with their values. -/
theorem recLoop_row {f : Nat} : ∀ (k : Nat) (last : ByteArray) (u r : List Nd), recLoop (pastV f) k last u = some r →
    ∃ l : List Fd, u = (l.map itemOf).flatten ++ r ∧ l.length = k ∧ RStrict l ∧ (∀ p ∈ l, nfault p.1.data.toList = 0 ∧ pastV f p.2 = some []) ∧ ∀ p ∈ l, cmpB last p.1 < 0
  | 0, last, u, r, h => by
    simp only [recLoop, Option.some.injEq] at h
    subst h
    exact ⟨[], rfl, rfl, List.Pairwise.nil, by simp, by simp⟩
  | k + 1, last, [], r, h => by simp [recLoop] at h
  | k + 1, last, x :: u, r, h => by
    simp only [recLoop] at h
    split at h
    · rename_i hx
      obtain ⟨x7, xo, xl⟩ := hx
      cases e : pastV f u with
      | none => rw [e] at h; cases h
      | some s =>
        rw [e] at h
        obtain ⟨a, ea, ha⟩ := pastV_front f u s e
        obtain ⟨l, e1, e2, e3, e4, e5⟩ := recLoop_row k x.s s r h
        have hnd : nfault x.s.data.toList = 0 ∧ x = ⟨7, 0, x.s, ⟨#[]⟩⟩ := by
          unfold ndOk at xo
          rw [if_neg (by omega), if_neg (by omega), if_neg (by omega), if_neg (by omega), if_neg (by omega), if_pos x7] at xo
          simp only [Bool.and_eq_true, beq_iff_eq] at xo
          obtain ⟨xop, xn, xs, xt⟩ := x
          simp only at x7 xo ⊢
          obtain ⟨⟨h1, h2⟩, h3⟩ := xo
          subst x7
          refine ⟨h3, ?_⟩
          rw [h1, empty_bytes h2]
        refine ⟨(x.s, a) :: l, ?_, by simp [e2], List.pairwise_cons.2 ⟨fun p hp => e5 p hp, e3⟩, fun p hp => ?_, fun p hp => ?_⟩
        · rw [ea, e1, List.map_cons, List.flatten_cons]
          unfold itemOf
          rw [← hnd.2]
          simp
        · rcases List.mem_cons.1 hp with rfl | hp
          · exact ⟨hnd.1, ha⟩
          · exact e4 p hp
        · rcases List.mem_cons.1 hp with rfl | hp
          · exact xl
          · exact cmpB_is.lt_le xl (by have := e5 p hp; omega)
    · cases h
theorem evS_vals {es : List En} {q : Rq} {f : Nat} (z : List Nd) : ∀ (l : List (List Nd)), (∀ v ∈ l, pastE f v = some [] ∧ evE es q f v = .ok v) → evS (evE es q f) (bh f) l.length (l.flatten ++ z) = .ok l
  | [], _ => rfl
  | v :: l, h => by
    obtain ⟨h1, h2⟩ := h v List.mem_cons_self
    have h3 := pastE_append (l.flatten ++ z) f v [] h1
    rw [List.nil_append] at h3
    simp only [List.length_cons, evS, List.flatten_cons, List.append_assoc]
    rw [ev_append es q _ f v [] h1, h2, bh_of h3, evS_vals z l (fun u hu => h u (List.mem_cons_of_mem _ hu))]
theorem evR_vals {es : List En} {q : Rq} {f : Nat} (z : List Nd) : ∀ (l : List Fd), (∀ p ∈ l, pastE f p.2 = some [] ∧ evE es q f p.2 = .ok p.2) → evR (evE es q f) (bh f) l.length ((l.map itemOf).flatten ++ z) = .ok l
  | [], _ => by cases z <;> rfl
  | p :: l, h => by
    obtain ⟨h1, h2⟩ := h p List.mem_cons_self
    have h3 := pastE_append ((l.map itemOf).flatten ++ z) f p.2 [] h1
    rw [List.nil_append] at h3
    simp only [List.length_cons, List.map_cons, List.flatten_cons, itemOf, List.cons_append, List.append_assoc, evR]
    rw [ev_append es q _ f p.2 [] h1, h2, bh_of h3]
    have := evR_vals z l (fun u hu => h u (List.mem_cons_of_mem _ hu))
    rw [this]
theorem past_val {f : Nat} {v : List Nd} (h : pastV f v = some []) (hl : v.length ≤ 200) : vfault v = 0 := by
  have h2 : pastV (v.length + 1) v = some [] := by
    by_cases hf : f ≤ v.length + 1
    · have := pastV_behind [] f (v.length + 1) v [] hf h; simpa using this
    · rw [← pastV_fuel f (v.length + 1) v (by omega) (by omega)]; exact h
  unfold vfault isVal
  rw [if_neg (by omega), h2]
  rfl
/-- A value's value is itself. -/
theorem const_ev (es : List En) (q : Rq) : ∀ (f : Nat) (v : List Nd), pastV f v = some [] → v.length ≤ 200 → evE es q f v = .ok v
  | 0, v, h, _ => by simp [pastV] at h
  | f + 1, [], h, _ => by simp [pastV] at h
  | f + 1, x :: m, h, hl => by
    have hv := past_val h hl
    obtain ⟨_, _, e, _, h7, hok, _⟩ := value_head hv
    cases e
    have ih := const_ev es q f
    have hop := ndOk_op hok
    simp only [pastV] at h
    rw [if_pos ⟨h7, hok⟩] at h
    simp only [evE]
    by_cases h5 : x.op = 5
    · rw [if_neg (by omega), if_pos h5]
      rw [if_pos h5] at h
      obtain ⟨l, e1, e2, e3, e4, _, _⟩ := setLoop_front (pv := pastV f) (fun u r hu => pastV_front f u r hu) (fun u r hu s => pastV_more f hu s) _ _ _ _ h
      rw [List.append_nil] at e1
      have hle : l.flatten.length + 1 ≤ 200 := by rw [← e1]; simpa using hl
      have hlen : ∀ v ∈ l, v.length ≤ 200 := fun v hv => by have := mem_flat hv; omega
      have h6 := evS_vals (es := es) (q := q) (f := f) [] l (fun v hv => ⟨pastV_pastE _ _ _ (e4 v hv), ih v (e4 v hv) (hlen v hv)⟩)
      rw [List.append_nil, e2, ← e1] at h6
      rw [h6]
      obtain ⟨L, hL, eL⟩ := set_row hv h5
      have hx : x = ⟨5, l.length, ⟨#[]⟩, ⟨#[]⟩⟩ := by
        have hxL : x = ⟨5, (L.length : Int), ⟨#[]⟩, ⟨#[]⟩⟩ := (List.cons.inj eL).1
        rw [hxL] at e2
        have : L.length = l.length := by simpa using e2.symm
        rw [hxL, this]
      have hsl : setL l = l := (setL_is e3 (fun x => Iff.rfl)).symm
      have hN : setN l = x :: m := by rw [hx, e1]; rfl
      simp only [bindE, setE]
      rw [hsl, hN, if_pos hl]
    · by_cases h6 : x.op = 6
      · rw [if_neg (by omega), if_neg h5, if_pos h6]
        rw [if_neg h5, if_pos h6] at h
        obtain ⟨l, e1, e2, e3, e4, _⟩ := recLoop_row _ _ _ _ h
        rw [List.append_nil] at e1
        have hsz : fsize l + 1 ≤ 200 := by rw [← fsize_flat, ← e1]; simpa using hl
        have hlen : ∀ p ∈ l, p.2.length ≤ 200 := fun p hp => by have := mem_fsize hp; omega
        have h8 := evR_vals (es := es) (q := q) (f := f) [] l (fun p hp => ⟨pastV_pastE _ _ _ (e4 p hp).2, ih p.2 (e4 p hp).2 (hlen p hp)⟩)
        rw [List.append_nil, e2, ← e1] at h8
        rw [h8]
        have hnd : (l.map Prod.fst).Nodup := by
          rw [List.Nodup, List.pairwise_map]
          exact e3.imp (fun {a b} hab e => by rw [e, cmpB_self] at hab; omega)
        have hrf : rfault [] l = 0 := (rfault_zero [] l).2 ⟨fun p hp => ⟨(e4 p hp).1, past_val (e4 p hp).2 (hlen p hp)⟩, by simp, hnd⟩
        have hrs : recS l = l := (recS_is hnd e3 (fun x => Iff.rfl)).symm
        have hN : recN l = x :: m := by
          have hx : x = ⟨6, (l.length : Int), ⟨#[]⟩, ⟨#[]⟩⟩ := by
            unfold ndOk at hok
            rw [if_neg (by omega), if_neg (by omega), if_neg (by omega), if_neg (by omega), if_pos (by omega)] at hok
            simp only [Bool.and_eq_true, decide_eq_true_eq] at hok
            obtain ⟨xop, xn, xs, xt⟩ := x
            simp only at h6 hok e2 ⊢
            obtain ⟨⟨h1, h2⟩, h3⟩ := hok
            subst h6
            have : xn = (l.length : Int) := by omega
            rw [this, empty_bytes h1, empty_bytes h2]
          rw [hx, e1]; rfl
        simp only [bindE, recE]
        rw [if_pos hrf, hrs, hN, if_pos hl]
      · rw [if_neg h5, if_neg h6] at h
        injection h with h
        subst h
        rw [if_pos (by omega)]
theorem const0 {es : List En} {q : Rq} {v : List Nd} (h : vfault v = 0) : ev0 es q v = .ok v := const_ev es q _ v (vfault_zero h).2 (vfault_zero h).1
end Go.Proofs.YtnilaghbbhmkgaaGreatDoor
namespace Go.Proofs.YtnilaghbbhmkgaaGreatDoor
set_option linter.unusedVariables false

section
variable {es : List En} {q : Rq} {n : Int}
end
end Go.Proofs.YtnilaghbbhmkgaaGreatDoor
namespace Go.Proofs.YtnilaghbbhmkgaaGreatDoor
set_option linter.unusedVariables false

/-- A sign by itself. -/
def oN (o : Int) : Nd := ⟨o, 0, ⟨#[]⟩, ⟨#[]⟩⟩
section
variable {es : List En} {q : Rq}
theorem ev_two {o : Int} {a b : List Nd} (ha : xfault a = 0) (hb : xfault b = 0) : evE es q ((oN o :: (a ++ b)).length) (a ++ b) = ev0 es q a ∧ evE es q ((oN o :: (a ++ b)).length) (bh ((oN o :: (a ++ b)).length) (a ++ b)) = ev0 es q b := by
  have h1 := ev_part (es := es) (q := q) ha b (f := (oN o :: (a ++ b)).length) (by simp; omega)
  have h2 := ev_part (es := es) (q := q) hb [] (f := (oN o :: (a ++ b)).length) (by simp; omega)
  rw [List.append_nil] at h2
  exact ⟨h1.1, by rw [h1.2.2]; exact h2.1⟩
theorem bool_tN (b : Bool) : boolE (.ok (tN b)) = .ok b := by cases b <;> rfl
theorem lazy_bool (e : Bool) (A B : Except Int (List Nd)) : lazyE e A B = bindE (boolE A) (fun t => if t = e then .ok (tN e) else bindE (boolE B) (fun u => .ok (tN u))) := by
  unfold lazyE
  cases boolE A with
  | error n => rfl
  | ok t =>
    simp only [bindE]
    by_cases h : t = e
    · rw [if_pos h, if_pos h]
    · rw [if_neg h, if_neg h]
      cases boolE B <;> rfl
theorem value_same {a b : List Nd} (ha : xfault a = 0) (hb : xfault b = 0) (h : ev0 es q a = ev0 es q b) : valueL es q a = valueL es q b := by
  rw [valueL_ex ha, valueL_ex hb, h]
/-- A value that is true or false. -/
theorem truth_is {v : List Nd} (h : vfault v = 0) (h1 : opV v = 1) : v = tN (nV v == 1) := by
  obtain ⟨x, r, rfl, hl, h7, hok, hp⟩ := value_head h
  have x1 : x.op = 1 := h1
  rw [(isVal_past h).2, if_neg (by omega), if_neg (by omega)] at hp
  injection hp with hp
  subst hp
  unfold ndOk at hok
  rw [if_pos x1] at hok
  obtain ⟨xop, xn, xs, xt⟩ := x
  simp only [Bool.and_eq_true, Bool.or_eq_true, beq_iff_eq] at hok x1
  obtain ⟨⟨e1, e2⟩, e3⟩ := hok
  rw [x1, empty_bytes e1, empty_bytes e2]
  rcases e3 with rfl | rfl <;> rfl
/-- The values of some expressions. -/
def okAll (ev : List Nd → Except Int (List Nd)) : List (List Nd) → Except Int (List (List Nd))
  | [] => .ok []
  | a :: l => bindE (ev a) fun v => bindE (okAll ev l) fun vs => .ok (v :: vs)
/-- A set of some expressions. -/
def sN (l : List (List Nd)) : List Nd := ⟨5, l.length, ⟨#[]⟩, ⟨#[]⟩⟩ :: l.flatten
end
end Go.Proofs.YtnilaghbbhmkgaaGreatDoor
namespace Go.Proofs.YtnilaghbbhmkgaaGreatDoor
set_option linter.unusedVariables false

/-- What begins with each of so many parts. -/
def sfx (f : Nat) : Nat → List Nd → List (List Nd)
  | 0, _ => []
  | k + 1, m => m :: sfx f k (bh f m)
/-- The same behind names. -/
def sfxR (f : Nat) : Nat → List Nd → List (List Nd)
  | 0, _ => []
  | k + 1, m => m.tail :: sfxR f k (bh f m.tail)
def nmsR (f : Nat) : Nat → List Nd → List ByteArray
  | 0, _ => []
  | k + 1, m => sV m :: nmsR f k (bh f m.tail)
def ssOf (f : Nat) (x : Nd) (m : List Nd) : List (List Nd) := if x.op = 6 then sfxR f (prt x).toNat m else sfx f (prt x).toNat m
/-- All of these stand in e, and an expression begins there. -/
def InE (f : Nat) (e : List Nd) (at0 : Nat) (ss : List (List Nd)) : Prop := ∀ s ∈ ss, e.drop (e.length - s.length) = s ∧ at0 < e.length - s.length ∧ s.length < e.length ∧ ∃ r, pastE f s = some r
section
variable {es : List En} {q : Rq} {f : Nat}
theorem evS_all : ∀ (k : Nat) (m : List Nd), evS (evE es q f) (bh f) k m = okAll (evE es q f) (sfx f k m)
  | 0, m => rfl
  | k + 1, m => by
    simp only [evS, sfx, okAll]
    rw [evS_all k]
    cases evE es q f m with
    | error n => rfl
    | ok a =>
      simp only [bindE]
      cases okAll (evE es q f) (sfx f k (bh f m)) <;> rfl
theorem evR_all : ∀ (k : Nat) (last : ByteArray) (m r : List Nd), recLoop (pastE f) k last m = some r → evR (evE es q f) (bh f) k m = bindE (okAll (evE es q f) (sfxR f k m)) fun vs => .ok ((nmsR f k m).zip vs)
  | 0, _, m, r, _ => by cases m <;> rfl
  | k + 1, _, [], r, h => by simp [recLoop] at h
  | k + 1, last, x :: m, r, h => by
    simp only [recLoop] at h
    split at h
    · cases e : pastE f m with
      | none => rw [e] at h; cases h
      | some s =>
        rw [e] at h
        simp only [evR, sfxR, nmsR, okAll, List.tail_cons]
        rw [bh_of e, evR_all k _ s r h]
        cases evE es q f m with
        | error n => rfl
        | ok a =>
          simp only [bindE]
          cases okAll (evE es q f) (sfxR f k s) <;> rfl
    · cases h
end
end Go.Proofs.YtnilaghbbhmkgaaGreatDoor
namespace Go.Proofs.YtnilaghbbhmkgaaGreatDoor
set_option linter.unusedVariables false

/-- A row of parts: a node, its own parts, and those behind it. -/
inductive Fo where
  | nil : Fo
  | cons (x : Nd) (k r : Fo) : Fo
namespace Fo
def flat : Fo → List Nd
  | nil => []
  | cons x k r => x :: (k.flat ++ r.flat)
def len : Fo → Nat
  | nil => 0
  | cons _ _ r => r.len + 1
def hds : Fo → List ByteArray
  | nil => []
  | cons x _ r => x.s :: r.hds
end Fo
/-- A row of expressions; or, behind a name, of fields whose names rise. -/
def okT : Option ByteArray → Fo → Prop
  | _, .nil => True
  | none, .cons x k r => x.op ≠ 7 ∧ exOk x = true ∧ (x.op = 6 ∧ k.len = x.n.toNat ∧ okT (some ⟨#[]⟩) k ∨ x.op ≠ 6 ∧ k.len = (prt x).toNat ∧ okT none k) ∧ okT none r
  | some l, .cons x k r => (x.op = 7 ∧ ndOk x = true ∧ cmpB l x.s < 0) ∧ (k.len = 1 ∧ okT none k) ∧ okT (some x.s) r
theorem okT.some_cons {l : ByteArray} {x : Nd} {k r : Fo} : okT (some l) (.cons x k r) ↔ (x.op = 7 ∧ ndOk x = true ∧ cmpB l x.s < 0) ∧ (k.len = 1 ∧ okT none k) ∧ okT (some x.s) r := by rw [okT]
theorem okT.none_cons {x : Nd} {k r : Fo} : okT none (.cons x k r) ↔ x.op ≠ 7 ∧ exOk x = true ∧ (x.op = 6 ∧ k.len = x.n.toNat ∧ okT (some ⟨#[]⟩) k ∨ x.op ≠ 6 ∧ k.len = (prt x).toNat ∧ okT none k) ∧ okT none r := by rw [okT]
theorem okT.nil {m : Option ByteArray} : okT m .nil := by cases m <;> simp [okT]

/-- What is so written is read so. -/
theorem past_of : ∀ (t : Fo) (f : Nat) (z : List Nd), t.flat.length < f → (okT none t → partsE (pastE f) t.len (t.flat ++ z) = some z) ∧ ∀ l, okT (some l) t → recLoop (pastE f) t.len l (t.flat ++ z) = some z
  | .nil, f, z, hf => ⟨fun _ => rfl, fun l _ => rfl⟩
  | .cons x k r, f, z, hf => by
    simp only [Fo.flat, List.length_cons, List.length_append] at hf
    obtain ⟨g, rfl⟩ : ∃ g, f = g + 1 := ⟨f - 1, by omega⟩
    refine ⟨fun h => ?_, fun l h => ?_⟩
    · obtain ⟨h7, hx, hk, hr⟩ := okT.none_cons.1 h
      have hp : pastE (g + 1) (x :: (k.flat ++ (r.flat ++ z))) = some (r.flat ++ z) := by
        rcases hk with ⟨h6, hl, hk⟩ | ⟨h6, hl, hk⟩
        · rw [pastE_rec h7 hx h6, ← hl]
          exact (past_of k g (r.flat ++ z) (by omega)).2 _ hk
        · rw [pastE_parts h7 hx h6, ← hl]
          exact (past_of k g (r.flat ++ z) (by omega)).1 hk
      simp only [Fo.len, Fo.flat, partsE, List.cons_append, List.append_assoc]
      rw [hp]
      exact (past_of r (g + 1) z (by omega)).1 hr
    · obtain ⟨⟨h7, hx, hc⟩, ⟨hl, hk⟩, hr⟩ := okT.some_cons.1 h
      have hp : pastE (g + 1) (k.flat ++ (r.flat ++ z)) = some (r.flat ++ z) := by
        have := (past_of k (g + 1) (r.flat ++ z) (by omega)).1 hk
        rw [hl] at this
        obtain ⟨s, h1, h2⟩ := partsE_fst this
        simp only [partsE, Option.some.injEq] at h2
        rw [h1, h2]
      simp only [Fo.len, Fo.flat, recLoop, List.cons_append, List.append_assoc]
      rw [if_pos ⟨h7, hx, hc⟩, hp]
      exact (past_of r (g + 1) z (by omega)).2 _ hr
/-- What is read falls into such parts. -/
theorem parts_tree {f : Nat} (h : ∀ v r, pastE f v = some r → ∃ x k, okT none (.cons x k .nil) ∧ v = x :: (k.flat ++ r)) : ∀ (n : Nat) (v r : List Nd), partsE (pastE f) n v = some r → ∃ t, t.len = n ∧ okT none t ∧ v = t.flat ++ r
  | 0, v, r, e => by simp only [partsE, Option.some.injEq] at e; subst e; exact ⟨.nil, rfl, okT.nil, rfl⟩
  | n + 1, v, r, e => by
    obtain ⟨s, h1, h2⟩ := partsE_fst e
    obtain ⟨x, k, h3, rfl⟩ := h _ _ h1
    obtain ⟨t, h4, h5, rfl⟩ := parts_tree h n s r h2
    obtain ⟨a, b, c, _⟩ := okT.none_cons.1 h3
    exact ⟨.cons x k t, by simp [Fo.len, h4], okT.none_cons.2 ⟨a, b, c, h5⟩, by simp [Fo.flat]⟩
theorem fields_tree {f : Nat} (h : ∀ v r, pastE f v = some r → ∃ x k, okT none (.cons x k .nil) ∧ v = x :: (k.flat ++ r)) : ∀ (n : Nat) (l : ByteArray) (v r : List Nd), recLoop (pastE f) n l v = some r → ∃ t, t.len = n ∧ okT (some l) t ∧ v = t.flat ++ r
  | 0, l, v, r, e => by simp only [recLoop, Option.some.injEq] at e; subst e; exact ⟨.nil, rfl, okT.nil, rfl⟩
  | n + 1, l, [], r, e => by simp [recLoop] at e
  | n + 1, l, y :: v, r, e => by
    simp only [recLoop] at e
    split at e
    · rename_i hy
      cases e1 : pastE f v with
      | none => rw [e1] at e; cases e
      | some s =>
        rw [e1] at e
        obtain ⟨x, k, h3, rfl⟩ := h _ _ e1
        obtain ⟨t, h4, h5, rfl⟩ := fields_tree h n _ s r e
        exact ⟨.cons y (.cons x k .nil) t, by simp [Fo.len, h4], okT.some_cons.2 ⟨hy, ⟨rfl, h3⟩, h5⟩, by simp [Fo.flat]⟩
    · cases e
theorem past_tree : ∀ (f : Nat) (v r : List Nd), pastE f v = some r → ∃ x k, okT none (.cons x k .nil) ∧ v = x :: (k.flat ++ r)
  | 0, v, r, h => by simp [pastE] at h
  | f + 1, v, r, h => by
    obtain ⟨g, x, m, e, rfl, h7, hx, hr⟩ := pastE_cons h
    obtain rfl : f = g := by omega
    rcases hr with ⟨h6, hr⟩ | ⟨h6, hr⟩
    · obtain ⟨t, h1, h2, rfl⟩ := fields_tree (past_tree f) _ _ _ _ hr
      exact ⟨x, t, okT.none_cons.2 ⟨h7, hx, .inl ⟨h6, h1, h2⟩, okT.nil⟩, rfl⟩
    · obtain ⟨t, h1, h2, rfl⟩ := parts_tree (past_tree f) _ _ _ hr
      exact ⟨x, t, okT.none_cons.2 ⟨h7, hx, .inr ⟨h6, h1, h2⟩, okT.nil⟩, rfl⟩
theorem ex_tree {v : List Nd} (h : xfault v = 0) : ∃ x k, okT none (.cons x k .nil) ∧ v = x :: k.flat := by
  obtain ⟨x, k, h1, h2⟩ := past_tree _ _ _ (xfault_zero h).2
  exact ⟨x, k, h1, by simpa using h2⟩
theorem tree_ex {x : Nd} {k : Fo} (h : okT none (.cons x k .nil)) (hl : k.flat.length + 1 ≤ 200) : xfault (x :: k.flat) = 0 := by
  refine xfault_ok (by simp; omega) ((isEx_iff _).2 ?_)
  have h1 := (past_of (.cons x k .nil) ((x :: k.flat).length + 1) [] (by simp [Fo.flat])).1 h
  obtain ⟨s, h2, h3⟩ := partsE_fst h1
  simp only [Fo.len, partsE, Option.some.injEq] at h3
  subst h3
  simpa [Fo.flat] using h2
/-- How many parts stand behind a node, for those that are of an expression. -/
def cntT (x : Nd) : Nat := if x.op = 7 then 1 else (prt x).toNat
theorem okT.cnt {m : Option ByteArray} {x : Nd} {k r : Fo} (h : okT m (.cons x k r)) : k.len = cntT x := by
  unfold cntT
  cases m with
  | none =>
    obtain ⟨h7, _, h, _⟩ := okT.none_cons.1 h
    rw [if_neg h7]
    rcases h with ⟨h6, h, _⟩ | ⟨_, h, _⟩
    · rw [h]; unfold prt; rw [if_pos (.inr h6)]
    · exact h
  | some l =>
    obtain ⟨⟨h7, _⟩, ⟨h, _⟩, _⟩ := okT.some_cons.1 h
    rw [if_pos h7, h]
/-- Each node has as many parts as it should. -/
def arT : Fo → Prop
  | .nil => True
  | .cons x k r => k.len = cntT x ∧ arT k ∧ arT r
theorem okT.ar : ∀ {t : Fo} {m : Option ByteArray}, okT m t → arT t
  | .nil, _, _ => trivial
  | .cons x k r, m, h => by
    refine ⟨h.cnt, ?_, ?_⟩
    · cases m with
      | none => obtain ⟨_, _, h | h, _⟩ := okT.none_cons.1 h; exact okT.ar h.2.2; exact okT.ar h.2.2
      | some l => obtain ⟨_, h, _⟩ := okT.some_cons.1 h; exact okT.ar h.2
    · cases m with
      | none => obtain ⟨_, _, _, h⟩ := okT.none_cons.1 h; exact okT.ar h
      | some l => obtain ⟨_, _, h⟩ := okT.some_cons.1 h; exact okT.ar h
theorem flat_inj : ∀ (a b : Fo) (u v : List Nd), arT a → arT b → a.len = b.len → a.flat ++ u = b.flat ++ v → a = b ∧ u = v
  | .nil, .nil, u, v, _, _, _, h => ⟨rfl, by simpa [Fo.flat] using h⟩
  | .nil, .cons _ _ _, u, v, _, _, hl, _ => by simp [Fo.len] at hl
  | .cons _ _ _, .nil, u, v, _, _, hl, _ => by simp [Fo.len] at hl
  | .cons x k r, .cons y l s, u, v, ⟨h1, h2, h3⟩, ⟨k1, k2, k3⟩, hl, h => by
    simp only [Fo.flat, List.cons_append, List.cons.injEq, List.append_assoc] at h
    obtain ⟨rfl, h⟩ := h
    obtain ⟨e1, hh⟩ := flat_inj k l _ _ h2 k2 (by rw [h1, k1]) h
    obtain ⟨e2, hz⟩ := flat_inj r s _ _ h3 k3 (by simpa [Fo.len] using hl) hh
    subst e1 e2
    exact ⟨rfl, hz⟩

/-- All that have a value, or the first error. -/
def seqE : List (Except Int (List Nd)) → Except Int (List (List Nd))
  | [] => .ok []
  | a :: l => bindE a fun v => bindE (seqE l) fun vs => .ok (v :: vs)
theorem okAll_seq (ev : List Nd → Except Int (List Nd)) : ∀ l : List (List Nd), okAll ev l = seqE (l.map ev)
  | [] => rfl
  | a :: l => by simp only [okAll, List.map_cons, seqE]; rw [okAll_seq ev l]
def at0 (l : List (Except Int (List Nd))) (i : Nat) : Except Int (List Nd) := (l[i]?).getD (.error 0)
/-- What a node makes of its parts' answers. -/
noncomputable def nodeE (es : List En) (q : Rq) (x : Nd) (nm : List ByteArray) (l : List (Except Int (List Nd))) : Except Int (List Nd) :=
  if 1 ≤ x.op ∧ x.op ≤ 4 then .ok [x]
  else if x.op = 5 then bindE (seqE l) setE
  else if x.op = 6 then bindE (seqE l) fun vs => recE (nm.zip vs)
  else if x.op = 7 then at0 l 0
  else if x.op = 8 then varE q x.s
  else if x.op = 11 then lazyE false (at0 l 0) (at0 l 1)
  else if x.op = 12 then lazyE true (at0 l 0) (at0 l 1)
  else if x.op = 13 then ifE (at0 l 0) (at0 l 1) (at0 l 2)
  else if x.op = 9 ∨ x.op = 10 ∨ 21 ≤ x.op ∧ x.op ≤ 24 then bindE (at0 l 0) (oneE es x)
  else bindE (at0 l 0) fun a => bindE (at0 l 1) fun b => twoE es x.op a b
/-- The answers of a row. -/
noncomputable def evF (es : List En) (q : Rq) : Fo → List (Except Int (List Nd))
  | .nil => []
  | .cons x k r => nodeE es q x k.hds (evF es q k) :: evF es q r
theorem ev_tree (es : List En) (q : Rq) : ∀ (t : Fo) (f : Nat) (z : List Nd), t.flat.length < f →
    (okT none t → (sfx f t.len (t.flat ++ z)).map (evE es q f) = evF es q t) ∧
    ∀ l, okT (some l) t → (sfxR f t.len (t.flat ++ z)).map (evE es q f) = evF es q t ∧ nmsR f t.len (t.flat ++ z) = t.hds
  | .nil, f, z, hf => ⟨fun _ => rfl, fun l _ => ⟨rfl, rfl⟩⟩
  | .cons x k r, f, z, hf => by
    simp only [Fo.flat, List.length_cons, List.length_append] at hf
    obtain ⟨g, rfl⟩ : ∃ g, f = g + 1 := ⟨f - 1, by omega⟩
    refine ⟨fun h => ?_, fun l h => ?_⟩
    · obtain ⟨h7, hx, hk, hr⟩ := okT.none_cons.1 h
      have hp := (past_of (.cons x k .nil) (g + 1) (r.flat ++ z) (by simp [Fo.flat]; omega)).1 (okT.none_cons.2 ⟨h7, hx, hk, okT.nil⟩)
      obtain ⟨s, h1, h2⟩ := partsE_fst hp
      simp only [Fo.len, partsE, Option.some.injEq] at h2
      subst h2
      simp only [Fo.flat, List.cons_append, List.append_nil] at h1
      simp only [Fo.len, Fo.flat, List.cons_append, List.append_assoc, sfx, List.map_cons, evF]
      rw [bh_of h1, (ev_tree es q r (g + 1) z (by omega)).1 hr]
      congr 1
      have hcx := h.cnt
      obtain ⟨e1, e2⟩ := ev_tree es q k g (r.flat ++ z) (by omega)
      obtain ⟨p1, p2⟩ := past_of k g (r.flat ++ z) (by omega)
      unfold nodeE
      simp only [evE]
      by_cases c4 : 1 ≤ x.op ∧ x.op ≤ 4
      · rw [if_pos c4, if_pos c4]
      rw [if_neg c4, if_neg c4]
      by_cases c5 : x.op = 5
      · rw [if_pos c5, if_pos c5, evS_all, okAll_seq]
        rcases hk with ⟨h6, _⟩ | ⟨_, hl, hk⟩
        · omega
        · have : k.len = x.n.toNat := by rw [hl]; unfold prt; rw [if_pos (.inl c5)]
          rw [← this, e1 hk]
      rw [if_neg c5, if_neg c5]
      by_cases c6 : x.op = 6
      · rw [if_pos c6, if_pos c6]
        rcases hk with ⟨_, hl, hk⟩ | ⟨h6, _⟩
        · rw [← hl, evR_all _ _ _ _ (p2 _ hk), okAll_seq, (e2 _ hk).1, (e2 _ hk).2]
          cases seqE (evF es q k) <;> rfl
        · omega
      rw [if_neg c6, if_neg c6, if_neg h7]
      have hk2 : okT none k := by rcases hk with ⟨h6, _⟩ | ⟨_, _, hk⟩; omega; exact hk
      replace e1 := e1 hk2
      by_cases c8 : x.op = 8
      · rw [if_pos c8, if_pos c8]
      rw [if_neg c8, if_neg c8]
      have two : k.len = 2 → evE es q g (k.flat ++ (r.flat ++ z)) = at0 (evF es q k) 0 ∧ evE es q g (bh g (k.flat ++ (r.flat ++ z))) = at0 (evF es q k) 1 := fun h2 => by
        rw [h2] at e1
        simp only [sfx, List.map_cons, List.map_nil] at e1
        rw [← e1]
        exact ⟨rfl, rfl⟩
      by_cases c11 : x.op = 11
      · have := two (by rw [hcx]; unfold cntT; rw [if_neg h7]; unfold prt; rw [c11]; rfl)
        rw [if_pos c11, if_pos c11, this.1, this.2]
      rw [if_neg c11, if_neg c11]
      by_cases c12 : x.op = 12
      · have := two (by rw [hcx]; unfold cntT; rw [if_neg h7]; unfold prt; rw [c12]; rfl)
        rw [if_pos c12, if_pos c12, this.1, this.2]
      rw [if_neg c12, if_neg c12]
      by_cases c13 : x.op = 13
      · have h3 : k.len = 3 := by rw [hcx]; unfold cntT; rw [if_neg h7]; unfold prt; rw [c13]; rfl
        rw [h3] at e1
        simp only [sfx, List.map_cons, List.map_nil] at e1
        rw [if_pos c13, if_pos c13, ← e1]
        rfl
      rw [if_neg c13, if_neg c13]
      by_cases c9 : x.op = 9 ∨ x.op = 10 ∨ 21 ≤ x.op ∧ x.op ≤ 24
      · have h3 : k.len = 1 := by rw [hcx]; unfold cntT; rw [if_neg h7]; unfold prt; rw [if_neg (by omega), if_neg (by omega), if_pos (by omega)]; rfl
        rw [h3] at e1
        simp only [sfx, List.map_cons, List.map_nil] at e1
        rw [if_pos c9, if_pos c9, ← e1]
        rfl
      rw [if_neg c9, if_neg c9]
      have := two (by
        have hr0 : ¬ prt x < 0 := by
          intro hn
          unfold exOk at hx
          rw [if_neg (by omega), if_pos hn] at hx
          cases hx
        rw [hcx]
        unfold cntT
        rw [if_neg h7]
        unfold prt at hr0 ⊢
        rw [if_neg (by omega), if_neg (by omega), if_neg (by omega), if_neg (by omega)] at hr0 ⊢
        split
        · rfl
        · rename_i hh; rw [if_neg hh] at hr0; exact absurd (by decide) hr0)
      rw [this.1, this.2]
    · obtain ⟨⟨h7, hx, hc⟩, ⟨hl, hk⟩, hr⟩ := okT.some_cons.1 h
      have hp := (past_of k (g + 1) (r.flat ++ z) (by omega)).1 hk
      rw [hl] at hp
      obtain ⟨s, h1, h2⟩ := partsE_fst hp
      simp only [partsE, Option.some.injEq] at h2
      subst h2
      have e1 := (ev_tree es q k (g + 1) (r.flat ++ z) (by omega)).1 hk
      rw [hl] at e1
      simp only [sfx, List.map_cons, List.map_nil] at e1
      obtain ⟨e2, e3⟩ := (ev_tree es q r (g + 1) z (by omega)).2 _ hr
      simp only [Fo.len, Fo.flat, List.cons_append, List.append_assoc, sfxR, nmsR, List.map_cons, evF, Fo.hds, List.tail_cons, sV]
      rw [bh_of h1, e2, e3]
      refine ⟨?_, rfl⟩
      congr 1
      unfold nodeE
      rw [if_neg (by omega), if_neg (by omega), if_neg (by omega), if_pos h7, ← e1]
      rfl
theorem ev0_tree (es : List En) (q : Rq) {x : Nd} {k : Fo} (h : okT none (.cons x k .nil)) : ev0 es q (x :: k.flat) = nodeE es q x k.hds (evF es q k) := by
  have h1 := (ev_tree es q (.cons x k .nil) ((x :: k.flat).length + 1) [] (by simp [Fo.flat])).1 h
  simp only [Fo.len, Fo.flat, sfx, List.map_cons, List.append_nil, evF, List.map_nil, List.cons.injEq, and_true] at h1
  exact h1
end Go.Proofs.YtnilaghbbhmkgaaGreatDoor
namespace Go.Proofs.YtnilaghbbhmkgaaGreatDoor
set_option linter.unusedVariables false

/-- A Bool, wherever it has a value. -/
def truthB (x : Nd) : Bool := decide (x.op = 1 ∨ x.op = 9 ∨ x.op = 11 ∨ x.op = 12 ∨ 14 ≤ x.op ∧ x.op ≤ 16 ∨ x.op = 20 ∨ x.op = 21 ∨ 23 ≤ x.op ∧ x.op ≤ 27)
def bN (i : Int) : Nd := ⟨1, i, ⟨#[]⟩, ⟨#[]⟩⟩
def uidA : Ui := ⟨⟨#[65]⟩, ⟨#[]⟩⟩
def rqA : Rq := ⟨uidA, uidA, uidA, [⟨6, 0, ⟨#[]⟩, ⟨#[]⟩⟩]⟩
open Classical in
noncomputable def joinT (i : Int) : Fo → Option (Nd × Fo)
  | .cons a ka (.cons b kb .nil) => if a.op = 1 ∧ a ≠ bN i then some (a, ka) else if a = bN i ∧ truthB b = true then some (b, kb) else if b = bN i ∧ truthB a = true then some (a, ka) else none
  | _ => none
def pickT : Fo → Option (Nd × Fo)
  | .cons a ka (.cons b kb (.cons c kc .nil)) => if a.op ≠ 1 then none else if a.n = 1 then some (b, kb) else some (c, kc)
  | _ => none
def notT : Fo → Option (Nd × Fo)
  | .cons a (.cons y ky .nil) .nil => if a.op = 9 ∧ truthB y = true then some (y, ky) else none
  | _ => none
def hangs (x : Nd) (k : Fo) : Prop := vfault (x :: k.flat) ≠ 0 ∨ ∃ n ∈ x :: k.flat, n.op = 4
def hangF : Fo → Prop
  | .nil => False
  | .cons x k r => hangs x k ∨ hangF r
open Classical in
noncomputable def treeOf (v : List Nd) : Nd × Fo := if h : ∃ p : Nd × Fo, okT none (.cons p.1 p.2 .nil) ∧ v = p.1 :: p.2.flat then Classical.choose h else (⟨0, 0, ⟨#[]⟩, ⟨#[]⟩⟩, .nil)
theorem treeOf_spec {v : List Nd} (h : xfault v = 0) : okT none (.cons (treeOf v).1 (treeOf v).2 .nil) ∧ v = (treeOf v).1 :: (treeOf v).2.flat := by
  have h1 : ∃ p : Nd × Fo, okT none (.cons p.1 p.2 .nil) ∧ v = p.1 :: p.2.flat := by
    obtain ⟨x, k, h1, h2⟩ := ex_tree h
    exact ⟨(x, k), h1, h2⟩
  unfold treeOf
  rw [dif_pos h1]
  exact Classical.choose_spec h1
def okE {α : Type} : Except Int α → Option α
  | .ok v => some v
  | .error _ => none
open Classical in
noncomputable def knownT (x : Nd) (k : Fo) : Option (Nd × Fo) :=
  if vfault (x :: k.flat) = 0 ∨ hangF k then none else (okE (valueL [] rqA (x :: k.flat))).map treeOf
/-- What a part is in fewer nodes, or as a value, if there is such a thing. -/
noncomputable def betterT (x : Nd) (k : Fo) : Option (Nd × Fo) :=
  if x.op = 11 then joinT 1 k
  else if x.op = 12 then joinT 0 k
  else if x.op = 13 then pickT k
  else if x.op = 8 ∨ x.op = 7 then none
  else if x.op = 9 ∧ (notT k).isSome then notT k
  else knownT x k
noncomputable def topT (x : Nd) (k : Fo) : Nd × Fo := (betterT x k).getD (x, k)
/-- Each part as good as can be. -/
noncomputable def bstF : Fo → Fo
  | .nil => .nil
  | .cons x k r => .cons (topT x (bstF k)).1 (topT x (bstF k)).2 (bstF r)
theorem bstF_len : ∀ t : Fo, (bstF t).len = t.len
  | .nil => rfl
  | .cons x k r => by simp [bstF, Fo.len, bstF_len r]

theorem len_one {k : Fo} (h : k.len = 1) : ∃ a ka, k = .cons a ka .nil := by
  match k, h with
  | .cons a ka .nil, _ => exact ⟨a, ka, rfl⟩
  | .cons a ka (.cons _ _ _), h => simp [Fo.len] at h
theorem len_two {k : Fo} (h : k.len = 2) : ∃ a ka b kb, k = .cons a ka (.cons b kb .nil) := by
  match k, h with
  | .cons a ka r, h =>
    obtain ⟨b, kb, rfl⟩ := len_one (k := r) (by simpa [Fo.len] using h)
    exact ⟨a, ka, b, kb, rfl⟩
theorem len_three {k : Fo} (h : k.len = 3) : ∃ a ka b kb c kc, k = .cons a ka (.cons b kb (.cons c kc .nil)) := by
  match k, h with
  | .cons a ka r, h =>
    obtain ⟨b, kb, c, kc, rfl⟩ := len_two (k := r) (by simpa [Fo.len] using h)
    exact ⟨a, ka, b, kb, c, kc, rfl⟩
section
variable {es : List En} {q : Rq}
theorem lazy_tN {e : Bool} {A B : Except Int (List Nd)} {v : List Nd} (h : lazyE e A B = .ok v) : ∃ u, v = tN u := by
  unfold lazyE at h
  cases h1 : boolE A with
  | error n => rw [h1] at h; cases h
  | ok t =>
    rw [h1] at h
    simp only at h
    split at h
    · injection h with h; exact ⟨e, h.symm⟩
    · cases h2 : boolE B with
      | error n => rw [h2] at h; cases h
      | ok u => rw [h2] at h; injection h with h; exact ⟨u, h.symm⟩
theorem one_tN {x : Nd} {a v : List Nd} (hx : x.op = 9 ∨ x.op = 21 ∨ x.op = 23 ∨ x.op = 24) (h : oneE es x a = .ok v) : ∃ u, v = tN u := by
  unfold oneE at h
  by_cases c9 : x.op = 9
  · rw [if_pos c9] at h
    split at h
    · injection h with h; exact ⟨_, h.symm⟩
    · cases h
  rw [if_neg c9, if_neg (by omega)] at h
  by_cases c21 : x.op = 21
  · rw [if_pos c21] at h
    unfold hasE at h
    split at h
    · injection h with h; exact ⟨_, h.symm⟩
    · split at h
      · injection h with h; exact ⟨_, h.symm⟩
      · cases h
  rw [if_neg c21, if_neg (by omega)] at h
  split at h
  · split at h
    · injection h with h; exact ⟨_, h.symm⟩
    · cases h
  · split at h
    · injection h with h; exact ⟨_, h.symm⟩
    · cases h
theorem two_tN {o : Int} {a b v : List Nd} (hx : o = 14 ∨ o = 15 ∨ o = 16 ∨ o = 20 ∨ o = 25 ∨ o = 26 ∨ o = 27) (h : twoE es o a b = .ok v) : ∃ u, v = tN u := by
  unfold twoE at h
  repeat' (split at h)
  all_goals first | (injection h with h; exact ⟨_, h.symm⟩) | cases h | skip
  · rename_i hin
    unfold inE at h
    split at h
    · split at h
      · injection h with h; exact ⟨_, h.symm⟩
      · cases h
    · cases h
  all_goals omega
theorem atom_tN {x : Nd} (hx : exOk x = true) (h1 : x.op = 1) : ([x] : List Nd) = tN (x.n == 1) := by
  have hv : vfault [x] = 0 := one_val (by omega) (by omega) (by omega) (by unfold exOk at hx; rw [if_pos (by omega)] at hx; exact hx)
  exact truth_is hv h1
theorem truth_val {x : Nd} (hx : exOk x = true) (ht : truthB x = true) {nm : List ByteArray} {l : List (Except Int (List Nd))} {v : List Nd} (h : nodeE es q x nm l = .ok v) : ∃ u, v = tN u := by
  unfold truthB at ht
  replace ht := of_decide_eq_true ht
  unfold nodeE at h
  by_cases c1 : x.op = 1
  · rw [if_pos (by omega)] at h
    injection h with h
    subst h
    exact ⟨_, atom_tN hx c1⟩
  rw [if_neg (by omega), if_neg (by omega), if_neg (by omega), if_neg (by omega), if_neg (by omega)] at h
  by_cases c11 : x.op = 11
  · rw [if_pos c11] at h; exact lazy_tN h
  by_cases c12 : x.op = 12
  · rw [if_neg c11, if_pos c12] at h; exact lazy_tN h
  rw [if_neg c11, if_neg c12, if_neg (by omega)] at h
  by_cases c9 : x.op = 9 ∨ x.op = 10 ∨ 21 ≤ x.op ∧ x.op ≤ 24
  · rw [if_pos c9] at h
    cases h1 : at0 l 0 with
    | error n => rw [h1] at h; cases h
    | ok a => rw [h1] at h; exact one_tN (by omega) h
  · rw [if_neg c9] at h
    cases h1 : at0 l 0 with
    | error n => rw [h1] at h; cases h
    | ok a =>
      rw [h1] at h
      simp only [bindE] at h
      cases h2 : at0 l 1 with
      | error n => rw [h2] at h; cases h
      | ok b => rw [h2] at h; exact two_tN (by omega) h
/-- Truths: what is a Bool wherever it has a value. -/
def TrE (A : Except Int (List Nd)) : Prop := ∀ v, A = .ok v → ∃ u, v = tN u
theorem lazy_idle {A : Except Int (List Nd)} (h : TrE A) (e : Bool) : lazyE e (.ok (tN (!e))) A = A := by
  rw [lazy_bool, bool_tN]
  simp only [bindE]
  rw [if_neg (by cases e <;> decide)]
  cases A with
  | error n => rfl
  | ok v =>
    obtain ⟨u, rfl⟩ := h v rfl
    rw [bool_tN]
theorem lazy_idle2 {A : Except Int (List Nd)} (h : TrE A) (e : Bool) : lazyE e A (.ok (tN (!e))) = A := by
  rw [lazy_bool]
  cases A with
  | error n => rfl
  | ok v =>
    obtain ⟨u, rfl⟩ := h v rfl
    rw [bool_tN, bool_tN]
    simp only [bindE]
    split
    · rename_i hu; rw [hu]
    · rename_i hu; cases e <;> cases u <;> simp_all
theorem not_not_tr {A : Except Int (List Nd)} (h : TrE A) {x y : Nd} (hx : x.op = 9) (hy : y.op = 9) : bindE (bindE A (oneE es y)) (oneE es x) = A := by
  have e : ∀ z : Nd, z.op = 9 → ∀ u, oneE es z (tN u) = .ok (tN (!u)) := fun z hz u => by
    unfold oneE
    rw [if_pos hz]
    cases u <;> rfl
  cases A with
  | error n => rfl
  | ok v =>
    obtain ⟨u, rfl⟩ := h v rfl
    simp only [bindE]
    rw [e y hy]
    simp only
    rw [e x hx]
    simp
end
theorem ins_len : ∀ (v : List Nd) (l : List (List Nd)), (ins v l).flatten.length ≤ v.length + l.flatten.length
  | v, [] => by simp [ins]
  | v, u :: l => by
    have := ins_len v l
    unfold ins
    split
    · simp
    · split
      · simp
      · simp only [List.flatten_cons, List.length_append] at *; omega
theorem setL_flat : ∀ l : List (List Nd), (setL l).flatten.length ≤ l.flatten.length
  | [] => by simp [setL]
  | v :: l => by
    have h1 := setL_flat l
    have h2 := ins_len v (setL l)
    have : setL (v :: l) = ins v (setL l) := rfl
    rw [this, List.flatten_cons, List.length_append]
    omega
end Go.Proofs.YtnilaghbbhmkgaaGreatDoor
namespace Go.Proofs.YtnilaghbbhmkgaaGreatDoor
set_option linter.unusedVariables false

def Fo.vals : Fo → List (List Nd)
  | .nil => []
  | .cons x k r => (x :: k.flat) :: r.vals
theorem flat_vals : ∀ k : Fo, k.flat = k.vals.flatten
  | .nil => rfl
  | .cons x k r => by simp [Fo.flat, Fo.vals, flat_vals r]
/-- Values without an entity. -/
def Pure (vs : List (List Nd)) : Prop := ∀ v ∈ vs, vfault v = 0 ∧ ∀ n ∈ v, n.op ≠ 4
theorem row_pure : ∀ {k : Fo}, ¬ hangF k → Pure k.vals
  | .nil, _, v, hv => by simp [Fo.vals] at hv
  | .cons x k r, h, v, hv => by
    unfold hangF hangs at h
    have h1 : vfault (x :: k.flat) = 0 := Classical.byContradiction fun e => h (.inl (.inl e))
    have h2 : ∀ n ∈ x :: k.flat, n.op ≠ 4 := fun n hn e => h (.inl (.inr ⟨n, hn, e⟩))
    simp only [Fo.vals, List.mem_cons] at hv
    rcases hv with rfl | hv
    · exact ⟨h1, fun n hn => h2 n (by simpa using hn)⟩
    · exact row_pure (fun e => h (.inr e)) v hv
theorem row_evs (es : List En) (q : Rq) : ∀ {k : Fo}, okT none k → Pure k.vals → evF es q k = k.vals.map .ok
  | .nil, _, _ => rfl
  | .cons x k r, h, hp => by
    obtain ⟨h7, hx, hk, hr⟩ := okT.none_cons.1 h
    have h1 := (hp (x :: k.flat) (by simp [Fo.vals])).1
    have h2 := ev0_tree es q (x := x) (k := k) (okT.none_cons.2 ⟨h7, hx, hk, okT.nil⟩)
    rw [const0 h1] at h2
    simp only [evF, Fo.vals, List.map_cons]
    rw [← h2, row_evs es q hr (fun v hv => hp v (by simp [Fo.vals, hv]))]
theorem field_none {l : ByteArray} {k : Fo} (h : okT (some l) k) (hp : Pure k.vals) : k = .nil := by
  cases k with
  | nil => rfl
  | cons x k r =>
    obtain ⟨⟨h7, _⟩, _⟩ := okT.some_cons.1 h
    have h1 := (hp (x :: k.flat) (by simp [Fo.vals])).1
    obtain ⟨y, t, e, _, hy, _⟩ := value_head h1
    injection e with e1 e2
    subst e1
    exact absurd h7 hy
theorem opV_pure {v : List Nd} (h : vfault v = 0) (h4 : ∀ n ∈ v, n.op ≠ 4) : opV v ≠ 4 := by
  obtain ⟨y, t, rfl, _⟩ := value_head h
  exact h4 y (by simp)
theorem one_env {es es' : List En} {x : Nd} {a : List Nd} (h : opV a ≠ 4) : oneE es x a = oneE es' x a := by
  have ha : attE es a = attE es' a := by
    unfold attE
    by_cases c6 : opV a = 6
    · rw [if_pos c6, if_pos c6]
    · rw [if_neg c6, if_neg c6, if_neg h, if_neg h]
  unfold oneE hasE getV
  rw [ha]
theorem two_env {es es' : List En} {o : Int} {a b : List Nd} (h : opV a ≠ 4) : twoE es o a b = twoE es' o a b := by
  have hi : inE es a b = inE es' a b := by
    unfold inE
    rw [if_neg h, if_neg h]
  unfold twoE
  rw [hi]
theorem at0_ok {vs : List (List Nd)} {i : Nat} : at0 (vs.map .ok) i = .error 0 ∨ ∃ v ∈ vs, at0 (vs.map .ok) i = .ok v := by
  unfold at0
  rw [List.getElem?_map]
  cases h : vs[i]? with
  | none => exact .inl rfl
  | some v => exact .inr ⟨v, List.mem_of_getElem? h, rfl⟩
theorem seq_ok : ∀ vs : List (List Nd), seqE (vs.map .ok) = .ok vs
  | [] => rfl
  | v :: vs => by simp only [List.map_cons, seqE, bindE]; rw [seq_ok vs]
theorem node_env {x : Nd} (h8 : x.op ≠ 8) {nm : List ByteArray} {vs : List (List Nd)} (hv : Pure vs) (es es' : List En) (q q' : Rq) : nodeE es q x nm (vs.map .ok) = nodeE es' q' x nm (vs.map .ok) := by
  have h0 : ∀ a, at0 (vs.map .ok) 0 = .ok a → opV a ≠ 4 := fun a ha => by
    rcases at0_ok (vs := vs) (i := 0) with h | ⟨v, h1, h2⟩
    · rw [h] at ha; cases ha
    · rw [h2] at ha
      injection ha with ha
      subst ha
      exact opV_pure (hv v h1).1 (hv v h1).2
  have e1 : bindE (at0 (vs.map .ok) 0) (oneE es x) = bindE (at0 (vs.map .ok) 0) (oneE es' x) := by
    cases h1 : at0 (vs.map .ok) 0 with
    | error n => rfl
    | ok a => exact one_env (h0 a h1)
  have e2 : (bindE (at0 (vs.map .ok) 0) fun a => bindE (at0 (vs.map .ok) 1) fun b => twoE es x.op a b) = bindE (at0 (vs.map .ok) 0) fun a => bindE (at0 (vs.map .ok) 1) fun b => twoE es' x.op a b := by
    cases h1 : at0 (vs.map .ok) 0 with
    | error n => rfl
    | ok a =>
      simp only [bindE]
      cases h2 : at0 (vs.map .ok) 1 with
      | error n => rfl
      | ok b => exact two_env (h0 a h1)
  unfold nodeE
  rw [if_neg h8, if_neg h8, e1, e2]
theorem node_nm {es : List En} {q : Rq} {x : Nd} (h6 : x.op ≠ 6) (nm nm' : List ByteArray) (l : List (Except Int (List Nd))) : nodeE es q x nm l = nodeE es q x nm' l := by
  unfold nodeE
  rw [if_neg h6, if_neg h6]
theorem fld_len {v u : List Nd} {s : ByteArray} (h : vfault v = 0) (h6 : opV v = 6) (hu : fldV v s = some u) : u.length ≤ v.length := by
  obtain ⟨x, r, rfl, _⟩ := value_head h
  obtain ⟨ss, h1, h2⟩ := fldV_spec h h6 s
  rw [h2] at hu
  obtain ⟨y, hy⟩ := findS_mem hu
  have := mem_flat hy
  rw [← h1.flat] at this
  simp at this ⊢
  omega
theorem tN_len (b : Bool) : (tN b).length = 1 := rfl
theorem two_len {es : List En} {o : Int} {a b v : List Nd} (h : twoE es o a b = .ok v) : v.length ≤ 1 := by
  unfold twoE at h
  repeat' (split at h)
  all_goals first | (injection h with h; subst h; exact Nat.le_refl _) | cases h | skip
  unfold inE at h
  repeat' (split at h)
  all_goals first | (injection h with h; subst h; exact Nat.le_refl _) | cases h
theorem one_len {es : List En} {x : Nd} {a v : List Nd} (ha : vfault a = 0) (h4 : opV a ≠ 4) (h : oneE es x a = .ok v) : v.length ≤ 1 + a.length := by
  by_cases c22 : x.op = 22
  · unfold oneE at h
    rw [if_neg (by omega), if_neg (by omega), if_neg (by omega), if_pos c22] at h
    unfold getV attE at h
    by_cases c6 : opV a = 6
    · rw [if_pos c6] at h
      simp only at h
      cases hf : fldV a x.s with
      | none => rw [hf] at h; cases h
      | some u =>
        rw [hf] at h
        injection h with h
        subst h
        have := fld_len ha c6 hf
        omega
    · rw [if_neg c6, if_neg h4] at h
      cases h
  · by_cases c : x.op = 9 ∨ x.op = 21 ∨ x.op = 23 ∨ x.op = 24
    · obtain ⟨u, rfl⟩ := one_tN c h
      rw [tN_len]; omega
    · unfold oneE at h
      rw [if_neg (by omega)] at h
      by_cases c10 : x.op = 10
      · rw [if_pos c10] at h
        repeat' (split at h)
        all_goals first | (injection h with h; subst h; show 1 ≤ _; omega) | cases h
      · rw [if_neg c10, if_neg (by omega), if_neg c22, if_neg (by omega)] at h
        split at h
        · injection h with h; subst h; rw [tN_len]; omega
        · cases h
theorem node_len {es : List En} {q : Rq} {x : Nd} (hx : x.op ≠ 6 ∧ x.op ≠ 7 ∧ x.op ≠ 8 ∧ x.op ≠ 11 ∧ x.op ≠ 12 ∧ x.op ≠ 13) {nm : List ByteArray} {vs : List (List Nd)} (hv : Pure vs) {v : List Nd} (h : nodeE es q x nm (vs.map .ok) = .ok v) : v.length ≤ 1 + vs.flatten.length := by
  obtain ⟨h6, h7, h8, h11, h12, h13⟩ := hx
  unfold nodeE at h
  by_cases c4 : 1 ≤ x.op ∧ x.op ≤ 4
  · rw [if_pos c4] at h
    injection h with h
    subst h
    simp
  rw [if_neg c4] at h
  by_cases c5 : x.op = 5
  · rw [if_pos c5, seq_ok] at h
    simp only [bindE] at h
    unfold setE at h
    split at h
    · injection h with h
      subst h
      have := setL_flat vs
      simp only [setN, List.length_cons]
      omega
    · cases h
  rw [if_neg c5, if_neg h6, if_neg h7, if_neg h8, if_neg h11, if_neg h12, if_neg h13] at h
  have h0 : ∀ i a, at0 (vs.map .ok) i = .ok a → a ∈ vs := fun i a ha => by
    rcases at0_ok (vs := vs) (i := i) with h | ⟨v, h1, h2⟩
    · rw [h] at ha; cases ha
    · rw [h2] at ha
      injection ha with ha
      subst ha
      exact h1
  split at h
  · cases h1 : at0 (vs.map .ok) 0 with
    | error n => rw [h1] at h; cases h
    | ok a =>
      rw [h1] at h
      have hm := h0 _ _ h1
      have := one_len (hv a hm).1 (opV_pure (hv a hm).1 (hv a hm).2) h
      have := mem_flat hm
      omega
  · cases h1 : at0 (vs.map .ok) 0 with
    | error n => rw [h1] at h; cases h
    | ok a =>
      rw [h1] at h
      simp only [bindE] at h
      cases h2 : at0 (vs.map .ok) 1 with
      | error n => rw [h2] at h; cases h
      | ok b =>
        rw [h2] at h
        have := two_len h
        omega
theorem stf_none : stf [] = 0 := by
  unfold stf
  rw [if_neg (by decide), if_pos (show lfault [] [] = 0 from rfl), if_neg]
  rintro ⟨a, h, _⟩
  cases h
theorem askA : askf rqA = 0 := by kernel_rfl
theorem envA : EnvOk [] rqA := ⟨stf_none, askA, (fun e he => by cases he), fun x hx h => by simp only [rqA, List.mem_singleton] at hx; subst hx; exact absurd h (by decide : ¬ (6 : Int) = 2)⟩
theorem okE_some {α : Type} {A : Except Int α} {v : α} (h : okE A = some v) : A = .ok v := by
  cases A with
  | ok a => simp only [okE, Option.some.injEq] at h; rw [h]
  | error n => cases h
theorem rec_empty {x : Nd} (h6 : x.op = 6) (hx : exOk x = true) (hn : x.n.toNat = 0) : vfault [x] = 0 := by
  have hk : ndOk x = true := by unfold exOk at hx; rw [if_pos (by omega)] at hx; exact hx
  have : isVal [x] = true := by
    unfold isVal
    have : pastV 2 [x] = some [] := by
      simp only [pastV]
      rw [if_pos ⟨by omega, hk⟩, if_neg (by omega), if_pos h6, hn]
      rfl
    rw [show ([x] : List Nd).length + 1 = 2 from rfl, this]
    rfl
  unfold vfault
  rw [if_neg (by simp), if_pos this]
theorem known_same {x : Nd} {k : Fo} (h : okT none (.cons x k .nil)) (hl : k.flat.length + 1 ≤ 200) (hN : N64 (x :: k.flat)) (hop : x.op ≠ 7 ∧ x.op ≠ 8 ∧ x.op ≠ 11 ∧ x.op ≠ 12 ∧ x.op ≠ 13) {p : Nd × Fo} (hp : knownT x k = some p) :
    okT none (.cons p.1 p.2 .nil) ∧ IsV (p.1 :: p.2.flat) ∧ p.2.flat.length ≤ k.flat.length ∧ ∀ es q, nodeE es q x k.hds (evF es q k) = nodeE es q p.1 p.2.hds (evF es q p.2) := by
  unfold knownT at hp
  split at hp
  · cases hp
  rename_i hn
  have hv0 : vfault (x :: k.flat) ≠ 0 := fun e => hn (.inl e)
  have hpu := row_pure (k := k) (fun e => hn (.inr e))
  cases ho : okE (valueL [] rqA (x :: k.flat)) with
  | none => rw [ho] at hp; cases hp
  | some v =>
    rw [ho] at hp
    injection hp with hp
    subst hp
    obtain ⟨_, _, hxf, hev⟩ := valueL_ok (okE_some ho)
    have hiv : IsV v := ev_is envA _ _ _ v (xfault_zero hxf).2 hN hev
    obtain ⟨t1, t2⟩ := treeOf_spec (value_ex hiv.val)
    obtain ⟨h7, hx, hk, _⟩ := okT.none_cons.1 h
    have h6 : x.op ≠ 6 := fun h6 => by
      rcases hk with ⟨_, hlk, hk⟩ | ⟨h6', _⟩
      · have := field_none hk hpu
        subst this
        exact hv0 (rec_empty h6 hx hlk.symm)
      · exact h6' h6
    have hk2 : okT none k := by rcases hk with ⟨h6', _⟩ | ⟨_, _, hk⟩; exact absurd h6' h6; exact hk
    rw [ev0_tree _ _ h, row_evs _ _ hk2 hpu] at hev
    have hlen := node_len ⟨h6, hop⟩ hpu hev
    rw [← flat_vals] at hlen
    refine ⟨t1, by rw [← t2]; exact hiv, ?_, fun es q => ?_⟩
    · have := congrArg List.length t2
      simp only [List.length_cons] at this
      omega
    · rw [row_evs _ _ hk2 hpu, node_env hop.2.1 hpu es [] q rqA, hev, ← ev0_tree es q t1, ← t2, const0 hiv.val]
/-- What is better is the same. -/
structure Same (x : Nd) (k : Fo) (p : Nd × Fo) : Prop where
  ok : okT none (.cons p.1 p.2 .nil)
  num : N64 (p.1 :: p.2.flat)
  len : p.2.flat.length ≤ k.flat.length
  same : ∀ es q, nodeE es q x k.hds (evF es q k) = nodeE es q p.1 p.2.hds (evF es q p.2)
theorem tree_tr {es : List En} {q : Rq} {x : Nd} {k : Fo} (hx : exOk x = true) (ht : truthB x = true) : TrE (nodeE es q x k.hds (evF es q k)) := fun v hv => truth_val hx ht hv
theorem node_atom {es : List En} {q : Rq} {x : Nd} (h : x.op = 1) (nm : List ByteArray) (l : List (Except Int (List Nd))) : nodeE es q x nm l = .ok [x] := by
  unfold nodeE
  rw [if_pos (by omega)]
theorem N64.sub {a b : List Nd} (h : N64 b) (hs : ∀ x ∈ a, x ∈ b) : N64 a := fun x hx => h x (hs x hx)
theorem kids_two {x a b : Nd} {ka kb : Fo} (h : okT none (.cons x (.cons a ka (.cons b kb .nil)) .nil)) (h6 : x.op ≠ 6) : okT none (.cons a ka .nil) ∧ okT none (.cons b kb .nil) ∧ exOk a = true ∧ exOk b = true := by
  obtain ⟨_, _, hk, _⟩ := okT.none_cons.1 h
  rcases hk with ⟨e, _⟩ | ⟨_, _, hk⟩
  · exact absurd e h6
  obtain ⟨a1, a2, a3, hr⟩ := okT.none_cons.1 hk
  obtain ⟨b1, b2, b3, _⟩ := okT.none_cons.1 hr
  exact ⟨okT.none_cons.2 ⟨a1, a2, a3, okT.nil⟩, okT.none_cons.2 ⟨b1, b2, b3, okT.nil⟩, a2, b2⟩
theorem join_same {e : Bool} {i : Int} (hi : i = if e then 0 else 1) {x : Nd} {k : Fo} (h : okT none (.cons x k .nil)) (hN : N64 (x :: k.flat)) (h6 : x.op ≠ 6)
    (hev : ∀ es q A B, nodeE es q x k.hds [A, B] = lazyE e A B) {p : Nd × Fo} (hp : joinT i k = some p) : Same x k p := by
  match k, hp with
  | .cons a ka (.cons b kb .nil), hp =>
    obtain ⟨oa, ob, xa, xb⟩ := kids_two h h6
    have na : N64 (a :: ka.flat) := hN.sub (fun y hy => by simp [Fo.flat] at hy ⊢; rcases hy with hy | hy <;> simp [hy])
    have nb : N64 (b :: kb.flat) := hN.sub (fun y hy => by simp [Fo.flat] at hy ⊢; rcases hy with hy | hy <;> simp [hy])
    have hidle : ([bN i] : List Nd) = tN (!e) := by subst hi; cases e <;> rfl
    simp only [joinT] at hp
    split at hp
    · rename_i c
      injection hp with hp
      subst hp
      refine ⟨oa, na, by simp [Fo.flat]; omega, fun es q => ?_⟩
      show nodeE es q x _ [_, _] = _
      rw [hev, node_atom c.1, lazy_bool, atom_tN xa c.1, bool_tN]
      simp only [bindE]
      have hne : ((a.n == 1) : Bool) = e := by
        have h1 : (⟨1, a.n, ⟨#[]⟩, ⟨#[]⟩⟩ : Nd) = a ∧ (a.n = 0 ∨ a.n = 1) := by
          have := atom_tN xa c.1
          simp only [tN, List.cons.injEq, and_true] at this
          rw [this]
          cases (a.n == 1) <;> simp
        have h2 := c.2
        rw [← h1.1] at h2
        subst hi
        rcases h1.2 with e0 | e0 <;> rw [e0] at h2 ⊢ <;> cases e
        · rfl
        · exact absurd rfl h2
        · exact absurd rfl h2
        · rfl
      rw [if_pos hne, hne]
    · split at hp
      · rename_i c
        injection hp with hp
        subst hp
        refine ⟨ob, nb, by simp [Fo.flat]; omega, fun es q => ?_⟩
        show nodeE es q x _ [_, _] = _
        rw [hev, c.1, node_atom rfl, hidle]
        exact lazy_idle (tree_tr xb c.2) e
      · split at hp
        · rename_i c
          injection hp with hp
          subst hp
          refine ⟨oa, na, by simp [Fo.flat]; omega, fun es q => ?_⟩
          show nodeE es q x _ [_, _] = _
          rw [hev, c.1, node_atom (x := bN i) rfl, hidle]
          exact lazy_idle2 (tree_tr xa c.2) e
        · cases hp
theorem better_same {x : Nd} {k : Fo} (h : okT none (.cons x k .nil)) (hl : k.flat.length + 1 ≤ 200) (hN : N64 (x :: k.flat)) {p : Nd × Fo} (hp : betterT x k = some p) : Same x k p := by
  obtain ⟨h7, hx, hk, _⟩ := okT.none_cons.1 h
  unfold betterT at hp
  by_cases c11 : x.op = 11
  · rw [if_pos c11] at hp
    refine join_same (e := false) rfl h hN (by omega) (fun es q A B => ?_) hp
    unfold nodeE
    rw [if_neg (by omega), if_neg (by omega), if_neg (by omega), if_neg (by omega), if_neg (by omega), if_pos c11]
    rfl
  rw [if_neg c11] at hp
  by_cases c12 : x.op = 12
  · rw [if_pos c12] at hp
    refine join_same (e := true) rfl h hN (by omega) (fun es q A B => ?_) hp
    unfold nodeE
    rw [if_neg (by omega), if_neg (by omega), if_neg (by omega), if_neg (by omega), if_neg (by omega), if_neg (by omega), if_pos c12]
    rfl
  rw [if_neg c12] at hp
  by_cases c13 : x.op = 13
  · rw [if_pos c13] at hp
    match k, hp with
    | .cons a ka (.cons b kb (.cons c kc .nil)), hp =>
      rcases hk with ⟨e, _⟩ | ⟨_, _, hk⟩
      · omega
      obtain ⟨a1, a2, a3, hr⟩ := okT.none_cons.1 hk
      obtain ⟨b1, b2, b3, hr⟩ := okT.none_cons.1 hr
      obtain ⟨d1, d2, d3, _⟩ := okT.none_cons.1 hr
      have nb : N64 (b :: kb.flat) := hN.sub (fun y hy => by simp [Fo.flat] at hy ⊢; rcases hy with hy | hy <;> simp [hy])
      have nc : N64 (c :: kc.flat) := hN.sub (fun y hy => by simp [Fo.flat] at hy ⊢; rcases hy with hy | hy <;> simp [hy])
      have hev : ∀ es q A B C, nodeE es q x (Fo.cons a ka (.cons b kb (.cons c kc .nil))).hds [A, B, C] = ifE A B C := fun es q A B C => by
        unfold nodeE
        rw [if_neg (by omega), if_neg (by omega), if_neg (by omega), if_neg (by omega), if_neg (by omega), if_neg (by omega), if_neg (by omega), if_pos c13]
        rfl
      simp only [pickT] at hp
      split at hp
      · cases hp
      rename_i ha
      have ha : a.op = 1 := by omega
      have hif : ∀ es q B C, ifE (nodeE es q a ka.hds (evF es q ka)) B C = if a.n = 1 then B else C := fun es q B C => by
        rw [node_atom ha]
        simp [ifE, boolE, opV, nV, ha]
      split at hp
      · rename_i hn1
        injection hp with hp
        subst hp
        refine ⟨okT.none_cons.2 ⟨b1, b2, b3, okT.nil⟩, nb, by simp [Fo.flat]; omega, fun es q => ?_⟩
        show nodeE es q x _ [_, _, _] = _
        rw [hev, hif, if_pos hn1]
      · rename_i hn1
        injection hp with hp
        subst hp
        refine ⟨okT.none_cons.2 ⟨d1, d2, d3, okT.nil⟩, nc, by simp [Fo.flat]; omega, fun es q => ?_⟩
        show nodeE es q x _ [_, _, _] = _
        rw [hev, hif, if_neg hn1]
  rw [if_neg c13] at hp
  split at hp
  · cases hp
  rename_i c87
  split at hp
  · rename_i c9
    match k, hp with
    | .cons a (.cons y ky .nil) .nil, hp =>
      simp only [notT] at hp
      split at hp
      · rename_i hc
        injection hp with hp
        subst hp
        rcases hk with ⟨e, _⟩ | ⟨_, _, hk⟩
        · omega
        obtain ⟨a1, a2, a3, _⟩ := okT.none_cons.1 hk
        rcases a3 with ⟨e, _⟩ | ⟨_, _, a3⟩
        · omega
        obtain ⟨b1, b2, b3, _⟩ := okT.none_cons.1 a3
        refine ⟨okT.none_cons.2 ⟨b1, b2, b3, okT.nil⟩, hN.sub (fun z hz => by simp [Fo.flat] at hz ⊢; rcases hz with hz | hz <;> simp [hz]), by simp [Fo.flat]; omega, fun es q => ?_⟩
        have hnot : ∀ (z : Nd) nm A, z.op = 9 → nodeE es q z nm [A] = bindE A (oneE es z) := fun z nm A hz => by
          unfold nodeE
          rw [if_neg (by omega), if_neg (by omega), if_neg (by omega), if_neg (by omega), if_neg (by omega), if_neg (by omega), if_neg (by omega), if_neg (by omega), if_pos (by omega)]
          rfl
        show nodeE es q x _ [nodeE es q a _ [_]] = _
        rw [hnot x _ _ c9.1, hnot a _ _ hc.1]
        exact not_not_tr (tree_tr b2 hc.2) c9.1 hc.1
      · cases hp
  · obtain ⟨h1, h2, h3, h4⟩ := known_same h hl hN ⟨h7, by omega, c11, c12, c13⟩ hp
    exact ⟨h1, h2.num, h3, h4⟩
theorem bst_good : ∀ (t : Fo) (m : Option ByteArray), okT m t → N64 t.flat → t.flat.length ≤ 200 →
    okT m (bstF t) ∧ N64 (bstF t).flat ∧ (bstF t).flat.length ≤ t.flat.length ∧ (∀ es q, evF es q (bstF t) = evF es q t) ∧ (∀ l, m = some l → (bstF t).hds = t.hds)
  | .nil, m, h, hN, hl => ⟨h, hN, Nat.le_refl _, fun _ _ => rfl, fun _ _ => rfl⟩
  | .cons x k r, m, h, hN, hl => by
    simp only [Fo.flat, List.length_cons, List.length_append] at hl
    have nk : N64 k.flat := hN.sub (fun y hy => by simp [Fo.flat, hy])
    have nr : N64 r.flat := hN.sub (fun y hy => by simp [Fo.flat, hy])
    cases m with
    | none =>
      obtain ⟨h7, hx, hk, hr⟩ := okT.none_cons.1 h
      obtain ⟨r1, r2, r3, r4, _⟩ := bst_good r none hr nr (by omega)
      have hkk : ∃ m', okT m' k ∧ (x.op = 6 → m' ≠ none) ∧ (okT m' (bstF k) → x.op = 6 ∧ (bstF k).len = x.n.toNat ∧ okT (some ⟨#[]⟩) (bstF k) ∨ x.op ≠ 6 ∧ (bstF k).len = (prt x).toNat ∧ okT none (bstF k)) := by
        rcases hk with ⟨h6, hlk, hk⟩ | ⟨h6, hlk, hk⟩
        · exact ⟨_, hk, fun _ => by simp, fun o => .inl ⟨h6, by rw [bstF_len, hlk], o⟩⟩
        · exact ⟨_, hk, fun e => absurd e h6, fun o => .inr ⟨h6, by rw [bstF_len, hlk], o⟩⟩
      obtain ⟨m', hm, hm6, hmo⟩ := hkk
      obtain ⟨k1, k2, k3, k4, k5⟩ := bst_good k m' hm nk (by omega)
      have ho : okT none (.cons x (bstF k) .nil) := okT.none_cons.2 ⟨h7, hx, hmo k1, okT.nil⟩
      have hNx : N64 (x :: (bstF k).flat) := fun y hy => by
        rcases List.mem_cons.1 hy with rfl | hy
        · exact hN y (by simp [Fo.flat])
        · exact k2 y hy
      have hsx : ∀ es q, nodeE es q x (bstF k).hds (evF es q (bstF k)) = nodeE es q x k.hds (evF es q k) := fun es q => by
        rw [k4]
        by_cases h6 : x.op = 6
        · cases m' with
          | none => exact absurd rfl (hm6 h6)
          | some l => rw [k5 l rfl]
        · exact node_nm h6 _ _ _
      have hS : Same x (bstF k) (topT x (bstF k)) := by
        unfold topT
        cases hb : betterT x (bstF k) with
        | none => exact ⟨ho, hNx, Nat.le_refl _, fun _ _ => rfl⟩
        | some p => exact better_same ho (by omega) hNx hb
      obtain ⟨s1, s2, s3, _⟩ := okT.none_cons.1 hS.ok
      refine ⟨?_, ?_, ?_, fun es q => ?_, fun l e => by cases e⟩
      · simp only [bstF]
        exact okT.none_cons.2 ⟨s1, s2, s3, r1⟩
      · simp only [bstF, Fo.flat]
        intro y hy
        rcases List.mem_cons.1 hy with rfl | hy
        · exact hS.num _ (by simp)
        · rcases List.mem_append.1 hy with hy | hy
          · exact hS.num y (by simp [hy])
          · exact r2 y hy
      · have := hS.len
        simp only [bstF, Fo.flat, List.length_cons, List.length_append]
        omega
      · simp only [bstF, evF]
        rw [r4, ← hS.same, hsx]
    | some l =>
      obtain ⟨hh, ⟨hlk, hk⟩, hr⟩ := okT.some_cons.1 h
      obtain ⟨r1, r2, r3, r4, r5⟩ := bst_good r (some x.s) hr nr (by omega)
      obtain ⟨k1, k2, k3, k4, _⟩ := bst_good k none hk nk (by omega)
      have ht : topT x (bstF k) = (x, bstF k) := by
        unfold topT betterT
        rw [if_neg (by omega), if_neg (by omega), if_neg (by omega), if_pos (.inr hh.1)]
        rfl
      simp only [bstF, ht]
      refine ⟨okT.some_cons.2 ⟨hh, ⟨by rw [bstF_len, hlk], k1⟩, r1⟩, ?_, ?_, fun es q => ?_, fun l _ => ?_⟩
      · intro y hy
        simp only [Fo.flat, List.mem_cons, List.mem_append] at hy
        rcases hy with rfl | hy | hy
        · exact hN _ (by simp [Fo.flat])
        · exact k2 y hy
        · exact r2 y hy
      · simp only [Fo.flat, List.length_cons, List.length_append]
        omega
      · simp only [evF]
        rw [r4, k4, node_nm (x := x) (by omega) (bstF k).hds k.hds]
      · simp only [Fo.hds]
        rw [r5 _ rfl]
/-- What Better tells of an expression. -/
noncomputable def foldL (e : List Nd) : List Nd := (bstF (.cons (treeOf e).1 (treeOf e).2 .nil)).flat
theorem fold_same {e : List Nd} (h : xfault e = 0) (hN : N64 e) : xfault (foldL e) = 0 ∧ N64 (foldL e) ∧ (foldL e).length ≤ e.length ∧ ∀ es q, valueL es q (foldL e) = valueL es q e := by
  obtain ⟨t1, t2⟩ := treeOf_spec h
  have hl := (xfault_zero h).1
  have hf : (Fo.cons (treeOf e).1 (treeOf e).2 .nil).flat = e := by rw [Fo.flat, Fo.flat, List.append_nil, ← t2]
  obtain ⟨b1, b2, b3, b4, _⟩ := bst_good _ none t1 (by rw [hf]; exact hN) (by rw [hf]; exact hl)
  rw [hf] at b3
  obtain ⟨x, k, hb⟩ : ∃ x k, bstF (.cons (treeOf e).1 (treeOf e).2 .nil) = .cons x k .nil := ⟨_, _, rfl⟩
  have hfo : foldL e = x :: k.flat := by unfold foldL; rw [hb]; simp [Fo.flat]
  unfold foldL at *
  rw [hfo] at b2 b3
  rw [hb] at b1 b4
  rw [hfo]
  have hx0 := tree_ex b1 (by simp at b3; omega)
  refine ⟨hx0, b2, b3, fun es q => value_same hx0 h ?_⟩
  have h1 := b4 es q
  simp only [evF, List.cons.injEq, and_true] at h1
  rw [ev0_tree es q b1, h1, ← ev0_tree es q t1, ← t2]
end Go.Proofs.YtnilaghbbhmkgaaGreatDoor
namespace Go.Proofs.YtnilaghbbhmkgaaGreatDoor
open Go.RowKit
set_option linter.unusedVariables false

/-- If a node may begin an expression, and how many parts partsOf tells. -/
def exMay (x : Nd) : Bool := !(x.op == 7) && exOk x
def exCnt (x : Nd) : Int := if x.op = 5 ∨ x.op = 6 then x.n else if x.op = 7 ∨ prt x < 0 then 0 else prt x
theorem exMay_iff (x : Nd) : exMay x = true ↔ x.op ≠ 7 ∧ exOk x = true := by
  unfold exMay; rw [Bool.and_eq_true]; simp
theorem exCnt_may {x : Nd} (h : exMay x = true) : exCnt x = prt x := by
  obtain ⟨h7, hx⟩ := (exMay_iff x).1 h
  unfold exCnt
  by_cases h5 : x.op = 5 ∨ x.op = 6
  · rw [if_pos h5]; unfold prt; rw [if_pos h5]
  · rw [if_neg h5]
    by_cases hp : prt x < 0
    · exfalso
      unfold exOk at hx
      by_cases h1 : 1 ≤ x.op ∧ x.op ≤ 7
      · have : prt x = 0 := by unfold prt; rw [if_neg h5, if_pos (by omega)]
        omega
      · rw [if_neg h1, if_pos hp] at hx; cases hx
    · rw [if_neg (by omega)]
theorem vfault_one {x : Nd} (h : 1 ≤ x.op ∧ x.op ≤ 4) : vfault [x] = if ndOk x then 0 else 1 := by
  have e : pastV 2 [x] = if ndOk x then some [] else none := by
    have h7 : x.op ≠ 7 := by omega
    have h5 : ¬ x.op = 5 := by omega
    have h6 : ¬ x.op = 6 := by omega
    simp only [pastV]
    cases hx : ndOk x
    · simp
    · simp [h7, h5, h6]
  unfold vfault isVal
  rw [if_neg (by simp), show [x].length + 1 = 2 from rfl, e]
  cases ndOk x <;> rfl
theorem NL.single (W : World) (g : Nat) (x : Nd) (hx : x.wf) (hg : W.heap.size = g) : NL (W.alloc (.cells #[.int .i64 x.op, .int .i64 x.n, .string x.s, .string x.t] 41)) (some ⟨g, 0, none⟩) [x] := by
  subst hg
  refine .inr ⟨W.heap.size, 0, rfl, by simp, fun i y hy => ?_⟩
  rcases i with _ | i
  · simp at hy
    subst hy
    simp [go_sem, hx]
  · simp at hy
theorem vcheck_good (x : Nd) (h : 1 ≤ x.op ∧ x.op ≤ 4) (hok : ndOk x = true) (g : Nat) (w : World) (hN : NL w (some ⟨g, 0, none⟩) [x]) :
    Calls Tryz.prog 49 #[.slice (some ⟨g, 0, none⟩) 1 1] w fun e w' => e = .returned .nilIface ∧ Below w.heap.size w w' := by
  have := vcheck_any [x] (some ⟨g, 0, none⟩) 1 w hN (by simp) (by unfold maxLen; omega)
  rw [vfault_one h, hok, if_pos rfl] at this
  exact this
theorem vcheck_none (x : Nd) (h : 1 ≤ x.op ∧ x.op ≤ 4) (hok : ndOk x = false) (g : Nat) (w : World) (hN : NL w (some ⟨g, 0, none⟩) [x]) :
    Calls Tryz.prog 49 #[.slice (some ⟨g, 0, none⟩) 1 1] w fun e w' => e = .returned (.iface 28 (.int .i64 1)) ∧ Below w.heap.size w w' := by
  have := vcheck_any [x] (some ⟨g, 0, none⟩) 1 w hN (by simp) (by unfold maxLen; omega)
  rw [vfault_one h, hok, if_neg (by simp)] at this
  exact this

theorem bel_two {w w1 : World} {o1 o2 : Obj} (hb : Below ((w.alloc o1).alloc o2).drew.heap.size ((w.alloc o1).alloc o2).drew w1) : Below w.heap.size w w1 :=
  ((((Below.refl _ _).alloc (Nat.le_refl _) o1).alloc (by simp) o2).drew).trans (hb.mono (by show w.heap.size ≤ ((w.alloc o1).alloc o2).heap.size; simp; omega))
theorem ret_two {a b : Int} {c d : Bool} (h : a = b) (k : c = d) : Ending.returned (.tuple #[.int .i64 a, .bool c]) = .returned (.tuple #[.int .i64 b, .bool d]) := by rw [h, k]

set_option maxRecDepth 100000 in
set_option maxHeartbeats 600000 in
theorem partsOf_value (x : Nd) (w : World) (hx : x.wf) (h : 1 ≤ x.op ∧ x.op ≤ 4) :
    Calls Tryz.prog 58 #[x.val] w fun e w' => e = .returned (.tuple #[.int .i64 (exCnt x), .bool (exMay x)]) ∧ Below w.heap.size w w' := by
  have HC : Hid (exCnt x = 0) := by
    show _ = _
    have hp : prt x = 0 := by unfold prt; rw [if_neg (by omega), if_pos (by omega)]
    unfold exCnt
    rw [if_neg (by omega), hp]
    split <;> rfl
  have HM : Hid (exMay x = ndOk x) := by
    show _ = _
    unfold exMay exOk
    rw [if_pos (by omega)]
    have : (x.op == 7) = false := by simp; omega
    rw [this]; rfl
  have HG := vcheck_good x h
  have HB := vcheck_none x h
  have HS := fun W g => NL.single W g x hx
  obtain ⟨op, n, s, t⟩ := x
  unfold Nd.val
  simp only at HS
  have hop : op = 1 ∨ op = 2 ∨ op = 3 ∨ op = 4 := by simp only at h; omega
  clear h
  cases hok : ndOk ⟨op, n, s, t⟩ <;> rw [hok] at HM
  · have HV := HB hok
    clear HG HB
    rcases hop with rfl | rfl | rfl | rfl
    all_goals
      go_enter Tryz.func58, Tryz.ntmps58
      go_wp2_with fail
      go_region_with (go_at_call 49; refine (HV (w.heap.size + 1) _ ((HS _ _ (by simp)).up (Below.refl _ _).drew)).mono ?_; rintro e w1 ⟨rfl, hb⟩)
      all_goals
        go_wp2
        go_ret2
        exact ⟨ret_two HC.out.symm HM.out.symm, bel_two hb⟩
  · have HV := HG hok
    clear HG HB
    rcases hop with rfl | rfl | rfl | rfl
    all_goals
      go_enter Tryz.func58, Tryz.ntmps58
      go_wp2_with fail
      go_region_with (go_at_call 49; refine (HV (w.heap.size + 1) _ ((HS _ _ (by simp)).up (Below.refl _ _).drew)).mono ?_; rintro e w1 ⟨rfl, hb⟩)
      all_goals
        go_wp2
        go_ret2
        exact ⟨ret_two HC.out.symm HM.out.symm, bel_two hb⟩

/-- What the parts of a node are, by what it is. -/
theorem exMay_of {x : Nd} (h7 : ¬ (1 ≤ x.op ∧ x.op ≤ 7)) (hp : 0 ≤ prt x) : exMay x = (justS x && (if x.op = 8 then varOk x.s.data.toList else if x.op = 21 ∨ x.op = 22 ∨ x.op = 24 then nfault x.s.data.toList == 0 else if x.op = 23 then textOk x.s.data.toList else x.s.data.toList.isEmpty)) := by
  unfold exMay exOk justS
  rw [if_neg h7, if_neg (by omega)]
  have : (x.op == 7) = false := by simp; omega
  rw [this, Bool.not_false, Bool.true_and]
theorem exCnt_of {x : Nd} (h7 : ¬ (1 ≤ x.op ∧ x.op ≤ 7)) (hp : 0 ≤ prt x) : exCnt x = prt x := by
  unfold exCnt
  rw [if_neg (by omega), if_neg (by omega)]

set_option maxRecDepth 100000 in
set_option maxHeartbeats 1000000 in
theorem partsOf_bare (x : Nd) (w : World) (hx : x.wf) (h : x.op = 9 ∨ x.op = 10 ∨ 11 ≤ x.op ∧ x.op ≤ 20 ∨ 25 ≤ x.op ∧ x.op ≤ 27) :
    Calls Tryz.prog 58 #[x.val] w fun e w' => e = .returned (.tuple #[.int .i64 (exCnt x), .bool (exMay x)]) ∧ Below w.heap.size w w' := by
  have hpp : prt x = if x.op = 9 ∨ x.op = 10 then 1 else if x.op = 13 then 3 else 2 := by
    unfold prt
    rw [if_neg (by omega), if_neg (by omega)]
    by_cases h9 : x.op = 9 ∨ x.op = 10
    · rw [if_pos (by omega), if_pos h9]
    · rw [if_neg (by omega), if_neg h9]
      split
      · rfl
      · rw [if_pos (by omega)]
  have hp : 0 ≤ prt x := by rw [hpp]; repeat' split <;> omega
  have HC : Hid (exCnt x = _) := (exCnt_of (by omega) hp).trans hpp
  have HM : Hid (exMay x = bare x) := by
    show _ = _
    rw [exMay_of (by omega) hp, if_neg (by omega), if_neg (by omega), if_neg (by omega)]
    unfold justS bare
    cases (x.n == 0) <;> cases x.s.data.toList.isEmpty <;> cases x.t.data.toList.isEmpty <;> rfl
  have HN := fun w => hasNothing_any x w
  rw [← HM.out] at HN
  clear hpp hp HM
  generalize exMay x = m at *
  have HL : Hid (∀ o w', Below (w.alloc o).heap.size (w.alloc o) w' → Below w.heap.size w w') := fun o w' h => ((Below.refl _ _).alloc (Nat.le_refl _) _).trans (h.mono (by simp))
  obtain ⟨op, n, s, t⟩ := x
  unfold Nd.val at *
  have hop : op = 9 ∨ op = 10 ∨ op = 11 ∨ op = 12 ∨ op = 13 ∨ op = 14 ∨ op = 15 ∨ op = 16 ∨ op = 17 ∨ op = 18 ∨ op = 19 ∨ op = 20 ∨ op = 25 ∨ op = 26 ∨ op = 27 := by simp only at h; omega
  clear h
  rcases hop with rfl | rfl | rfl | rfl | rfl | rfl | rfl | rfl | rfl | rfl | rfl | rfl | rfl | rfl | rfl
  all_goals
    go_enter Tryz.func58, Tryz.ntmps58
    go_wp2_with fail
    refine (HN _).mono ?_
    rintro e w1 ⟨rfl, hb⟩
    go_wp2
    go_ret2
    exact ⟨ret_two (by rw [HC.out]; rfl) rfl, HL.out _ _ hb⟩
end Go.Proofs.YtnilaghbbhmkgaaGreatDoor
