/- Values as trees: their parts as lists. No program is named here. -/
import Derived.Test.YtpcikfpldmackaaGreatDoorG10
namespace Go.Proofs.YtpcikfpldmackaaGreatDoor
set_option linter.unusedVariables false

/-- The parts of a row, each as a list. -/
def rows : Tp → List (List Nd)
  | .nil => []
  | .cons x k r => (x :: k.flat) :: rows r
theorem rows_length : ∀ t : Tp, (rows t).length = t.len
  | .nil => rfl
  | .cons x k r => by simp [rows, Tp.len, rows_length r]
theorem rows_app : ∀ p r : Tp, rows (p.app r) = rows p ++ rows r
  | .nil, r => rfl
  | .cons x k q, r => by simp [Tp.app, rows, rows_app q r]
theorem rows_at {p r k : Tp} {f : Nd} {kf : Tp} (h : k = p.app (.cons f kf r)) : (rows k)[p.len]? = some (f :: kf.flat) := by
  rw [h, rows_app, List.getElem?_append_right (by rw [rows_length]; exact Nat.le_refl _), rows_length]
  simp [rows]
theorem front_val : ∀ (f : Nat) (u r : List Nd), pastV f u = some r → ∃ x k, okV none (.cons x k .nil) ∧ u = x :: (k.flat ++ r) := pastV_tree
/-- Items are the parts of the tree. -/
theorem segs_rows {f : Nat} : ∀ {u : List Nd} {ss : List (List Nd)}, Segs f u ss → ∀ {m : Option ByteArray} {l : Tp}, okV m l → u = l.flat → ss = rows l := by
  intro u ss h
  induction h with
  | nil =>
    intro m l hl e
    cases l with
    | nil => rfl
    | cons x k r => simp [Tp.flat] at e
  | @cons a r ss h hs ih =>
    intro m l hl e
    cases l with
    | nil =>
      obtain ⟨a', e', _, hne⟩ := itemP_off h
      obtain rfl := List.append_cancel_right e'
      simp only [Tp.flat, List.append_eq_nil_iff] at e
      exact absurd e.1 hne
    | cons y ly q =>
      rw [e] at h
      simp only [Tp.flat, itemP] at h
      simp only [Tp.flat] at e
      cases m with
      | none =>
        obtain ⟨⟨h7, hy, hk⟩, hq⟩ := okV.none_iff.1 hl
        rw [if_neg h7] at h
        obtain ⟨x, k, hx, e2⟩ := pastV_tree _ _ _ h
        have hy1 : okV none (.cons y ly .nil) := okV.none_iff.2 ⟨⟨h7, hy, hk⟩, okV.nil⟩
        obtain ⟨e3, e4⟩ := tp_flat_inj (.cons y ly .nil) (.cons x k .nil) q.flat r hy1.ar hx.ar rfl (by simpa [Tp.flat] using e2)
        cases e3
        subst e4
        have : a = y :: ly.flat := by
          have := e
          rw [← List.cons_append] at this
          exact List.append_cancel_right this
        rw [this, rows, ih hq rfl]
      | some m =>
        obtain ⟨⟨h7, hy, hc⟩, ⟨hl1, hk⟩, hq⟩ := okV.some_iff.1 hl
        rw [if_pos h7] at h
        obtain ⟨x, k, hx, e2⟩ := pastV_tree _ _ _ h
        obtain ⟨z, kz, rfl⟩ := tp_len1 hl1
        obtain ⟨e3, e4⟩ := tp_flat_inj (.cons z kz .nil) (.cons x k .nil) q.flat r hk.ar hx.ar rfl (by simpa [Tp.flat] using e2)
        cases e3
        subst e4
        have : a = y :: (Tp.cons x k .nil).flat := by
          have := e
          rw [← List.cons_append] at this
          exact List.append_cancel_right this
        rw [this, rows, ih hq rfl]
theorem past_ok {f : Nat} {v : List Nd} (h : pastV f v = some []) (hl : v.length ≤ 200) (hf : v.length < f) : vfault v = 0 := by
  unfold vfault isVal
  rw [if_neg (by omega), pastV_fuel (v.length + 1) f v (by omega) hf, h]
  rfl
/-- What stands ahead of a rest is a value. -/
theorem past_front : ∀ {f : Nat} {a r : List Nd}, pastV f (a ++ r) = some r → pastV f a = some [] := by
  intro f a r h
  obtain ⟨a', e, h2⟩ := pastV_front f _ _ h
  obtain rfl := List.append_cancel_right e
  exact h2
theorem segs_vals {f : Nat} : ∀ {u : List Nd} {ss : List (List Nd)}, Segs f u ss → u.length ≤ 200 → u.length < f → ∀ s ∈ ss, vfault (strip s) = 0 := by
  intro u ss h
  induction h with
  | nil => intro _ _ s hs; cases hs
  | @cons a r ss h hs ih =>
    intro hl hf s hs'
    have hal : a.length ≤ 200 := by simp at hl; omega
    have haf : a.length < f := by simp at hf; omega
    rcases List.mem_cons.1 hs' with rfl | hs'
    · cases s with
      | nil => obtain ⟨a', e', _, hne⟩ := itemP_off h; obtain rfl := List.append_cancel_right e'; exact absurd rfl hne
      | cons x s =>
        simp only [List.cons_append, itemP] at h
        simp only [strip]
        split
        · rename_i h7
          rw [if_pos h7] at h
          exact past_ok (past_front h) (by simp at hal; omega) (by simp at haf; omega)
        · rename_i h7
          rw [if_neg h7, ← List.cons_append] at h
          exact past_ok (past_front h) hal haf
    · exact ih (by simp at hl; omega) (by simp at hf; omega) s hs'
/-- A value's parts are values: of a set. -/
theorem set_parts {y : Nd} {l : Tp} (h : vfault (y :: l.flat) = 0) (ho : okV none (.cons y l .nil)) (h5 : y.op = 5) : Segs (y :: l.flat).length l.flat (rows l) ∧ (l.len : Int) = y.n ∧ okV none l ∧ (∀ s ∈ rows l, ∃ z t, s = z :: t ∧ z.op ≠ 7) ∧ ∀ s ∈ rows l, vfault s = 0 := by
  obtain ⟨ss, h1, h2, h3⟩ := set_items h h5
  obtain ⟨⟨h7, hy, hk⟩, _⟩ := okV.none_iff.1 ho
  have hl : okV none l := by
    rcases hk with ⟨_, _, h⟩ | ⟨h6, _⟩ | ⟨h6, _⟩
    · exact h
    · omega
    · exact absurd h5 h6
  obtain rfl := segs_rows h1 hl rfl
  have hn := ndOk_n hy (.inl h5)
  refine ⟨h1, ?_, hl, h3, fun s hs => ?_⟩
  · rw [rows_length] at h2; omega
  · have h4 := segs_vals h1 (by have := (isVal_past h).1; simp at this; omega) (by simp) s hs
    obtain ⟨z, t, rfl, hz⟩ := h3 s hs
    rw [strip, if_neg hz] at h4
    exact h4
/-- Of a record. -/
theorem rec_parts {y : Nd} {l : Tp} (h : vfault (y :: l.flat) = 0) (ho : okV none (.cons y l .nil)) (h6 : y.op = 6) : Segs (y :: l.flat).length l.flat (rows l) ∧ (l.len : Int) = y.n ∧ okV (some e0) l ∧ (∀ s ∈ rows l, ∃ z t, s = z :: t ∧ z.op = 7) ∧ ∀ s ∈ rows l, vfault (strip s) = 0 := by
  obtain ⟨ss, h1, h2, h3⟩ := rec_items h h6
  obtain ⟨⟨h7, hy, hk⟩, _⟩ := okV.none_iff.1 ho
  have hl : okV (some e0) l := by
    rcases hk with ⟨h5, _⟩ | ⟨_, _, h⟩ | ⟨_, h5, _⟩
    · omega
    · exact h
    · exact absurd h6 h5
  obtain rfl := segs_rows h1 hl rfl
  have hn := ndOk_n hy (.inr h6)
  refine ⟨h1, ?_, hl, fun s hs => ?_, fun s hs => segs_vals h1 (by have := (isVal_past h).1; simp at this; omega) (by simp) s hs⟩
  · rw [rows_length] at h2; omega
  · clear h h1 h2 ho hk
    generalize (⟨#[]⟩ : ByteArray) = b at h3
    generalize rows l = ss at *
    induction h3 with
    | nil => cases hs
    | cons h7 hl hs2 ih =>
      rcases List.mem_cons.1 hs with rfl | hs
      · exact ⟨_, _, rfl, h7⟩
      · exact ih hs
theorem okV.mid {m : Option ByteArray} : ∀ {p : Tp} {y : Nd} {ly r : Tp}, okV m (p.app (.cons y ly r)) → (m = none → okV none (.cons y ly .nil)) ∧ (∀ b, m = some b → ly.len = 1 ∧ okV none ly ∧ y.op = 7)
  | .nil, y, ly, r, h => by
    cases m with
    | none => exact ⟨fun _ => okV.none_iff.2 ⟨(okV.none_iff.1 h).1, okV.nil⟩, fun b e => by cases e⟩
    | some b =>
      obtain ⟨⟨h7, _⟩, ⟨h1, h2⟩, _⟩ := okV.some_iff.1 h
      exact ⟨fun e => (by cases e), fun b e => ⟨h1, h2, h7⟩⟩
  | .cons g lg q, y, ly, r, h => by
    cases m with
    | none => exact okV.mid (p := q) (okV.none_iff.1 h).2
    | some b =>
      obtain ⟨a, c⟩ := okV.mid (p := q) (okV.some_iff.1 h).2.2
      exact ⟨fun e => (by cases e), fun b' _ => c _ rfl⟩
theorem hs_one (y : Nd) (l r : Tp) (x : Nd) (m s : Tp) : hs false (.cons y l r) (.cons x m s) = (hs false (.cons y l .nil) (.cons x m s) && hs false r (.cons x m s)) := by
  rw [hs_cons, hs_cons, show hs false .nil (.cons x m s) = true by rw [hs]]
  simp
theorem hsV_app {x : Nd} {m s : Tp} : ∀ {p r : Tp}, hs false (p.app r) (.cons x m s) = (hs false p (.cons x m s) && hs false r (.cons x m s))
  | .nil, r => by rw [Tp.app, show hs false .nil (.cons x m s) = true by rw [hs]]; rfl
  | .cons f kf q, r => by rw [Tp.app, hs_one, hs_one f kf q, hsV_app (p := q), Bool.and_assoc]
end Go.Proofs.YtpcikfpldmackaaGreatDoor
