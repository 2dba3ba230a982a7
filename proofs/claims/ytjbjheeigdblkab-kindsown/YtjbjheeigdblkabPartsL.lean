/- What a set or a record has, in order: its items, as plain lists; how many nodes an item has, by counting what is missing. No program is named here. -/
import Derived.Test.YtjbjheeigdblkabNdFuel
namespace Go.Proofs.Ytjbjheeigdblkab
set_option linter.unusedVariables false

def bel (x : Nd) : Int := if x.op = 5 ∨ x.op = 6 then x.n else if x.op = 7 then 1 else 0

/-- The count behind some nodes, if it stays above 0 ahead of each of them. -/
def reach : List Nd → Int → Option Int
  | [], m => some m
  | x :: a, m => if 0 < m then reach a (m + (bel x - 1)) else none

theorem reach_append (a b : List Nd) (m : Int) : reach (a ++ b) m = (reach a m).bind (reach b) := by
  induction a generalizing m with
  | nil => rfl
  | cons x a ih =>
    simp only [List.cons_append, reach]
    split
    · exact ih _
    · rfl

/-- A piece is counted off: the count goes down by one. -/
structure Off (a : List Nd) (d : Int) : Prop where
  run : ∀ m : Int, d ≤ m → reach a m = some (m - d)
  pos : ∀ x ∈ a, 0 ≤ bel x

theorem Off.append {a b : List Nd} {d e : Int} (h : Off a d) (k : Off b e) (he : 0 ≤ e) (hd : 0 ≤ d) : Off (a ++ b) (d + e) := by
  refine ⟨fun m hm => ?_, fun x hx => (List.mem_append.1 hx).elim (h.pos x) (k.pos x)⟩
  rw [reach_append, h.run m (by omega)]
  show reach b (m - d) = _
  rw [k.run (m - d) (by omega)]
  congr 1; omega

theorem Off.cons {x : Nd} {a : List Nd} {d e : Int} (hx : 0 ≤ bel x) (h : Off a d) (he : 0 < e) (hd : e + (bel x - 1) = d) : Off (x :: a) e := by
  refine ⟨fun m hm => ?_, fun y hy => (List.mem_cons.1 hy).elim (fun q => by rw [q]; exact hx) (h.pos y)⟩
  simp only [reach]
  rw [if_pos (by omega), h.run _ (by omega)]
  congr 1; omega
theorem Off.nil : Off [] 0 := ⟨fun m _ => by simp [reach], fun x hx => by cases hx⟩

theorem reach_le : ∀ (a : List Nd) (m : Int), (∀ x ∈ a, 0 ≤ bel x) → reach a m = some 0 → m ≤ a.length
  | [], m, _, h => by simp [reach] at h; simp; omega
  | x :: a, m, hp, h => by
    simp only [reach] at h
    split at h
    · have := reach_le a _ (fun y hy => hp y (by simp [hy])) h
      have h2 := hp x (by simp)
      simp; omega
    · cases h

theorem setLoop_off {pv : List Nd → Option (List Nd)} (hp : ∀ u r, pv u = some r → ∃ a, u = a ++ r ∧ Off a 1) :
    ∀ (k : Nat) (last : Option (List Nd)) (u r : List Nd), setLoop pv k last u = some r → ∃ a, u = a ++ r ∧ Off a k
  | 0, last, u, r, h => by
    simp only [setLoop, Option.some.injEq] at h
    subst h
    exact ⟨[], rfl, Off.nil⟩
  | k + 1, last, u, r, h => by
    simp only [setLoop] at h
    cases e : pv u with
    | none => rw [e] at h; cases h
    | some rest =>
      simp only [e] at h
      split at h
      · obtain ⟨a, rfl, ha⟩ := hp _ _ e
        obtain ⟨b, rfl, hb⟩ := setLoop_off hp k _ rest r h
        refine ⟨a ++ b, by simp, ?_⟩
        have := ha.append hb (by omega) (by omega)
        rw [show ((k + 1 : Nat) : Int) = 1 + (k : Int) by omega]; exact this
      · cases h
theorem recLoop_off {pv : List Nd → Option (List Nd)} (hp : ∀ u r, pv u = some r → ∃ a, u = a ++ r ∧ Off a 1) :
    ∀ (k : Nat) (last : ByteArray) (u r : List Nd), recLoop pv k last u = some r → ∃ a, u = a ++ r ∧ Off a k
  | 0, last, u, r, h => by
    simp only [recLoop, Option.some.injEq] at h
    subst h
    exact ⟨[], rfl, Off.nil⟩
  | k + 1, last, [], r, h => by simp [recLoop] at h
  | k + 1, last, x :: u, r, h => by
    simp only [recLoop] at h
    split at h
    · rename_i hx
      cases e : pv u with
      | none => rw [e] at h; cases h
      | some rest =>
        simp only [e] at h
        obtain ⟨a, rfl, ha⟩ := hp _ _ e
        obtain ⟨b, rfl, hb⟩ := recLoop_off hp k _ rest r h
        refine ⟨x :: a ++ b, by simp, ?_⟩
        have hxa : Off (x :: a) 1 := Off.cons (by simp [bel, hx.1]) ha (by omega) (by simp [bel, hx.1])
        have := hxa.append hb (by omega) (by omega)
        rw [show ((k + 1 : Nat) : Int) = 1 + (k : Int) by omega]; exact this
    · cases h

theorem ndOk_n {x : Nd} (h : ndOk x = true) (h5 : x.op = 5 ∨ x.op = 6) : 0 ≤ x.n := by
  unfold ndOk at h
  rcases h5 with e | e <;> simp [e] at h <;> exact h.2

theorem pastV_off : ∀ (f : Nat) (u r : List Nd), pastV f u = some r → ∃ a, u = a ++ r ∧ Off a 1
  | 0, u, r, h => by simp [pastV] at h
  | f + 1, [], r, h => by simp [pastV] at h
  | f + 1, x :: u, r, h => by
    simp only [pastV] at h
    split at h
    · rename_i hx
      split at h
      · rename_i h5
        obtain ⟨a, rfl, ha⟩ := setLoop_off (pastV_off f) _ _ _ _ h
        have hn := ndOk_n hx.2 (.inl h5)
        exact ⟨x :: a, rfl, Off.cons (by simp [bel, h5]; exact hn) ha (by omega) (by simp [bel, h5]; omega)⟩
      · split at h
        · rename_i h5 h6
          obtain ⟨a, rfl, ha⟩ := recLoop_off (pastV_off f) _ _ _ _ h
          have hn := ndOk_n hx.2 (.inr h6)
          exact ⟨x :: a, rfl, Off.cons (by simp [bel, h6]; exact hn) ha (by omega) (by simp [bel, h6]; omega)⟩
        · rename_i h5 h6
          simp only [Option.some.injEq] at h
          subst h
          exact ⟨[x], rfl, Off.cons (by simp [bel, h5, h6, hx.1]) Off.nil (by omega) (by simp [bel, h5, h6, hx.1])⟩
    · cases h

/-- What stands behind an item: a value, or a Field with its value. -/
def itemP (f : Nat) : List Nd → Option (List Nd)
  | [] => none
  | x :: r => if x.op = 7 then pastV f r else pastV f (x :: r)

theorem itemP_off {f : Nat} {u r : List Nd} (h : itemP f u = some r) : ∃ a, u = a ++ r ∧ Off a 1 ∧ a ≠ [] := by
  cases u with
  | nil => cases h
  | cons x u =>
    simp only [itemP] at h
    split at h
    · rename_i h7
      obtain ⟨a, rfl, ha⟩ := pastV_off f _ _ h
      exact ⟨x :: a, rfl, Off.cons (by simp [bel, h7]) ha (by omega) (by simp [bel, h7]), by simp⟩
    · obtain ⟨a, e, ha⟩ := pastV_off f _ _ h
      refine ⟨a, e, ha, fun e0 => ?_⟩
      subst e0
      have := (pastV_shorter h).1
      simp at e
      rw [← e] at this; simp at this

/-- A list falls into items. -/
inductive Segs (f : Nat) : List Nd → List (List Nd) → Prop
  | nil : Segs f [] []
  | cons {a r : List Nd} {ss : List (List Nd)} (h : itemP f (a ++ r) = some r) (hs : Segs f r ss) : Segs f (a ++ r) (a :: ss)

theorem setLoop_segs {f : Nat} : ∀ (k : Nat) (last : Option (List Nd)) (u : List Nd), setLoop (pastV f) k last u = some [] → ∃ ss, Segs f u ss ∧ ss.length = k ∧ ∀ s ∈ ss, ∃ x r, s = x :: r ∧ x.op ≠ 7
  | 0, last, u, h => by
    simp only [setLoop, Option.some.injEq] at h
    subst h
    exact ⟨[], .nil, rfl, by simp⟩
  | k + 1, last, u, h => by
    simp only [setLoop] at h
    cases e : pastV f u with
    | none => rw [e] at h; cases h
    | some rest =>
      simp only [e] at h
      split at h
      · obtain ⟨ss, h1, h2, h3⟩ := setLoop_segs k _ rest h
        obtain ⟨a, rfl, _⟩ := pastV_off f _ _ e
        have hl := (pastV_shorter e).1
        cases a with
        | nil => simp at hl
        | cons x a =>
          have h7 : x.op ≠ 7 := fun h7 => by
            cases f with
            | zero => simp [pastV] at e
            | succ f => simp [pastV, h7] at e
          refine ⟨(x :: a) :: ss, .cons (by simp only [List.cons_append, itemP, if_neg h7]; exact e) h1, by simp [h2], ?_⟩
          intro s hs
          rcases List.mem_cons.1 hs with rfl | hs
          · exact ⟨x, a, rfl, h7⟩
          · exact h3 s hs
      · cases h

/-- Fields in a row: the names rise. -/
inductive Rising : ByteArray → List (List Nd) → Prop
  | nil (l : ByteArray) : Rising l []
  | cons {l : ByteArray} {x : Nd} {r : List Nd} {ss : List (List Nd)} (h7 : x.op = 7) (hl : cmpB l x.s < 0) (hs : Rising x.s ss) : Rising l ((x :: r) :: ss)

theorem recLoop_segs {f : Nat} : ∀ (k : Nat) (last : ByteArray) (u : List Nd), recLoop (pastV f) k last u = some [] → ∃ ss, Segs f u ss ∧ ss.length = k ∧ Rising last ss
  | 0, last, u, h => by
    simp only [recLoop, Option.some.injEq] at h
    subst h
    exact ⟨[], .nil, rfl, .nil _⟩
  | k + 1, last, [], h => by simp [recLoop] at h
  | k + 1, last, x :: u, h => by
    simp only [recLoop] at h
    split at h
    · rename_i hx
      cases e : pastV f u with
      | none => rw [e] at h; cases h
      | some rest =>
        simp only [e] at h
        obtain ⟨ss, h1, h2, h3⟩ := recLoop_segs k _ rest h
        obtain ⟨a, rfl, _⟩ := pastV_off f _ _ e
        exact ⟨(x :: a) :: ss, .cons (a := x :: a) (by simp only [List.cons_append, itemP, if_pos hx.1]; exact e) h1, by simp [h2], .cons hx.1 hx.2.2 h3⟩
    · cases h

/-- A piece without its Field; its name. -/
def strip : List Nd → List Nd
  | [] => []
  | x :: r => if x.op = 7 then r else x :: r
def nameOf : List Nd → ByteArray
  | [] => ⟨#[]⟩
  | x :: _ => if x.op = 7 then x.s else ⟨#[]⟩
end Go.Proofs.Ytjbjheeigdblkab
