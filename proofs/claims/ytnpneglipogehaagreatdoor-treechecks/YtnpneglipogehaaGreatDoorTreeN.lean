/- The names in an expression, rising, and what becomes of them where an expression is put for one of them. No program is named here. -/
import Derived.Test.YtnpneglipogehaaGreatDoorTreeL
import Derived.Test.YtnpneglipogehaaGreatDoorAsc
namespace Go.Proofs.YtnpneglipogehaaGreatDoor
set_option linter.unusedVariables false

def vars (e : List Nd) : List ByteArray := (e.filter (fun x => x.op == 8)).map Nd.s
theorem mem_vars {y : ByteArray} {e : List Nd} : y ∈ vars e ↔ ∃ x ∈ e, x.op = 8 ∧ x.s = y := by
  unfold vars
  simp only [List.mem_map, List.mem_filter, beq_iff_eq]
  exact ⟨fun ⟨x, ⟨h1, h2⟩, h3⟩ => ⟨x, h1, h2, h3⟩, fun ⟨x, h1, h2, h3⟩ => ⟨x, ⟨h1, h2⟩, h3⟩⟩
theorem vars_cons_not {x : Nd} {e : List Nd} (h : x.op ≠ 8) : vars (x :: e) = vars e := by unfold vars; rw [List.filter_cons_of_neg (by simpa using h)]
theorem vars_cons_var {x : Nd} {e : List Nd} (h : x.op = 8) : vars (x :: e) = x.s :: vars e := by unfold vars; rw [List.filter_cons_of_pos (by simpa using h)]; rfl
theorem vars_append (a b : List Nd) : vars (a ++ b) = vars a ++ vars b := by unfold vars; rw [List.filter_append, List.map_append]
theorem vars_length (e : List Nd) : (vars e).length ≤ e.length := by unfold vars; rw [List.length_map]; exact List.length_filter_le _ _
theorem not_vars {s : ByteArray} {e : List Nd} : s ∉ vars e ↔ ∀ x ∈ e, isV s x = false := by
  constructor
  · intro h x hx
    cases e2 : isV s x with
    | false => rfl
    | true => exact absurd (mem_vars.2 ⟨x, hx, (isV_iff s x).1 e2⟩) h
  · intro h hm
    obtain ⟨x, hx, h1⟩ := mem_vars.1 hm
    have := h x hx
    rw [(isV_iff s x).2 h1] at this
    cases this

def Rises (l : List ByteArray) : Prop := l.Pairwise fun x y => cmpB x y < 0
def insB (y : ByteArray) : List ByteArray → List ByteArray
  | [] => [y]
  | x :: l => if cmpB y x = 0 then x :: l else if cmpB y x < 0 then y :: x :: l else x :: insB y l
theorem mem_insB (y z : ByteArray) : ∀ l, z ∈ insB y l ↔ z = y ∨ z ∈ l
  | [] => by simp [insB]
  | x :: l => by
    unfold insB
    split
    · rename_i h
      obtain rfl := (cmpB_is.zero y x).1 h
      simp
    · split
      · simp
      · simp only [List.mem_cons, mem_insB y z l]
        exact ⟨fun h => by rcases h with h | h | h <;> simp [h], fun h => by rcases h with h | h | h <;> simp [h]⟩
theorem rises_insB (y : ByteArray) : ∀ l, Rises l → Rises (insB y l)
  | [], _ => by unfold insB Rises; simp
  | x :: l, h => by
    obtain ⟨h1, h2⟩ := List.pairwise_cons.1 h
    unfold insB
    split
    · exact h
    · split
      · rename_i hlt
        exact List.pairwise_cons.2 ⟨fun z hz => by
          rcases List.mem_cons.1 hz with rfl | hz
          · exact hlt
          · exact cmpB_is.lt_le hlt (by have := h1 z hz; omega), h⟩
      · rename_i h0 hlt
        have hxy : cmpB x y < 0 := by have := cmpB_is.neg x y; omega
        refine List.pairwise_cons.2 ⟨fun z hz => ?_, rises_insB y l h2⟩
        rcases (mem_insB y z l).1 hz with rfl | hz
        · exact hxy
        · exact h1 z hz
/-- The names, each once, rising. -/
def nms (e : List Nd) : List ByteArray := (vars e).foldr insB []
theorem foldr_mem (z : ByteArray) : ∀ l : List ByteArray, z ∈ l.foldr insB [] ↔ z ∈ l
  | [] => by simp
  | y :: l => by rw [List.foldr_cons, mem_insB, foldr_mem z l, List.mem_cons]
theorem foldr_rises : ∀ l : List ByteArray, Rises (l.foldr insB [])
  | [] => List.Pairwise.nil
  | y :: l => by rw [List.foldr_cons]; exact rises_insB y _ (foldr_rises l)
theorem mem_nms {z : ByteArray} {e : List Nd} : z ∈ nms e ↔ z ∈ vars e := foldr_mem z _
theorem nms_rises (e : List Nd) : Rises (nms e) := foldr_rises _
theorem nms_unique {l : List ByteArray} {e : List Nd} (h : Rises l) (hm : ∀ z, z ∈ l ↔ z ∈ vars e) : l = nms e :=
  asc_unique cmpB_is l (nms e) h (nms_rises e) (fun z => (hm z).trans mem_nms.symm)
theorem insB_length (y : ByteArray) : ∀ l, (insB y l).length ≤ l.length + 1
  | [] => by simp [insB]
  | x :: l => by
    unfold insB
    split
    · simp
    · split
      · simp
      · have := insB_length y l
        simp; omega
theorem foldr_length : ∀ l : List ByteArray, (l.foldr insB []).length ≤ l.length
  | [] => Nat.le_refl _
  | y :: l => by
    rw [List.foldr_cons, List.length_cons]
    have h1 := insB_length y (l.foldr insB [])
    have h2 := foldr_length l
    omega
theorem nms_length (e : List Nd) : (nms e).length ≤ e.length := Nat.le_trans (foldr_length _) (vars_length e)
theorem nms_nil {e : List Nd} (h : ∀ x ∈ e, x.op ≠ 8) : nms e = [] := by
  have : vars e = [] := List.eq_nil_iff_forall_not_mem.2 fun y hy => by
    obtain ⟨x, hx, h8, _⟩ := mem_vars.1 hy
    exact h x hx h8
  unfold nms; rw [this]; rfl

theorem mem_put {s y : ByteArray} {V e : List Nd} : y ∈ vars (putE s V e) ↔ (y ∈ vars e ∧ y ≠ s) ∨ (s ∈ vars e ∧ y ∈ vars V) := by
  induction e with
  | nil => simp [putE, vars]
  | cons x e ih =>
    rw [putE_cons, vars_append, List.mem_append, ih]
    by_cases h8 : x.op = 8
    · rw [vars_cons_var h8]
      cases h : isV s x
      · have hne : x.s ≠ s := fun e2 => by rw [(isV_iff s x).2 ⟨h8, e2⟩] at h; cases h
        rw [rep_no h, vars_cons_var h8, show vars [] = [] from rfl]
        simp only [List.mem_cons, List.not_mem_nil, or_false]
        constructor
        · rintro (rfl | ⟨h1, h2⟩ | ⟨h1, h2⟩)
          · exact .inl ⟨.inl rfl, hne⟩
          · exact .inl ⟨.inr h1, h2⟩
          · exact .inr ⟨.inr h1, h2⟩
        · rintro (⟨rfl | h1, h2⟩ | ⟨h1, h2⟩)
          · exact .inl rfl
          · exact .inr (.inl ⟨h1, h2⟩)
          · rcases h1 with h1 | h1
            · exact absurd h1.symm hne
            · exact .inr (.inr ⟨h1, h2⟩)
      · have he : x.s = s := ((isV_iff s x).1 h).2
        rw [rep_yes h]
        simp only [List.mem_cons]
        constructor
        · rintro (h1 | ⟨h1, h2⟩ | ⟨h1, h2⟩)
          · exact .inr ⟨.inl he.symm, h1⟩
          · exact .inl ⟨.inr h1, h2⟩
          · exact .inr ⟨.inr h1, h2⟩
        · rintro (⟨h1 | h1, h2⟩ | ⟨h1, h2⟩)
          · exact absurd (h1.trans he) h2
          · exact .inr (.inl ⟨h1, h2⟩)
          · exact .inl h2
    · rw [vars_cons_not h8, rep_no (isV_op h8), vars_cons_not h8, show vars [] = [] from rfl]
      simp

/-- One and then the other. -/
theorem putE_twice {s t : ByteArray} {V W : List Nd} (hst : s ≠ t) (hs : s ∉ vars W) (e : List Nd) : putE s (putE t W V) (putE t W e) = putE t W (putE s V e) := by
  induction e with
  | nil => rfl
  | cons x e ih =>
    rw [putE_cons, putE_append, ih, putE_cons s V x e, putE_append]
    congr 1
    cases h1 : isV s x with
    | true =>
      have h2 : isV t x = false := by
        cases h : isV t x with
        | false => rfl
        | true => exact absurd (((isV_iff s x).1 h1).2.symm.trans ((isV_iff t x).1 h).2) hst
      rw [rep_no h2, rep_yes h1, putE_cons, rep_yes h1, putE_nil, List.append_nil]
    | false =>
      rw [rep_no h1]
      cases h2 : isV t x with
      | true => rw [rep_yes h2, putE_cons, rep_yes h2, putE_nil, List.append_nil, putE_none (not_vars.1 hs)]
      | false => rw [rep_no h2, putE_cons, rep_no h1, putE_nil, putE_cons, rep_no h2, putE_nil]

/-- An expression of two parts falls into them. -/
theorem ex_two {x : Nd} {r : List Nd} (h : xfault (x :: r) = 0) (h5 : x.op ≠ 5) (h6 : x.op ≠ 6) (h2 : prt x = 2) : ∃ m, pastE ((x :: r).length + 1) r = some m ∧ pastE ((x :: r).length + 1) m = some [] ∧ m.length < r.length ∧ IsTail m r := by
  obtain ⟨hl, hp⟩ := xfault_zero h
  obtain ⟨g, y, m, e1, e2, h7, hx, hr⟩ := pastE_cons hp
  injection e2 with e2 e3
  subst e2 e3
  rcases hr with ⟨hr, _⟩ | ⟨_, hr⟩
  · exact absurd hr h6
  · rw [h2] at hr
    show ∃ m, _
    simp only [show (2 : Int).toNat = 2 from rfl, partsE] at hr
    cases e4 : pastE g r with
    | none => rw [e4] at hr; cases hr
    | some m1 =>
      simp only [e4] at hr
      cases e5 : pastE g m1 with
      | none => rw [e5] at hr; cases hr
      | some m2 =>
        simp only [e5] at hr
        cases hr
        exact ⟨m1, pastE_mono e4 (by omega), pastE_mono e5 (by omega), (pastE_shorter e4).1, (pastE_shorter e4).2⟩
end Go.Proofs.YtnpneglipogehaaGreatDoor
