/- ValParts: package wicketgatesame's Lists at lists that are the same, and the walk of the statement's own function. -/
import Derived.Test.YthmfgnofhbmogaaDoorRefParts
import Derived.Test.YthmfgnofhbmogaaDoorGet
import Derived.Test.YthmfgnofhbmogaaDoorToldWalk
namespace Go.Proofs.YthmfgnofhbmogaaDoor
open Go.RowKit
set_option linter.unusedVariables false

theorem bt2 {a b c : World} (h : Below a.heap.size a b) (k : Below b.heap.size b c) : Below a.heap.size a c := h.trans (k.mono h.size)
theorem ev_up {w w' : World} (h : ErrVar w) (hb : Below w.heap.size w w') : ErrVar w' := errVar_below h hb (Nat.le_refl _)
theorem toldE_any (n m : Int) (w : World) (hg : ErrVar w) : Calls Tryd.prog 8 #[eV n, .int .i64 m] w fun e w' => e = .returned (.bool (n == m)) ∧ Below w.heap.size w w' := same_any n m w hg

theorem LL.drawn {w : World} {p : Option Addr} {vs : List (List Nd)} (h : LL w p vs) (n : Nat) : LL (w.drewN n) p vs := h.up (below_nn (Below.refl _ _) n)

set_option maxRecDepth 100000 in
theorem sameLists_eq (vs : List (List Nd)) (p q : Option Addr) (c1 c2 : Nat) (w : World) (hp : LL w p vs) (hq : LL w q vs) (hl : vs.length ≤ maxLen) :
    Calls Tryd.prog 20 #[.slice p vs.length c1, .slice q vs.length c2] w fun e w' => e = .returned (.bool true) ∧ Below w.heap.size w w' := by
  unfold maxLen at hl
  go_enter Tryd.func20, Tryd.ntmps20
  go_wp2
  go_loopw [5] (fun i wr => ∃ k : Nat, k ≤ vs.length ∧ i = .int .i64 k ∧ Below w.heap.size w wr) (fun i _ => vs.length - (intOf i).toNat)
  case atStart => exact ⟨0, Nat.zero_le _, rfl, Below.refl _ _⟩
  case round =>
    obtain ⟨k, hk, rfl, hb⟩ := hrel
    by_cases hlt : k < vs.length
    · have i1 : (k : Int) < (vs.length : Int) := by omega
      obtain ⟨b1, o1, q1, d1, rfl, hb1, hc1, hn1, h11, h12⟩ := (hp.up hb).at hlt
      obtain ⟨b2, o2, q2, d2, rfl, hb2, hc2, hn2, h21, h22⟩ := (hq.up hb).at hlt
      generalize vs[k] = v at *
      have hcl : ∀ n, Calls Tryd.prog 15 #[.slice q1 v.length d1, .slice q2 v.length d2] (wr.drewN n) fun e w'' => e = .returned (.bool true) ∧ ∃ m, w'' = wr.drewN m := fun n => by
        have h := sameNodes_any v v q1 q2 d1 d2 (wr.drewN n) (hn1.up (below_nn (Below.refl _ _) n)) (hn2.up (below_nn (Below.refl _ _) n)) (Nat.le_trans h11 h12) (Nat.le_trans h11 h12)
        rw [(sameNd_iff v v).2 rfl] at h
        exact h.mono fun e w'' ⟨h1, m, h2⟩ => ⟨h1, n + m, by rw [h2, World.drewN_drewN]⟩
      go_wp2
      go_quiet (exact hcl _)
      go_wp2
      go_roundw
      case rel => exact ⟨k + 1, by omega, by go_num, below_nn hb _⟩
      case measure => simp [intOf]; omega
    · have i1 : ¬ (k : Int) < (vs.length : Int) := by omega
      go_wp2
      go_ret
      exact ⟨rfl, hb⟩

theorem nameOf_field {y : Nd} {t : List Nd} (h : y.op = 7) : nameOf (y :: t) = y.s := by show (if y.op = 7 then y.s else _) = y.s; rw [if_pos h]
theorem strip_field {y : Nd} {t : List Nd} (h : y.op = 7) : strip (y :: t) = t := by show (if y.op = 7 then t else y :: t) = t; rw [if_pos h]

theorem Rising.above {l : ByteArray} {ss : List (List Nd)} (h : Rising l ss) : ∀ s ∈ ss, cmpB l (nameOf s) < 0 := by
  induction h with
  | nil => simp
  | @cons l x r ss h7 hl hs ih =>
    intro s hs'
    rcases List.mem_cons.1 hs' with rfl | hs'
    · rw [nameOf_field h7]; exact hl
    · exact cmpB_is.lt_le hl (by have := ih s hs'; omega)
theorem Rising.apart {l : ByteArray} {ss : List (List Nd)} (h : Rising l ss) : ∀ (ss1 : List (List Nd)) (s : List Nd) (ss2 : List (List Nd)), ss = ss1 ++ s :: ss2 → ∀ s' ∈ ss1, nameOf s' ≠ nameOf s := by
  induction h with
  | nil => intro ss1 s ss2 e; simp at e
  | @cons l x r ss h7 hl hs ih =>
    intro ss1 s ss2 e s' hs'
    cases ss1 with
    | nil => cases hs'
    | cons a ss1 =>
      simp only [List.cons_append, List.cons.injEq] at e
      obtain ⟨rfl, rfl⟩ := e
      rcases List.mem_cons.1 hs' with rfl | hs'
      · rw [nameOf_field h7]
        intro e
        have := hs.above s (by simp)
        rw [← e, cmpB_is.self] at this
        omega
      · exact ih ss1 s ss2 rfl s' hs'

theorem findS_none {fld : ByteArray} : ∀ (ss : List (List Nd)), (∀ s ∈ ss, ∃ y t, s = y :: t ∧ y.op = 7) → (∀ s ∈ ss, nameOf s ≠ fld) → findS fld ss = none
  | [], _, _ => rfl
  | s :: ss, h1, h2 => by
    obtain ⟨y, t, rfl, h7⟩ := h1 s (by simp)
    have := h2 _ (by simp : (y :: t) ∈ (y :: t) :: ss)
    rw [nameOf_field h7] at this
    show (if y.s = fld then some t else findS fld ss) = none
    rw [if_neg this]
    exact findS_none ss (fun s hs => h1 s (by simp [hs])) (fun s hs => h2 s (by simp [hs]))
theorem findS_snoc {fld : ByteArray} (y : Nd) (t : List Nd) : ∀ (ss : List (List Nd)), findS fld (ss ++ [y :: t]) = match findS fld ss with | some u => some u | none => if y.s = fld then some t else none
  | [] => rfl
  | [] :: ss => by
    show findS fld (ss ++ [y :: t]) = match findS fld ss with | some u => some u | none => _
    exact findS_snoc y t ss
  | (x :: r) :: ss => by
    show (if x.s = fld then some r else findS fld (ss ++ [y :: t])) = match (if x.s = fld then some r else findS fld ss) with | some u => some u | none => _
    by_cases h : x.s = fld
    · rw [if_pos h, if_pos h]
    · rw [if_neg h, if_neg h]; exact findS_snoc y t ss

set_option maxRecDepth 100000 in
set_option maxHeartbeats 1000000 in
/-- .. where the list is no value. -/
theorem vparts_bad (v : List Nd) (p : Option Addr) (c : Nat) (fld : ByteArray) (w : World) (hE : ErrVar w) (hv : NL w p v) (hc : v.length ≤ c) (hcm : c ≤ maxLen) (h : vfault v ≠ 0) :
    Calls Tryd.prog 6 #[.slice p v.length c, .string fld] w fun e w' => e = .returned (.bool true) ∧ Below w.heap.size w w' := by
  have h0 : (vfault v == 0) = false := by simpa using h
  have hs : (vfault v == vfault v) = true := by simp
  go_enter Tryd.func6, Tryd.ntmps6
  go_wp2_with fail
  refine (valueFault_any v p c _ hv hc hcm).mono ?_
  rintro e w1 ⟨rfl, k1⟩
  go_wp2_with fail
  refine (parts_bad v p c _ (hv.up k1) hc hcm h).mono ?_
  rintro e w2 ⟨rfl, k2'⟩
  have k2 := bt2 k1 k2'
  go_wp2_with fail
  refine (toldE_any _ _ _ (ev_up hE k2)).mono ?_
  rintro e w3 ⟨rfl, k3'⟩
  have k3 := bt2 k2 k3'
  go_wp2_with fail
  refine (sameLists_eq [] none none 0 0 _ (.inl rfl) (.inl rfl) (Nat.zero_le _)).mono ?_
  rintro e w4 ⟨rfl, k4'⟩
  have k4 := bt2 k3 k4'
  clear k1 k2 k3 k2' k3' k4'
  go_wp2_with fail
  refine (valueFault_any v p c _ (hv.up k4) hc hcm).mono ?_
  rintro e w5 ⟨rfl, k5'⟩
  have k5 := bt2 k4 k5'
  go_wp2_with fail
  refine (get_bad v p c fld _ (hv.up k5) hc hcm h).mono ?_
  rintro e w6 ⟨rfl, k6'⟩
  have k6 := bt2 k5 k6'
  go_wp2_with fail
  refine (toldE_any _ _ _ (ev_up hE k6)).mono ?_
  rintro e w7 ⟨rfl, k7'⟩
  have k7 := bt2 k6 k7'
  go_wp2_with fail
  refine (sameNodes_any [] [] none none 0 0 _ (.inl rfl) (.inl rfl) (Nat.zero_le _) (Nat.zero_le _)).mono ?_
  rintro e w8 ⟨rfl, n8, rfl⟩
  rw [(sameNd_iff [] []).2 rfl]
  have k8 := below_nn k7 n8
  clear k4 k5 k6 k7 k5' k6' k7'
  go_wp2
  go_ret
  exact ⟨rfl, k8⟩
end Go.Proofs.YthmfgnofhbmogaaDoor
