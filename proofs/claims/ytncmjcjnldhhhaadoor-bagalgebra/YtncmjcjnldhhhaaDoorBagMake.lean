/- Package bag's Union and Less: what they return, of every two lists of nodes. -/
import Derived.Test.YtncmjcjnldhhhaaDoorBagMeet
import Derived.Test.YtncmjcjnldhhhaaDoorConcat
namespace Go.Proofs.YtncmjcjnldhhhaaDoor
open Go.RowKit
set_option linter.unusedVariables false

theorem less_bad (s t : List Nd) (p q : Option Addr) (c d : Nat) (w : World) (hs : NL w p s) (hc : s.length ≤ c) (hcm : c ≤ maxLen) (ht : NL w q t) (hd : t.length ≤ d) (hdm : d ≤ maxLen) (h : sfault s t ≠ 0) :
    Calls Tryd.prog 17 #[.slice p s.length c, .slice q t.length d] w fun e w' => e = .returned (.tuple #[.slice none 0 0, eV (sfault s t)]) ∧ Below w.heap.size w w' := by
  have H1 := partsOfBoth_bad s t p q c d w hs hc hcm ht hd hdm h
  rw [eV_not h] at H1 ⊢
  clear hs ht
  go_enter Tryd.func17, Tryd.ntmps17
  go_wp2_with fail
  refine H1.mono ?_
  rintro e w1 ⟨rfl, hb1⟩
  go_wp2
  go_ret2
  exact ⟨rfl, hb1⟩
theorem less_ok (l m : List (List Nd)) (p q : Option Addr) (c d : Nat) (w : World) (hs : NL w p (setN l)) (hc : (setN l).length ≤ c) (hcm : c ≤ maxLen) (ht : NL w q (setN m)) (hd : (setN m).length ≤ d) (hdm : d ≤ maxLen) (hl : IsSet l) (hm : IsSet m) :
    Calls Tryd.prog 17 #[.slice p (setN l).length c, .slice q (setN m).length d] w fun e w' => (∃ q c', e = .returned (.tuple #[.slice q (setN (lessL l m)).length c', .nilIface]) ∧ NL w' q (setN (lessL l m)) ∧ (setN (lessL l m)).length ≤ c' ∧ c' ≤ maxLen) ∧ Below w.heap.size w w' := by
  have H1 := partsOfBoth_ok l m p q c d w hs hc hcm ht hd hdm hl hm
  have L1 : l.length ≤ 4294967296 := Nat.le_trans hl.len (by decide)
  have L2 : m.length ≤ maxLen := Nat.le_trans hm.len (by decide)
  have hI := isSet_less hl m
  have L3 : (lessL l m).length ≤ 4294967296 := Nat.le_trans hI.len (by decide)
  have HI : Hid (IsSet (lessL l m)) := hI
  clear hs ht hI
  go_enter Tryd.func17, Tryd.ntmps17
  go_wp2_with fail
  refine H1.mono ?_
  rintro e w1 ⟨⟨q1, c1, q2, c2, rfl, k1, k2, k3, k4, k5, k6⟩, hb1⟩
  have H2 := hadBy_any q2 m c2 w1 k4 L2
  clear H1
  go_wp2_with fail
  refine H2.mono ?_
  rintro e w2 ⟨⟨fv, rfl, hf⟩, hb2⟩
  have H3 := not_any fv _ w2 hf
  have k1' := k1.up hb2
  clear H2 k1
  go_wp2_with fail
  refine H3.mono ?_
  rintro e w3 ⟨⟨fv', rfl, hf'⟩, hb3⟩
  have H4 := those_any l q1 c1 fv' _ w3 (k1'.up hb3) L1 hf'
  rw [show (l.filter fun v => !inB m v) = lessL l m from rfl] at H4
  clear H3
  go_wp2_with fail
  refine H4.mono ?_
  rintro e w4 ⟨⟨q3, c3, rfl, k7, k8, k9⟩, hb4⟩
  have H5 := setOf_fit (lessL l m) (setN (lessL l m)) (by rw [HI.out.row]) q3 c3 w4 k7 L3 HI.out.vals HI.out.short
  clear H4
  go_wp2_with fail
  refine H5.mono ?_
  rintro e w5 ⟨⟨q4, c4, rfl, j1, j2, j3⟩, hb5⟩
  go_wp2
  go_ret2
  have hb6 := hb1.trans (hb2.mono hb1.size)
  have hb7 := hb6.trans (hb3.mono hb6.size)
  have hb8 := hb7.trans (hb4.mono hb7.size)
  exact ⟨⟨q4, c4, rfl, j1, j2, j3⟩, hb8.trans (hb5.mono hb8.size)⟩

theorem union_bad (s t : List Nd) (p q : Option Addr) (c d : Nat) (w : World) (hs : NL w p s) (hc : s.length ≤ c) (hcm : c ≤ maxLen) (ht : NL w q t) (hd : t.length ≤ d) (hdm : d ≤ maxLen) (h : sfault s t ≠ 0) :
    Calls Tryd.prog 14 #[.slice p s.length c, .slice q t.length d] w fun e w' => e = .returned (.tuple #[.slice none 0 0, eV (sfault s t)]) ∧ Below w.heap.size w w' := by
  have H1 := partsOfBoth_bad s t p q c d w hs hc hcm ht hd hdm h
  rw [eV_not h] at H1 ⊢
  clear hs ht
  go_enter Tryd.func14, Tryd.ntmps14
  go_wp2_with fail
  refine H1.mono ?_
  rintro e w1 ⟨rfl, hb1⟩
  go_wp2
  go_ret2
  exact ⟨rfl, hb1⟩

/-- What Union hands back: the set, or ErrFull. -/
def UnionRet (w : World) (S : List Nd) (e : Ending) : Prop :=
  if S.length ≤ 200 then ∃ q c, e = .returned (.tuple #[.slice q S.length c, .nilIface]) ∧ NL w q S ∧ S.length ≤ c ∧ c ≤ maxLen
  else e = .returned (.tuple #[.slice none 0 0, eV 4])
theorem setOf_both (vs : List (List Nd)) (p : Option Addr) (c : Nat) (w : World) (hv : LL w p vs) (hl : vs.length ≤ 4294967296) (hval : ∀ v ∈ vs, vfault v = 0) :
    Calls Tryd.prog 28 #[.slice p vs.length c] w fun e w' => UnionRet w' (setN (setL vs)) e ∧ Below w.heap.size w w' := by
  unfold UnionRet
  by_cases h : (setN (setL vs)).length ≤ 200
  · simp only [if_pos h]; exact setOf_fit vs _ rfl p c w hv hl hval h
  · simp only [if_neg h]; exact setOf_over vs p c w hv hl hval h
theorem union_ok (l m : List (List Nd)) (p q : Option Addr) (c d : Nat) (w : World) (hs : NL w p (setN l)) (hc : (setN l).length ≤ c) (hcm : c ≤ maxLen) (ht : NL w q (setN m)) (hd : (setN m).length ≤ d) (hdm : d ≤ maxLen) (hl : IsSet l) (hm : IsSet m) :
    Calls Tryd.prog 14 #[.slice p (setN l).length c, .slice q (setN m).length d] w fun e w' => UnionRet w' (setN (bothL l m)) e ∧ Below w.heap.size w w' := by
  have H1 := partsOfBoth_ok l m p q c d w hs hc hcm ht hd hdm hl hm
  have L1 : l.length ≤ 200 := hl.len
  have L2 : m.length ≤ 200 := hm.len
  have HV : Hid (∀ v ∈ l ++ m, vfault v = 0) := fun v hv => (List.mem_append.1 hv).elim (hl.vals v) (hm.vals v)
  have L3 : (l ++ m).length ≤ 4294967296 := by simp; omega
  have HC := fun g q1 q2 c1 c2 w hg x0 x1 h1 h2 z1 z2 => concat_any l m g q1 q2 c1 c2 w hg x0 x1 h1 h2 z1 z2 (by omega) (by omega)
  unfold bothL
  generalize l ++ m = vs at *
  clear hs ht hl hm
  go_enter Tryd.func14, Tryd.ntmps14
  go_wp2_with fail
  refine H1.mono ?_
  rintro e w1 ⟨⟨q1, c1, q2, c2, rfl, k1, k2, k3, k4, k5, k6, z1, z2⟩, hb1⟩
  have hup : Below w1.heap.size w1 (w1.alloc (.cells #[.slice q1 l.length c1, .slice q2 m.length c2] 31)) := (Below.refl _ _).alloc (Nat.le_refl _) _
  have H2 := HC w1.heap.size q1 q2 c1 c2 (w1.alloc (.cells #[.slice q1 l.length c1, .slice q2 m.length c2] 31)) (by simp) (by simp) (by simp) (k1.up hup) (k4.up hup) z1 z2
  clear H1 HC
  go_wp2_with fail
  refine H2.mono ?_
  rintro e w2 ⟨⟨q3, c3, rfl, k7, k8, k9⟩, hb2⟩
  have H3 := setOf_both vs q3 c3 w2 k7 L3 HV.out
  clear H2
  go_wp2_with fail
  refine H3.mono ?_
  rintro e w3 ⟨hret, hb3⟩
  have hb4 := hb1.trans (hup.mono hb1.size)
  have hb5 := hb4.trans (hb2.mono hb4.size)
  have hb6 := hb5.trans (hb3.mono hb5.size)
  have HR : Hid (UnionRet w3 (setN (setL vs)) e) := hret
  by_cases hfit : (setN (setL vs)).length ≤ 200
  · simp only [UnionRet, if_pos hfit] at hret
    obtain ⟨q4, c4, rfl, _⟩ := hret
    go_wp2
    go_ret2
    exact ⟨HR.out, hb6⟩
  · simp only [UnionRet, if_neg hfit] at hret
    subst hret
    go_wp2
    go_ret2
    exact ⟨HR.out, hb6⟩
end Go.Proofs.YtncmjcjnldhhhaaDoor
