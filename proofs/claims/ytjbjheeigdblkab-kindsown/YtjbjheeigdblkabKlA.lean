/- The statements on kinds: arguments, and the fact that they share. -/
import Derived.Test.YtjbjheeigdblkabKiE
import Derived.Test.YtjbjheeigdblkabSame
namespace Go.Proofs.Ytjbjheeigdblkab
open Go.RowKit
set_option linter.unusedVariables false
set_option maxRecDepth 100000

/-- A list of nodes as an argument. -/
structure AK (w : World) (a : List Nd) (p : Option Addr) (c : Nat) : Prop where
  nl : NL w p a
  le : a.length ≤ c
  cm : c ≤ maxLen
theorem AK.up {w w' : World} {a : List Nd} {p : Option Addr} {c : Nat} (h : AK w a p c) (hb : Below w.heap.size w w') : AK w' a p c := ⟨h.nl.up hb, h.le, h.cm⟩
theorem AK.one (W : World) (x : Nd) (hx : x.wf) {B : Nat} (hB : B = W.heap.size) : AK (W.alloc (.cells #[.int .i64 x.op, .int .i64 x.n, .string x.s, .string x.t] 33)) [x] (some ⟨B, 0, none⟩) 1 := ⟨NL.oneK W B x hx hB.symm, by simp, by unfold maxLen; omega⟩
/-- Leaves are types. -/
theorem kty_leaf (o : Int) (h : o = 41 ∨ o = 42 ∨ o = 43 ∨ o = 48 ∨ o = 49) : KTy [lfN o] (lfN o) .nil := ⟨T1.iff.2 (.leaf o h), rfl⟩
theorem kfault_leaf (o : Int) (h : o = 41 ∨ o = 42 ∨ o = 43 ∨ o = 48 ∨ o = 49) : kfault [lfN o] = 0 := kfault_ok (by simp) (kty_leaf o h)
section
variable {a b : List Nd} {w : World} {p q : Option Addr} {c d : Nat} (ha : AK w a p c) (hb : AK w b q d)
include ha
include hb
theorem AK.below {x y : Nd} {k l : Tp} (hla : a.length ≤ 200) (hlb : b.length ≤ 200) (hk : KTy a x k) (hl : KTy b y l) : Calls Try.prog 7 #[.slice p a.length c, .slice q b.length d] w fun e w' => e = .returned (.tuple #[.bool (blw false (.cons x k .nil) (.cons y l .nil)), .nilIface]) ∧ Below w.heap.size w w' := kbelow_ok a b w p q c d ha.nl hb.nl ha.le ha.cm hb.le hb.cm x y k l hla hlb hk hl
theorem AK.below_err (h : bfault a b ≠ 0) : Calls Try.prog 7 #[.slice p a.length c, .slice q b.length d] w fun e w' => e = .returned (.tuple #[.bool false, .iface 48 (.int .i64 (bfault a b))]) ∧ Below w.heap.size w w' := kbelow_err a b w p q c d ha.nl hb.nl ha.le ha.cm hb.le hb.cm h
theorem AK.join_err (h : bfault a b ≠ 0) : Calls Try.prog 8 #[.slice p a.length c, .slice q b.length d] w fun e w' => e = .returned (.tuple #[.slice none 0 0, .iface 48 (.int .i64 (bfault a b))]) ∧ Below w.heap.size w w' := kjoin_err a b w p q c d ha.nl hb.nl ha.le ha.cm hb.le hb.cm h
/-- Join, where it has room. -/
theorem AK.join {x y : Nd} {k l : Tp} (hla : a.length ≤ 200) (hlb : b.length ≤ 200) (hk : KTy a x k) (hl : KTy b y l) (hR : (jn false (.cons x k .nil) (.cons y l .nil)).flat.length ≤ 200) : Calls Try.prog 8 #[.slice p a.length c, .slice q b.length d] w fun e w' => (∃ q' c', e = .returned (.tuple #[.slice q' (jn false (.cons x k .nil) (.cons y l .nil)).flat.length c', .nilIface]) ∧ AK w' (jn false (.cons x k .nil) (.cons y l .nil)).flat q' c') ∧ Below w.heap.size w w' := by
  refine (kjoin_ok a b w p q c d ha.nl hb.nl ha.le ha.cm hb.le hb.cm x y k l hla hlb hk hl).mono ?_
  rintro en w' ⟨⟨_, q', c', rfl, h1, h2, h3⟩ | ⟨h, _⟩, hb⟩
  · exact ⟨⟨q', c', rfl, ⟨h1, h2, h3⟩⟩, hb⟩
  · omega
theorem AK.join_full {x y : Nd} {k l : Tp} (hla : a.length ≤ 200) (hlb : b.length ≤ 200) (hk : KTy a x k) (hl : KTy b y l) (hR : 200 < (jn false (.cons x k .nil) (.cons y l .nil)).flat.length) : Calls Try.prog 8 #[.slice p a.length c, .slice q b.length d] w fun e w' => e = .returned (.tuple #[.slice none 0 0, .iface 48 (.int .i64 4)]) ∧ Below w.heap.size w w' := by
  refine (kjoin_ok a b w p q c d ha.nl hb.nl ha.le ha.cm hb.le hb.cm x y k l hla hlb hk hl).mono ?_
  rintro en w' ⟨⟨h, q', c', rfl, h1, h2, h3⟩ | ⟨_, h⟩, hb⟩
  · omega
  · exact ⟨h, hb⟩
theorem AK.same : Calls Try.prog 9 #[.slice p a.length c, .slice q b.length d] w fun e w' => e = .returned (.bool (sameNd a b)) ∧ Below w.heap.size w w' := by
  refine (sameNodes_any a b p q c d w ha.nl hb.nl (Nat.le_trans ha.le ha.cm) (Nat.le_trans hb.le hb.cm)).mono ?_
  rintro _ _ ⟨rfl, n, rfl⟩
  exact ⟨rfl, ⟨rfl, rfl, rfl, Nat.le_refl _, fun _ _ => rfl⟩⟩
end
set_option maxHeartbeats 2000000 in
/-- The fact: Num joined with nobody is Num. -/
theorem joined_any (w : World) : Calls Try.prog 4 #[] w fun e w' => e = .returned (.bool true) ∧ Below w.heap.size w w' := by
  have h1 : AK (w.alloc (.cells #[.int .i64 42, .int .i64 0, .string ⟨#[]⟩, .string ⟨#[]⟩] 33)) [lfN 42] (some ⟨w.heap.size, 0, none⟩) 1 := AK.one w (lfN 42) (lfwf 42) rfl
  have h2 : AK ((w.alloc (.cells #[.int .i64 42, .int .i64 0, .string ⟨#[]⟩, .string ⟨#[]⟩] 33)).alloc (.cells #[.int .i64 49, .int .i64 0, .string ⟨#[]⟩, .string ⟨#[]⟩] 33)) [lfN 49] (some ⟨w.heap.size + 1, 0, none⟩) 1 := AK.one _ (lfN 49) (lfwf 49) (by simp)
  have hj : jn false (.cons (lfN 42) .nil .nil) (.cons (lfN 49) .nil .nil) = .cons (lfN 42) .nil .nil := by rw [jn_cons]; simp [lfN]
  have hC := AK.join (h1.up kqx) h2 (by simp) (by simp) (kty_leaf 42 (by omega)) (kty_leaf 49 (by omega)) (by rw [hj]; simp [Tp.flat])
  rw [hj] at hC
  simp only [Tp.flat, List.nil_append, List.length_cons, List.length_nil, Nat.zero_add] at hC
  have HL : Hid (∀ o1 o2, Below w.heap.size w ((w.alloc o1).alloc o2)) := fun o1 o2 => kqx
  clear h1 h2 hj
  go_enter Try.func4, Try.ntmps4
  go_wp2_with fail
  refine hC.mono ?_
  rintro _ w1 ⟨⟨q1, c1, rfl, hA⟩, hb1⟩
  have h3 : AK (w1.alloc (.cells #[.int .i64 42, .int .i64 0, .string ⟨#[]⟩, .string ⟨#[]⟩] 33)) [lfN 42] (some ⟨w1.heap.size, 0, none⟩) 1 := AK.one w1 (lfN 42) (lfwf 42) rfl
  have hS := AK.same (hA.up (w' := w1.alloc _) kqx) h3
  rw [(sameNd_iff _ _).2 rfl] at hS
  have hb01 := kqt (HL.out _ _) hb1
  clear hC hA h3
  go_wp2_with fail
  refine hS.mono ?_
  rintro _ w2 ⟨rfl, hb2⟩
  go_wp2
  go_ret
  exact ⟨rfl, kqt (kqA hb01) hb2⟩
end Go.Proofs.Ytjbjheeigdblkab
