/- Package kinds: leaf, setOf, recOf, fieldOf, by walks of their own texts. -/
import Derived.Test.YtjbjheeigdblkabKiS
namespace Go.Proofs.Ytjbjheeigdblkab
open Go.RowKit
set_option linter.unusedVariables false
set_option maxRecDepth 100000

theorem leaf_any (op : Int) (w : World) :
    Calls Try.prog 21 #[.int .i64 op] w fun e w' => e = .returned (.agg #[.int .i64 op, .int .i64 0, .string ⟨#[]⟩, .string ⟨#[]⟩, .slice none 0 0]) ∧ Below w.heap.size w w' := by
  go_enter Try.func21, Try.ntmps21
  go_wp2
  exact bodyPost_ret (v := .agg #[.int .i64 op, .int .i64 0, .string ⟨#[]⟩, .string ⟨#[]⟩, .slice none 0 0]) (by simp [results, Try.results21, go_sem]) rfl ⟨rfl, kqx⟩
/-- A row of one part, laid anew. -/
theorem VK.lay {W : World} {x : Nd} {k : Tp} {q : Option Addr} {c : Nat} {S : Nat → Prop} (h : VK W k (.slice q k.len c) S) (hx : x.wf) {B : Nat} (hB : B = W.heap.size) : VK (W.alloc (.cells #[.int .i64 x.op, .int .i64 x.n, .string x.s, .string x.t, .slice q k.len c] 37)) (.cons x k .nil) (.slice (some ⟨B, 0, none⟩) 1 1) (fun a => S a ∨ a = B) := by
  subst hB
  have hb : Below W.heap.size W (W.alloc (.cells #[.int .i64 x.op, .int .i64 x.n, .string x.s, .string x.t, .slice q k.len c] 37)) := kqx
  refine ⟨pcl x (.slice q k.len c), ⟨rfl, .inr ⟨W.heap.size, 1, _, rfl, Nat.zero_le _, fnew_at rfl, Nat.le_refl _, by unfold maxLen; omega, rfl, rfl⟩⟩, ?_, (RK.one hx ((h.up hb).sub (fun a h => .inl h)))⟩
  intro g hg
  simp only [Value.ownBlock, Option.some.injEq] at hg
  exact .inr hg.symm
set_option maxHeartbeats 2000000 in
theorem setOf_any (x : Nd) (k : Tp) (w : World) (v : Value) (S : Nat → Prop) (hv : VK w k v S) (hx : x.wf) :
    Calls Try.prog 22 #[partV x v] w fun e w' => (∃ q c, e = .returned (.agg #[.int .i64 45, .int .i64 0, .string ⟨#[]⟩, .string ⟨#[]⟩, .slice q 1 c]) ∧ VK w' (.cons x k .nil) (.slice q 1 c) (fun a => S a ∨ w.heap.size ≤ a)) ∧ Below w.heap.size w w' := by
  obtain ⟨q, c, rfl, _⟩ := hv.slice
  unfold partV
  have HV : Hid (VK w k (.slice q k.len c) S) := hv
  clear hv
  go_enter Try.func22, Try.ntmps22
  go_wp2
  refine bodyPost_ret (v := .agg #[.int .i64 45, .int .i64 0, .string ⟨#[]⟩, .string ⟨#[]⟩, .slice (some ⟨w.heap.size + 1 + 1, 0, none⟩) 1 1]) (by simp [results, Try.results22, go_sem]) rfl ⟨⟨_, _, rfl, ?_⟩, kqx⟩
  exact (VK.lay (HV.out.up kqx) hx (by simp)).sub (fun a h => h.elim .inl (fun e => .inr (by omega)))
set_option maxHeartbeats 2000000 in
theorem fieldOf_any (s : ByteArray) (n : Int) (x : Nd) (k : Tp) (w : World) (v : Value) (S : Nat → Prop) (hv : VK w k v S) (hx : x.wf) :
    Calls Try.prog 23 #[.string s, .int .i64 n, partV x v] w fun e w' => (∃ q c, e = .returned (.agg #[.int .i64 47, .int .i64 n, .string s, .string ⟨#[]⟩, .slice q 1 c]) ∧ VK w' (.cons x k .nil) (.slice q 1 c) (fun a => S a ∨ w.heap.size ≤ a)) ∧ Below w.heap.size w w' := by
  obtain ⟨q, c, rfl, _⟩ := hv.slice
  unfold partV
  have HV : Hid (VK w k (.slice q k.len c) S) := hv
  clear hv
  go_enter Try.func23, Try.ntmps23
  go_wp2
  refine bodyPost_ret (v := .agg #[.int .i64 47, .int .i64 n, .string s, .string ⟨#[]⟩, .slice (some ⟨w.heap.size + 1 + 1, 0, none⟩) 1 1]) (by simp [results, Try.results23, go_sem]) rfl ⟨⟨_, _, rfl, ?_⟩, kqx⟩
  exact (VK.lay (HV.out.up kqx) hx (by simp)).sub (fun a h => h.elim .inl (fun e => .inr (by omega)))
set_option maxHeartbeats 2000000 in
theorem recOf_any (q : Option Addr) (n c : Nat) (w : World) :
    Calls Try.prog 24 #[.slice q n c] w fun e w' => e = .returned (.agg #[.int .i64 46, .int .i64 n, .string ⟨#[]⟩, .string ⟨#[]⟩, .slice q n c]) ∧ Below w.heap.size w w' := by
  go_enter Try.func24, Try.ntmps24
  go_wp2
  exact bodyPost_ret (v := .agg #[.int .i64 46, .int .i64 n, .string ⟨#[]⟩, .string ⟨#[]⟩, .slice q n c]) (by simp [results, Try.results24, go_sem]) rfl ⟨rfl, kqx⟩
end Go.Proofs.Ytjbjheeigdblkab
