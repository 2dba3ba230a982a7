/- Package kinds: fit, Join, by walks of their own texts. -/
import Derived.Test.YtjbjheeigdblkabKiR
import Derived.Test.YtjbjheeigdblkabKiZ
import Derived.Test.YtjbjheeigdblkabKiI
namespace Go.Proofs.Ytjbjheeigdblkab
open Go.RowKit
set_option linter.unusedVariables false
set_option linter.unusedSectionVars false
set_option maxRecDepth 100000

/-- What fit and Join tell: the nodes, or that they are too many. -/
def FitRet (w' : World) (L : List Nd) (en : Ending) : Prop :=
  (L.length ≤ 200 ∧ ∃ q c, en = .returned (.tuple #[.slice q L.length c, .nilIface]) ∧ NL w' q L ∧ L.length ≤ c ∧ c ≤ maxLen) ∨ (200 < L.length ∧ en = .returned (.tuple #[.slice none 0 0, .iface 48 (.int .i64 4)]))
theorem ON.emptyK (w : World) (base : Nat) : ON w base (.slice none 0 0) [] := ⟨World.ownsRow_nil _ _ _ _, fun x hx => by cases hx⟩
theorem ON.cap {w : World} {base : Nat} {q : Option Addr} {n c : Nat} {L : List Nd} (h : ON w base (.slice q n c) L) : L.length ≤ c ∧ c ≤ maxLen := by
  rcases h.1.2 with ⟨e, h0⟩ | ⟨g, cap, cur, e, _, _, h2, h3, _⟩
  · cases e; exact ⟨by omega, Nat.zero_le _⟩
  · cases e; exact ⟨h2, h3⟩
theorem ON.nl {w : World} {base : Nat} {q : Option Addr} {c : Nat} {L : List Nd} (h : ON w base (.slice q L.length c) L) : NL w q L := by
  obtain ⟨q', c', e, h1, _⟩ := NL.of_row h.2 h.1
  cases e
  exact h1.1
set_option maxHeartbeats 2000000 in
theorem fit_any (x : Nd) (k : Tp) (w : World) (v : Value) (S : Nat → Prop) (hv : VK w k v S) (hx : x.wf) (hl : k.flat.length ≤ 100000) :
    Calls Try.prog 13 #[partV x v] w fun e w' => FitRet w' (x :: k.flat) e ∧ Below w.heap.size w w' := by
  obtain ⟨q, c, rfl, _⟩ := hv.slice
  obtain ⟨W, hW⟩ : ∃ W, W = w.alloc (.cells #[.int .i64 x.op, .int .i64 x.n, .string x.s, .string x.t, .slice q k.len c] 37) := ⟨_, rfl⟩
  have hbW : Below w.heap.size w W := by rw [hW]; exact kqx
  have hC := ontoK_any (k.flat.length + 1) x k (Nat.lt_succ_self _) W _ _ w.heap.size (.slice none 0 0) [] (hv.real.up hbW) (fun a h => h.2) hx hbW.size (ON.emptyK _ _) (by simp; omega)
  rw [List.nil_append] at hC
  have hlL : (x :: k.flat).length ≤ 100001 := by simp; omega
  generalize x :: k.flat = L at *
  unfold partV at *
  clear hv hl
  by_cases h : 200 < L.length
  · have i1 : (200 : Int) < (L.length : Int) := by omega
    have HF : Hid (200 < L.length) := h
    clear h
    go_enter Try.func13, Try.ntmps13
    go_wp2_with fail
    rw [← hW]
    refine hC.mono ?_
    rintro _ w1 ⟨⟨ev, rfl, hO⟩, hk⟩
    obtain ⟨q1, c1, rfl⟩ := hO.any
    have hb1 : Below w.heap.size w w1 := hbW.trans hk.bel
    go_wp2
    exact bodyPost_ret (v := .tuple #[.slice none 0 0, .iface 48 (.int .i64 4)]) (by simp [results, Try.results13, go_sem]) rfl ⟨.inr ⟨HF.out, rfl⟩, hb1⟩
  · have i1 : ¬ (200 : Int) < (L.length : Int) := by omega
    have HF : Hid (L.length ≤ 200) := by show _ ≤ _; omega
    clear h
    go_enter Try.func13, Try.ntmps13
    go_wp2_with fail
    rw [← hW]
    refine hC.mono ?_
    rintro _ w1 ⟨⟨ev, rfl, hO⟩, hk⟩
    obtain ⟨q1, c1, rfl⟩ := hO.any
    have hb1 : Below w.heap.size w w1 := hbW.trans hk.bel
    obtain ⟨hc1, hc2⟩ := hO.cap
    go_wp2
    exact bodyPost_ret (v := .tuple #[.slice q1 L.length c1, .nilIface]) (by simp [results, Try.results13, go_sem]) rfl ⟨.inl ⟨HF.out, q1, c1, rfl, hO.nl, hc1, hc2⟩, hb1⟩
section
variable (a b : List Nd) (w : World) (p q : Option Addr) (c d : Nat) (ha : NL w p a) (hb : NL w q b) (hc : a.length ≤ c) (hcm : c ≤ maxLen) (hd : b.length ≤ d) (hdm : d ≤ maxLen)
include ha hb hc hcm hd hdm
theorem kjoin_err (h : bfault a b ≠ 0) :
    Calls Try.prog 8 #[.slice p a.length c, .slice q b.length d] w fun e w' => e = .returned (.tuple #[.slice none 0 0, .iface 48 (.int .i64 (bfault a b))]) ∧ Below w.heap.size w w' := by
  have hC := readBoth_err a b w p q c d ha hb hc hcm hd hdm h
  generalize bfault a b = n at *
  clear ha hb
  go_enter Try.func8, Try.ntmps8
  go_wp2_with fail
  refine hC.mono ?_
  rintro _ w1 ⟨rfl, hb1⟩
  go_wp2
  exact bodyPost_ret (v := .tuple #[.slice none 0 0, .iface 48 (.int .i64 n)]) (by simp [results, Try.results8, go_sem]) rfl ⟨rfl, kqA (kqA hb1)⟩
theorem kjoin_ok (x y : Nd) (k l : Tp) (hla : a.length ≤ 200) (hlb : b.length ≤ 200) (hk : KTy a x k) (hl : KTy b y l) :
    Calls Try.prog 8 #[.slice p a.length c, .slice q b.length d] w fun e w' => FitRet w' (jn false (.cons x k .nil) (.cons y l .nil)).flat e ∧ Below w.heap.size w w' := by
  have hC := readBoth_ok a b w p q c d ha hb hc hcm hd hdm x y k l hla hlb hk hl
  have hkf : k.flat.length ≤ 1000 := by rw [hk.2] at hla; simp at hla; omega
  have hlf : l.flat.length ≤ 1000 := by rw [hl.2] at hlb; simp at hlb; omega
  have HB := fun W v u S h1 h2 h3 h4 => joinK x k y l W v u S h1 h2 h3 h4 (T1.iff.1 hk.1) (T1.iff.1 hl.1) hkf hlf
  have HN : Hid ((jn false (.cons x k .nil) (.cons y l .nil)).flat.length ≤ 100001) := by
    have := jn_flat _ _ (Nat.lt_succ_self _) hk.1 hl.1
    simp only [Tp.flat, List.length_cons, List.length_append, List.length_nil] at this
    show _ ≤ _
    omega
  generalize jn false (.cons x k .nil) (.cons y l .nil) = R at *
  clear ha hb hk hl hkf hlf
  unfold partV at HB
  go_enter Try.func8, Try.ntmps8
  go_wp2_with fail
  refine hC.mono ?_
  rintro _ w1 ⟨⟨q1, c1, q2, c2, rfl, hxw, hyw, hu, hv⟩, hb1⟩
  have hbk : ∀ o1 o2, Below w1.heap.size w1 ((w1.alloc o1).alloc o2) := fun o1 o2 => kqx
  have HC := fun o1 o2 => HB _ _ _ _ (hu.up (hbk o1 o2)) (hv.up (hbk o1 o2)) hxw hyw
  clear hC HB hu hv
  go_wp2_with fail
  refine (HC _ _).mono ?_
  rintro _ w2 ⟨⟨xj, kj, qj, cj, hR, rfl, hxj, hvj⟩, hb2⟩
  have HR : Hid (R.flat = xj :: kj.flat) := by show _ = _; rw [hR]; simp [Tp.flat]
  clear hR
  have hF := fit_any xj kj w2 _ _ hvj hxj (by have := HN.out; rw [HR.out] at this; simp at this; omega)
  unfold partV at hF
  clear HC
  go_wp2_with fail
  refine hF.mono ?_
  rintro en w3 ⟨hR, hb3⟩
  have hb03 := kqt hb1 (kqt (hbk _ _) (kqt hb2 hb3))
  rcases hR with ⟨hL, q3, c3, rfl, hn3, h1, h2⟩ | ⟨hL, rfl⟩
  · have HL : Hid ((xj :: kj.flat).length ≤ 200) := hL
    clear hL
    generalize xj :: kj.flat = L at *
    go_wp2
    exact bodyPost_ret (v := .tuple #[.slice q3 L.length c3, .nilIface]) (by simp [results, Try.results8, go_sem]) rfl ⟨by rw [HR.out]; exact .inl ⟨HL.out, q3, c3, rfl, hn3, h1, h2⟩, hb03⟩
  · have HL : Hid (200 < (xj :: kj.flat).length) := hL
    clear hL
    generalize xj :: kj.flat = L at *
    go_wp2
    exact bodyPost_ret (v := .tuple #[.slice none 0 0, .iface 48 (.int .i64 4)]) (by simp [results, Try.results8, go_sem]) rfl ⟨by rw [HR.out]; exact .inr ⟨HL.out, rfl⟩, hb03⟩
end
end Go.Proofs.Ytjbjheeigdblkab
