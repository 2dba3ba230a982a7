/- Package kinds: readBoth, Check, Below, by walks of their own texts. -/
import Derived.Test.YtjbjheeigdblkabKiX
import Derived.Test.YtjbjheeigdblkabKiY
namespace Go.Proofs.Ytjbjheeigdblkab
open Go.RowKit
set_option linter.unusedVariables false
set_option maxRecDepth 100000

theorem kfault_zero {v : List Nd} (h : kfault v = 0) : v.length ≤ 200 ∧ ∃ x k, KTy v x k := by
  rcases kfault_ways v with ⟨_, h1⟩ | ⟨_, _, h1⟩ | ⟨h1, x, k, h2, _⟩
  · omega
  · omega
  · exact ⟨h1, x, k, h2⟩
theorem read_err (v : List Nd) (w : World) (p : Option Addr) (c : Nat) (hv : NL w p v) (hc : v.length ≤ c) (hcm : c ≤ maxLen) (h : kfault v ≠ 0) :
    Calls Try.prog 14 #[.slice p v.length c] w fun e w' => e = .returned (.tuple #[.agg #[.int .i64 0, .int .i64 0, .string ⟨#[]⟩, .string ⟨#[]⟩, .slice none 0 0], .iface 48 (.int .i64 (kfault v))]) ∧ Below w.heap.size w w' := by
  rcases kfault_ways v with ⟨h1, h2⟩ | ⟨h1, h3, h2⟩ | ⟨h1, x, k, h3, h2⟩
  · rw [h2]; exact read_full v w p c h1
  · rw [h2]; exact read_bad v w p c hv hc hcm h1 h3
  · exact absurd h2 h
/-- A part is put into a block, beside another. -/
theorem PBk.puts {w : World} {A B : Nat} {x y z : Nd} {v u r : Value} (h : PBk w A y v) (k : PBk w B z r) (hne : A ≠ B) : ∃ V, V = (((((w.setCell ⟨A, 0, none⟩ (.int .i64 x.op)).setCell ⟨A, 1, none⟩ (.int .i64 x.n)).setCell ⟨A, 2, none⟩ (.string x.s)).setCell ⟨A, 3, none⟩ (.string x.t)).setCell ⟨A, 4, none⟩ u) ∧ PBk V A x u ∧ PBk V B z r ∧ Keep (fun a => a = A) w V := by
  obtain ⟨h1, h2⟩ := h.put (x := x) (u := u) rfl
  exact ⟨_, rfl, h1, k.keep h2 (fun e => hne e.symm), h2⟩
section
variable (a b : List Nd) (w : World) (p q : Option Addr) (c d : Nat) (ha : NL w p a) (hb : NL w q b) (hc : a.length ≤ c) (hcm : c ≤ maxLen) (hd : b.length ≤ d) (hdm : d ≤ maxLen)
include ha hb hc hcm hd hdm
omit hb hd hdm in
set_option maxHeartbeats 4000000 in
theorem readBoth_one (h : kfault a ≠ 0) :
    Calls Try.prog 16 #[.slice p a.length c, .slice q b.length d] w fun e w' => e = .returned (.tuple #[.agg #[.int .i64 0, .int .i64 0, .string ⟨#[]⟩, .string ⟨#[]⟩, .slice none 0 0], .agg #[.int .i64 0, .int .i64 0, .string ⟨#[]⟩, .string ⟨#[]⟩, .slice none 0 0], .iface 48 (.int .i64 (kfault a))]) ∧ Below w.heap.size w w' := by
  have hC := fun W (hW : Below w.heap.size w W) => read_err a W p c (ha.up hW) hc hcm h
  generalize kfault a = n at *
  clear ha
  obtain ⟨W, hW⟩ : ∃ W, W = (w.alloc (.cells #[.int .i64 0, .int .i64 0, .string ⟨#[]⟩, .string ⟨#[]⟩, .slice none 0 0] 37)).alloc (.cells #[.int .i64 0, .int .i64 0, .string ⟨#[]⟩, .string ⟨#[]⟩, .slice none 0 0] 37) := ⟨_, rfl⟩
  have hbW : Below w.heap.size w W := by rw [hW]; exact kqx
  have hA : PBk W w.heap.size zN (.slice none 0 0) := by rw [hW]; exact (PBk.new w zN _ rfl).up kqx
  have hB : PBk W (w.heap.size + 1) zN (.slice none 0 0) := by rw [hW]; exact PBk.new _ zN _ (by simp)
  go_enter Try.func16, Try.ntmps16
  go_wp2_with fail
  rw [← hW]
  refine (hC W hbW).mono ?_
  rintro _ w5 ⟨rfl, hb5⟩
  have hA5 := hA.up hb5
  have hB5 := hB.up hb5
  obtain ⟨r0, r1, r2, r3, r4⟩ := hA5.cells
  obtain ⟨s0, s1, s2, s3, s4⟩ := hB5.cells
  have fr := hA5.free
  have fs := hB5.free
  have hb05 := kqt hbW hb5
  clear hC hW hA hB
  go_wp2
  obtain ⟨V1, hV1, hA1, hB1, hK1⟩ := hA5.puts (x := zN) (u := .slice none 0 0) hB5 (by omega)
  obtain ⟨V2, hV2, hA2, hB2, hK2⟩ := hA1.puts (x := zN) (u := .slice none 0 0) hB1 (by omega)
  obtain ⟨V3, hV3, hB3, hA3, hK3⟩ := hB2.puts (x := zN) (u := .slice none 0 0) hA2 (by omega)
  unfold zN at hV1 hV2 hV3
  dsimp only at hV1 hV2 hV3
  rw [← hV1, ← hV2, ← hV3]
  obtain ⟨t0, t1, t2, t3, t4⟩ := hA3.cells
  obtain ⟨v0, v1, v2, v3, v4⟩ := hB3.cells
  unfold zN at t0 t1 t2 t3 v0 v1 v2 v3
  dsimp only at t0 t1 t2 t3 v0 v1 v2 v3
  have hbf : Below w.heap.size w V3 := ((hb05.trans (hK1.below (by have := hA5.lt; omega) (fun a e => by omega))).trans (hK2.below (by have := hA1.lt; omega) (fun a e => by omega))).trans (hK3.below (by have := hA2.lt; omega) (fun a e => by omega))
  exact bodyPost_ret (v := .tuple #[.agg #[.int .i64 0, .int .i64 0, .string ⟨#[]⟩, .string ⟨#[]⟩, .slice none 0 0], .agg #[.int .i64 0, .int .i64 0, .string ⟨#[]⟩, .string ⟨#[]⟩, .slice none 0 0], .iface 48 (.int .i64 n)]) (by simp [results, Try.results16, go_sem, t0, t1, t2, t3, t4, v0, v1, v2, v3, v4]) rfl ⟨rfl, hbf⟩
set_option maxHeartbeats 4000000 in
theorem readBoth_two (x : Nd) (k : Tp) (hla : a.length ≤ 200) (hk : KTy a x k) (h : kfault b ≠ 0) :
    Calls Try.prog 16 #[.slice p a.length c, .slice q b.length d] w fun e w' => e = .returned (.tuple #[.agg #[.int .i64 0, .int .i64 0, .string ⟨#[]⟩, .string ⟨#[]⟩, .slice none 0 0], .agg #[.int .i64 0, .int .i64 0, .string ⟨#[]⟩, .string ⟨#[]⟩, .slice none 0 0], .iface 48 (.int .i64 (kfault b))]) ∧ Below w.heap.size w w' := by
  have hC0 := fun W (hW : Below w.heap.size w W) => read_ok a W p c (ha.up hW) hc hcm hla x k hk
  have hC := fun W (hW : Below w.heap.size w W) => read_err b W q d (hb.up hW) hd hdm h
  generalize kfault b = n at *
  clear ha hb hk
  obtain ⟨W, hW⟩ : ∃ W, W = (w.alloc (.cells #[.int .i64 0, .int .i64 0, .string ⟨#[]⟩, .string ⟨#[]⟩, .slice none 0 0] 37)).alloc (.cells #[.int .i64 0, .int .i64 0, .string ⟨#[]⟩, .string ⟨#[]⟩, .slice none 0 0] 37) := ⟨_, rfl⟩
  have hbW : Below w.heap.size w W := by rw [hW]; exact kqx
  have hA : PBk W w.heap.size zN (.slice none 0 0) := by rw [hW]; exact (PBk.new w zN _ rfl).up kqx
  have hB : PBk W (w.heap.size + 1) zN (.slice none 0 0) := by rw [hW]; exact PBk.new _ zN _ (by simp)
  go_enter Try.func16, Try.ntmps16
  go_wp2_with fail
  rw [← hW]
  refine (hC0 W hbW).mono ?_
  rintro _ w5 ⟨⟨q5, c5, rfl, hxw, hu⟩, hb5⟩
  have hA5 := hA.up hb5
  have hB5 := hB.up hb5
  obtain ⟨r0, r1, r2, r3, r4⟩ := hA5.cells
  have fr := hA5.free
  have hb05 := kqt hbW hb5
  clear hC0 hW hA hB
  go_wp2_with fail
  obtain ⟨V1, hV1, hA1, hB1, hK1⟩ := hA5.puts (x := x) (u := .slice q5 k.len c5) hB5 (by omega)
  have hb1 : Below w.heap.size w V1 := hb05.trans (hK1.below (by have := hA5.lt; omega) (fun a e => by omega))
  rw [← hV1]
  refine (hC V1 hb1).mono ?_
  rintro _ w7 ⟨rfl, hb7⟩
  have hA7 := hA1.up hb7
  have hB7 := hB1.up hb7
  have hb07 := kqt hb1 hb7
  clear hC hV1 hu r0 r1 r2 r3 r4 fr
  obtain ⟨r0, r1, r2, r3, r4⟩ := hA7.cells
  obtain ⟨s0, s1, s2, s3, s4⟩ := hB7.cells
  have fr := hA7.free
  have fs := hB7.free
  go_wp2
  obtain ⟨V2, hV2, hB2, hA2, hK2⟩ := hB7.puts (x := zN) (u := .slice none 0 0) hA7 (by omega)
  obtain ⟨V3, hV3, hA3, hB3, hK3⟩ := hA2.puts (x := zN) (u := .slice none 0 0) hB2 (by omega)
  obtain ⟨V4, hV4, hB4, hA4, hK4⟩ := hB3.puts (x := zN) (u := .slice none 0 0) hA3 (by omega)
  unfold zN at hV2 hV3 hV4
  dsimp only at hV2 hV3 hV4
  rw [← hV2, ← hV3, ← hV4]
  obtain ⟨t0, t1, t2, t3, t4⟩ := hA4.cells
  obtain ⟨v0, v1, v2, v3, v4⟩ := hB4.cells
  unfold zN at t0 t1 t2 t3 v0 v1 v2 v3
  dsimp only at t0 t1 t2 t3 v0 v1 v2 v3
  have hbf : Below w.heap.size w V4 := ((hb07.trans (hK2.below (by have := hA7.lt; omega) (fun a e => by omega))).trans (hK3.below (by have := hA2.lt; omega) (fun a e => by omega))).trans (hK4.below (by have := hA3.lt; omega) (fun a e => by omega))
  exact bodyPost_ret (v := .tuple #[.agg #[.int .i64 0, .int .i64 0, .string ⟨#[]⟩, .string ⟨#[]⟩, .slice none 0 0], .agg #[.int .i64 0, .int .i64 0, .string ⟨#[]⟩, .string ⟨#[]⟩, .slice none 0 0], .iface 48 (.int .i64 n)]) (by simp [results, Try.results16, go_sem, t0, t1, t2, t3, t4, v0, v1, v2, v3, v4]) rfl ⟨rfl, hbf⟩
set_option maxHeartbeats 4000000 in
theorem readBoth_ok (x y : Nd) (k l : Tp) (hla : a.length ≤ 200) (hlb : b.length ≤ 200) (hk : KTy a x k) (hl : KTy b y l) :
    Calls Try.prog 16 #[.slice p a.length c, .slice q b.length d] w fun e w' => (∃ q1 c1 q2 c2, e = .returned (.tuple #[.agg #[.int .i64 x.op, .int .i64 x.n, .string x.s, .string x.t, .slice q1 k.len c1], .agg #[.int .i64 y.op, .int .i64 y.n, .string y.s, .string y.t, .slice q2 l.len c2], .nilIface]) ∧ x.wf ∧ y.wf ∧ VK w' k (.slice q1 k.len c1) (fun a => w.heap.size ≤ a) ∧ VK w' l (.slice q2 l.len c2) (fun a => w.heap.size ≤ a)) ∧ Below w.heap.size w w' := by
  have hC0 := fun W (hW : Below w.heap.size w W) => read_ok a W p c (ha.up hW) hc hcm hla x k hk
  have hC := fun W (hW : Below w.heap.size w W) => read_ok b W q d (hb.up hW) hd hdm hlb y l hl
  clear ha hb hk hl
  obtain ⟨W, hW⟩ : ∃ W, W = (w.alloc (.cells #[.int .i64 0, .int .i64 0, .string ⟨#[]⟩, .string ⟨#[]⟩, .slice none 0 0] 37)).alloc (.cells #[.int .i64 0, .int .i64 0, .string ⟨#[]⟩, .string ⟨#[]⟩, .slice none 0 0] 37) := ⟨_, rfl⟩
  have hbW : Below w.heap.size w W := by rw [hW]; exact kqx
  have hA : PBk W w.heap.size zN (.slice none 0 0) := by rw [hW]; exact (PBk.new w zN _ rfl).up kqx
  have hB : PBk W (w.heap.size + 1) zN (.slice none 0 0) := by rw [hW]; exact PBk.new _ zN _ (by simp)
  have hWs : W.heap.size = w.heap.size + 2 := by rw [hW]; simp
  go_enter Try.func16, Try.ntmps16
  go_wp2_with fail
  rw [← hW]
  refine (hC0 W hbW).mono ?_
  rintro _ w5 ⟨⟨q5, c5, rfl, hxw, hu⟩, hb5⟩
  have hA5 := hA.up hb5
  have hB5 := hB.up hb5
  obtain ⟨r0, r1, r2, r3, r4⟩ := hA5.cells
  have fr := hA5.free
  have hb05 := kqt hbW hb5
  clear hC0 hW hA hB
  go_wp2_with fail
  obtain ⟨V1, hV1, hA1, hB1, hK1⟩ := hA5.puts (x := x) (u := .slice q5 k.len c5) hB5 (by omega)
  have hb1 : Below w.heap.size w V1 := hb05.trans (hK1.below (by have := hA5.lt; omega) (fun a e => by omega))
  have hu1 : VK V1 k (.slice q5 k.len c5) (fun a => w.heap.size + 2 ≤ a) := (hu.agree (fun a h hl => hK1.block a hl (by omega))).sub (fun a h => by omega)
  rw [← hV1]
  refine (hC V1 hb1).mono ?_
  rintro _ w7 ⟨⟨q7, c7, rfl, hyw, hv7⟩, hb7⟩
  have hA7 := hA1.up hb7
  have hB7 := hB1.up hb7
  have hb07 := kqt hb1 hb7
  have hu7 := hu1.up hb7
  have hV1s : w.heap.size + 2 ≤ V1.heap.size := by have := hb5.size; have := hK1.size; omega
  have hv7' : VK w7 l (.slice q7 l.len c7) (fun a => w.heap.size + 2 ≤ a) := hv7.sub (fun a h => by omega)
  clear hC hV1 hu r0 r1 r2 r3 r4 fr hv7 hu1
  obtain ⟨r0, r1, r2, r3, r4⟩ := hA7.cells
  obtain ⟨s0, s1, s2, s3, s4⟩ := hB7.cells
  have fr := hA7.free
  have fs := hB7.free
  go_wp2
  obtain ⟨V2, hV2, hB2, hA2, hK2⟩ := hB7.puts (x := y) (u := .slice q7 l.len c7) hA7 (by omega)
  rw [← hV2]
  have hb2 : Below w.heap.size w V2 := hb07.trans (hK2.below (by have := hA7.lt; omega) (fun a e => by omega))
  have hu2 := hu7.agree (w' := V2) (fun a h hl => hK2.block a hl (by omega))
  have hv2 := hv7'.agree (w' := V2) (fun a h hl => hK2.block a hl (by omega))
  clear hV2 r0 r1 r2 r3 r4 s0 s1 s2 s3 s4 fr fs
  obtain ⟨r0, r1, r2, r3, r4⟩ := hA2.cells
  obtain ⟨s0, s1, s2, s3, s4⟩ := hB2.cells
  have fr := hA2.free
  have fs := hB2.free
  have r0' : V2.drew.cell? _ = _ := r0
  have r1' : V2.drew.cell? _ = _ := r1
  have r2' : V2.drew.cell? _ = _ := r2
  have r3' : V2.drew.cell? _ = _ := r3
  have r4' : V2.drew.cell? _ = _ := r4
  have s0' : V2.drew.cell? _ = _ := s0
  have s1' : V2.drew.cell? _ = _ := s1
  have s2' : V2.drew.cell? _ = _ := s2
  have s3' : V2.drew.cell? _ = _ := s3
  have s4' : V2.drew.cell? _ = _ := s4
  have fr' : ∀ j, V2.drew.frozen? ⟨w.heap.size, j, none⟩ = false := fr
  have fs' : ∀ j, V2.drew.frozen? ⟨w.heap.size + 1, j, none⟩ = false := fs
  go_region
  obtain ⟨V3, hV3, hA3, hB3, hK3⟩ := hA2.puts (x := x) (u := .slice q5 k.len c5) hB2 (by omega)
  obtain ⟨V4, hV4, hB4, hA4, hK4⟩ := hB3.puts (x := y) (u := .slice q7 l.len c7) hA3 (by omega)
  rw [← hV3, ← hV4]
  go_wp2
  have hb4 : Below w.heap.size w V4 := (hb2.trans (hK3.below (by have := hA2.lt; omega) (fun a e => by omega))).trans (hK4.below (by have := hA3.lt; omega) (fun a e => by omega))
  have hu4 := (hu2.agree (w' := V3) (fun a h hl => hK3.block a hl (by omega))).agree (w' := V4) (fun a h hl => hK4.block a hl (by omega))
  have hv4 := (hv2.agree (w' := V3) (fun a h hl => hK3.block a hl (by omega))).agree (w' := V4) (fun a h hl => hK4.block a hl (by omega))
  have hbd : Below V4.heap.size V4 V4.drew := kqx
  obtain ⟨t0, t1, t2, t3, t4⟩ := (hA4.up hbd).cells
  obtain ⟨v0, v1, v2, v3, v4⟩ := (hB4.up hbd).cells
  exact bodyPost_ret (v := .tuple #[.agg #[.int .i64 x.op, .int .i64 x.n, .string x.s, .string x.t, .slice q5 k.len c5], .agg #[.int .i64 y.op, .int .i64 y.n, .string y.s, .string y.t, .slice q7 l.len c7], .nilIface]) (by simp [results, Try.results16, go_sem, t0, t1, t2, t3, t4, v0, v1, v2, v3, v4]) rfl ⟨⟨_, _, _, _, rfl, hxw, hyw, (hu4.up hbd).sub (fun a h => by omega), (hv4.up hbd).sub (fun a h => by omega)⟩, kqt hb4 hbd⟩
end
/-- What Below tells. -/
noncomputable def bfault (a b : List Nd) : Int := if kfault a = 0 then kfault b else kfault a
section
variable (a b : List Nd) (w : World) (p q : Option Addr) (c d : Nat) (ha : NL w p a) (hb : NL w q b) (hc : a.length ≤ c) (hcm : c ≤ maxLen) (hd : b.length ≤ d) (hdm : d ≤ maxLen)
include ha hb hc hcm hd hdm
theorem readBoth_err (h : bfault a b ≠ 0) :
    Calls Try.prog 16 #[.slice p a.length c, .slice q b.length d] w fun e w' => e = .returned (.tuple #[.agg #[.int .i64 0, .int .i64 0, .string ⟨#[]⟩, .string ⟨#[]⟩, .slice none 0 0], .agg #[.int .i64 0, .int .i64 0, .string ⟨#[]⟩, .string ⟨#[]⟩, .slice none 0 0], .iface 48 (.int .i64 (bfault a b))]) ∧ Below w.heap.size w w' := by
  unfold bfault at *
  by_cases h1 : kfault a = 0
  · rw [if_pos h1] at h ⊢
    obtain ⟨h2, x, k, h3⟩ := kfault_zero h1
    exact readBoth_two a b w p q c d ha hb hc hcm hd hdm x k h2 h3 h
  · rw [if_neg h1]
    exact readBoth_one a b w p q c d ha hc hcm h1
/-- Below, where one is none. -/
theorem kbelow_err (h : bfault a b ≠ 0) :
    Calls Try.prog 7 #[.slice p a.length c, .slice q b.length d] w fun e w' => e = .returned (.tuple #[.bool false, .iface 48 (.int .i64 (bfault a b))]) ∧ Below w.heap.size w w' := by
  have hC := readBoth_err a b w p q c d ha hb hc hcm hd hdm h
  generalize bfault a b = n at *
  clear ha hb
  go_enter Try.func7, Try.ntmps7
  go_wp2_with fail
  refine hC.mono ?_
  rintro _ w1 ⟨rfl, hb1⟩
  go_wp2
  exact bodyPost_ret (v := .tuple #[.bool false, .iface 48 (.int .i64 n)]) (by simp [results, Try.results7, go_sem]) rfl ⟨rfl, kqA (kqA hb1)⟩
theorem kbelow_ok (x y : Nd) (k l : Tp) (hla : a.length ≤ 200) (hlb : b.length ≤ 200) (hk : KTy a x k) (hl : KTy b y l) :
    Calls Try.prog 7 #[.slice p a.length c, .slice q b.length d] w fun e w' => e = .returned (.tuple #[.bool (blw false (.cons x k .nil) (.cons y l .nil)), .nilIface]) ∧ Below w.heap.size w w' := by
  have hC := readBoth_ok a b w p q c d ha hb hc hcm hd hdm x y k l hla hlb hk hl
  have hkf : k.flat.length ≤ 1000 := by rw [hk.2] at hla; simp at hla; omega
  have hlf : l.flat.length ≤ 1000 := by rw [hl.2] at hlb; simp at hlb; omega
  have HB := fun W v u S h1 h2 => belowK x k y l W v u S h1 h2 (T1.iff.1 hk.1) (T1.iff.1 hl.1) hkf hlf
  generalize blw false (.cons x k .nil) (.cons y l .nil) = R at *
  clear ha hb hk hl hkf hlf
  unfold partV at HB
  go_enter Try.func7, Try.ntmps7
  go_wp2_with fail
  refine hC.mono ?_
  rintro _ w1 ⟨⟨q1, c1, q2, c2, rfl, hxw, hyw, hu, hv⟩, hb1⟩
  have hbk : ∀ o1 o2, Below w1.heap.size w1 ((w1.alloc o1).alloc o2) := fun o1 o2 => kqx
  have HC := fun o1 o2 => HB _ _ _ _ (hu.up (hbk o1 o2)) (hv.up (hbk o1 o2))
  clear hC HB hu hv
  go_wp2_with fail
  refine (HC _ _).mono ?_
  rintro _ w2 ⟨rfl, hb2⟩
  go_wp2
  exact bodyPost_ret (v := .tuple #[.bool R, .nilIface]) (by simp [results, Try.results7, go_sem]) rfl ⟨rfl, kqt hb1 (kqt (hbk _ _) hb2)⟩
end
end Go.Proofs.Ytjbjheeigdblkab
