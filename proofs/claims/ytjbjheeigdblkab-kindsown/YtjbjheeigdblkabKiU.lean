/- Package kinds: field, by a walk of its own text. -/
import Derived.Test.YtjbjheeigdblkabKiS
namespace Go.Proofs.Ytjbjheeigdblkab
open Go.RowKit
set_option linter.unusedVariables false
set_option maxRecDepth 100000

/-- What field tells. -/
def FdRet (S : Nat → Prop) (w' : World) (en : Ending) : Option (Nd × Tp) → Prop
  | some (f, kf) => ∃ q c, en = .returned (.tuple #[.agg #[.int .i64 f.op, .int .i64 f.n, .string f.s, .string f.t, .slice q kf.len c], .bool true]) ∧ f.wf ∧ VK w' kf (.slice q kf.len c) S
  | none => en = .returned (.tuple #[.agg #[.int .i64 0, .int .i64 0, .string ⟨#[]⟩, .string ⟨#[]⟩, .slice none 0 0], .bool false])
theorem find_app {s : ByteArray} : ∀ {a b : Tp}, a.find s = none → (a.app b).find s = b.find s
  | .nil, b, _ => rfl
  | .cons x k r, b, h => by
    rw [Tp.find] at h
    split at h
    · cases h
    · rename_i hne; rw [Tp.app, Tp.find, if_neg hne]; exact find_app h
set_option maxHeartbeats 4000000 in
theorem field_any (x : Nd) (k : Tp) (s : ByteArray) (w : World) (v : Value) (S : Nat → Prop) (hv : VK w k v S) (hl : k.flat.length ≤ 1000) :
    Calls Try.prog 38 #[partV x v, .string s] w fun en w' => FdRet S w' en (k.find s) ∧ Below w.heap.size w w' := by
  obtain ⟨q, c, rfl, hkc, hcm⟩ := hv.slice
  have HV : Hid (VK w k (.slice q k.len c) (fun a => S a ∧ a < w.heap.size)) := hv.real
  have hkb : k.len ≤ 1000 := by have := tp_len_flat k; omega
  clear hv hl
  obtain ⟨W, hW⟩ : ∃ W, W = (w.alloc (.cells #[.int .i64 x.op, .int .i64 x.n, .string x.s, .string x.t, .slice q k.len c] 37)).alloc (.cells #[.int .i64 0, .int .i64 0, .string ⟨#[]⟩, .string ⟨#[]⟩, .slice none 0 0] 37) := ⟨_, rfl⟩
  have hb0 : Below w.heap.size w W := by rw [hW]; exact kqx
  have hp_0 : PBk W w.heap.size x (.slice q k.len c) := by rw [hW]; exact (PBk.new w x _ rfl).up kqx
  have hr_0 : PBk W (w.heap.size + 1) zN (.slice none 0 0) := by rw [hW]; exact PBk.new _ zN _ (by simp)
  have hWs : w.heap.size + 2 ≤ W.heap.size := by rw [hW]; simp
  unfold partV
  go_enter Try.func38, Try.ntmps38
  go_wp2
  rw [← hW]
  go_loopw [11] (fun i wr => ∃ (done todo : Tp), Hid (done.app todo = k) ∧ i = .int .i64 (done.len : Int) ∧ Hid (done.find s = none) ∧ PBk wr (w.heap.size + 1) zN (.slice none 0 0) ∧ Below w.heap.size w wr ∧ w.heap.size + 2 ≤ wr.heap.size) (fun i _ => k.len - (intOf i).toNat)
  case atStart => exact ⟨.nil, k, rfl, rfl, rfl, hr_0, hb0, hWs⟩
  case round =>
    rename World => w3
    obtain ⟨done, todo, HD, rfl, HF, hr_3, hb3, hs3⟩ := hrel
    cases todo with
    | nil =>
      have hd : done = k := by have := HD.out; rw [tp_app_nil] at this; exact this
      subst hd
      have i1 : ¬ (done.len : Int) < (done.len : Int) := by omega
      obtain ⟨r0, r1, r2, r3, r4⟩ := hr_3.cells
      have fr := hr_3.free
      go_wp2
      obtain ⟨V, hV⟩ : ∃ V, V = ((((w3.setCell ⟨w.heap.size + 1, 0, none⟩ (.int .i64 zN.op)).setCell ⟨w.heap.size + 1, 1, none⟩ (.int .i64 zN.n)).setCell ⟨w.heap.size + 1, 2, none⟩ (.string zN.s)).setCell ⟨w.heap.size + 1, 3, none⟩ (.string zN.t)).setCell ⟨w.heap.size + 1, 4, none⟩ (.slice none 0 0) := ⟨_, rfl⟩
      obtain ⟨hPV, hKV⟩ := hr_3.put hV
      obtain ⟨t0, t1, t2, t3, t4⟩ := hPV.cells
      have hbV : Below w.heap.size w3 V := hKV.below (by omega) (fun a e => by omega)
      unfold zN at hV t0 t1 t2 t3
      dsimp only at hV t0 t1 t2 t3
      rw [← hV]
      exact bodyPost_ret (v := .tuple #[.agg #[.int .i64 0, .int .i64 0, .string ⟨#[]⟩, .string ⟨#[]⟩, .slice none 0 0], .bool false]) (by simp [results, Try.results38, go_sem, t0, t1, t2, t3, t4]) rfl ⟨by rw [HF.out]; rfl, hb3.trans hbV⟩
    | cons y ky r =>
      have hv3 : VK w3 k (.slice q k.len c) (fun a => S a ∧ a < w.heap.size) := HV.out.up hb3
      have hkl : k.len = done.len + (r.len + 1) := by rw [← HD.out, tp_app_len]; rfl
      have i1 : (done.len : Int) < (k.len : Int) := by omega
      rw [← HD.out] at hv3
      obtain ⟨g, cap, u, hu, hP, hyw, hvk, hSg⟩ := hv3.at
      rw [HD.out, ← hkl] at hu
      cases hu
      obtain ⟨qu, cu, rfl, _⟩ := hvk.slice
      obtain ⟨p0, p1, p2, p3, p4⟩ := hP.cells
      have HDn : Hid ((done.app (.cons y ky .nil)).app r = k) := by show _ = _; rw [tp_app_assoc, ← HD.out]; rfl
      have HKL : Hid (k.len = done.len + (r.len + 1)) := hkl
      have HVk : Hid (VK w3 ky (.slice qu ky.len cu) (fun a => S a ∧ a < w.heap.size)) := hvk
      clear hv3 hP hkl hvk
      by_cases he : y.s = s
      · subst he
        have HK : Hid (k.find y.s = some (y, ky)) := by show _ = _; rw [← HD.out, find_app HF.out, Fl.find_head]
        obtain ⟨V6, hV6⟩ : ∃ V6, V6 = w3.alloc (.cells #[.int .i64 y.op, .int .i64 y.n, .string y.s, .string y.t, .slice qu ky.len cu] 37) := ⟨_, rfl⟩
        have hb6 : Below w3.heap.size w3 V6 := by rw [hV6]; exact kqx
        have hr_6 := hr_3.up hb6
        obtain ⟨s0, s1, s2, s3, s4⟩ := hr_6.cells
        have fr := hr_6.free
        rw [hV6] at s0 s1 s2 s3 s4 fr
        go_wp2
        rw [← hV6]
        obtain ⟨V, hV⟩ : ∃ V, V = ((((V6.setCell ⟨w.heap.size + 1, 0, none⟩ (.int .i64 y.op)).setCell ⟨w.heap.size + 1, 1, none⟩ (.int .i64 y.n)).setCell ⟨w.heap.size + 1, 2, none⟩ (.string y.s)).setCell ⟨w.heap.size + 1, 3, none⟩ (.string y.t)).setCell ⟨w.heap.size + 1, 4, none⟩ (.slice qu ky.len cu) := ⟨_, rfl⟩
        obtain ⟨hPV, hKV⟩ := hr_6.put hV
        obtain ⟨t0, t1, t2, t3, t4⟩ := hPV.cells
        have hbV : Below w.heap.size V6 V := hKV.below (by have := hb6.size; omega) (fun a e => by omega)
        rw [← hV]
        have hbf : Below w.heap.size w V := (hb3.trans (hb6.mono hb3.size)).trans hbV
        refine bodyPost_ret (v := .tuple #[.agg #[.int .i64 y.op, .int .i64 y.n, .string y.s, .string y.t, .slice qu ky.len cu], .bool true]) (by simp [results, Try.results38, go_sem, t0, t1, t2, t3, t4]) rfl ⟨?_, hbf⟩
        rw [HK.out]
        exact ⟨_, _, rfl, hyw, (HVk.out.bel ((hb6.mono (by omega)).trans hbV) (fun a ha => ha.2)).sub (fun a ha => ha.1)⟩
      · have HF2 : Hid ((done.app (.cons y ky .nil)).find s = none) := by show _ = _; rw [find_app HF.out, find_ne he]; rfl
        have e1 : (y.s.toList == s.toList) = false := by rw [beq_eq_false_iff_ne]; exact fun h => he (bytes_inj (by simpa only [ByteArray.toList_eq] using h))
        obtain ⟨V6, hV6⟩ : ∃ V6, V6 = w3.alloc (.cells #[.int .i64 y.op, .int .i64 y.n, .string y.s, .string y.t, .slice qu ky.len cu] 37) := ⟨_, rfl⟩
        have hb6 : Below w3.heap.size w3 V6 := by rw [hV6]; exact kqx
        clear he
        go_wp2_with fail
        rw [← hV6]
        go_roundw
        case rel => exact ⟨done.app (.cons y ky .nil), r, HDn, by rw [tp_app_len]; simp only [Tp.len]; go_num, HF2, hr_3.up hb6, hb3.trans (hb6.mono hb3.size), by have := hb6.size; omega⟩
        case measure => have := HKL.out; simp [intOf]; omega
end Go.Proofs.Ytjbjheeigdblkab
