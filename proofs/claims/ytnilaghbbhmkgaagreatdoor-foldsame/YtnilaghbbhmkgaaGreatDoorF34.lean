/- Package fold: hangsOnMore, with slices.ContainsFunc at nodes and at parts, by walks of their own texts. Package bag's questions: closures that answer of every list of nodes; slices.IndexFunc, ContainsFunc with any of them; the parts of which one holds. Package bag's All and Any: what they return, of every two lists of nodes. Package bag's Has: what it returns, of every two lists of nodes. -/
import Derived.Test.YtnilaghbbhmkgaaGreatDoorF32
import Derived.Test.YtnilaghbbhmkgaaGreatDoorF25
import Derived.Shelf.Abstract
import Derived.Test.YtnilaghbbhmkgaaGreatDoorF33
import Derived.Test.YtnilaghbbhmkgaaGreatDoorF22
namespace Go.Proofs.YtnilaghbbhmkgaaGreatDoor
open Go.RowKit
set_option linter.unusedVariables false
set_option maxRecDepth 100000

theorem nany_next {L : List Nd} {k : Nat} (h : k < L.length) (p : Nd → Bool) : (L.take (k + 1)).any p = ((L.take k).any p || p L[k]) := by
  rw [List.take_succ_eq_append_getElem h, List.any_append]; simp
theorem nany_hit {L : List Nd} {k : Nat} (h : k < L.length) {p : Nd → Bool} (hp : p L[k] = true) : L.any p = true :=
  List.any_eq_true.2 ⟨_, List.getElem_mem h, hp⟩
def isE (x : Nd) : Bool := x.op == 4
theorem indexEnt_any (L : List Nd) (p : Option Addr) (c : Nat) (w : World) (hv : NL w p L) (hl : L.length ≤ 1000) :
    Calls Tryz.prog 218 #[.slice p L.length c, .func (.func 196) #[] #[]] w fun e w' => (∃ n : Int, e = .returned (.int .i64 n) ∧ decide (0 ≤ n) = L.any isE) ∧ Below w.heap.size w w' := by
  go_enter Tryz.func218, Tryz.ntmps218
  go_wp2
  go_loopw [8] (fun i wr => ∃ k : Nat, k ≤ L.length ∧ i = .int .i64 k ∧ Hid ((L.take k).any isE = false) ∧ Below w.heap.size w wr) (fun i _ => L.length - (intOf i).toNat)
  case atStart => exact ⟨0, Nat.zero_le _, rfl, by simp [Hid], Below.refl _ _⟩
  case round =>
    obtain ⟨k, hk, rfl, HA, hb⟩ := hrel
    by_cases hlt : k < L.length
    · have i1 : (k : Int) < (L.length : Int) := by omega
      obtain ⟨b, off, rfl, hbw, c0, c1, c2, c3, _⟩ := (hv.up hb).at hlt
      have HN : Hid (_ = _) := nany_next hlt isE
      have HH : Hid (_ → _) := nany_hit hlt (p := isE)
      have H1 := isEnt_any L[k] wr
      rw [show (L[k].op == 4) = isE L[k] from rfl] at H1
      generalize L[k] = x at *
      cases ha : isE x
      · rw [ha] at H1
        have HA2 : Hid ((L.take (k + 1)).any isE = false) := by show _ = _; rw [HN.out, HA.out, ha]; rfl
        clear HN HH HA
        go_wp2_with fail
        refine H1.mono ?_
        rintro e w1 ⟨rfl, hb1⟩
        go_wp2_with fail
        go_roundw
        case rel => exact ⟨k + 1, by omega, by go_num, HA2, hb.trans (hb1.mono hb.size)⟩
        case measure => simp [intOf]; omega
      · rw [ha] at H1
        have HA2 : Hid (L.any isE = true) := HH.out ha
        clear HN HH HA
        go_wp2_with fail
        refine H1.mono ?_
        rintro e w1 ⟨rfl, hb1⟩
        go_wp2_with fail
        go_ret
        exact ⟨⟨_, rfl, by rw [HA2.out]; simp⟩, hb.trans (hb1.mono hb.size)⟩
    · have i1 : ¬ (k : Int) < (L.length : Int) := by omega
      have HA2 : Hid (L.any isE = false) := by
        have := HA.out
        rw [List.take_of_length_le (by omega)] at this
        exact this
      go_wp2
      go_ret
      exact ⟨⟨_, rfl, by rw [HA2.out]; decide⟩, hb⟩
theorem hasEnt_any (L : List Nd) (p : Option Addr) (c : Nat) (w : World) (hv : NL w p L) (hl : L.length ≤ 1000) :
    Calls Tryz.prog 195 #[.slice p L.length c, .func (.func 196) #[] #[]] w fun e w' => e = .returned (.bool (L.any isE)) ∧ Below w.heap.size w w' := by
  have H1 := indexEnt_any L p c w hv hl
  clear hv
  go_enter Tryz.func195, Tryz.ntmps195
  go_wp2_with fail
  refine H1.mono ?_
  rintro e w1 ⟨⟨n, rfl, hn⟩, hb⟩
  go_wp2
  go_ret
  exact ⟨by rw [← hn]; rfl, hb⟩
def hangB (x : Nd) (k : Fo) : Bool := !(vfault (x :: k.flat) == 0) || (x :: k.flat).any isE
theorem hangB_iff (x : Nd) (k : Fo) : hangB x k = true ↔ hangs x k := by
  unfold hangB hangs isE
  simp [List.any_eq_true]
def hangA : Fo → Bool
  | .nil => false
  | .cons x k r => hangB x k || hangA r
theorem hangA_iff : ∀ t : Fo, hangA t = true ↔ hangF t
  | .nil => by simp [hangA, hangF]
  | .cons x k r => by simp [hangA, hangF, hangB_iff, hangA_iff r]
theorem hangA_app : ∀ a b : Fo, hangA (a.app b) = (hangA a || hangA b)
  | .nil, b => by simp [Fo.app, hangA]
  | .cons x k r, b => by simp [Fo.app, hangA, hangA_app r b, Bool.or_assoc]
theorem ON.empty (w : World) (base : Nat) : ON w base (.slice none 0 0) [] := ⟨World.ownsRow_nil _ _ _ _, fun x hx => by cases hx⟩
set_option maxHeartbeats 2000000 in
theorem hangs_any (x : Nd) (k : Fo) (w : World) (v : Value) (S : Nat → Prop) (hv : KV w k v S) (hB : Bd w S) (hx : x.wf) (hl : k.flat.length + 1 ≤ 1000) :
    Calls Tryz.prog 153 #[partV x v] w fun e w' => e = .returned (.bool (hangB x k)) ∧ Below w.heap.size w w' := by
  obtain ⟨W, hW⟩ : ∃ W, W = w.alloc (.cells #[.int .i64 x.op, .int .i64 x.n, .string x.s, .string x.t, v] 63) := ⟨_, rfl⟩
  have hbW : Below w.heap.size w W := by rw [hW]; exact (Below.refl _ _).alloc (Nat.le_refl _) _
  have hP : PB W w.heap.size x v := by rw [hW]; exact PB.new w x v rfl
  have HO := onto_any (k.flat.length + 1) x k (Nat.lt_succ_self _) W v S W.heap.size (.slice none 0 0) [] (hv.up hbW) (fun a ha => Nat.lt_of_lt_of_le (hB a ha) hbW.size) hx (Nat.le_refl _) (ON.empty _ _) (by simp; omega)
  rw [List.nil_append] at HO
  obtain ⟨q, c, rfl, _⟩ := hv.slice
  obtain ⟨c0, c1, c2, c3, c4⟩ := hP.cells
  have hll : (x :: k.flat).length ≤ 1000 := by simp; omega
  have hne : x :: k.flat ≠ [] := by simp
  have HE : Hid (hangB x k = (!(vfault (x :: k.flat) == 0) || (x :: k.flat).any isE)) := rfl
  rw [HE.out]
  clear hv hl HE
  generalize x :: k.flat = L at *
  unfold partV at *
  by_cases hz : vfault L = 0
  · have HR : Hid ((!(vfault L == 0) || L.any isE) = L.any isE) := by show _ = _; rw [hz]; rfl
    rw [HR.out]
    clear HR
    go_enter Tryz.func153, Tryz.ntmps153
    go_wp2_with fail
    rw [← hW]
    refine HO.mono ?_
    rintro _ w1 ⟨⟨ev, rfl, hO⟩, hk⟩
    obtain ⟨g, cap, rfl, _, _, h3, h4, h5, _⟩ := hO.slice hne
    have hb1 := hk.bel
    have HC := vcheck_any L (some ⟨g, 0, none⟩) cap w1 h5 h3 h4
    rw [eV_nil hz] at HC
    clear c0 c1 c2 c3 c4 hP
    go_wp2_with fail
    refine HC.mono ?_
    rintro _ w2 ⟨rfl, hb2⟩
    have HH := hasEnt_any L (some ⟨g, 0, none⟩) cap w2 (h5.up hb2) hll
    go_wp2_with fail
    refine HH.mono ?_
    rintro _ w3 ⟨rfl, hb3⟩
    have hbe : Below w.heap.size w w3 := ((hbW.trans (hb1.mono hbW.size)).trans (hb2.mono (Nat.le_trans hbW.size hb1.size))).trans (hb3.mono (Nat.le_trans (Nat.le_trans hbW.size hb1.size) hb2.size))
    go_wp2
    go_ret
    exact ⟨rfl, hbe⟩
  · have HR : Hid ((!(vfault L == 0) || L.any isE) = true) := by show _ = _; simp [hz]
    rw [HR.out]
    clear HR
    go_enter Tryz.func153, Tryz.ntmps153
    go_wp2_with fail
    rw [← hW]
    refine HO.mono ?_
    rintro _ w1 ⟨⟨ev, rfl, hO⟩, hk⟩
    obtain ⟨g, cap, rfl, _, _, h3, h4, h5, _⟩ := hO.slice hne
    have hb1 := hk.bel
    have HC := vcheck_any L (some ⟨g, 0, none⟩) cap w1 h5 h3 h4
    rw [eV_not hz] at HC
    clear c0 c1 c2 c3 c4 hP
    generalize vfault L = n at *
    go_wp2_with fail
    refine HC.mono ?_
    rintro _ w2 ⟨rfl, hb2⟩
    have hbe : Below w.heap.size w w2 := (hbW.trans (hb1.mono hbW.size)).trans (hb2.mono (Nat.le_trans hbW.size hb1.size))
    go_wp2
    go_ret
    exact ⟨rfl, hbe⟩
theorem indexHang_any (k : Fo) (v : Value) (S : Nat → Prop) (w : World) (hv : KV w k v S) (hB : Bd w S) (hl : k.flat.length ≤ 999) :
    Calls Tryz.prog 194 #[v, .func (.func 153) #[] #[]] w fun e w' => (∃ n : Int, e = .returned (.int .i64 n) ∧ decide (0 ≤ n) = hangA k) ∧ Below w.heap.size w w' := by
  obtain ⟨q, c, rfl, hkc, hcm⟩ := hv.slice
  have HV : Hid (KV w k (.slice q k.len c) S) := hv
  have hkl : k.len ≤ k.flat.length := by
    have : ∀ t : Fo, t.len ≤ t.flat.length := fun t => by
      induction t with
      | nil => simp [Fo.len]
      | cons x k r _ ih => simp [Fo.len, Fo.flat]; omega
    exact this k
  have HL : Hid (k.flat.length ≤ 999) := hl
  have hk9 : k.len ≤ 999 := by omega
  clear hv hl hkl
  go_enter Tryz.func194, Tryz.ntmps194
  go_wp2
  go_loopw [8] (fun i wr => ∃ done todo : Fo, Hid (done.app todo = k) ∧ i = .int .i64 (done.len : Int) ∧ Hid (hangA done = false) ∧ Below w.heap.size w wr) (fun i _ => k.len - (intOf i).toNat)
  case atStart => exact ⟨.nil, k, rfl, rfl, rfl, Below.refl _ _⟩
  case round =>
    rename World => w3
    obtain ⟨done, todo, HD, rfl, HA, hb⟩ := hrel
    cases todo with
    | nil =>
      have hd : done = k := by have := HD.out; rw [app_nil] at this; exact this
      subst hd
      have i1 : ¬ (done.len : Int) < (done.len : Int) := by omega
      go_wp2
      go_ret
      exact ⟨⟨_, rfl, by rw [HA.out]; decide⟩, hb⟩
    | cons y ky r =>
      have hv3 : KV w3 k (.slice q k.len c) S := HV.out.up hb
      have hkl : k.len = done.len + (r.len + 1) := by rw [← HD.out, app_len]; rfl
      have hkf : k.flat.length = done.flat.length + (ky.flat.length + r.flat.length + 1) := by rw [← HD.out, app_flat]; simp [Fo.flat] <;> omega
      have i1 : (done.len : Int) < (k.len : Int) := by omega
      rw [← HD.out] at hv3
      obtain ⟨g, cap, u, Sk, hu, hP, hyw, hvk, hSk, hSg⟩ := hv3.at
      rw [HD.out, ← hkl] at hu
      cases hu
      obtain ⟨p0, p1, p2, p3, p4⟩ := hP.cells
      have H1 := hangs_any y ky w3 u Sk hvk (fun a ha => Nat.lt_of_lt_of_le (hB a (hSk a ha).1) hb.size) hyw (by have := HL.out; omega)
      unfold partV at H1
      have HX : Hid (hangA k = (hangA done || (hangB y ky || hangA r))) := by show _ = _; rw [← HD.out, hangA_app]; rfl
      have HKL : Hid (k.len = done.len + (r.len + 1)) := hkl
      clear hkl hkf
      cases ha : hangB y ky
      · rw [ha] at H1
        have HDn : Hid ((done.app (.cons y ky .nil)).app r = k) := by show _ = _; rw [app_assoc, ← HD.out]; rfl
        have HA2 : Hid (hangA (done.app (.cons y ky .nil)) = false) := by show _ = _; rw [hangA_app, HA.out]; simp [hangA, ha]
        clear HX HA hv3 hvk hSk hP
        go_wp2_with fail
        refine H1.mono ?_
        rintro e w1 ⟨rfl, hb1⟩
        go_wp2_with fail
        go_roundw
        case rel => exact ⟨done.app (.cons y ky .nil), r, HDn, by rw [app_len]; simp only [Fo.len]; go_num, HA2, hb.trans (hb1.mono hb.size)⟩
        case measure => have := HKL.out; simp [intOf]; omega
      · rw [ha] at H1
        have HA2 : Hid (hangA k = true) := by show _ = _; rw [HX.out, ha]; simp
        clear HX HA hv3 hvk hSk hP
        go_wp2_with fail
        refine H1.mono ?_
        rintro e w1 ⟨rfl, hb1⟩
        go_wp2_with fail
        go_ret
        exact ⟨⟨_, rfl, by rw [HA2.out]; simp⟩, hb.trans (hb1.mono hb.size)⟩
theorem hasHang_any (k : Fo) (v : Value) (S : Nat → Prop) (w : World) (hv : KV w k v S) (hB : Bd w S) (hl : k.flat.length ≤ 999) :
    Calls Tryz.prog 152 #[v, .func (.func 153) #[] #[]] w fun e w' => e = .returned (.bool (hangA k)) ∧ Below w.heap.size w w' := by
  have H1 := indexHang_any k v S w hv hB hl
  obtain ⟨q, c, rfl, hkc, hcm⟩ := hv.slice
  clear hv
  go_enter Tryz.func152, Tryz.ntmps152
  go_wp2_with fail
  refine H1.mono ?_
  rintro e w1 ⟨⟨n, rfl, hn⟩, hb⟩
  go_wp2
  go_ret
  exact ⟨by rw [← hn]; rfl, hb⟩
end Go.Proofs.YtnilaghbbhmkgaaGreatDoor
namespace Go.Proofs.YtnilaghbbhmkgaaGreatDoor
open Go.RowKit
set_option linter.unusedVariables false

/-- A function value that answers p of every list of nodes, in w and in whatever keeps what lies in w. -/
def Asks (w : World) (fv : Value) (p : List Nd → Bool) : Prop :=
  ∃ g lb, fv = .func (.func g) #[] lb ∧ (∀ args w, (callFunc g args).run Tryz.prog w = .ok (.enter g args) w) ∧
    ∀ (W : World) (q : Option Addr) (v : List Nd) (c : Nat), Below w.heap.size w W → NL W q v → v.length ≤ c → c ≤ maxLen →
      Calls Tryz.prog g (#[.slice q v.length c] ++ lb) W fun e w' => e = .returned (.bool (p v)) ∧ Below W.heap.size W w'
theorem Asks.later {w W : World} {fv : Value} {p : List Nd → Bool} (h : Asks w fv p) (hb : Below w.heap.size w W) : Asks W fv p := by
  obtain ⟨g, lb, h1, h2, h3⟩ := h
  exact ⟨g, lb, h1, h2, fun W' q v c hb' => h3 W' q v c (hb.trans (hb'.mono hb.size))⟩

theorem any_next {vs : List (List Nd)} {k : Nat} (h : k < vs.length) (p : List Nd → Bool) : (vs.take (k + 1)).any p = ((vs.take k).any p || p vs[k]) := by
  rw [List.take_succ_eq_append_getElem h, List.any_append]; simp
theorem any_hit {vs : List (List Nd)} {k : Nat} (h : k < vs.length) {p : List Nd → Bool} (hp : p vs[k] = true) : vs.any p = true :=
  List.any_eq_true.2 ⟨_, List.getElem_mem h, hp⟩

theorem indexFunc_any (vs : List (List Nd)) (p : Option Addr) (c : Nat) (fv : Value) (ask : List Nd → Bool) (w : World) (hv : LL w p vs) (hl : vs.length ≤ maxLen) (hf : Asks w fv ask) :
    Calls Tryz.prog 216 #[.slice p vs.length c, fv] w fun e w' => (∃ n : Int, e = .returned (.int .i64 n) ∧ decide (0 ≤ n) = vs.any ask) ∧ Below w.heap.size w w' := by
  unfold maxLen at hl
  obtain ⟨g, lb, rfl, eg, hp⟩ := hf
  have HP : Hid (∀ (W : World) (q : Option Addr) (v : List Nd) (c : Nat), Below w.heap.size w W → NL W q v → v.length ≤ c → c ≤ maxLen → Calls Tryz.prog g (#[.slice q v.length c] ++ lb) W fun e w' => e = .returned (.bool (ask v)) ∧ Below W.heap.size W w') := hp
  clear hp
  go_enter Tryz.func216, Tryz.ntmps216
  go_wp2
  go_loopw [8] (fun i wr => ∃ k : Nat, k ≤ vs.length ∧ i = .int .i64 k ∧ Hid ((vs.take k).any ask = false) ∧ Below w.heap.size w wr) (fun i _ => vs.length - (intOf i).toNat)
  case atStart => exact ⟨0, Nat.zero_le _, rfl, by simp [Hid], Below.refl _ _⟩
  case round =>
    obtain ⟨k, hk, rfl, HA, hb⟩ := hrel
    by_cases hlt : k < vs.length
    · have i1 : (k : Int) < (vs.length : Int) := by omega
      obtain ⟨b, off, q, c', rfl, hbw, hcell, hnl, h1, h2⟩ := (hv.up hb).at hlt
      have HN : Hid (_ = _) := any_next hlt ask
      have HH : Hid (_ → _) := any_hit hlt (p := ask)
      have H1 := HP.out wr q _ c' hb hnl h1 h2
      generalize vs[k] = v at *
      cases ha : ask v
      · rw [ha] at H1
        have HA2 : Hid ((vs.take (k + 1)).any ask = false) := by show _ = _; rw [HN.out, HA.out, ha]; rfl
        clear HN HH HA
        go_wp2_with (go_at_fn g; refine H1.mono ?_; rintro e w1 ⟨rfl, hb1⟩)
        go_roundw
        case rel => exact ⟨k + 1, by omega, by go_num, HA2, hb.trans (hb1.mono hb.size)⟩
        case measure => simp [intOf]; omega
      · rw [ha] at H1
        have HA2 : Hid (vs.any ask = true) := HH.out ha
        clear HN HH HA
        go_wp2_with (go_at_fn g; refine H1.mono ?_; rintro e w1 ⟨rfl, hb1⟩)
        go_ret
        exact ⟨⟨_, rfl, by rw [HA2.out]; simp⟩, hb.trans (hb1.mono hb.size)⟩
    · have i1 : ¬ (k : Int) < (vs.length : Int) := by omega
      have HA2 : Hid (vs.any ask = false) := by
        have := HA.out
        rw [List.take_of_length_le (by omega)] at this
        exact this
      go_wp2
      go_ret
      exact ⟨⟨_, rfl, by rw [HA2.out]; decide⟩, hb⟩

theorem containsFunc_any (vs : List (List Nd)) (p : Option Addr) (c : Nat) (fv : Value) (ask : List Nd → Bool) (w : World) (hv : LL w p vs) (hl : vs.length ≤ maxLen) (hf : Asks w fv ask) :
    Calls Tryz.prog 190 #[.slice p vs.length c, fv] w fun e w' => e = .returned (.bool (vs.any ask)) ∧ Below w.heap.size w w' := by
  have H1 := indexFunc_any vs p c fv ask w hv hl hf
  clear hf hv
  go_enter Tryz.func190, Tryz.ntmps190
  go_wp2_with fail
  refine H1.mono ?_
  rintro e w1 ⟨⟨n, rfl, hn⟩, hb⟩
  go_wp2
  go_ret
  exact ⟨by rw [← hn]; rfl, hb⟩

/-- The question whether a list is this one. -/
theorem inner_asks (B : Nat) (q : Option Addr) (v : List Nd) (c : Nat) (w : World) (hB : B < w.heap.size) (hc : w.cell? ⟨B, 0, none⟩ = some (.slice q v.length c)) (hv : NL w q v) (hl : v.length ≤ maxLen) :
    Asks w (.func (.func 215) #[] #[.pointer (some ⟨B, 0, none⟩)]) (fun a => decide (lsC a v = 0)) := by
  refine ⟨_, _, rfl, enters_of Tryz.func215 (by kernel_rfl) rfl, fun W p a c1 hb ha h1 h2 => ?_⟩
  have H1 := equalNodes_any a v p q c1 c W ha (hv.up hb) (Nat.le_trans h1 h2) hl
  have hc' := (hb.cell (p := ⟨B, 0, none⟩) hB).trans hc
  go_enter Tryz.func215, Tryz.ntmps215
  go_wp2_with fail
  refine H1.mono ?_
  rintro e w1 ⟨rfl, n, rfl⟩
  go_wp2
  go_ret
  exact ⟨rfl, ⟨rfl, rfl, rfl, Nat.le_refl _, fun _ _ => rfl⟩⟩

/-- The question whether a list is one of these. -/
theorem had_asks (B : Nat) (p : Option Addr) (vs : List (List Nd)) (c : Nat) (w : World) (hB : B < w.heap.size) (hc : w.cell? ⟨B, 0, none⟩ = some (.slice p vs.length c)) (hv : LL w p vs) (hl : vs.length ≤ maxLen) :
    Asks w (.func (.func 214) #[] #[.pointer (some ⟨B, 0, none⟩)]) (inB vs) := by
  refine ⟨_, _, rfl, enters_of Tryz.func214 (by kernel_rfl) rfl, fun W q v c1 hb hn h1 h2 => ?_⟩
  have hc' := (hb.cell (p := ⟨B, 0, none⟩) hB).trans hc
  have hB' : B < W.heap.size := Nat.lt_of_lt_of_le hB hb.size
  have hup : Below W.heap.size W (W.alloc (.cells #[.slice q v.length c1] 25)) := (Below.refl _ _).alloc (Nat.le_refl _) _
  have hc2 := (hup.cell (p := ⟨B, 0, none⟩) hB').trans hc'
  have H1 := containsFunc_any vs p c _ _ (W.alloc (.cells #[.slice q v.length c1] 25)) ((hv.up hb).up hup) hl
    (inner_asks W.heap.size q v c1 (W.alloc (.cells #[.slice q v.length c1] 25)) (by simp) (by simp) (hn.up hup) (Nat.le_trans h1 h2))
  clear hc hv hn
  go_enter Tryz.func214, Tryz.ntmps214
  go_wp2_with fail
  refine H1.mono ?_
  rintro e w1 ⟨rfl, hb1⟩
  go_wp2
  go_ret
  exact ⟨rfl, hup.trans (hb1.mono hup.size)⟩

theorem hadBy_any (p : Option Addr) (vs : List (List Nd)) (c : Nat) (w : World) (hv : LL w p vs) (hl : vs.length ≤ maxLen) :
    Calls Tryz.prog 188 #[.slice p vs.length c] w fun e w' => (∃ fv, e = .returned fv ∧ Asks w' fv (inB vs)) ∧ Below w.heap.size w w' := by
  have hup : Below w.heap.size w (w.alloc (.cells #[.slice p vs.length c] 86)) := (Below.refl _ _).alloc (Nat.le_refl _) _
  have HA := had_asks w.heap.size p vs c (w.alloc (.cells #[.slice p vs.length c] 86)) (by simp) (by simp) (hv.up hup) hl
  have hmf : ∀ (fn : Fn) (first cap : Array Value) (w : World), (Instr.makeFunc fn first cap).run Tryz.prog w = .ok (.func fn first cap) w := fun _ _ _ _ => rfl
  go_enter Tryz.func188, Tryz.ntmps188
  go_wp2
  go_ret
  exact ⟨⟨_, rfl, HA⟩, hup⟩

theorem not_asks (B : Nat) (fv : Value) (ask : List Nd → Bool) (w : World) (hB : B < w.heap.size) (hc : w.cell? ⟨B, 0, none⟩ = some fv) (hf : Asks w fv ask) :
    Asks w (.func (.func 217) #[] #[.pointer (some ⟨B, 0, none⟩)]) (fun v => !ask v) := by
  obtain ⟨g, lb, rfl, eg, hp⟩ := hf
  refine ⟨_, _, rfl, enters_of Tryz.func217 (by kernel_rfl) rfl, fun W q v c1 hb hn h1 h2 => ?_⟩
  have hc' := (hb.cell (p := ⟨B, 0, none⟩) hB).trans hc
  have H1 := hp W q v c1 hb hn h1 h2
  clear hp hc
  go_enter Tryz.func217, Tryz.ntmps217
  go_wp2_with (go_at_fn g; refine H1.mono ?_; rintro e w1 ⟨rfl, hb1⟩)
  go_ret
  exact ⟨rfl, hb1⟩

theorem not_any (fv : Value) (ask : List Nd → Bool) (w : World) (hf : Asks w fv ask) :
    Calls Tryz.prog 191 #[fv] w fun e w' => (∃ fv', e = .returned fv' ∧ Asks w' fv' (fun v => !ask v)) ∧ Below w.heap.size w w' := by
  obtain ⟨g, lb, hfv, _⟩ := id hf
  have hup : Below w.heap.size w (w.alloc (.cells #[fv] 49)) := (Below.refl _ _).alloc (Nat.le_refl _) _
  have HA := not_asks w.heap.size fv ask (w.alloc (.cells #[fv] 49)) (by simp) (by simp) (hf.later hup)
  subst hfv
  have hmf : ∀ (fn : Fn) (first cap : Array Value) (w : World), (Instr.makeFunc fn first cap).run Tryz.prog w = .ok (.func fn first cap) w := fun _ _ _ _ => rfl
  go_enter Tryz.func191, Tryz.ntmps191
  go_wp2
  go_ret
  exact ⟨⟨_, rfl, HA⟩, hup⟩
end Go.Proofs.YtnilaghbbhmkgaaGreatDoor
namespace Go.Proofs.YtnilaghbbhmkgaaGreatDoor
open Go.RowKit
set_option linter.unusedVariables false

theorem any_not (ls lt : List (List Nd)) : (lt.any fun v => !inB ls v) = !allB ls lt := by
  unfold allB
  induction lt with
  | nil => rfl
  | cons a l ih => simp only [List.any_cons, List.all_cons, ih, Bool.not_and]

theorem all_bad (s t : List Nd) (p q : Option Addr) (c d : Nat) (w : World) (hs : NL w p s) (hc : s.length ≤ c) (hcm : c ≤ maxLen) (ht : NL w q t) (hd : t.length ≤ d) (hdm : d ≤ maxLen) (h : sfault s t ≠ 0) :
    Calls Tryz.prog 146 #[.slice p s.length c, .slice q t.length d] w fun e w' => e = .returned (.tuple #[.bool false, eV (sfault s t)]) ∧ Below w.heap.size w w' := by
  have H1 := partsOfBoth_bad s t p q c d w hs hc hcm ht hd hdm h
  rw [eV_not h] at H1 ⊢
  clear hs ht
  go_enter Tryz.func146, Tryz.ntmps146
  go_wp2_with fail
  refine H1.mono ?_
  rintro e w1 ⟨rfl, hb1⟩
  go_wp2
  go_ret2
  exact ⟨rfl, hb1⟩
theorem all_ok (l m : List (List Nd)) (p q : Option Addr) (c d : Nat) (w : World) (hs : NL w p (setN l)) (hc : (setN l).length ≤ c) (hcm : c ≤ maxLen) (ht : NL w q (setN m)) (hd : (setN m).length ≤ d) (hdm : d ≤ maxLen) (hl : IsSet l) (hm : IsSet m) :
    Calls Tryz.prog 146 #[.slice p (setN l).length c, .slice q (setN m).length d] w fun e w' => e = .returned (.tuple #[.bool (allB l m), .nilIface]) ∧ Below w.heap.size w w' := by
  have H1 := partsOfBoth_ok l m p q c d w hs hc hcm ht hd hdm hl hm
  have L1 : l.length ≤ maxLen := Nat.le_trans hl.len (by decide)
  have L2 : m.length ≤ maxLen := Nat.le_trans hm.len (by decide)
  have HE : Hid (_ = _) := any_not l m
  clear hs ht
  go_enter Tryz.func146, Tryz.ntmps146
  go_wp2_with fail
  refine H1.mono ?_
  rintro e w1 ⟨⟨q1, c1, q2, c2, rfl, k1, k2, k3, k4, k5, k6⟩, hb1⟩
  have H2 := hadBy_any q1 l c1 w1 k1 L1
  clear H1
  go_wp2_with fail
  refine H2.mono ?_
  rintro e w2 ⟨⟨fv, rfl, hf⟩, hb2⟩
  have H3 := not_any fv _ w2 hf
  have k4' := k4.up hb2
  clear H2 k4
  go_wp2_with fail
  refine H3.mono ?_
  rintro e w3 ⟨⟨fv', rfl, hf'⟩, hb3⟩
  have H4 := containsFunc_any m q2 c2 fv' _ w3 (k4'.up hb3) L2 hf'
  rw [HE.out] at H4
  clear H3
  go_wp2_with fail
  refine H4.mono ?_
  rintro e w4 ⟨rfl, hb4⟩
  go_wp2
  go_ret2
  have hb5 := hb1.trans (hb2.mono hb1.size)
  have hb6 := hb5.trans (hb3.mono hb5.size)
  exact ⟨by simp, hb6.trans (hb4.mono hb6.size)⟩

theorem any_bad (s t : List Nd) (p q : Option Addr) (c d : Nat) (w : World) (hs : NL w p s) (hc : s.length ≤ c) (hcm : c ≤ maxLen) (ht : NL w q t) (hd : t.length ≤ d) (hdm : d ≤ maxLen) (h : sfault s t ≠ 0) :
    Calls Tryz.prog 147 #[.slice p s.length c, .slice q t.length d] w fun e w' => e = .returned (.tuple #[.bool false, eV (sfault s t)]) ∧ Below w.heap.size w w' := by
  have H1 := partsOfBoth_bad s t p q c d w hs hc hcm ht hd hdm h
  rw [eV_not h] at H1 ⊢
  clear hs ht
  go_enter Tryz.func147, Tryz.ntmps147
  go_wp2_with fail
  refine H1.mono ?_
  rintro e w1 ⟨rfl, hb1⟩
  go_wp2
  go_ret2
  exact ⟨rfl, hb1⟩
theorem any_ok (l m : List (List Nd)) (p q : Option Addr) (c d : Nat) (w : World) (hs : NL w p (setN l)) (hc : (setN l).length ≤ c) (hcm : c ≤ maxLen) (ht : NL w q (setN m)) (hd : (setN m).length ≤ d) (hdm : d ≤ maxLen) (hl : IsSet l) (hm : IsSet m) :
    Calls Tryz.prog 147 #[.slice p (setN l).length c, .slice q (setN m).length d] w fun e w' => e = .returned (.tuple #[.bool (anyB l m), .nilIface]) ∧ Below w.heap.size w w' := by
  have H1 := partsOfBoth_ok l m p q c d w hs hc hcm ht hd hdm hl hm
  have L1 : l.length ≤ maxLen := Nat.le_trans hl.len (by decide)
  have L2 : m.length ≤ maxLen := Nat.le_trans hm.len (by decide)
  clear hs ht
  go_enter Tryz.func147, Tryz.ntmps147
  go_wp2_with fail
  refine H1.mono ?_
  rintro e w1 ⟨⟨q1, c1, q2, c2, rfl, k1, k2, k3, k4, k5, k6⟩, hb1⟩
  have H2 := hadBy_any q1 l c1 w1 k1 L1
  clear H1
  go_wp2_with fail
  refine H2.mono ?_
  rintro e w2 ⟨⟨fv, rfl, hf⟩, hb2⟩
  have H4 := containsFunc_any m q2 c2 fv _ w2 (k4.up hb2) L2 hf
  clear H2
  go_wp2_with fail
  refine H4.mono ?_
  rintro e w4 ⟨rfl, hb4⟩
  go_wp2
  go_ret2
  have hb5 := hb1.trans (hb2.mono hb1.size)
  exact ⟨rfl, hb5.trans (hb4.mono hb5.size)⟩
end Go.Proofs.YtnilaghbbhmkgaaGreatDoor
namespace Go.Proofs.YtnilaghbbhmkgaaGreatDoor
open Go.RowKit
set_option linter.unusedVariables false

/-- What Has has wrong, by number. -/
def hfault (s v : List Nd) : Int := if cfault s v = 0 then (if isSetV s = true then 0 else 2) else cfault s v

theorem has_bad (s t : List Nd) (p q : Option Addr) (c d : Nat) (w : World) (hs : NL w p s) (hc : s.length ≤ c) (hcm : c ≤ maxLen) (ht : NL w q t) (hd : t.length ≤ d) (hdm : d ≤ maxLen) (h : hfault s t ≠ 0) :
    Calls Tryz.prog 145 #[.slice p s.length c, .slice q t.length d] w fun e w' => e = .returned (.tuple #[.bool false, eV (hfault s t)]) ∧ Below w.heap.size w w' := by
  have H1 := checkBoth_any s t p q c d w hs hc hcm ht hd hdm
  by_cases hz : cfault s t = 0
  · rw [eV_nil hz] at H1
    obtain ⟨h1, h2, _⟩ := sfault_v hz
    have h5 : isSetV s = false := by
      cases e : isSetV s with
      | false => rfl
      | true => unfold hfault at h; rw [if_pos hz, if_pos e] at h; exact absurd rfl h
    have h4 : hfault s t = 2 := by unfold hfault; rw [if_pos hz, h5]; simp
    have H2 := fun w' (hb : Below w.heap.size w w') => partsOf_type s p c w' (hs.up hb) hc hcm h1 h5
    rw [h4]
    rw [eV_not (by decide : (2 : Int) ≠ 0)] at H2 ⊢
    clear h4 h hz
    go_enter Tryz.func145, Tryz.ntmps145
    go_wp2_with fail
    refine H1.mono ?_
    rintro e w1 ⟨rfl, hb1⟩
    go_wp2_with fail
    refine (H2 w1 hb1).mono ?_
    rintro e w2 ⟨rfl, rfl⟩
    go_wp2
    go_ret2
    exact ⟨rfl, hb1⟩
  · have h4 : hfault s t = cfault s t := by unfold hfault; rw [if_neg hz]
    rw [h4]
    rw [eV_not hz] at H1 ⊢
    go_enter Tryz.func145, Tryz.ntmps145
    go_wp2_with fail
    refine H1.mono ?_
    rintro e w1 ⟨rfl, hb1⟩
    go_wp2
    go_ret2
    exact ⟨rfl, hb1⟩

theorem has_ok (l : List (List Nd)) (t : List Nd) (p q : Option Addr) (c d : Nat) (w : World) (hs : NL w p (setN l)) (hc : (setN l).length ≤ c) (hcm : c ≤ maxLen) (ht : NL w q t) (hd : t.length ≤ d) (hdm : d ≤ maxLen) (hl : IsSet l) (hv : vfault t = 0) :
    Calls Tryz.prog 145 #[.slice p (setN l).length c, .slice q t.length d] w fun e w' => e = .returned (.tuple #[.bool (inB l t), .nilIface]) ∧ Below w.heap.size w w' := by
  have H1 := checkBoth_any (setN l) t p q c d w hs hc hcm ht hd hdm
  have hz : cfault (setN l) t = 0 := by unfold cfault; rw [if_pos hl.value]; exact hv
  rw [eV_nil hz] at H1
  have H2 := fun w' (hb : Below w.heap.size w w') => partsOf_set l p c w' (hs.up hb) hc hcm hl
  have L1 : l.length ≤ maxLen := Nat.le_trans hl.len (by decide)
  clear hz hs hl
  go_enter Tryz.func145, Tryz.ntmps145
  go_wp2_with fail
  refine H1.mono ?_
  rintro e w1 ⟨rfl, hb1⟩
  go_wp2_with fail
  refine (H2 w1 hb1).mono ?_
  rintro e w2 ⟨⟨q2, c2, rfl, k1, k2, k3, _⟩, hb2⟩
  have H3 := hadBy_any q2 l c2 w2 k1 L1
  have hb3 := hb1.trans (hb2.mono hb1.size)
  have ht2 := ht.up hb3
  clear H1 H2 ht
  go_wp2_with fail
  refine H3.mono ?_
  rintro e w3 ⟨⟨fv, rfl, hf⟩, hb4⟩
  obtain ⟨g, lb, rfl, eg, hp⟩ := hf
  have H4 := hp w3 q t d (Below.refl _ _) (ht2.up hb4) hd hdm
  have hb5 := hb3.trans (hb4.mono hb3.size)
  clear H3 hp
  go_wp2_with (go_at_fn g; refine H4.mono ?_; rintro e w4 ⟨rfl, hb6⟩)
  go_ret2
  exact ⟨rfl, hb5.trans (hb6.mono hb5.size)⟩
end Go.Proofs.YtnilaghbbhmkgaaGreatDoor
