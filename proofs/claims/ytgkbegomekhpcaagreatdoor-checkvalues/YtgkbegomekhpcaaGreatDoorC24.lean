/- Package check: within, typeFrom (values, and sums), by walks of their own texts. Package check: typeFrom at a field, by a walk of its own text. A row of lists of nodes of the call's own, which lie anywhere beside it; the types of rows one behind the other. Package check: typeOf where nothing is known, one step: by a walk of its own text. Package check: typeOf of a value: by the steps, from the inside. Package check: actOf, by a walk of its own text. Package check: Type, where it comes to no type: by a walk of its own text. Package check: Type, where it comes to a type: by a walk of its own text. A value has as many parts as it should; typeOf of a sum of two numbers. The fact that the statements of chapter 14 share: a sum of numbers is a number. -/
import Derived.Test.YtgkbegomekhpcaaGreatDoorC22
import Derived.Test.YtgkbegomekhpcaaGreatDoorC23
import Derived.Deep.RegionHeld
import Derived.Test.YtgkbegomekhpcaaGreatDoorC16
import Derived.Test.YtgkbegomekhpcaaGreatDoorC15
import Derived.Test.YtgkbegomekhpcaaGreatDoorC17
import Derived.Test.YtgkbegomekhpcaaGreatDoorC18
import Derived.Test.YtgkbegomekhpcaaGreatDoorC11
import Derived.KernelRfl
namespace Go.Proofs.YtgkbegomekhpcaaGreatDoor
open Go.RowKit
set_option linter.unusedVariables false
set_option linter.unusedSimpArgs false
set_option maxRecDepth 100000

/-- Nothing more is known within what is neither And nor If. -/
theorem withinC_val (x : Nd) (h : x.op ≠ 11 ∧ x.op ≠ 13) (v u : Value) (kp : Option Addr) (i : Int) (w : World) : Calls Tryz.prog 63 #[.pointer kp, partC x v u, .int .i64 i] w fun e w' => e = .returned (.pointer kp) ∧ Below w.heap.size w w' := by
  obtain ⟨xo, xn, xs, xt⟩ := x
  unfold partC
  dsimp only at h ⊢
  have e1 : (xo == 11) = false := by rw [beq_eq_false_iff_ne]; exact h.1
  have e2 : (xo == 13) = false := by rw [beq_eq_false_iff_ne]; exact h.2
  clear h
  by_cases hi : i = 1
  · subst hi
    go_enter Tryz.func63, Tryz.ntmps63
    go_wp2
    go_ret
    exact ⟨rfl, kqx⟩
  · have e3 : (i == 1) = false := by rw [beq_eq_false_iff_ne]; exact hi
    clear hi
    go_enter Tryz.func63, Tryz.ntmps63
    go_wp2
    go_ret
    exact ⟨rfl, kqx⟩
theorem TRet.ofF {w0 w v w' : World} {t : Tp} {e : Ending} (h : KRetF v w' t.flat e) (hw : w.heap.size ≤ v.heap.size) : ∃ q c, e = .returned (.slice q t.flat.length c) ∧ TRet w0 w w' (.ok t) (.returned (.tuple #[.slice q t.flat.length c, .nilIface])) := by
  obtain ⟨q, c, h1, h2, h3⟩ := h
  exact ⟨q, c, h1, q, c, rfl, h2, fun b o e => .inr (Nat.le_trans hw (h3 b o e))⟩
/-- What typeFrom tells of a node whose parts have these types. -/
def FromC (x : Nd) (ks : Tp) (r : Except Int Tp) : Prop := ∀ (qv qn : Option Addr) (nv cv nn cn : Nat) (kp : Option Addr) (pk px : Option Addr) (nk ck nx cx : Nat) (a1 a2 : ByteArray) (pt : Option Addr) (ct : Nat) (w0 w : World), LL w pt (rows ks) → x.wf →
  Calls Tryz.prog 64 #[.agg #[.slice pk nk ck, .string a1, .string a2, .slice px nx cx], partC x (.slice qv nv cv) (.slice qn nn cn), .pointer kp, .slice pt ks.len ct] w fun e w' => TRet w0 w w' r e ∧ Below w.heap.size w w'
set_option maxHeartbeats 2000000 in
theorem fromC_leaf (x : Nd) (ks : Tp) (o : Int) (h : (x.op = 1 ∧ o = 41) ∨ (x.op = 2 ∧ o = 42) ∨ (x.op = 17 ∧ o = 42) ∨ (x.op = 3 ∧ o = 43)) : FromC x ks (.ok (leafT o)) := by
  intro qv qn nv cv nn cn kp pk px nk ck nx cx a1 a2 pt ct w0 w _ _
  obtain ⟨xo, xn, xs, xt⟩ := x
  unfold partC
  dsimp only at h ⊢
  have HL := fun W (hW : Below w.heap.size w W) => leafC_any o (by omega) W
  have HT : Hid (∀ v w' e, w.heap.size ≤ v.heap.size → KRetF v w' [lfN o] e → ∃ q c, e = .returned (.slice q 1 c) ∧ TRet w0 w w' (.ok (leafT o)) (.returned (.tuple #[.slice q 1 c, .nilIface]))) := fun v w' e hw hk => TRet.ofF (t := leafT o) hk hw
  rcases h with ⟨rfl, rfl⟩ | ⟨rfl, rfl⟩ | ⟨rfl, rfl⟩ | ⟨rfl, rfl⟩
  all_goals
    go_enter Tryz.func64, Tryz.ntmps64
    go_wp2_with fail
    refine (HL _ kqx).mono ?_
    rintro e w1 ⟨hk, hb1⟩
    obtain ⟨q, c, rfl, hr⟩ := HT.out _ _ _ (by simp; omega) hk
    have HR : Hid (TRet w0 w w1 _ _) := hr
    clear hk hr
    go_wp2
    exact bodyPost_ret (v := .tuple #[.slice q 1 c, .nilIface]) (by simp [results, Tryz.results64, go_sem]) rfl ⟨HR.out, kqt kqx hb1⟩
theorem TRet.mono {w0 w v w' : World} {r : Except Int Tp} {e : Ending} (h : TRet w0 v w' r e) (hw : w.heap.size ≤ v.heap.size) : TRet w0 w w' r e := by
  cases r with
  | error n => exact h
  | ok t =>
    obtain ⟨q, c, h1, h2, h3⟩ := h
    exact ⟨q, c, h1, h2, fun b o e => (h3 b o e).imp id (Nat.le_trans hw)⟩
/-- What is told is a list, or an error. -/
theorem TRet.shape {w0 w w' : World} {r : Except Int Tp} {e : Ending} (h : TRet w0 w w' r e) : ∃ q n c ev, e = .returned (.tuple #[.slice q n c, ev]) ∧ ev.oneCell' = true := by
  cases r with
  | error n => exact ⟨none, 0, 0, _, h, rfl⟩
  | ok t =>
    obtain ⟨q, c, h1, _⟩ := h
    exact ⟨q, _, c, _, h1, rfl⟩
set_option maxHeartbeats 2000000 in
theorem fromC_ent (x : Nd) (ks : Tp) (h : x.op = 4) : FromC x ks (.ok (entT x.s)) := by
  intro qv qn nv cv nn cn kp pk px nk ck nx cx a1 a2 pt ct w0 w _ hx
  obtain ⟨xo, xn, xs, xt⟩ := x
  unfold partC
  dsimp only at h ⊢
  subst h
  have HL := fun W (hW : Below w.heap.size w W) => entOfC_any xs hx.1 W
  have HT : Hid (∀ v w' e, w.heap.size ≤ v.heap.size → KRetF v w' [⟨44, 0, xs, e0⟩] e → ∃ q c, e = .returned (.slice q 1 c) ∧ TRet w0 w w' (.ok (entT xs)) (.returned (.tuple #[.slice q 1 c, .nilIface]))) := fun v w' e hw hk => TRet.ofF (t := entT xs) hk hw
  clear hx
  go_enter Tryz.func64, Tryz.ntmps64
  go_wp2_with fail
  refine (HL _ kqx).mono ?_
  rintro e w1 ⟨hk, hb1⟩
  obtain ⟨q, c, rfl, hr⟩ := HT.out _ _ _ (by simp; omega) hk
  have HR : Hid (TRet w0 w w1 _ _) := hr
  clear hk hr
  go_wp2
  exact bodyPost_ret (v := .tuple #[.slice q 1 c, .nilIface]) (by simp [results, Tryz.results64, go_sem]) rfl ⟨HR.out, kqt kqx hb1⟩
set_option maxHeartbeats 2000000 in
theorem fromC_set (x : Nd) (ks : Tp) (h : x.op = 5) (hk : isTy none ks = true) (h2 : ∀ l ∈ rows ks, l.length ≤ 200) (hn : ks.len ≤ 1000) : FromC x ks (setT ks) := by
  intro qv qn nv cv nn cn kp pk px nk ck nx cx a1 a2 pt ct w0 w hv hx
  obtain ⟨xo, xn, xs, xt⟩ := x
  unfold partC
  dsimp only at h ⊢
  subst h
  have HL := fun W (hW : Below w.heap.size w W) => setOfC_any ks hk h2 pt ct w0 W (hv.up hW) hn
  clear hx hk h2 hv
  generalize setT ks = r at *
  go_enter Tryz.func64, Tryz.ntmps64
  go_wp2_with fail
  refine (HL _ kqx).mono ?_
  rintro e w1 ⟨hk, hb1⟩
  have hk2 := TRet.mono (w := w) hk (by simp; omega)
  obtain ⟨q, n, c, ev, rfl, _⟩ := hk.shape
  have HR : Hid (TRet w0 w w1 r (.returned (.tuple #[.slice q n c, ev]))) := hk2
  clear hk hk2
  go_wp2
  exact bodyPost_ret (v := .tuple #[.slice q n c, ev]) (by simp [results, Tryz.results64, go_sem]) rfl ⟨HR.out, kqt kqx hb1⟩
theorem rows_ne : ∀ (t : Tp), ∀ l ∈ rows t, l ≠ []
  | .nil, l, h => by simp [rows] at h
  | .cons f k r, l, h => by
    simp only [rows, List.mem_cons] at h
    rcases h with rfl | h
    · simp
    · exact rows_ne r l h
set_option maxHeartbeats 2000000 in
theorem fromC_rec (x : Nd) (ks : Tp) (h : x.op = 6) (hl : ks.flat.length ≤ 100000) (hn : ks.len ≤ 1000) : FromC x ks (fitT (.cons ⟨46, x.n, e0, e0⟩ ks .nil)) := by
  intro qv qn nv cv nn cn kp pk px nk ck nx cx a1 a2 pt ct w0 w hv hx
  obtain ⟨xo, xn, xs, xt⟩ := x
  unfold partC
  dsimp only at h ⊢
  subst h
  have hw6 : (⟨46, xn, e0, e0⟩ : Nd).wf := ⟨by show e0.size ≤ maxLen; unfold e0 maxLen; exact Nat.zero_le _, by show e0.size ≤ maxLen; unfold e0 maxLen; exact Nat.zero_le _, hx.2.2⟩
  have HL := fun W (hW : Below w.heap.size w W) => fitC_any ⟨46, xn, e0, e0⟩ hw6 (rows ks) (rows_ne ks) pt ct W (hv.up hW) (by rw [catL_rows]; exact hl) (by rw [rows_length]; omega)
  have HT : Hid (∀ v w' e, w.heap.size ≤ v.heap.size → FitRetF v w' (⟨46, xn, e0, e0⟩ :: catL (rows ks)) e → TRet w0 w w' (fitT (.cons ⟨46, xn, e0, e0⟩ ks .nil)) e) := fun v w' e hw hk => fit_ret (by rw [show (Tp.cons ⟨46, xn, e0, e0⟩ ks .nil).flat = ⟨46, xn, e0, e0⟩ :: catL (rows ks) by simp [Tp.flat, catL_rows]]; exact hk) hw
  simp only [rows_length] at HL
  clear hx hv hl hw6
  unfold e0 at HL
  generalize fitT (.cons ⟨46, xn, e0, e0⟩ ks .nil) = r at *
  go_enter Tryz.func64, Tryz.ntmps64
  go_wp2_with fail
  refine (HL _ kqx).mono ?_
  rintro e w1 ⟨hk, hb1⟩
  have hk2 := HT.out _ _ _ (by simp; omega) hk
  obtain ⟨q, n, c, ev, rfl, _⟩ := hk2.shape
  have HR : Hid (TRet w0 w w1 r (.returned (.tuple #[.slice q n c, ev]))) := hk2
  clear hk hk2
  go_wp2
  exact bodyPost_ret (v := .tuple #[.slice q n c, ev]) (by simp [results, Tryz.results64, go_sem]) rfl ⟨HR.out, kqt kqx hb1⟩
end Go.Proofs.YtgkbegomekhpcaaGreatDoor
namespace Go.Proofs.YtgkbegomekhpcaaGreatDoor
open Go.RowKit
set_option linter.unusedVariables false
set_option linter.unusedSimpArgs false
set_option maxRecDepth 100000

theorem LL.pair (W : World) (q1 q2 : Option Addr) (c1 c2 : Nat) (L M : List Nd) (h1 : AK0 W L q1 c1) (h2 : AK0 W M q2 c2) {B : Nat} (hB : B = W.heap.size) : LL (W.alloc (.cells #[.slice q1 L.length c1, .slice q2 M.length c2] 26)) (some ⟨B, 0, none⟩) [L, M] := by
  have hk := Blk.new W (B := B) #[.slice q1 L.length c1, .slice q2 M.length c2] 26 hB
  have hb : Below W.heap.size W (W.alloc (.cells #[.slice q1 L.length c1, .slice q2 M.length c2] 26)) := kqx
  refine .inr ⟨B, 0, rfl, hk.lt, fun i v hv => ?_⟩
  match i, hv with
  | 0, hv => simp at hv; subst hv; exact ⟨q1, c1, hk.cell 0, h1.nl.up hb, h1.le, h1.cm⟩
  | 1, hv => simp at hv; subst hv; exact ⟨q2, c2, hk.cell 1, h2.nl.up hb, h2.le, h2.cm⟩
  | (i + 2), hv => simp at hv
set_option maxHeartbeats 2000000 in
theorem fromC_fld (x y : Nd) (l : Tp) (h : x.op = 7) (hl : l.flat.length ≤ 1000) : FromC x (.cons y l .nil) (.ok (.cons (fdN x.s 1) (.cons y l .nil) .nil)) := by
  intro qv qn nv cv nn cn kp pk px nk ck nx cx a1 a2 pt ct w0 w hv hx
  obtain ⟨xo, xn, xs, xt⟩ := x
  unfold partC
  dsimp only at h hx ⊢
  subst h
  have hfw : (fdN xs 1).wf := ⟨hx.1, by show e0.size ≤ maxLen; unfold e0 maxLen; exact Nat.zero_le _, by show (1 : Int) ≤ _; omega⟩
  obtain ⟨bt, ot, pi, ci, hpt, hbt, x0, hak⟩ := hv.row (d := .nil) (f := y) (lf := l) (r := .nil) rfl
  subst hpt
  rw [show ot + Tp.nil.len = ot from rfl, List.length_cons] at x0
  obtain ⟨V, hV⟩ : ∃ V, V = (w.alloc (.cells #[.slice pk nk ck, .string a1, .string a2, .slice px nx cx] 72)).alloc (.cells #[.int .i64 7, .int .i64 xn, .string xs, .string xt, .slice qv nv cv, .slice qn nn cn] 76) := ⟨_, rfl⟩
  have hbV : Below w.heap.size w V := by rw [hV]; exact kqx
  have hVs : V.heap.size = w.heap.size + 2 := by rw [hV]; simp
  have HB : Hid (Blk V (w.heap.size + 1) #[.int .i64 7, .int .i64 xn, .string xs, .string xt, .slice qv nv cv, .slice qn nn cn] 76) := by rw [hV]; refine Blk.new _ _ _ ?_; simp
  have HS : Hid (∀ W, Below V.heap.size V W → W.cell? ⟨w.heap.size + 1, 2, none⟩ = some (.string xs) ∧ W.cell? ⟨bt, ot, none⟩ = some (.slice pi (l.flat.length + 1) ci)) := fun W hW => ⟨(HB.out.up hW).cell 2, (hW.cell (p := ⟨bt, ot, none⟩) (Nat.lt_of_lt_of_le hbt hbV.size)).trans ((hbV.cell (p := ⟨bt, ot, none⟩) hbt).trans x0)⟩
  obtain ⟨W1, hW1⟩ : ∃ W1, W1 = V.alloc (.cells #[.int .i64 47, .int .i64 1, .string xs, .string ⟨#[]⟩] 33) := ⟨_, rfl⟩
  have hb1 : Below V.heap.size V W1 := by rw [hW1]; exact kqx
  have hs1 : W1.heap.size = w.heap.size + 2 + 1 := by rw [hW1]; simp [hVs]
  have hk1 : AK0 W1 [fdN xs 1] (some ⟨w.heap.size + 2, 0, none⟩) 1 := by
    rw [hW1]
    exact ⟨NL.oneK V _ (fdN xs 1) hfw hVs, by simp, by unfold maxLen; omega⟩
  obtain ⟨W2, hW2⟩ : ∃ W2, W2 = (W1.alloc (.cells #[.slice (some ⟨w.heap.size + 2, 0, none⟩) 1 1, .slice pi (l.flat.length + 1) ci] 26)).drew := ⟨_, rfl⟩
  have hb2 : Below W1.heap.size W1 W2 := by rw [hW2]; exact kqx
  have hLL : LL W2 (some ⟨w.heap.size + 2 + 1, 0, none⟩) [[fdN xs 1], y :: l.flat] := by
    rw [hW2]
    exact (LL.pair W1 _ _ _ _ [fdN xs 1] (y :: l.flat) hk1 (hak.up (kqt hbV hb1)) hs1.symm).up kqx
  have HC := concatN_any [[fdN xs 1], y :: l.flat] (by simp) (some ⟨w.heap.size + 2 + 1, 0, none⟩) 2 W2 hLL (by simp [catL]; omega) (by simp)
  have HT : Hid (∀ w' e, KRetF W2 w' (catL [[fdN xs 1], y :: l.flat]) e → ∃ q c, e = .returned (.slice q (l.flat.length + 2) c) ∧ TRet w0 w w' (.ok (.cons (fdN xs 1) (.cons y l .nil) .nil)) (.returned (.tuple #[.slice q (l.flat.length + 2) c, .nilIface]))) := fun w' e hk => by
    have := TRet.ofF (w0 := w0) (w := w) (v := W2) (t := .cons (fdN xs 1) (.cons y l .nil) .nil) (e := e) (by rw [show (Tp.cons (fdN xs 1) (.cons y l .nil) .nil).flat = catL [[fdN xs 1], y :: l.flat] by simp [Tp.flat, catL]]; exact hk) (by have := (kqt hbV (kqt hb1 hb2)).size; omega)
    rwa [show (Tp.cons (fdN xs 1) (.cons y l .nil) .nil).flat.length = l.flat.length + 2 by simp [Tp.flat]] at this
  have hb02 := kqt hbV (kqt hb1 hb2)
  have hbV2 := kqt hb1 hb2
  rw [show [[fdN xs 1], y :: l.flat].length = 2 from rfl] at HC
  have hp1 : (0 : Int) < (((Tp.cons y l .nil).len : Nat) : Int) := by simp [Tp.len]
  clear hv hx hak hLL hk1 hfw x0 hb1 hb2 hs1
  subst hW2
  subst hW1
  go_enter Tryz.func64, Tryz.ntmps64
  go_wp2_with fail
  rw [← hV]
  clear hV
  go_region_held (fun w' => w'.cell? ⟨w.heap.size + 1, 2, none⟩ = some (.string xs) ∧ w'.cell? ⟨bt, ot, none⟩ = some (.slice pi (l.flat.length + 1) ci)) (first | exact HS.out _ (kqt hbV2 hb5) | exact HS.out _ kqx) (first
    | (go_at_call 37
       refine HC.mono ?_
       rintro _ w5 ⟨hk5, hb5⟩
       obtain ⟨q5, c5, rfl, hr5⟩ := HT.out _ _ hk5
       have HR5 : Hid (TRet w0 w w5 (.ok (.cons (fdN xs 1) (.cons y l .nil) .nil)) (.returned (.tuple #[.slice q5 (l.flat.length + 2) c5, .nilIface]))) := hr5
       clear hr5 hk5))
  all_goals
    go_wp2
    exact bodyPost_ret (v := .tuple #[.slice q5 (l.flat.length + 2) c5, .nilIface]) (by simp [results, Tryz.results64, go_sem]) rfl ⟨HR5.out, kqt hb02 hb5⟩
end Go.Proofs.YtgkbegomekhpcaaGreatDoor
namespace Go.Proofs.YtgkbegomekhpcaaGreatDoor
open Go.RowKit
set_option linter.unusedVariables false
set_option maxRecDepth 100000

/-- The types of two rows, one behind the other. -/
theorem tyR_app (C : CK) (K : List FactC) : ∀ (a b : Tp) (K1 : List FactC), K1 = K → tyR C false K K1 (a.app b) = match tyR C false K K a with
    | .error n => .error n
    | .ok ks => match tyR C false K K b with | .error n => .error n | .ok rs => .ok (ks.app rs)
  | .nil, b, K1, h => by
    subst h
    simp only [Tp.app, tyR_nil]
    cases tyR C false K1 K1 b <;> rfl
  | .cons x k r, b, K1, h => by
    subst h
    simp only [Tp.app]
    rw [tyR_cons, tyR_cons]
    cases tyR C (decide (x.op = 11 ∨ x.op = 13)) K1 K1 k with
    | error n => rfl
    | ok ks =>
      simp only []
      cases fromT C x K1 k ks with
      | error n => rfl
      | ok t =>
        simp only []
        split
        · simp only [Bool.false_eq_true, if_false]
          rw [tyR_app C K1 r b K1 rfl]
          cases tyR C false K1 K1 r with
          | error n => rfl
          | ok rs =>
            simp only []
            cases tyR C false K1 K1 b with
            | error n => rfl
            | ok bs => simp only [tp_app_assoc]
        · rfl
end Go.Proofs.YtgkbegomekhpcaaGreatDoor
namespace Go.Proofs.YtgkbegomekhpcaaGreatDoor
open Go.RowKit
set_option linter.unusedVariables false
set_option linter.unusedSimpArgs false
set_option maxRecDepth 100000

/-- What typeOf tells of a part, where nothing is known. -/
def TyOk (C : CK) (x : Nd) (k : Tp) : Prop := ∀ (qv qn : Option Addr) (cv nn cn : Nat) (S : Nat → Prop) (pk px : Option Addr) (nk ck nx cx : Nat) (a1 a2 : ByteArray) (w0 w : World), VC w0 w k (.slice qv k.len cv) S → x.wf → w0.heap.size ≤ w.heap.size →
  Calls Tryz.prog 26 #[.agg #[.slice pk nk ck, .string a1, .string a2, .slice px nx cx], partC x (.slice qv k.len cv) (.slice qn nn cn), .pointer none] w fun e w' => TRet w0 w w' (tyR C false [] [] (.cons x k .nil)) e ∧ Below w.heap.size w w'
/-- The part of a row is there. -/
def Part (k : Tp) (y : Nd) (ky : Tp) : Prop := ∃ a r : Tp, k = a.app (.cons y ky r)
/-- What the last test tells. -/
def FitsC (x : Nd) (ks : Tp) (b : Bool) : Prop := ∀ (p : Option Addr) (c : Nat) (w : World), LL w p (rows ks) → Calls Tryz.prog 65 #[.int .i64 x.op, .slice p ks.len c] w fun e w' => e = .returned (.bool b) ∧ Below w.heap.size w w'
theorem rows_one {a t : Tp} (h : t.len = 1) : rows (a.app t) = rows a ++ [t.flat] := by
  obtain ⟨z, m, rfl⟩ := tp_len1 h
  rw [rows_app]
  simp [rows, Tp.flat]
set_option maxHeartbeats 1600000 in
theorem tyOk_step (C : CK) (x : Nd) (k : Tp) (hop : x.op ≠ 11 ∧ x.op ≠ 13) (hk9 : k.len ≤ 200) (ih : ∀ y ky, Part k y ky → TyOk C y ky ∧ ∀ t, tyR C false [] [] (.cons y ky .nil) = .ok t → t.len = 1)
    (hfr : ∀ ks, tyR C false [] [] k = .ok ks → FromC x ks (fromT C x [] k ks) ∧ FitsC x ks (fitsT x.op ks) ∧ ∀ t, fromT C x [] k ks = .ok t → t.len = 1) : TyOk C x k := by
  intro qv qn cv nn cn S pk px nk ck nx cx a1 a2 w0 w hv hx hw0
  have hfl : decide (x.op = 11 ∨ x.op = 13) = false := by simp [hop.1, hop.2]
  have HTY : Hid (tyR C false [] [] (.cons x k .nil) = match tyR C false [] [] k with
      | .error n => .error n
      | .ok ks => match fromT C x [] k ks with
        | .error n => .error n
        | .ok t => if fitsT x.op ks then .ok (t.app .nil) else .error 2) := by
    show _ = _
    rw [tyR_cons, hfl]
    simp only [tyR_nil]
    rfl
  generalize tyR C false [] [] (.cons x k .nil) = RES at *
  obtain ⟨V, hV⟩ : ∃ V, V = (w.alloc (.cells #[.slice pk nk ck, .string a1, .string a2, .slice px nx cx] 72)).alloc (.cells #[.int .i64 x.op, .int .i64 x.n, .string x.s, .string x.t, .slice qv k.len cv, .slice qn nn cn] 76) := ⟨_, rfl⟩
  have hbV : Below w.heap.size w V := by rw [hV]; exact kqx
  have hVs : V.heap.size = w.heap.size + 2 := by rw [hV]; simp
  have HB1 : Hid (Blk V w.heap.size #[.slice pk nk ck, .string a1, .string a2, .slice px nx cx] 72) := by rw [hV]; exact (Blk.new w _ _ rfl).up kqx
  have HB2 : Hid (Blk V (w.heap.size + 1) #[.int .i64 x.op, .int .i64 x.n, .string x.s, .string x.t, .slice qv k.len cv, .slice qn nn cn] 76) := by rw [hV]; refine Blk.new _ _ _ ?_; simp
  have HVC : Hid (VC w0 V k (.slice qv k.len cv) S) := hv.up hbV
  have HX : Hid x.wf := hx
  have HIH : Hid (∀ y ky, Part k y ky → TyOk C y ky ∧ ∀ t, tyR C false [] [] (.cons y ky .nil) = .ok t → t.len = 1) := ih
  have HFR : Hid (∀ ks, tyR C false [] [] k = .ok ks → FromC x ks (fromT C x [] k ks) ∧ FitsC x ks (fitsT x.op ks) ∧ ∀ t, fromT C x [] k ks = .ok t → t.len = 1) := hfr
  have HW := fun (i : Int) (W : World) => withinC_val x hop (.slice qv k.len cv) (.slice qn nn cn) none i W
  have HCELL : Hid (∀ W, Below V.heap.size V W → (W.cell? ⟨w.heap.size, 0, none⟩ = some (.slice pk nk ck) ∧ W.cell? ⟨w.heap.size, 1, none⟩ = some (.string a1) ∧ W.cell? ⟨w.heap.size, 2, none⟩ = some (.string a2) ∧ W.cell? ⟨w.heap.size, 3, none⟩ = some (.slice px nx cx)) ∧ (W.cell? ⟨w.heap.size + 1, 0, none⟩ = some (.int .i64 x.op) ∧ W.cell? ⟨w.heap.size + 1, 1, none⟩ = some (.int .i64 x.n) ∧ W.cell? ⟨w.heap.size + 1, 2, none⟩ = some (.string x.s) ∧ W.cell? ⟨w.heap.size + 1, 3, none⟩ = some (.string x.t) ∧ W.cell? ⟨w.heap.size + 1, 4, none⟩ = some (.slice qv k.len cv) ∧ W.cell? ⟨w.heap.size + 1, 5, none⟩ = some (.slice qn nn cn))) := fun W hW => ⟨⟨(HB1.out.up hW).cell 0, (HB1.out.up hW).cell 1, (HB1.out.up hW).cell 2, (HB1.out.up hW).cell 3⟩, ⟨(HB2.out.up hW).cell 0, (HB2.out.up hW).cell 1, (HB2.out.up hW).cell 2, (HB2.out.up hW).cell 3, (HB2.out.up hW).cell 4, (HB2.out.up hW).cell 5⟩⟩
  obtain ⟨⟨m0, m1, m2, m3⟩, n0, n1, n2, n3, n4, n5⟩ := HCELL.out V (Below.refl _ _)
  rw [hV] at n4
  clear hv hx ih hfr hop hfl m0 m1 m2 m3 n0 n1 n2 n3 n5
  unfold partC at *
  go_enter Tryz.func26, Tryz.ntmps26
  go_wp2_with fail
  rw [← hV]
  clear hV n4
  go_loopw [8, 9, 10, 11, 12, 18] (fun tv _ _ _ _ iv wr => ∃ (a r ks : Tp) (i : Nat) (qt : Option Addr) (mt ct : Nat), Hid (k = a.app r) ∧ Hid (a.len = i) ∧ i ≤ k.len ∧ iv = .int .i64 i ∧ tv = .slice qt mt ct ∧ Hid (mt = ks.len) ∧ Hid (tyR C false [] [] a = .ok ks) ∧ Hid (ks.len = i) ∧ Hid (TRow wr V.heap.size (.slice qt mt ct) (rows ks)) ∧ Below V.heap.size V wr) (fun _ _ _ _ _ iv _ => k.len - (intOf iv).toNat)
  case atStart => exact ⟨.nil, k, .nil, 0, none, 0, 0, rfl, rfl, Nat.zero_le _, rfl, rfl, rfl, tyR_nil _ _ _ _, rfl, TRow.nil _ _, Below.refl _ _⟩
  case round =>
    rename World => wr
    obtain ⟨a, r, ks, i, qt, mt, ct, HD, HI, hik, rfl, rfl, HMT, HKS, HKL, HTR, hbr⟩ := hrel
    have hbwr := kqt hbV hbr
    by_cases hlt : i < k.len
    · have i3 : (i : Int) < (k.len : Int) := by omega
      obtain ⟨y, ky, r2, hr⟩ := rest_cons HD.out (by rw [HI.out]; exact hlt)
      have hd := HD.out
      rw [hr] at hd
      obtain ⟨hTyOk, hOne⟩ := HIH.out y ky ⟨a, r2, hd⟩
      have hvr := HVC.out.up hbr
      rw [hd] at hvr
      obtain ⟨g, cap, z, uu, hqv, hP, hyw, hnd, hvz, _⟩ := hvr.at
      rw [← hd] at hqv
      have hkl : k.len = a.len + (r2.len + 1) := by rw [hd, tp_app_len]; rfl
      rw [← hkl] at hqv
      cases hqv
      obtain ⟨qz, cz, rfl, _⟩ := hvz.slice
      obtain ⟨qy, cy, rfl, _⟩ := hnd
      obtain ⟨p0, p1, p2, p3, p4, p5⟩ := hP.cells
      rw [HI.out] at p0 p1 p2 p3 p4 p5
      obtain ⟨V4, hV4⟩ : ∃ V4, V4 = wr.alloc (.cells #[.int .i64 y.op, .int .i64 y.n, .string y.s, .string y.t, .slice qz ky.len cz, .slice qy (ky.flat.length + 1) cy] 76) := ⟨_, rfl⟩
      have hb4 : Below wr.heap.size wr V4 := by rw [hV4]; exact kqx
      have HB4 : Hid (Blk V4 wr.heap.size #[.int .i64 y.op, .int .i64 y.n, .string y.s, .string y.t, .slice qz ky.len cz, .slice qy (ky.flat.length + 1) cy] 76) := by rw [hV4]; exact Blk.new wr _ _ rfl
      have hbV4 := kqt hbr hb4
      have HS : Hid (∀ w', Below V4.heap.size V4 w' → (w'.cell? ⟨w.heap.size, 0, none⟩ = some (.slice pk nk ck) ∧ w'.cell? ⟨w.heap.size, 1, none⟩ = some (.string a1) ∧ w'.cell? ⟨w.heap.size, 2, none⟩ = some (.string a2) ∧ w'.cell? ⟨w.heap.size, 3, none⟩ = some (.slice px nx cx)) ∧ (w'.cell? ⟨w.heap.size + 1, 0, none⟩ = some (.int .i64 x.op) ∧ w'.cell? ⟨w.heap.size + 1, 1, none⟩ = some (.int .i64 x.n) ∧ w'.cell? ⟨w.heap.size + 1, 2, none⟩ = some (.string x.s) ∧ w'.cell? ⟨w.heap.size + 1, 3, none⟩ = some (.string x.t) ∧ w'.cell? ⟨w.heap.size + 1, 4, none⟩ = some (.slice (some ⟨g, 0, none⟩) k.len cv) ∧ w'.cell? ⟨w.heap.size + 1, 5, none⟩ = some (.slice qn nn cn)) ∧ (w'.cell? ⟨wr.heap.size, 0, none⟩ = some (.int .i64 y.op) ∧ w'.cell? ⟨wr.heap.size, 1, none⟩ = some (.int .i64 y.n) ∧ w'.cell? ⟨wr.heap.size, 2, none⟩ = some (.string y.s) ∧ w'.cell? ⟨wr.heap.size, 3, none⟩ = some (.string y.t) ∧ w'.cell? ⟨wr.heap.size, 4, none⟩ = some (.slice qz ky.len cz) ∧ w'.cell? ⟨wr.heap.size, 5, none⟩ = some (.slice qy (ky.flat.length + 1) cy))) := fun W hW => ⟨(HCELL.out W (kqt hbV4 hW)).1, (HCELL.out W (kqt hbV4 hW)).2, (HB4.out.up hW).cell 0, (HB4.out.up hW).cell 1, (HB4.out.up hW).cell 2, (HB4.out.up hW).cell 3, (HB4.out.up hW).cell 4, (HB4.out.up hW).cell 5⟩
      have HTC := fun W (hW : Below V4.heap.size V4 W) => hTyOk qz qy cz (ky.flat.length + 1) cy S pk px nk ck nx cx a1 a2 w0 W ((hvz.up hb4).up hW) hyw (by have := (kqt hbwr (kqt hb4 hW)).size; omega)
      have HD2 : Hid (k = (a.app (.cons y ky .nil)).app r2) := by show _ = _; rw [← step_app]; exact hd
      have HI2 : Hid ((a.app (.cons y ky .nil)).len = i + 1) := by show _ = _; rw [snoc_len, HI.out]
      have HTA : Hid (tyR C false [] [] (a.app (.cons y ky .nil)) = match tyR C false [] [] (.cons y ky .nil) with | .error n => .error n | .ok rs => .ok (ks.app rs)) := by show _ = _; rw [tyR_app C [] a _ [] rfl, HKS.out]; first | done | rfl
      have HTK : Hid (tyR C false [] [] k = match tyR C false [] [] (a.app (.cons y ky .nil)) with | .error n => .error n | .ok rs => match tyR C false [] [] r2 with | .error n => .error n | .ok us => .ok (rs.app us)) := by show _ = _; rw [HD2.out]; exact tyR_app C [] _ _ [] rfl
      clear hd hr hvr hP hvz hyw hTyOk HD HI hkl
      unfold partC at *
      cases hty : tyR C false [] [] (.cons y ky .nil) with
      | error n =>
        rw [hty] at HTC
        have HR : Hid (RES = .error n) := by show _ = _; rw [HTY.out, HTK.out, HTA.out, hty]
        clear hty HTA HTK hOne
        go_wp2_with fail
        rw [← hV4]
        clear hV4 p0 p1 p2 p3 p4 p5
        go_region_held (fun w' => (w'.cell? ⟨w.heap.size, 0, none⟩ = some (.slice pk nk ck) ∧ w'.cell? ⟨w.heap.size, 1, none⟩ = some (.string a1) ∧ w'.cell? ⟨w.heap.size, 2, none⟩ = some (.string a2) ∧ w'.cell? ⟨w.heap.size, 3, none⟩ = some (.slice px nx cx)) ∧ (w'.cell? ⟨w.heap.size + 1, 0, none⟩ = some (.int .i64 x.op) ∧ w'.cell? ⟨w.heap.size + 1, 1, none⟩ = some (.int .i64 x.n) ∧ w'.cell? ⟨w.heap.size + 1, 2, none⟩ = some (.string x.s) ∧ w'.cell? ⟨w.heap.size + 1, 3, none⟩ = some (.string x.t) ∧ w'.cell? ⟨w.heap.size + 1, 4, none⟩ = some (.slice (some ⟨g, 0, none⟩) k.len cv) ∧ w'.cell? ⟨w.heap.size + 1, 5, none⟩ = some (.slice qn nn cn)) ∧ (w'.cell? ⟨wr.heap.size, 0, none⟩ = some (.int .i64 y.op) ∧ w'.cell? ⟨wr.heap.size, 1, none⟩ = some (.int .i64 y.n) ∧ w'.cell? ⟨wr.heap.size, 2, none⟩ = some (.string y.s) ∧ w'.cell? ⟨wr.heap.size, 3, none⟩ = some (.string y.t) ∧ w'.cell? ⟨wr.heap.size, 4, none⟩ = some (.slice qz ky.len cz) ∧ w'.cell? ⟨wr.heap.size, 5, none⟩ = some (.slice qy (ky.flat.length + 1) cy))) (first | exact HS.out _ hb6 | exact HS.out _ hb5 | exact HS.out _ kqx) (first
          | (go_at_call 63
             refine (HW _ _).mono ?_
             rintro _ w5 ⟨rfl, hb5'⟩
             have hb5 : Below V4.heap.size V4 w5 := kqt kqx hb5')
          | (go_at_call 26
             refine (HTC _ hb5).mono ?_
             rintro _ w6 ⟨rfl, hb6'⟩
             have hb6 : Below V4.heap.size V4 w6 := kqt hb5 hb6'))
        go_wp2
        exact bodyPost_ret (v := .tuple #[.slice none 0 0, .iface 36 (.int .i64 n)]) (by simp [results, Tryz.results26, go_sem]) rfl ⟨by rw [HR.out]; rfl, kqt hbwr (kqt hb4 hb6)⟩
      | ok t =>
        rw [hty] at HTC
        have ht1 : t.len = 1 := hOne t hty
        have HT1 : Hid (t.len = 1) := ht1
        have HTA2 : Hid (tyR C false [] [] (a.app (.cons y ky .nil)) = .ok (ks.app t)) := by show _ = _; rw [HTA.out, hty]
        have htf : t.flat ≠ [] := by obtain ⟨zt, mt', rfl⟩ := tp_len1 ht1; simp [Tp.flat]
        have HTF : Hid (t.flat ≠ []) := htf
        have HKS9 : Hid (ks.len = i ∧ i < 1000) := ⟨HKL.out, by omega⟩
        clear hty HTA HTK hOne ht1 htf HTY HFR HIH
        go_wp2_with fail
        rw [← hV4]
        clear hV4 p0 p1 p2 p3 p4 p5
        go_region_held (fun w' => (w'.cell? ⟨w.heap.size, 0, none⟩ = some (.slice pk nk ck) ∧ w'.cell? ⟨w.heap.size, 1, none⟩ = some (.string a1) ∧ w'.cell? ⟨w.heap.size, 2, none⟩ = some (.string a2) ∧ w'.cell? ⟨w.heap.size, 3, none⟩ = some (.slice px nx cx)) ∧ (w'.cell? ⟨w.heap.size + 1, 0, none⟩ = some (.int .i64 x.op) ∧ w'.cell? ⟨w.heap.size + 1, 1, none⟩ = some (.int .i64 x.n) ∧ w'.cell? ⟨w.heap.size + 1, 2, none⟩ = some (.string x.s) ∧ w'.cell? ⟨w.heap.size + 1, 3, none⟩ = some (.string x.t) ∧ w'.cell? ⟨w.heap.size + 1, 4, none⟩ = some (.slice (some ⟨g, 0, none⟩) k.len cv) ∧ w'.cell? ⟨w.heap.size + 1, 5, none⟩ = some (.slice qn nn cn)) ∧ (w'.cell? ⟨wr.heap.size, 0, none⟩ = some (.int .i64 y.op) ∧ w'.cell? ⟨wr.heap.size, 1, none⟩ = some (.int .i64 y.n) ∧ w'.cell? ⟨wr.heap.size, 2, none⟩ = some (.string y.s) ∧ w'.cell? ⟨wr.heap.size, 3, none⟩ = some (.string y.t) ∧ w'.cell? ⟨wr.heap.size, 4, none⟩ = some (.slice qz ky.len cz) ∧ w'.cell? ⟨wr.heap.size, 5, none⟩ = some (.slice qy (ky.flat.length + 1) cy))) (first | exact HS.out _ hb6 | exact HS.out _ hb5 | exact HS.out _ kqx) (first
          | (go_at_call 63
             refine (HW _ _).mono ?_
             rintro _ w5 ⟨rfl, hb5'⟩
             have hb5 : Below V4.heap.size V4 w5 := kqt kqx hb5')
          | (go_at_call 26
             refine (HTC _ hb5).mono ?_
             rintro _ w6 ⟨⟨q6, c6, rfl, hA6, hwh6⟩, hb6'⟩
             have HA6 : Hid (AK0 w6 t.flat q6 c6) := hA6
             have HWH6 : Hid (∀ b o, q6 = some ⟨b, o, none⟩ → b < w0.heap.size ∨ w5.heap.size ≤ b) := hwh6
             clear hA6 hwh6
             have hb6 : Below V4.heap.size V4 w6 := kqt hb5 hb6'))
        obtain ⟨N, hN⟩ : ∃ N, N = t.flat.length := ⟨_, rfl⟩
        have HN : Hid (N = t.flat.length) := hN
        rw [← hN]
        have hb06 := kqt hbr (kqt hb4 hb6)
        have hTR6 : TRow w6 V.heap.size (.slice qt mt ct) (rows ks) := HTR.out.up (kqt hb4 hb6)
        have hap : ∀ b o, q6 = some ⟨b, o, none⟩ → b < w6.heap.size ∧ (Value.slice qt mt ct).ownBlock ≠ some b := fun b o e => by
          refine ⟨?_, fun e2 => ?_⟩
          · rcases HA6.out.nl with h | ⟨b', o', h, h2, _⟩
            · exact absurd h HTF.out
            · rw [e] at h; cases h; exact h2
          · obtain ⟨xs, h1, _⟩ := HTR.out
            have h2 := ownP_lt h1 e2
            have h3 := (kqt hb4 hb5).size
            rcases HWH6.out b o e with h | h
            · omega
            · omega
        have HTR6 : Hid (TRow w6 V.heap.size (.slice qt mt ct) (rows ks)) := hTR6
        have HAP : Hid (∀ b o, q6 = some ⟨b, o, none⟩ → b < w6.heap.size ∧ (Value.slice qt mt ct).ownBlock ≠ some b) := hap
        have hb6s := hb06.size
        clear hTR6 hap hN HTC HWH6
        go_wp2_with (first | (at_builtin; refine Hid.out ?_))
        show wpList _ _ _ _ _ _
        refine append_rowT w6 rfl (.tmp 36) (.tmp 38) rfl V.heap.size (.slice qt mt ct) (rows ks) rfl HTR6.out t.flat q6 c6 HA6.out HAP.out rfl (by rw [rows_length]; have := HKS9.out; omega) hb6s HN.out.symm ?_
        intro v8 w8 hT8 hK8
        have hb8 : Below V.heap.size V w8 := hb06.trans (hK8.below hb6s (fun b e => by obtain ⟨xs, h1, _⟩ := HTR.out; exact (ownP_lt h1 e).2))
        rw [← rows_one HT1.out] at hT8
        obtain ⟨q8, c8, rfl, _⟩ := hT8.slice
        rw [rows_length] at hT8 ⊢
        obtain ⟨M8, hM8⟩ : ∃ M, M = (ks.app t).len := ⟨_, rfl⟩
        have HM8 : Hid (M8 = (ks.app t).len) := hM8
        have HT8 : Hid (TRow w8 V.heap.size (.slice q8 M8 c8) (rows (ks.app t))) := by rw [hM8]; exact hT8
        have HL8 : Hid ((ks.app t).len = i + 1) := by show _ = _; rw [tp_app_len, HT1.out, HKS9.out.1]
        rw [← hM8]
        clear hT8 hM8 HTR HTR6 HAP
        go_wp2_with fail
        go_roundw
        case rel => exact ⟨a.app (.cons y ky .nil), r2, ks.app t, i + 1, q8, M8, c8, HD2, HI2, by omega, by go_num, rfl, HM8, HTA2, HL8, HT8, hb8⟩
        case measure => simp [intOf]; omega
    · have i3 : ¬ (i : Int) < (k.len : Int) := by omega
      have hr := rest_nil HD.out (by rw [HI.out]; exact hlt)
      have hka : k = a := by have := HD.out; rw [hr, tp_app_nil] at this; exact this
      have hks : tyR C false [] [] k = .ok ks := by rw [hka]; exact HKS.out
      obtain ⟨hFC, hFT, h1t⟩ := HFR.out ks hks
      have HTY2 : Hid (RES = match fromT C x [] k ks with
        | .error n => .error n
        | .ok t => if fitsT x.op ks then .ok (t.app .nil) else .error 2) := by show _ = _; rw [HTY.out, hks]
      obtain ⟨qt', ct', e1, hLL⟩ := HTR.out.slice
      rw [rows_length, ← HMT.out] at e1
      cases e1
      have HFC := hFC qv qn k.len cv nn cn none pk px nk ck nx cx a1 a2 qt ct w0 wr hLL HX.out
      have HFT := fun W (hW : Below wr.heap.size wr W) => hFT qt ct W (hLL.up hW)
      rw [← HMT.out] at HFC HFT
      obtain ⟨⟨m0, m1, m2, m3⟩, n0, n1, n2, n3, n4, n5⟩ := HCELL.out wr hbr
      have HN0 : Hid (∀ W, Below wr.heap.size wr W → W.cell? ⟨w.heap.size + 1, 0, none⟩ = some (.int .i64 x.op)) := fun W hW => (HCELL.out W (kqt hbr hW)).2.1
      unfold partC at HFC
      clear hr hka hks HD HI HKS HFR HTY HIH hFC hFT hLL HTR HMT
      generalize fitsT x.op ks = bb at *
      cases hfrom : fromT C x [] k ks with
      | error n =>
        rw [hfrom] at HFC
        have HR : Hid (RES = .error n) := by show _ = _; rw [HTY2.out, hfrom]
        clear hfrom HTY2 h1t
        go_wp2_with fail
        refine HFC.mono ?_
        rintro _ w5 ⟨rfl, hb5⟩
        clear HFC
        go_wp2
        exact bodyPost_ret (v := .tuple #[.slice none 0 0, .iface 36 (.int .i64 n)]) (by simp [results, Tryz.results26, go_sem]) rfl ⟨by rw [HR.out]; rfl, kqt hbwr hb5⟩
      | ok t =>
        rw [hfrom] at HFC
        cases bb with
        | false =>
          have HR : Hid (RES = .error 2) := by show _ = _; rw [HTY2.out, hfrom]; rfl
          clear hfrom HTY2 h1t
          go_wp2_with fail
          refine HFC.mono ?_
          rintro _ w5 ⟨⟨q5, c5, rfl, _, _⟩, hb5⟩
          have y0 := HN0.out w5 hb5
          generalize t.flat.length = N at *
          clear HFC
          go_wp2_with fail
          refine (HFT _ hb5).mono ?_
          rintro _ w6 ⟨rfl, hb6⟩
          go_wp2
          exact bodyPost_ret (v := .tuple #[.slice none 0 0, .iface 36 (.int .i64 2)]) (by simp [results, Tryz.results26, go_sem]) rfl ⟨by rw [HR.out]; rfl, kqt hbwr (kqt hb5 hb6)⟩
        | true =>
          have HR : Hid (RES = .ok t) := by show _ = _; rw [HTY2.out, hfrom]; simp [tp_app_nil]
          clear hfrom HTY2 h1t
          go_wp2_with fail
          refine HFC.mono ?_
          rintro _ w5 ⟨⟨q5, c5, rfl, hA5, hwh5⟩, hb5⟩
          have y0 := HN0.out w5 hb5
          obtain ⟨N, hN⟩ : ∃ N, N = t.flat.length := ⟨_, rfl⟩
          have HRR : Hid (∀ w6, Below w5.heap.size w5 w6 → TRet w0 w w6 RES (.returned (.tuple #[.slice q5 N c5, .nilIface]))) := fun w6 h6 => by
            rw [HR.out, hN]
            exact ⟨q5, c5, rfl, hA5.up h6, fun b o e => (hwh5 b o e).imp id (fun h => Nat.le_trans hbwr.size h)⟩
          rw [← hN]
          clear HFC hA5 hwh5 hN
          go_wp2_with fail
          refine (HFT _ hb5).mono ?_
          rintro _ w6 ⟨rfl, hb6⟩
          go_wp2
          exact bodyPost_ret (v := .tuple #[.slice q5 N c5, .nilIface]) (by simp [results, Tryz.results26, go_sem]) rfl ⟨HRR.out _ hb6, kqt hbwr (kqt hb5 hb6)⟩
end Go.Proofs.YtgkbegomekhpcaaGreatDoor
namespace Go.Proofs.YtgkbegomekhpcaaGreatDoor
open Go.RowKit
set_option linter.unusedVariables false
set_option maxRecDepth 100000

theorem fitT_ok {t s : Tp} (h : fitT t = .ok s) : s = t ∧ t.flat.length ≤ 200 := by
  unfold fitT at h
  split at h
  · cases h; exact ⟨rfl, by assumption⟩
  · cases h
theorem setT_ok {ks s : Tp} (h : setT ks = .ok s) : s.len = 1 ∧ s.flat.length ≤ 200 := by
  unfold setT at h
  split at h
  · obtain ⟨rfl, h2⟩ := fitT_ok h
    exact ⟨rfl, h2⟩
  · cases h
/-- What is told of a value's node is one type of at most so many nodes (but for a field). -/
theorem from_small {C : CK} {x : Nd} {K : List FactC} {k ks t : Tp} (ho : 1 ≤ x.op ∧ x.op ≤ 6) (h : fromT C x K k ks = .ok t) : t.len = 1 ∧ t.flat.length ≤ 200 := by
  unfold fromT at h
  have hc : x.op = 1 ∨ x.op = 2 ∨ x.op = 3 ∨ x.op = 4 ∨ x.op = 5 ∨ x.op = 6 := by omega
  rcases hc with e | e | e | e | e | e
  · rw [if_neg (by omega), if_neg (by omega), if_neg (by omega), if_neg (by omega), if_neg (by omega), if_neg (by omega), if_neg (by omega), if_neg (by omega), if_neg (by omega)] at h
    cases h; simp [leafT, Tp.len, Tp.flat]
  · rw [if_pos (by omega)] at h; cases h; simp [leafT, Tp.len, Tp.flat]
  · rw [if_neg (by omega), if_pos e] at h; cases h; simp [leafT, Tp.len, Tp.flat]
  · rw [if_neg (by omega), if_neg (by omega), if_pos e] at h; cases h; simp [entT, Tp.len, Tp.flat]
  · rw [if_neg (by omega), if_neg (by omega), if_neg (by omega), if_pos e] at h
    exact setT_ok h
  · rw [if_neg (by omega), if_neg (by omega), if_neg (by omega), if_neg (by omega), if_pos e] at h
    obtain ⟨rfl, h2⟩ := fitT_ok h
    exact ⟨rfl, h2⟩
theorem tyV_small {C : CK} : ∀ (t : Tp) (fl : Bool) (K0 K : List FactC) (ks : Tp), okV none t → tyR C fl K0 K t = .ok ks → ∀ l ∈ rows ks, l.length ≤ 200
  | .nil, fl, K0, K, ks, _, h, l, hl => by
    rw [tyR_nil] at h; cases h; simp [rows] at hl
  | .cons x k r, fl, K0, K, ks, ho, h, l, hl => by
    obtain ⟨⟨h7, hx, _⟩, hr⟩ := okV.none_iff.1 ho
    have hop := nd_val hx
    rw [tyR_cons] at h
    split at h
    · cases h
    · split at h
      · cases h
      · rename_i ks' _ t' hf
        split at h
        · split at h
          · cases h
          · rename_i rs hrs
            cases h
            obtain ⟨h1, h2⟩ := from_small (by omega) hf
            obtain ⟨z, m, rfl⟩ := tp_len1 h1
            simp only [Tp.app, rows, List.mem_cons] at hl
            rcases hl with rfl | hl
            · simpa [Tp.flat] using h2
            · exact tyV_small r _ _ _ rs hr hrs l hl
        · cases h
theorem okV.part {k kz : Tp} {y : Nd} (h : okV none k) (hp : Part k y kz) : okV none (.cons y kz .nil) := by
  obtain ⟨a, r, rfl⟩ := hp
  exact (okV.mid (m := none) h).1 rfl
theorem okV.partF : ∀ {k : Tp} {m : ByteArray} {y : Nd} {ky : Tp}, okV (some m) k → Part k y ky → ∃ m', okV (some m') (.cons y ky .nil) := by
  rintro k m y ky h ⟨a, r, rfl⟩
  obtain ⟨m', h2⟩ := okF_app h
  obtain ⟨h3, h4, _⟩ := okV.some_iff.1 h2
  exact ⟨m', okV.some_iff.2 ⟨h3, h4, okV.nil⟩⟩
theorem Part.lt {k : Tp} {y : Nd} {ky : Tp} (h : Part k y ky) : ky.flat.length < k.flat.length := by
  obtain ⟨a, r, rfl⟩ := h
  rw [tp_app_flat]
  simp [Tp.flat]
  omega
theorem fits_true (x : Nd) (ks : Tp) (h : 1 ≤ x.op ∧ x.op ≤ 7) : FitsC x ks (fitsT x.op ks) := by
  rw [fitsT_val h]
  intro p c w _
  exact fitsC_val x.op h _ w
/-- typeOf of a value, or of a field of one. -/
theorem tyOk_val (C : CK) : ∀ (N : Nat) (y : Nd) (ky : Tp), ky.flat.length < N → ky.flat.length ≤ 199 → (okV none (.cons y ky .nil) ∨ ∃ m, okV (some m) (.cons y ky .nil)) → TyOk C y ky ∧ ∀ t, tyR C false [] [] (.cons y ky .nil) = .ok t → t.len = 1
  | 0, y, ky, h, _, _ => by omega
  | N + 1, y, ky, h, h9, hok => by
    have hlen : ky.len ≤ 200 := by have := tp_len_flat ky; omega
    rcases hok with ho | ⟨m, ho⟩
    · refine ⟨?_, fun t ht => ?_⟩
      · obtain ⟨⟨h7, hx, hw⟩, _⟩ := okV.none_iff.1 ho
        have hop := nd_val hx
        rcases hw with ⟨h5, hl, hk⟩ | ⟨h6, hl, hk⟩ | ⟨h5, h6, rfl⟩
        · refine tyOk_step C y ky (by omega) hlen (fun z kz hp => tyOk_val C N z kz (by have := hp.lt; omega) (by have := hp.lt; omega) (.inl (okV.part hk hp))) (fun ks hks => ?_)
          have hsm := tyV_small ky _ _ _ ks hk hks
          have he : ks = ow false ky := by
            rcases (tyV ky).1 hk C false [] [] with e | e <;> rw [e] at hks <;> cases hks
            rfl
          have hf : fromT C y [] ky ks = setT ks := by unfold fromT; rw [if_neg (by omega), if_neg (by omega), if_neg (by omega), if_pos h5]; rfl
          obtain ⟨o1, o2, _⟩ := (ow_ok ky).1 hk
          refine ⟨?_, fits_true y ks hop, fun t ht => (from_small (by omega) ht).1⟩
          rw [hf]
          exact fromC_set y ks h5 (by rw [he]; exact o1) hsm (by rw [he, o2]; omega)
        · refine tyOk_step C y ky (by omega) hlen (fun z kz hp => tyOk_val C N z kz (by have := hp.lt; omega) (by have := hp.lt; omega) (.inr (okV.partF hk hp))) (fun ks hks => ?_)
          have he : ks = ow true ky := by
            rcases (tyV ky).2 _ hk C false [] [] with e | e <;> rw [e] at hks <;> cases hks
            rfl
          have hf : fromT C y [] ky ks = fitT (.cons ⟨46, y.n, e0, e0⟩ ks .nil) := by unfold fromT; rw [if_neg (by omega), if_neg (by omega), if_neg (by omega), if_neg (by omega), if_pos h6]
          obtain ⟨o1, o2, _⟩ := (ow_ok ky).2 _ hk
          have o3 := (ow_flat ky).2 _ hk
          refine ⟨?_, fits_true y ks hop, fun t ht => (from_small (by omega) ht).1⟩
          rw [hf]
          exact fromC_rec y ks h6 (by rw [he]; omega) (by rw [he, o2]; omega)
        · refine tyOk_step C y .nil (by omega) (by simp [Tp.len]) (fun z kz hp => by have := hp.lt; simp [Tp.flat] at this) (fun ks hks => ?_)
          refine ⟨?_, fits_true y ks hop, fun t ht => (from_small (by omega) ht).1⟩
          have hc : y.op = 1 ∨ y.op = 2 ∨ y.op = 3 ∨ y.op = 4 := by omega
          unfold fromT
          rcases hc with e | e | e | e
          · rw [if_neg (by omega), if_neg (by omega), if_neg (by omega), if_neg (by omega), if_neg (by omega), if_neg (by omega), if_neg (by omega), if_neg (by omega), if_neg (by omega)]
            exact fromC_leaf y ks 41 (by omega)
          · rw [if_pos (by omega)]; exact fromC_leaf y ks 42 (by omega)
          · rw [if_neg (by omega), if_pos e]; exact fromC_leaf y ks 43 (by omega)
          · rw [if_neg (by omega), if_neg (by omega), if_pos e]; exact fromC_ent y ks e
      · rcases (tyV (.cons y ky .nil)).1 ho C false [] [] with e | e <;> rw [e] at ht <;> cases ht
        rw [((ow_ok _).1 ho).2.1]; rfl
    · refine ⟨?_, fun t ht => ?_⟩
      · obtain ⟨⟨h7, hx, _⟩, ⟨hl1, hk⟩, _⟩ := okV.some_iff.1 ho
        refine tyOk_step C y ky (by omega) hlen (fun z kz hp => tyOk_val C N z kz (by have := hp.lt; omega) (by have := hp.lt; omega) (.inl (okV.part hk hp))) (fun ks hks => ?_)
        have he : ks = ow false ky := by
          rcases (tyV ky).1 hk C false [] [] with e | e <;> rw [e] at hks <;> cases hks
          rfl
        obtain ⟨o1, o2, _⟩ := (ow_ok ky).1 hk
        have o3 := (ow_flat ky).1 hk
        have hf : fromT C y [] ky ks = .ok (.cons (fdN y.s 1) ks .nil) := by unfold fromT; rw [if_neg (by omega), if_neg (by omega), if_neg (by omega), if_neg (by omega), if_neg (by omega), if_pos h7]
        refine ⟨?_, fits_true y ks (by omega), fun t ht => by rw [hf] at ht; cases ht; rfl⟩
        rw [hf]
        obtain ⟨z, m', hz⟩ := tp_len1 (t := ks) (by rw [he, o2]; exact hl1)
        subst hz
        refine fromC_fld y z m' h7 ?_
        rw [← he] at o3
        simp [Tp.flat] at o3
        omega
      · rcases (tyV (.cons y ky .nil)).2 _ ho C false [] [] with e | e <;> rw [e] at ht <;> cases ht
        rw [((ow_ok _).2 _ ho).2.1]; rfl
end Go.Proofs.YtgkbegomekhpcaaGreatDoor
namespace Go.Proofs.YtgkbegomekhpcaaGreatDoor
open Go.RowKit
set_option linter.unusedVariables false
set_option maxRecDepth 100000

/-- The act of an Id. -/
def aofC (al : List Ac) (s : ByteArray) : Option Ac := al.find? fun a => decide (a.id = s)
theorem aofC_at {al : List Ac} {s : ByteArray} {k : Nat} (h : k < al.length) (hn : aofC (al.take k) s = none) : (al[k].id = s → aofC al s = some al[k]) ∧ (al[k].id ≠ s → aofC (al.take (k + 1)) s = none) := by
  constructor
  · intro e2
    have : al = al.take k ++ al[k] :: al.drop (k + 1) := by rw [← List.drop_eq_getElem_cons h, List.take_append_drop]
    conv => lhs; rw [this]
    unfold aofC at *
    rw [List.find?_append, hn, Option.none_or, List.find?_cons_of_pos (by simp [e2])]
  · intro e
    rw [List.take_succ_eq_append_getElem h]
    unfold aofC at *
    rw [List.find?_append, hn, Option.none_or, List.find?_cons_of_neg (by simpa using e)]
    rfl
set_option maxHeartbeats 4000000 in
theorem actOfC_any (al : List Ac) (p : Option Addr) (c : Nat) (s : ByteArray) (w : World) (hl : AcL w p al) (h8 : al.length ≤ 8) :
    Calls Tryz.prog 24 #[.slice p al.length c, .string s] w fun e w' => AofRet w' e (aofC al s) ∧ Below w.heap.size w w' := by
  have HL : Hid (AcL w p al) := hl
  clear hl
  obtain ⟨W, hW⟩ : ∃ W, W = w.alloc (.cells #[.string ⟨#[]⟩, .slice none 0 0, .slice none 0 0, .slice none 0 0] 64) := ⟨_, rfl⟩
  have hbW : Below w.heap.size w W := by rw [hW]; exact kqx
  have hr_0 : K4 W w.heap.size (.string ⟨#[]⟩) (.slice none 0 0) (.slice none 0 0) (.slice none 0 0) := by rw [hW]; exact K4.new _ _ _ _ _ rfl
  have hWs : w.heap.size + 1 ≤ W.heap.size := by rw [hW]; simp
  go_enter Tryz.func24, Tryz.ntmps24
  go_wp2
  rw [← hW]
  clear hW
  go_loopw [7, 10] (fun _ i wr => ∃ k : Nat, k ≤ al.length ∧ i = .int .i64 k ∧ Hid (aofC (al.take k) s = none) ∧ K4 wr w.heap.size (.string ⟨#[]⟩) (.slice none 0 0) (.slice none 0 0) (.slice none 0 0) ∧ Below w.heap.size w wr ∧ w.heap.size + 1 ≤ wr.heap.size) (fun _ i _ => al.length - (intOf i).toNat)
  case atStart => exact ⟨0, Nat.zero_le _, rfl, rfl, hr_0, hbW, hWs⟩
  case round =>
    rename World => w3
    obtain ⟨k, hk, rfl, HF, hr_3, hb3, hs3⟩ := hrel
    by_cases hlt : k < al.length
    · have i1 : (k : Int) < (al.length : Int) := by omega
      obtain ⟨b, off, p0, c0', p1, c1', pt, ct, rfl, hbl, hkv, c0, c1, c2, c3⟩ := HL.out.at hlt
      replace c0 := (hb3.cell (p := ⟨b, off + k * 4, none⟩) hbl).trans c0
      replace c1 := (hb3.cell (p := ⟨b, off + k * 4 + 1, none⟩) hbl).trans c1
      replace c2 := (hb3.cell (p := ⟨b, off + k * 4 + 2, none⟩) hbl).trans c2
      replace c3 := (hb3.cell (p := ⟨b, off + k * 4 + 3, none⟩) hbl).trans c3
      have HX : Hid _ := aofC_at (s := s) hlt HF.out
      have HKV : Hid (AcV w al[k] p0 c0' p1 c1' pt ct) := hkv
      clear hkv
      generalize al[k] = x at *
      obtain ⟨nm, us, vs, ty⟩ := x
      dsimp only at c0 c1 c2 c3
      obtain ⟨V6, hV6⟩ : ∃ V6, V6 = w3.alloc (.cells #[.string nm, .slice p0 us.length c0', .slice p1 vs.length c1', .slice pt ty.length ct] 64) := ⟨_, rfl⟩
      have hb6 : Below w3.heap.size w3 V6 := by rw [hV6]; exact kqx
      have hr_6 := hr_3.up hb6
      by_cases he : nm = s
      · have HK : Hid (aofC al s = some ⟨nm, us, vs, ty⟩) := HX.out.1 he
        obtain ⟨s0, s1, s2, s3⟩ := hr_6.cells
        have fr := hr_6.free
        rw [hV6] at s0 s1 s2 s3 fr
        subst he
        clear HX HF
        go_wp2
        rw [← hV6]
        obtain ⟨V, hV⟩ : ∃ V, V = (((V6.setCell ⟨w.heap.size, 0, none⟩ (.string nm)).setCell ⟨w.heap.size, 1, none⟩ (.slice p0 us.length c0')).setCell ⟨w.heap.size, 2, none⟩ (.slice p1 vs.length c1')).setCell ⟨w.heap.size, 3, none⟩ (.slice pt ty.length ct) := ⟨_, rfl⟩
        obtain ⟨hPV, hKV⟩ := hr_6.put hV
        obtain ⟨t0, t1, t2, t3⟩ := hPV.cells
        have hbV : Below w.heap.size V6 V := hKV.below (by have := hb6.size; omega) (fun a e => by omega)
        rw [← hV]
        have hbf : Below w.heap.size w V := (hb3.trans (hb6.mono hb3.size)).trans hbV
        refine bodyPost_ret (v := .tuple #[.agg #[.string nm, .slice p0 us.length c0', .slice p1 vs.length c1', .slice pt ty.length ct], .nilIface]) (by simp [results, Tryz.results24, go_sem, t0, t1, t2, t3]) rfl ⟨?_, hbf⟩
        rw [HK.out]
        exact ⟨_, _, _, _, _, _, rfl, HKV.out.up hbf⟩
      · have HF2 : Hid (aofC (al.take (k + 1)) s = none) := HX.out.2 he
        have e1 : (nm.toList == s.toList) = false := by simpa using tl_neS he
        clear he HX HF
        go_wp2_with fail
        rw [← hV6]
        go_roundw
        case rel => exact ⟨k + 1, by omega, by go_num, HF2, hr_6, kqt hb3 hb6, by have := hb6.size; omega⟩
        case measure => simp [intOf]; omega
    · have i1 : ¬ (k : Int) < (al.length : Int) := by omega
      have HK : Hid (aofC al s = none) := by
        have := HF.out
        rw [List.take_of_length_le (by omega)] at this
        exact this
      obtain ⟨s0, s1, s2, s3⟩ := hr_3.cells
      have fr := hr_3.free
      clear HF
      go_wp2
      obtain ⟨V, hV⟩ : ∃ V, V = (((w3.setCell ⟨w.heap.size, 0, none⟩ (.string ⟨#[]⟩)).setCell ⟨w.heap.size, 1, none⟩ (.slice none 0 0)).setCell ⟨w.heap.size, 2, none⟩ (.slice none 0 0)).setCell ⟨w.heap.size, 3, none⟩ (.slice none 0 0) := ⟨_, rfl⟩
      obtain ⟨hPV, hKV⟩ := hr_3.put hV
      obtain ⟨t0, t1, t2, t3⟩ := hPV.cells
      have hbV : Below w.heap.size w3 V := hKV.below (by omega) (fun a e => by omega)
      try rw [← hV]
      refine bodyPost_ret (v := .tuple #[.agg #[.string ⟨#[]⟩, .slice none 0 0, .slice none 0 0, .slice none 0 0], .iface 36 (.int .i64 3)]) (by simp [results, Tryz.results24, go_sem, t0, t1, t2, t3]) rfl ⟨?_, hb3.trans hbV⟩
      rw [HK.out]
      rfl
end Go.Proofs.YtgkbegomekhpcaaGreatDoor
namespace Go.Proofs.YtgkbegomekhpcaaGreatDoor
open Go.RowKit
set_option linter.unusedVariables false
set_option linter.unusedSimpArgs false
set_option maxRecDepth 100000

/-- What is wrong ahead of all types. -/
noncomputable def tpre (s : Sc) (who act what : ByteArray) (e : List Nd) : Int := if scf s ≠ 0 then scf s else if xfault e ≠ 0 then xfault e else match aofC s.acs act with
  | none => 3
  | some a => if hasT who a.who && hasT what a.what then 0 else 2
section
variable (s : Sc) (who act what : ByteArray) (e : List Nd) (pk pa pe : Option Addr) (ck ca ce : Nat) (w : World) (h : SA w s pk ck pa ca) (he : AK w e pe ce)
include h he
set_option maxHeartbeats 2000000 in
theorem typeC_bad (h8 : scf s = 0 → s.acs.length ≤ 8) (hb : tpre s who act what e ≠ 0) :
    Calls Tryz.prog 8 #[scV s pk ck pa ca, .string who, .string act, .string what, .slice pe e.length ce] w fun en w' => en = .returned (.tuple #[.slice none 0 0, .iface 36 (.int .i64 (tpre s who act what e))]) ∧ Below w.heap.size w w' := by
  obtain ⟨V, hV⟩ : ∃ V, V = w.alloc (.cells #[.slice pk s.ks.length ck, .slice pa s.acs.length ca] 25) := ⟨_, rfl⟩
  have hbV : Below w.heap.size w V := by rw [hV]; exact kqx
  have HB : Hid (Blk V w.heap.size #[.slice pk s.ks.length ck, .slice pa s.acs.length ca] 25) := by rw [hV]; exact Blk.new w _ _ rfl
  have HSC := scheck_any s pk pa ck ca V (h.up hbV)
  have HTC := fun W (hW : Below V.heap.size V W) => tcheck_any e pe ce W ((he.up (kqt hbV hW)).nl) (Nat.le_trans he.le he.cm)
  have HAO := fun (h8' : s.acs.length ≤ 8) W (hW : Below V.heap.size V W) => actOfC_any s.acs pa ca act W ((h.up (kqt hbV hW)).asl) h8'
  have HTP : Hid (tpre s who act what e = if scf s ≠ 0 then scf s else if xfault e ≠ 0 then xfault e else match aofC s.acs act with
    | none => 3
    | some a => if hasT who a.who && hasT what a.what then 0 else 2) := rfl
  have H8 : Hid (scf s = 0 → s.acs.length ≤ 8) := h8
  have HCELL : Hid (∀ W, Below V.heap.size V W → W.cell? ⟨w.heap.size, 1, none⟩ = some (.slice pa s.acs.length ca)) := fun W hW => (HB.out.up hW).cell 1
  generalize tpre s who act what e = n at *
  clear h he h8
  unfold scV at *
  by_cases c1 : scf s = 0
  · have h8' := H8.out c1
    rw [eV_nil c1] at HSC
    by_cases c2 : xfault e = 0
    · simp only [eV_nil c2] at HTC
      have HAO2 := HAO h8'
      have HTP2 : Hid (n = match aofC s.acs act with
        | none => 3
        | some a => if hasT who a.who && hasT what a.what then 0 else 2) := by show _ = _; rw [HTP.out, if_neg (fun q => q c1), if_neg (fun q => q c2)]
      cases ha : aofC s.acs act with
      | none =>
        rw [ha] at HAO2
        have HN : Hid (n = 3) := by show _ = _; rw [HTP2.out, ha]
        clear ha HTP HTP2 HAO c1 c2
        go_enter Tryz.func8, Tryz.ntmps8
        go_wp2_with fail
        rw [← hV]
        clear hV
        refine HSC.mono ?_
        rintro _ w1 ⟨rfl, hb1⟩
        go_wp2_with fail
        refine (HTC _ hb1).mono ?_
        rintro _ w2 ⟨rfl, hb2'⟩
        have hb2 := kqt hb1 hb2'
        have y1 := HCELL.out w2 hb2
        go_wp2_with fail
        refine (HAO2 _ hb2).mono ?_
        rintro _ w3 ⟨rfl, hb3'⟩
        have hb3 := kqt hb2 hb3'
        go_wp2
        exact bodyPost_ret (v := .tuple #[.slice none 0 0, .iface 36 (.int .i64 3)]) (by simp [results, Tryz.results8, go_sem]) rfl ⟨by rw [HN.out], kqt hbV (kqt hb3 kqx)⟩
      | some a =>
        rw [ha] at HAO2
        have hx : (hasT who a.who && hasT what a.what) = false := by
          cases hq : (hasT who a.who && hasT what a.what) with
          | false => rfl
          | true => exact absurd (by rw [HTP2.out, ha]; simp only []; rw [hq]; rfl) hb
        have HN : Hid (n = 2) := by show _ = _; rw [HTP2.out, ha]; simp only []; rw [hx]; rfl
        clear ha HTP HTP2 HAO c1 c2
        have hway : hasT who a.who = false ∨ (hasT who a.who = true ∧ hasT what a.what = false) := by
          cases e1 : hasT who a.who
          · exact .inl rfl
          · rw [e1] at hx; exact .inr ⟨rfl, by simpa using hx⟩
        clear hx
        rcases hway with hw1 | ⟨hw1, hw2⟩
        all_goals
          go_enter Tryz.func8, Tryz.ntmps8
          go_wp2_with fail
          rw [← hV]
          clear hV
          refine HSC.mono ?_
          rintro _ w1 ⟨rfl, hb1⟩
          go_wp2_with fail
          refine (HTC _ hb1).mono ?_
          rintro _ w2 ⟨rfl, hb2'⟩
          have hb2 := kqt hb1 hb2'
          have y1 := HCELL.out w2 hb2
          go_wp2_with fail
          refine (HAO2 _ hb2).mono ?_
          rintro _ w3 ⟨⟨p0, c0, p1, c1, pt, ct, rfl, hAV⟩, hb3'⟩
          have hb3 := kqt hb2 hb3'
          have HC1 := fun W (hW : Below w3.heap.size w3 W) => containsS_any who a.who p0 c0 W (hAV.up hW).us
          have HC2 := fun W (hW : Below w3.heap.size w3 W) => containsS_any what a.what p1 c1 W (hAV.up hW).vs
          rw [hw1] at HC1
          try rw [hw2] at HC2
          clear hAV
          go_wp2_with fail
          refine (HC1 _ kqx).mono ?_
          rintro _ _ ⟨rfl, rfl⟩
          first
            | (go_wp2
               exact bodyPost_ret (v := .tuple #[.slice none 0 0, .iface 36 (.int .i64 2)]) (by simp [results, Tryz.results8, go_sem]) rfl ⟨by rw [HN.out], kqt hbV (kqt hb3 kqx)⟩)
            | (go_wp2_with fail
               refine (HC2 _ kqx).mono ?_
               rintro _ _ ⟨rfl, rfl⟩
               go_wp2
               exact bodyPost_ret (v := .tuple #[.slice none 0 0, .iface 36 (.int .i64 2)]) (by simp [results, Tryz.results8, go_sem]) rfl ⟨by rw [HN.out], kqt hbV (kqt hb3 kqx)⟩)
    · simp only [eV_not c2] at HTC
      have HN : Hid (n = xfault e) := by show _ = _; rw [HTP.out, if_neg (fun q => q c1), if_pos c2]
      generalize xfault e = m at *
      clear HTP HAO c1 c2
      go_enter Tryz.func8, Tryz.ntmps8
      go_wp2_with fail
      rw [← hV]
      clear hV
      refine HSC.mono ?_
      rintro _ w1 ⟨rfl, hb1⟩
      go_wp2_with fail
      refine (HTC _ hb1).mono ?_
      rintro _ w2 ⟨rfl, hb2'⟩
      have hb2 := kqt hb1 hb2'
      go_wp2
      exact bodyPost_ret (v := .tuple #[.slice none 0 0, .iface 36 (.int .i64 m)]) (by simp [results, Tryz.results8, go_sem]) rfl ⟨by rw [HN.out], kqt hbV hb2⟩
  · rw [eV_not c1] at HSC
    have HN : Hid (n = scf s) := by show _ = _; rw [HTP.out, if_pos c1]
    generalize scf s = m at *
    clear HTP HAO c1 HTC
    go_enter Tryz.func8, Tryz.ntmps8
    go_wp2_with fail
    rw [← hV]
    clear hV
    refine HSC.mono ?_
    rintro _ w1 ⟨rfl, hb1⟩
    go_wp2
    exact bodyPost_ret (v := .tuple #[.slice none 0 0, .iface 36 (.int .i64 m)]) (by simp [results, Tryz.results8, go_sem]) rfl ⟨by rw [HN.out], kqt hbV hb1⟩
end
end Go.Proofs.YtgkbegomekhpcaaGreatDoor
namespace Go.Proofs.YtgkbegomekhpcaaGreatDoor
open Go.RowKit
set_option linter.unusedVariables false
set_option linter.unusedSimpArgs false
set_option maxRecDepth 100000

set_option maxHeartbeats 1600000 in
theorem typeC_err (C : CK) (s : Sc) (who act what : ByteArray) (y : Nd) (ky : Tp) (a : Ac) (pk pa pe : Option Addr) (ck ca ce : Nat) (w : World) (h : SA w s pk ck pa ca) (he : AK w (y :: ky.flat) pe ce) (h8 : s.acs.length ≤ 8) (c1' : scf s = 0) (c2' : xfault (y :: ky.flat) = 0) (ha : aofC s.acs act = some a) (hw1 : hasT who a.who = true) (hw2 : hasT what a.what = true) (h9 : ky.flat.length ≤ 199) (har' : arC (.cons y ky .nil)) (hto : TyOk C y ky) (n : Int) (hrt : tyR C false [] [] (.cons y ky .nil) = .error n) :
    Calls Tryz.prog 8 #[scV s pk ck pa ca, .string who, .string act, .string what, .slice pe (ky.flat.length + 1) ce] w fun en w' => en = .returned (.tuple #[.slice none 0 0, .iface 36 (.int .i64 n)]) ∧ Below w.heap.size w w' := by
  obtain ⟨V, hV⟩ : ∃ V, V = w.alloc (.cells #[.slice pk s.ks.length ck, .slice pa s.acs.length ca] 25) := ⟨_, rfl⟩
  have hbV : Below w.heap.size w V := by rw [hV]; exact kqx
  have HB : Hid (Blk V w.heap.size #[.slice pk s.ks.length ck, .slice pa s.acs.length ca] 25) := by rw [hV]; exact Blk.new w _ _ rfl
  have HSC := scheck_any s pk pa ck ca V (h.up hbV)
  rw [eV_nil c1'] at HSC
  have HTC := fun W (hW : Below V.heap.size V W) => tcheck_any (y :: ky.flat) pe ce W ((he.up (kqt hbV hW)).nl) (Nat.le_trans he.le he.cm)
  simp only [eV_nil c2', List.length_cons] at HTC
  have HAO2 := fun W (hW : Below V.heap.size V W) => actOfC_any s.acs pa ca act W ((h.up (kqt hbV hW)).asl) h8
  rw [ha] at HAO2
  have HCELL : Hid (∀ W, Below V.heap.size V W → W.cell? ⟨w.heap.size, 0, none⟩ = some (.slice pk s.ks.length ck) ∧ W.cell? ⟨w.heap.size, 1, none⟩ = some (.slice pa s.acs.length ca)) := fun W hW => ⟨(HB.out.up hW).cell 0, (HB.out.up hW).cell 1⟩
  have he0 : Hid (AK w (y :: ky.flat) pe ce) := he
  have har : Hid (arC (.cons y ky .nil)) := har'
  have HTO : Hid (TyOk C y ky) := hto
  have HRT : Hid (tyR C false [] [] (.cons y ky .nil) = .error n) := hrt
  clear h he har' hto hrt ha c1' c2'
  unfold scV at *
  go_enter Tryz.func8, Tryz.ntmps8
  go_wp2_with fail
  rw [← hV]
  clear hV
  refine HSC.mono ?_
  rintro _ w1 ⟨rfl, hb1⟩
  go_wp2_with fail
  refine (HTC _ hb1).mono ?_
  rintro _ w2 ⟨rfl, hb2'⟩
  have hb2 := kqt hb1 hb2'
  have y1 := (HCELL.out w2 hb2).2
  go_wp2_with fail
  refine (HAO2 _ hb2).mono ?_
  rintro _ w3 ⟨⟨p0, c0, p1, c1, pt, ct, rfl, hAV⟩, hb3'⟩
  have hb3 := kqt hb2 hb3'
  have HC1 := fun W (hW : Below w3.heap.size w3 W) => containsS_any who a.who p0 c0 W (hAV.up hW).us
  have HC2 := fun W (hW : Below w3.heap.size w3 W) => containsS_any what a.what p1 c1 W (hAV.up hW).vs
  rw [hw1] at HC1
  rw [hw2] at HC2
  clear hAV
  obtain ⟨V4, hV4⟩ : ∃ V4, V4 = w3.alloc (.cells #[.string a.id, .slice p0 a.who.length c0, .slice p1 a.what.length c1, .slice pt a.cx.length ct] 64) := ⟨_, rfl⟩
  have hb4 : Below w3.heap.size w3 V4 := by rw [hV4]; exact kqx
  have y2 := (HCELL.out V4 (kqt hb3 hb4)).1
  rw [hV4] at y2
  obtain ⟨V5, hV5⟩ : ∃ V5, V5 = V4.alloc (.cells #[.slice pk s.ks.length ck, .string who, .string what, .slice pt a.cx.length ct] 72) := ⟨_, rfl⟩
  have hb5 : Below V4.heap.size V4 V5 := by rw [hV5]; exact kqx
  have hb05 := kqt hb3 (kqt hb4 hb5)
  have HB5 : Hid (Blk V5 V4.heap.size #[.slice pk s.ks.length ck, .string who, .string what, .slice pt a.cx.length ct] 72) := by rw [hV5]; exact Blk.new V4 _ _ rfl
  have hs4 : V4.heap.size = w3.heap.size + 1 := by rw [hV4]; simp
  rw [hs4] at HB5
  have HS : Hid (∀ w', Below V5.heap.size V5 w' → w'.cell? ⟨w3.heap.size + 1, 0, none⟩ = some (.slice pk s.ks.length ck) ∧ w'.cell? ⟨w3.heap.size + 1, 1, none⟩ = some (.string who) ∧ w'.cell? ⟨w3.heap.size + 1, 2, none⟩ = some (.string what) ∧ w'.cell? ⟨w3.heap.size + 1, 3, none⟩ = some (.slice pt a.cx.length ct)) := fun W hW => ⟨(HB5.out.up hW).cell 0, (HB5.out.up hW).cell 1, (HB5.out.up hW).cell 2, (HB5.out.up hW).cell 3⟩
  have HWH := fun W (hW : Below V5.heap.size V5 W) => wholeC_any y ky w W pe ce (kqt hbV (kqt hb05 hW)) ⟨he0.out.nl, he0.out.le, he0.out.cm⟩ (by omega) har.out
  go_wp2_with fail
  refine (HC1 _ kqx).mono ?_
  rintro _ _ ⟨rfl, rfl⟩
  go_wp2_with fail
  refine (HC2 _ kqx).mono ?_
  rintro _ _ ⟨rfl, rfl⟩
  go_wp2_with fail
  rw [← hV4, ← hV5]
  clear hV4 hV5 y1 y2
  unfold partC at HWH
  go_region_held (fun w' => w'.cell? ⟨w3.heap.size + 1, 0, none⟩ = some (.slice pk s.ks.length ck) ∧ w'.cell? ⟨w3.heap.size + 1, 1, none⟩ = some (.string who) ∧ w'.cell? ⟨w3.heap.size + 1, 2, none⟩ = some (.string what) ∧ w'.cell? ⟨w3.heap.size + 1, 3, none⟩ = some (.slice pt a.cx.length ct)) (first | exact HS.out _ hb7 | exact HS.out _ hb6 | exact HS.out _ kqx) (first
    | (go_at_call 27
       refine (HWH _ kqx).mono ?_
       rintro _ w6 ⟨⟨v6, u6, rfl, hyw, ⟨qn, cn, rfl, _⟩, hVC⟩, hb6'⟩
       obtain ⟨qv, cv, rfl, _⟩ := hVC.slice
       have hb6 : Below V5.heap.size V5 w6 := kqt kqx hb6'
       have HTY := HTO.out qv qn cv (ky.flat.length + 1) cn _ pk pt s.ks.length ck a.cx.length ct who what w w6 hVC hyw (kqt hbV (kqt hb05 hb6)).size
       rw [HRT.out] at HTY
       unfold partC at HTY
       clear hVC)
    | (go_at_call 26
       refine HTY.mono ?_
       rintro _ w7 ⟨rfl, hb7'⟩
       have hb7 : Below V5.heap.size V5 w7 := kqt hb6 hb7'))
  go_wp2
  exact bodyPost_ret (v := .tuple #[.slice none 0 0, .iface 36 (.int .i64 n)]) (by simp [results, Tryz.results8, go_sem]) rfl ⟨rfl, kqt hbV (kqt hb05 hb7)⟩

set_option maxHeartbeats 1600000 in
theorem typeC_ok (C : CK) (s : Sc) (who act what : ByteArray) (y : Nd) (ky : Tp) (a : Ac) (pk pa pe : Option Addr) (ck ca ce : Nat) (w : World) (h : SA w s pk ck pa ca) (he : AK w (y :: ky.flat) pe ce) (h8 : s.acs.length ≤ 8) (c1' : scf s = 0) (c2' : xfault (y :: ky.flat) = 0) (ha : aofC s.acs act = some a) (hw1 : hasT who a.who = true) (hw2 : hasT what a.what = true) (h9 : ky.flat.length ≤ 199) (har' : arC (.cons y ky .nil)) (hto : TyOk C y ky) (t : Tp) (hrt : tyR C false [] [] (.cons y ky .nil) = .ok t) (ht1 : t.len = 1) (hL9 : t.flat.length ≤ 1099511627776) :
    Calls Tryz.prog 8 #[scV s pk ck pa ca, .string who, .string act, .string what, .slice pe (ky.flat.length + 1) ce] w fun en w' => (∃ q c, en = .returned (.tuple #[.slice q t.flat.length c, .nilIface]) ∧ AK w' t.flat q c) ∧ Below w.heap.size w w' := by
  obtain ⟨V, hV⟩ : ∃ V, V = w.alloc (.cells #[.slice pk s.ks.length ck, .slice pa s.acs.length ca] 25) := ⟨_, rfl⟩
  have hbV : Below w.heap.size w V := by rw [hV]; exact kqx
  have HB : Hid (Blk V w.heap.size #[.slice pk s.ks.length ck, .slice pa s.acs.length ca] 25) := by rw [hV]; exact Blk.new w _ _ rfl
  have HSC := scheck_any s pk pa ck ca V (h.up hbV)
  rw [eV_nil c1'] at HSC
  have HTC := fun W (hW : Below V.heap.size V W) => tcheck_any (y :: ky.flat) pe ce W ((he.up (kqt hbV hW)).nl) (Nat.le_trans he.le he.cm)
  simp only [eV_nil c2', List.length_cons] at HTC
  have HAO2 := fun W (hW : Below V.heap.size V W) => actOfC_any s.acs pa ca act W ((h.up (kqt hbV hW)).asl) h8
  rw [ha] at HAO2
  have HCELL : Hid (∀ W, Below V.heap.size V W → W.cell? ⟨w.heap.size, 0, none⟩ = some (.slice pk s.ks.length ck) ∧ W.cell? ⟨w.heap.size, 1, none⟩ = some (.slice pa s.acs.length ca)) := fun W hW => ⟨(HB.out.up hW).cell 0, (HB.out.up hW).cell 1⟩
  have he0 : Hid (AK w (y :: ky.flat) pe ce) := he
  have har : Hid (arC (.cons y ky .nil)) := har'
  have HTO : Hid (TyOk C y ky) := hto
  have HRT : Hid (tyR C false [] [] (.cons y ky .nil) = .ok t) := hrt
  clear h he har' hto hrt ha c1' c2'
  unfold scV at *
  go_enter Tryz.func8, Tryz.ntmps8
  go_wp2_with fail
  rw [← hV]
  clear hV
  refine HSC.mono ?_
  rintro _ w1 ⟨rfl, hb1⟩
  go_wp2_with fail
  refine (HTC _ hb1).mono ?_
  rintro _ w2 ⟨rfl, hb2'⟩
  have hb2 := kqt hb1 hb2'
  have y1 := (HCELL.out w2 hb2).2
  go_wp2_with fail
  refine (HAO2 _ hb2).mono ?_
  rintro _ w3 ⟨⟨p0, c0, p1, c1, pt, ct, rfl, hAV⟩, hb3'⟩
  have hb3 := kqt hb2 hb3'
  have HC1 := fun W (hW : Below w3.heap.size w3 W) => containsS_any who a.who p0 c0 W (hAV.up hW).us
  have HC2 := fun W (hW : Below w3.heap.size w3 W) => containsS_any what a.what p1 c1 W (hAV.up hW).vs
  rw [hw1] at HC1
  rw [hw2] at HC2
  clear hAV
  obtain ⟨V4, hV4⟩ : ∃ V4, V4 = w3.alloc (.cells #[.string a.id, .slice p0 a.who.length c0, .slice p1 a.what.length c1, .slice pt a.cx.length ct] 64) := ⟨_, rfl⟩
  have hb4 : Below w3.heap.size w3 V4 := by rw [hV4]; exact kqx
  have y2 := (HCELL.out V4 (kqt hb3 hb4)).1
  rw [hV4] at y2
  obtain ⟨V5, hV5⟩ : ∃ V5, V5 = V4.alloc (.cells #[.slice pk s.ks.length ck, .string who, .string what, .slice pt a.cx.length ct] 72) := ⟨_, rfl⟩
  have hb5 : Below V4.heap.size V4 V5 := by rw [hV5]; exact kqx
  have hb05 := kqt hb3 (kqt hb4 hb5)
  have HB5 : Hid (Blk V5 V4.heap.size #[.slice pk s.ks.length ck, .string who, .string what, .slice pt a.cx.length ct] 72) := by rw [hV5]; exact Blk.new V4 _ _ rfl
  have hs4 : V4.heap.size = w3.heap.size + 1 := by rw [hV4]; simp
  rw [hs4] at HB5
  have HS : Hid (∀ w', Below V5.heap.size V5 w' → w'.cell? ⟨w3.heap.size + 1, 0, none⟩ = some (.slice pk s.ks.length ck) ∧ w'.cell? ⟨w3.heap.size + 1, 1, none⟩ = some (.string who) ∧ w'.cell? ⟨w3.heap.size + 1, 2, none⟩ = some (.string what) ∧ w'.cell? ⟨w3.heap.size + 1, 3, none⟩ = some (.slice pt a.cx.length ct)) := fun W hW => ⟨(HB5.out.up hW).cell 0, (HB5.out.up hW).cell 1, (HB5.out.up hW).cell 2, (HB5.out.up hW).cell 3⟩
  have HWH := fun W (hW : Below V5.heap.size V5 W) => wholeC_any y ky w W pe ce (kqt hbV (kqt hb05 hW)) ⟨he0.out.nl, he0.out.le, he0.out.cm⟩ (by omega) har.out
  go_wp2_with fail
  refine (HC1 _ kqx).mono ?_
  rintro _ _ ⟨rfl, rfl⟩
  go_wp2_with fail
  refine (HC2 _ kqx).mono ?_
  rintro _ _ ⟨rfl, rfl⟩
  go_wp2_with fail
  rw [← hV4, ← hV5]
  clear hV4 hV5 y1 y2
  unfold partC at HWH
  go_region_held (fun w' => w'.cell? ⟨w3.heap.size + 1, 0, none⟩ = some (.slice pk s.ks.length ck) ∧ w'.cell? ⟨w3.heap.size + 1, 1, none⟩ = some (.string who) ∧ w'.cell? ⟨w3.heap.size + 1, 2, none⟩ = some (.string what) ∧ w'.cell? ⟨w3.heap.size + 1, 3, none⟩ = some (.slice pt a.cx.length ct)) (first | exact HS.out _ hb7 | exact HS.out _ hb6 | exact HS.out _ kqx) (first
    | (go_at_call 27
       refine (HWH _ kqx).mono ?_
       rintro _ w6 ⟨⟨v6, u6, rfl, hyw, ⟨qn, cn, rfl, _⟩, hVC⟩, hb6'⟩
       obtain ⟨qv, cv, rfl, _⟩ := hVC.slice
       have hb6 : Below V5.heap.size V5 w6 := kqt kqx hb6'
       have HTY := HTO.out qv qn cv (ky.flat.length + 1) cn _ pk pt s.ks.length ck a.cx.length ct who what w w6 hVC hyw (kqt hbV (kqt hb05 hb6)).size
       rw [HRT.out] at HTY
       unfold partC at HTY
       clear hVC)
    | (go_at_call 26
       refine HTY.mono ?_
       rintro _ w7 ⟨⟨q7, c7, rfl, hA7, _⟩, hb7'⟩
       have hb7 : Below V5.heap.size V5 w7 := kqt hb6 hb7'
       have HA7 : Hid (AK0 w7 t.flat q7 c7) := hA7
       clear hA7))
  obtain ⟨N, hN⟩ : ∃ N, N = t.flat.length := ⟨_, rfl⟩
  obtain ⟨zt, mt, rfl⟩ := tp_len1 ht1
  obtain ⟨bt, ot, hq7, _⟩ := (show NL w7 q7 (zt :: mt.flat) by have := HA7.out.nl; simpa [Tp.flat] using this).head
  subst hq7
  have HCL := cloneN_fn (Tp.cons zt mt .nil).flat bt ot c7 w7 HA7.out.nl hL9
  rw [← hN] at HCL ⊢
  have HNN : Hid (N = (Tp.cons zt mt .nil).flat.length) := hN
  clear hN HTY
  go_wp2_with fail
  refine HCL.mono ?_
  rintro _ w8 ⟨⟨q8, c8, rfl, g1, g2, g3⟩, hb8⟩
  have HG : Hid (AK w8 (Tp.cons zt mt .nil).flat q8 c8) := ⟨g1, by rw [← HNN.out]; exact g2, g3⟩
  clear g1 g2 g3 HCL
  go_wp2
  exact bodyPost_ret (v := .tuple #[.slice q8 N c8, .nilIface]) (by simp [results, Tryz.results8, go_sem]) rfl ⟨⟨q8, c8, by rw [HNN.out], HG.out⟩, kqt hbV (kqt hb05 (kqt hb7 hb8))⟩

end Go.Proofs.YtgkbegomekhpcaaGreatDoor
namespace Go.Proofs.YtgkbegomekhpcaaGreatDoor
open Go.RowKit
set_option linter.unusedVariables false
set_option maxRecDepth 100000

theorem okV.arC : ∀ {t : Tp} {m : Option ByteArray}, okV m t → arC t
  | .nil, _, _ => trivial
  | .cons x k r, none, h => by
    obtain ⟨⟨h7, hx, h⟩, hr⟩ := okV.none_iff.1 h
    rcases h with ⟨h5, hl, hk⟩ | ⟨h6, hl, hk⟩ | ⟨h5, h6, rfl⟩
    · exact ⟨by unfold cntC; rw [if_pos (by omega)]; exact hl.symm, okV.arC hk, okV.arC hr⟩
    · exact ⟨by unfold cntC; rw [if_pos (by omega)]; exact hl.symm, okV.arC hk, okV.arC hr⟩
    · refine ⟨?_, trivial, okV.arC hr⟩
      have := nd_val hx
      unfold cntC
      rw [if_neg (by omega), if_neg (by omega), if_neg (by omega), if_neg (by omega)]; rfl
  | .cons x k r, some m, h => by
    obtain ⟨⟨h7, hx, hc⟩, ⟨hl, hk⟩, hr⟩ := okV.some_iff.1 h
    exact ⟨by unfold cntC; rw [if_neg (by omega), if_pos (by omega), hl]; rfl, okV.arC hk, okV.arC hr⟩
/-- A number, as a node. -/
def nuN (n : Int) : Nd := ⟨2, n, e0, e0⟩
/-- A sum of two numbers. -/
def sumT (a b : Int) : Tp := .cons (lfN 17) (.cons (nuN a) .nil (.cons (nuN b) .nil .nil)) .nil
theorem okV_num (n : Int) : okV none (.cons (nuN n) .nil .nil) := by
  refine okV.none_iff.2 ⟨⟨by simp [nuN], ?_, .inr (.inr ⟨by simp [nuN], by simp [nuN], rfl⟩)⟩, okV.nil⟩
  simp [ndOk, nuN, e0]
theorem ty_two (C : CK) (a b : Int) : tyR C false [] [] (.cons (nuN a) .nil (.cons (nuN b) .nil .nil)) = .ok (.cons (lfN 42) .nil (.cons (lfN 42) .nil .nil)) := by
  simp [tyR_cons, tyR_nil, fromT, nuN, leafT, fitsT, Tp.app]
theorem ty_sum (C : CK) (a b : Int) : tyR C false [] [] (sumT a b) = .ok (leafT 42) := by
  unfold sumT
  rw [tyR_cons]
  simp [lfN, ty_two, tyR_nil, fromT, fitsT, areT, leafT, Tp.app]
theorem tyOk_sum (C : CK) (a b : Int) : TyOk C (lfN 17) (.cons (nuN a) .nil (.cons (nuN b) .nil .nil)) := by
  refine tyOk_step C _ _ (by simp [lfN]) (by simp [Tp.len]) (fun z kz hp => ?_) (fun ks hks => ?_)
  · obtain ⟨p, r, e⟩ := hp
    have hz : ∃ n, z = nuN n ∧ kz = .nil := by
      cases p with
      | nil => simp only [Tp.app] at e; cases e; exact ⟨a, rfl, rfl⟩
      | cons y l s =>
        simp only [Tp.app] at e
        injection e with e1 e2 e3
        cases s with
        | nil => simp only [Tp.app] at e3; cases e3; exact ⟨b, rfl, rfl⟩
        | cons y2 l2 s2 =>
          simp only [Tp.app] at e3
          injection e3 with _ _ e4
          cases s2 <;> simp [Tp.app] at e4
    obtain ⟨n, rfl, rfl⟩ := hz
    exact tyOk_val C 1 _ _ (by simp [Tp.flat]) (by simp [Tp.flat]) (.inl (okV_num n))
  · rw [ty_two] at hks
    cases hks
    have hf : ∀ K k ks, fromT C (lfN 17) K k ks = .ok (leafT 42) := fun K k ks => by unfold fromT; rw [if_pos (by simp [lfN])]
    refine ⟨by rw [hf]; exact fromC_leaf _ _ 42 (by simp [lfN]), ?_, fun t ht => by rw [hf] at ht; cases ht; rfl⟩
    have hx : fitsT (lfN 17).op (.cons (lfN 42) .nil (.cons (lfN 42) .nil .nil)) = areL [42] (.cons (lfN 42) .nil (.cons (lfN 42) .nil .nil)) := by decide
    rw [hx]
    intro p c w hv
    exact fitsC_add _ p c w hv (by simp [Tp.len])
end Go.Proofs.YtgkbegomekhpcaaGreatDoor
namespace Go.Proofs.YtgkbegomekhpcaaGreatDoor
open Go.RowKit
set_option linter.unusedVariables false
set_option linter.unusedSimpArgs false
set_option maxRecDepth 100000

theorem AK.sameV {a b : List Nd} {w : World} {p q : Option Addr} {c d : Nat} (ha : AK w a p c) (hb : AK w b q d) : Calls Tryz.prog 11 #[.slice p a.length c, .slice q b.length d] w fun e w' => e = .returned (.bool (sameNd a b)) ∧ Below w.heap.size w w' := by
  refine (sameNodes_any a b p q c d w ha.nl hb.nl (Nat.le_trans ha.le ha.cm) (Nat.le_trans hb.le hb.cm)).mono ?_
  rintro _ _ ⟨rfl, n, rfl⟩
  exact ⟨rfl, ⟨rfl, rfl, rfl, Nat.le_refl _, fun _ _ => rfl⟩⟩
theorem cnum_fn (n : Int) (w : World) :
    Calls Tryz.prog 21 #[.int .i64 n] w fun e w' => e = .returned (.agg #[.int .i64 2, .int .i64 n, .string ⟨#[]⟩, .string ⟨#[]⟩]) ∧ Below w.heap.size w w' := by
  go_enter Tryz.func21, Tryz.ntmps21
  go_wp2
  refine bodyPost_ret (v := .agg #[.int .i64 2, .int .i64 n, .string ⟨#[]⟩, .string ⟨#[]⟩]) (by simp [results, Tryz.results21, go_sem]) rfl ⟨rfl, ?_⟩
  exact (Below.refl _ _).alloc (Nat.le_refl _) _
def bA1 : ByteArray := ⟨#[65]⟩
def bSee : ByteArray := ⟨#[115, 101, 101]⟩
def rec0 : Nd := ⟨46, 0, ⟨#[]⟩, ⟨#[]⟩⟩
def ac1 : Ac := ⟨bSee, [bA1], [bA1], [rec0]⟩
def sc1 : Sc := ⟨[], [ac1]⟩
def ckN : CK := ⟨[], e0, e0, .nil⟩
theorem rec0_ty : KTy [rec0] rec0 .nil := ⟨T1.iff.2 (.rcd .nil rfl), rfl⟩
theorem sc1_good : scf sc1 = 0 := by
  have h1 : rcf [rec0] = 0 := by
    unfold rcf
    rw [kfault_ok (by simp) rec0_ty]
    rfl
  have h2 : acf [] ac1 = 0 := by
    unfold acf ac1
    simp only [h1]
    decide
  unfold scf sc1
  simp only [ksf, asf, h2]
  decide
theorem sum_ex : xfault [lfN 17, nuN 2, nuN 3] = 0 := by kernel_rfl
theorem ac1_find : aofC sc1.acs bSee = some ac1 := by
  unfold aofC sc1 ac1
  rw [List.find?_cons_of_pos (by simp)]
theorem ac1_has : hasT bA1 [bA1] = true := by simp [hasT]
/-- The nodes of the sum, in a block. -/
theorem sum_lies (w : World) {B : Nat} (hB : B = w.heap.size) : AK (w.alloc (.cells #[.int .i64 17, .int .i64 0, .string ⟨#[]⟩, .string ⟨#[]⟩, .int .i64 2, .int .i64 2, .string ⟨#[]⟩, .string ⟨#[]⟩, .int .i64 2, .int .i64 3, .string ⟨#[]⟩, .string ⟨#[]⟩] 33)) [lfN 17, nuN 2, nuN 3] (some ⟨B, 0, none⟩) 3 := by
  subst hB
  refine ⟨NL.lit w _ _ (fun x hx => ?_) rfl (by simp), by simp, by unfold maxLen; decide⟩
  simp only [List.mem_cons, List.not_mem_nil, or_false] at hx
  rcases hx with rfl | rfl | rfl
  · exact ⟨Nat.zero_le _, Nat.zero_le _, by show (0 : Int) ≤ _; decide⟩
  · exact ⟨Nat.zero_le _, Nat.zero_le _, by show (2 : Int) ≤ _; decide⟩
  · exact ⟨Nat.zero_le _, Nat.zero_le _, by show (3 : Int) ≤ _; decide⟩
theorem one_text {w : World} {B : Nat} {s : ByteArray} {T : TypeId} (h : Blk w B #[.string s] T) : TL w (some ⟨B, 0, none⟩) [s] := by
  refine .inr ⟨B, 0, rfl, h.lt, fun i t ht => ?_⟩
  cases i with
  | succ i => simp at ht
  | zero =>
    simp only [List.getElem?_cons_zero, Option.some.injEq] at ht
    subst ht
    exact h.cell (0 + 0)
/-- The schema of the fact, in blocks. -/
theorem sc1_lies {w : World} {B : Nat} {c3 : World} (h0 : w.heap.size = B) (hc : c3 = (((w.alloc (.cells #[.string ⟨#[65]⟩] 9)).alloc (.cells #[.string ⟨#[65]⟩] 9)).alloc (.cells #[.int .i64 46, .int .i64 0, .string ⟨#[]⟩, .string ⟨#[]⟩] 33)).alloc (.cells #[.string ⟨#[115, 101, 101]⟩, .slice (some ⟨B, 0, none⟩) 1 1, .slice (some ⟨B + 1, 0, none⟩) 1 1, .slice (some ⟨B + 1 + 1, 0, none⟩) 1 1] 64)) :
    SA c3 sc1 none 0 (some ⟨B + 1 + 1 + 1, 0, none⟩) 1 ∧ Below w.heap.size w c3 := by
  subst h0 hc
  refine ⟨⟨.inl rfl, Nat.le_refl _, Nat.zero_le _, .inr ⟨_, _, rfl, by simp, fun i a ha => ?_⟩, by simp [sc1], by unfold maxLen; decide⟩, kqx⟩
  cases i with
  | succ i => simp [sc1] at ha
  | zero =>
    simp only [sc1, List.getElem?_cons_zero, Option.some.injEq] at ha
    subst ha
    have hz : (1 : Nat) ≤ maxLen := by unfold maxLen; decide
    refine ⟨some ⟨w.heap.size, 0, none⟩, 1, some ⟨w.heap.size + 1, 0, none⟩, 1, some ⟨w.heap.size + 1 + 1, 0, none⟩, 1, ⟨by unfold maxLen; decide, ⟨?_, ?_, Nat.le_refl _, hz⟩, ⟨?_, ?_, Nat.le_refl _, hz⟩, ⟨?_, Nat.le_refl _, hz⟩⟩, ?_, ?_, ?_, ?_⟩
    · exact one_text (T := 9) ((((Blk.new w _ _ rfl).up kqx).up kqx).up kqx)
    · intro t ht; simp only [ac1, List.mem_singleton] at ht; subst ht; unfold maxLen; decide
    · exact one_text (T := 9) (((Blk.new (w.alloc _) (B := w.heap.size + 1) _ _ (by simp)).up kqx).up kqx)
    · intro t ht; simp only [ac1, List.mem_singleton] at ht; subst ht; unfold maxLen; decide
    · have h1 := NL.lit ((w.alloc (.cells #[.string ⟨#[65]⟩] 9)).alloc (.cells #[.string ⟨#[65]⟩] 9)) [rec0] #[.int .i64 46, .int .i64 0, .string ⟨#[]⟩, .string ⟨#[]⟩] (fun x hx => by simp only [List.mem_singleton] at hx; subst hx; exact ⟨Nat.zero_le _, Nat.zero_le _, by show (0 : Int) ≤ _; decide⟩) rfl (by simp)
      have h2 := h1.up (w' := (((w.alloc (.cells #[.string ⟨#[65]⟩] 9)).alloc (.cells #[.string ⟨#[65]⟩] 9)).alloc (.cells #[.int .i64 46, .int .i64 0, .string ⟨#[]⟩, .string ⟨#[]⟩] 33)).alloc (.cells #[.string ⟨#[115, 101, 101]⟩, .slice (some ⟨w.heap.size, 0, none⟩) 1 1, .slice (some ⟨w.heap.size + 1, 0, none⟩) 1 1, .slice (some ⟨w.heap.size + 1 + 1, 0, none⟩) 1 1] 64)) kqx
      rw [show ac1.cx = [rec0] from rfl]
      simpa using h2
    · exact (Blk.new _ _ _ (by simp)).cell (0 + 0 * 4)
    · exact (Blk.new _ _ _ (by simp)).cell (0 + 0 * 4 + 1)
    · exact (Blk.new _ _ _ (by simp)).cell (0 + 0 * 4 + 2)
    · exact (Blk.new _ _ _ (by simp)).cell (0 + 0 * 4 + 3)
set_option maxHeartbeats 2000000 in
theorem typed_any (w : World) : Calls Tryz.prog 7 #[] w fun e w' => e = .returned (.bool true) ∧ Below w.heap.size w w' := by
  obtain ⟨V0, hV0⟩ : ∃ V0, V0 = (((w.alloc (.cells #[.string ⟨#[65]⟩] 9)).alloc (.cells #[.string ⟨#[65]⟩] 9)).alloc (.cells #[.int .i64 46, .int .i64 0, .string ⟨#[]⟩, .string ⟨#[]⟩] 33)).alloc (.cells #[.string ⟨#[115, 101, 101]⟩, .slice (some ⟨w.heap.size, 0, none⟩) 1 1, .slice (some ⟨w.heap.size + 1, 0, none⟩) 1 1, .slice (some ⟨w.heap.size + 1 + 1, 0, none⟩) 1 1] 64) := ⟨_, rfl⟩
  obtain ⟨hsa, hb0⟩ := sc1_lies rfl hV0
  have hs0 : V0.heap.size = w.heap.size + 1 + 1 + 1 + 1 := by rw [hV0]; simp
  obtain ⟨V, hV⟩ : ∃ V, V = V0.alloc (.cells #[.slice none 0 0, .slice (some ⟨w.heap.size + 1 + 1 + 1, 0, none⟩) 1 1] 25) := ⟨_, rfl⟩
  have hb1 : Below V0.heap.size V0 V := by rw [hV]; exact kqx
  have hbV : Below w.heap.size w V := kqt hb0 hb1
  have HSA : Hid (∀ w', Below V.heap.size V w' → SA w' sc1 none 0 (some ⟨w.heap.size + 1 + 1 + 1, 0, none⟩) 1) := fun w' hk => hsa.up (kqt hb1 hk)
  have HS : Hid (∀ w', Below V.heap.size V w' → w'.cell? ⟨w.heap.size + 1 + 1 + 1 + 1, 0, none⟩ = some (.slice none 0 0) ∧ w'.cell? ⟨w.heap.size + 1 + 1 + 1 + 1, 1, none⟩ = some (.slice (some ⟨w.heap.size + 1 + 1 + 1, 0, none⟩) 1 1)) := fun w' hk => by
    have hb : Blk V (w.heap.size + 1 + 1 + 1 + 1) #[.slice none 0 0, .slice (some ⟨w.heap.size + 1 + 1 + 1, 0, none⟩) 1 1] 25 := by rw [hV]; exact Blk.new V0 _ _ hs0.symm
    exact ⟨(hb.up hk).cell 0, (hb.up hk).cell 1⟩
  have HTY := fun (W : World) (B : Nat) (hW : Below V.heap.size V W) (hak : AK W [lfN 17, nuN 2, nuN 3] (some ⟨B, 0, none⟩) 3) =>
    typeC_ok ckN sc1 bA1 bSee bA1 (lfN 17) (.cons (nuN 2) .nil (.cons (nuN 3) .nil .nil)) ac1 none (some ⟨w.heap.size + 1 + 1 + 1, 0, none⟩) (some ⟨B, 0, none⟩) 0 1 3 W (HSA.out W hW) hak (by decide) sc1_good sum_ex ac1_find ac1_has ac1_has (by decide) ⟨rfl, ⟨rfl, trivial, ⟨rfl, trivial, trivial⟩⟩, trivial⟩ (tyOk_sum ckN 2 3) (leafT 42) (ty_sum ckN 2 3) rfl (by decide)
  clear hsa hs0 hb0
  go_enter Tryz.func7, Tryz.ntmps7
  go_wp2_with fail
  rw [← hV0, ← hV]
  clear hV hV0 hb1
  go_region_held (fun w' => w'.cell? ⟨w.heap.size + 1 + 1 + 1 + 1, 0, none⟩ = some (.slice none 0 0) ∧ w'.cell? ⟨w.heap.size + 1 + 1 + 1 + 1, 1, none⟩ = some (.slice (some ⟨w.heap.size + 1 + 1 + 1, 0, none⟩) 1 1)) (first | exact HS.out _ hb8 | exact HS.out _ hb7 | exact HS.out _ hb6 | exact HS.out _ (kqt hb7 kqx) | exact HS.out _ (kqt hb6 kqx) | exact HS.out _ kqx) (first
    | (go_at_call 8
       refine (HTY _ _ ?_ (sum_lies _ rfl)).mono ?_
       · exact kqt hb7 kqx
       rintro _ w8 ⟨⟨q8, c8, rfl, hA8⟩, hb8'⟩
       have hb8 : Below V.heap.size V w8 := kqt (kqt hb7 kqx) hb8')
    | (go_at_call 21
       refine (cnum_fn 2 _).mono ?_
       rintro _ w6 ⟨rfl, hb6'⟩
       have hb6 : Below V.heap.size V w6 := kqt kqx hb6')
    | (go_at_call 21
       refine (cnum_fn 3 _).mono ?_
       rintro _ w7 ⟨rfl, hb7'⟩
       have hb7 : Below V.heap.size V w7 := kqt hb6 hb7'))
  have hS := fun (W : World) (B : Nat) (hW : Below w8.heap.size w8 W) (hak : AK W [lfN 42] (some ⟨B, 0, none⟩) 1) => AK.sameV (hA8.up hW) hak
  have HSN : Hid (∀ W B, Below w8.heap.size w8 W → AK W [lfN 42] (some ⟨B, 0, none⟩) 1 → Calls Tryz.prog 11 #[.slice q8 1 c8, .slice (some ⟨B, 0, none⟩) 1 1] W fun e w' => e = .returned (.bool true) ∧ Below W.heap.size W w') := fun W B hW hak => by
    refine (hS W B hW hak).mono ?_
    rintro e w' ⟨rfl, hb⟩
    exact ⟨by rw [show (leafT 42).flat = [lfN 42] from rfl, (sameNd_iff _ _).2 rfl], hb⟩
  clear hS hA8
  go_wp2_with fail
  refine (HSN.out _ _ kqx (by refine ⟨NL.lit w8 [lfN 42] _ (fun x hx => by simp only [List.mem_singleton] at hx; subst hx; exact ⟨Nat.zero_le _, Nat.zero_le _, by show (0 : Int) ≤ _; decide⟩) rfl (by simp), by simp, by unfold maxLen; decide⟩)).mono ?_
  rintro _ w9 ⟨rfl, hb9⟩
  go_wp2
  go_ret
  exact ⟨rfl, kqt hbV (kqt hb8 (kqt kqx hb9))⟩
end Go.Proofs.YtgkbegomekhpcaaGreatDoor
