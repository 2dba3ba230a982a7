/- Package kinds: Join, by a walk of its own text. Package check: leaf, entOf, fit, setOf, by walks of their own texts. Package check: setOf, by a walk of its own text. Package check: is, areAll, fits (values, and sums), by walks of their own texts; slices.Contains at whole numbers. Package kinds: Own; the statements' use of it. -/
import Derived.Test.YtgkbegomekhpcaaGreatDoorC21
import Derived.Test.YtgkbegomekhpcaaGreatDoorC17
import Derived.Test.YtgkbegomekhpcaaGreatDoorC16
import Derived.Test.YtgkbegomekhpcaaGreatDoorC10
import Derived.Test.YtgkbegomekhpcaaGreatDoorC11
import Derived.Test.YtgkbegomekhpcaaGreatDoorC15
import Derived.Test.YtgkbegomekhpcaaGreatDoorC18
namespace Go.Proofs.YtgkbegomekhpcaaGreatDoor
open Go.RowKit
set_option linter.unusedVariables false
set_option linter.unusedSectionVars false
set_option maxRecDepth 100000

section
variable (a b : List Nd) (w : World) (p q : Option Addr) (c d : Nat) (ha : NL w p a) (hb : NL w q b) (hc : a.length ≤ c) (hcm : c ≤ maxLen) (hd : b.length ≤ d) (hdm : d ≤ maxLen)
include ha hb hc hcm hd hdm
theorem kjoin_err (h : bfault a b ≠ 0) :
    Calls Tryz.prog 120 #[.slice p a.length c, .slice q b.length d] w fun e w' => e = .returned (.tuple #[.slice none 0 0, .iface 36 (.int .i64 (bfault a b))]) ∧ Below w.heap.size w w' := by
  have hC := readBoth_err a b w p q c d ha hb hc hcm hd hdm h
  generalize bfault a b = n at *
  clear ha hb
  go_enter Tryz.func120, Tryz.ntmps120
  go_wp2_with fail
  refine hC.mono ?_
  rintro _ w1 ⟨rfl, hb1⟩
  go_wp2
  exact bodyPost_ret (v := .tuple #[.slice none 0 0, .iface 36 (.int .i64 n)]) (by simp [results, Tryz.results120, go_sem]) rfl ⟨rfl, kqA (kqA hb1)⟩
theorem kjoin_ok (x y : Nd) (k l : Tp) (hla : a.length ≤ 200) (hlb : b.length ≤ 200) (hk : KTy a x k) (hl : KTy b y l) :
    Calls Tryz.prog 120 #[.slice p a.length c, .slice q b.length d] w fun e w' => FitRet w' (jn false (.cons x k .nil) (.cons y l .nil)).flat e ∧ Below w.heap.size w w' := by
  have hC := readBoth_ok a b w p q c d ha hb hc hcm hd hdm x y k l hla hlb hk hl
  have hkf : k.flat.length ≤ 1000 := by rw [hk.2] at hla; simp at hla; omega
  have hlf : l.flat.length ≤ 1000 := by rw [hl.2] at hlb; simp at hlb; omega
  have HB := fun W v u S h1 h2 h3 h4 => joinK x k y l W v u S h1 h2 h3 h4 (T1.iff.1 hk.1) (T1.iff.1 hl.1) hkf hlf
  have HN : Hid ((jn false (.cons x k .nil) (.cons y l .nil)).flat.length ≤ 100001) := by
    have := jn_flat _ _ (Nat.lt_succ_self _) hk.1 hl.1
    simp only [Tp.flat, List.length_cons, List.length_append, List.length_nil] at this
    show _ ≤ _
    omega
  generalize jn false (.cons x k .nil) (.cons y l .nil) = R at *
  clear ha hb hk hl hkf hlf
  unfold partV at HB
  go_enter Tryz.func120, Tryz.ntmps120
  go_wp2_with fail
  refine hC.mono ?_
  rintro _ w1 ⟨⟨q1, c1, q2, c2, rfl, hxw, hyw, hu, hv⟩, hb1⟩
  have hbk : ∀ o1 o2, Below w1.heap.size w1 ((w1.alloc o1).alloc o2) := fun o1 o2 => kqx
  have HC := fun o1 o2 => HB _ _ _ _ (hu.up (hbk o1 o2)) (hv.up (hbk o1 o2)) hxw hyw
  clear hC HB hu hv
  go_wp2_with fail
  refine (HC _ _).mono ?_
  rintro _ w2 ⟨⟨xj, kj, qj, cj, hR, rfl, hxj, hvj⟩, hb2⟩
  have HR : Hid (R.flat = xj :: kj.flat) := by show _ = _; rw [hR]; simp [Tp.flat]
  clear hR
  have hF := fit_any xj kj w2 _ _ hvj hxj (by have := HN.out; rw [HR.out] at this; simp at this; omega)
  unfold partV at hF
  clear HC
  go_wp2_with fail
  refine hF.mono ?_
  rintro en w3 ⟨hR, hb3⟩
  have hb03 := kqt hb1 (kqt (hbk _ _) (kqt hb2 hb3))
  rcases hR with ⟨hL, q3, c3, rfl, hn3, h1, h2⟩ | ⟨hL, rfl⟩
  · have HL : Hid ((xj :: kj.flat).length ≤ 200) := hL
    clear hL
    generalize xj :: kj.flat = L at *
    go_wp2
    exact bodyPost_ret (v := .tuple #[.slice q3 L.length c3, .nilIface]) (by simp [results, Tryz.results120, go_sem]) rfl ⟨by rw [HR.out]; exact .inl ⟨HL.out, q3, c3, rfl, hn3, h1, h2⟩, hb03⟩
  · have HL : Hid (200 < (xj :: kj.flat).length) := hL
    clear hL
    generalize xj :: kj.flat = L at *
    go_wp2
    exact bodyPost_ret (v := .tuple #[.slice none 0 0, .iface 36 (.int .i64 4)]) (by simp [results, Tryz.results120, go_sem]) rfl ⟨by rw [HR.out]; exact .inr ⟨HL.out, rfl⟩, hb03⟩
end
end Go.Proofs.YtgkbegomekhpcaaGreatDoor
namespace Go.Proofs.YtgkbegomekhpcaaGreatDoor
open Go.RowKit
set_option linter.unusedVariables false
set_option linter.unusedSimpArgs false
set_option maxRecDepth 100000

theorem one_newF {w0 w W' : World} {B : Nat} (x : Nd) (hx : x.wf) (hB : B = w.heap.size) (h0 : w0.heap.size ≤ B) (hb : Below (w.alloc (.cells #[.int .i64 x.op, .int .i64 x.n, .string x.s, .string x.t] 33)).heap.size (w.alloc (.cells #[.int .i64 x.op, .int .i64 x.n, .string x.s, .string x.t] 33)) W') : KRetF w0 W' [x] (.returned (.slice (some ⟨B, 0, none⟩) 1 1)) := by
  obtain ⟨q, c, e, h⟩ := one_newN x hx hB hb
  cases e
  exact ⟨_, _, rfl, h, fun b o e => by cases e; exact h0⟩
/-- What fit tells, in new memory. -/
def FitRetF (w w' : World) (L : List Nd) (en : Ending) : Prop := (L.length ≤ 200 ∧ ∃ q c, en = .returned (.tuple #[.slice q L.length c, .nilIface]) ∧ AK0 w' L q c ∧ ∀ b o, q = some ⟨b, o, none⟩ → w.heap.size ≤ b) ∨ (200 < L.length ∧ en = .returned (.tuple #[.slice none 0 0, .iface 36 (.int .i64 4)]))
theorem leafC_any (o : Int) (ho : o ≤ 100) (w : World) : Calls Tryz.prog 115 #[.int .i64 o] w fun e w' => KRetF w w' [lfN o] e ∧ Below w.heap.size w w' := by
  go_enter Tryz.func115, Tryz.ntmps115
  go_wp2
  go_ret
  exact ⟨one_newF (lfN o) (lf_wf _ ho) rfl (Nat.le_refl _) (Below.refl _ _), kqx⟩
theorem entOfC_any (s : ByteArray) (hs : s.size ≤ maxLen) (w : World) : Calls Tryz.prog 116 #[.string s] w fun e w' => KRetF w w' [⟨44, 0, s, e0⟩] e ∧ Below w.heap.size w w' := by
  have HW : Hid ((⟨44, 0, s, e0⟩ : Nd).wf) := ⟨hs, by show e0.size ≤ maxLen; unfold e0 maxLen; exact Nat.zero_le _, by show (0 : Int) ≤ _; omega⟩
  go_enter Tryz.func116, Tryz.ntmps116
  go_wp2
  go_ret
  exact ⟨one_newF ⟨44, 0, s, e0⟩ HW.out rfl (Nat.le_refl _) (Below.refl _ _), kqx⟩
theorem catL_rows : ∀ t : Tp, catL (rows t) = t.flat
  | .nil => rfl
  | .cons f k r => by simp [catL, rows, Tp.flat, catL_rows r]
set_option maxHeartbeats 2000000 in
theorem fitC_any (x : Nd) (hx : x.wf) (ls : List (List Nd)) (hne : ∀ l ∈ ls, l ≠ []) (p : Option Addr) (c : Nat) (w : World) (hv : LL w p ls) (hl : (catL ls).length ≤ 100000) (hn : ls.length ≤ 100000) :
    Calls Tryz.prog 118 #[.agg #[.int .i64 x.op, .int .i64 x.n, .string x.s, .string x.t], .slice p ls.length c] w fun e w' => FitRetF w w' (x :: catL ls) e ∧ Below w.heap.size w w' := by
  have HL : Hid (LL w p ls) := hv
  have HNE : Hid (∀ l ∈ ls, l ≠ []) := hne
  have HSZ : Hid ((catL ls).length ≤ 100000) := hl
  obtain ⟨V, hV⟩ : ∃ V, V = (w.alloc (.cells #[.int .i64 x.op, .int .i64 x.n, .string x.s, .string x.t] 33)).alloc (.cells #[.int .i64 x.op, .int .i64 x.n, .string x.s, .string x.t] 33) := ⟨_, rfl⟩
  have hbV : Below w.heap.size w V := by rw [hV]; exact kqx
  have hO0 : ON V w.heap.size (.slice (some ⟨w.heap.size + 1, 0, none⟩) 1 1) [x] := by
    refine ⟨⟨by simp [ncells], .inr ⟨w.heap.size + 1, 1, _, rfl, by omega, by rw [hV]; have := (MapKept.heap_alloc (w.alloc (.cells #[.int .i64 x.op, .int .i64 x.n, .string x.s, .string x.t] 33)) (.cells #[.int .i64 x.op, .int .i64 x.n, .string x.s, .string x.t] 33)).1; rw [show (w.alloc (.cells #[.int .i64 x.op, .int .i64 x.n, .string x.s, .string x.t] 33)).heap.size = w.heap.size + 1 by simp] at this; exact this, Nat.le_refl _, by unfold maxLen; omega, rfl, by simp [ncells]⟩⟩, fun y hy => ?_⟩
    rw [List.mem_singleton.1 hy]
    exact hx
  clear hv hne hl
  go_enter Tryz.func118, Tryz.ntmps118
  go_wp2_with fail
  rw [← hV]
  clear hV
  go_loopw [6, 8, 13] (fun ov _ iv wr => ∃ (a r : List (List Nd)) (i : Nat) (qo : Option Addr) (mo co : Nat), Hid (ls = a ++ r) ∧ Hid (a.length = i) ∧ i ≤ ls.length ∧ iv = .int .i64 i ∧ ov = .slice qo mo co ∧ Hid (mo = (x :: catL a).length) ∧ Hid (ON wr w.heap.size (.slice qo mo co) (x :: catL a)) ∧ Below w.heap.size w wr) (fun _ _ iv _ => ls.length - (intOf iv).toNat)
  case atStart => exact ⟨[], ls, 0, _, _, _, rfl, rfl, Nat.zero_le _, rfl, rfl, rfl, hO0, hbV⟩
  case round =>
    rename World => wr
    obtain ⟨a, r, i, qo, mo, co, HD, HI, hik, rfl, rfl, HMO, HO, hbr⟩ := hrel
    cases r with
    | nil =>
      have hla : a = ls := by have := HD.out; rw [List.append_nil] at this; exact this.symm
      have hil : i = ls.length := by rw [← HI.out, hla]
      have i3 : ¬ (i : Int) < (ls.length : Int) := by omega
      by_cases hm : 200 < mo
      · have HR : Hid (200 < (x :: catL ls).length) := by show _ < _; rw [← hla, ← HMO.out]; exact hm
        have i4 : (200 : Int) < (mo : Int) := by omega
        clear hla hil hm HMO HO HD
        go_wp2
        exact bodyPost_ret (v := .tuple #[.slice none 0 0, .iface 36 (.int .i64 4)]) (by simp [results, Tryz.results118, go_sem]) rfl ⟨.inr ⟨HR.out, rfl⟩, hbr⟩
      · have HR : Hid ((x :: catL ls).length ≤ 200) := by show _ ≤ _; rw [← hla, ← HMO.out]; omega
        have HN : Hid (AK0 wr (x :: catL ls) qo co ∧ ∀ b o, qo = some ⟨b, o, none⟩ → w.heap.size ≤ b) := by
          have h := HO.out
          rw [HMO.out] at h
          rw [← hla]
          exact ⟨⟨h.nl, h.cap.1, h.cap.2⟩, fun b o e => by subst e; exact (ownP_lt HO.out.1 rfl).2⟩
        have HMS : Hid (mo = (x :: catL ls).length) := by show _ = _; rw [← hla]; exact HMO.out
        have i4 : ¬ (200 : Int) < (mo : Int) := by omega
        clear hla hil hm HMO HO HD
        go_wp2
        exact bodyPost_ret (v := .tuple #[.slice qo mo co, .nilIface]) (by simp [results, Tryz.results118, go_sem]) rfl ⟨.inl ⟨HR.out, qo, co, by rw [HMS.out], HN.out.1, HN.out.2⟩, hbr⟩
    | cons l r =>
      have hlt : i < ls.length := by rw [← HI.out, HD.out]; simp
      have i3 : (i : Int) < (ls.length : Int) := by omega
      have hlr := HL.out.up hbr
      rw [HD.out] at hlr
      obtain ⟨b1, o1, q1, c1, hp1, hb1, x0, hn1, hle1, hcm1⟩ := hlr.here
      have hle : ls.length = (a ++ l :: r).length := by rw [← HD.out]
      rw [HI.out] at x0
      subst hp1
      have hlne : l ≠ [] := HNE.out l (by rw [HD.out]; simp)
      obtain ⟨b2, o2, hq1⟩ : ∃ b o, q1 = some ⟨b, o, none⟩ := by
        rcases hn1 with h | ⟨b, o, h, _⟩
        · exact absurd h hlne
        · exact ⟨b, o, h⟩
      subst hq1
      have hsz : (catL a).length + l.length ≤ 100000 := by
        have := HSZ.out
        rw [HD.out, catL_app] at this
        simp only [catL, List.length_append] at this
        omega
      have HD2 : Hid (ls = (a ++ [l]) ++ r) := by show _ = _; rw [HD.out]; simp
      have HI2 : Hid ((a ++ [l]).length = i + 1) := by show _ = _; rw [List.length_append, HI.out]; rfl
      have HE : Hid ((x :: catL a) ++ l = x :: catL (a ++ [l])) := by show _ = _; rw [catL_app]; simp [catL]
      have HN1 : Hid (NL wr (some ⟨b2, o2, none⟩) l) := hn1
      have hgb : ∀ g, (Value.slice qo mo co).ownBlock = some g → w.heap.size ≤ g := fun g hg => (ownP_lt HO.out.1 hg).2
      clear hlr hn1 hle hlne HD HI
      go_wp2_with (first | (at_builtin; refine Hid.out ?_))
      show wpList _ _ _ _ _ _
      refine append_nodesG wr rfl (.tmp 17) (.tmp 18) rfl w.heap.size (.slice qo mo co) (x :: catL a) rfl HO.out l l.length rfl b2 o2 c1 HN1.out rfl (by simp; omega) hbr.size ?_
      intro v5 w5 hO5 hg5 ha5
      rw [HE.out] at hO5
      have hb5 : Below w.heap.size w w5 := hbr.trans (grown_belowG hg5 hgb hbr.size)
      obtain ⟨q5, c5, rfl⟩ := hO5.any
      obtain ⟨M5, hM5⟩ : ∃ M, M = (x :: catL (a ++ [l])).length := ⟨_, rfl⟩
      have HM5 : Hid (M5 = (x :: catL (a ++ [l])).length) := hM5
      have HO5 : Hid (ON w5 w.heap.size (.slice q5 M5 c5) (x :: catL (a ++ [l]))) := by rw [hM5]; exact hO5
      rw [← hM5]
      clear hO5 hM5 HO HMO
      go_wp2_with fail
      go_roundw
      case rel => exact ⟨a ++ [l], r, i + 1, q5, M5, c5, HD2, HI2, by omega, by go_num, rfl, HM5, HO5, hb5⟩
      case measure => simp [intOf]; omega
end Go.Proofs.YtgkbegomekhpcaaGreatDoor
namespace Go.Proofs.YtgkbegomekhpcaaGreatDoor
open Go.RowKit
set_option linter.unusedVariables false
set_option linter.unusedSimpArgs false
set_option maxRecDepth 100000

/-- The type of a set whose parts have these. -/
def setT (ks : Tp) : Except Int Tp := match jallE (leafT 49) ks with | .ok j => fitT (.cons (lfN 45) j .nil) | .error n => .error n
/-- A type is told, or an error. -/
def TRet (w0 w w' : World) (r : Except Int Tp) (e : Ending) : Prop := match r with
  | .ok t => ∃ q c, e = .returned (.tuple #[.slice q t.flat.length c, .nilIface]) ∧ AK0 w' t.flat q c ∧ ∀ b o, q = some ⟨b, o, none⟩ → b < w0.heap.size ∨ w.heap.size ≤ b
  | .error n => e = .returned (.tuple #[.slice none 0 0, .iface 36 (.int .i64 n)])
theorem fit_ret {w0 w v w' : World} {t : Tp} {e : Ending} (h : FitRetF v w' t.flat e) (hw : w.heap.size ≤ v.heap.size) : TRet w0 w w' (fitT t) e := by
  unfold fitT
  rcases h with ⟨h1, q, c, h2, h3, h4⟩ | ⟨h1, h2⟩
  · rw [if_pos h1]; exact ⟨q, c, h2, h3, fun b o e => .inr (Nat.le_trans hw (h4 b o e))⟩
  · rw [if_neg (by omega)]; exact h2
theorem jallE_app : ∀ (a b acc : Tp), jallE acc (a.app b) = match jallE acc a with | .ok j => jallE j b | .error n => .error n
  | .nil, b, acc => rfl
  | .cons x k r, b, acc => by
    simp only [Tp.app, jallE]
    split
    · exact jallE_app r b _
    · rfl
theorem ty_split : ∀ {a r : Tp} {f : Nd} {kf : Tp}, isTy none (a.app (.cons f kf r)) = true → T1 (.cons f kf .nil)
  | .nil, r, f, kf, h => T1.iff.2 (isTy_none_cons.1 h).1
  | .cons y l s, r, f, kf, h => ty_split (a := s) (isTy_none_cons.1 h).2
theorem LL.row {w : World} {p : Option Addr} {l : Tp} (h : LL w p (rows l)) {d r : Tp} {f : Nd} {lf : Tp} (e : l = d.app (.cons f lf r)) : ∃ b off pi ci, p = some ⟨b, off, none⟩ ∧ b < w.heap.size ∧ w.cell? ⟨b, off + d.len, none⟩ = some (.slice pi (f :: lf.flat).length ci) ∧ AK0 w (f :: lf.flat) pi ci := by
  have hat := rows_at e
  rcases h with h | ⟨b, off, h1, h2, h3⟩
  · rw [h] at hat; simp at hat
  · obtain ⟨q, c, h4, h5, h6, h7⟩ := h3 _ _ hat
    exact ⟨b, off, q, c, h1, h2, h4, h5, h6, h7⟩
theorem LL.single (W : World) (q : Option Addr) (c : Nat) (L : List Nd) (h : AK0 W L q c) {B : Nat} (hB : B = W.heap.size) : LL (W.alloc (.cells #[.slice q L.length c] 26)) (some ⟨B, 0, none⟩) [L] := by
  have hk := Blk.new W (B := B) #[.slice q L.length c] 26 hB
  have hb : Below W.heap.size W (W.alloc (.cells #[.slice q L.length c] 26)) := kqx
  refine .inr ⟨B, 0, rfl, hk.lt, fun i v hv => ?_⟩
  cases i with
  | succ i => simp at hv
  | zero =>
    simp only [List.getElem?_cons_zero, Option.some.injEq] at hv
    subst hv
    exact ⟨q, c, hk.cell 0, h.nl.up hb, h.le, h.cm⟩
set_option maxHeartbeats 2000000 in
theorem setOfC_any (ks : Tp) (hk : isTy none ks = true) (h2 : ∀ l ∈ rows ks, l.length ≤ 200) (p : Option Addr) (c : Nat) (w0 w : World) (hv : LL w p (rows ks)) (hn : ks.len ≤ 1000) :
    Calls Tryz.prog 117 #[.slice p ks.len c] w fun e w' => TRet w0 w w' (setT ks) e ∧ Below w.heap.size w w' := by
  have HL : Hid (LL w p (rows ks)) := hv
  have HT : Hid (isTy none ks = true) := hk
  have H2 : Hid (∀ l ∈ rows ks, l.length ≤ 200) := h2
  clear hv hk h2
  go_enter Tryz.func117, Tryz.ntmps117
  go_wp2_with fail
  refine (leafC_any 49 (by omega) w).mono ?_
  rintro _ w1 ⟨⟨q1, c1, rfl, hA1, _⟩, hb1⟩
  have HA1 : Hid (AK0 w1 [lfN 49] q1 c1) := hA1
  clear hA1
  rw [show [lfN 49].length = 1 from rfl]
  go_wp2_with fail
  go_loopw [4, 6, 7, 8, 12] (fun ov _ _ _ iv wr => ∃ (a r : Tp) (i : Nat) (xa : Nd) (ka : Tp) (qa : Option Addr) (ca : Nat), Hid (ks = a.app r) ∧ Hid (a.len = i) ∧ i ≤ ks.len ∧ iv = .int .i64 i ∧ ov = .slice qa (ka.flat.length + 1) ca ∧ Hid (jallE (leafT 49) a = .ok (.cons xa ka .nil)) ∧ Hid (T1 (.cons xa ka .nil)) ∧ Hid (ka.flat.length + 1 ≤ 200) ∧ Hid (AK0 wr (xa :: ka.flat) qa ca) ∧ Below w.heap.size w wr) (fun _ _ _ _ iv _ => ks.len - (intOf iv).toNat)
  case atStart => exact ⟨.nil, ks, 0, lfN 49, .nil, q1, c1, rfl, rfl, Nat.zero_le _, rfl, rfl, rfl, T1.none, by show _ ≤ _; simp [Tp.flat], HA1, hb1⟩
  case round =>
    rename World => wr
    obtain ⟨a, r, i, xa, ka, qa, ca, HD, HI, hik, rfl, rfl, HJ, HTa, HLa, HA, hbr⟩ := hrel
    by_cases hlt : i < ks.len
    · have i3 : (i : Int) < (ks.len : Int) := by omega
      obtain ⟨f, kf, r2, hr⟩ := rest_cons HD.out (by rw [HI.out]; exact hlt)
      have hd := HD.out
      rw [hr] at hd
      have hTf : T1 (.cons f kf .nil) := ty_split (by rw [← hd]; exact HT.out)
      have hmem : (f :: kf.flat) ∈ rows ks := List.mem_of_getElem? (rows_at hd)
      have hlf := H2.out _ hmem
      obtain ⟨b1, o1, p1, cc1, hq1, hb1', x0, hak⟩ := (HL.out.up hbr).row hd
      rw [HI.out, List.length_cons] at x0
      subst hq1
      have hJC := kjoin_ok (xa :: ka.flat) (f :: kf.flat) wr qa p1 ca cc1 HA.out.nl hak.nl HA.out.le HA.out.cm hak.le hak.cm xa f ka kf (by have := HLa.out; simpa using this) hlf ⟨HTa.out, rfl⟩ ⟨hTf, rfl⟩
      obtain ⟨xj, kj, hj, _⟩ := (HTa.out.jn hTf).of
      have HTj : Hid (T1 (.cons xj kj .nil)) := by have := HTa.out.jn hTf; rw [hj] at this; exact this
      have HE : Hid (∀ t, jallE (leafT 49) ((a.app (.cons f kf .nil)).app t) = if kj.flat.length + 1 ≤ 200 then jallE (.cons xj kj .nil) t else .error 4) := by
        intro t
        rw [← step_app, jallE_app, HJ.out]
        simp only [jallE, hj]
        rw [show (Tp.cons xj kj .nil).flat.length = kj.flat.length + 1 by simp [Tp.flat]]
      rw [hj, show (Tp.cons xj kj .nil).flat = xj :: kj.flat by simp [Tp.flat]] at hJC
      simp only [List.length_cons] at hJC
      have HD2 : Hid (ks = (a.app (.cons f kf .nil)).app r2) := by show _ = _; rw [← step_app]; exact hd
      have HI2 : Hid ((a.app (.cons f kf .nil)).len = i + 1) := by show _ = _; rw [snoc_len, HI.out]
      clear hd hr hmem hlf hak hj HD HI
      go_wp2_with fail
      refine hJC.mono ?_
      rintro _ w5 ⟨h5, hb5⟩
      have hb05 := kqt hbr hb5
      clear hJC
      rcases h5 with ⟨h51, q5, c5, rfl, h53, h54, h55⟩ | ⟨h51, rfl⟩
      · have HA5 : Hid (AK0 w5 (xj :: kj.flat) q5 c5) := ⟨h53, h54, h55⟩
        have HL5 : Hid (kj.flat.length + 1 ≤ 200) := by show _ ≤ _; simpa using h51
        have HJ5 : Hid (jallE (leafT 49) (a.app (.cons f kf .nil)) = .ok (.cons xj kj .nil)) := by
          have := HE.out .nil
          rw [tp_app_nil, if_pos HL5.out] at this
          exact this
        clear h51 h53 h54 h55 HE HA HJ
        simp only [List.length_cons]
        go_wp2_with fail
        go_roundw
        case rel => exact ⟨a.app (.cons f kf .nil), r2, i + 1, xj, kj, q5, c5, HD2, HI2, by omega, by go_num, rfl, HJ5, HTj, HL5, HA5, hb05⟩
        case measure => simp [intOf]; omega
      · have HR : Hid (jallE (leafT 49) ks = .error 4) := by
          show _ = _
          rw [HD2.out, HE.out r2, if_neg (by simp at h51; omega)]
        clear h51 HE HA HJ
        go_wp2
        exact bodyPost_ret (v := .tuple #[.slice none 0 0, .iface 36 (.int .i64 4)]) (by simp [results, Tryz.results117, go_sem]) rfl ⟨by unfold setT; rw [HR.out]; rfl, hb05⟩
    · have i3 : ¬ (i : Int) < (ks.len : Int) := by omega
      have hr := rest_nil HD.out (by rw [HI.out]; exact hlt)
      have HR : Hid (jallE (leafT 49) ks = .ok (.cons xa ka .nil)) := by show _ = _; have := HD.out; rw [hr, tp_app_nil] at this; rw [this]; exact HJ.out
      obtain ⟨V2, hV2⟩ : ∃ V2, V2 = wr.alloc (.cells #[.slice qa (ka.flat.length + 1) ca] 26) := ⟨_, rfl⟩
      have hb2 : Below wr.heap.size wr V2 := by rw [hV2]; exact kqx
      have hLS : LL V2 (some ⟨wr.heap.size, 0, none⟩) [xa :: ka.flat] := by rw [hV2]; exact LL.single wr qa ca (xa :: ka.flat) HA.out rfl
      have hFC := fitC_any (lfN 45) (lf_wf 45 (by omega)) [xa :: ka.flat] (by simp) (some ⟨wr.heap.size, 0, none⟩) 1 V2 hLS (by have := HLa.out; simp [catL]; omega) (by simp)
      rw [show catL [xa :: ka.flat] = (Tp.cons xa ka .nil).flat by simp [catL, Tp.flat]] at hFC
      simp only [lfN, e0, List.length_singleton] at hFC
      clear hr HD HJ HI HA hLS
      go_wp2_with fail
      rw [← hV2]
      clear hV2
      refine hFC.mono ?_
      rintro e5 w5 ⟨h5, hb5⟩
      have hb05 := kqt hbr (kqt hb2 hb5)
      have h6 : TRet w0 w w5 (fitT (.cons (lfN 45) (.cons xa ka .nil) .nil)) e5 := fit_ret (by rw [show (Tp.cons (lfN 45) (.cons xa ka .nil) .nil).flat = lfN 45 :: (Tp.cons xa ka .nil).flat by simp [Tp.flat]]; exact h5) (by have := (kqt hbr hb2).size; omega)
      have HR6 : Hid (TRet w0 w w5 (setT ks) e5) := by unfold setT; rw [HR.out]; exact h6
      clear h6 hFC
      rcases h5 with ⟨_, q5, c5, rfl, _, _⟩ | ⟨_, rfl⟩
      · go_wp2
        exact bodyPost_ret (v := .tuple #[.slice q5 _ c5, .nilIface]) (by simp [results, Tryz.results117, go_sem]) rfl ⟨HR6.out, hb05⟩
      · go_wp2
        exact bodyPost_ret (v := .tuple #[.slice none 0 0, .iface 36 (.int .i64 4)]) (by simp [results, Tryz.results117, go_sem]) rfl ⟨HR6.out, hb05⟩
end Go.Proofs.YtgkbegomekhpcaaGreatDoor
namespace Go.Proofs.YtgkbegomekhpcaaGreatDoor
open Go.RowKit
set_option linter.unusedVariables false
set_option linter.unusedSimpArgs false
set_option maxRecDepth 100000

/-- Whole numbers lie behind an address. -/
def IntL (w : World) (p : Option Addr) (l : List Int) : Prop := l = [] ∨ ∃ b off, p = some ⟨b, off, none⟩ ∧ b < w.heap.size ∧ ∀ i v, l[i]? = some v → w.cell? ⟨b, off + i, none⟩ = some (.int .i64 v)
theorem IntL.up {w w' : World} {p : Option Addr} {l : List Int} (h : IntL w p l) (k : Below w.heap.size w w') : IntL w' p l := by
  rcases h with h | ⟨b, off, h1, h2, h3⟩
  · exact .inl h
  · exact .inr ⟨b, off, h1, Nat.lt_of_lt_of_le h2 k.size, fun i v hv => (k.cell (p := ⟨b, off + i, none⟩) h2).trans (h3 i v hv)⟩
theorem IntL.at {w : World} {p : Option Addr} {l : List Int} (h : IntL w p l) {k : Nat} (hk : k < l.length) : ∃ b off, p = some ⟨b, off, none⟩ ∧ b < w.heap.size ∧ w.cell? ⟨b, off + k, none⟩ = some (.int .i64 l[k]) := by
  rcases h with h | ⟨b, off, h1, h2, h3⟩
  · rw [h] at hk; simp at hk
  · exact ⟨b, off, h1, h2, h3 k _ (List.getElem?_eq_getElem hk)⟩
theorem IntL.one (W : World) (v : Int) {B : Nat} (hB : B = W.heap.size) : IntL (W.alloc (.cells #[.int .i64 v] 3)) (some ⟨B, 0, none⟩) [v] := by
  have hk := Blk.new W (B := B) #[.int .i64 v] 3 hB
  refine .inr ⟨B, 0, rfl, hk.lt, fun i u hu => ?_⟩
  cases i with
  | succ i => simp at hu
  | zero => simp at hu; subst hu; exact hk.cell 0
set_option maxHeartbeats 1000000 in
theorem indexI_any (s : Int) (l : List Int) (p : Option Addr) (c : Nat) (w : World) (hl : IntL w p l) (hn : l.length ≤ 1000) :
    Calls Tryz.prog 233 #[.slice p l.length c, .int .i64 s] w fun e w' => ∃ k : Int, e = .returned (.int .i64 k) ∧ (0 ≤ k ↔ s ∈ l) ∧ w' = w := by
  go_enter Tryz.func233, Tryz.ntmps233
  go_wp2
  go_loop [8] (fun i => ∃ k : Nat, k ≤ l.length ∧ i = .int .i64 k ∧ Hid (s ∉ l.take k)) (fun i => l.length - (intOf i).toNat)
  case atStart => exact ⟨0, Nat.zero_le _, rfl, fun h => by simp at h⟩
  case round =>
    obtain ⟨k, hk, rfl, HD⟩ := hrel
    by_cases hlt : k < l.length
    · obtain ⟨b1, o1, rfl, hb1, x0⟩ := hl.at hlt
      have i1 : (k : Int) < (l.length : Int) := by omega
      have HM : Hid (l[k] ∈ l) := List.getElem_mem _
      have HN : Hid (l[k] ≠ s → s ∉ l.take (k + 1)) := fun h2 => by
        rw [List.take_succ_eq_append_getElem hlt, List.mem_append, List.mem_singleton]
        rintro (h3 | h3)
        · exact HD.out h3
        · exact h2 h3.symm
      generalize l[k] = x at *
      by_cases h1 : s = x
      · subst h1
        clear HN
        go_wp2
        go_ret
        exact ⟨_, rfl, ⟨fun _ => HM.out, fun _ => by omega⟩, rfl⟩
      · have h1' : (s == x) = false := by rw [beq_eq_false_iff_ne]; exact h1
        have HN2 : Hid (s ∉ l.take (k + 1)) := HN.out (fun e => h1 e.symm)
        clear HN h1 HM
        go_wp2
        go_round
        case rel => exact ⟨k + 1, by omega, by go_num, HN2⟩
        case measure => simp [intOf]; omega
    · have i1 : ¬ (k : Int) < (l.length : Int) := by omega
      have HS : Hid (s ∉ l) := by
        have := HD.out
        rw [List.take_of_length_le (by omega)] at this
        exact this
      clear HD
      go_wp2
      go_ret
      exact ⟨_, rfl, ⟨fun h => absurd h (by decide), fun h => absurd h HS.out⟩, rfl⟩
theorem containsI_any (s : Int) (l : List Int) (p : Option Addr) (c : Nat) (w : World) (hl : IntL w p l) (hn : l.length ≤ 1000) :
    Calls Tryz.prog 192 #[.slice p l.length c, .int .i64 s] w fun e w' => e = .returned (.bool (decide (s ∈ l))) ∧ w' = w := by
  have H1 := indexI_any s l p c w hl hn
  go_enter Tryz.func192, Tryz.ntmps192
  go_wp2_with fail
  refine H1.mono ?_
  rintro e w1 ⟨k, rfl, hk, rfl⟩
  have HD : Hid (decide (0 ≤ k) = decide (s ∈ l)) := by show _ = _; rw [Bool.eq_iff_iff, decide_eq_true_eq, decide_eq_true_eq]; exact hk
  clear hk H1
  go_wp2
  go_ret
  exact ⟨by rw [← HD.out]; rfl, rfl⟩
/-- Is a type one of these? -/
def isL (l : List Int) (o : Int) : Bool := decide (o = 49) || decide (o ∈ l)
def areL (l : List Int) : Tp → Bool
  | .nil => true
  | .cons x _ r => isL l x.op && areL l r
theorem areL_app (l : List Int) : ∀ a b : Tp, areL l (a.app b) = (areL l a && areL l b)
  | .nil, b => by simp [Tp.app, areL]
  | .cons x k r, b => by simp [Tp.app, areL, areL_app l r b, Bool.and_assoc]
set_option maxHeartbeats 1000000 in
theorem isC_any (x : Nd) (k : Tp) (p : Option Addr) (c : Nat) (l : List Int) (pl : Option Addr) (cl : Nat) (w : World) (hv : AK0 w (x :: k.flat) p c) (hl : IntL w pl l) (hn : l.length ≤ 1000) :
    Calls Tryz.prog 124 #[.slice p (k.flat.length + 1) c, .slice pl l.length cl] w fun e w' => e = .returned (.bool (isL l x.op)) ∧ Below w.heap.size w w' := by
  have HC := containsI_any x.op l pl cl w hl hn
  obtain ⟨b, off, hp, hbw, c0, c1, c2, c3, _⟩ := hv.nl.head
  have i1 : (0 : Int) < ((k.flat.length : Int) + 1) := by omega
  subst hp
  obtain ⟨xo, xn, xs, xt⟩ := x
  dsimp only at HC c0 c1 c2 c3 ⊢
  clear hv hl
  unfold isL
  generalize decide (xo ∈ l) = bb at *
  by_cases h : xo = 49
  · subst h
    clear HC
    go_enter Tryz.func124, Tryz.ntmps124
    go_wp2
    go_ret
    exact ⟨rfl, kqx⟩
  · have e1 : (xo == 49) = false := by rw [beq_eq_false_iff_ne]; exact h
    have HH : Hid (¬ xo = 49) := h
    clear h
    go_enter Tryz.func124, Tryz.ntmps124
    go_wp2_with fail
    refine HC.mono ?_
    rintro _ _ ⟨rfl, rfl⟩
    go_wp2
    go_ret
    exact ⟨by simp [go_sem]; exact fun e => absurd e HH.out, kqx⟩
set_option maxHeartbeats 1000000 in
theorem areAllC_any (ks : Tp) (l : List Int) (p : Option Addr) (c : Nat) (pl : Option Addr) (cl : Nat) (w : World) (hv : LL w p (rows ks)) (hl : IntL w pl l) (hn : l.length ≤ 1000) (hk : ks.len ≤ 1000) :
    Calls Tryz.prog 123 #[.slice p ks.len c, .slice pl l.length cl] w fun e w' => e = .returned (.bool (areL l ks)) ∧ Below w.heap.size w w' := by
  have HL : Hid (LL w p (rows ks)) := hv
  have HI0 : Hid (IntL w pl l) := hl
  clear hv hl
  go_enter Tryz.func123, Tryz.ntmps123
  go_wp2_with fail
  go_loopw [6, 9] (fun _ iv wr => ∃ (a r : Tp) (i : Nat), Hid (ks = a.app r) ∧ Hid (a.len = i) ∧ i ≤ ks.len ∧ iv = .int .i64 i ∧ Hid (areL l a = true) ∧ Below w.heap.size w wr) (fun _ iv _ => ks.len - (intOf iv).toNat)
  case atStart => exact ⟨.nil, ks, 0, rfl, rfl, Nat.zero_le _, rfl, rfl, Below.refl _ _⟩
  case round =>
    rename World => wr
    obtain ⟨a, r, i, HD, HI, hik, rfl, HA, hbr⟩ := hrel
    by_cases hlt : i < ks.len
    · have i3 : (i : Int) < (ks.len : Int) := by omega
      obtain ⟨f, kf, r2, hr⟩ := rest_cons HD.out (by rw [HI.out]; exact hlt)
      have hd := HD.out
      rw [hr] at hd
      obtain ⟨b1, o1, p1, cc1, hq1, hb1', x0, hak⟩ := (HL.out.up hbr).row hd
      rw [HI.out, List.length_cons] at x0
      subst hq1
      have HC := isC_any f kf p1 cc1 l pl cl wr hak (HI0.out.up hbr) hn
      have HD2 : Hid (ks = (a.app (.cons f kf .nil)).app r2) := by show _ = _; rw [← step_app]; exact hd
      have HI2 : Hid ((a.app (.cons f kf .nil)).len = i + 1) := by show _ = _; rw [snoc_len, HI.out]
      have HX : Hid (areL l ks = (isL l f.op && areL l r2)) := by show _ = _; rw [hd, areL_app, HA.out]; simp [areL]
      have HY : Hid (areL l (a.app (.cons f kf .nil)) = isL l f.op) := by show _ = _; rw [areL_app, HA.out]; simp [areL]
      clear hd hr hak HD HI HA
      generalize isL l f.op = bb at *
      cases bb with
      | true =>
        have HA2 : Hid (areL l (a.app (.cons f kf .nil)) = true) := HY
        clear HX HY
        go_wp2_with fail
        refine HC.mono ?_
        rintro _ w5 ⟨rfl, hb5⟩
        go_wp2_with fail
        go_roundw
        case rel => exact ⟨a.app (.cons f kf .nil), r2, i + 1, HD2, HI2, by omega, by go_num, HA2, kqt hbr hb5⟩
        case measure => simp [intOf]; omega
      | false =>
        have HR : Hid (areL l ks = false) := by show _ = _; rw [HX.out]; rfl
        clear HX HY
        go_wp2_with fail
        refine HC.mono ?_
        rintro _ w5 ⟨rfl, hb5⟩
        go_wp2
        go_ret
        exact ⟨by rw [HR.out]; rfl, kqt hbr hb5⟩
    · have i3 : ¬ (i : Int) < (ks.len : Int) := by omega
      have hr := rest_nil HD.out (by rw [HI.out]; exact hlt)
      have HR : Hid (areL l ks = true) := by show _ = _; have := HD.out; rw [hr, tp_app_nil] at this; rw [this]; exact HA.out
      clear hr HD HI HA
      go_wp2
      go_ret
      exact ⟨by rw [HR.out]; rfl, hbr⟩
set_option maxHeartbeats 2000000 in
theorem fitsC_val (op : Int) (h : 1 ≤ op ∧ op ≤ 7) (v : Value) (w : World) : Calls Tryz.prog 65 #[.int .i64 op, v] w fun e w' => e = .returned (.bool true) ∧ Below w.heap.size w w' := by
  have e : ∀ c : Int, 9 ≤ c → (op == c) = false := fun c hc => by rw [beq_eq_false_iff_ne]; omega
  have e1 := e 9 (by omega); have e2 := e 11 (by omega); have e3 := e 12 (by omega); have e4 := e 10 (by omega); have e5 := e 15 (by omega); have e6 := e 16 (by omega); have e7 := e 17 (by omega); have e8 := e 18 (by omega); have e9 := e 19 (by omega); have e10 := e 23 (by omega); have e11 := e 24 (by omega); have e12 := e 21 (by omega); have e13 := e 26 (by omega); have e14 := e 27 (by omega); have e15 := e 13 (by omega); have e16 := e 25 (by omega); have e17 := e 20 (by omega)
  clear h e
  go_enter Tryz.func65, Tryz.ntmps65
  go_wp2
  go_ret
  exact ⟨rfl, kqx⟩
set_option maxHeartbeats 2000000 in
theorem fitsC_add (ks : Tp) (p : Option Addr) (c : Nat) (w : World) (hv : LL w p (rows ks)) (hk : ks.len ≤ 1000) : Calls Tryz.prog 65 #[.int .i64 17, .slice p ks.len c] w fun e w' => e = .returned (.bool (areL [42] ks)) ∧ Below w.heap.size w w' := by
  obtain ⟨V, hV⟩ : ∃ V, V = w.alloc (.cells #[.int .i64 42] 3) := ⟨_, rfl⟩
  have hb : Below w.heap.size w V := by rw [hV]; exact kqx
  have HC := areAllC_any ks [42] p c (some ⟨w.heap.size, 0, none⟩) 1 V (hv.up hb) (by rw [hV]; exact IntL.one w 42 rfl) (by simp) hk
  rw [show [(42 : Int)].length = 1 from rfl] at HC
  generalize areL [42] ks = bb at *
  clear hv
  go_enter Tryz.func65, Tryz.ntmps65
  go_wp2_with fail
  rw [← hV]
  refine HC.mono ?_
  rintro _ w1 ⟨rfl, hb1⟩
  go_wp2
  go_ret
  exact ⟨rfl, kqt hb hb1⟩
end Go.Proofs.YtgkbegomekhpcaaGreatDoor
namespace Go.Proofs.YtgkbegomekhpcaaGreatDoor
open Go.RowKit
set_option linter.unusedVariables false
set_option linter.unusedSectionVars false
set_option maxRecDepth 100000

section
variable (v : List Nd) (w : World) (q : Option Addr) (d : Nat) (hv : AK w v q d)
include hv
set_option maxHeartbeats 2000000 in
theorem kown_err (h : vfault v ≠ 0) :
    Calls Tryz.prog 9 #[.slice q v.length d] w fun e w' => e = .returned (.tuple #[.slice none 0 0, .iface 36 (.int .i64 (vfault v))]) ∧ Below w.heap.size w w' := by
  have hV := vcheck_any v q d w hv.nl hv.le hv.cm
  rw [eV_not h] at hV
  generalize vfault v = n at *
  clear hv
  go_enter Tryz.func9, Tryz.ntmps9
  go_wp2_with fail
  refine hV.mono ?_
  rintro _ w2 ⟨rfl, hb2⟩
  go_wp2
  exact bodyPost_ret (v := .tuple #[.slice none 0 0, .iface 36 (.int .i64 n)]) (by simp [results, Tryz.results9, go_sem]) rfl ⟨rfl, hb2⟩
set_option maxHeartbeats 2000000 in
theorem kown_ok (y : Nd) (l : Tp) (hlv : v.length ≤ 200) (hl : VTy v y l) (hz : vfault v = 0) :
    Calls Tryz.prog 9 #[.slice q v.length d] w fun e w' => FitRet w' (ow false (.cons y l .nil)).flat e ∧ Below w.heap.size w w' := by
  have hV := vcheck_any v q d w hv.nl hv.le hv.cm
  rw [eV_nil hz] at hV
  have hF := fun W (hW : Below w.heap.size w W) => (firstK v).yes hl.1.ar (z := []) (by rw [hl.2]; simp) (Below.refl _ W) (hv.nl.up hW) rfl hv.le hv.cm (by omega)
  simp only [List.length_nil] at hF
  have hlf : l.flat.length ≤ 300 := by rw [hl.2] at hlv; simp at hlv; omega
  have HB := fun W u S h1 h2 => ownK y l W u S h1 h2 hl.1 hlf
  have HN : Hid ((ow false (.cons y l .nil)).flat.length ≤ 100001) := by
    have := (ow_flat (.cons y l .nil)).1 hl.1
    simp [Tp.flat] at this
    show _ ≤ _
    omega
  generalize ow false (.cons y l .nil) = R at *
  clear hv hl hlf hz
  unfold partV at *
  go_enter Tryz.func9, Tryz.ntmps9
  go_wp2_with fail
  refine hV.mono ?_
  rintro _ w2 ⟨rfl, hb2⟩
  clear hV
  go_wp2_with fail
  refine (hF w2 hb2).mono ?_
  rintro _ w3 ⟨⟨u3, q3, c3, rfl, hyw, hv3, _, _, _⟩, hb3⟩
  obtain ⟨qu, cu, rfl, _⟩ := hv3.slice
  have hbk : ∀ o1, Below w3.heap.size w3 (w3.alloc o1) := fun o1 => kqx
  have HC := fun o1 => HB _ _ _ (hv3.up (hbk o1)) hyw
  clear hF HB hv3
  go_wp2_with fail
  refine (HC _).mono ?_
  rintro _ w4 ⟨⟨xj, kj, qj, cj, hR, rfl, hxj, hvj⟩, hb4⟩
  have HR : Hid (R.flat = xj :: kj.flat) := by show _ = _; rw [hR]; simp [Tp.flat]
  clear hR
  have hF := fit_any xj kj w4 _ _ hvj hxj (by have := HN.out; rw [HR.out] at this; simp at this; omega)
  unfold partV at hF
  clear HC
  go_wp2_with fail
  refine hF.mono ?_
  rintro en w5 ⟨hR5, hb5⟩
  have hb05 := kqt hb2 (kqt hb3 (kqt (hbk _) (kqt hb4 hb5)))
  rcases hR5 with ⟨hL, q5, c5, rfl, hn5, h1, h2⟩ | ⟨hL, rfl⟩
  · have HL : Hid ((xj :: kj.flat).length ≤ 200) := hL
    clear hL
    generalize xj :: kj.flat = L at *
    go_wp2
    exact bodyPost_ret (v := .tuple #[.slice q5 L.length c5, .nilIface]) (by simp [results, Tryz.results9, go_sem]) rfl ⟨by rw [HR.out]; exact .inl ⟨HL.out, q5, c5, rfl, hn5, h1, h2⟩, hb05⟩
  · have HL : Hid (200 < (xj :: kj.flat).length) := hL
    clear hL
    generalize xj :: kj.flat = L at *
    go_wp2
    exact bodyPost_ret (v := .tuple #[.slice none 0 0, .iface 36 (.int .i64 4)]) (by simp [results, Tryz.results9, go_sem]) rfl ⟨by rw [HR.out]; exact .inr ⟨HL.out, rfl⟩, hb05⟩
end
/-- Own has an answer. -/
def OwnsTo (v : List Nd) (y : Nd) (l : Tp) (z : Nd) (m : Tp) : Prop := v.length ≤ 200 ∧ VTy v y l ∧ vfault v = 0 ∧ ow false (.cons y l .nil) = .cons z m .nil ∧ m.flat.length + 1 ≤ 200
theorem OwnsTo.kty {v : List Nd} {y z : Nd} {l m : Tp} (h : OwnsTo v y l z m) : KTy (z :: m.flat) z m ∧ (z :: m.flat).length ≤ 200 := by
  obtain ⟨_, h1, _, h3, h4⟩ := h
  have := (own_ok h1.1).1
  rw [h3] at this
  exact ⟨⟨this, rfl⟩, by simp; omega⟩
theorem OwnsTo.calls {v : List Nd} {y z : Nd} {l m : Tp} (h : OwnsTo v y l z m) {w : World} {q : Option Addr} {d : Nat} (hv : AK w v q d) : Calls Tryz.prog 9 #[.slice q v.length d] w fun e w' => (∃ q' c', e = .returned (.tuple #[.slice q' (z :: m.flat).length c', .nilIface]) ∧ AK w' (z :: m.flat) q' c') ∧ Below w.heap.size w w' := by
  obtain ⟨lv, h1, h2, h3, h4⟩ := h
  have hf : (Tp.cons z m .nil).flat = z :: m.flat := by simp [Tp.flat]
  refine (kown_ok v w q d hv y l lv h1 h2).mono ?_
  rw [h3, hf]
  rintro en w' ⟨⟨_, q', c', rfl, g1, g2, g3⟩ | ⟨g, _⟩, hb⟩
  · exact ⟨⟨q', c', rfl, ⟨g1, g2, g3⟩⟩, hb⟩
  · simp at g; omega
theorem own_ways (v : List Nd) : (∃ y l z m, OwnsTo v y l z m) ∨ ∃ n : Int, ∀ (w : World) (q : Option Addr) (d : Nat), AK w v q d → Calls Tryz.prog 9 #[.slice q v.length d] w fun e w' => e = .returned (.tuple #[.slice none 0 0, .iface 36 (.int .i64 n)]) ∧ Below w.heap.size w w' := by
  by_cases h : vfault v = 0
  · obtain ⟨lv, y, l, hy⟩ := vty_of h
    obtain ⟨z, m, hj, _⟩ := (own_ok hy.1).1.of
    by_cases hs : m.flat.length + 1 ≤ 200
    · exact .inl ⟨y, l, z, m, lv, hy, h, hj, hs⟩
    · refine .inr ⟨4, fun w q d hv => (kown_ok v w q d hv y l lv hy h).mono ?_⟩
      rw [hj]
      rintro en w' ⟨⟨g, _⟩ | ⟨_, g⟩, hb⟩
      · simp [Tp.flat] at g; omega
      · exact ⟨g, hb⟩
  · exact .inr ⟨_, fun w q d hv => kown_err v w q d hv h⟩
end Go.Proofs.YtgkbegomekhpcaaGreatDoor
