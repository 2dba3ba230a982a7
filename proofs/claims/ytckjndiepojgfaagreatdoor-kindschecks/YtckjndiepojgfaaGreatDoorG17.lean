/- The document's KindEnd at records, and whole; KindFault: by walks of their own texts. The document's FieldsOf, FieldKind, PartKind: by walks of their own texts. What lies at a field of a record's type; its type is told. The document's ValueNode: what it returns, by a walk of its own text. The document's Nodes: what it returns, by a walk of its own text. The document's ValueEnd: what it returns, by a walk of its own text. The document's ValueEnd at every place, ValueFault and Faults: what they return, by walks of their own texts. Lists of texts in memory, and in rows of the call's own. Package kinds: leaf, setOf, recOf, fieldOf, by walks of their own texts. Package kinds: field, by a walk of its own text. Package kinds: fit, by a walk of its own text. The statements on kinds: Check of an argument. -/
import Derived.Test.YtckjndiepojgfaaGreatDoorG16
import Derived.Test.YtckjndiepojgfaaGreatDoorG10
import Derived.Test.YtckjndiepojgfaaGreatDoorG3
import Derived.Test.YtckjndiepojgfaaGreatDoorG14
import Derived.Test.YtckjndiepojgfaaGreatDoorG11
import Derived.Laws.StructEq
namespace Go.Proofs.YtckjndiepojgfaaGreatDoor
open Go.RowKit
set_option linter.unusedVariables false
set_option maxRecDepth 100000

theorem knn (w : World) (n : Nat) : Below w.heap.size w (w.drewN n) := ⟨rfl, rfl, rfl, Nat.le_refl _, fun _ _ => rfl⟩
/-- Fields that were read: whatever type is there begins with them. -/
structure KRd (t : List Nd) (a N : Nat) (done : Tp) (l : ByteArray) (u : List Nd) : Prop where
  split : t.drop (a + 1) = done.flat ++ u
  grow : ∀ r, Fl l r → Fl e0 (done.app r)
  only : ∀ k z, Fl e0 k → k.len = N → t.drop (a + 1) = k.flat ++ z → ∃ todo, k = done.app todo ∧ Fl l todo ∧ u = todo.flat ++ z
theorem KRd.start (t : List Nd) (a N : Nat) : KRd t a N .nil e0 (t.drop (a + 1)) := ⟨rfl, fun r h => h, fun k z h1 h2 h3 => ⟨k, rfl, h1, h3⟩⟩
theorem Fl.nil {l : ByteArray} : Fl l .nil := rfl
theorem KRd.place {t : List Nd} {a N : Nat} {done : Tp} {l : ByteArray} {u : List Nd} (h : KRd t a N done l u) : t.drop (a + 1 + done.flat.length) = u := by
  rw [← List.drop_drop, h.split, List.drop_left]
theorem KRd.bound {t : List Nd} {a N : Nat} {done : Tp} {l : ByteArray} {u : List Nd} (h : KRd t a N done l u) (ha : a < t.length) : a + 1 + done.flat.length + u.length = t.length := by
  have := congrArg List.length h.split
  simp at this
  omega
/-- A field is there, as it should be. -/
def FdOk (l : ByteArray) (y : Nd) : Prop := y.op = 47 ∧ (y.n = 0 ∨ y.n = 1) ∧ y.t = e0 ∧ nfault y.s.data.toList = 0 ∧ cmpB l y.s < 0
theorem KRd.next {t : List Nd} {a N : Nat} {done : Tp} {l : ByteArray} {y : Nd} {u z : List Nd} {x : Nd} {k : Tp} (h : KRd t a N done l (y :: u)) (hN : done.len < N) (hy : FdOk l y) (hx : T1 (.cons x k .nil)) (hu : u = x :: (k.flat ++ z)) : KRd t a N (done.app (.cons y (.cons x k .nil) .nil)) y.s z := by
  refine ⟨?_, fun r hr => ?_, fun k' z' h1 h2 h3 => ?_⟩
  · rw [h.split, hu, tp_app_flat]; simp [Tp.flat]
  · rw [tp_app_assoc]
    exact h.grow _ (Fl.cons_iff.2 ⟨hy, hx, hr⟩)
  · obtain ⟨todo, e1, e2, e3⟩ := h.only k' z' h1 h2 h3
    cases todo with
    | nil => rw [e1, tp_app_nil] at h2; omega
    | cons y' ky' r =>
      obtain ⟨_, f2, f3⟩ := Fl.cons_iff.1 e2
      simp only [Tp.flat, List.cons_append, List.cons.injEq, List.append_assoc] at e3
      obtain ⟨rfl, e3⟩ := e3
      rw [hu] at e3
      have := tp_flat_inj (.cons x k .nil) ky' z (r.flat ++ z') (isTy_ar _ _ hx.2) (isTy_ar _ _ f2.2) (by rw [hx.1, f2.1]) (by rw [← e3]; simp [Tp.flat])
      obtain ⟨rfl, rfl⟩ := this
      exact ⟨r, by rw [e1, tp_app_assoc]; rfl, f3, rfl⟩
/-- No field is there: no type. -/
theorem KRd.none {t : List Nd} {a : Nat} {done : Tp} {l : ByteArray} {u : List Nd} (ha : a < t.length) (ho : t[a].op = 46) (h : KRd t a t[a].n.toNat done l u) (hN : done.len < t[a].n.toNat) (hu : ∀ y u', u = y :: u' → ¬ (FdOk l y ∧ ∃ x k z, T1 (.cons x k .nil) ∧ u' = x :: (k.flat ++ z))) : KERet t a (-1) := by
  refine ke_none ha (fun k z hT hd => ?_)
  have hk : Fl e0 k ∧ k.len = t[a].n.toNat := by
    generalize t[a] = x at *
    cases hT with
    | leaf o h => simp only [lfN] at ho; omega
    | ent s h => simp at ho
    | set k h => simp [lfN] at ho
    | rcd k hF => exact ⟨hF, by simp⟩
  obtain ⟨todo, e1, e2, e3⟩ := h.only k z hk.1 hk.2 hd
  cases todo with
  | nil => rw [e1, tp_app_nil] at hk; omega
  | cons y ky r =>
    obtain ⟨f1, f2, f3⟩ := Fl.cons_iff.1 e2
    obtain ⟨x, k', rfl, hx⟩ := f2.of
    exact hu y _ e3 ⟨f1, x, k', r.flat ++ z, f2, by simp [Tp.flat]⟩
theorem KRd.done {t : List Nd} {a : Nat} {done : Tp} {l : ByteArray} {u : List Nd} (ha : a < t.length) (e : t[a] = ⟨46, t[a].n, e0, e0⟩) (hn : 0 ≤ t[a].n) (h : KRd t a t[a].n.toNat done l u) (hN : done.len = t[a].n.toNat) : KERet t a ((a + 1 + done.flat.length : Nat) : Int) := by
  refine .inl ⟨t[a], done, u, ⟨T1.iff.2 ?_, by rw [drop_at ha, h.split]⟩, rfl⟩
  have hF := h.grow .nil Fl.nil
  rw [tp_app_nil] at hF
  have : t[a].n = (done.len : Int) := by omega
  rw [e, this]
  exact .rcd done hF
set_option maxHeartbeats 8000000 in
theorem kend_rcd (t : List Nd) (a : Nat) (h : a < t.length) (ho : t[a].op = 46) (ih : ∀ b, a < b → KEnd t b) : KEnd t a := by
  intro w p c hv hc hcm hl ha
  have HV : Hid (NL w p t) := hv
  have HIH : Hid (∀ b, a < b → KEnd t b) := ih
  have HAL : Hid (a < t.length) := h
  obtain ⟨b, off, rfl, hbw, x0, x1, x2, x3, xw⟩ := hv.at h
  have i1 : ¬ (a : Int) < 0 := by omega
  have i2 : ¬ (t.length : Int) ≤ (a : Int) := by omega
  have i3 : (a : Int) < (t.length : Int) := by omega
  have HN : Hid (¬ (t[a].t.toList = [] ∧ t[a].s.toList = [] ∧ 0 ≤ t[a].n) → KERet t a (-1)) := fun hn => ke_none h (fun k z hT _ => by
    generalize t[a] = x at *
    cases hT with
    | leaf o h => simp only [lfN] at ho; omega
    | ent s h => simp at ho
    | set k h => simp [lfN] at ho
    | rcd k h => exact hn ⟨be0R.1 rfl, be0R.1 rfl, by simp⟩)
  have HK : Hid (t[a].t.toList = [] → t[a].s.toList = [] → 0 ≤ t[a].n → ∀ done l u, KRd t a t[a].n.toNat done l u → done.len = t[a].n.toNat → KERet t a ((a + 1 + done.flat.length : Nat) : Int)) := fun h1 h2 h3 done l u hR hN => KRd.done h (by
    rw [← be0R] at h1 h2
    generalize t[a] = x at *
    obtain ⟨xo, xn, xs, xt⟩ := x
    simp only at h1 h2 ho
    subst h1 h2 ho
    rfl) h3 hR hN
  have HO : Hid (∀ done l u, KRd t a t[a].n.toNat done l u → done.len < t[a].n.toNat → (∀ y u', u = y :: u' → ¬ (FdOk l y ∧ ∃ x k z, T1 (.cons x k .nil) ∧ u' = x :: (k.flat ++ z))) → KERet t a (-1)) := fun done l u hR => KRd.none h ho hR
  generalize t[a] = x at *
  obtain ⟨xo, xn, xs, xt⟩ := x
  dsimp only at *
  subst ho
  have HL : Hid (∀ o1, Below w.heap.size w (w.alloc o1)) := fun o1 => kqx
  by_cases hsh : xt.toList = [] ∧ xs.toList = [] ∧ 0 ≤ xn
  · obtain ⟨s1, s2, s3⟩ := hsh
    have hxn : xn ≤ 9223372036854775807 := xw.2.2
    obtain ⟨N, rfl⟩ : ∃ N : Nat, xn = N := ⟨xn.toNat, by omega⟩
    have s4 : ¬ (N : Int) < 0 := by omega
    replace HK : Hid (∀ done l u, KRd t a N done l u → done.len = N → KERet t a ((a + 1 + done.flat.length : Nat) : Int)) := fun done l u => by have := HK.out s1 s2 s3 done l u; simpa using this
    replace HO : Hid (∀ done l u, KRd t a N done l u → done.len < N → (∀ y u', u = y :: u' → ¬ (FdOk l y ∧ ∃ x k z, T1 (.cons x k .nil) ∧ u' = x :: (k.flat ++ z))) → KERet t a (-1)) := fun done l u => by have := HO.out done l u; simpa using this
    obtain ⟨W, hW⟩ : ∃ W, W = w.alloc (.cells #[.int .i64 46, .int .i64 N, .string xs, .string xt] 55) := ⟨_, rfl⟩
    have hbW : Below w.heap.size w W := by rw [hW]; exact kqx
    have hWs : W.heap.size = w.heap.size + 1 := by rw [hW]; simp
    have y1 : W.cell? ⟨w.heap.size, 1, none⟩ = some (.int .i64 N) := by rw [hW]; simp
    clear hv xw h ih HN s3
    go_enter Tryz.func22, Tryz.ntmps22
    go_wp2
    rw [← hW]
    clear hW x0 x1 x2 x3
    go_loopw [1, 6, 7] (fun at_ last i wr => ∃ (done : Tp) (l : ByteArray) (u : List Nd), at_ = .int .i64 ((a + 1 + done.flat.length : Nat) : Int) ∧ last = .string l ∧ i = .int .i64 (done.len : Int) ∧ Hid (KRd t a N done l u) ∧ l.size ≤ maxLen ∧ done.len ≤ N ∧ Below W.heap.size W wr) (fun _ _ i _ => N - (intOf i).toNat)
    case atStart => exact ⟨.nil, e0, t.drop (a + 1), by simp [Tp.flat], rfl, rfl, KRd.start t a N, Nat.zero_le _, Nat.zero_le _, Below.refl _ _⟩
    case round =>
      rename World => w3
      obtain ⟨done, l, u, rfl, rfl, rfl, HR, hlm, hdN, hb3⟩ := hrel
      have hb03 := kqt hbW hb3
      have z1 := (hb3.cell (p := ⟨w.heap.size, 1, none⟩) (by show w.heap.size < _; omega)).trans y1
      have hdl : done.len ≤ done.flat.length := tp_len_flat done
      have hbd := HR.out.bound HAL.out
      by_cases hlt : done.len < N
      · have j1 : (done.len : Int) < (N : Int) := by omega
        have hpl := HR.out.place
        cases u with
        | nil =>
          have HF : Hid (KERet t a (-1)) := HO.out done l [] HR.out hlt (fun y u' e => by cases e)
          simp only [List.length_nil] at hbd
          have j2 : (t.length : Int) ≤ ((a + 1 + done.flat.length : Nat) : Int) := by omega
          clear hpl HO HK HR
          go_wp2
          go_ret
          exact ⟨⟨_, rfl, HF.out⟩, hb03⟩
        | cons y u' =>
          simp only [List.length_cons] at hbd
          have hA : a + 1 + done.flat.length < t.length := by omega
          obtain ⟨b', off', he, hbw3, c0, c1, c2, c3, cw⟩ := (HV.out.up hb03).at hA
          cases he
          have hty : t[a + 1 + done.flat.length] = y := by
            have := drop_at hA
            rw [hpl] at this
            simp only [List.cons.injEq] at this
            exact this.1.symm
          have HU : Hid (t.drop (a + 1 + done.flat.length + 1) = u') := by
            show _ = _
            have := drop_at hA
            rw [hpl] at this
            simp only [List.cons.injEq] at this
            exact this.2.symm
          rw [hty] at c0 c1 c2 c3 cw
          clear hty hpl
          generalize hA' : a + 1 + done.flat.length = A at *
          have HA' : Hid (a + 1 + done.flat.length = A) := hA'
          clear hA'
          have j2 : ¬ (t.length : Int) ≤ (A : Int) := by omega
          have j3 : (A : Int) < (t.length : Int) := by omega
          obtain ⟨yo, yn, ys, yt⟩ := y
          dsimp only at c0 c1 c2 c3 cw
          have HBAD : Hid (¬ FdOk l ⟨yo, yn, ys, yt⟩ → KERet t a (-1)) := fun hn => HO.out done l _ HR.out hlt (fun y u'' e k => by cases e; exact hn k.1)
          have HC := fun w => nameFault_any ys w cw.1
          have HT : ∀ w, Calls Tryz.prog 58 #[.string l, .string ys] w fun e w' => e = .returned (.int .i64 (cmpB l ys)) ∧ ∃ n, w' = w.drewN n := fun w => texts_any l ys w hlm cw.1
          by_cases hf : FdOk l ⟨yo, yn, ys, yt⟩
          · obtain ⟨f1, f2, f3, f4, f5⟩ := id hf
            dsimp only at f1 f2 f3 f4 f5
            subst f1
            rw [f4] at HC
            have HCE := fun n => HIH.out (A + 1) (by have := HA'.out; omega) (w3.drewN n) (some ⟨b, off, none⟩) c ((HV.out.up hb03).up (knn _ n)) hc hcm hl (by omega)
            rw [show ((A + 1 : Nat) : Int) = (A : Int) + 1 by omega] at HCE
            have HF : Hid (FdOk l ⟨47, yn, ys, yt⟩) := hf
            have g1 : ¬ yn < 0 := by omega
            have g2 : ¬ 1 < yn := by omega
            have g3 : ¬ 0 ≤ cmpB l ys := by omega
            have g4 : yt.toList = [] := be0R.1 f3
            have HLT : Hid (done.len < N) := hlt
            clear hf f2 f3 f4 f5 HBAD hlt
            go_wp2_with (first | (go_at_call 57; refine (HC _).mono ?_; rintro e w1 ⟨rfl, rfl⟩) | (go_at_call 58; refine (HT _).mono ?_; rintro e w1 ⟨rfl, n1, rfl⟩) | fail)
            refine (HCE _).mono ?_
            rintro e w4 ⟨⟨n, rfl, hn⟩, hb4⟩
            have hb34 := kqt (knn _ n1) hb4
            have hb14 : Below W.heap.size W w4 := kqt hb3 hb34
            rcases hn with ⟨x, k, z, ⟨h1, h2⟩, h3⟩ | ⟨h1, h2⟩
            · rw [HU.out] at h2
              have HR2 : Hid (KRd t a N (done.app (.cons ⟨47, yn, ys, yt⟩ (.cons x k .nil) .nil)) ys z) := HR.out.next HLT.out HF.out h1 h2
              have hfl : (done.app (.cons ⟨47, yn, ys, yt⟩ (.cons x k .nil) .nil)).flat.length = done.flat.length + (k.flat.length + 2) := by rw [tp_app_flat]; simp [Tp.flat]
              have hle : (done.app (.cons ⟨47, yn, ys, yt⟩ (.cons x k .nil) .nil)).len = done.len + 1 := by rw [tp_app_len]; rfl
              have HLE : Hid ((done.app (.cons ⟨47, yn, ys, yt⟩ (.cons x k .nil) .nil)).len = done.len + 1) := hle
              have HFL : Hid (((A + 1 + 1 + k.flat.length : Nat) : Int) = ((a + 1 + (done.app (.cons ⟨47, yn, ys, yt⟩ (.cons x k .nil) .nil)).flat.length : Nat) : Int)) := by show _ = _; have := HA'.out; rw [hfl]; omega
              generalize done.app (.cons ⟨47, yn, ys, yt⟩ (.cons x k .nil) .nil) = done2 at *
              have g5 : ¬ ((A + 1 + 1 + k.flat.length : Nat) : Int) < 0 := by omega
              subst h3
              clear h1 h2 hfl hle HCE
              go_wp2
              go_roundw
              case rel => exact ⟨done2, ys, z, congrArg (Value.int IntKind.i64) (by have := HFL.out; omega), rfl, by rw [HLE.out]; go_num, HR2, cw.1, by have := HLE.out; have := HLT.out; omega, hb14⟩
              case measure => have := HLT.out; simp [intOf]; omega
            · subst h2
              have HF2 : Hid (KERet t a (-1)) := HO.out done l _ HR.out HLT.out (fun y u'' e k => by
                cases e
                obtain ⟨_, x, k', z, k1, k2⟩ := k
                exact h1 x k' z ⟨k1, by rw [HU.out]; exact k2⟩)
              clear h1 HCE
              go_wp2
              go_ret
              exact ⟨⟨_, rfl, HF2.out⟩, kqt hbW hb14⟩
          · have HB2 : Hid (KERet t a (-1)) := HBAD.out hf
            have hcs : ¬ yo = 47 ∨ (yo = 47 ∧ yn < 0) ∨ (yo = 47 ∧ ¬ yn < 0 ∧ 1 < yn) ∨ (yo = 47 ∧ ¬ yn < 0 ∧ ¬ 1 < yn ∧ ¬ yt.toList = []) ∨ (yo = 47 ∧ ¬ yn < 0 ∧ ¬ 1 < yn ∧ yt.toList = [] ∧ ¬ nfault ys.data.toList = 0) ∨ (yo = 47 ∧ ¬ yn < 0 ∧ ¬ 1 < yn ∧ yt.toList = [] ∧ nfault ys.data.toList = 0 ∧ 0 ≤ cmpB l ys) := by
              by_cases k1 : yo = 47
              · by_cases k2 : yn < 0
                · exact .inr (.inl ⟨k1, k2⟩)
                by_cases k3 : 1 < yn
                · exact .inr (.inr (.inl ⟨k1, k2, k3⟩))
                by_cases k4 : yt.toList = []
                · by_cases k5 : nfault ys.data.toList = 0
                  · refine .inr (.inr (.inr (.inr (.inr ⟨k1, k2, k3, k4, k5, ?_⟩))))
                    by_cases k6 : cmpB l ys < 0
                    · exact absurd ⟨k1, (by show yn = 0 ∨ yn = 1; omega), be0R.2 k4, k5, k6⟩ hf
                    · omega
                  · exact .inr (.inr (.inr (.inr (.inl ⟨k1, k2, k3, k4, k5⟩))))
                · exact .inr (.inr (.inr (.inl ⟨k1, k2, k3, k4⟩)))
              · exact .inl k1
            clear hf HBAD HO HK HR HIH
            generalize nfault ys.data.toList = g at *
            generalize cmpB l ys = g2 at *
            rcases hcs with k1 | ⟨rfl, k2⟩ | ⟨rfl, k2, k3⟩ | ⟨rfl, k2, k3, k4⟩ | ⟨rfl, k2, k3, k4, k5⟩ | ⟨rfl, k2, k3, k4, rfl, k6⟩
            all_goals
              go_wp2_with (first | (go_at_call 57; refine (HC _).mono ?_; rintro e w1 ⟨rfl, rfl⟩) | (go_at_call 58; refine (HT _).mono ?_; rintro e w1 ⟨rfl, n1, rfl⟩))
              go_ret
              first
                | exact ⟨⟨_, rfl, HB2.out⟩, hb03⟩
                | exact ⟨⟨_, rfl, HB2.out⟩, kqt hb03 (knn _ _)⟩
      · have j1 : ¬ (done.len : Int) < (N : Int) := by omega
        have HF : Hid (KERet t a ((a + 1 + done.flat.length : Nat) : Int)) := HK.out done l u HR.out (by omega)
        clear HK HO HR
        go_wp2
        go_ret
        exact ⟨⟨_, rfl, HF.out⟩, hb03⟩
  · have HF : Hid (KERet t a (-1)) := HN.out hsh
    have hcs : ¬ xt.toList = [] ∨ (xt.toList = [] ∧ ¬ xs.toList = []) ∨ (xt.toList = [] ∧ xs.toList = [] ∧ xn < 0) := by
      by_cases k1 : xt.toList = []
      · by_cases k2 : xs.toList = []
        · exact .inr (.inr ⟨k1, k2, by by_cases k3 : 0 ≤ xn; exact absurd ⟨k1, k2, k3⟩ hsh; omega⟩)
        · exact .inr (.inl ⟨k1, k2⟩)
      · exact .inl k1
    clear hv xw h ih HN hsh HK HO HIH
    rcases hcs with k1 | ⟨k1, k2⟩ | ⟨k1, k2, k3⟩
    all_goals
      go_enter Tryz.func22, Tryz.ntmps22
      go_wp2
      go_ret
      exact ⟨⟨_, rfl, HF.out⟩, HL.out _⟩
/-- KindEnd, whole. -/
theorem kend_any (t : List Nd) : ∀ (m a : Nat), t.length - a < m → KEnd t a
  | 0, a, h => by omega
  | m + 1, a, h => by
    by_cases ha : a < t.length
    · have ih : ∀ b, a < b → KEnd t b := fun b hb => kend_any t m b (by omega)
      by_cases h1 : t[a].op = 41 ∨ t[a].op = 42 ∨ t[a].op = 43 ∨ t[a].op = 48 ∨ t[a].op = 49
      · exact kend_leaf t a ha h1
      by_cases h4 : t[a].op = 44
      · exact kend_ent t a ha h4
      by_cases h5 : t[a].op = 45
      · exact kend_set t a ha h5 (ih _ (by omega))
      by_cases h6 : t[a].op = 46
      · exact kend_rcd t a ha h6 ih
      · exact kend_not t a ha (by omega)
    · exact kend_out t a (by omega)
theorem kendR (t : List Nd) (a : Nat) : KEnd t a := kend_any t _ a (Nat.lt_succ_self _)
/-- Where a type is, KindEnd tells its end. -/
theorem KERet.at {t : List Nd} {a : Nat} {n : Int} (h : KERet t a n) {x : Nd} {k : Tp} {z : List Nd} (he : EndIs t a x k z) : n = (a + 1 + k.flat.length : Nat) := by
  rcases h with ⟨x', k', z', h1, h2⟩ | ⟨h1, _⟩
  · have := tp_flat_inj (.cons x k .nil) (.cons x' k' .nil) z z' (isTy_ar _ _ he.1.2) (isTy_ar _ _ h1.1.2) rfl (by have a := he.2; have b := h1.2; rw [a] at b; simpa [Tp.flat] using b)
    cases this.1
    exact h2
  · exact absurd he (h1 x k z)
theorem kendAt {t : List Nd} {a : Nat} {x : Nd} {k : Tp} {z : List Nd} (he : EndIs t a x k z) {w : World} {p : Option Addr} {c : Nat} (hv : NL w p t) (hc : t.length ≤ c) (hcm : c ≤ maxLen) (hl : t.length ≤ 1000) (ha : a ≤ 1000) :
    Calls Tryz.prog 22 #[.slice p t.length c, .int .i64 a] w fun e w' => e = .returned (.int .i64 ((a + 1 + k.flat.length : Nat) : Int)) ∧ Below w.heap.size w w' := by
  refine (kendR t a w p c hv hc hcm (by omega) (by omega)).mono ?_
  rintro e w' ⟨⟨n, rfl, hn⟩, hb⟩
  rw [hn.at he]
  exact ⟨rfl, hb⟩
/-- KindFault of any nodes. -/
theorem kindFault_any (t : List Nd) (w : World) (p : Option Addr) (c : Nat) (hv : NL w p t) (hc : t.length ≤ c) (hcm : c ≤ maxLen) :
    Calls Tryz.prog 7 #[.slice p t.length c] w fun e w' => e = .returned (.int .i64 (kfault t)) ∧ Below w.heap.size w w' := by
  by_cases hl : 200 < t.length
  · have i1 : (200 : Int) < (t.length : Int) := by omega
    rw [kfault_full hl]
    clear hv hl
    go_enter Tryz.func7, Tryz.ntmps7
    go_wp2
    go_ret
    exact ⟨rfl, Below.refl _ _⟩
  · have i1 : ¬ (200 : Int) < (t.length : Int) := by omega
    have HC := kendR t 0 w p c hv hc hcm (by omega) (by omega)
    have HF : Hid (∀ n, KERet t 0 n → kfault t = if n = (t.length : Int) then 0 else 1) := fun n hn => by
      by_cases hk : ∃ x k, KTy t x k
      · obtain ⟨x, k, hk⟩ := hk
        rw [kfault_ok (by omega) hk]
        have he : EndIs t 0 x k [] := ⟨hk.1, by rw [List.drop_zero, List.append_nil]; exact hk.2⟩
        rw [hn.at he, if_pos]
        have := congrArg List.length hk.2
        simp at this
        omega
      · rw [kfault_bad (by omega) (fun x k h => hk ⟨x, k, h⟩), if_neg]
        intro e
        rcases hn with ⟨x, k, z, h1, h2⟩ | ⟨h1, h2⟩
        · have h3 := h1.2
          rw [List.drop_zero] at h3
          have h4 := congrArg List.length h3
          simp at h4
          have : z = [] := List.eq_nil_of_length_eq_zero (by omega)
          rw [this, List.append_nil] at h3
          exact hk ⟨x, k, h1.1, h3⟩
        · omega
    clear hv hl
    go_enter Tryz.func7, Tryz.ntmps7
    go_wp2_with fail
    refine HC.mono ?_
    rintro e w1 ⟨⟨n, rfl, hn⟩, hb1⟩
    have HE := HF.out n hn
    clear HC HF hn
    by_cases hn : n = (t.length : Int)
    · rw [if_pos hn] at HE
      have HE2 : Hid (kfault t = 0) := HE
      clear HE
      subst hn
      go_wp2
      go_ret
      exact ⟨by rw [HE2.out]; rfl, hb1⟩
    · rw [if_neg hn] at HE
      have HE2 : Hid (kfault t = 1) := HE
      clear HE
      go_wp2
      go_ret
      exact ⟨by rw [HE2.out]; rfl, hb1⟩
end Go.Proofs.YtckjndiepojgfaaGreatDoor
namespace Go.Proofs.YtckjndiepojgfaaGreatDoor
open Go.RowKit
set_option linter.unusedVariables false
set_option linter.unusedSimpArgs false
set_option maxRecDepth 100000

def rcN (k : Tp) : Nd := ⟨46, k.len, e0, e0⟩
theorem OI.belowK {w w' : World} {base : Nat} {v : Value} {l : List Nat} (h : OI w base v l) (k : Below w.heap.size w w') : OI w' base v l := by
  refine ⟨h.1, ?_⟩
  rcases h.2 with hn | ⟨g, cap, cur, rfl, hb, hgg, rest⟩
  · exact .inl hn
  · exact .inr ⟨g, cap, cur, rfl, hb, (k.block g (Array.getElem?_eq_some_iff.1 hgg).1).trans hgg, rest⟩
/-- A field's type where it lies. -/
theorem field_end {x f : Nd} {k d kf q : Tp} (h : k = d.app (.cons f kf q)) (hk : T1 kf) : ∃ x' k', kf = .cons x' k' .nil ∧ EndIs (x :: k.flat) (1 + d.flat.length + 1) x' k' q.flat := by
  obtain ⟨x', k', rfl, _⟩ := hk.of
  refine ⟨x', k', rfl, hk, ?_⟩
  have := drop_field (x := x) h
  rw [← List.drop_drop, this]
  simp [Tp.flat]
/-- A list of nodes as an argument. -/
structure AK0 (w : World) (a : List Nd) (p : Option Addr) (c : Nat) : Prop where
  nl : NL w p a
  le : a.length ≤ c
  cm : c ≤ maxLen
theorem AK0.up {w w' : World} {a : List Nd} {p : Option Addr} {c : Nat} (h : AK0 w a p c) (hb : Below w.heap.size w w') : AK0 w' a p c := ⟨h.nl.up hb, h.le, h.cm⟩
/-- Numbers are told. -/
def IRet (w' : World) (n : Nat) (l : List Nat) (e : Ending) : Prop := ∃ q c', e = .returned (.slice q n c') ∧ IL w' q l
set_option maxHeartbeats 1000000 in
theorem fieldsOf_any (k : Tp) (hk : Fl e0 k) (p : Option Addr) (c : Nat) (w : World) (hv : NL w p (rcN k :: k.flat)) (hc : k.flat.length + 1 ≤ c) (hcm : c ≤ maxLen) (hl : k.flat.length ≤ 900) :
    Calls Tryz.prog 29 #[.slice p (k.flat.length + 1) c] w fun e w' => IRet w' k.len (offs k 1) e ∧ Below w.heap.size w w' := by
  obtain ⟨t, ht⟩ : ∃ t, t = rcN k :: k.flat := ⟨_, rfl⟩
  have htl : t.length = k.flat.length + 1 := by rw [ht]; rfl
  rw [← ht] at hv
  rw [← htl] at hc ⊢
  have h0 : 0 < t.length := by omega
  obtain ⟨bq, oq, rfl, hbq, _, c1, _⟩ := hv.at h0
  have e0' : t[0].n = (k.len : Int) := by simp only [ht, List.getElem_cons_zero]; rfl
  rw [e0'] at c1
  simp only [Nat.zero_mul, Nat.add_zero] at c1
  have HV : Hid (NL w (some ⟨bq, oq, none⟩) t) := hv
  have HT : Hid (t = rcN k :: k.flat) := ht
  have HK : Hid (Fl e0 k) := hk
  have HKL : Hid (k.len ≤ 900) := Nat.le_trans (tp_len_flat k) hl
  have hk9 : k.len ≤ 900 := HKL.out
  have i0 : (0 : Int) < (t.length : Int) := by omega
  have HL : Hid (t.length ≤ 901) := by show _ ≤ _; omega
  clear hv ht hk hl e0' htl
  go_enter Tryz.func29, Tryz.ntmps29
  go_wp2_with fail
  go_loopw [3, 4, 5] (fun ov av iv wr => ∃ (d r : Tp) (i a : Nat), Hid (k = d.app r) ∧ Hid (d.len = i) ∧ i ≤ k.len ∧ iv = .int .i64 i ∧ av = .int .i64 a ∧ Hid (a = 1 + d.flat.length) ∧ a ≤ 1000 ∧ OI wr w.heap.size ov (offs d 1) ∧ Below w.heap.size w wr) (fun _ _ iv _ => k.len - (intOf iv).toNat)
  case atStart => exact ⟨.nil, k, 0, 1, rfl, rfl, Nat.zero_le _, rfl, rfl, rfl, by omega, OI.nil _ _, Below.refl _ _⟩
  case round =>
    rename World => wr
    obtain ⟨d, r, i, a, HD, HI, hik, rfl, rfl, HA, ha, hown, hbr⟩ := hrel
    have c1' := (hbr.cell (p := ⟨bq, oq + 1, none⟩) hbq).trans c1
    by_cases hlt : i < k.len
    · have i1 : (i : Int) < (k.len : Int) := by omega
      obtain ⟨f, kf, q, hr⟩ := rest_cons HD.out (by rw [HI.out]; exact hlt)
      have hd := HD.out
      rw [hr] at hd
      obtain ⟨_, _, _, hkf⟩ := Fl.mid (p := d) (f := f) (kf := kf) (r := q) (by rw [← hd]; exact HK.out)
      obtain ⟨x', k', hkf', hE⟩ := field_end (x := rcN k) hd hkf
      rw [← HT.out, ← HA.out] at hE
      have hfl := field_len hd
      have hta : a + 1 + 1 + k'.flat.length ≤ t.length := by
        have := congrArg List.length HT.out
        rw [List.length_cons] at this
        have e2 : kf.flat.length = k'.flat.length + 1 := by rw [hkf']; simp [Tp.flat]
        have := HA.out
        omega
      have H1 := fun W (hW : Below w.heap.size w W) => kendAt hE (HV.out.up hW) hc hcm (by have := HL.out; omega) (by have := HL.out; omega)
      have HD2 : Hid (k = (d.app (.cons f kf .nil)).app q) := by show _ = _; rw [← step_app]; exact hd
      have HI2 : Hid ((d.app (.cons f kf .nil)).len = i + 1) := by show _ = _; rw [snoc_len, HI.out]
      have HA2 : Hid (a + 1 + 1 + k'.flat.length = 1 + (d.app (.cons f kf .nil)).flat.length) := by
        show _ = _
        rw [snoc_flat, hkf']
        have := HA.out
        simp [Tp.flat]
        omega
      have HF2 : Hid (offs (d.app (.cons f kf .nil)) 1 = offs d 1 ++ [a]) := by show _ = _; rw [offs_snoc, HA.out]
      have HO : Hid (OI wr w.heap.size u3 (offs d 1)) := hown
      have HLo : Hid ((offs d 1).length = i) := by show _ = _; rw [offs_length]; exact HI.out
      have ha9 : a + 1 + 1 + k'.flat.length ≤ 1000 := by have := HL.out; omega
      generalize a + 1 + 1 + k'.flat.length = a2 at *
      clear hr hd hkf hkf' hE hfl hown HD HI hta
      go_wp2_with (first
        | (at_builtin; refine append_int wr rfl (.tmp 14) (.tmp 16) rfl w.heap.size u3 (offs d 1) rfl HO.out (a : Int) a rfl rfl (by rw [HLo.out]; omega) hbr.size ?_; intro v2 w2 ho2 hb2)
        | (go_at_call 22; refine (H1 w2 (hbr.trans hb2)).mono ?_; rintro _ w3 ⟨rfl, hb3⟩))
      have hb02 := hbr.trans hb2
      have hb03 := kqt hb02 hb3
      have ho3 := ho2.belowK hb3
      rw [← HF2.out] at ho3
      clear ho2 HO hb2 hb3 hbr c1'
      go_roundw
      case rel => exact ⟨d.app (.cons f kf .nil), q, i + 1, a2, HD2, HI2, by omega, by go_num, rfl, HA2, ha9, ho3, hb03⟩
      case measure => simp [intOf]; omega
    · have i1 : ¬ (i : Int) < (k.len : Int) := by omega
      have hr := rest_nil HD.out (by rw [HI.out]; exact hlt)
      have hd : k = d := by have := HD.out; rw [hr, tp_app_nil] at this; exact this
      rw [← hd] at hown
      obtain ⟨q, c', rfl, hq, _⟩ := hown.slice
      have HQ : Hid (IL wr q (offs k 1)) := hq
      rw [offs_length]
      clear hr hd HD HA hq hown
      go_wp2
      go_ret
      exact ⟨⟨q, c', rfl, HQ.out⟩, hbr⟩
theorem IL.atK {w : World} {p : Option Addr} {l : List Nat} (h : IL w p l) {i x : Nat} (hi : l[i]? = some x) : ∃ b off, p = some ⟨b, off, none⟩ ∧ b < w.heap.size ∧ w.cell? ⟨b, off + i, none⟩ = some (.int .i64 (x : Int)) := by
  rcases h with rfl | ⟨b, off, h1, h2, h3⟩
  · simp at hi
  · exact ⟨b, off, h1, h2, h3 i x hi⟩
/-- Where a field is told to lie. -/
def FkRet (k : Tp) (s : ByteArray) (e : Ending) : Prop := (k.find s = none ∧ e = .returned (.int .i64 (-1))) ∨ ∃ (d q : Tp) (f : Nd) (kf : Tp), k = d.app (.cons f kf q) ∧ k.find s = some (f, kf) ∧ e = .returned (.int .i64 ((1 + d.flat.length : Nat) : Int))
set_option maxHeartbeats 1000000 in
theorem fieldKind_any (k : Tp) (hk : Fl e0 k) (s : ByteArray) (p : Option Addr) (c : Nat) (w : World) (hv : NL w p (rcN k :: k.flat)) (hc : k.flat.length + 1 ≤ c) (hcm : c ≤ maxLen) (hl : k.flat.length ≤ 900) :
    Calls Tryz.prog 27 #[.slice p (k.flat.length + 1) c, .string s] w fun e w' => FkRet k s e ∧ Below w.heap.size w w' := by
  have HC := fieldsOf_any k hk p c w hv hc hcm hl
  obtain ⟨t, ht⟩ : ∃ t, t = rcN k :: k.flat := ⟨_, rfl⟩
  have htl : t.length = k.flat.length + 1 := by rw [ht]; rfl
  rw [← ht] at hv
  rw [← htl] at hc HC ⊢
  have HV : Hid (NL w p t) := hv
  have HT : Hid (t = rcN k :: k.flat) := ht
  have hk9 : k.len ≤ 900 := Nat.le_trans (tp_len_flat k) hl
  have HTL : Hid (t.length = k.flat.length + 1) := htl
  have hlt9 : t.length ≤ 901 := by omega
  clear hv ht hk htl
  go_enter Tryz.func27, Tryz.ntmps27
  go_wp2_with fail
  refine HC.mono ?_
  rintro _ w1 ⟨⟨q, c', rfl, hq⟩, hb1⟩
  have HQ : Hid (IL w1 q (offs k 1)) := hq
  have HV1 : Hid (NL w1 p t) := HV.out.up hb1
  clear hq HC HV
  go_wp2_with fail
  go_loop [6] (fun iv => ∃ (d r : Tp) (i : Nat), Hid (k = d.app r) ∧ Hid (d.len = i) ∧ i ≤ k.len ∧ iv = .int .i64 i ∧ Hid (d.find s = none)) (fun iv => k.len - (intOf iv).toNat)
  case atStart => exact ⟨.nil, k, 0, rfl, rfl, Nat.zero_le _, rfl, rfl⟩
  case round =>
    obtain ⟨d, r, i, HD, HI, hik, rfl, HF⟩ := hrel
    by_cases hlt : i < k.len
    · have i1 : (i : Int) < (k.len : Int) := by omega
      obtain ⟨f, kf, q2, hr⟩ := rest_cons HD.out (by rw [HI.out]; exact hlt)
      have hd := HD.out
      rw [hr] at hd
      have ho := offs_at hd 1
      rw [HI.out] at ho
      obtain ⟨bf, of_, rfl, hbf, x0⟩ := HQ.out.atK ho
      have hat : 1 + d.flat.length < t.length := by have := field_len hd; have := HTL.out; omega
      have hta : t[1 + d.flat.length] = f := by
        have h1 := drop_field (x := rcN k) hd
        rw [← HT.out, List.drop_eq_getElem_cons hat] at h1
        exact (List.cons.inj h1).1
      obtain ⟨bt, ot, hpt, hbt, y1, y2, x3, y3⟩ := HV1.out.at hat
      clear y1 y2 y3
      rw [hta] at x3
      subst hpt
      have i2 : ((1 + d.flat.length : Nat) : Int) < (t.length : Int) := by omega
      have HFD : Hid (d.find s = none ∧ k = d.app (.cons f kf q2)) := ⟨HF.out, hd⟩
      obtain ⟨a, ea⟩ : ∃ a, a = 1 + d.flat.length := ⟨_, rfl⟩
      have HA : Hid (a = 1 + d.flat.length) := ea
      rw [← ea] at x0 x3 i2
      clear hr hd ho hat hta ea
      by_cases hs : f.s = s
      · have HR : Hid (FkRet k s (.returned (.int .i64 (a : Int)))) := .inr ⟨d, q2, f, kf, HFD.out.2, by rw [HFD.out.2, find_appK HFD.out.1, Tp.find, if_pos hs], by rw [HA.out]⟩
        subst hs
        clear HF HD HI HFD HA
        go_wp2
        go_ret
        exact ⟨HR.out, hb1⟩
      · have hne : (f.s.toList == s.toList) = false := by
          rw [beq_eq_false_iff_ne]
          exact fun e => hs (bytes_inj (by simpa only [ByteArray.toList_eq] using e))
        have HF2 : Hid ((d.app (.cons f kf .nil)).find s = none) := find_snoc HFD.out.1 hs
        have HD2 : Hid (k = (d.app (.cons f kf .nil)).app q2) := by show _ = _; rw [← step_app]; exact HFD.out.2
        have HI2 : Hid ((d.app (.cons f kf .nil)).len = i + 1) := by show _ = _; rw [snoc_len, HI.out]
        clear HF HD HI HFD HA hs
        go_wp2
        go_round
        case rel => exact ⟨d.app (.cons f kf .nil), q2, i + 1, HD2, HI2, by omega, by go_num, HF2⟩
        case measure => simp [intOf]; omega
    · have i1 : ¬ (i : Int) < (k.len : Int) := by omega
      have hr := rest_nil HD.out (by rw [HI.out]; exact hlt)
      have HR : Hid (FkRet k s (.returned (.int .i64 (-1)))) := .inl ⟨by have := HD.out; rw [hr, tp_app_nil] at this; rw [this]; exact HF.out, rfl⟩
      clear hr HD HF HI
      go_wp2
      go_ret
      exact ⟨HR.out, hb1⟩
/-- A part of a list, where it lies. -/
theorem NL.sub {w : World} {b off : Nat} {t : List Nd} (h : NL w (some ⟨b, off, none⟩) t) (a n : Nat) : NL w (some ⟨b, off + a * 4, none⟩) ((t.drop a).take n) := by
  rcases h with rfl | ⟨b', off', h1, h2, h3⟩
  · exact .inl (by simp)
  · cases h1
    refine .inr ⟨b, off + a * 4, rfl, h2, fun i x hx => ?_⟩
    have hx2 : t[a + i]? = some x := by
      rw [List.getElem?_take] at hx
      split at hx
      · rw [List.getElem?_drop] at hx; exact hx
      · cases hx
    have := h3 _ _ hx2
    rw [show off + (a + i) * 4 = off + a * 4 + i * 4 by omega] at this
    exact this
/-- A type is told: where it lies. -/
def KRet (w' : World) (l : List Nd) (e : Ending) : Prop := ∃ q c', e = .returned (.slice q l.length c') ∧ AK0 w' l q c'
/-- And it lies in the block that it is cut of. -/
def KRetP (p : Option Addr) (w' : World) (l : List Nd) (e : Ending) : Prop := ∃ q c', e = .returned (.slice q l.length c') ∧ AK0 w' l q c' ∧ ∃ b o o2, p = some ⟨b, o, none⟩ ∧ q = some ⟨b, o2, none⟩
theorem KRetP.ret {p : Option Addr} {w' : World} {l : List Nd} {e : Ending} (h : KRetP p w' l e) : KRet w' l e := by
  obtain ⟨q, c, h1, h2, _⟩ := h
  exact ⟨q, c, h1, h2⟩
set_option maxHeartbeats 1000000 in
theorem partKind_in (t : List Nd) (a : Nat) (x' : Nd) (k' : Tp) (z : List Nd) (hE : EndIs t (a + 1) x' k' z) (p : Option Addr) (c : Nat) (w : World) (hv : NL w p t) (hc : t.length ≤ c) (hcm : c ≤ maxLen) (hl : t.length ≤ 901) (ha : a ≤ 900) :
    Calls Tryz.prog 28 #[.slice p t.length c, .int .i64 (a : Int)] w fun e w' => KRetP p w' (x' :: k'.flat) e ∧ Below w.heap.size w w' := by
  have H1 := kendAt hE hv hc hcm (by omega) (by omega)
  have hta : a + 1 + 1 + k'.flat.length ≤ t.length := by
    have := congrArg List.length hE.2
    simp at this
    omega
  have hb : ∃ b off, p = some ⟨b, off, none⟩ := by
    rcases hv with h | ⟨b, off, h, _⟩
    · rw [h] at hta; simp at hta
    · exact ⟨b, off, h⟩
  obtain ⟨b, off, rfl⟩ := hb
  have hN := hv.sub (a + 1) (k'.flat.length + 1)
  rw [hE.2, show (x' :: (k'.flat ++ z)).take (k'.flat.length + 1) = x' :: k'.flat by simp] at hN
  have HN : Hid (NL w (some ⟨b, off + (a + 1) * 4, none⟩) (x' :: k'.flat)) := hN
  have i1 : ¬ c = a + 1 := by omega
  have i2 : ((a + 1 + 1 + k'.flat.length : Nat) : Int) ≤ (c : Int) := by omega
  have HS : Hid (a + 1 + 1 + k'.flat.length - (a + 1) = k'.flat.length + 1) := by show _ = _; omega
  have i3 : a + 1 ≤ a + 1 + 1 + k'.flat.length := by omega
  have HC : Hid (k'.flat.length + 1 ≤ c - (a + 1) ∧ c - (a + 1) ≤ maxLen) := ⟨by omega, by omega⟩
  have h9 : a + 1 + 1 + k'.flat.length ≤ 1000 := by omega
  have HKl : Hid ((x' :: k'.flat).length = k'.flat.length + 1) := rfl
  unfold maxLen at hcm
  generalize a + 1 + 1 + k'.flat.length = m at *
  clear hN hE hv hta
  go_enter Tryz.func28, Tryz.ntmps28
  go_wp2_with fail
  refine H1.mono ?_
  rintro _ w1 ⟨rfl, hb1⟩
  go_wp2
  go_ret
  refine ⟨⟨some ⟨b, off + (a + 1) * 4, none⟩, c - (a + 1), ?_, ?_, b, off, _, rfl, rfl⟩, hb1⟩
  · rw [HKl.out, ← HS.out]; rfl
  · exact ⟨HN.out.up hb1, by rw [HKl.out]; exact HC.out.1, HC.out.2⟩
theorem partKind_any (t : List Nd) (a : Nat) (x' : Nd) (k' : Tp) (z : List Nd) (hE : EndIs t (a + 1) x' k' z) (p : Option Addr) (c : Nat) (w : World) (hv : NL w p t) (hc : t.length ≤ c) (hcm : c ≤ maxLen) (hl : t.length ≤ 901) (ha : a ≤ 900) :
    Calls Tryz.prog 28 #[.slice p t.length c, .int .i64 (a : Int)] w fun e w' => KRet w' (x' :: k'.flat) e ∧ Below w.heap.size w w' := by
  refine (partKind_in t a x' k' z hE p c w hv hc hcm hl ha).mono ?_
  rintro e w' ⟨h1, h2⟩
  exact ⟨h1.ret, h2⟩
end Go.Proofs.YtckjndiepojgfaaGreatDoor
namespace Go.Proofs.YtckjndiepojgfaaGreatDoor
open Go.RowKit
set_option linter.unusedVariables false
set_option linter.unusedSimpArgs false
set_option maxRecDepth 100000

/-- What lies at a field. -/
theorem rec_field {w : World} {b off c : Nat} {k a r : Tp} {f : Nd} {kf : Tp} (h : AK0 w (rcN k :: k.flat) (some ⟨b, off, none⟩) c) (hd : k = a.app (.cons f kf r)) : ((1 + a.flat.length : Nat) : Int) < ((k.flat.length : Int) + 1) ∧ b < w.heap.size ∧ w.cell? ⟨b, off + (1 + a.flat.length) * 4 + 1, none⟩ = some (.int .i64 f.n) ∧ w.cell? ⟨b, off + (1 + a.flat.length) * 4 + 2, none⟩ = some (.string f.s) := by
  have hfl := field_len hd
  have hat : 1 + a.flat.length < (rcN k :: k.flat).length := by simp; omega
  have hta : (rcN k :: k.flat)[1 + a.flat.length] = f := by
    have h1 := drop_field (x := rcN k) hd
    rw [List.drop_eq_getElem_cons hat] at h1
    exact (List.cons.inj h1).1
  obtain ⟨bt, ot, hpt, hbt, y1, x2, x3, y3⟩ := h.nl.at hat
  rw [hta] at x2 x3
  cases hpt
  exact ⟨by omega, hbt, x2, x3⟩
/-- A field's type is told. -/
theorem rec_part {k : Tp} (hk : Fl e0 k) {b off c : Nat} {w : World} (h : AK0 w (rcN k :: k.flat) (some ⟨b, off, none⟩) c) (h9 : k.flat.length ≤ 890) {a r : Tp} {f : Nd} {kf : Tp} (hd : k = a.app (.cons f kf r)) : ∃ x' k', kf = .cons x' k' .nil ∧ T1 (.cons x' k' .nil) ∧ k'.flat.length ≤ 890 ∧ k'.flat.length + 1 < k.flat.length + 1 ∧ ∀ W, Below w.heap.size w W → Calls Tryz.prog 28 #[.slice (some ⟨b, off, none⟩) (k.flat.length + 1) c, .int .i64 ((1 + a.flat.length : Nat) : Int)] W fun e w' => KRetP (some ⟨b, off, none⟩) w' (x' :: k'.flat) e ∧ Below W.heap.size W w' := by
  have hkf := (Fl.mid (p := a) (f := f) (kf := kf) (r := r) (by rw [← hd]; exact hk)).2.2.2
  obtain ⟨x', k', e1, hE⟩ := field_end (x := rcN k) hd hkf
  have hfl := field_len hd
  rw [e1] at hkf hfl
  simp only [Tp.flat, List.length_cons, List.length_append, List.length_nil] at hfl
  refine ⟨x', k', e1, hkf, by omega, by omega, fun W hW => ?_⟩
  exact partKind_in (rcN k :: k.flat) (1 + a.flat.length) x' k' _ hE (some ⟨b, off, none⟩) c W (h.nl.up hW) h.le h.cm (by simp; omega) (by omega)
end Go.Proofs.YtckjndiepojgfaaGreatDoor
namespace Go.Proofs.YtckjndiepojgfaaGreatDoor
open Go.RowKit
set_option linter.unusedVariables false

theorem ret_bl {a b : Bool} (h : a = b) : Ending.returned (.bool a) = .returned (.bool b) := by rw [h]
theorem tfault_zero (l : List UInt8) : (tfault l == 0) = textOk l := by
  cases h : textOk l
  · simpa using tfault_not h
  · simpa using tfault_ok h
theorem ufault_zero (t i : List UInt8) : (ufault t i == 0) = (nfault t == 0 && textOk i) := by
  unfold ufault
  by_cases h : nfault t = 0
  · rw [if_pos h, tfault_zero, h]; rfl
  · rw [if_neg h]
    have : (nfault t == 0) = false := by simpa using h
    rw [this]; rfl

set_option maxRecDepth 100000 in
set_option maxHeartbeats 4000000 in
theorem valueNode_any (x : Nd) (w : World) (hx : x.wf) :
    Calls Tryz.prog 61 #[x.val] w fun e w' => e = .returned (.bool (ndOk x)) ∧ Below w.heap.size w w' := by
  obtain ⟨op, n, s, t⟩ := x
  obtain ⟨hs, ht, _⟩ := hx
  unfold Nd.val
  have HL : Hid (∀ o w', Below (w.alloc o).heap.size (w.alloc o) w' → Below w.heap.size w w') := fun o w' h => ((Below.refl _ _).alloc (Nat.le_refl _) _).trans (h.mono (by simp))
  have es : ((s.toList == []) = s.data.toList.isEmpty) := by rw [ByteArray.toList_eq]; cases s.data.toList <;> rfl
  have et : ((t.toList == []) = t.data.toList.isEmpty) := by rw [ByteArray.toList_eq]; cases t.data.toList <;> rfl
  cases hse : s.data.toList.isEmpty <;> cases hte : t.data.toList.isEmpty <;> rw [hse] at es <;> rw [hte] at et
  all_goals
    by_cases h1 : op = 1
    · subst h1
      have hn : n = 0 ∨ n = 1 ∨ n < 0 ∨ 1 < n := by omega
      rcases hn with rfl | rfl | hn | hn
      all_goals
        first | (have q0 : decide (n ≤ 1) = false := by simp; omega) | skip
        go_enter Tryz.func61, Tryz.ntmps61
        go_wp2
        all_goals
          go_ret
          refine ⟨ret_bl ?_, HL.out _ _ (Below.refl _ _)⟩
          simp [ndOk, hse, hte]
          try omega
    by_cases h2 : op = 2
    · subst h2
      go_enter Tryz.func61, Tryz.ntmps61
      go_wp2
      go_ret
      refine ⟨ret_bl ?_, HL.out _ _ (Below.refl _ _)⟩
      simp [ndOk, hse, hte]
    by_cases h56 : op = 5 ∨ op = 6
    · rcases h56 with rfl | rfl
      all_goals
        by_cases hn : n < 0
        · have hn2 : decide (0 ≤ n) = false := by simp; omega
          go_enter Tryz.func61, Tryz.ntmps61
          go_wp2
          go_ret
          refine ⟨ret_bl ?_, HL.out _ _ (Below.refl _ _)⟩
          simp [ndOk, hse, hte]
          try omega
        · have hn2 : decide (0 ≤ n) = true := by simp; omega
          go_enter Tryz.func61, Tryz.ntmps61
          go_wp2
          go_ret
          refine ⟨ret_bl ?_, HL.out _ _ (Below.refl _ _)⟩
          simp [ndOk, hse, hte]
          try omega
    have e1 : (op == 1) = false := by simpa using h1
    have e2 : (op == 2) = false := by simpa using h2
    have j5 : ¬ op = 5 := fun h => h56 (.inl h)
    have j6 : ¬ op = 6 := fun h => h56 (.inr h)
    have e5 : (op == 5) = false := by simpa using j5
    have e6 : (op == 6) = false := by simpa using j6
    by_cases hn0 : n = 0
    · subst hn0
      by_cases h3 : op = 3
      · subst h3
        have HT := fun w => textFault_any s w hs
        have hz := tfault_zero s.data.toList
        generalize htf : tfault s.data.toList = tf at HT hz
        clear htf
        cases hto : textOk s.data.toList <;> rw [hto] at hz
        all_goals
          go_enter Tryz.func61, Tryz.ntmps61
          go_wp2_with (go_at_call 108; refine (HT _).mono ?_; rintro e w1 ⟨rfl, rfl⟩)
          go_ret
          refine ⟨ret_bl ?_, HL.out _ _ (Below.refl _ _)⟩
          simp [ndOk, hto, hte]
      have e3 : (op == 3) = false := by simpa using h3
      by_cases h4 : op = 4
      · subst h4
        have HT := fun w => uidFault_any s t w hs ht
        have hz := ufault_zero s.data.toList t.data.toList
        generalize htf : ufault s.data.toList t.data.toList = tf at HT hz
        clear htf
        cases hto : (nfault s.data.toList == 0 && textOk t.data.toList) <;> rw [hto] at hz
        all_goals
          have HO : Hid (_ = _) := hto
          clear hto
          go_enter Tryz.func61, Tryz.ntmps61
          go_wp2_with fail
          refine (HT _).mono ?_
          rintro e w1 ⟨rfl, hb1⟩
          go_wp2
          go_ret
          refine ⟨ret_bl ?_, HL.out _ _ hb1⟩
          have := HO.out
          simp [ndOk] at this ⊢
          try exact this
      have e4 : (op == 4) = false := by simpa using h4
      by_cases h7 : op = 7
      · subst h7
        have HT := fun w => nameFault_any s w hs
        cases hto : (nfault s.data.toList == 0)
        all_goals
          go_enter Tryz.func61, Tryz.ntmps61
          go_wp2_with (go_at_call 57; refine (HT _).mono ?_; rintro e w1 ⟨rfl, rfl⟩)
          go_ret
          refine ⟨ret_bl ?_, HL.out _ _ (Below.refl _ _)⟩
          simp [ndOk, hto, hte]
      have e7 : (op == 7) = false := by simpa using h7
      have HN : Hid (ndOk ⟨op, 0, s, t⟩ = false) := by show _ = _; simp [ndOk, h1, h2, h3, h4, j5, j6, h7]
      clear h1 h2 h3 h4 h56 j5 j6 h7
      go_enter Tryz.func61, Tryz.ntmps61
      go_wp2
      go_ret
      exact ⟨ret_bl HN.out.symm, HL.out _ _ (Below.refl _ _)⟩
    · have hn1 : (n != 0) = true := by simpa using hn0
      have HN : Hid (ndOk ⟨op, n, s, t⟩ = false) := by show _ = _; simp [ndOk, h1, h2, j5, j6, hn0]
      clear h1 h2 h56 j5 j6 hn0
      go_enter Tryz.func61, Tryz.ntmps61
      go_wp2
      go_ret
      exact ⟨ret_bl HN.out.symm, HL.out _ _ (Below.refl _ _)⟩

end Go.Proofs.YtckjndiepojgfaaGreatDoor
namespace Go.Proofs.YtckjndiepojgfaaGreatDoor
open Go.RowKit
set_option linter.unusedVariables false

theorem quiet_more {P : Program} {f : FuncId} {args : Array Value} {w : World} {a n : Nat} {v : Value}
    (h : ∀ w, Calls P f args w fun e w' => e = .returned v ∧ ∃ m, w' = w.drewN m) : Calls P f args (w.drewN (a + n)) fun e w'' => e = .returned v ∧ ∃ m, w'' = w.drewN (a + m) :=
  (h _).mono fun _ _ ⟨he, m, hm⟩ => ⟨he, n + m, by rw [hm, World.drewN_drewN, Nat.add_assoc]⟩
theorem quiet_ones {P : Program} {f : FuncId} {args : Array Value} {w : World} {n : Nat} {v : Value}
    (h : ∀ w, Calls P f args w fun e w' => e = .returned v ∧ ∃ m, w' = w.drewN m) : Calls P f args (w.drewN n) fun e w'' => e = .returned v ∧ ∃ m, w'' = w.drewN m :=
  (h _).mono fun _ _ ⟨he, m, hm⟩ => ⟨he, n + m, by rw [hm, World.drewN_drewN]⟩
theorem quiet_none {P : Program} {f : FuncId} {args : Array Value} {v : Value}
    (h : ∀ w, Calls P f args w fun e w' => e = .returned v ∧ w' = w) (w : World) : Calls P f args w fun e w' => e = .returned v ∧ ∃ m, w' = w.drewN m :=
  (h w).mono fun _ _ ⟨he, hm⟩ => ⟨he, 0, hm⟩

set_option maxRecDepth 100000 in
set_option maxHeartbeats 4000000 in
theorem refNodes_any (a b : List Nd) (p q : Option Addr) (c1 c2 : Nat) (w : World) (ha : NL w p a) (hb : NL w q b) (la : a.length ≤ maxLen) (lb : b.length ≤ maxLen) :
    Calls Tryz.prog 62 #[.slice p a.length c1, .slice q b.length c2] w fun e w' => e = .returned (.int .i64 (lsC a b)) ∧ ∃ n, w' = w.drewN n := by
  unfold maxLen at la lb
  go_enter Tryz.func62, Tryz.ntmps62
  go_wp2
  go_loopw [5] (fun i wr => ∃ k n : Nat, k ≤ a.length ∧ k ≤ b.length ∧ i = .int .i64 k ∧ wr = w.drewN n ∧ Hid (lsC (a.drop k) (b.drop k) = lsC a b)) (fun i _ => a.length - (intOf i).toNat)
  case atStart => exact ⟨0, 0, Nat.zero_le _, Nat.zero_le _, rfl, rfl, rfl⟩
  case round =>
    obtain ⟨k, n, hk, hk2, rfl, hwr, HD⟩ := hrel
    have ha' : NL wr p a := by rw [hwr]; exact ha
    have hb' : NL wr q b := by rw [hwr]; exact hb
    have HW : Hid (_ = _) := hwr
    clear hwr
    by_cases hlt : k < a.length
    · have i1 : (k : Int) < (a.length : Int) := by omega
      by_cases hlt2 : k < b.length
      · have i2 : (k : Int) < (b.length : Int) := by omega
        obtain ⟨b1, o1, rfl, hb1, x0, x1, x2, x3, xw⟩ := ha'.at hlt
        obtain ⟨b2, o2, rfl, hb2, y0, y1, y2, y3, yw⟩ := hb'.at hlt2
        have HS : Hid (_ = _) := lsC_step a b k a[k] b[k] (List.getElem?_eq_getElem hlt) (List.getElem?_eq_getElem hlt2)
        generalize a[k] = x at *
        generalize b[k] = y at *
        have N1 := fun w => numC_any x.op y.op w
        have N2 := fun w => numC_any x.n y.n w
        have T1 := fun w => textC_any x.s y.s w xw.1 yw.1
        have T2 := fun w => textC_any x.t y.t w xw.2.1 yw.2.1
        have HO : Hid (ndC x y = orI [cmpI x.op y.op, cmpI x.n y.n, cmpB x.s y.s, cmpB x.t y.t]) := rfl
        generalize cmpI x.op y.op = d1 at *
        generalize cmpI x.n y.n = d2 at *
        generalize cmpB x.s y.s = d3 at *
        generalize cmpB x.t y.t = d4 at *
        generalize ndC x y = z at *
        cases q1 : (d1 == 0)
        · have m : (d1 != 0) = true := by simpa using q1
          have HZ : Hid (z = d1) := by show _ = _; rw [HO.out]; simp [orI, (by simpa using q1 : ¬ d1 = 0)]
          clear HO
          go_wp2
          go_quiet ((go_at_call 101; first | exact quiet_ones (quiet_none N1) | exact quiet_more (quiet_none N1)))
          go_wp2
          go_ret
          exact ⟨ret_num (by rw [← HD.out, HS.out, HZ.out, if_neg (by simpa using q1)]), _, by rw [HW.out]; simp only [World.drewN_drewN]; rfl⟩
        · have r1 : d1 = 0 := by simpa using q1
          cases q2 : (d2 == 0)
          · have m : (d2 != 0) = true := by simpa using q2
            have HZ : Hid (z = d2) := by show _ = _; rw [HO.out]; simp [orI, r1, (by simpa using q2 : ¬ d2 = 0)]
            clear HO
            go_wp2
            go_quiet ((go_at_call 101; first | exact quiet_ones (quiet_none N1) | exact quiet_more (quiet_none N1)))
            go_wp2
            go_quiet ((go_at_call 101; first | exact quiet_ones (quiet_none N2) | exact quiet_more (quiet_none N2)))
            go_wp2
            go_ret
            exact ⟨ret_num (by rw [← HD.out, HS.out, HZ.out, if_neg (by simpa using q2)]), _, by rw [HW.out]; simp only [World.drewN_drewN]; rfl⟩
          · have r2 : d2 = 0 := by simpa using q2
            cases q3 : (d3 == 0)
            · have m : (d3 != 0) = true := by simpa using q3
              have HZ : Hid (z = d3) := by show _ = _; rw [HO.out]; simp [orI, r1, r2, (by simpa using q3 : ¬ d3 = 0)]
              clear HO
              go_wp2
              go_quiet ((go_at_call 101; first | exact quiet_ones (quiet_none N1) | exact quiet_more (quiet_none N1)))
              go_wp2
              go_quiet ((go_at_call 101; first | exact quiet_ones (quiet_none N2) | exact quiet_more (quiet_none N2)))
              go_wp2
              go_quiet ((go_at_call 58; first | exact quiet_ones T1 | exact quiet_more T1))
              go_wp2
              go_ret
              exact ⟨ret_num (by rw [← HD.out, HS.out, HZ.out, if_neg (by simpa using q3)]), _, by rw [HW.out]; simp only [World.drewN_drewN]; rfl⟩
            · have r3 : d3 = 0 := by simpa using q3
              cases q4 : (d4 == 0)
              · have m : (d4 != 0) = true := by simpa using q4
                have HZ : Hid (z = d4) := by show _ = _; rw [HO.out]; simp [orI, r1, r2, r3, (by simpa using q4 : ¬ d4 = 0)]
                clear HO
                go_wp2
                go_quiet ((go_at_call 101; first | exact quiet_ones (quiet_none N1) | exact quiet_more (quiet_none N1)))
                go_wp2
                go_quiet ((go_at_call 101; first | exact quiet_ones (quiet_none N2) | exact quiet_more (quiet_none N2)))
                go_wp2
                go_quiet ((go_at_call 58; first | exact quiet_ones T1 | exact quiet_more T1))
                go_wp2
                go_quiet ((go_at_call 58; first | exact quiet_ones T2 | exact quiet_more T2))
                go_wp2
                go_ret
                exact ⟨ret_num (by rw [← HD.out, HS.out, HZ.out, if_neg (by simpa using q4)]), _, by rw [HW.out]; simp only [World.drewN_drewN]; rfl⟩
              · have r4 : d4 = 0 := by simpa using q4
                have m : (d4 != 0) = false := by simpa using q4
                have HZ : Hid (z = 0) := by show _ = _; rw [HO.out]; simp [orI, r1, r2, r3, r4]
                clear HO r1 r2 r3 r4
                go_wp2
                go_quiet ((go_at_call 101; first | exact quiet_ones (quiet_none N1) | exact quiet_more (quiet_none N1)))
                go_wp2
                go_quiet ((go_at_call 101; first | exact quiet_ones (quiet_none N2) | exact quiet_more (quiet_none N2)))
                go_wp2
                go_quiet ((go_at_call 58; first | exact quiet_ones T1 | exact quiet_more T1))
                go_wp2
                go_quiet ((go_at_call 58; first | exact quiet_ones T2 | exact quiet_more T2))
                go_wp2
                go_roundw
                case rel => exact ⟨k + 1, _, by omega, by omega, by go_num, by rw [HW.out]; simp only [World.drewN_drewN]; rfl, by show _ = _; rw [← HD.out, HS.out, HZ.out, if_pos rfl]⟩
                case measure => simp [intOf]; omega
      · have i2 : ¬ (k : Int) < (b.length : Int) := by omega
        have HS : Hid (_ = _) := lsC_more a b k hlt (by omega)
        go_wp2_with fail
        refine (numC_any _ _ _).mono ?_
        rintro e w1 ⟨rfl, rfl⟩
        go_wp2
        go_ret
        exact ⟨ret_num (by rw [← HD.out, HS.out]; unfold cmpI; repeat' split <;> omega), _, HW.out⟩
    · have i1 : ¬ (k : Int) < (a.length : Int) := by omega
      have HS : Hid (cmpI a.length b.length = lsC a b) := by
        show _ = _
        rw [← HD.out]
        by_cases hlt2 : k < b.length
        · rw [lsC_less a b k (by omega) hlt2]; unfold cmpI; repeat' split <;> omega
        · rw [lsC_done a b k (by omega) (by omega)]; unfold cmpI; repeat' split <;> omega
      go_wp2_with fail
      refine (numC_any _ _ _).mono ?_
      rintro e w1 ⟨rfl, rfl⟩
      go_wp2
      go_ret
      exact ⟨ret_num HS.out, _, HW.out⟩
end Go.Proofs.YtckjndiepojgfaaGreatDoor
namespace Go.Proofs.YtckjndiepojgfaaGreatDoor
open Go.RowKit
set_option linter.unusedVariables false

/-- The contract of ValueEnd for what is so short. -/
def EndOk (f : Nat) : Prop := ∀ (v : List Nd) (b off c at_ : Nat) (field : Bool) (w : World), at_ ≤ v.length → v.length - at_ < f → NL w (some ⟨b, off, none⟩) v → b < w.heap.size → v.length ≤ c → c ≤ maxLen →
  Calls Tryz.prog 25 #[.slice (some ⟨b, off, none⟩) v.length c, .int .i64 at_, .bool field] w fun e w' => e = .returned (.int .i64 (endI v.length (pastF f field (v.drop at_)))) ∧ Below w.heap.size w w'

theorem valueEnd_past (p : Option Addr) (n c : Nat) (field : Bool) (w : World) (hn : n ≤ maxLen) :
    Calls Tryz.prog 25 #[.slice p n c, .int .i64 n, .bool field] w fun e w' => e = .returned (.int .i64 (-1)) ∧ w' = w := by
  unfold maxLen at hn
  go_enter Tryz.func25, Tryz.ntmps25
  go_wp2
  go_ret
  exact ⟨rfl, rfl⟩

theorem NL.from {w : World} {b off : Nat} {v : List Nd} (h : NL w (some ⟨b, off, none⟩) v) (k n : Nat) : NL w (some ⟨b, off + k * 4, none⟩) ((v.drop k).take n) := by
  rcases h with rfl | ⟨b', off', h1, h2, h3⟩
  · exact .inl (by simp)
  · cases h1
    refine .inr ⟨_, _, rfl, h2, fun i x hx => ?_⟩
    have hx' : v[k + i]? = some x := by
      rw [List.getElem?_take] at hx
      split at hx
      · simpa using hx
      · cases hx
    have := h3 (k + i) x hx'
    rw [show off + (k + i) * 4 = off + k * 4 + i * 4 by omega] at this
    exact this

theorem endI_cons {v r : List Nd} {at_ : Nat} {x : Nd} (h : v.drop at_ = x :: r) : endI v.length (some r) = (at_ : Int) + 1 := by
  have : (v.drop at_).length = r.length + 1 := by rw [h]; rfl
  simp at this
  unfold endI
  simp only []
  omega

theorem pastF_value {f : Nat} {u : List Nd} : pastF f false u = pastV f u := rfl
theorem pastF_field {f : Nat} {x : Nd} {r : List Nd} (h7 : x.op = 7) (h : ndOk x = true) : pastF f true (x :: r) = pastV f r := by
  unfold pastF; simp [h7, h]
theorem pastF_bad {f : Nat} {x : Nd} {r : List Nd} {field : Bool} (h : ndOk x = false) : pastF (f + 1) field (x :: r) = none := by
  unfold pastF; cases field <;> simp [h, pastV]
theorem pastF_other {f : Nat} {x : Nd} {r : List Nd} {field : Bool} (h : (x.op == 7) ≠ field) : pastF (f + 1) field (x :: r) = none := by
  cases field
  · have : x.op = 7 := by simpa using h
    simp [pastF, pastV, this]
  · have : ¬ x.op = 7 := by simpa using h
    simp [pastF, this]

theorem setLoop_none' {pv : List Nd → Option (List Nd)} {n k : Nat} (h : k < n) {last : Option (List Nd)} {v : List Nd} (e : pv v = none) : setLoop pv (n - k) last v = none := by
  rw [show n - k = (n - (k + 1)) + 1 by omega]; simp only [setLoop, e]
theorem setLoop_some' {pv : List Nd → Option (List Nd)} {n k : Nat} (h : k < n) {last : Option (List Nd)} {v rest : List Nd} (e : pv v = some rest) :
    setLoop pv (n - k) last v = if aheadOf last (v.take (v.length - rest.length)) then setLoop pv (n - (k + 1)) (some (v.take (v.length - rest.length))) rest else none := by
  rw [show n - k = (n - (k + 1)) + 1 by omega]; simp only [setLoop, e]
theorem ret_n {k : IntKind} {a b : Int} (h : a = b) : Ending.returned (.int k a) = .returned (.int k b) := by rw [h]
theorem below_nn {B : Nat} {a w : World} (h : Below B a w) (n : Nat) : Below B a (w.drewN n) := ⟨h.os, h.tape, h.output, h.size, h.block⟩

def lastI : Option Nat → Int
  | none => -1
  | some a => a
def lastL (v : List Nd) (fr : Nat) : Option Nat → Option (List Nd)
  | none => none
  | some a => some ((v.drop a).take (fr - a))

theorem node_cells {w w1 : World} {x : Nd} {T : TypeId} (hb : Below (w.alloc (.cells #[.int .i64 x.op, .int .i64 x.n, .string x.s, .string x.t] T)).heap.size (w.alloc (.cells #[.int .i64 x.op, .int .i64 x.n, .string x.s, .string x.t] T)) w1) :
    w1.cell? ⟨w.heap.size, 0, none⟩ = some (.int .i64 x.op) ∧ w1.cell? ⟨w.heap.size, 1, none⟩ = some (.int .i64 x.n) ∧ Below w.heap.size w w1 ∧ w.heap.size < w1.heap.size := by
  have hs : w.heap.size < (w.alloc (.cells #[.int .i64 x.op, .int .i64 x.n, .string x.s, .string x.t] T)).heap.size := by simp
  refine ⟨(hb.cell (p := ⟨w.heap.size, 0, none⟩) hs).trans (by simp [go_sem]), (hb.cell (p := ⟨w.heap.size, 1, none⟩) hs).trans (by simp [go_sem]), ((Below.refl _ _).alloc (Nat.le_refl _) _).trans (hb.mono (by simp)), Nat.lt_of_lt_of_le hs hb.size⟩

theorem drop_rest {v rest : List Nd} {fr : Nat} (ht : IsTail rest (v.drop fr)) : rest = v.drop (v.length - rest.length) ∧ v.length - rest.length = fr + ((v.drop fr).length - rest.length) ∨ v.length < fr := by
  by_cases h : v.length < fr
  · exact .inr h
  · left
    obtain ⟨a, ha⟩ := ht
    have hl : (v.drop fr).length = a.length + rest.length := by rw [ha]; simp
    have hl2 : v.length - fr = a.length + rest.length := by rw [← hl]; simp
    refine ⟨?_, by omega⟩
    rw [show v.length - rest.length = fr + a.length by omega, ← List.drop_drop, ha, List.drop_left]

set_option maxRecDepth 100000 in
set_option maxHeartbeats 8000000 in
theorem valueEnd_set (f : Nat) (ih : EndOk f) (v : List Nd) (b off c at_ : Nat) (x : Nd) (r : List Nd) (w : World) (hat : v.drop at_ = x :: r) (hf : v.length - at_ < f + 1) (hv : NL w (some ⟨b, off, none⟩) v) (hbw : b < w.heap.size) (hc : v.length ≤ c) (hcm : c ≤ maxLen)
    (h5 : x.op = 5) (hx : ndOk x = true) (h0 : 0 ≤ x.n) (hxn : x.n ≤ 9223372036854775807) :
    Calls Tryz.prog 25 #[.slice (some ⟨b, off, none⟩) v.length c, .int .i64 at_, .bool false] w fun e w' => e = .returned (.int .i64 (endI v.length (setLoop (pastV f) x.n.toNat none r))) ∧ Below w.heap.size w w' := by
  have HM : Hid (c ≤ maxLen) := hcm
  unfold maxLen at hcm
  have hlen : (v.drop at_).length = r.length + 1 := by rw [hat]; rfl
  simp at hlen
  have halt : at_ < v.length := by omega
  have hrd : r = v.drop (at_ + 1) := by rw [← List.drop_drop, hat]; rfl
  have hxe : v[at_]? = some x := by have := congrArg (fun l => l[0]?) hat; simpa using this
  have HXE : Hid (_ = _) := hxe
  obtain ⟨b', o', hpe, _, x0, x1, x2, x3, xw⟩ := hv.at halt
  obtain ⟨rfl, rfl⟩ : b = b' ∧ off = o' := by simpa using hpe
  obtain rfl : v[at_] = x := by rw [List.getElem?_eq_getElem halt] at hxe; exact Option.some.inj hxe
  generalize hX : v[at_] = x at *
  have HAT : Hid (_ = _) := hat
  have HRD : Hid (_ = _) := hrd
  clear hX hpe hxe hat hrd
  have HN := fun w => valueNode_any x w xw
  rw [hx] at HN
  have i1 : (at_ : Int) < (v.length : Int) := by omega
  have e5 : (x.op == 5) = true := by simpa using h5
  have e5' : (x.op != 5) = false := by simpa using h5
  have e6 : (x.op == 6) = false := by simp [h5]
  have e7 : (x.op == 7) = false := by simp [h5]
  have HO : Hid (x.op = 5) := h5
  clear h5 hx
  generalize hR : setLoop (pastV f) x.n.toNat none r = R
  have HR : Hid (_ = _) := hR
  clear hR
  go_enter Tryz.func25, Tryz.ntmps25
  go_wp2_with fail
  refine (HN _).mono ?_
  rintro e w1 ⟨rfl, hb1⟩
  clear HN x0 x1 x2 x3
  obtain ⟨z0, z1, hbw1, hnb⟩ := node_cells hb1
  clear hb1
  have hv1 := hv.up hbw1
  have hb2 : b < w1.heap.size := Nat.lt_of_lt_of_le hbw hbw1.size
  go_wp2
  go_loopw [8, 9, 10] (fun se sl i wr => ∃ (k fr : Nat) (last : Option Nat), (k : Int) ≤ x.n ∧ i = .int .i64 k ∧ se = .int .i64 fr ∧ fr ≤ v.length ∧ at_ < fr ∧ sl = .int .i64 (lastI last) ∧ Hid (∀ a, last = some a → a < fr) ∧
      Hid (setLoop (pastV f) (x.n.toNat - k) (lastL v fr last) (v.drop fr) = R) ∧ Below w1.heap.size w1 wr) (fun _ _ i _ => x.n.toNat - (intOf i).toNat)
  case atStart => exact ⟨0, at_ + 1, none, by simpa using h0, rfl, by go_num, by omega, by omega, rfl, (fun a h => by cases h), by rw [← HRD.out]; exact HR, Below.refl _ _⟩
  case round =>
    obtain ⟨k, fr, last, hk, rfl, rfl, hfr, hatfr, rfl, HLA, HS, hbr⟩ := hrel
    have y0 := (hbr.cell (p := ⟨w.heap.size, 0, none⟩) hnb).trans z0
    have y1 := (hbr.cell (p := ⟨w.heap.size, 1, none⟩) hnb).trans z1
    have hvr := hv1.up hbr
    by_cases hlt : (k : Int) < x.n
    · have hkn : k < x.n.toNat := by omega
      have hend := ih v b off c fr false wr hfr (by omega) hvr (Nat.lt_of_lt_of_le hb2 hbr.size) hc HM.out
      rw [pastF_value] at hend
      cases hp : pastV f (v.drop fr) with
      | none =>
        have HN : Hid (none = R) := by rw [← HS.out, setLoop_none' hkn hp]; rfl
        rw [hp] at hend
        clear HS HR hp
        unfold endI at hend
        simp only [] at hend
        go_wp2_with fail
        refine hend.mono ?_
        rintro e w2 ⟨rfl, hb2'⟩
        clear hend
        go_wp2
        go_ret
        exact ⟨by rw [← HN.out]; rfl, hbw1.trans ((hbr.trans (hb2'.mono hbr.size)).mono hbw1.size)⟩
      | some rest =>
        obtain ⟨hsh, htl⟩ := pastV_shorter hp
        have hdl : (v.drop fr).length = v.length - fr := by simp
        obtain ⟨hrest, hre⟩ := (drop_rest htl).resolve_right (by omega)
        have HN : Hid (_ = _) := (setLoop_some' (last := lastL v fr last) hkn hp).symm.trans HS.out
        rw [hp] at hend
        clear HS HR hp
        obtain ⟨en, hen, hen1, hen2⟩ : ∃ en : Nat, endI v.length (some rest) = (en : Int) ∧ en = v.length - rest.length ∧ fr < en := ⟨v.length - rest.length, by unfold endI; simp only []; omega, rfl, by omega⟩
        rw [hen] at hend
        rw [show (v.drop fr).length - rest.length = en - fr by omega] at HN
        have henl : en ≤ v.length := by omega
        rw [← hen1] at hrest
        have HRS : Hid (_ = _) := hrest
        clear hen hen1 hrest hre hsh htl
        cases last with
        | none =>
          unfold lastI
          simp only []
          go_wp2_with fail
          refine hend.mono ?_
          rintro e w2 ⟨rfl, hb2'⟩
          have hb3 := hbr.trans (hb2'.mono hbr.size)
          have u0 := (hb3.cell (p := ⟨w.heap.size, 0, none⟩) hnb).trans z0
          clear hend y0 y1
          go_wp2_with fail
          go_quiet (fail)
          go_wp2_with fail
          go_quiet (fail)
          go_wp2
          go_roundw
          case rel =>
            refine ⟨k + 1, en, some fr, by omega, by go_num, rfl, henl, by omega, rfl, (fun a h => by cases h; omega), ?_, below_nn hb3 _⟩
            have := HN.out
            rw [show aheadOf (lastL v fr none) ((v.drop fr).take (en - fr)) = true from rfl, if_pos rfl, HRS.out] at this
            exact this
          case measure => simp [intOf]; omega
        | some la =>
          have hla := HLA.out la rfl
          unfold lastI
          simp only []
          have j1 : (0 : Int) ≤ (la : Int) := by omega
          have j2 : (la : Int) ≤ (fr : Int) := by omega
          have j3 : (fr : Int) ≤ (c : Int) := by omega
          have j4 : (fr : Int) ≤ (en : Int) := by omega
          have j5 : (en : Int) ≤ (c : Int) := by omega
          have j6 : ¬ c = la := by omega
          have j7 : ¬ c = fr := by omega
          have lA : ((v.drop la).take (fr - la)).length = fr - la := by simp; omega
          have lB : ((v.drop fr).take (en - fr)).length = en - fr := by simp; omega
          go_wp2_with fail
          refine hend.mono ?_
          rintro e w2 ⟨rfl, hb2'⟩
          have hb3 := hbr.trans (hb2'.mono hbr.size)
          have u0 := (hb3.cell (p := ⟨w.heap.size, 0, none⟩) hnb).trans z0
          have hv2 := hv1.up hb3
          have hcl : ∀ n, Calls Tryz.prog 62 #[.slice (some ⟨b, off + la * 4, none⟩) (fr - la) (c - la), .slice (some ⟨b, off + fr * 4, none⟩) (en - fr) (c - fr)] (w2.drewN n) fun e w'' => e = .returned (.int .i64 (lsC ((v.drop la).take (fr - la)) ((v.drop fr).take (en - fr)))) ∧ ∃ m, w'' = w2.drewN m := fun n => by
            have h := refNodes_any ((v.drop la).take (fr - la)) ((v.drop fr).take (en - fr)) (some ⟨b, off + la * 4, none⟩) (some ⟨b, off + fr * 4, none⟩) (c - la) (c - fr) (w2.drewN n) (hv2.from la (fr - la)) (hv2.from fr (en - fr)) (by rw [lA]; unfold maxLen; omega) (by rw [lB]; unfold maxLen; omega)
            rw [lA, lB] at h
            exact h.mono fun e w'' ⟨h1, m, h2⟩ => ⟨h1, n + m, by rw [h2, World.drewN_drewN]⟩
          have HAH : Hid (aheadOf (lastL v fr (some la)) ((v.drop fr).take (en - fr)) = !decide (0 ≤ lsC ((v.drop la).take (fr - la)) ((v.drop fr).take (en - fr)))) := by
            show _ = _
            by_cases h : lsC ((v.drop la).take (fr - la)) ((v.drop fr).take (en - fr)) < 0
            · rw [decide_eq_false (by omega)]; exact decide_eq_true h
            · rw [decide_eq_true (by omega)]; exact decide_eq_false h
          generalize lsC ((v.drop la).take (fr - la)) ((v.drop fr).take (en - fr)) = z at hcl HAH
          clear hend y0 y1 lA lB
          cases hz : decide (0 ≤ z)
          · rw [hz] at HAH
            go_wp2_with fail
            go_quiet (exact hcl _)
            go_wp2_with fail
            go_quiet (fail)
            go_wp2
            go_roundw
            case rel =>
              refine ⟨k + 1, en, some fr, by omega, by go_num, rfl, henl, by omega, rfl, (fun a h => by cases h; omega), ?_, below_nn hb3 _⟩
              have := HN.out
              rw [HAH.out, if_pos (by decide), HRS.out] at this
              exact this
            case measure => simp [intOf]; omega
          · rw [hz] at HAH
            have HN2 : Hid (none = R) := by
              have := HN.out
              rw [HAH.out, if_neg (by decide)] at this
              exact this
            go_wp2_with fail
            go_quiet (exact hcl _)
            go_wp2
            go_ret
            exact ⟨by rw [← HN2.out]; rfl, hbw1.trans ((below_nn hb3 _).mono hbw1.size)⟩
    · have HN : Hid (some (v.drop fr) = R) := by
        have := HS.out
        rw [show x.n.toNat - k = 0 by omega] at this
        exact this
      clear HS HR
      go_wp2
      go_ret
      exact ⟨by rw [← HN.out]; exact ret_n (by unfold endI; simp; omega), hbw1.trans (hbr.mono hbw1.size)⟩
def lastS (v : List Nd) : Option Nat → ByteArray
  | none => ⟨#[]⟩
  | some a => (v[a]?.map Nd.s).getD ⟨#[]⟩

theorem rec_bad {pv : List Nd → Option (List Nd)} {n k : Nat} (h : k < n) {last : ByteArray} {x : Nd} {r : List Nd} (e : ¬ (x.op = 7 ∧ ndOk x = true ∧ cmpB last x.s < 0)) : recLoop pv (n - k) last (x :: r) = none := by
  rw [show n - k = (n - (k + 1)) + 1 by omega]; simp only [recLoop, if_neg e]
theorem rec_go {pv : List Nd → Option (List Nd)} {n k : Nat} (h : k < n) {last : ByteArray} {x : Nd} {r rest : List Nd} (e : x.op = 7 ∧ ndOk x = true ∧ cmpB last x.s < 0) (hp : pv r = some rest) :
    recLoop pv (n - k) last (x :: r) = recLoop pv (n - (k + 1)) x.s rest := by
  rw [show n - k = (n - (k + 1)) + 1 by omega]; simp only [recLoop, if_pos e, hp]
theorem rec_none {f n k : Nat} (h : k < n) {last : ByteArray} {u : List Nd} (e : pastF f true u = none) : recLoop (pastV f) (n - k) last u = none := by
  rw [show n - k = (n - (k + 1)) + 1 by omega]
  cases u with
  | nil => rfl
  | cons x r =>
    simp only [recLoop]
    split
    · rename_i hh
      rw [pastF_field hh.1 hh.2.1] at e
      rw [e]
    · rfl
theorem rec_some {f : Nat} {u : List Nd} (e : ¬ pastF f true u = none) : ∃ y s rest, u = y :: s ∧ y.op = 7 ∧ ndOk y = true ∧ pastV f s = some rest := by
  cases u with
  | nil => exact absurd rfl e
  | cons x r =>
    by_cases h : x.op = 7 ∧ ndOk x = true
    · rw [pastF_field h.1 h.2] at e
      cases h2 : pastV f r with
      | none => exact absurd h2 e
      | some rest => exact ⟨x, r, rest, rfl, h.1, h.2, h2⟩
    · exact absurd (by unfold pastF; rw [if_pos rfl]; simp only [if_neg h]) e

set_option maxRecDepth 100000 in
set_option maxHeartbeats 8000000 in
theorem valueEnd_rec (f : Nat) (ih : EndOk f) (v : List Nd) (b off c at_ : Nat) (x : Nd) (r : List Nd) (w : World) (hat : v.drop at_ = x :: r) (hf : v.length - at_ < f + 1) (hv : NL w (some ⟨b, off, none⟩) v) (hbw : b < w.heap.size) (hc : v.length ≤ c) (hcm : c ≤ maxLen)
    (h5 : x.op = 6) (hx : ndOk x = true) (h0 : 0 ≤ x.n) (hxn : x.n ≤ 9223372036854775807) :
    Calls Tryz.prog 25 #[.slice (some ⟨b, off, none⟩) v.length c, .int .i64 at_, .bool false] w fun e w' => e = .returned (.int .i64 (endI v.length (recLoop (pastV f) x.n.toNat ⟨#[]⟩ r))) ∧ Below w.heap.size w w' := by
  have HM : Hid (c ≤ maxLen) := hcm
  unfold maxLen at hcm
  have hlen : (v.drop at_).length = r.length + 1 := by rw [hat]; rfl
  simp at hlen
  have halt : at_ < v.length := by omega
  have hrd : r = v.drop (at_ + 1) := by rw [← List.drop_drop, hat]; rfl
  have hxe : v[at_]? = some x := by have := congrArg (fun l => l[0]?) hat; simpa using this
  have HXE : Hid (_ = _) := hxe
  obtain ⟨b', o', hpe, _, x0, x1, x2, x3, xw⟩ := hv.at halt
  obtain ⟨rfl, rfl⟩ : b = b' ∧ off = o' := by simpa using hpe
  obtain rfl : v[at_] = x := by rw [List.getElem?_eq_getElem halt] at hxe; exact Option.some.inj hxe
  generalize hX : v[at_] = x at *
  have HAT : Hid (_ = _) := hat
  have HRD : Hid (_ = _) := hrd
  clear hX hpe hxe hat hrd
  have HN := fun w => valueNode_any x w xw
  rw [hx] at HN
  have i1 : (at_ : Int) < (v.length : Int) := by omega
  have e5 : (x.op == 5) = false := by simp [h5]
  have e5' : (x.op != 5) = true := by simp [h5]
  have e6 : (x.op == 6) = true := by simpa using h5
  have e6' : (x.op != 6) = false := by simpa using h5
  have e7 : (x.op == 7) = false := by simp [h5]
  have HO : Hid (x.op = 6) := h5
  clear h5 hx
  generalize hR : recLoop (pastV f) x.n.toNat ⟨#[]⟩ r = R
  have HR : Hid (_ = _) := hR
  clear hR
  go_enter Tryz.func25, Tryz.ntmps25
  go_wp2_with fail
  refine (HN _).mono ?_
  rintro e w1 ⟨rfl, hb1⟩
  clear HN x0 x1 x2 x3
  obtain ⟨z0, z1, hbw1, hnb⟩ := node_cells hb1
  clear hb1
  have hv1 := hv.up hbw1
  have hb2 : b < w1.heap.size := Nat.lt_of_lt_of_le hbw hbw1.size
  go_wp2
  go_loopw [8, 9, 10] (fun se sl i wr => ∃ (k fr : Nat) (last : Option Nat), (k : Int) ≤ x.n ∧ i = .int .i64 k ∧ se = .int .i64 fr ∧ fr ≤ v.length ∧ at_ < fr ∧ sl = .int .i64 (lastI last) ∧ Hid (∀ a, last = some a → a < fr) ∧
      Hid (recLoop (pastV f) (x.n.toNat - k) (lastS v last) (v.drop fr) = R) ∧ Below w1.heap.size w1 wr) (fun _ _ i _ => x.n.toNat - (intOf i).toNat)
  case atStart => exact ⟨0, at_ + 1, none, by simpa using h0, rfl, by go_num, by omega, by omega, rfl, (fun a h => by cases h), by rw [← HRD.out]; exact HR, Below.refl _ _⟩
  case round =>
    obtain ⟨k, fr, last, hk, rfl, rfl, hfr, hatfr, rfl, HLA, HS, hbr⟩ := hrel
    have y0 := (hbr.cell (p := ⟨w.heap.size, 0, none⟩) hnb).trans z0
    have y1 := (hbr.cell (p := ⟨w.heap.size, 1, none⟩) hnb).trans z1
    have hvr := hv1.up hbr
    by_cases hlt : (k : Int) < x.n
    · have hkn : k < x.n.toNat := by omega
      have hend := ih v b off c fr true wr hfr (by omega) hvr (Nat.lt_of_lt_of_le hb2 hbr.size) hc HM.out
      -- none of a Field with a value: the end is below 0
      by_cases hpf : pastF f true (v.drop fr) = none
      · have HN : Hid (none = R) := by
          rw [← HS.out, rec_none hkn hpf]; rfl
        rw [hpf] at hend
        clear HS HR hpf
        unfold endI at hend
        simp only [] at hend
        go_wp2_with fail
        refine hend.mono ?_
        rintro e w2 ⟨rfl, hb2'⟩
        clear hend
        go_wp2
        go_ret
        exact ⟨by rw [← HN.out]; rfl, hbw1.trans ((hbr.trans (hb2'.mono hbr.size)).mono hbw1.size)⟩
      · obtain ⟨y, s, rest, hys, h7, hok, hp⟩ := rec_some hpf
        have hp2 : pastF f true (v.drop fr) = some rest := by rw [hys, pastF_field h7 hok, hp]
        obtain ⟨hsh, htl⟩ := pastV_shorter hp
        have hfl : fr < v.length := by
          have : (v.drop fr).length = s.length + 1 := by rw [hys]; rfl
          simp at this; omega
        have hyv : v[fr]? = some y := by have := congrArg (fun l => l[0]?) hys; simpa using this
        obtain ⟨b', o', hpe, _, t0, t1, t2, t3, tw⟩ := hvr.at hfl
        obtain ⟨rfl, rfl⟩ : b = b' ∧ off = o' := by simpa using hpe
        obtain rfl : v[fr] = y := by rw [List.getElem?_eq_getElem hfl] at hyv; exact Option.some.inj hyv
        have hdl : (v.drop fr).length = v.length - fr := by simp
        obtain ⟨hrest, hre⟩ := (drop_rest (v := v) (fr := fr) (by rw [hys]; exact htl.cons _)).resolve_right (by omega)
        have hsl : s.length + 1 = v.length - fr := by rw [← hdl, hys]; rfl
        rw [hp2] at hend
        obtain ⟨en, hen, hen1, hen2⟩ : ∃ en : Nat, endI v.length (some rest) = (en : Int) ∧ en = v.length - rest.length ∧ fr < en := ⟨v.length - rest.length, by unfold endI; simp only []; omega, rfl, by omega⟩
        rw [hen] at hend
        have henl : en ≤ v.length := by omega
        rw [← hen1] at hrest
        have HRS : Hid (_ = _) := hrest
        have HY : Hid (_ = _) := hys
        have HYV : Hid (_ = _) := hyv
        have HP : Hid (_ = _) := hp
        have HK : Hid (v[fr].op = 7 ∧ ndOk v[fr] = true) := ⟨h7, hok⟩
        generalize v[fr] = y at *
        clear hen hen1 hrest hre hsh htl hpe hyv hys hp hp2 hpf h7 hok hdl
        cases last with
        | none =>
          unfold lastI
          simp only []
          have HN : Hid (recLoop (pastV f) (x.n.toNat - (k + 1)) y.s rest = R) := by
            have := HS.out
            rw [HY.out, show lastS v none = ⟨#[]⟩ from rfl, rec_go hkn ⟨HK.out.1, HK.out.2, name_ahead HK.out.1 HK.out.2⟩ HP.out] at this
            exact this
          clear HS HR
          go_wp2_with fail
          refine hend.mono ?_
          rintro e w2 ⟨rfl, hb2'⟩
          have hb3 := hbr.trans (hb2'.mono hbr.size)
          have u0 := (hb3.cell (p := ⟨w.heap.size, 0, none⟩) hnb).trans z0
          clear hend y0 y1
          go_wp2_with fail
          go_quiet (fail)
          go_wp2_with fail
          go_quiet (fail)
          go_wp2
          go_roundw
          case rel =>
            refine ⟨k + 1, en, some fr, by omega, by go_num, rfl, henl, by omega, rfl, (fun a h => by cases h; omega), ?_, below_nn hb3 _⟩
            show recLoop _ _ ((v[fr]?.map Nd.s).getD ⟨#[]⟩) _ = _
            rw [HYV.out, ← HRS.out]
            exact HN.out
          case measure => simp [intOf]; omega
        | some la =>
          have hla := HLA.out la rfl
          unfold lastI
          simp only []
          have j1 : (0 : Int) ≤ (la : Int) := by omega
          have j2 : (la : Int) < (v.length : Int) := by omega
          have j3 : (fr : Int) < (v.length : Int) := by omega
          obtain ⟨b', o', hpe, hbb, s0, s1, s2, s3, sw⟩ := hvr.at (show la < v.length by omega)
          obtain ⟨rfl, rfl⟩ : b = b' ∧ off = o' := by simpa using hpe
          have HLS : Hid (lastS v (some la) = v[la].s) := by
            show _ = _
            show (v[la]?.map Nd.s).getD ⟨#[]⟩ = _
            rw [List.getElem?_eq_getElem (show la < v.length by omega)]; rfl
          generalize v[la] = g at *
          clear hpe
          have hcl := fun w => textC_any g.s y.s w sw.1 tw.1
          go_wp2_with fail
          refine hend.mono ?_
          rintro e w2 ⟨rfl, hb2'⟩
          have hb3 := hbr.trans (hb2'.mono hbr.size)
          have u0 := (hb3.cell (p := ⟨w.heap.size, 0, none⟩) hnb).trans z0
          have u1 := (hb2'.cell (p := ⟨b, off + la * 4 + 2, none⟩) hbb).trans s2
          have u2 := (hb2'.cell (p := ⟨b, off + fr * 4 + 2, none⟩) hbb).trans t2
          clear hend y0 y1 s0 s1 s2 s3 t0 t1 t2 t3
          have HZ : Hid (cmpB (lastS v (some la)) y.s = cmpB g.s y.s) := by show _ = _; rw [HLS.out]
          generalize cmpB g.s y.s = z at *
          cases hz : decide (0 ≤ z)
          · have HN : Hid (recLoop (pastV f) (x.n.toNat - (k + 1)) y.s rest = R) := by
              have := HS.out
              rw [HY.out, rec_go hkn ⟨HK.out.1, HK.out.2, by rw [HZ.out]; simpa using hz⟩ HP.out] at this
              exact this
            clear HS HR
            go_wp2_with fail
            go_quiet (fail)
            go_wp2_with fail
            go_quiet ((first | exact quiet_ones hcl | exact quiet_more hcl))
            go_wp2
            go_roundw
            case rel =>
              refine ⟨k + 1, en, some fr, by omega, by go_num, rfl, henl, by omega, rfl, (fun a h => by cases h; omega), ?_, below_nn hb3 _⟩
              show recLoop _ _ ((v[fr]?.map Nd.s).getD ⟨#[]⟩) _ = _
              rw [HYV.out, ← HRS.out]
              exact HN.out
            case measure => simp [intOf]; omega
          · have HN2 : Hid (none = R) := by
              have := HS.out
              rw [HY.out, rec_bad hkn (fun h => by have := h.2.2; rw [HZ.out] at this; simp at hz; omega)] at this
              exact this
            clear HS HR
            go_wp2_with fail
            go_quiet (fail)
            go_wp2_with fail
            go_quiet ((first | exact quiet_ones hcl | exact quiet_more hcl))
            go_wp2
            go_ret
            exact ⟨by rw [← HN2.out]; rfl, hbw1.trans ((below_nn (below_nn hb3 _) _).mono hbw1.size)⟩
    · have HN : Hid (some (v.drop fr) = R) := by
        have := HS.out
        rw [show x.n.toNat - k = 0 by omega] at this
        cases h : v.drop fr <;> rw [h] at this <;> exact this
      clear HS HR
      go_wp2
      go_ret
      exact ⟨by rw [← HN.out]; exact ret_n (by unfold endI; simp; omega), hbw1.trans (hbr.mono hbw1.size)⟩

end Go.Proofs.YtckjndiepojgfaaGreatDoor
namespace Go.Proofs.YtckjndiepojgfaaGreatDoor
open Go.RowKit
set_option linter.unusedVariables false

theorem ok_count {x : Nd} (h : ndOk x = true) (h5 : x.op = 5 ∨ x.op = 6) : 0 ≤ x.n := by
  unfold ndOk at h
  rcases h5 with e | e <;> simp [e] at h <;> exact h.2

set_option maxRecDepth 100000 in
set_option maxHeartbeats 4000000 in
theorem valueEnd_step (f : Nat) (ih : EndOk f) : EndOk (f + 1) := by
  intro v b off c at_ field w hat hf hv hbw hc hcm
  by_cases halt : at_ < v.length
  · have hdr : v.drop at_ = v[at_] :: v.drop (at_ + 1) := List.drop_eq_getElem_cons halt
    obtain ⟨b', o', hpe, _, x0, x1, x2, x3, xw⟩ := hv.at halt
    obtain ⟨rfl, rfl⟩ : b = b' ∧ off = o' := by simpa using hpe
    have hlr : (v.drop (at_ + 1)).length = v.length - (at_ + 1) := by simp
    generalize v[at_] = x at *
    generalize hr : v.drop (at_ + 1) = r at *
    have HRD : Hid (_ = _) := hr
    have i1 : (at_ : Int) < (v.length : Int) := by omega
    have HN := fun w => valueNode_any x w xw
    clear hpe
    by_cases h7 : (x.op == 7) = field
    · cases hx : ndOk x
      · rw [hdr, pastF_bad hx]
        rw [hx] at HN
        have HM : Hid (c ≤ maxLen) := hcm
        unfold maxLen at hcm
        clear hdr hr
        go_enter Tryz.func25, Tryz.ntmps25
        go_wp2_with fail
        refine (HN _).mono ?_
        rintro e w1 ⟨rfl, hb1⟩
        go_wp2
        go_ret
        exact ⟨rfl, (node_cells hb1).2.2.1⟩
      · cases field with
        | true =>
          have h7' : x.op = 7 := by simpa using h7
          rw [hdr, pastF_field h7' hx, pastV_fuel (f + 1) f r (by omega) (by omega)]
          rw [hx] at HN
          have HE : Hid (EndOk f) := ih
          have HM : Hid (c ≤ maxLen) := hcm
          have h70 : (x.op == 7) = true := by simpa using h7'
          unfold maxLen at hcm
          clear hdr hr h7' h7 ih
          go_enter Tryz.func25, Tryz.ntmps25
          go_wp2_with fail
          refine (HN _).mono ?_
          rintro e w1 ⟨rfl, hb1⟩
          obtain ⟨z0, z1, hbw1, hnb⟩ := node_cells hb1
          clear hb1
          have hcall := HE.out v b off c (at_ + 1) false w1 (by omega) (by omega) (hv.up hbw1) (Nat.lt_of_lt_of_le hbw hbw1.size) hc HM.out
          rw [HRD.out, pastF_value, show ((at_ + 1 : Nat) : Int) = (at_ : Int) + 1 by omega] at hcall
          go_wp2_with fail
          refine hcall.mono ?_
          rintro e w2 ⟨rfl, hb2⟩
          go_wp2
          go_ret
          exact ⟨rfl, hbw1.trans (hb2.mono hbw1.size)⟩
        | false =>
          have h7' : ¬ x.op = 7 := by simpa using h7
          have hpv : pastF (f + 1) false (v.drop at_) = if x.op = 5 then setLoop (pastV f) x.n.toNat none r else if x.op = 6 then recLoop (pastV f) x.n.toNat ⟨#[]⟩ r else some r := by
            rw [pastF_value, hdr]; simp only [pastV]; rw [if_pos ⟨h7', hx⟩]
          rw [hpv]
          by_cases h5 : x.op = 5
          · rw [if_pos h5]
            exact valueEnd_set f ih v b off c at_ x r w hdr hf hv hbw hc hcm h5 hx (ok_count hx (.inl h5)) xw.2.2
          · rw [if_neg h5]
            by_cases h6 : x.op = 6
            · rw [if_pos h6]
              exact valueEnd_rec f ih v b off c at_ x r w hdr hf hv hbw hc hcm h6 hx (ok_count hx (.inr h6)) xw.2.2
            · rw [if_neg h6, endI_cons hdr]
              rw [hx] at HN
              have e5 : (x.op != 5) = true := by simpa using h5
              have e6 : (x.op != 6) = true := by simpa using h6
              have HM : Hid (c ≤ maxLen) := hcm
              unfold maxLen at hcm
              clear hdr hr h5 h6 h7' hpv
              go_enter Tryz.func25, Tryz.ntmps25
              go_wp2_with fail
              refine (HN _).mono ?_
              rintro e w1 ⟨rfl, hb1⟩
              obtain ⟨z0, z1, hbw1, hnb⟩ := node_cells hb1
              clear hb1
              go_wp2
              go_ret
              exact ⟨rfl, hbw1⟩
    · rw [hdr, pastF_other h7]
      have HM : Hid (c ≤ maxLen) := hcm
      unfold maxLen at hcm
      clear hdr hr
      cases hx : ndOk x <;> rw [hx] at HN
      · go_enter Tryz.func25, Tryz.ntmps25
        go_wp2_with fail
        refine (HN _).mono ?_
        rintro e w1 ⟨rfl, hb1⟩
        go_wp2
        go_ret
        exact ⟨rfl, (node_cells hb1).2.2.1⟩
      · cases h70 : (x.op == 7) <;> cases field
        · exact absurd h70 h7
        · clear h7
          go_enter Tryz.func25, Tryz.ntmps25
          go_wp2_with fail
          refine (HN _).mono ?_
          rintro e w1 ⟨rfl, hb1⟩
          obtain ⟨z0, z1, hbw1, hnb⟩ := node_cells hb1
          clear hb1
          go_wp2
          go_ret
          exact ⟨rfl, hbw1⟩
        · clear h7
          go_enter Tryz.func25, Tryz.ntmps25
          go_wp2_with fail
          refine (HN _).mono ?_
          rintro e w1 ⟨rfl, hb1⟩
          obtain ⟨z0, z1, hbw1, hnb⟩ := node_cells hb1
          clear hb1
          go_wp2
          go_ret
          exact ⟨rfl, hbw1⟩
        · exact absurd h70 h7
  · obtain rfl : at_ = v.length := by omega
    refine (valueEnd_past (some ⟨b, off, none⟩) v.length c field w (Nat.le_trans hc hcm)).mono ?_
    rintro e w' ⟨rfl, rfl⟩
    refine ⟨?_, Below.refl _ _⟩
    rw [List.drop_length]
    cases field <;> rfl
theorem valueEnd_any : ∀ f, EndOk f
  | 0 => fun v b off c at_ field w h1 h2 => absurd h2 (by omega)
  | f + 1 => valueEnd_step f (valueEnd_any f)

theorem endI_all {v : List Nd} : (endI v.length (pastV (v.length + 1) v) != (v.length : Int)) = !isVal v := by
  unfold isVal
  cases h : pastV (v.length + 1) v with
  | none => simp [endI] <;> omega
  | some r =>
    have := (pastV_shorter h).1
    cases r with
    | nil => simp [endI]
    | cons y r => simp [endI] <;> omega

theorem valueFault_any (v : List Nd) (p : Option Addr) (c : Nat) (w : World) (hv : NL w p v) (hc : v.length ≤ c) (hcm : c ≤ maxLen) :
    Calls Tryz.prog 10 #[.slice p v.length c] w fun e w' => e = .returned (.int .i64 (vfault v)) ∧ Below w.heap.size w w' := by
  by_cases h : 200 < v.length
  · have HF : Hid (vfault v = 4) := by show _ = _; unfold vfault; rw [if_pos h]
    have h' : (200 : Int) < (v.length : Int) := by omega
    go_enter Tryz.func10, Tryz.ntmps10
    go_wp2
    go_ret
    exact ⟨ret_n HF.out.symm, Below.refl _ _⟩
  · have HF : Hid (vfault v = if isVal v then 0 else 1) := by show _ = _; unfold vfault; rw [if_neg h]
    have h' : ¬ (200 : Int) < (v.length : Int) := by omega
    have hend : Calls Tryz.prog 25 #[.slice p v.length c, .int .i64 0, .bool false] w fun e w' => e = .returned (.int .i64 (endI v.length (pastV (v.length + 1) v))) ∧ Below w.heap.size w w' := by
      cases v with
      | nil =>
        refine (valueEnd_past p 0 c false w (Nat.zero_le _)).mono ?_
        rintro e w' ⟨rfl, rfl⟩
        exact ⟨rfl, Below.refl _ _⟩
      | cons x r =>
        rcases hv with hv | ⟨b, off, rfl, hbw, hh⟩
        · cases hv
        · exact valueEnd_any ((x :: r).length + 1) (x :: r) b off c 0 false w (Nat.zero_le _) (by simp) (.inr ⟨b, off, rfl, hbw, hh⟩) hbw hc hcm
    have he := endI_all (v := v)
    generalize endI v.length (pastV (v.length + 1) v) = z at hend he
    cases hi : isVal v <;> rw [hi] at he HF <;> simp only [Bool.not_false, Bool.not_true] at he
    all_goals
      go_enter Tryz.func10, Tryz.ntmps10
      go_wp2_with fail
      refine hend.mono ?_
      rintro e w1 ⟨rfl, hb⟩
      go_wp2
      go_ret
      exact ⟨ret_n (by rw [HF.out]; rfl), hb⟩
end Go.Proofs.YtckjndiepojgfaaGreatDoor
namespace Go.Proofs.YtckjndiepojgfaaGreatDoor
open Go.RowKit
set_option linter.unusedVariables false

theorem Tryz.infoText : (Tryz.prog.info? 9).map (fun i => (i.zero, i.size, i.bytes)) = some (some (.string ⟨#[]⟩), 1, 16) := by kernel_rfl

/-- Texts lie behind an address, one behind the other. -/
def TL (w : World) (p : Option Addr) (ts : List ByteArray) : Prop :=
  ts = [] ∨ ∃ b off, p = some ⟨b, off, none⟩ ∧ b < w.heap.size ∧ ∀ i s, ts[i]? = some s → w.cell? ⟨b, off + i, none⟩ = some (.string s)
theorem TL.up {w w' : World} {p : Option Addr} {ts : List ByteArray} (h : TL w p ts) (k : Below w.heap.size w w') : TL w' p ts := by
  rcases h with h | ⟨b, off, h1, h2, h3⟩
  · exact .inl h
  · exact .inr ⟨b, off, h1, Nat.lt_of_lt_of_le h2 k.size, fun i s hs => (k.cell (p := ⟨b, off + i, none⟩) h2).trans (h3 i s hs)⟩
theorem TL.at {w : World} {p : Option Addr} {ts : List ByteArray} (h : TL w p ts) {i : Nat} (hi : i < ts.length) : ∃ b off, p = some ⟨b, off, none⟩ ∧ b < w.heap.size ∧ w.cell? ⟨b, off + i, none⟩ = some (.string ts[i]) := by
  rcases h with rfl | ⟨b, off, h1, h2, h3⟩
  · simp at hi
  · exact ⟨b, off, h1, h2, h3 i _ (List.getElem?_eq_getElem hi)⟩
/-- Texts in a row of the call's own. -/
def OT (w : World) (base : Nat) (v : Value) (ts : List ByteArray) : Prop := Row1 w base 9 v (ts.map Value.string)
theorem OT.texts {w : World} {base : Nat} {v : Value} {ts : List ByteArray} (h : OT w base v ts) : ∃ q c, v = .slice q ts.length c ∧ TL w q ts ∧ ts.length ≤ c ∧ c ≤ maxLen := by
  obtain ⟨q, c, e, h1, h2, h3⟩ := Row1.slice h
  rw [List.length_map] at e h1
  refine ⟨q, c, e, ?_, h1, h2⟩
  rcases h3 with h3 | ⟨g, e2, ht, _, hc⟩
  · exact .inl (by simpa using h3)
  · exact .inr ⟨g, 0, e2, ht.lt, fun i s hs => by rw [Nat.zero_add]; exact hc i _ (by simp [hs])⟩

theorem append_text (w : World) {ops : Array Oper} {rest : List Oper} {o : Oper} {a : Act} {Q : Exit → Act → World → Prop} (hgd : o.guard = none) (s x : Operand)
    (ho : o.op = .call { callee := .builtin .append, args := #[s, x], argTypes := #[65, 65] })
    (base : Nat) (v : Value) (ts : List ByteArray) (hs : a.eval s = v) (hown : OT w base v ts) (t : ByteArray)
    (hx : a.eval x = .slice (some ⟨w.heap.size, 0, none⟩) 1 1) (hlen : ts.length + 1 ≤ 1099511627776) (hbase : base ≤ w.heap.size)
    (h : ∀ v' w', OT w' base v' (ts ++ [t]) → Kept base 9 w w' → wpList Tryz.prog ops Q rest (a.put o.dst v') w') : wpList Tryz.prog ops Q (o :: rest) a (w.alloc (.cells #[.string t] 9)) := by
  refine append_cell w hgd s x 65 9 ho Tryz.underlying65 (.string ⟨#[]⟩) 16 Tryz.infoText rfl base v (ts.map Value.string) hs hown (.string t) rfl hx (by rw [List.length_map]; unfold maxLen; omega) (by rw [List.length_map]; omega) hbase ?_
  intro v' w' h1 k
  refine h v' w' ?_ k
  unfold OT; rw [List.map_append]; exact h1
end Go.Proofs.YtckjndiepojgfaaGreatDoor
namespace Go.Proofs.YtckjndiepojgfaaGreatDoor
open Go.RowKit
set_option linter.unusedVariables false
set_option maxRecDepth 100000

theorem leaf_any (op : Int) (w : World) :
    Calls Tryz.prog 69 #[.int .i64 op] w fun e w' => e = .returned (.agg #[.int .i64 op, .int .i64 0, .string ⟨#[]⟩, .string ⟨#[]⟩, .slice none 0 0]) ∧ Below w.heap.size w w' := by
  go_enter Tryz.func69, Tryz.ntmps69
  go_wp2
  exact bodyPost_ret (v := .agg #[.int .i64 op, .int .i64 0, .string ⟨#[]⟩, .string ⟨#[]⟩, .slice none 0 0]) (by simp [results, Tryz.results69, go_sem]) rfl ⟨rfl, kqx⟩
/-- A row of one part, laid anew. -/
theorem VK.lay {W : World} {x : Nd} {k : Tp} {q : Option Addr} {c : Nat} {S : Nat → Prop} (h : VK W k (.slice q k.len c) S) (hx : x.wf) {B : Nat} (hB : B = W.heap.size) : VK (W.alloc (.cells #[.int .i64 x.op, .int .i64 x.n, .string x.s, .string x.t, .slice q k.len c] 60)) (.cons x k .nil) (.slice (some ⟨B, 0, none⟩) 1 1) (fun a => S a ∨ a = B) := by
  subst hB
  have hb : Below W.heap.size W (W.alloc (.cells #[.int .i64 x.op, .int .i64 x.n, .string x.s, .string x.t, .slice q k.len c] 60)) := kqx
  refine ⟨pcl x (.slice q k.len c), ⟨rfl, .inr ⟨W.heap.size, 1, _, rfl, Nat.zero_le _, fnew_at rfl, Nat.le_refl _, by unfold maxLen; omega, rfl, rfl⟩⟩, ?_, (RK.one hx ((h.up hb).sub (fun a h => .inl h)))⟩
  intro g hg
  simp only [Value.ownBlock, Option.some.injEq] at hg
  exact .inr hg.symm
set_option maxHeartbeats 2000000 in
theorem setOf_any (x : Nd) (k : Tp) (w : World) (v : Value) (S : Nat → Prop) (hv : VK w k v S) (hx : x.wf) :
    Calls Tryz.prog 71 #[partV x v] w fun e w' => (∃ q c, e = .returned (.agg #[.int .i64 45, .int .i64 0, .string ⟨#[]⟩, .string ⟨#[]⟩, .slice q 1 c]) ∧ VK w' (.cons x k .nil) (.slice q 1 c) (fun a => S a ∨ w.heap.size ≤ a)) ∧ Below w.heap.size w w' := by
  obtain ⟨q, c, rfl, _⟩ := hv.slice
  unfold partV
  have HV : Hid (VK w k (.slice q k.len c) S) := hv
  clear hv
  go_enter Tryz.func71, Tryz.ntmps71
  go_wp2
  refine bodyPost_ret (v := .agg #[.int .i64 45, .int .i64 0, .string ⟨#[]⟩, .string ⟨#[]⟩, .slice (some ⟨w.heap.size + 1 + 1, 0, none⟩) 1 1]) (by simp [results, Tryz.results71, go_sem]) rfl ⟨⟨_, _, rfl, ?_⟩, kqx⟩
  exact (VK.lay (HV.out.up kqx) hx (by simp)).sub (fun a h => h.elim .inl (fun e => .inr (by omega)))
set_option maxHeartbeats 2000000 in
theorem fieldOf_any (s : ByteArray) (n : Int) (x : Nd) (k : Tp) (w : World) (v : Value) (S : Nat → Prop) (hv : VK w k v S) (hx : x.wf) :
    Calls Tryz.prog 72 #[.string s, .int .i64 n, partV x v] w fun e w' => (∃ q c, e = .returned (.agg #[.int .i64 47, .int .i64 n, .string s, .string ⟨#[]⟩, .slice q 1 c]) ∧ VK w' (.cons x k .nil) (.slice q 1 c) (fun a => S a ∨ w.heap.size ≤ a)) ∧ Below w.heap.size w w' := by
  obtain ⟨q, c, rfl, _⟩ := hv.slice
  unfold partV
  have HV : Hid (VK w k (.slice q k.len c) S) := hv
  clear hv
  go_enter Tryz.func72, Tryz.ntmps72
  go_wp2
  refine bodyPost_ret (v := .agg #[.int .i64 47, .int .i64 n, .string s, .string ⟨#[]⟩, .slice (some ⟨w.heap.size + 1 + 1, 0, none⟩) 1 1]) (by simp [results, Tryz.results72, go_sem]) rfl ⟨⟨_, _, rfl, ?_⟩, kqx⟩
  exact (VK.lay (HV.out.up kqx) hx (by simp)).sub (fun a h => h.elim .inl (fun e => .inr (by omega)))
set_option maxHeartbeats 2000000 in
theorem recOf_any (q : Option Addr) (n c : Nat) (w : World) :
    Calls Tryz.prog 73 #[.slice q n c] w fun e w' => e = .returned (.agg #[.int .i64 46, .int .i64 n, .string ⟨#[]⟩, .string ⟨#[]⟩, .slice q n c]) ∧ Below w.heap.size w w' := by
  go_enter Tryz.func73, Tryz.ntmps73
  go_wp2
  exact bodyPost_ret (v := .agg #[.int .i64 46, .int .i64 n, .string ⟨#[]⟩, .string ⟨#[]⟩, .slice q n c]) (by simp [results, Tryz.results73, go_sem]) rfl ⟨rfl, kqx⟩
end Go.Proofs.YtckjndiepojgfaaGreatDoor
namespace Go.Proofs.YtckjndiepojgfaaGreatDoor
open Go.RowKit
set_option linter.unusedVariables false
set_option maxRecDepth 100000

/-- What field tells. -/
def FdRet (S : Nat → Prop) (w' : World) (en : Ending) : Option (Nd × Tp) → Prop
  | some (f, kf) => ∃ q c, en = .returned (.tuple #[.agg #[.int .i64 f.op, .int .i64 f.n, .string f.s, .string f.t, .slice q kf.len c], .bool true]) ∧ f.wf ∧ VK w' kf (.slice q kf.len c) S
  | none => en = .returned (.tuple #[.agg #[.int .i64 0, .int .i64 0, .string ⟨#[]⟩, .string ⟨#[]⟩, .slice none 0 0], .bool false])
theorem find_app {s : ByteArray} : ∀ {a b : Tp}, a.find s = none → (a.app b).find s = b.find s
  | .nil, b, _ => rfl
  | .cons x k r, b, h => by
    rw [Tp.find] at h
    split at h
    · cases h
    · rename_i hne; rw [Tp.app, Tp.find, if_neg hne]; exact find_app h
set_option maxHeartbeats 4000000 in
theorem field_any (x : Nd) (k : Tp) (s : ByteArray) (w : World) (v : Value) (S : Nat → Prop) (hv : VK w k v S) (hl : k.flat.length ≤ 1000) :
    Calls Tryz.prog 113 #[partV x v, .string s] w fun en w' => FdRet S w' en (k.find s) ∧ Below w.heap.size w w' := by
  obtain ⟨q, c, rfl, hkc, hcm⟩ := hv.slice
  have HV : Hid (VK w k (.slice q k.len c) (fun a => S a ∧ a < w.heap.size)) := hv.real
  have hkb : k.len ≤ 1000 := by have := tp_len_flat k; omega
  clear hv hl
  obtain ⟨W, hW⟩ : ∃ W, W = (w.alloc (.cells #[.int .i64 x.op, .int .i64 x.n, .string x.s, .string x.t, .slice q k.len c] 60)).alloc (.cells #[.int .i64 0, .int .i64 0, .string ⟨#[]⟩, .string ⟨#[]⟩, .slice none 0 0] 60) := ⟨_, rfl⟩
  have hb0 : Below w.heap.size w W := by rw [hW]; exact kqx
  have hp_0 : PBk W w.heap.size x (.slice q k.len c) := by rw [hW]; exact (PBk.new w x _ rfl).up kqx
  have hr_0 : PBk W (w.heap.size + 1) zN (.slice none 0 0) := by rw [hW]; exact PBk.new _ zN _ (by simp)
  have hWs : w.heap.size + 2 ≤ W.heap.size := by rw [hW]; simp
  unfold partV
  go_enter Tryz.func113, Tryz.ntmps113
  go_wp2
  rw [← hW]
  go_loopw [11] (fun i wr => ∃ (done todo : Tp), Hid (done.app todo = k) ∧ i = .int .i64 (done.len : Int) ∧ Hid (done.find s = none) ∧ PBk wr (w.heap.size + 1) zN (.slice none 0 0) ∧ Below w.heap.size w wr ∧ w.heap.size + 2 ≤ wr.heap.size) (fun i _ => k.len - (intOf i).toNat)
  case atStart => exact ⟨.nil, k, rfl, rfl, rfl, hr_0, hb0, hWs⟩
  case round =>
    rename World => w3
    obtain ⟨done, todo, HD, rfl, HF, hr_3, hb3, hs3⟩ := hrel
    cases todo with
    | nil =>
      have hd : done = k := by have := HD.out; rw [tp_app_nil] at this; exact this
      subst hd
      have i1 : ¬ (done.len : Int) < (done.len : Int) := by omega
      obtain ⟨r0, r1, r2, r3, r4⟩ := hr_3.cells
      have fr := hr_3.free
      go_wp2
      obtain ⟨V, hV⟩ : ∃ V, V = ((((w3.setCell ⟨w.heap.size + 1, 0, none⟩ (.int .i64 zN.op)).setCell ⟨w.heap.size + 1, 1, none⟩ (.int .i64 zN.n)).setCell ⟨w.heap.size + 1, 2, none⟩ (.string zN.s)).setCell ⟨w.heap.size + 1, 3, none⟩ (.string zN.t)).setCell ⟨w.heap.size + 1, 4, none⟩ (.slice none 0 0) := ⟨_, rfl⟩
      obtain ⟨hPV, hKV⟩ := hr_3.put hV
      obtain ⟨t0, t1, t2, t3, t4⟩ := hPV.cells
      have hbV : Below w.heap.size w3 V := hKV.below (by omega) (fun a e => by omega)
      unfold zN at hV t0 t1 t2 t3
      dsimp only at hV t0 t1 t2 t3
      rw [← hV]
      exact bodyPost_ret (v := .tuple #[.agg #[.int .i64 0, .int .i64 0, .string ⟨#[]⟩, .string ⟨#[]⟩, .slice none 0 0], .bool false]) (by simp [results, Tryz.results113, go_sem, t0, t1, t2, t3, t4]) rfl ⟨by rw [HF.out]; rfl, hb3.trans hbV⟩
    | cons y ky r =>
      have hv3 : VK w3 k (.slice q k.len c) (fun a => S a ∧ a < w.heap.size) := HV.out.up hb3
      have hkl : k.len = done.len + (r.len + 1) := by rw [← HD.out, tp_app_len]; rfl
      have i1 : (done.len : Int) < (k.len : Int) := by omega
      rw [← HD.out] at hv3
      obtain ⟨g, cap, u, hu, hP, hyw, hvk, hSg⟩ := hv3.at
      rw [HD.out, ← hkl] at hu
      cases hu
      obtain ⟨qu, cu, rfl, _⟩ := hvk.slice
      obtain ⟨p0, p1, p2, p3, p4⟩ := hP.cells
      have HDn : Hid ((done.app (.cons y ky .nil)).app r = k) := by show _ = _; rw [tp_app_assoc, ← HD.out]; rfl
      have HKL : Hid (k.len = done.len + (r.len + 1)) := hkl
      have HVk : Hid (VK w3 ky (.slice qu ky.len cu) (fun a => S a ∧ a < w.heap.size)) := hvk
      clear hv3 hP hkl hvk
      by_cases he : y.s = s
      · subst he
        have HK : Hid (k.find y.s = some (y, ky)) := by show _ = _; rw [← HD.out, find_app HF.out, Fl.find_head]
        obtain ⟨V6, hV6⟩ : ∃ V6, V6 = w3.alloc (.cells #[.int .i64 y.op, .int .i64 y.n, .string y.s, .string y.t, .slice qu ky.len cu] 60) := ⟨_, rfl⟩
        have hb6 : Below w3.heap.size w3 V6 := by rw [hV6]; exact kqx
        have hr_6 := hr_3.up hb6
        obtain ⟨s0, s1, s2, s3, s4⟩ := hr_6.cells
        have fr := hr_6.free
        rw [hV6] at s0 s1 s2 s3 s4 fr
        go_wp2
        rw [← hV6]
        obtain ⟨V, hV⟩ : ∃ V, V = ((((V6.setCell ⟨w.heap.size + 1, 0, none⟩ (.int .i64 y.op)).setCell ⟨w.heap.size + 1, 1, none⟩ (.int .i64 y.n)).setCell ⟨w.heap.size + 1, 2, none⟩ (.string y.s)).setCell ⟨w.heap.size + 1, 3, none⟩ (.string y.t)).setCell ⟨w.heap.size + 1, 4, none⟩ (.slice qu ky.len cu) := ⟨_, rfl⟩
        obtain ⟨hPV, hKV⟩ := hr_6.put hV
        obtain ⟨t0, t1, t2, t3, t4⟩ := hPV.cells
        have hbV : Below w.heap.size V6 V := hKV.below (by have := hb6.size; omega) (fun a e => by omega)
        rw [← hV]
        have hbf : Below w.heap.size w V := (hb3.trans (hb6.mono hb3.size)).trans hbV
        refine bodyPost_ret (v := .tuple #[.agg #[.int .i64 y.op, .int .i64 y.n, .string y.s, .string y.t, .slice qu ky.len cu], .bool true]) (by simp [results, Tryz.results113, go_sem, t0, t1, t2, t3, t4]) rfl ⟨?_, hbf⟩
        rw [HK.out]
        exact ⟨_, _, rfl, hyw, (HVk.out.bel ((hb6.mono (by omega)).trans hbV) (fun a ha => ha.2)).sub (fun a ha => ha.1)⟩
      · have HF2 : Hid ((done.app (.cons y ky .nil)).find s = none) := by show _ = _; rw [find_app HF.out, find_ne he]; rfl
        have e1 : (y.s.toList == s.toList) = false := by rw [beq_eq_false_iff_ne]; exact fun h => he (bytes_inj (by simpa only [ByteArray.toList_eq] using h))
        obtain ⟨V6, hV6⟩ : ∃ V6, V6 = w3.alloc (.cells #[.int .i64 y.op, .int .i64 y.n, .string y.s, .string y.t, .slice qu ky.len cu] 60) := ⟨_, rfl⟩
        have hb6 : Below w3.heap.size w3 V6 := by rw [hV6]; exact kqx
        clear he
        go_wp2_with fail
        rw [← hV6]
        go_roundw
        case rel => exact ⟨done.app (.cons y ky .nil), r, HDn, by rw [tp_app_len]; simp only [Tp.len]; go_num, HF2, hr_3.up hb6, hb3.trans (hb6.mono hb3.size), by have := hb6.size; omega⟩
        case measure => have := HKL.out; simp [intOf]; omega
end Go.Proofs.YtckjndiepojgfaaGreatDoor
namespace Go.Proofs.YtckjndiepojgfaaGreatDoor
open Go.RowKit
set_option linter.unusedVariables false
set_option linter.unusedSectionVars false
set_option maxRecDepth 100000

/-- What fit and Join tell: the nodes, or that they are too many. -/
def FitRet (w' : World) (L : List Nd) (en : Ending) : Prop :=
  (L.length ≤ 200 ∧ ∃ q c, en = .returned (.tuple #[.slice q L.length c, .nilIface]) ∧ NL w' q L ∧ L.length ≤ c ∧ c ≤ maxLen) ∨ (200 < L.length ∧ en = .returned (.tuple #[.slice none 0 0, .iface 23 (.int .i64 4)]))
theorem ON.emptyK (w : World) (base : Nat) : ON w base (.slice none 0 0) [] := ⟨World.ownsRow_nil _ _ _ _, fun x hx => by cases hx⟩
theorem ON.cap {w : World} {base : Nat} {q : Option Addr} {n c : Nat} {L : List Nd} (h : ON w base (.slice q n c) L) : L.length ≤ c ∧ c ≤ maxLen := by
  rcases h.1.2 with ⟨e, h0⟩ | ⟨g, cap, cur, e, _, _, h2, h3, _⟩
  · cases e; exact ⟨by omega, Nat.zero_le _⟩
  · cases e; exact ⟨h2, h3⟩
theorem ON.nl {w : World} {base : Nat} {q : Option Addr} {c : Nat} {L : List Nd} (h : ON w base (.slice q L.length c) L) : NL w q L := by
  obtain ⟨q', c', e, h1, _⟩ := NL.of_row h.2 h.1
  cases e
  exact h1.1
set_option maxHeartbeats 2000000 in
theorem fit_any (x : Nd) (k : Tp) (w : World) (v : Value) (S : Nat → Prop) (hv : VK w k v S) (hx : x.wf) (hl : k.flat.length ≤ 100000) :
    Calls Tryz.prog 36 #[partV x v] w fun e w' => FitRet w' (x :: k.flat) e ∧ Below w.heap.size w w' := by
  obtain ⟨q, c, rfl, _⟩ := hv.slice
  obtain ⟨W, hW⟩ : ∃ W, W = w.alloc (.cells #[.int .i64 x.op, .int .i64 x.n, .string x.s, .string x.t, .slice q k.len c] 60) := ⟨_, rfl⟩
  have hbW : Below w.heap.size w W := by rw [hW]; exact kqx
  have hC := ontoK_any (k.flat.length + 1) x k (Nat.lt_succ_self _) W _ _ w.heap.size (.slice none 0 0) [] (hv.real.up hbW) (fun a h => h.2) hx hbW.size (ON.emptyK _ _) (by simp; omega)
  rw [List.nil_append] at hC
  have hlL : (x :: k.flat).length ≤ 100001 := by simp; omega
  generalize x :: k.flat = L at *
  unfold partV at *
  clear hv hl
  by_cases h : 200 < L.length
  · have i1 : (200 : Int) < (L.length : Int) := by omega
    have HF : Hid (200 < L.length) := h
    clear h
    go_enter Tryz.func36, Tryz.ntmps36
    go_wp2_with fail
    rw [← hW]
    refine hC.mono ?_
    rintro _ w1 ⟨⟨ev, rfl, hO⟩, hk⟩
    obtain ⟨q1, c1, rfl⟩ := hO.any
    have hb1 : Below w.heap.size w w1 := hbW.trans hk.bel
    go_wp2
    exact bodyPost_ret (v := .tuple #[.slice none 0 0, .iface 23 (.int .i64 4)]) (by simp [results, Tryz.results36, go_sem]) rfl ⟨.inr ⟨HF.out, rfl⟩, hb1⟩
  · have i1 : ¬ (200 : Int) < (L.length : Int) := by omega
    have HF : Hid (L.length ≤ 200) := by show _ ≤ _; omega
    clear h
    go_enter Tryz.func36, Tryz.ntmps36
    go_wp2_with fail
    rw [← hW]
    refine hC.mono ?_
    rintro _ w1 ⟨⟨ev, rfl, hO⟩, hk⟩
    obtain ⟨q1, c1, rfl⟩ := hO.any
    have hb1 : Below w.heap.size w w1 := hbW.trans hk.bel
    obtain ⟨hc1, hc2⟩ := hO.cap
    go_wp2
    exact bodyPost_ret (v := .tuple #[.slice q1 L.length c1, .nilIface]) (by simp [results, Tryz.results36, go_sem]) rfl ⟨.inl ⟨HF.out, q1, c1, rfl, hO.nl, hc1, hc2⟩, hb1⟩
end Go.Proofs.YtckjndiepojgfaaGreatDoor
namespace Go.Proofs.YtckjndiepojgfaaGreatDoor
open Go.RowKit
set_option linter.unusedVariables false

theorem AK.check {a : List Nd} {w : World} {p : Option Addr} {c : Nat} (ha : AK w a p c) : Calls Tryz.prog 9 #[.slice p a.length c] w fun e w' => e = .returned (eV (kfault a)) ∧ Below w.heap.size w w' := kcheck_any a w p c ha.nl ha.le ha.cm
end Go.Proofs.YtckjndiepojgfaaGreatDoor
