/- The document's KindEnd at records, and whole; KindFault: by walks of their own texts. The document's FieldsOf, FieldKind, PartKind: by walks of their own texts. What lies at a field of a record's type; its type is told. Package kinds: mustAll, missesNone, by walks of their own texts. -/
import Derived.Test.YtckjndiepojgfaaDoorG12
import Derived.Test.YtckjndiepojgfaaDoorG3
import Derived.Test.YtckjndiepojgfaaDoorG5
namespace Go.Proofs.YtckjndiepojgfaaDoor
open Go.RowKit
set_option linter.unusedVariables false
set_option maxRecDepth 100000

theorem knn (w : World) (n : Nat) : Below w.heap.size w (w.drewN n) := ⟨rfl, rfl, rfl, Nat.le_refl _, fun _ _ => rfl⟩
/-- Fields that were read: whatever type is there begins with them. -/
structure KRd (t : List Nd) (a N : Nat) (done : Tp) (l : ByteArray) (u : List Nd) : Prop where
  split : t.drop (a + 1) = done.flat ++ u
  grow : ∀ r, Fl l r → Fl e0 (done.app r)
  only : ∀ k z, Fl e0 k → k.len = N → t.drop (a + 1) = k.flat ++ z → ∃ todo, k = done.app todo ∧ Fl l todo ∧ u = todo.flat ++ z
theorem KRd.start (t : List Nd) (a N : Nat) : KRd t a N .nil e0 (t.drop (a + 1)) := ⟨rfl, fun r h => h, fun k z h1 h2 h3 => ⟨k, rfl, h1, h3⟩⟩
theorem Fl.nil {l : ByteArray} : Fl l .nil := rfl
theorem KRd.place {t : List Nd} {a N : Nat} {done : Tp} {l : ByteArray} {u : List Nd} (h : KRd t a N done l u) : t.drop (a + 1 + done.flat.length) = u := by
  rw [← List.drop_drop, h.split, List.drop_left]
theorem KRd.bound {t : List Nd} {a N : Nat} {done : Tp} {l : ByteArray} {u : List Nd} (h : KRd t a N done l u) (ha : a < t.length) : a + 1 + done.flat.length + u.length = t.length := by
  have := congrArg List.length h.split
  simp at this
  omega
/-- A field is there, as it should be. -/
def FdOk (l : ByteArray) (y : Nd) : Prop := y.op = 47 ∧ (y.n = 0 ∨ y.n = 1) ∧ y.t = e0 ∧ nfault y.s.data.toList = 0 ∧ cmpB l y.s < 0
theorem KRd.next {t : List Nd} {a N : Nat} {done : Tp} {l : ByteArray} {y : Nd} {u z : List Nd} {x : Nd} {k : Tp} (h : KRd t a N done l (y :: u)) (hN : done.len < N) (hy : FdOk l y) (hx : T1 (.cons x k .nil)) (hu : u = x :: (k.flat ++ z)) : KRd t a N (done.app (.cons y (.cons x k .nil) .nil)) y.s z := by
  refine ⟨?_, fun r hr => ?_, fun k' z' h1 h2 h3 => ?_⟩
  · rw [h.split, hu, tp_app_flat]; simp [Tp.flat]
  · rw [tp_app_assoc]
    exact h.grow _ (Fl.cons_iff.2 ⟨hy, hx, hr⟩)
  · obtain ⟨todo, e1, e2, e3⟩ := h.only k' z' h1 h2 h3
    cases todo with
    | nil => rw [e1, tp_app_nil] at h2; omega
    | cons y' ky' r =>
      obtain ⟨_, f2, f3⟩ := Fl.cons_iff.1 e2
      simp only [Tp.flat, List.cons_append, List.cons.injEq, List.append_assoc] at e3
      obtain ⟨rfl, e3⟩ := e3
      rw [hu] at e3
      have := tp_flat_inj (.cons x k .nil) ky' z (r.flat ++ z') (isTy_ar _ _ hx.2) (isTy_ar _ _ f2.2) (by rw [hx.1, f2.1]) (by rw [← e3]; simp [Tp.flat])
      obtain ⟨rfl, rfl⟩ := this
      exact ⟨r, by rw [e1, tp_app_assoc]; rfl, f3, rfl⟩
/-- No field is there: no type. -/
theorem KRd.none {t : List Nd} {a : Nat} {done : Tp} {l : ByteArray} {u : List Nd} (ha : a < t.length) (ho : t[a].op = 46) (h : KRd t a t[a].n.toNat done l u) (hN : done.len < t[a].n.toNat) (hu : ∀ y u', u = y :: u' → ¬ (FdOk l y ∧ ∃ x k z, T1 (.cons x k .nil) ∧ u' = x :: (k.flat ++ z))) : KERet t a (-1) := by
  refine ke_none ha (fun k z hT hd => ?_)
  have hk : Fl e0 k ∧ k.len = t[a].n.toNat := by
    generalize t[a] = x at *
    cases hT with
    | leaf o h => simp only [lfN] at ho; omega
    | ent s h => simp at ho
    | set k h => simp [lfN] at ho
    | rcd k hF => exact ⟨hF, by simp⟩
  obtain ⟨todo, e1, e2, e3⟩ := h.only k z hk.1 hk.2 hd
  cases todo with
  | nil => rw [e1, tp_app_nil] at hk; omega
  | cons y ky r =>
    obtain ⟨f1, f2, f3⟩ := Fl.cons_iff.1 e2
    obtain ⟨x, k', rfl, hx⟩ := f2.of
    exact hu y _ e3 ⟨f1, x, k', r.flat ++ z, f2, by simp [Tp.flat]⟩
theorem KRd.done {t : List Nd} {a : Nat} {done : Tp} {l : ByteArray} {u : List Nd} (ha : a < t.length) (e : t[a] = ⟨46, t[a].n, e0, e0⟩) (hn : 0 ≤ t[a].n) (h : KRd t a t[a].n.toNat done l u) (hN : done.len = t[a].n.toNat) : KERet t a ((a + 1 + done.flat.length : Nat) : Int) := by
  refine .inl ⟨t[a], done, u, ⟨T1.iff.2 ?_, by rw [drop_at ha, h.split]⟩, rfl⟩
  have hF := h.grow .nil Fl.nil
  rw [tp_app_nil] at hF
  have : t[a].n = (done.len : Int) := by omega
  rw [e, this]
  exact .rcd done hF
set_option maxHeartbeats 8000000 in
theorem kend_rcd (t : List Nd) (a : Nat) (h : a < t.length) (ho : t[a].op = 46) (ih : ∀ b, a < b → KEnd t b) : KEnd t a := by
  intro w p c hv hc hcm hl ha
  have HV : Hid (NL w p t) := hv
  have HIH : Hid (∀ b, a < b → KEnd t b) := ih
  have HAL : Hid (a < t.length) := h
  obtain ⟨b, off, rfl, hbw, x0, x1, x2, x3, xw⟩ := hv.at h
  have i1 : ¬ (a : Int) < 0 := by omega
  have i2 : ¬ (t.length : Int) ≤ (a : Int) := by omega
  have i3 : (a : Int) < (t.length : Int) := by omega
  have HN : Hid (¬ (t[a].t.toList = [] ∧ t[a].s.toList = [] ∧ 0 ≤ t[a].n) → KERet t a (-1)) := fun hn => ke_none h (fun k z hT _ => by
    generalize t[a] = x at *
    cases hT with
    | leaf o h => simp only [lfN] at ho; omega
    | ent s h => simp at ho
    | set k h => simp [lfN] at ho
    | rcd k h => exact hn ⟨be0R.1 rfl, be0R.1 rfl, by simp⟩)
  have HK : Hid (t[a].t.toList = [] → t[a].s.toList = [] → 0 ≤ t[a].n → ∀ done l u, KRd t a t[a].n.toNat done l u → done.len = t[a].n.toNat → KERet t a ((a + 1 + done.flat.length : Nat) : Int)) := fun h1 h2 h3 done l u hR hN => KRd.done h (by
    rw [← be0R] at h1 h2
    generalize t[a] = x at *
    obtain ⟨xo, xn, xs, xt⟩ := x
    simp only at h1 h2 ho
    subst h1 h2 ho
    rfl) h3 hR hN
  have HO : Hid (∀ done l u, KRd t a t[a].n.toNat done l u → done.len < t[a].n.toNat → (∀ y u', u = y :: u' → ¬ (FdOk l y ∧ ∃ x k z, T1 (.cons x k .nil) ∧ u' = x :: (k.flat ++ z))) → KERet t a (-1)) := fun done l u hR => KRd.none h ho hR
  generalize t[a] = x at *
  obtain ⟨xo, xn, xs, xt⟩ := x
  dsimp only at *
  subst ho
  have HL : Hid (∀ o1, Below w.heap.size w (w.alloc o1)) := fun o1 => kqx
  by_cases hsh : xt.toList = [] ∧ xs.toList = [] ∧ 0 ≤ xn
  · obtain ⟨s1, s2, s3⟩ := hsh
    have hxn : xn ≤ 9223372036854775807 := xw.2.2
    obtain ⟨N, rfl⟩ : ∃ N : Nat, xn = N := ⟨xn.toNat, by omega⟩
    have s4 : ¬ (N : Int) < 0 := by omega
    replace HK : Hid (∀ done l u, KRd t a N done l u → done.len = N → KERet t a ((a + 1 + done.flat.length : Nat) : Int)) := fun done l u => by have := HK.out s1 s2 s3 done l u; simpa using this
    replace HO : Hid (∀ done l u, KRd t a N done l u → done.len < N → (∀ y u', u = y :: u' → ¬ (FdOk l y ∧ ∃ x k z, T1 (.cons x k .nil) ∧ u' = x :: (k.flat ++ z))) → KERet t a (-1)) := fun done l u => by have := HO.out done l u; simpa using this
    obtain ⟨W, hW⟩ : ∃ W, W = w.alloc (.cells #[.int .i64 46, .int .i64 N, .string xs, .string xt] 36) := ⟨_, rfl⟩
    have hbW : Below w.heap.size w W := by rw [hW]; exact kqx
    have hWs : W.heap.size = w.heap.size + 1 := by rw [hW]; simp
    have y1 : W.cell? ⟨w.heap.size, 1, none⟩ = some (.int .i64 N) := by rw [hW]; simp
    clear hv xw h ih HN s3
    go_enter Tryd.func11, Tryd.ntmps11
    go_wp2
    rw [← hW]
    clear hW x0 x1 x2 x3
    go_loopw [1, 6, 7] (fun at_ last i wr => ∃ (done : Tp) (l : ByteArray) (u : List Nd), at_ = .int .i64 ((a + 1 + done.flat.length : Nat) : Int) ∧ last = .string l ∧ i = .int .i64 (done.len : Int) ∧ Hid (KRd t a N done l u) ∧ l.size ≤ maxLen ∧ done.len ≤ N ∧ Below W.heap.size W wr) (fun _ _ i _ => N - (intOf i).toNat)
    case atStart => exact ⟨.nil, e0, t.drop (a + 1), by simp [Tp.flat], rfl, rfl, KRd.start t a N, Nat.zero_le _, Nat.zero_le _, Below.refl _ _⟩
    case round =>
      rename World => w3
      obtain ⟨done, l, u, rfl, rfl, rfl, HR, hlm, hdN, hb3⟩ := hrel
      have hb03 := kqt hbW hb3
      have z1 := (hb3.cell (p := ⟨w.heap.size, 1, none⟩) (by show w.heap.size < _; omega)).trans y1
      have hdl : done.len ≤ done.flat.length := tp_len_flat done
      have hbd := HR.out.bound HAL.out
      by_cases hlt : done.len < N
      · have j1 : (done.len : Int) < (N : Int) := by omega
        have hpl := HR.out.place
        cases u with
        | nil =>
          have HF : Hid (KERet t a (-1)) := HO.out done l [] HR.out hlt (fun y u' e => by cases e)
          simp only [List.length_nil] at hbd
          have j2 : (t.length : Int) ≤ ((a + 1 + done.flat.length : Nat) : Int) := by omega
          clear hpl HO HK HR
          go_wp2
          go_ret
          exact ⟨⟨_, rfl, HF.out⟩, hb03⟩
        | cons y u' =>
          simp only [List.length_cons] at hbd
          have hA : a + 1 + done.flat.length < t.length := by omega
          obtain ⟨b', off', he, hbw3, c0, c1, c2, c3, cw⟩ := (HV.out.up hb03).at hA
          cases he
          have hty : t[a + 1 + done.flat.length] = y := by
            have := drop_at hA
            rw [hpl] at this
            simp only [List.cons.injEq] at this
            exact this.1.symm
          have HU : Hid (t.drop (a + 1 + done.flat.length + 1) = u') := by
            show _ = _
            have := drop_at hA
            rw [hpl] at this
            simp only [List.cons.injEq] at this
            exact this.2.symm
          rw [hty] at c0 c1 c2 c3 cw
          clear hty hpl
          generalize hA' : a + 1 + done.flat.length = A at *
          have HA' : Hid (a + 1 + done.flat.length = A) := hA'
          clear hA'
          have j2 : ¬ (t.length : Int) ≤ (A : Int) := by omega
          have j3 : (A : Int) < (t.length : Int) := by omega
          obtain ⟨yo, yn, ys, yt⟩ := y
          dsimp only at c0 c1 c2 c3 cw
          have HBAD : Hid (¬ FdOk l ⟨yo, yn, ys, yt⟩ → KERet t a (-1)) := fun hn => HO.out done l _ HR.out hlt (fun y u'' e k => by cases e; exact hn k.1)
          have HC := fun w => nameFault_any ys w cw.1
          have HT : ∀ w, Calls Tryd.prog 22 #[.string l, .string ys] w fun e w' => e = .returned (.int .i64 (cmpB l ys)) ∧ ∃ n, w' = w.drewN n := fun w => texts_any l ys w hlm cw.1
          by_cases hf : FdOk l ⟨yo, yn, ys, yt⟩
          · obtain ⟨f1, f2, f3, f4, f5⟩ := id hf
            dsimp only at f1 f2 f3 f4 f5
            subst f1
            rw [f4] at HC
            have HCE := fun n => HIH.out (A + 1) (by have := HA'.out; omega) (w3.drewN n) (some ⟨b, off, none⟩) c ((HV.out.up hb03).up (knn _ n)) hc hcm hl (by omega)
            rw [show ((A + 1 : Nat) : Int) = (A : Int) + 1 by omega] at HCE
            have HF : Hid (FdOk l ⟨47, yn, ys, yt⟩) := hf
            have g1 : ¬ yn < 0 := by omega
            have g2 : ¬ 1 < yn := by omega
            have g3 : ¬ 0 ≤ cmpB l ys := by omega
            have g4 : yt.toList = [] := be0R.1 f3
            have HLT : Hid (done.len < N) := hlt
            clear hf f2 f3 f4 f5 HBAD hlt
            go_wp2_with (first | (go_at_call 21; refine (HC _).mono ?_; rintro e w1 ⟨rfl, rfl⟩) | (go_at_call 22; refine (HT _).mono ?_; rintro e w1 ⟨rfl, n1, rfl⟩) | fail)
            refine (HCE _).mono ?_
            rintro e w4 ⟨⟨n, rfl, hn⟩, hb4⟩
            have hb34 := kqt (knn _ n1) hb4
            have hb14 : Below W.heap.size W w4 := kqt hb3 hb34
            rcases hn with ⟨x, k, z, ⟨h1, h2⟩, h3⟩ | ⟨h1, h2⟩
            · rw [HU.out] at h2
              have HR2 : Hid (KRd t a N (done.app (.cons ⟨47, yn, ys, yt⟩ (.cons x k .nil) .nil)) ys z) := HR.out.next HLT.out HF.out h1 h2
              have hfl : (done.app (.cons ⟨47, yn, ys, yt⟩ (.cons x k .nil) .nil)).flat.length = done.flat.length + (k.flat.length + 2) := by rw [tp_app_flat]; simp [Tp.flat]
              have hle : (done.app (.cons ⟨47, yn, ys, yt⟩ (.cons x k .nil) .nil)).len = done.len + 1 := by rw [tp_app_len]; rfl
              have HLE : Hid ((done.app (.cons ⟨47, yn, ys, yt⟩ (.cons x k .nil) .nil)).len = done.len + 1) := hle
              have HFL : Hid (((A + 1 + 1 + k.flat.length : Nat) : Int) = ((a + 1 + (done.app (.cons ⟨47, yn, ys, yt⟩ (.cons x k .nil) .nil)).flat.length : Nat) : Int)) := by show _ = _; have := HA'.out; rw [hfl]; omega
              generalize done.app (.cons ⟨47, yn, ys, yt⟩ (.cons x k .nil) .nil) = done2 at *
              have g5 : ¬ ((A + 1 + 1 + k.flat.length : Nat) : Int) < 0 := by omega
              subst h3
              clear h1 h2 hfl hle HCE
              go_wp2
              go_roundw
              case rel => exact ⟨done2, ys, z, congrArg (Value.int IntKind.i64) (by have := HFL.out; omega), rfl, by rw [HLE.out]; go_num, HR2, cw.1, by have := HLE.out; have := HLT.out; omega, hb14⟩
              case measure => have := HLT.out; simp [intOf]; omega
            · subst h2
              have HF2 : Hid (KERet t a (-1)) := HO.out done l _ HR.out HLT.out (fun y u'' e k => by
                cases e
                obtain ⟨_, x, k', z, k1, k2⟩ := k
                exact h1 x k' z ⟨k1, by rw [HU.out]; exact k2⟩)
              clear h1 HCE
              go_wp2
              go_ret
              exact ⟨⟨_, rfl, HF2.out⟩, kqt hbW hb14⟩
          · have HB2 : Hid (KERet t a (-1)) := HBAD.out hf
            have hcs : ¬ yo = 47 ∨ (yo = 47 ∧ yn < 0) ∨ (yo = 47 ∧ ¬ yn < 0 ∧ 1 < yn) ∨ (yo = 47 ∧ ¬ yn < 0 ∧ ¬ 1 < yn ∧ ¬ yt.toList = []) ∨ (yo = 47 ∧ ¬ yn < 0 ∧ ¬ 1 < yn ∧ yt.toList = [] ∧ ¬ nfault ys.data.toList = 0) ∨ (yo = 47 ∧ ¬ yn < 0 ∧ ¬ 1 < yn ∧ yt.toList = [] ∧ nfault ys.data.toList = 0 ∧ 0 ≤ cmpB l ys) := by
              by_cases k1 : yo = 47
              · by_cases k2 : yn < 0
                · exact .inr (.inl ⟨k1, k2⟩)
                by_cases k3 : 1 < yn
                · exact .inr (.inr (.inl ⟨k1, k2, k3⟩))
                by_cases k4 : yt.toList = []
                · by_cases k5 : nfault ys.data.toList = 0
                  · refine .inr (.inr (.inr (.inr (.inr ⟨k1, k2, k3, k4, k5, ?_⟩))))
                    by_cases k6 : cmpB l ys < 0
                    · exact absurd ⟨k1, (by show yn = 0 ∨ yn = 1; omega), be0R.2 k4, k5, k6⟩ hf
                    · omega
                  · exact .inr (.inr (.inr (.inr (.inl ⟨k1, k2, k3, k4, k5⟩))))
                · exact .inr (.inr (.inr (.inl ⟨k1, k2, k3, k4⟩)))
              · exact .inl k1
            clear hf HBAD HO HK HR HIH
            generalize nfault ys.data.toList = g at *
            generalize cmpB l ys = g2 at *
            rcases hcs with k1 | ⟨rfl, k2⟩ | ⟨rfl, k2, k3⟩ | ⟨rfl, k2, k3, k4⟩ | ⟨rfl, k2, k3, k4, k5⟩ | ⟨rfl, k2, k3, k4, rfl, k6⟩
            all_goals
              go_wp2_with (first | (go_at_call 21; refine (HC _).mono ?_; rintro e w1 ⟨rfl, rfl⟩) | (go_at_call 22; refine (HT _).mono ?_; rintro e w1 ⟨rfl, n1, rfl⟩))
              go_ret
              first
                | exact ⟨⟨_, rfl, HB2.out⟩, hb03⟩
                | exact ⟨⟨_, rfl, HB2.out⟩, kqt hb03 (knn _ _)⟩
      · have j1 : ¬ (done.len : Int) < (N : Int) := by omega
        have HF : Hid (KERet t a ((a + 1 + done.flat.length : Nat) : Int)) := HK.out done l u HR.out (by omega)
        clear HK HO HR
        go_wp2
        go_ret
        exact ⟨⟨_, rfl, HF.out⟩, hb03⟩
  · have HF : Hid (KERet t a (-1)) := HN.out hsh
    have hcs : ¬ xt.toList = [] ∨ (xt.toList = [] ∧ ¬ xs.toList = []) ∨ (xt.toList = [] ∧ xs.toList = [] ∧ xn < 0) := by
      by_cases k1 : xt.toList = []
      · by_cases k2 : xs.toList = []
        · exact .inr (.inr ⟨k1, k2, by by_cases k3 : 0 ≤ xn; exact absurd ⟨k1, k2, k3⟩ hsh; omega⟩)
        · exact .inr (.inl ⟨k1, k2⟩)
      · exact .inl k1
    clear hv xw h ih HN hsh HK HO HIH
    rcases hcs with k1 | ⟨k1, k2⟩ | ⟨k1, k2, k3⟩
    all_goals
      go_enter Tryd.func11, Tryd.ntmps11
      go_wp2
      go_ret
      exact ⟨⟨_, rfl, HF.out⟩, HL.out _⟩
/-- KindEnd, whole. -/
theorem kend_any (t : List Nd) : ∀ (m a : Nat), t.length - a < m → KEnd t a
  | 0, a, h => by omega
  | m + 1, a, h => by
    by_cases ha : a < t.length
    · have ih : ∀ b, a < b → KEnd t b := fun b hb => kend_any t m b (by omega)
      by_cases h1 : t[a].op = 41 ∨ t[a].op = 42 ∨ t[a].op = 43 ∨ t[a].op = 48 ∨ t[a].op = 49
      · exact kend_leaf t a ha h1
      by_cases h4 : t[a].op = 44
      · exact kend_ent t a ha h4
      by_cases h5 : t[a].op = 45
      · exact kend_set t a ha h5 (ih _ (by omega))
      by_cases h6 : t[a].op = 46
      · exact kend_rcd t a ha h6 ih
      · exact kend_not t a ha (by omega)
    · exact kend_out t a (by omega)
theorem kendR (t : List Nd) (a : Nat) : KEnd t a := kend_any t _ a (Nat.lt_succ_self _)
/-- Where a type is, KindEnd tells its end. -/
theorem KERet.at {t : List Nd} {a : Nat} {n : Int} (h : KERet t a n) {x : Nd} {k : Tp} {z : List Nd} (he : EndIs t a x k z) : n = (a + 1 + k.flat.length : Nat) := by
  rcases h with ⟨x', k', z', h1, h2⟩ | ⟨h1, _⟩
  · have := tp_flat_inj (.cons x k .nil) (.cons x' k' .nil) z z' (isTy_ar _ _ he.1.2) (isTy_ar _ _ h1.1.2) rfl (by have a := he.2; have b := h1.2; rw [a] at b; simpa [Tp.flat] using b)
    cases this.1
    exact h2
  · exact absurd he (h1 x k z)
theorem kendAt {t : List Nd} {a : Nat} {x : Nd} {k : Tp} {z : List Nd} (he : EndIs t a x k z) {w : World} {p : Option Addr} {c : Nat} (hv : NL w p t) (hc : t.length ≤ c) (hcm : c ≤ maxLen) (hl : t.length ≤ 1000) (ha : a ≤ 1000) :
    Calls Tryd.prog 11 #[.slice p t.length c, .int .i64 a] w fun e w' => e = .returned (.int .i64 ((a + 1 + k.flat.length : Nat) : Int)) ∧ Below w.heap.size w w' := by
  refine (kendR t a w p c hv hc hcm (by omega) (by omega)).mono ?_
  rintro e w' ⟨⟨n, rfl, hn⟩, hb⟩
  rw [hn.at he]
  exact ⟨rfl, hb⟩
/-- KindFault of any nodes. -/
theorem kindFault_any (t : List Nd) (w : World) (p : Option Addr) (c : Nat) (hv : NL w p t) (hc : t.length ≤ c) (hcm : c ≤ maxLen) :
    Calls Tryd.prog 4 #[.slice p t.length c] w fun e w' => e = .returned (.int .i64 (kfault t)) ∧ Below w.heap.size w w' := by
  by_cases hl : 200 < t.length
  · have i1 : (200 : Int) < (t.length : Int) := by omega
    rw [kfault_full hl]
    clear hv hl
    go_enter Tryd.func4, Tryd.ntmps4
    go_wp2
    go_ret
    exact ⟨rfl, Below.refl _ _⟩
  · have i1 : ¬ (200 : Int) < (t.length : Int) := by omega
    have HC := kendR t 0 w p c hv hc hcm (by omega) (by omega)
    have HF : Hid (∀ n, KERet t 0 n → kfault t = if n = (t.length : Int) then 0 else 1) := fun n hn => by
      by_cases hk : ∃ x k, KTy t x k
      · obtain ⟨x, k, hk⟩ := hk
        rw [kfault_ok (by omega) hk]
        have he : EndIs t 0 x k [] := ⟨hk.1, by rw [List.drop_zero, List.append_nil]; exact hk.2⟩
        rw [hn.at he, if_pos]
        have := congrArg List.length hk.2
        simp at this
        omega
      · rw [kfault_bad (by omega) (fun x k h => hk ⟨x, k, h⟩), if_neg]
        intro e
        rcases hn with ⟨x, k, z, h1, h2⟩ | ⟨h1, h2⟩
        · have h3 := h1.2
          rw [List.drop_zero] at h3
          have h4 := congrArg List.length h3
          simp at h4
          have : z = [] := List.eq_nil_of_length_eq_zero (by omega)
          rw [this, List.append_nil] at h3
          exact hk ⟨x, k, h1.1, h3⟩
        · omega
    clear hv hl
    go_enter Tryd.func4, Tryd.ntmps4
    go_wp2_with fail
    refine HC.mono ?_
    rintro e w1 ⟨⟨n, rfl, hn⟩, hb1⟩
    have HE := HF.out n hn
    clear HC HF hn
    by_cases hn : n = (t.length : Int)
    · rw [if_pos hn] at HE
      have HE2 : Hid (kfault t = 0) := HE
      clear HE
      subst hn
      go_wp2
      go_ret
      exact ⟨by rw [HE2.out]; rfl, hb1⟩
    · rw [if_neg hn] at HE
      have HE2 : Hid (kfault t = 1) := HE
      clear HE
      go_wp2
      go_ret
      exact ⟨by rw [HE2.out]; rfl, hb1⟩
end Go.Proofs.YtckjndiepojgfaaDoor
namespace Go.Proofs.YtckjndiepojgfaaDoor
open Go.RowKit
set_option linter.unusedVariables false
set_option linter.unusedSimpArgs false
set_option maxRecDepth 100000

def rcN (k : Tp) : Nd := ⟨46, k.len, e0, e0⟩
theorem OI.belowK {w w' : World} {base : Nat} {v : Value} {l : List Nat} (h : OI w base v l) (k : Below w.heap.size w w') : OI w' base v l := by
  refine ⟨h.1, ?_⟩
  rcases h.2 with hn | ⟨g, cap, cur, rfl, hb, hgg, rest⟩
  · exact .inl hn
  · exact .inr ⟨g, cap, cur, rfl, hb, (k.block g (Array.getElem?_eq_some_iff.1 hgg).1).trans hgg, rest⟩
/-- A field's type where it lies. -/
theorem field_end {x f : Nd} {k d kf q : Tp} (h : k = d.app (.cons f kf q)) (hk : T1 kf) : ∃ x' k', kf = .cons x' k' .nil ∧ EndIs (x :: k.flat) (1 + d.flat.length + 1) x' k' q.flat := by
  obtain ⟨x', k', rfl, _⟩ := hk.of
  refine ⟨x', k', rfl, hk, ?_⟩
  have := drop_field (x := x) h
  rw [← List.drop_drop, this]
  simp [Tp.flat]
/-- A list of nodes as an argument. -/
structure AK0 (w : World) (a : List Nd) (p : Option Addr) (c : Nat) : Prop where
  nl : NL w p a
  le : a.length ≤ c
  cm : c ≤ maxLen
theorem AK0.up {w w' : World} {a : List Nd} {p : Option Addr} {c : Nat} (h : AK0 w a p c) (hb : Below w.heap.size w w') : AK0 w' a p c := ⟨h.nl.up hb, h.le, h.cm⟩
/-- Numbers are told. -/
def IRet (w' : World) (n : Nat) (l : List Nat) (e : Ending) : Prop := ∃ q c', e = .returned (.slice q n c') ∧ IL w' q l
set_option maxHeartbeats 1000000 in
theorem fieldsOf_any (k : Tp) (hk : Fl e0 k) (p : Option Addr) (c : Nat) (w : World) (hv : NL w p (rcN k :: k.flat)) (hc : k.flat.length + 1 ≤ c) (hcm : c ≤ maxLen) (hl : k.flat.length ≤ 900) :
    Calls Tryd.prog 12 #[.slice p (k.flat.length + 1) c] w fun e w' => IRet w' k.len (offs k 1) e ∧ Below w.heap.size w w' := by
  obtain ⟨t, ht⟩ : ∃ t, t = rcN k :: k.flat := ⟨_, rfl⟩
  have htl : t.length = k.flat.length + 1 := by rw [ht]; rfl
  rw [← ht] at hv
  rw [← htl] at hc ⊢
  have h0 : 0 < t.length := by omega
  obtain ⟨bq, oq, rfl, hbq, _, c1, _⟩ := hv.at h0
  have e0' : t[0].n = (k.len : Int) := by simp only [ht, List.getElem_cons_zero]; rfl
  rw [e0'] at c1
  simp only [Nat.zero_mul, Nat.add_zero] at c1
  have HV : Hid (NL w (some ⟨bq, oq, none⟩) t) := hv
  have HT : Hid (t = rcN k :: k.flat) := ht
  have HK : Hid (Fl e0 k) := hk
  have HKL : Hid (k.len ≤ 900) := Nat.le_trans (tp_len_flat k) hl
  have hk9 : k.len ≤ 900 := HKL.out
  have i0 : (0 : Int) < (t.length : Int) := by omega
  have HL : Hid (t.length ≤ 901) := by show _ ≤ _; omega
  clear hv ht hk hl e0' htl
  go_enter Tryd.func12, Tryd.ntmps12
  go_wp2_with fail
  go_loopw [3, 4, 5] (fun ov av iv wr => ∃ (d r : Tp) (i a : Nat), Hid (k = d.app r) ∧ Hid (d.len = i) ∧ i ≤ k.len ∧ iv = .int .i64 i ∧ av = .int .i64 a ∧ Hid (a = 1 + d.flat.length) ∧ a ≤ 1000 ∧ OI wr w.heap.size ov (offs d 1) ∧ Below w.heap.size w wr) (fun _ _ iv _ => k.len - (intOf iv).toNat)
  case atStart => exact ⟨.nil, k, 0, 1, rfl, rfl, Nat.zero_le _, rfl, rfl, rfl, by omega, OI.nil _ _, Below.refl _ _⟩
  case round =>
    rename World => wr
    obtain ⟨d, r, i, a, HD, HI, hik, rfl, rfl, HA, ha, hown, hbr⟩ := hrel
    have c1' := (hbr.cell (p := ⟨bq, oq + 1, none⟩) hbq).trans c1
    by_cases hlt : i < k.len
    · have i1 : (i : Int) < (k.len : Int) := by omega
      obtain ⟨f, kf, q, hr⟩ := rest_cons HD.out (by rw [HI.out]; exact hlt)
      have hd := HD.out
      rw [hr] at hd
      obtain ⟨_, _, _, hkf⟩ := Fl.mid (p := d) (f := f) (kf := kf) (r := q) (by rw [← hd]; exact HK.out)
      obtain ⟨x', k', hkf', hE⟩ := field_end (x := rcN k) hd hkf
      rw [← HT.out, ← HA.out] at hE
      have hfl := field_len hd
      have hta : a + 1 + 1 + k'.flat.length ≤ t.length := by
        have := congrArg List.length HT.out
        rw [List.length_cons] at this
        have e2 : kf.flat.length = k'.flat.length + 1 := by rw [hkf']; simp [Tp.flat]
        have := HA.out
        omega
      have H1 := fun W (hW : Below w.heap.size w W) => kendAt hE (HV.out.up hW) hc hcm (by have := HL.out; omega) (by have := HL.out; omega)
      have HD2 : Hid (k = (d.app (.cons f kf .nil)).app q) := by show _ = _; rw [← step_app]; exact hd
      have HI2 : Hid ((d.app (.cons f kf .nil)).len = i + 1) := by show _ = _; rw [snoc_len, HI.out]
      have HA2 : Hid (a + 1 + 1 + k'.flat.length = 1 + (d.app (.cons f kf .nil)).flat.length) := by
        show _ = _
        rw [snoc_flat, hkf']
        have := HA.out
        simp [Tp.flat]
        omega
      have HF2 : Hid (offs (d.app (.cons f kf .nil)) 1 = offs d 1 ++ [a]) := by show _ = _; rw [offs_snoc, HA.out]
      have HO : Hid (OI wr w.heap.size u3 (offs d 1)) := hown
      have HLo : Hid ((offs d 1).length = i) := by show _ = _; rw [offs_length]; exact HI.out
      have ha9 : a + 1 + 1 + k'.flat.length ≤ 1000 := by have := HL.out; omega
      generalize a + 1 + 1 + k'.flat.length = a2 at *
      clear hr hd hkf hkf' hE hfl hown HD HI hta
      go_wp2_with (first
        | (at_builtin; refine append_int wr rfl (.tmp 14) (.tmp 16) rfl w.heap.size u3 (offs d 1) rfl HO.out (a : Int) a rfl rfl (by rw [HLo.out]; omega) hbr.size ?_; intro v2 w2 ho2 hb2)
        | (go_at_call 11; refine (H1 w2 (hbr.trans hb2)).mono ?_; rintro _ w3 ⟨rfl, hb3⟩))
      have hb02 := hbr.trans hb2
      have hb03 := kqt hb02 hb3
      have ho3 := ho2.belowK hb3
      rw [← HF2.out] at ho3
      clear ho2 HO hb2 hb3 hbr c1'
      go_roundw
      case rel => exact ⟨d.app (.cons f kf .nil), q, i + 1, a2, HD2, HI2, by omega, by go_num, rfl, HA2, ha9, ho3, hb03⟩
      case measure => simp [intOf]; omega
    · have i1 : ¬ (i : Int) < (k.len : Int) := by omega
      have hr := rest_nil HD.out (by rw [HI.out]; exact hlt)
      have hd : k = d := by have := HD.out; rw [hr, tp_app_nil] at this; exact this
      rw [← hd] at hown
      obtain ⟨q, c', rfl, hq, _⟩ := hown.slice
      have HQ : Hid (IL wr q (offs k 1)) := hq
      rw [offs_length]
      clear hr hd HD HA hq hown
      go_wp2
      go_ret
      exact ⟨⟨q, c', rfl, HQ.out⟩, hbr⟩
theorem IL.atK {w : World} {p : Option Addr} {l : List Nat} (h : IL w p l) {i x : Nat} (hi : l[i]? = some x) : ∃ b off, p = some ⟨b, off, none⟩ ∧ b < w.heap.size ∧ w.cell? ⟨b, off + i, none⟩ = some (.int .i64 (x : Int)) := by
  rcases h with rfl | ⟨b, off, h1, h2, h3⟩
  · simp at hi
  · exact ⟨b, off, h1, h2, h3 i x hi⟩
/-- Where a field is told to lie. -/
def FkRet (k : Tp) (s : ByteArray) (e : Ending) : Prop := (k.find s = none ∧ e = .returned (.int .i64 (-1))) ∨ ∃ (d q : Tp) (f : Nd) (kf : Tp), k = d.app (.cons f kf q) ∧ k.find s = some (f, kf) ∧ e = .returned (.int .i64 ((1 + d.flat.length : Nat) : Int))
set_option maxHeartbeats 1000000 in
theorem fieldKind_any (k : Tp) (hk : Fl e0 k) (s : ByteArray) (p : Option Addr) (c : Nat) (w : World) (hv : NL w p (rcN k :: k.flat)) (hc : k.flat.length + 1 ≤ c) (hcm : c ≤ maxLen) (hl : k.flat.length ≤ 900) :
    Calls Tryd.prog 13 #[.slice p (k.flat.length + 1) c, .string s] w fun e w' => FkRet k s e ∧ Below w.heap.size w w' := by
  have HC := fieldsOf_any k hk p c w hv hc hcm hl
  obtain ⟨t, ht⟩ : ∃ t, t = rcN k :: k.flat := ⟨_, rfl⟩
  have htl : t.length = k.flat.length + 1 := by rw [ht]; rfl
  rw [← ht] at hv
  rw [← htl] at hc HC ⊢
  have HV : Hid (NL w p t) := hv
  have HT : Hid (t = rcN k :: k.flat) := ht
  have hk9 : k.len ≤ 900 := Nat.le_trans (tp_len_flat k) hl
  have HTL : Hid (t.length = k.flat.length + 1) := htl
  have hlt9 : t.length ≤ 901 := by omega
  clear hv ht hk htl
  go_enter Tryd.func13, Tryd.ntmps13
  go_wp2_with fail
  refine HC.mono ?_
  rintro _ w1 ⟨⟨q, c', rfl, hq⟩, hb1⟩
  have HQ : Hid (IL w1 q (offs k 1)) := hq
  have HV1 : Hid (NL w1 p t) := HV.out.up hb1
  clear hq HC HV
  go_wp2_with fail
  go_loop [6] (fun iv => ∃ (d r : Tp) (i : Nat), Hid (k = d.app r) ∧ Hid (d.len = i) ∧ i ≤ k.len ∧ iv = .int .i64 i ∧ Hid (d.find s = none)) (fun iv => k.len - (intOf iv).toNat)
  case atStart => exact ⟨.nil, k, 0, rfl, rfl, Nat.zero_le _, rfl, rfl⟩
  case round =>
    obtain ⟨d, r, i, HD, HI, hik, rfl, HF⟩ := hrel
    by_cases hlt : i < k.len
    · have i1 : (i : Int) < (k.len : Int) := by omega
      obtain ⟨f, kf, q2, hr⟩ := rest_cons HD.out (by rw [HI.out]; exact hlt)
      have hd := HD.out
      rw [hr] at hd
      have ho := offs_at hd 1
      rw [HI.out] at ho
      obtain ⟨bf, of_, rfl, hbf, x0⟩ := HQ.out.atK ho
      have hat : 1 + d.flat.length < t.length := by have := field_len hd; have := HTL.out; omega
      have hta : t[1 + d.flat.length] = f := by
        have h1 := drop_field (x := rcN k) hd
        rw [← HT.out, List.drop_eq_getElem_cons hat] at h1
        exact (List.cons.inj h1).1
      obtain ⟨bt, ot, hpt, hbt, y1, y2, x3, y3⟩ := HV1.out.at hat
      clear y1 y2 y3
      rw [hta] at x3
      subst hpt
      have i2 : ((1 + d.flat.length : Nat) : Int) < (t.length : Int) := by omega
      have HFD : Hid (d.find s = none ∧ k = d.app (.cons f kf q2)) := ⟨HF.out, hd⟩
      obtain ⟨a, ea⟩ : ∃ a, a = 1 + d.flat.length := ⟨_, rfl⟩
      have HA : Hid (a = 1 + d.flat.length) := ea
      rw [← ea] at x0 x3 i2
      clear hr hd ho hat hta ea
      by_cases hs : f.s = s
      · have HR : Hid (FkRet k s (.returned (.int .i64 (a : Int)))) := .inr ⟨d, q2, f, kf, HFD.out.2, by rw [HFD.out.2, find_appK HFD.out.1, Tp.find, if_pos hs], by rw [HA.out]⟩
        subst hs
        clear HF HD HI HFD HA
        go_wp2
        go_ret
        exact ⟨HR.out, hb1⟩
      · have hne : (f.s.toList == s.toList) = false := by
          rw [beq_eq_false_iff_ne]
          exact fun e => hs (bytes_inj (by simpa only [ByteArray.toList_eq] using e))
        have HF2 : Hid ((d.app (.cons f kf .nil)).find s = none) := find_snoc HFD.out.1 hs
        have HD2 : Hid (k = (d.app (.cons f kf .nil)).app q2) := by show _ = _; rw [← step_app]; exact HFD.out.2
        have HI2 : Hid ((d.app (.cons f kf .nil)).len = i + 1) := by show _ = _; rw [snoc_len, HI.out]
        clear HF HD HI HFD HA hs
        go_wp2
        go_round
        case rel => exact ⟨d.app (.cons f kf .nil), q2, i + 1, HD2, HI2, by omega, by go_num, HF2⟩
        case measure => simp [intOf]; omega
    · have i1 : ¬ (i : Int) < (k.len : Int) := by omega
      have hr := rest_nil HD.out (by rw [HI.out]; exact hlt)
      have HR : Hid (FkRet k s (.returned (.int .i64 (-1)))) := .inl ⟨by have := HD.out; rw [hr, tp_app_nil] at this; rw [this]; exact HF.out, rfl⟩
      clear hr HD HF HI
      go_wp2
      go_ret
      exact ⟨HR.out, hb1⟩
/-- A part of a list, where it lies. -/
theorem NL.sub {w : World} {b off : Nat} {t : List Nd} (h : NL w (some ⟨b, off, none⟩) t) (a n : Nat) : NL w (some ⟨b, off + a * 4, none⟩) ((t.drop a).take n) := by
  rcases h with rfl | ⟨b', off', h1, h2, h3⟩
  · exact .inl (by simp)
  · cases h1
    refine .inr ⟨b, off + a * 4, rfl, h2, fun i x hx => ?_⟩
    have hx2 : t[a + i]? = some x := by
      rw [List.getElem?_take] at hx
      split at hx
      · rw [List.getElem?_drop] at hx; exact hx
      · cases hx
    have := h3 _ _ hx2
    rw [show off + (a + i) * 4 = off + a * 4 + i * 4 by omega] at this
    exact this
/-- A type is told: where it lies. -/
def KRet (w' : World) (l : List Nd) (e : Ending) : Prop := ∃ q c', e = .returned (.slice q l.length c') ∧ AK0 w' l q c'
/-- And it lies in the block that it is cut of. -/
def KRetP (p : Option Addr) (w' : World) (l : List Nd) (e : Ending) : Prop := ∃ q c', e = .returned (.slice q l.length c') ∧ AK0 w' l q c' ∧ ∃ b o o2, p = some ⟨b, o, none⟩ ∧ q = some ⟨b, o2, none⟩
theorem KRetP.ret {p : Option Addr} {w' : World} {l : List Nd} {e : Ending} (h : KRetP p w' l e) : KRet w' l e := by
  obtain ⟨q, c, h1, h2, _⟩ := h
  exact ⟨q, c, h1, h2⟩
set_option maxHeartbeats 1000000 in
theorem partKind_in (t : List Nd) (a : Nat) (x' : Nd) (k' : Tp) (z : List Nd) (hE : EndIs t (a + 1) x' k' z) (p : Option Addr) (c : Nat) (w : World) (hv : NL w p t) (hc : t.length ≤ c) (hcm : c ≤ maxLen) (hl : t.length ≤ 901) (ha : a ≤ 900) :
    Calls Tryd.prog 14 #[.slice p t.length c, .int .i64 (a : Int)] w fun e w' => KRetP p w' (x' :: k'.flat) e ∧ Below w.heap.size w w' := by
  have H1 := kendAt hE hv hc hcm (by omega) (by omega)
  have hta : a + 1 + 1 + k'.flat.length ≤ t.length := by
    have := congrArg List.length hE.2
    simp at this
    omega
  have hb : ∃ b off, p = some ⟨b, off, none⟩ := by
    rcases hv with h | ⟨b, off, h, _⟩
    · rw [h] at hta; simp at hta
    · exact ⟨b, off, h⟩
  obtain ⟨b, off, rfl⟩ := hb
  have hN := hv.sub (a + 1) (k'.flat.length + 1)
  rw [hE.2, show (x' :: (k'.flat ++ z)).take (k'.flat.length + 1) = x' :: k'.flat by simp] at hN
  have HN : Hid (NL w (some ⟨b, off + (a + 1) * 4, none⟩) (x' :: k'.flat)) := hN
  have i1 : ¬ c = a + 1 := by omega
  have i2 : ((a + 1 + 1 + k'.flat.length : Nat) : Int) ≤ (c : Int) := by omega
  have HS : Hid (a + 1 + 1 + k'.flat.length - (a + 1) = k'.flat.length + 1) := by show _ = _; omega
  have i3 : a + 1 ≤ a + 1 + 1 + k'.flat.length := by omega
  have HC : Hid (k'.flat.length + 1 ≤ c - (a + 1) ∧ c - (a + 1) ≤ maxLen) := ⟨by omega, by omega⟩
  have h9 : a + 1 + 1 + k'.flat.length ≤ 1000 := by omega
  have HKl : Hid ((x' :: k'.flat).length = k'.flat.length + 1) := rfl
  unfold maxLen at hcm
  generalize a + 1 + 1 + k'.flat.length = m at *
  clear hN hE hv hta
  go_enter Tryd.func14, Tryd.ntmps14
  go_wp2_with fail
  refine H1.mono ?_
  rintro _ w1 ⟨rfl, hb1⟩
  go_wp2
  go_ret
  refine ⟨⟨some ⟨b, off + (a + 1) * 4, none⟩, c - (a + 1), ?_, ?_, b, off, _, rfl, rfl⟩, hb1⟩
  · rw [HKl.out, ← HS.out]; rfl
  · exact ⟨HN.out.up hb1, by rw [HKl.out]; exact HC.out.1, HC.out.2⟩
theorem partKind_any (t : List Nd) (a : Nat) (x' : Nd) (k' : Tp) (z : List Nd) (hE : EndIs t (a + 1) x' k' z) (p : Option Addr) (c : Nat) (w : World) (hv : NL w p t) (hc : t.length ≤ c) (hcm : c ≤ maxLen) (hl : t.length ≤ 901) (ha : a ≤ 900) :
    Calls Tryd.prog 14 #[.slice p t.length c, .int .i64 (a : Int)] w fun e w' => KRet w' (x' :: k'.flat) e ∧ Below w.heap.size w w' := by
  refine (partKind_in t a x' k' z hE p c w hv hc hcm hl ha).mono ?_
  rintro e w' ⟨h1, h2⟩
  exact ⟨h1.ret, h2⟩
end Go.Proofs.YtckjndiepojgfaaDoor
namespace Go.Proofs.YtckjndiepojgfaaDoor
open Go.RowKit
set_option linter.unusedVariables false
set_option linter.unusedSimpArgs false
set_option maxRecDepth 100000

/-- What lies at a field. -/
theorem rec_field {w : World} {b off c : Nat} {k a r : Tp} {f : Nd} {kf : Tp} (h : AK0 w (rcN k :: k.flat) (some ⟨b, off, none⟩) c) (hd : k = a.app (.cons f kf r)) : ((1 + a.flat.length : Nat) : Int) < ((k.flat.length : Int) + 1) ∧ b < w.heap.size ∧ w.cell? ⟨b, off + (1 + a.flat.length) * 4 + 1, none⟩ = some (.int .i64 f.n) ∧ w.cell? ⟨b, off + (1 + a.flat.length) * 4 + 2, none⟩ = some (.string f.s) := by
  have hfl := field_len hd
  have hat : 1 + a.flat.length < (rcN k :: k.flat).length := by simp; omega
  have hta : (rcN k :: k.flat)[1 + a.flat.length] = f := by
    have h1 := drop_field (x := rcN k) hd
    rw [List.drop_eq_getElem_cons hat] at h1
    exact (List.cons.inj h1).1
  obtain ⟨bt, ot, hpt, hbt, y1, x2, x3, y3⟩ := h.nl.at hat
  rw [hta] at x2 x3
  cases hpt
  exact ⟨by omega, hbt, x2, x3⟩
/-- A field's type is told. -/
theorem rec_part {k : Tp} (hk : Fl e0 k) {b off c : Nat} {w : World} (h : AK0 w (rcN k :: k.flat) (some ⟨b, off, none⟩) c) (h9 : k.flat.length ≤ 890) {a r : Tp} {f : Nd} {kf : Tp} (hd : k = a.app (.cons f kf r)) : ∃ x' k', kf = .cons x' k' .nil ∧ T1 (.cons x' k' .nil) ∧ k'.flat.length ≤ 890 ∧ k'.flat.length + 1 < k.flat.length + 1 ∧ ∀ W, Below w.heap.size w W → Calls Tryd.prog 14 #[.slice (some ⟨b, off, none⟩) (k.flat.length + 1) c, .int .i64 ((1 + a.flat.length : Nat) : Int)] W fun e w' => KRetP (some ⟨b, off, none⟩) w' (x' :: k'.flat) e ∧ Below W.heap.size W w' := by
  have hkf := (Fl.mid (p := a) (f := f) (kf := kf) (r := r) (by rw [← hd]; exact hk)).2.2.2
  obtain ⟨x', k', e1, hE⟩ := field_end (x := rcN k) hd hkf
  have hfl := field_len hd
  rw [e1] at hkf hfl
  simp only [Tp.flat, List.length_cons, List.length_append, List.length_nil] at hfl
  refine ⟨x', k', e1, hkf, by omega, by omega, fun W hW => ?_⟩
  exact partKind_in (rcN k :: k.flat) (1 + a.flat.length) x' k' _ hE (some ⟨b, off, none⟩) c W (h.nl.up hW) h.le h.cm (by simp; omega) (by omega)
end Go.Proofs.YtckjndiepojgfaaDoor
namespace Go.Proofs.YtckjndiepojgfaaDoor
open Go.RowKit
set_option linter.unusedVariables false
set_option maxRecDepth 100000

theorem musts_cons (k : Tp) (f : Nd) (kf r : Tp) : musts k (.cons f kf r) = ((decide (f.n ≠ 1) || (match k.find f.s with | some (g, _) => decide (g.n = 1) | none => false)) && musts k r) := rfl
set_option maxHeartbeats 4000000 in
theorem mustAll_any (x y : Nd) (k l : Tp) (w : World) (v u : Value) (S : Nat → Prop) (hv : VK w k v S) (hu : VK w l u S) (hk1 : k.flat.length ≤ 1000) (hl1 : l.flat.length ≤ 1000) :
    Calls Tryd.prog 25 #[partV x v, partV y u] w fun e w' => e = .returned (.bool (musts k l)) ∧ Below w.heap.size w w' := by
  obtain ⟨q, c, rfl, hkc, hcm⟩ := hv.slice
  obtain ⟨q2, c2, rfl, hkc2, hcm2⟩ := hu.slice
  have HV : Hid (VK w k (.slice q k.len c) S) := hv
  have HU : Hid (VK w l (.slice q2 l.len c2) S) := hu
  have HK1 : Hid (k.flat.length ≤ 1000) := hk1
  have hkb : l.len ≤ 1000 := by have := tp_len_flat l; omega
  clear hv hu hk1 hl1
  obtain ⟨W, hW⟩ : ∃ W, W = (w.alloc (.cells #[.int .i64 x.op, .int .i64 x.n, .string x.s, .string x.t, .slice q k.len c] 43)).alloc (.cells #[.int .i64 y.op, .int .i64 y.n, .string y.s, .string y.t, .slice q2 l.len c2] 43) := ⟨_, rfl⟩
  have hb0 : Below w.heap.size w W := by rw [hW]; exact kqx
  have hp_0 : PBk W w.heap.size x (.slice q k.len c) := by rw [hW]; exact (PBk.new w x _ rfl).up kqx
  have hWs : w.heap.size + 2 ≤ W.heap.size := by rw [hW]; simp
  unfold partV
  go_enter Tryd.func25, Tryd.ntmps25
  go_wp2
  rw [← hW]
  go_loopw [12] (fun i wr => ∃ (done todo : Tp), Hid (done.app todo = l) ∧ i = .int .i64 (done.len : Int) ∧ Hid (musts k l = musts k todo) ∧ PBk wr w.heap.size x (.slice q k.len c) ∧ Below w.heap.size w wr) (fun i _ => l.len - (intOf i).toNat)
  case atStart => exact ⟨.nil, l, rfl, rfl, rfl, hp_0, hb0⟩
  case round =>
    rename World => w3
    obtain ⟨done, todo, HD, rfl, HF, hp_3, hb3⟩ := hrel
    cases todo with
    | nil =>
      have hd : done = l := by have := HD.out; rw [tp_app_nil] at this; exact this
      subst hd
      have i1 : ¬ (done.len : Int) < (done.len : Int) := by omega
      go_wp2
      go_ret
      exact ⟨retb HF.out.symm, hb3⟩
    | cons f kf r =>
      have hu3 : VK w3 l (.slice q2 l.len c2) S := HU.out.up hb3
      have hkl : l.len = done.len + (r.len + 1) := by rw [← HD.out, tp_app_len]; rfl
      have i1 : (done.len : Int) < (l.len : Int) := by omega
      rw [← HD.out] at hu3
      obtain ⟨g, cap, u, hu, hP, hyw, hvk, hSg⟩ := hu3.at
      rw [HD.out, ← hkl] at hu
      cases hu
      obtain ⟨qu, cu, rfl, _⟩ := hvk.slice
      obtain ⟨p0, p1, p2, p3, p4⟩ := hP.cells
      have HDn : Hid ((done.app (.cons f kf .nil)).app r = l) := by show _ = _; rw [tp_app_assoc, ← HD.out]; rfl
      have HKL : Hid (l.len = done.len + (r.len + 1)) := hkl
      obtain ⟨W4, hW4⟩ : ∃ W4, W4 = w3.alloc (.cells #[.int .i64 f.op, .int .i64 f.n, .string f.s, .string f.t, .slice qu kf.len cu] 43) := ⟨_, rfl⟩
      have hb4 : Below w3.heap.size w3 W4 := by rw [hW4]; exact kqx
      have hB4 : PBk W4 w3.heap.size f (.slice qu kf.len cu) := by rw [hW4]; exact PBk.new w3 f _ rfl
      have hp_4 := hp_3.up hb4
      have hC := field_any x k f.s W4 _ S ((HV.out.up hb3).up hb4) HK1.out
      unfold partV at hC
      obtain ⟨b0, b1, b2, b3, b4⟩ := hp_4.cells
      rw [hW4] at b0 b1 b2 b3 b4
      have HX : Hid (musts k l = ((decide (f.n ≠ 1) || (match k.find f.s with | some (g, _) => decide (g.n = 1) | none => false)) && musts k r)) := by show _ = _; rw [HF.out]; rfl
      clear hu3 hP hkl hvk HF
      obtain ⟨G, hG⟩ : ∃ G : Bool, G = (match k.find f.s with | some (g, _) => decide (g.n = 1) | none => false) := ⟨_, rfl⟩
      rw [← hG] at HX
      have HOwn : ∃ (on : Nd), G = decide (on.n = 1) ∧ Calls Tryd.prog 36 #[.agg #[.int .i64 x.op, .int .i64 x.n, .string x.s, .string x.t, .slice q k.len c], .string f.s] W4 fun en w' => (∃ qo no co B, en = .returned (.tuple #[.agg #[.int .i64 on.op, .int .i64 on.n, .string on.s, .string on.t, .slice qo no co], .bool B])) ∧ Below W4.heap.size W4 w' := by
        cases hf : k.find f.s with
        | none =>
          rw [hf] at hC hG
          exact ⟨zN, by rw [hG]; rfl, hC.mono (fun en w' h => ⟨⟨none, 0, 0, false, h.1⟩, h.2⟩)⟩
        | some p =>
          obtain ⟨o, ko⟩ := p
          rw [hf] at hC hG
          exact ⟨o, hG, hC.mono (fun en w' h => by obtain ⟨⟨a, b, e, _⟩, h2⟩ := h; exact ⟨⟨a, _, b, true, e⟩, h2⟩)⟩
      obtain ⟨on, hGo, hC2⟩ := HOwn
      clear hC hG
      go_wp2_with fail
      rw [← hW4]
      refine hC2.mono ?_
      rintro _ w5 ⟨⟨qo, no, co, B, rfl⟩, hb5⟩
      obtain ⟨V6, hV6⟩ : ∃ V6, V6 = w5.alloc (.cells #[.int .i64 on.op, .int .i64 on.n, .string on.s, .string on.t, .slice qo no co] 43) := ⟨_, rfl⟩
      have hb6 : Below w3.heap.size w3 V6 := by rw [hV6]; exact kqA (kqt hb4 hb5)
      have hB6 : PBk V6 w3.heap.size f (.slice qu kf.len cu) := by rw [hV6]; exact (hB4.up hb5).up kqx
      obtain ⟨d0, d1, d2, d3, d4⟩ := hB6.cells
      rw [hV6] at d0 d1 d2 d3 d4
      have hb36 : Below w.heap.size w V6 := hb3.trans (hb6.mono hb3.size)
      clear b0 b1 b2 b3 b4 p0 p1 p2 p3 p4
      by_cases hn : f.n = 1
      · by_cases ho : on.n = 1
        · have HF2 : Hid (musts k l = musts k r) := by show _ = _; rw [HX.out, hGo]; simp [ho]
          have e1 : (f.n == 1) = true := by rw [hn]; rfl
          have e2 : (on.n != 1) = false := by rw [ho]; rfl
          clear hGo HX hn ho
          go_wp2_with fail
          rw [← hV6]
          go_roundw
          case rel => exact ⟨done.app (.cons f kf .nil), r, HDn, by rw [tp_app_len]; simp only [Tp.len]; go_num, HF2, hp_3.up hb6, hb36⟩
          case measure => have := HKL.out; simp [intOf]; omega
        · have HF2 : Hid (musts k l = false) := by show _ = _; rw [HX.out, hGo]; simp [ho, hn]
          have e1 : (f.n == 1) = true := by rw [hn]; rfl
          have e2 : (on.n != 1) = true := by simp [ho]
          clear hGo HX hn ho
          go_wp2
          rw [← hV6]
          go_ret
          exact ⟨retb HF2.out.symm, hb36⟩
      · have HF2 : Hid (musts k l = musts k r) := by show _ = _; rw [HX.out]; simp [hn]
        have e1 : (f.n == 1) = false := by simp [hn]
        clear hGo HX hn
        go_wp2_with fail
        rw [← hV6]
        go_roundw
        case rel => exact ⟨done.app (.cons f kf .nil), r, HDn, by rw [tp_app_len]; simp only [Tp.len]; go_num, HF2, hp_3.up hb6, hb36⟩
        case measure => have := HKL.out; simp [intOf]; omega
end Go.Proofs.YtckjndiepojgfaaDoor
