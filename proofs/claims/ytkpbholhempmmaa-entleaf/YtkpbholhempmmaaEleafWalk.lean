/- EntLeaf: the walk of the statement's own function. -/
import Derived.Test.YtkpbholhempmmaaEntAbove
import Derived.Test.YtkpbholhempmmaaEntFact
import Derived.Test.YtkpbholhempmmaaEntCheck
import Derived.Test.YtkpbholhempmmaaEntRow
namespace Go.Proofs.Ytkpbholhempmmaa
open Go.RowKit Go.Maps Go.WideMaps
set_option linter.unusedVariables false
set_option linter.unusedSimpArgs false

theorem bL {W w1 w2 : World} (h : Below W.heap.size W w1) (k : Below w1.heap.size w1 w2) : Below W.heap.size W w2 := h.trans (k.mono h.size)
/-- The cells of the two boxes. -/
structure BoxL (w : World) (n : Nat) (x : EA) (a : Ui) : Prop where
  x0 : w.cell? ⟨n, 0, none⟩ = some (.string x.e.u.t)
  x1 : w.cell? ⟨n, 1, none⟩ = some (.string x.e.u.i)
  x2 : w.cell? ⟨n, 2, none⟩ = some (.slice x.pu x.e.up.length x.cu)
  x3 : w.cell? ⟨n, 3, none⟩ = some (.slice x.pa x.e.nd.length x.ca)
  a0 : w.cell? ⟨n + 1, 0, none⟩ = some (.string a.t)
  a1 : w.cell? ⟨n + 1, 1, none⟩ = some (.string a.i)
  lt : n + 1 < w.heap.size
theorem BoxL.up {w w' : World} {n : Nat} {x : EA} {a : Ui} (h : BoxL w n x a) {B : Nat} (k : Below B w w') (hB : n + 1 < B) : BoxL w' n x a := by
  have hl := h.lt
  have q : ∀ m o, m < B → w'.cell? ⟨m, o, none⟩ = w.cell? ⟨m, o, none⟩ := fun m o hm => k.cell (p := ⟨m, o, none⟩) hm
  exact ⟨(q _ _ (by omega)).trans h.x0, (q _ _ (by omega)).trans h.x1, (q _ _ (by omega)).trans h.x2, (q _ _ (by omega)).trans h.x3, (q _ _ (by omega)).trans h.a0, (q _ _ (by omega)).trans h.a1, Nat.lt_of_lt_of_le hl k.size⟩
theorem BoxL.made (w : World) (x : EA) (a : Ui) (s t : TypeId) : BoxL ((w.alloc (.cells #[.string x.e.u.t, .string x.e.u.i, .slice x.pu x.e.up.length x.cu, .slice x.pa x.e.nd.length x.ca] s)).alloc (.cells #[.string a.t, .string a.i] t)) w.heap.size x a := by
  refine ⟨?_, ?_, ?_, ?_, ?_, ?_, by simp⟩
  · rw [cell_old (by simp), cell_new rfl]; rfl
  · rw [cell_old (by simp), cell_new rfl]; rfl
  · rw [cell_old (by simp), cell_new rfl]; rfl
  · rw [cell_old (by simp), cell_new rfl]; rfl
  · rw [cell_new (by simp)]; rfl
  · rw [cell_new (by simp)]; rfl
theorem EAL.one (w : World) (x : EA) (h : EV w x.v x.e) : EAL (w.alloc (.cells #[.string x.e.u.t, .string x.e.u.i, .slice x.pu x.e.up.length x.cu, .slice x.pa x.e.nd.length x.ca] 36)) (some ⟨w.heap.size, 0, none⟩) [x] := by
  refine ⟨fun y hy => ?_, .inr ⟨_, _, rfl, by simp, fun j u hu => ?_⟩⟩
  · rw [List.mem_singleton.1 hy]; exact h.up ((Below.refl _ _).alloc (Nat.le_refl _) _)
  · rw [cell_new rfl, ← hu, Nat.zero_add]
    rcases j with _ | _ | _ | _ | j
    · rfl
    · rfl
    · rfl
    · rfl
    · simp [ecl]
theorem OE.none (w : World) (base : Nat) (hb : base ≤ w.heap.size) : OE (w.alloc (.cells #[] 36)) base (.slice (some ⟨w.heap.size, 0, none⟩) 0 0) [] :=
  ⟨World.ownsRow_made w #[] 0 hb (Nat.zero_le _) (by simp), fun x hx => (by cases hx)⟩
theorem OE.below {w w' : World} {base : Nat} {v : Value} {xs : List EA} (h : OE w base v xs) (k : Below w.heap.size w w') : OE w' base v xs := by
  refine ⟨⟨h.row.1, ?_⟩, fun x hx => (h.parts x hx).up k⟩
  rcases h.row.2 with hn | ⟨g, cap, cur, rfl, hb, hgg, rest⟩
  · exact .inl hn
  · exact .inr ⟨g, cap, cur, rfl, hb, (k.block g (Array.getElem?_eq_some_iff.1 hgg).1).trans hgg, rest⟩

set_option maxRecDepth 100000 in
set_option maxHeartbeats 8000000 in
theorem eleaf_walk (es : List En) (p : Option Addr) (cp : Nat) (x : EA) (a : Ui) (w : World) (hl : EL w p es) (hcp : es.length ≤ cp) (hcm : cp ≤ maxLen) (hp0 : p = none → cp = 0) (hr : es.length * 80 ≤ 140737488351232) (hx : EV w x.v x.e) (ha : UOk a) :
    Calls Try.prog 5 #[.slice p es.length cp, .agg #[.string x.e.u.t, .string x.e.u.i, .slice x.pu x.e.up.length x.cu, .slice x.pa x.e.nd.length x.ca], .agg #[.string a.t, .string a.i]] w fun e w' => e = .returned (.bool true) ∧ Below w.heap.size w w' := by
  unfold maxLen at hcm
  have hbx : Below w.heap.size w ((w.alloc (.cells #[.string x.e.u.t, .string x.e.u.i, .slice x.pu x.e.up.length x.cu, .slice x.pa x.e.nd.length x.ca] 36)).alloc (.cells #[.string a.t, .string a.i] 24)) := ((Below.refl _ _).alloc (Nat.le_refl _) _).alloc (by simp) _
  have HB : Hid (Below w.heap.size w _) := hbx
  have HX : Hid (BoxL _ _ _ _) := BoxL.made w x a 36 24
  have HL : Hid (EL w p es) := hl
  have HEV : Hid (EV w x.v x.e) := hx
  obtain ⟨xs, hxs, hEAL⟩ := hl.parts
  have HEAL : Hid (EAL w p xs) := hEAL
  have HXS : Hid (xs.map (·.e) = es) := hxs
  have hxl : xs.length = es.length := by rw [← hxs]; simp
  clear hbx hl hx hxs hEAL
  go_enter Try.func5, Try.ntmps5
  go_wp2_with fail
  refine (fact_any _).mono ?_
  rintro e w1 ⟨rfl, k1⟩
  replace HB : Hid (Below w.heap.size w w1) := bL HB.out k1
  replace HX : Hid (BoxL w1 w.heap.size x a) := HX.out.up k1 (by simp)
  have hw1 := HB.out.size
  have hlt1 := HX.out.lt
  clear k1
  have hbe := (Below.refl w1.heap.size w1).alloc (Nat.le_refl _) (.cells #[] 36)
  have HBE : Hid (Below w.heap.size w (w1.alloc (.cells #[] 36))) := HB.out.trans (hbe.mono hw1)
  have HPX : Hid (∀ y ∈ xs, ∀ w', Below w1.heap.size w1 w' → EV w' y.v y.e) := fun y hy w' k => ((HEAL.out.up HB.out).parts y hy).up k
  go_wp2_with (first
    | (at_builtin; refine append_ents _ rfl (.tmp 19) (.tmp 20) rfl w1.heap.size _ [] rfl (OE.none w1 _ (Nat.le_refl _)) (fun y hy => by cases hy) xs es.length hxl p cp (HEAL.out.up HBE.out) (fun y hy w' k => HPX.out y hy w' (hbe.trans k)) hp0 rfl (by simp; omega) (by simp) ?_; intro v2 w2 hO2 hb2
       have hb12 : Below w1.heap.size w1 w2 := hbe.trans hb2
       obtain ⟨x0, x1, x2, x3, a0, a1, lt2⟩ := HX.out.up hb12 hlt1
       have hz2 := hb12.size
       have hbz := (Below.refl w2.heap.size w2).alloc (Nat.le_refl _) (.cells #[.string x.e.u.t, .string x.e.u.i, .slice x.pu x.e.up.length x.cu, .slice x.pa x.e.nd.length x.ca] 36)
       have HE2 : Hid (EV w2 x.v x.e) := HEV.out.up (HB.out.trans (hb12.mono hw1))
       have HO2 : Hid (OE w2 w1.heap.size v2 xs) := hO2
       clear hO2)
    | (at_builtin; refine append_ents _ rfl (.tmp 22) (.tmp 24) rfl w1.heap.size _ xs rfl (HO2.out.below hbz) (fun y hy w' k => HPX.out y hy w' ((hb12.trans (hbz.mono hz2)).trans k)) [x] 1 rfl (some ⟨w2.heap.size, 0, none⟩) 1 (EAL.one w2 x HE2.out) (fun y hy w' k => by
         rw [List.mem_singleton.1 hy]
         exact HEV.out.up (HB.out.trans ((((hb12.trans (hbz.mono hz2)).trans k)).mono hw1))) (fun h => by cases h) rfl (by simp; omega) (by simp; omega) ?_; intro v3 w3 hO3 hb3
       have hb13 : Below w1.heap.size w1 w3 := (hb12.trans (hbz.mono hz2)).trans hb3
       obtain ⟨q3, c3, e3, hE3, hc31, hc32⟩ := hO3.slice
       obtain ⟨fs, hfs⟩ : ∃ fs, es ++ [x.e] = fs := ⟨_, rfl⟩
       have hE3' := hE3.ents
       rw [List.map_append, HXS.out, List.map_singleton, hfs] at hE3'
       have hlen3 : (xs ++ [x]).length = fs.length := by rw [← hfs]; simp [hxl]
       rw [hlen3] at e3
       have HE3 : Hid (EL w3 q3 fs) := hE3'
       have HFS : Hid (es ++ [x.e] = fs) := hfs
       have HB3 : Hid (Below w.heap.size w w3) := HB.out.trans (hb13.mono hw1)
       have HX3 : Hid (BoxL w3 w.heap.size x a) := HX.out.up hb13 hlt1
       subst e3
       clear hE3 hE3' hO3 x0 x1 x2 x3 a0 a1 hfs hlen3 hc31 hb3 HO2 HE2 hbz))
  clear hb2 hb12 hb13 hbe HBE HPX HEAL HXS hxl HX HB lt2 hz2 hlt1 hw1
  refine (entCheck_any es p cp _ (HL.out.up HB3.out)).mono ?_
  rintro e w4 ⟨rfl, k4⟩
  replace HB3 : Hid (Below w.heap.size w w4) := bL HB3.out k4
  replace HX3 : Hid (BoxL w4 w.heap.size x a) := HX3.out.up k4 HX3.out.lt
  replace HE3 : Hid (EL w4 q3 fs) := HE3.out.up k4
  clear k4
  by_cases h0 : sfault es = 0
  · have H0 : Hid (_ = _) := h0
    rw [eV_nil h0]
    clear h0
    go_wp2_with fail
    refine (entCheck_any fs q3 c3 _ HE3.out).mono ?_
    rintro e w5 ⟨rfl, k5⟩
    replace HB3 : Hid (Below w.heap.size w w5) := bL HB3.out k5
    replace HX3 : Hid (BoxL w5 w.heap.size x a) := HX3.out.up k5 HX3.out.lt
    replace HE3 : Hid (EL w5 q3 fs) := HE3.out.up k5
    clear k5
    by_cases h1 : sfault fs = 0
    · have H1 : Hid (_ = _) := h1
      rw [eV_nil h1]
      clear h1
      obtain ⟨x0, x1, x2, x3, a0, a1, lt5⟩ := HX3.out
      by_cases hax : a = x.e.u
      · rw [← hax] at x0 x1
        go_wp2_with fail
        go_ret
        exact ⟨rfl, HB3.out⟩
      · have HAX : Hid (a ≠ x.e.u) := hax
        have hcase : (¬ a.t.toList = x.e.u.t.toList) ∨ (a.t.toList = x.e.u.t.toList ∧ ¬ a.i.toList = x.e.u.i.toList) := by
          by_cases ht : a.t = x.e.u.t
          · exact .inr ⟨by rw [ht], toList_ne (fun q => hax (Ui.ext' ht q))⟩
          · exact .inl (toList_ne ht)
        clear hax
        rcases hcase with ht | ⟨ht, hi⟩
        all_goals
          go_wp2_with fail
          first
            | clear ht hi
            | clear ht
          clear x0 x1 x2 x3 a0 a1 lt5
          go_loopw [9] (fun iv wr => ∃ i : Nat, i ≤ es.length ∧ iv = .int .i64 i ∧ Hid (∀ e ∈ es.take i, x.e.u ∉ e.up) ∧ Hid (Below w5.heap.size w5 wr)) (fun iv _ => es.length - (intOf iv).toNat)
          case atStart => exact ⟨0, Nat.zero_le _, rfl, fun e he => (by simp at he), Below.refl _ _⟩
          case round =>
            obtain ⟨i, hi, rfl, HN, HBW⟩ := hrel
            by_cases hlt : i < es.length
            · have i1 : (i : Int) < (es.length : Int) := by omega
              obtain ⟨b, off, pu, cu, pa, ca, rfl, hbl, _, hUL, _, _, _, hu1, hu2, _, _, _, _, g2, _⟩ := (HL.out.up HB3.out).at hlt
              unfold maxLen at hu2
              have HC2 : Hid (∀ v, Below w5.heap.size w5 v → v.cell? ⟨b, off + i * 4 + 2, none⟩ = some (.slice pu es[i].up.length cu)) := fun v h => (h.cell (p := ⟨b, off + i * 4 + 2, none⟩) hbl).trans g2
              have HUL : Hid (UL w5 pu es[i].up) := hUL
              have HT : Hid (∀ e ∈ es.take (i + 1), e ∈ es.take i ∨ e = es[i]) := fun e he => by
                rw [List.take_succ_eq_append_getElem hlt] at he
                rcases List.mem_append.1 he with h | h
                · exact .inl h
                · exact .inr (List.mem_singleton.1 h)
              generalize es[i] = y at *
              clear g2 hUL
              go_wp2_with fail
              go_loopw [10] (fun kv wr => ∃ k : Nat, k ≤ y.up.length ∧ kv = .int .i64 k ∧ Hid (x.e.u ∉ y.up.take k) ∧ Hid (Below w5.heap.size w5 wr)) (fun kv _ => y.up.length - (intOf kv).toNat)
              case atStart => exact ⟨0, Nat.zero_le _, rfl, (by simp [Hid]), HBW⟩
              case round =>
                obtain ⟨k, hk, rfl, HNK, HBW⟩ := hrel
                have d2 := HC2.out _ HBW.out
                by_cases hlt2 : k < y.up.length
                · have i2 : (k : Int) < (y.up.length : Int) := by omega
                  obtain ⟨bl, ol, rfl, hbl2, z0, z1⟩ := (HUL.out.up HBW.out).at hlt2
                  obtain ⟨x0, x1, _, _, _, _, _⟩ := HX3.out.up HBW.out HX3.out.lt
                  have HTK : Hid (y.up.take (k + 1) = y.up.take k ++ [y.up[k]]) := List.take_succ_eq_append_getElem hlt2
                  generalize y.up[k] = u at z0 z1 HTK
                  rcases uid_cases u x.e.u with heq | ⟨hne, ht⟩ | ⟨hne, ii, heq, ht⟩
                  · rw [heq] at z0 z1
                    go_wp2_with fail
                    go_quiet (fail)
                    go_wp2_with fail
                    go_ret
                    exact ⟨rfl, HB3.out.trans ((belN HBW.out _).mono HB3.out.size)⟩
                  · have HN2 : Hid (x.e.u ∉ y.up.take (k + 1)) := by
                      show _ ∉ _
                      rw [HTK.out]
                      intro q
                      rcases List.mem_append.1 q with q | q
                      · exact HNK.out q
                      · exact hne (List.mem_singleton.1 q).symm
                    clear hne
                    go_wp2_with fail
                    go_quiet (fail)
                    go_wp2_with fail
                    go_roundw
                    case rel => exact ⟨k + 1, by omega, by go_num, HN2, belN HBW.out _⟩
                    case measure => simp [intOf]; omega
                  · have HN2 : Hid (x.e.u ∉ y.up.take (k + 1)) := by
                      show _ ∉ _
                      rw [HTK.out]
                      intro q
                      rcases List.mem_append.1 q with q | q
                      · exact HNK.out q
                      · exact hne (List.mem_singleton.1 q).symm
                    rw [heq] at z0 z1
                    simp only at z0 z1
                    clear hne heq
                    go_wp2_with fail
                    go_quiet (fail)
                    go_wp2_with fail
                    go_roundw
                    case rel => exact ⟨k + 1, by omega, by go_num, HN2, belN HBW.out _⟩
                    case measure => simp [intOf]; omega
                · obtain rfl : k = y.up.length := by omega
                  have i2 : ¬ (y.up.length : Int) < (y.up.length : Int) := by omega
                  have HN2 : Hid (∀ e ∈ es.take (i + 1), x.e.u ∉ e.up) := by
                    intro e he
                    rcases HT.out e he with h | rfl
                    · exact HN.out e h
                    · have h := HNK.out; rw [List.take_length] at h; exact h
                  go_wp2_with fail
                  go_roundw
                  case rel => exact ⟨i + 1, by omega, by go_num, HN2, HBW⟩
                  case measure => simp [intOf]; omega
            · obtain rfl : i = es.length := by omega
              have i1 : ¬ (es.length : Int) < (es.length : Int) := by omega
              have HNN : Hid (∀ e ∈ es, x.e.u ∉ e.up) := by have h := HN.out; rw [List.take_length] at h; exact h
              have HB6 : Hid (Below w.heap.size w wr) := bL HB3.out HBW.out
              obtain ⟨_, _, _, _, a0, a1, lt6⟩ := HX3.out.up HBW.out HX3.out.lt
              have HX6 : Hid (BoxL wr w.heap.size x a) := HX3.out.up HBW.out HX3.out.lt
              have HE6 : Hid (EL wr q3 fs) := HE3.out.up HBW.out
              clear HN
              go_wp2_with fail
              refine (above_ok es p cp a _ (HL.out.up HB6.out) ha H0.out).mono ?_
              rintro e w7 ⟨q, c', l, rfl, hUL, hI, hl1, hl2, k7⟩
              have HUL : Hid (UL w7 q l) := hUL
              have HI : Hid (IsAbove es a l) := hI
              have HB7 : Hid (Below w.heap.size w w7) := bL HB6.out k7
              obtain ⟨_, _, _, _, a0, a1, lt7⟩ := HX6.out.up k7 lt6
              have HE7 : Hid (EL w7 q3 fs) := HE6.out.up k7
              clear hUL hI k7
              go_wp2_with fail
              refine (above_ok fs q3 c3 a _ HE7.out ha H1.out).mono ?_
              rintro e w8 ⟨q', c'', l', rfl, hUL', hI', hl1', hl2', k8⟩
              have HUQ : Hid (∀ e ∈ es, e.u ≠ x.e.u) := by
                intro e he
                have h := (sfault_zero H1.out).uniq
                unfold Uniq at h
                rw [← HFS.out, List.pairwise_append] at h
                exact h.2.2 e he x.e (by simp)
              have HLL : Hid (l = l') := HI.out.one hI' (fun b => by rw [← HFS.out]; exact (abv_leaf HUQ.out HNN.out HAX.out).symm)
              have HUL8 : Hid (UL w8 q l) := HUL.out.up k8
              have HB8 : Hid (Below w.heap.size w w8) := bL HB7.out k8
              obtain rfl := HLL.out
              have HUL8' : Hid (UL w8 q' l) := hUL'
              clear hUL' hI' k8 HLL
              go_wp2_with fail
              refine (sameUids_any l q q' c' c'' _ HUL8.out HUL8'.out (Nat.le_trans hl1 hl2)).mono ?_
              rintro e w9 ⟨rfl, n9, rfl⟩
              go_wp2_with fail
              go_ret
              exact ⟨rfl, belN HB8.out _⟩
    · have HE : Hid (eV (sfault fs) = .iface 58 (.int .i64 (sfault fs))) := eV_not h1
      rw [HE.out]
      clear h1
      go_wp2_with fail
      go_ret
      exact ⟨rfl, HB3.out⟩
  · have HE : Hid (eV (sfault es) = .iface 58 (.int .i64 (sfault es))) := eV_not h0
    rw [HE.out]
    clear h0
    go_wp2_with fail
    go_ret
    exact ⟨rfl, HB3.out⟩
end Go.Proofs.Ytkpbholhempmmaa
