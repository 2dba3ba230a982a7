/- ValFields: the walk of the statement's own function. -/
import Derived.Test.YthmfgnofhbmogabRecOf
import Derived.Test.YthmfgnofhbmogabRecV
import Derived.Test.YthmfgnofhbmogabTextsArg
import Derived.Test.YthmfgnofhbmogabNum1
import Derived.Test.YthmfgnofhbmogabSame
namespace Go.Proofs.Ythmfgnofhbmogab
open Go.RowKit
set_option linter.unusedVariables false

def nA : ByteArray := ⟨#[97]⟩
def nB : ByteArray := ⟨#[98]⟩
def numL (n : Int) : List Nd := [⟨2, n, ⟨#[]⟩, ⟨#[]⟩⟩]
theorem fact_ok : rfault [] ([nB, nA].zip [numL 1, numL 2]) = 0 := by decide
theorem fact_rec : recS ([nB, nA].zip [numL 1, numL 2]) = [(nA, numL 2), (nB, numL 1)] := rfl

/-- RecOf where nothing is wrong, and the record has room. -/
theorem recOf_fits (names : List ByteArray) (vs : List (List Nd)) (S : List Fd) (hS : recS (names.zip vs) = S) (p q : Option Addr) (c d : Nat) (w : World) (hn : TL w p names) (hv : LL w q vs) (hl : names.length = vs.length) (hsz : ∀ t ∈ names, t.size ≤ maxLen) (hle : names.length ≤ 4294967296) (h : rfault [] (names.zip vs) = 0) (hfit : (recN S).length ≤ 200) :
    Calls Try.prog 4 #[.slice p names.length c, .slice q vs.length d] w fun e w' => (∃ q c', e = .returned (.tuple #[.slice q (recN S).length c', .nilIface]) ∧ NL w' q (recN S) ∧ (recN S).length ≤ c' ∧ c' ≤ maxLen) ∧ Below w.heap.size w w' := by
  subst hS
  have H := recOf_ok names vs p q c d w hn hv hl hsz hle h
  simp only [RecRetV, if_pos hfit] at H
  exact H

theorem LL.pair {w : World} {a b : List Nd} {p q : Option Addr} (ha : NL w p a) (hb : NL w q b) (la : a.length ≤ maxLen) (lb : b.length ≤ maxLen) :
    LL (w.alloc (.cells #[.slice p a.length a.length, .slice q b.length b.length] 24)) (some ⟨w.heap.size, 0, none⟩) [a, b] := by
  have hb' : Below w.heap.size w (w.alloc (.cells #[.slice p a.length a.length, .slice q b.length b.length] 24)) := (Below.refl _ _).alloc (Nat.le_refl _) _
  refine .inr ⟨w.heap.size, 0, rfl, by simp, fun i v hi => ?_⟩
  match i, hi with
  | 0, hi => simp at hi; subst hi; exact ⟨p, a.length, by simp [go_sem], ha.up hb', Nat.le_refl _, la⟩
  | 1, hi => simp at hi; subst hi; exact ⟨q, b.length, by simp [go_sem], hb.up hb', Nat.le_refl _, lb⟩
  | i + 2, hi => simp at hi
theorem TL.pair (w : World) (a b : ByteArray) : TL (w.alloc (.cells #[.string a, .string b] 9)) (some ⟨w.heap.size, 0, none⟩) [a, b] := by
  refine .inr ⟨w.heap.size, 0, rfl, by simp, fun i v hi => ?_⟩
  match i, hi with
  | 0, hi => simp at hi; subst hi; simp [go_sem]
  | 1, hi => simp at hi; subst hi; simp [go_sem]
  | i + 2, hi => simp at hi

theorem zip_rev {l : List ByteArray} {m : List (List Nd)} (h : l.length = m.length) : l.reverse.zip m.reverse = (l.zip m).reverse := by
  rw [List.zip_eq_zipWith, List.zip_eq_zipWith, List.reverse_zipWith h]

set_option maxRecDepth 100000 in
set_option maxHeartbeats 1000000 in
theorem vfields_walk (names : List ByteArray) (vs : List (List Nd)) (p q : Option Addr) (c d : Nat) (w : World) (hn : TL w p names) (hv : LL w q vs) (hsz : ∀ t ∈ names, t.size ≤ maxLen) (hl1 : names.length ≤ 1048576) (hl2 : vs.length ≤ 1048576) :
    Calls Try.prog 3 #[.slice p names.length c, .slice q vs.length d] w fun e w' => e = .returned (.bool true) ∧ Below w.heap.size w w' := by
  go_enter Try.func3, Try.ntmps3
  go_wp2_with fail
  have hT0 : TL (w.alloc (.cells #[.string ⟨#[98]⟩, .string ⟨#[97]⟩] 9)) (some ⟨w.heap.size, 0, none⟩) [nB, nA] := TL.pair w nB nA
  have k0 : Below w.heap.size w (w.alloc (.cells #[.string ⟨#[98]⟩, .string ⟨#[97]⟩] 9)) := (Below.refl _ _).alloc (Nat.le_refl _) _
  generalize w.alloc (.cells #[.string ⟨#[98]⟩, .string ⟨#[97]⟩] 9) = w0 at *
  refine (num1_any 1 (by decide) _).mono ?_
  rintro e w1 ⟨⟨p5, rfl, h5⟩, k1'⟩
  have k1 := below2 k0 k1'
  go_wp2_with fail
  refine (num1_any 2 (by decide) _).mono ?_
  rintro e w2 ⟨⟨p6, rfl, h6⟩, k2'⟩
  have k2 := below2 k1 k2'
  have k2a := k2.alloc k2.size (.cells #[Value.slice p5 (numL 1).length (numL 1).length, Value.slice p6 (numL 2).length (numL 2).length] 24)
  have HF := recOf_fits [nB, nA] [numL 1, numL 2] [(nA, numL 2), (nB, numL 1)] fact_rec (some ⟨w.heap.size, 0, none⟩) (some ⟨w2.heap.size, 0, none⟩) 2 2 _ (((hT0.up k1').up k2').up ((Below.refl _ w2).alloc (Nat.le_refl _) _)) (LL.pair (a := numL 1) (b := numL 2) (h5.up k2') h6 (by decide) (by decide)) rfl (by intro t ht; simp at ht; rcases ht with rfl | rfl <;> decide) (by decide) fact_ok (by decide)
  go_wp2_with fail
  refine HF.mono ?_
  rintro e w3 ⟨⟨qf, cf, rfl, hf, _, _⟩, k3'⟩
  have k3 := k2a.trans (k3'.mono k2a.size)
  have hf' : NL w3 qf [⟨6, 2, ⟨#[]⟩, ⟨#[]⟩⟩, ⟨7, 0, nA, ⟨#[]⟩⟩, ⟨2, 2, ⟨#[]⟩, ⟨#[]⟩⟩, ⟨7, 0, nB, ⟨#[]⟩⟩, ⟨2, 1, ⟨#[]⟩, ⟨#[]⟩⟩] := hf
  obtain ⟨fb, fo, rfl, hfb, f0, f1, f2, f3, _⟩ := hf'.at (i := 1) (by decide)
  simp at f0 f1 f2 f3
  have hA : nA.toList = [97] := by rw [ByteArray.toList_eq]; rfl
  rw [show (recN [(nA, numL 2), (nB, numL 1)]).length = 5 from rfl]
  clear HF hf hf' k2a k3' k2 k2' k1 k1' k0 h5 h6 hT0
  by_cases hl : names.length = vs.length
  · by_cases h : rfault [] (names.zip vs) = 0
    · by_cases hfit : (recN (recS (names.zip vs))).length ≤ 200
      · have H1 := recOf_fits names vs _ rfl p q c d w3 (hn.up k3) (hv.up k3) hl hsz (by omega) h hfit
        obtain ⟨hok, _, hnd⟩ := (rfault_zero [] _).1 h
        have hzl : (names.zip vs).length = names.length := by simp [hl]
        have hSp := perm_recS (names.zip vs)
        have hSs := strict_recS (names.zip vs) hnd
        have HRV : Hid (rfault [] (names.reverse.zip vs.reverse) = 0) := by
          show _ = _
          rw [zip_rev hl, rfault_zero]
          refine ⟨fun pr hpr => hok pr (List.mem_reverse.1 hpr), by simp, ?_⟩
          rw [List.map_reverse]
          exact List.pairwise_reverse.2 (hnd.imp Ne.symm)
        have HRS : Hid (recS (names.reverse.zip vs.reverse) = recS (names.zip vs)) := by
          show _ = _
          refine (recS_is ?_ hSs (fun x => ?_)).symm
          · rw [zip_rev hl, List.map_reverse]; exact List.pairwise_reverse.2 (hnd.imp Ne.symm)
          · rw [zip_rev hl, List.mem_reverse]; exact hSp.mem_iff
        have HMEM : Hid (∀ (i : Nat) (h1 : i < names.length) (h2 : i < vs.length), (names[i], vs[i]) ∈ recS (names.zip vs)) := fun i h1 h2 => by
          rw [hSp.mem_iff, ← List.getElem_zip (h := by rw [hzl]; exact h1)]
          exact List.getElem_mem _
        have HOK : Hid (∀ pr ∈ recS (names.zip vs), nfault pr.1.data.toList = 0 ∧ vfault pr.2 = 0) := fun pr hpr => hok pr (hSp.mem_iff.1 hpr)
        have HSS : Hid (RStrict (recS (names.zip vs))) := hSs
        have HL : Hid (names.length = vs.length) := hl
        have HSZ : Hid (∀ t ∈ names, t.size ≤ maxLen) := hsz
        have i0 : ((names.length : Int) != (vs.length : Int)) = false := by simp [hl]
        clear hok hnd hzl hSp hSs h hl hsz
        generalize recS (names.zip vs) = S at *
        have hrv : vfault (recN S) = 0 := recN_value HSS.out HOK.out hfit
        go_wp2_with fail
        refine H1.mono ?_
        rintro e w4 ⟨⟨qr, cr, rfl, hr, hrc, hrm⟩, k4'⟩
        have k4 := below2 k3 k4'
        obtain ⟨rb, ro, rfl, hrb, _⟩ := (show NL w4 qr (⟨6, S.length, ⟨#[]⟩, ⟨#[]⟩⟩ :: (S.map itemOf).flatten) from hr).head
        have HK := vcheck_any (recN S) (some ⟨rb, ro, none⟩) cr w4 hr hrc hrm
        rw [eV_nil hrv] at HK
        have HG : ∀ w' (fld : ByteArray) (v : List Nd), (fld, v) ∈ S → Below w4.heap.size w4 w' → Calls Try.prog 7 #[.slice (some ⟨rb, ro, none⟩) (recN S).length cr, .string fld] w' fun e w'' => (∃ q c', e = .returned (.tuple #[.slice q v.length c', .nilIface]) ∧ NL w'' q v ∧ v.length ≤ c' ∧ c' ≤ maxLen) ∧ Below w'.heap.size w' w'' := fun w' fld v hm hb' => by
          have := get_ok (recN S).length ⟨6, S.length, ⟨#[]⟩, ⟨#[]⟩⟩ (S.map itemOf).flatten (S.map itemOf) (items_segs _ S (fun pr hpr => (HOK.out pr hpr).2) (fun pr hpr => by have := mem_fsize hpr; rw [recN_length]; omega)) rb ro cr fld w' (hr.up hb') hrc hrm hrv rfl
          rw [findS_item HSS.out hm] at this
          exact this
        have hRm : (recN S).length ≤ maxLen := Nat.le_trans hrc hrm
        have HN : ∀ q1 c1 w', NL w' q1 (recN S) → NL w' (some ⟨rb, ro, none⟩) (recN S) → _ := fun q1 c1 w' h1 h2 => sameNodes_any (recN S) (recN S) q1 (some ⟨rb, ro, none⟩) c1 cr w' h1 h2 hRm hRm
        rw [(sameNd_iff _ _).2 rfl] at HN
        have HB := fun p q c d w' (h1 : TL w' p names.reverse) (h2 : LL w' q vs.reverse) => recOf_fits names.reverse vs.reverse S HRS.out p q c d w' h1 h2 (by simp [HL.out]) (fun t ht => HSZ.out t (List.mem_reverse.1 ht)) (by simp; omega) HRV.out hfit
        have HR : Hid (NL w4 (some ⟨rb, ro, none⟩) (recN S)) := hr
        clear H1 hr hrv
        go_wp2_with fail
        refine HK.mono ?_
        rintro e w5 ⟨rfl, k5'⟩
        have hnv5 := hn.up (below2 k4 k5')
        have hv5 := hv.up (below2 k4 k5')
        have k5 := below2 k4 k5'
        have HN5 : Hid (TL w5 p names) := hnv5
        have HV5 : Hid (LL w5 q vs) := hv5
        have HR5 : Hid (NL w5 (some ⟨rb, ro, none⟩) (recN S)) := HR.out.up k5'
        have hk45 := k5'
        clear hnv5 hv5 hn hv k3 k4' k5' HK
        go_wp2
        go_loopw [9, 10, 11] (fun bv ov i wr => ∃ m : Nat, m ≤ names.length ∧ i = .int .i64 ((m : Int) - 1) ∧ Hid (OT wr w5.heap.size bv (names.drop m).reverse) ∧ Hid (OL wr w5.heap.size ov (vs.drop m).reverse) ∧ Below w5.heap.size w5 wr) (fun _ _ i _ => (intOf i + 1).toNat)
        case atStart =>
          refine ⟨names.length, Nat.le_refl _, by go_num, ?_, ?_, Below.refl _ _⟩
          · show OT _ _ _ _
            rw [List.drop_length]; exact Row1.nil _ _ _
          · show OL _ _ _ _
            rw [HL.out, List.drop_length]; exact OL.nil _ _
        case round =>
          obtain ⟨m, hm, rfl, HOT, HOL, hbr⟩ := hrel
          rcases m with _ | m
          · rw [List.drop_zero] at HOT HOL
            obtain ⟨bq, bc, rfl, hbt, _, _⟩ := HOT.out.texts
            obtain ⟨oq, oc, rfl, hot, _, _⟩ := HOL.out.lists
            have HB1 := HB bq oq bc oc wr hbt hot
            have HR6 : Hid (NL wr (some ⟨rb, ro, none⟩) (recN S)) := HR5.out.up hbr
            have hcr : names.reverse.length = names.length := List.length_reverse
            have hcv : vs.reverse.length = vs.length := List.length_reverse
            rw [hcr, hcv] at HB1 ⊢
            clear hcr hcv hbt hot HB HG HOT HOL
            generalize recN S = R at *
            go_wp2_with fail
            refine HB1.mono ?_
            rintro e w6 ⟨⟨qz, cz, rfl, hz, _, _⟩, k6⟩
            go_wp2_with fail
            refine (HN qz cz w6 hz (HR6.out.up k6)).mono ?_
            rintro e w7 ⟨rfl, n7, rfl⟩
            have k7 : Below w.heap.size w (w6.drewN n7) := below_n (k5.trans ((hbr.trans (k6.mono hbr.size)).mono k5.size)) n7
            go_wp2
            go_ret
            exact ⟨rfl, k7⟩
          · have hlt : m < names.length := by omega
            have hlt2 : m < vs.length := by rw [← HL.out]; exact hlt
            have i1 : (m : Int) < (names.length : Int) := by omega
            have i2 : (m : Int) < (vs.length : Int) := by omega
            obtain ⟨nb, no, hp, hnb, nc⟩ := HN5.out.at hlt
            obtain ⟨vb, vo, q', c', hq, hvb, vc, hnl, h1, h2⟩ := HV5.out.at hlt2
            have hmem := HMEM.out m hlt hlt2
            have HD1 : Hid ((names.drop m).reverse = (names.drop (m + 1)).reverse ++ [names[m]]) := by
              show _ = _
              rw [List.drop_eq_getElem_cons hlt, List.reverse_cons]
            have HD2 : Hid ((vs.drop m).reverse = (vs.drop (m + 1)).reverse ++ [vs[m]]) := by
              show _ = _
              rw [List.drop_eq_getElem_cons hlt2, List.reverse_cons]
            have hBl : ((names.drop (m + 1)).reverse).length ≤ 1048576 := by simp; omega
            have hOl : ((vs.drop (m + 1)).reverse).length ≤ 1048576 := by simp; omega
            generalize names[m] = s at *
            generalize vs[m] = v at *
            generalize (names.drop (m + 1)).reverse = Bk at *
            generalize (vs.drop (m + 1)).reverse = Ot at *
            subst hp hq
            have nc' := (hbr.cell (p := ⟨nb, no + m, none⟩) hnb).trans nc
            have vc' := (hbr.cell (p := ⟨vb, vo + m, none⟩) hvb).trans vc
            have HG1 := HG wr s v hmem (hk45.trans (hbr.mono hk45.size))
            rw [show (((m + 1 : Nat) : Int) - 1) = (m : Int) by omega]
            have hvm : v.length ≤ maxLen := Nat.le_trans h1 h2
            go_wp2_with fail
            refine HG1.mono ?_
            rintro e w6 ⟨⟨q6, c6, rfl, hx6, _, _⟩, k6⟩
            have k56 := hbr.trans (k6.mono hbr.size)
            have hN6 := sameNodes_any v v q6 q' c6 c' w6 hx6 (hnl.up k56) hvm hvm
            rw [(sameNd_iff v v).2 rfl] at hN6
            have nc6 := (k56.cell (p := ⟨nb, no + m, none⟩) hnb).trans nc
            have vc6 := (k56.cell (p := ⟨vb, vo + m, none⟩) hvb).trans vc
            go_wp2_with fail
            refine hN6.mono ?_
            rintro e w7 ⟨rfl, n7, rfl⟩
            have k67 : Below w6.heap.size w6 (w6.drewN n7) := below_n (Below.refl _ _) n7
            have k57 := k56.trans (k67.mono k56.size)
            have kr7 := below2 k6 k67
            have HOT7 : Hid (OT (w6.drewN n7) w5.heap.size u9 Bk) := Row1.kept (e := 109) HOT.out (Kept.of_below kr7 hbr.size) (by decide)
            have HOL7 : Hid (OL (w6.drewN n7) w5.heap.size u10 Ot) := HOL.out.below kr7 hbr.size
            have nc7 := (k57.cell (p := ⟨nb, no + m, none⟩) hnb).trans nc
            have vc7 := (k57.cell (p := ⟨vb, vo + m, none⟩) hvb).trans vc
            have HNT : Hid (NT w5 w5.heap.size q' v) := NT.old hnl rfl
            have vc5 := vc
            clear nc vc nc' vc' nc6 vc6 hN6 HOT HOL hx6 hnl HG1 k67 kr7
            generalize w6.drewN n7 = w7 at *
            go_wp2_with (first
              | (at_builtin; refine append_text w7 rfl (.tmp 85) (.tmp 90) rfl w5.heap.size u9 Bk rfl HOT7.out s rfl (by omega) k57.size ?_; intro v8 w8 hot8 hk8; have k58 := k57.trans hk8.bel; have vc8 := (k58.cell (p := ⟨vb, vo + m, none⟩) hvb).trans vc5; have HOT8 : Hid (OT w8 w5.heap.size v8 (Bk ++ [s])) := hot8; have HOL8 : Hid (OL w8 w5.heap.size u10 Ot) := HOL7.out.kept hk8 (by decide) (by decide); have HN8 : Hid (NT w8 w5.heap.size q' v) := HNT.out.kept (e := 109) (Kept.mk k58 (fun b f _ ht => k58.block b ht.lt)) (by decide); clear hot8)
              | (at_builtin; refine append_list w8 rfl (.tmp 92) (.tmp 97) rfl w5.heap.size u10 Ot rfl HOL8.out v q' c' HN8.out h1 h2 rfl (by omega) k58.size ?_; intro v9 w9 hol9 hk9; have HOT9 : Hid (OT w9 w5.heap.size v8 (Bk ++ [s])) := Row1.kept HOT8.out hk9 (by decide); have k59 := k58.trans hk9.bel))
            go_roundw
            case rel => exact ⟨m, by omega, by go_num, (by rw [HD1.out]; exact HOT9.out), (by rw [HD2.out]; exact hol9), k59⟩
            case measure => simp [intOf]
      · have H1 := recOf_ok names vs p q c d w3 (hn.up k3) (hv.up k3) hl hsz (by omega) h
        simp only [RecRetV, if_neg hfit] at H1
        rw [eV_not (by decide : (4 : Int) ≠ 0)] at H1
        clear hl hfit h
        go_wp2_with fail
        refine H1.mono ?_
        rintro e w4 ⟨rfl, k4'⟩
        have k4 := below2 k3 k4'
        go_wp2
        go_ret
        exact ⟨rfl, k4⟩
    · have H1 := recOf_bad names vs p q c d w3 (hn.up k3) (hv.up k3) hl hsz (by omega) h
      rw [eV_not h] at H1
      clear hl
      go_wp2_with fail
      refine H1.mono ?_
      rintro e w4 ⟨rfl, k4'⟩
      have k4 := below2 k3 k4'
      go_wp2
      go_ret
      exact ⟨rfl, k4⟩
  · have H1 := recOf_len names.length vs.length p q c d w3 hl (by unfold maxLen; omega) (by unfold maxLen; omega)
    rw [eV_not (by decide : (1 : Int) ≠ 0)] at H1
    clear hl
    go_wp2_with fail
    refine H1.mono ?_
    rintro e w4 ⟨rfl, rfl⟩
    go_wp2
    go_ret
    exact ⟨rfl, k3⟩
end Go.Proofs.Ythmfgnofhbmogab
