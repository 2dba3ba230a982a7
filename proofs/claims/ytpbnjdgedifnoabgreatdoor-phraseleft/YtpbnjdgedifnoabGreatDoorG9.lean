/- Package phrase's reader: record, atom; all forms. Package phrase's readLine: what is thrown is caught. Package phrase's readLine. Package word's walk and Read: what is thrown is caught; what is told of every line. Package word's write and spellOne, by walks of their own texts. Package word's Spell, by a walk of its own text. Package phrase's Parse: what is told of every list of words. Literals of nodes in the statements of chapter 9; the statements' num; two lists of nodes that are the same; how Parse ends, of any words. What the statements' walks of chapter 9 have in common: the brackets' words, how Parse ends where it is right. PhraseLeft: the walk of the statement's own function. A list of words that is handed in: what it reads as, and that its texts are within the reach. What a row's list of seven variables gives a walk (strconv.ErrRange's variable, strconv's powers of ten), and a memory that meets the list: common to this seat's proofs. -/
import Derived.Test.YtpbnjdgedifnoabGreatDoorG8
import Derived.Defers
import Derived.Recover
import Derived.Laws.Pointers
import Derived.Deep.RegionHeld
import Derived.Test.YtpbnjdgedifnoabGreatDoorG5
import Derived.Test.YtpbnjdgedifnoabGreatDoorG1
import Derived.Test.YtpbnjdgedifnoabGreatDoorG7
import Derived.Laws.StructEq
import Derived.Lib.AppendStr
import Derived.Test.YtpbnjdgedifnoabGreatDoorG6
import Derived.Test.YtpbnjdgedifnoabGreatDoorG3
import Derived.Test.YtpbnjdgedifnoabGreatDoorG4
import Derived.Test.YtpbnjdgedifnoabGreatDoorRows
import Derived.ProofKit
import Derived.OpenShut
import Derived.ShutString
import Derived.ChangeOld
import Derived.SizedLaws
import Derived.Deep.Slices
import Derived.Test.YtpbnjdgedifnoabGreatDoorCards
import Derived.Test.YtpbnjdgedifnoabGreatDoorTie
import Derived.Deep.DeepHandedRow
import Derived.LaidLaws
import Derived.LaidHandle
import Derived.MakeChecks
import Derived.Stop.LaidErr
import Derived.Lib.LaidTab
namespace Go.Proofs.YtpbnjdgedifnoabGreatDoor
open Go.RowKit
set_option linter.unusedVariables false
set_option linter.unusedSimpArgs false
set_option maxRecDepth 100000

/-- A node with all the parts of a list behind it. -/
theorem joinAll (op : Int) (vs : List (List Nd)) (q : Option Addr) (cc : Nat) (w : World) (hv : LL w q vs) (hne : ∀ u ∈ vs, u ≠ []) (hl : vs.flatten.length ≤ 300) (hc : vs.length ≤ 300) :
    Calls Tryz.prog 32 #[.agg #[.int .i64 op, .int .i64 (vs.length : Int), .string ⟨#[]⟩, .string ⟨#[]⟩], .slice q vs.length cc] w fun e w' => Made w (mkN op vs.length [] [] :: vs.flatten) e w' := by
  refine (join_any (mkN op vs.length [] []) vs q cc w ⟨Nat.zero_le _, Nat.zero_le _, by show (vs.length : Int) ≤ _; omega⟩ hv hne (by omega) (by omega)).mono ?_
  rintro e w' ⟨⟨q', c', rfl, h1, h2, h3⟩, hb⟩
  exact ⟨⟨q', c', rfl, h1, h2, h3⟩, hb⟩
theorem LL.bx {w w' : World} {q : Option Addr} {vs : List (List Nd)} (h : LL w q vs) (hb : Below w.heap.size w w') : LL w' q vs := h.up hb

set_option maxHeartbeats 2000000 in
theorem record_any (n : Nat) (B : Nat) (p : Option Addr) (c : Nat) (ts : List Tk) (ih : AllR n B p c ts) (w : World) (k : Nat) (res : PRes) (h : RS w B p c ts k) (hne : ts ≠ []) (hres : RecI n res [] [] (ts.drop k)) :
    Calls Tryz.prog 160 #[.pointer (some ⟨B, 0, none⟩)] w fun e w' => EndP B p c ts w res e w' := by
  have hmf : ∀ (fn : Fn) (first cap : Array Value) (w : World), (Instr.makeFunc fn first cap).run Tryz.prog w = .ok (.func fn first cap) w := fun _ _ _ _ => rfl
  have hbA : Below w.heap.size w ((w.alloc (.cells #[.pointer (some ⟨B, 0, none⟩)] 54)).alloc (.cells #[.string ⟨#[]⟩] 9)) := ((Below.refl _ _).alloc (Nat.le_refl _) _).alloc (by simp) _
  have hf : FS ((w.alloc (.cells #[.pointer (some ⟨B, 0, none⟩)] 54)).alloc (.cells #[.string ⟨#[]⟩] 9)) B w.heap.size (w.heap.size + 1) ⟨#[]⟩ := by
    refine ⟨?_, ?_⟩
    · have h1 : (w.alloc (.cells #[.pointer (some ⟨B, 0, none⟩)] 54)).heap[w.heap.size]? = some (.cells #[.pointer (some ⟨B, 0, none⟩)] 54 (0, 0)) := heap_alloc_new _ _
      have h2 : Below (w.heap.size + 1) (w.alloc (.cells #[.pointer (some ⟨B, 0, none⟩)] 54)) ((w.alloc (.cells #[.pointer (some ⟨B, 0, none⟩)] 54)).alloc (.cells #[.string ⟨#[]⟩] 9)) := (Below.refl _ _).alloc (by simp) _
      exact (h2.block w.heap.size (by omega)).trans h1
    · have h1 := heap_alloc_new (w.alloc (.cells #[.pointer (some ⟨B, 0, none⟩)] 54)) (.cells #[.string ⟨#[]⟩] 9)
      have h2 : (w.alloc (.cells #[.pointer (some ⟨B, 0, none⟩)] 54)).heap.size = w.heap.size + 1 := by simp
      rw [h2] at h1
      exact h1
  have hL : ∀ a, p = some a → a.block ≠ w.heap.size + 1 := fun a ha => by
    rcases h.low with h0 | h0
    · exact absurd h0 hne
    · have := h0 a ha; omega
  have H := listRec_any n B w.heap.size (w.heap.size + 1) p c ts ih _ k res (h.up hbA) hf hL (by have := h.ge; have := h.lt; omega) hres
  have HB : Hid (∀ w', BY B (w.heap.size + 1) ((w.alloc (.cells #[.pointer (some ⟨B, 0, none⟩)] 54)).alloc (.cells #[.string ⟨#[]⟩] 9)) w' → BX B w w') := fun w' hy =>
    ⟨hy.os.trans hbA.os, hy.tape.trans hbA.tape, hy.output.trans hbA.output, Nat.le_trans hbA.size hy.size, fun i hi hn => (hy.block i (Nat.lt_of_lt_of_le hi hbA.size) hn (by omega)).trans (hbA.block i hi)⟩
  clear hres hf
  go_enter Tryz.func160, Tryz.ntmps160
  go_wp2_with fail
  refine H.mono ?_
  intro e w1 he
  cases res with
  | error y =>
    obtain ⟨rfl, hr1, hy1⟩ := he
    have hx := HB.out _ hy1
    clear HB hbA H
    go_wp2
    exact ⟨rfl, rfl, hr1, hx⟩
  | ok x =>
    obtain ⟨⟨vs, q, cc, rfl, hll, hx1, hnv, hfl, hvl⟩, hr1, hy1⟩ := he
    have HX : Hid (BX B w w1) := HB.out _ hy1
    have HJ := joinAll 6 vs q cc w1 hll hnv hfl hvl
    have HX1 : Hid (x.1 = mkN 6 vs.length [] [] :: vs.flatten) := hx1
    have HL1 : Hid ((mkN 6 vs.length [] [] :: vs.flatten).length = vs.flatten.length + 1) := rfl
    clear HB hbA H hy1 hll hnv hx1
    generalize vs.flatten = F at *
    go_wp2_with (go_at_call 32; refine HJ.mono ?_; rintro e w2 ⟨⟨q2, c2, rfl, hnt2, hc2, hcm2⟩, hb2⟩)
    go_ret
    exact ⟨⟨q2, c2, by rw [HX1.out]; rfl, by rw [HX1.out]; exact hnt2, by rw [HX1.out]; exact hc2, hcm2⟩, hr1.up hb2, HX.out.up hb2⟩
theorem beq_sgn {t : Tk} (h5 : t.kind = 5) (s : List UInt8) : (t.l == s) = sgn t s := by unfold sgn; rw [h5]; rfl
/-- The beginning of atom: what the next word is. -/
theorem great_size {t : Tk} (h : spB t = true) : t.s.size ≤ 60 := by have := spB_size h; unfold Tk.l at this; simpa using this
set_option maxHeartbeats 1500000 in
theorem atom_step (n : Nat) (B : Nat) (p : Option Addr) (c : Nat) (ts : List Tk) (ih : AllR n B p c ts) : Reads (n + 1) 8 148 B p c ts := by
  intro w k res h hres
  have hlk := h.le
  have hlen := h.len
  have hall := h.rest
  have hmf : ∀ (fn : Fn) (first cap : Array Value) (w : World), (Instr.makeFunc fn first cap).run Tryz.prog w = .ok (.func fn first cap) w := fun _ _ _ _ => rfl
  have A0 := ahead0_any w B p c ts k h
  obtain ⟨t, hdt⟩ : ∃ t, hdT (ts.drop k) = t := ⟨_, rfl⟩
  rw [hdt] at A0
  unfold tokV at A0
  go_enter Tryz.func148, Tryz.ntmps148
  go_wp2_with fail
  refine A0.mono ?_
  rintro e w1 ⟨rfl, hb1⟩
  have hbt : Below w1.heap.size w1 (w1.alloc (.cells #[.int .i64 t.kind, .string t.s, .int .i64 t.at_] 37)) := (Below.refl _ _).alloc (Nat.le_refl _) _
  have hr1 := (h.up hb1).up hbt
  have hX1 : BX B w (w1.alloc (.cells #[.int .i64 t.kind, .string t.s, .int .i64 t.at_] 37)) := (BX.of_below hb1).up hbt
  have t0 : (w1.alloc (.cells #[.int .i64 t.kind, .string t.s, .int .i64 t.at_] 37)).cell? ⟨w1.heap.size, 0, none⟩ = some (.int .i64 t.kind) := by simp [go_sem]
  clear hbt A0
  obtain ⟨wt, hwt⟩ : ∃ wt, wt = w1.alloc (.cells #[.int .i64 t.kind, .string t.s, .int .i64 t.at_] 37) := ⟨_, rfl⟩
  rw [← hwt] at hr1 hX1 t0
  by_cases k1 : t.kind = 1
  · obtain ⟨r, hd⟩ : ∃ r, ts.drop k = t :: r := by
      cases hd : ts.drop k with
      | nil => rw [hd] at hdt; rw [← hdt] at k1; exact absurd k1 (by decide)
      | cons t' r => rw [hd] at hdt; exact ⟨r, by rw [show t' = t from hdt]⟩
    have e1 : (t.kind == 1) = true := by rw [k1]; rfl
    rw [hd, pE8_name _ _ _ k1] at hres
    have HN := named_any B p c ts wt k t r res hr1 hd k1 hres
    clear hres hd hdt k1
    go_wp2_with (go_at_call 157; (try rw [← hwt]); refine HN.mono ?_; intro e w4 he; have HE : Hid (EndP B p c ts w res e w4) := EndP.step hX1 he; rcases he.shape with ⟨q, nn, cc, rfl⟩ | ⟨y, rfl⟩)
    · go_ret
      exact HE.out
    · exact ⟨rfl, HE.out⟩
  · have e1 : (t.kind == 1) = false := by simpa using k1
    by_cases k2 : t.kind = 2
    · obtain ⟨r, hd⟩ : ∃ r, ts.drop k = t :: r := by
        cases hd : ts.drop k with
        | nil => rw [hd] at hdt; rw [← hdt] at k2; exact absurd k2 (by decide)
        | cons t' r => rw [hd] at hdt; exact ⟨r, by rw [show t' = t from hdt]⟩
      obtain ⟨d1, d2, d3⟩ := drop_cons hd
      have e2 : (t.kind == 2) = true := by rw [k2]; rfl
      have hst := h.all t (List.mem_of_mem_drop (i := k) (by rw [hd]; exact List.mem_cons_self ..))
      obtain ⟨s1, s2, s3⟩ := spB_two hst k2
      have hat := atoi_plain s1 s2 s3
      rw [hd, pE8, if_pos e2] at hres
      have hkl : ts.length - (r.length + 1) = k := by have := congrArg List.length hd; rw [List.length_drop, List.length_cons] at this; omega
      by_cases hg : great t false = true
      · rw [if_pos hg] at hres hat
        have HN := number_over wt B p c ts k ⟨#[]⟩ hr1 (by rw [hdt]; exact k2) (by decide) (by rw [hdt]; exact great_size hst) (by rw [hdt]; exact hat)
        injection hres with hres
        subst hres
        have HKL : Hid _ := hkl
        clear hd hdt k2 hat hg
        go_wp2_with (go_at_call 158; (try rw [← hwt]); refine HN.mono ?_; rintro e w4 ⟨rfl, hr4, hx4⟩)
        refine ⟨rfl, rfl, ?_, hX1.trans hx4⟩
        simp only [HKL.out]; exact hr4
      · have hg' : great t false = false := by simpa using hg
        rw [if_neg hg] at hres hat
        have hrng := num_range (b := false) s1 s2 hg'
        simp only [Bool.false_eq_true, if_false] at hrng
        have HN := number_ok wt B p c ts k ⟨#[]⟩ (digV t.l) hr1 d2 (by rw [hdt]; exact k2) (by decide) (by rw [hdt]; exact great_size hst) (by rw [hdt]; exact hat) hrng.2
        injection hres with hres
        subst hres
        have HD3 : Hid (ts.length - r.length = k + 1) := d3
        have HNN : Hid (numN t false = mkN 2 (digV t.l) [] []) := rfl
        clear hd hdt k2 hat hg hg' hrng
        go_wp2_with (go_at_call 158; (try rw [← hwt]); refine HN.mono ?_; rintro e w4 ⟨⟨q4, c4, rfl, hnt4, hc4, hcm4⟩, hr4, hx4⟩)
        go_ret
        refine ⟨⟨q4, c4, rfl, by rw [HNN.out]; exact hnt4, hc4, hcm4⟩, ?_, hX1.trans hx4⟩
        simp only [HD3.out]; exact hr4
    · have e2 : (t.kind == 2) = false := by simpa using k2
      by_cases k3 : t.kind = 3
      · obtain ⟨r, hd⟩ : ∃ r, ts.drop k = t :: r := by
          cases hd : ts.drop k with
          | nil => rw [hd] at hdt; rw [← hdt] at k3; exact absurd k3 (by decide)
          | cons t' r => rw [hd] at hdt; exact ⟨r, by rw [show t' = t from hdt]⟩
        obtain ⟨d1, d2, d3⟩ := drop_cons hd
        have e3 : (t.kind == 3) = true := by rw [k3]; rfl
        have hst := h.all t (List.mem_of_mem_drop (i := k) (by rw [hd]; exact List.mem_cons_self ..))
        have htsz : t.s.size ≤ maxLen := by have := great_size hst; unfold maxLen; omega
        rw [hd, pE8, e2, e3] at hres
        simp only [Bool.false_eq_true, if_false, if_true] at hres
        injection hres with hres
        subst hres
        have HT := take_ok wt B p c ts k 3 hr1 d2 (by rw [hdt]; exact k3)
        rw [hdt] at HT
        have HJ := fun W => join0 (mkN 3 0 t.s.data.toList []) W (mkN_wf htsz)
        rw [ndV_mk] at HJ
        have HD3 : Hid (ts.length - r.length = k + 1) := d3
        clear hd hdt k3
        go_wp2_with (first
          | (go_at_call 100; (try rw [← hwt]); refine HT.mono ?_; rintro e w3 ⟨rfl, hr3, hx3⟩)
          | (go_at_call 32; (try rw [← hwt]); refine (HJ _).mono ?_; rintro e w4 ⟨⟨q4, c4, rfl, hnt4, hc4, hcm4⟩, hb4⟩))
        go_ret
        refine ⟨⟨q4, c4, rfl, hnt4, hc4, hcm4⟩, ?_, (hX1.trans hx3).up hb4⟩
        simp only [HD3.out]; exact hr3.up hb4
      · have e3 : (t.kind == 3) = false := by simpa using k3
        by_cases k4 : t.kind = 4
        · obtain ⟨r, hd⟩ : ∃ r, ts.drop k = t :: r := by
            cases hd : ts.drop k with
            | nil => rw [hd] at hdt; rw [← hdt] at k4; exact absurd k4 (by decide)
            | cons t' r => rw [hd] at hdt; exact ⟨r, by rw [show t' = t from hdt]⟩
          obtain ⟨d1, d2, d3⟩ := drop_cons hd
          have e4 : (t.kind == 4) = true := by rw [k4]; rfl
          have hst := h.all t (List.mem_of_mem_drop (i := k) (by rw [hd]; exact List.mem_cons_self ..))
          have htsz : t.s.size ≤ 60 := great_size hst
          rw [hd, pE8, e2, e3, e4] at hres
          simp only [Bool.false_eq_true, if_false, if_true] at hres
          injection hres with hres
          subst hres
          have HT := take_ok wt B p c ts k 4 hr1 d2 (by rw [hdt]; exact k4)
          rw [hdt] at HT
          have hq : (ByteArray.mk #[63] ++ t.s).data.toList = 63 :: t.l := by unfold Tk.l; simp
          have HJ := fun W => join0 (mkN 8 0 (ByteArray.mk #[63] ++ t.s).data.toList []) W (mkN_wf (by have h1 : (ByteArray.mk #[63]).size = 1 := rfl; unfold maxLen; simp [h1]; omega))
          rw [ndV_mk, hq] at HJ
          have HD3 : Hid (ts.length - r.length = k + 1) := d3
          clear hd hdt k4 hq
          go_wp2_with (first
            | (go_at_call 100; (try rw [← hwt]); refine HT.mono ?_; rintro e w3 ⟨rfl, hr3, hx3⟩)
            | (go_at_call 32; (try rw [← hwt]); refine (HJ _).mono ?_; rintro e w4 ⟨⟨q4, c4, rfl, hnt4, hc4, hcm4⟩, hb4⟩))
          go_ret
          refine ⟨⟨q4, c4, rfl, hnt4, hc4, hcm4⟩, ?_, (hX1.trans hx3).up hb4⟩
          simp only [HD3.out]; exact hr3.up hb4
        · have e4 : (t.kind == 4) = false := by simpa using k4
          have y1 := sayB_sgn (c := 45) (w := []) hall (by decide)
          have y2 := sayB_sgn (c := 91) (w := []) hall (by decide)
          have y3 := sayB_sgn (c := 123) (w := []) hall (by decide)
          have y4 := sayB_sgn (c := 40) (w := []) hall (by decide)
          have PN := fun W (hr : RS W B p c ts k) s (hs : sayB (ts.drop k) s.data.toList = false) => passes_no W B p c ts k s hr hs
          by_cases c1 : nextS (ts.drop k) [45] = true
          · obtain ⟨t', r, hd, ht⟩ := nextS_cons c1
            obtain rfl : t' = t := by rw [hd] at hdt; exact hdt
            obtain ⟨d1, d2, d3⟩ := drop_cons hd
            obtain ⟨k5, tl⟩ := sgn_kind ht
            rw [hd, pE8_sign _ _ _ k5, tl, if_pos (by rfl)] at hres
            have P1 := passes_yes wt B p c ts k ⟨#[45]⟩ hr1 (y1.trans c1) d2
            clear k5 tl hd ht c1 y1 y2 y3 y4 hdt
            go_wp2_with (go_at_call 55; (try rw [← hwt]); refine P1.mono ?_; rintro e w2 ⟨rfl, hr2, hx2⟩)
            have hX2 : BX B w w2 := hX1.trans hx2
            clear P1 hx2 hr1 hX1
            rcases must_some hres with ⟨m1, rfl⟩ | ⟨u, r2, rfl, m1, g1⟩
            · refine (number_bad w2 B p c ts (k + 1) ⟨#[45]⟩ hr2 (by rw [d1]; exact hd_bad (by decide) m1)).mono ?_
              rintro e w3 ⟨rfl, hr3, hx3⟩
              have HD3 : Hid (ts.length - r.length = k + 1) := d3
              clear m1
              go_wp2
              refine ⟨rfl, rfl, ?_, hX2.trans hx3⟩
              simp only [HD3.out]; exact hr3
            · obtain ⟨d4, d5, d6⟩ := drop_cons d1
              have hdu : hdT (ts.drop (k + 1)) = u := by rw [d1]; rfl
              have ku : u.kind = 2 := by simpa using m1
              have hsu := h.all u (List.mem_of_mem_drop (i := k + 1) (by rw [d1]; exact List.mem_cons_self ..))
              obtain ⟨s1, s2, s3⟩ := spB_two hsu ku
              have hat := atoi_minus s1 s2 s3
              by_cases hg : great u true = true
              · rw [if_pos hg] at g1 hat
                refine (number_over w2 B p c ts (k + 1) ⟨#[45]⟩ hr2 (by rw [hdu]; exact ku) (by decide) (by rw [hdu]; exact great_size hsu) (by rw [hdu]; exact hat)).mono ?_
                rintro e w3 ⟨rfl, hr3, hx3⟩
                injection g1 with g1
                subst g1
                have HKL : Hid (ts.length - (r2.length + 1) = k + 1) := by show _ = _; simp only [List.length_cons] at d3; exact d3
                clear m1 hg hat
                go_wp2
                refine ⟨rfl, rfl, ?_, hX2.trans hx3⟩
                simp only [HKL.out]; exact hr3
              · have hg' : great u true = false := by simpa using hg
                rw [if_neg hg] at g1 hat
                have hrng := num_range (b := true) s1 s2 hg'
                simp only [if_true] at hrng
                refine (number_ok w2 B p c ts (k + 1) ⟨#[45]⟩ (- digV u.l) hr2 d5 (by rw [hdu]; exact ku) (by decide) (by rw [hdu]; exact great_size hsu) (by rw [hdu]; exact hat) hrng.2).mono ?_
                rintro e w3 ⟨⟨q3, c3, rfl, hnt3, hc3, hcm3⟩, hr3, hx3⟩
                injection g1 with g1
                subst g1
                have HD6 : Hid (ts.length - r2.length = k + 1 + 1) := d6
                have HNN : Hid (numN u true = mkN 2 (- digV u.l) [] []) := rfl
                have HNT : Hid (NT w3 0 q3 [mkN 2 (- digV u.l) [] []]) := hnt3
                clear m1 hg hat hg' hrng hnt3
                go_wp2
                go_ret
                refine ⟨⟨q3, c3, rfl, by rw [HNN.out]; exact HNT.out, hc3, hcm3⟩, ?_, hX2.trans hx3⟩
                simp only [HD6.out]; exact hr3
          · have c1' : nextS (ts.drop k) [45] = false := by simpa using c1
            have hk5 : ∀ t' r, ts.drop k = t' :: r → t'.kind = 5 := fun t' r hd => by
              have e0 : t' = t := by rw [hd] at hdt; exact hdt
              subst e0
              have := hall.kinds t' (by rw [hd]; exact List.mem_cons_self ..)
              unfold kOk at this
              simp only [Bool.or_eq_true, beq_iff_eq] at this
              omega
            have P1 := PN wt hr1 ⟨#[45]⟩ (y1.trans c1')
            by_cases c2 : nextS (ts.drop k) [91] = true
            · obtain ⟨t', r, hd, ht⟩ := nextS_cons c2
              obtain ⟨d1, d2, d3⟩ := drop_cons hd
              obtain ⟨k5, tl⟩ := sgn_kind ht
              rw [hd, pE8_sign _ _ _ k5, tl, if_neg (by decide), if_neg (by decide), if_pos (by rfl)] at hres
              have hSI := SetI.start hres
              have P2 := fun W (hr : RS W B p c ts k) => passes_yes W B p c ts k ⟨#[91]⟩ hr (y2.trans c2) d2
              have HL := fun W (hr : RS W B p c ts (k + 1)) => listSet_any n B p c ts ih W (k + 1) res hr (by rw [d1]; exact hSI)
              clear hres hSI hd ht c1 c1' c2 y1 y2 y3 y4 tl hdt k5 hk5
              go_wp2_with fail
              try rw [← hwt]
              refine P1.mono ?_
              rintro e w2 ⟨rfl, hb2⟩
              go_wp2_with fail
              refine (P2 _ (hr1.up hb2)).mono ?_
              rintro e w3 ⟨rfl, hr3, hx3⟩
              go_wp2_with fail
              refine (HL _ hr3).mono ?_
              intro e w4 he
              have hX3 : BX B w w3 := (hX1.up hb2).trans hx3
              cases res with
              | error y =>
                obtain ⟨rfl, hr4, hx4⟩ := he
                go_wp2
                exact ⟨rfl, rfl, hr4, hX3.trans hx4⟩
              | ok x =>
                obtain ⟨⟨vs, q, cc, rfl, hll, hx1, hnv, hfl, hvl⟩, hr4, hx4⟩ := he
                have HX : Hid (BX B w w4) := hX3.trans hx4
                have HJ := joinAll 5 vs q cc w4 hll hnv hfl hvl
                have HXe : Hid (x.1 = mkN 5 vs.length [] [] :: vs.flatten) := hx1
                clear hll hnv hx1 hx4 HL
                generalize vs.flatten = F at *
                go_wp2_with (go_at_call 32; refine HJ.mono ?_; rintro e w5 ⟨⟨q2, c2, rfl, hnt2, hc2, hcm2⟩, hb5⟩)
                go_ret
                exact ⟨⟨q2, c2, by rw [HXe.out]; rfl, by rw [HXe.out]; exact hnt2, by rw [HXe.out]; exact hc2, hcm2⟩, hr4.up hb5, HX.out.up hb5⟩
            · have c2' : nextS (ts.drop k) [91] = false := by simpa using c2
              by_cases c3 : nextS (ts.drop k) [123] = true
              · obtain ⟨t', r, hd, ht⟩ := nextS_cons c3
                obtain ⟨d1, d2, d3⟩ := drop_cons hd
                obtain ⟨k5, tl⟩ := sgn_kind ht
                rw [hd, pE8_sign _ _ _ k5, tl, if_neg (by decide), if_neg (by decide), if_neg (by decide), if_pos (by rfl)] at hres
                have hSI := RecI.start hres
                have hnts : ts ≠ [] := fun e => by rw [e] at d2; simp at d2
                have P2 := fun W (hr : RS W B p c ts k) => PN W hr ⟨#[91]⟩ (y2.trans c2')
                have P3 := fun W (hr : RS W B p c ts k) => passes_yes W B p c ts k ⟨#[123]⟩ hr (y3.trans c3) d2
                have HL := fun W (hr : RS W B p c ts (k + 1)) => record_any n B p c ts ih W (k + 1) res hr hnts (by rw [d1]; exact hSI)
                clear hres hSI hd ht c1 c1' c2 c2' c3 y1 y2 y3 y4 tl hdt k5 hk5
                go_wp2_with fail
                try rw [← hwt]
                refine P1.mono ?_
                rintro e w2 ⟨rfl, hb2⟩
                go_wp2_with fail
                refine (P2 _ (hr1.up hb2)).mono ?_
                rintro e w3 ⟨rfl, hb3⟩
                go_wp2_with fail
                refine (P3 _ ((hr1.up hb2).up hb3)).mono ?_
                rintro e w4 ⟨rfl, hr4, hx4⟩
                go_wp2_with fail
                refine (HL _ hr4).mono ?_
                intro e w5 he
                have HE : Hid (EndP B p c ts w res e w5) := EndP.step (((hX1.up hb2).up hb3).trans hx4) he
                rcases he.shape with ⟨q, nn, cc, rfl⟩ | ⟨y, rfl⟩
                · go_wp2
                  go_ret
                  exact HE.out
                · go_wp2
                  exact ⟨rfl, HE.out⟩
              · have c3' : nextS (ts.drop k) [123] = false := by simpa using c3
                have P2 := fun W (hr : RS W B p c ts k) => PN W hr ⟨#[91]⟩ (y2.trans c2')
                have P3 := fun W (hr : RS W B p c ts k) => PN W hr ⟨#[123]⟩ (y3.trans c3')
                by_cases c4 : nextS (ts.drop k) [40] = true
                · obtain ⟨t', r, hd, ht⟩ := nextS_cons c4
                  obtain ⟨d1, d2, d3⟩ := drop_cons hd
                  obtain ⟨k5, tl⟩ := sgn_kind ht
                  rw [hd, pE8_sign _ _ _ k5, tl, if_neg (by decide), if_pos (by rfl)] at hres
                  have P4 := fun W (hr : RS W B p c ts k) => pass_ok W B p c ts k ⟨#[40]⟩ hr (y4.trans c4) d2
                  clear hd ht c1 c1' c2 c2' c3 c3' c4 y1 y2 y3 y4 tl hdt k5 hk5
                  go_wp2_with fail
                  try rw [← hwt]
                  refine P1.mono ?_
                  rintro e w2 ⟨rfl, hb2⟩
                  go_wp2_with fail
                  refine (P2 _ (hr1.up hb2)).mono ?_
                  rintro e w3 ⟨rfl, hb3⟩
                  go_wp2_with fail
                  refine (P3 _ ((hr1.up hb2).up hb3)).mono ?_
                  rintro e w4 ⟨rfl, hb4⟩
                  go_wp2_with fail
                  refine (P4 _ (((hr1.up hb2).up hb3).up hb4)).mono ?_
                  rintro e w5 ⟨rfl, hr5, hx5⟩
                  go_wp2_with fail
                  have hX5 : BX B w w5 := (((hX1.up hb2).up hb3).up hb4).trans hx5
                  clear hx5 P1 P2 P3 P4 PN
                  rcases andR_some hres with ⟨e1', g1, rfl⟩ | ⟨a, r1, g1, g2⟩
                  · refine (ih 0 (by omega) w5 _ _ hr5 (by rw [d1]; exact g1)).mono ?_
                    rintro e w6 ⟨rfl, hr6, hx6⟩
                    go_wp2
                    exact ⟨rfl, rfl, hr6, hX5.trans hx6⟩
                  · obtain ⟨na, la, sa, da⟩ := hr5.next_words (w1 := w) (n := n) (lvl := 0) (by omega) (by rw [d1]; exact g1)
                    refine (ih 0 (by omega) w5 _ _ hr5 (by rw [d1]; exact g1)).mono ?_
                    rintro e w6 ⟨⟨qa, ca, rfl, hnta, hca, hcma⟩, hr6, hx6⟩
                    simp only at hnta hca hr6 ⊢
                    have hX6 : BX B w w6 := hX5.trans hx6
                    have al := hr6.rest
                    rw [da] at al
                    clear g1 hx6
                    go_wp2_with fail
                    rcases must_some g2 with ⟨m1, rfl⟩ | ⟨x, r2, rfl, m1, g3⟩
                    · refine (pass_bad w6 B p c ts _ ⟨#[41]⟩ hr6 (by rw [da]; exact say_must_s al (by decide) m1)).mono ?_
                      rintro e w7 ⟨rfl, hr7, hx7⟩
                      go_wp2
                      exact ⟨rfl, rfl, hr7, hX6.trans hx7⟩
                    · obtain ⟨d4, d5, d6⟩ := drop_cons da
                      refine (pass_ok w6 B p c ts _ ⟨#[41]⟩ hr6 (by rw [da]; exact (sayB_sgn al (by decide)).trans m1) d5).mono ?_
                      rintro e w7 ⟨rfl, hr7, hx7⟩
                      have HNT : Hid (NT w7 0 qa a) := hnta.bx hr6 hx7
                      have HD6 : Hid (ts.length - r2.length = ts.length - (x :: r2).length + 1) := d6
                      have HR7 : Hid (RS w7 B p c ts (ts.length - (x :: r2).length + 1)) := hr7
                      have HX7 : Hid (BX B w w7) := hX6.trans hx7
                      injection g3 with g3
                      subst g3
                      clear hnta hr6 hx7 hr7 m1 al
                      go_wp2
                      go_ret
                      refine ⟨⟨qa, ca, rfl, HNT.out, hca, hcma⟩, ?_, HX7.out⟩
                      simp only [HD6.out]; exact HR7.out
                · have c4' : nextS (ts.drop k) [40] = false := by simpa using c4
                  have HE : Hid (res = .error ((ts.drop k).length, 1)) := by
                    cases hd : ts.drop k with
                    | nil =>
                      rw [hd] at hres
                      have e0 : pE (n + 1) 8 [] = some (.error (0, 1)) := by rw [pE.eq_def]; rfl
                      rw [e0] at hres
                      injection hres with hres
                      exact hres.symm
                    | cons t' r =>
                      have k5 := hk5 t' r hd
                      rw [hd] at c1' c2' c3' c4' hres
                      rw [pE8_sign _ _ _ k5, beq_sgn k5, beq_sgn k5, beq_sgn k5, beq_sgn k5, show sgn t' [45] = false from c1', show sgn t' [40] = false from c4', show sgn t' [91] = false from c2', show sgn t' [123] = false from c3'] at hres
                      simp only [Bool.false_eq_true, if_false] at hres
                      injection hres with hres
                      exact hres.symm
                  have HK0 : Hid (ts.length - (ts.drop k).length = k) := by show _ = _; rw [List.length_drop]; omega
                  have P4 := fun W (hr : RS W B p c ts k) => pass_bad W B p c ts k ⟨#[40]⟩ hr (y4.trans c4')
                  clear hres c1 c1' c2 c2' c3 c3' c4 c4' y1 y2 y3 y4 hdt hk5
                  go_wp2_with fail
                  try rw [← hwt]
                  refine P1.mono ?_
                  rintro e w2 ⟨rfl, hb2⟩
                  go_wp2_with fail
                  refine (P2 _ (hr1.up hb2)).mono ?_
                  rintro e w3 ⟨rfl, hb3⟩
                  go_wp2_with fail
                  refine (P3 _ ((hr1.up hb2).up hb3)).mono ?_
                  rintro e w4 ⟨rfl, hb4⟩
                  go_wp2_with fail
                  refine (P4 _ (((hr1.up hb2).up hb3).up hb4)).mono ?_
                  rintro e w5 ⟨rfl, hr5, hx5⟩
                  go_wp2_with fail
                  refine ⟨rfl, ?_⟩

                  rw [HE.out]
                  refine ⟨rfl, ?_, (((hX1.up hb2).up hb3).up hb4).trans hx5⟩
                  simp only [HK0.out]; exact hr5

theorem all_zero (B : Nat) (p : Option Addr) (c : Nat) (ts : List Tk) : AllR 0 B p c ts := fun lvl _ W k res _ hres => by rw [pE] at hres; cases hres
/-- All forms are read. -/
theorem all_reads (B : Nat) (p : Option Addr) (c : Nat) (ts : List Tk) : ∀ n, AllR n B p c ts
  | 0 => all_zero B p c ts
  | n + 1 => by
    have ih := all_reads B p c ts n
    intro lvl hl
    match lvl, hl with
    | 0, _ => exact whole_step n B p c ts ih
    | 1, _ => exact either_step n B p c ts ih
    | 2, _ => exact both_step n B p c ts ih
    | 3, _ => exact rel_step n B p c ts ih
    | 4, _ => exact sum_step n B p c ts ih
    | 5, _ => exact prod_step n B p c ts ih
    | 6, _ => exact sign_step n B p c ts ih
    | 7, _ => exact post_step n B p c ts ih
    | 8, _ => exact atom_step n B p c ts ih
end Go.Proofs.YtpbnjdgedifnoabGreatDoor
namespace Go.Proofs.YtpbnjdgedifnoabGreatDoor
open Go.RowKit
set_option linter.unusedVariables false
set_option linter.unusedSimpArgs false
set_option maxRecDepth 100000

set_option maxHeartbeats 1000000 in
theorem pcatch_idle (p q r s : Addr) (w : World) :
    CallsD Tryz.prog 17 #[.pointer (some p), .pointer (some q), .pointer (some r), .pointer (some s)] .returning w fun e u' w' => e = .returned (.tuple #[]) ∧ u' = .returning ∧ w' = w := by
  refine callsD_of_wpS Tryz.func17 rfl fun c₀ cs hu => ?_
  apply wpS_seq
  apply wpS_region
  simp [wpOpsS, go_sem, recoverD, hu, Tryz.ntmps17, Exit.thenS]
  have e : ∀ p q r s X : Value, #[p, q, r, s] ++ (Array.replicate 15 undef).setIfInBounds 3 X = #[p, q, r, s, undef, undef, undef, X, undef, undef, undef, undef, undef, undef, undef, undef, undef, undef, undef] := fun _ _ _ _ _ => rfl
  rw [e]
  refine wpS_of_wp ?_
  go_wp2
  cases c₀
  simp_all [bodyPostS, results, Tryz.results17]
set_option maxHeartbeats 1000000 in
theorem pcatch_thrown (n : Int) (N : Nat) (w : World) (k : Int) (u0 u1 u2 : Value) (h0 : w.cell? ⟨N, 0, none⟩ = some u0) (z0 : w.frozen? ⟨N, 0, none⟩ = false) (h1 : w.cell? ⟨N + 1, 0, none⟩ = some u1) (z1 : w.frozen? ⟨N + 1, 0, none⟩ = false)
    (h2 : w.cell? ⟨N + 2, 0, none⟩ = some u2) (z2 : w.frozen? ⟨N + 2, 0, none⟩ = false) (h4 : w.cell? ⟨N + 4, 0, none⟩ = some (.pointer (some ⟨N + 3, 0, none⟩))) (h3 : w.cell? ⟨N + 3, 1, none⟩ = some (.int .i64 k)) (hs : N + 5 ≤ w.heap.size) :
    CallsD Tryz.prog 17 #[.pointer (some ⟨N + 4, 0, none⟩), .pointer (some ⟨N, 0, none⟩), .pointer (some ⟨N + 1, 0, none⟩), .pointer (some ⟨N + 2, 0, none⟩)] (.panicking (thrownP n)) w fun e u' w' => e = .returned (.tuple #[]) ∧ u' = .panicking [{ v := .iface 58 (.agg #[.iface 42 (.int .i64 n)]), recovered := true }] ∧
      w'.cell? ⟨N, 0, none⟩ = some (.slice none 0 0) ∧ w'.cell? ⟨N + 1, 0, none⟩ = some (.int .i64 k) ∧ w'.cell? ⟨N + 2, 0, none⟩ = some (.iface 42 (.int .i64 n)) ∧ Below N w w' := by
  have hta : ∀ w : World, Sem.run Tryz.prog (Instr.typeAssert (.iface 58 (.agg #[.iface 42 (.int .i64 n)])) 20 58 true) w = .ok (.tuple #[.agg #[.iface 42 (.int .i64 n)], .bool true]) w := fun _ => by kernel_rfl
  refine callsD_of_wpS Tryz.func17 rfl fun c₀ cs hu => ?_
  unfold thrownP at hu
  apply wpS_seq
  apply wpS_region
  simp [wpOpsS, go_sem, recoverD, hu, Tryz.ntmps17, Exit.thenS]
  have e : ∀ p q r s X : Value, #[p, q, r, s] ++ (Array.replicate 15 undef).setIfInBounds 3 X = #[p, q, r, s, undef, undef, undef, X, undef, undef, undef, undef, undef, undef, undef, undef, undef, undef, undef] := fun _ _ _ _ _ => rfl
  rw [e]
  refine wpS_of_wp ?_
  go_wp2_with fail
  have hbA : Below w.heap.size w (w.alloc (.cells #[.iface 42 (.int .i64 n)] 58)) := (Below.refl _ _).alloc (Nat.le_refl _) _
  have a0 := (hbA.cell (p := ⟨N, 0, none⟩) (by show N < _; omega)).trans h0
  have a1 := (hbA.cell (p := ⟨N + 1, 0, none⟩) (by show N + 1 < _; omega)).trans h1
  have a2 := (hbA.cell (p := ⟨N + 2, 0, none⟩) (by show N + 2 < _; omega)).trans h2
  have a3 := (hbA.cell (p := ⟨N + 3, 1, none⟩) (by show N + 3 < _; omega)).trans h3
  have a4 := (hbA.cell (p := ⟨N + 4, 0, none⟩) (by show N + 4 < _; omega)).trans h4
  have y0 := (hbA.frozen (p := ⟨N, 0, none⟩) (by show N < _; omega)).trans z0
  have y1 := (hbA.frozen (p := ⟨N + 1, 0, none⟩) (by show N + 1 < _; omega)).trans z1
  have y2 := (hbA.frozen (p := ⟨N + 2, 0, none⟩) (by show N + 2 < _; omega)).trans z2
  have a5 : (w.alloc (.cells #[.iface 42 (.int .i64 n)] 58)).cell? ⟨w.heap.size, 0, none⟩ = some (.iface 42 (.int .i64 n)) := by simp [go_sem]
  have hbB : Below N w (w.alloc (.cells #[.iface 42 (.int .i64 n)] 58)) := hbA.mono (by omega)
  clear hbA
  generalize w.alloc (.cells #[.iface 42 (.int .i64 n)] 58) = w1 at *
  have n0 : N ≠ w.heap.size := by omega
  have n1 : N + 1 ≠ w.heap.size := by omega
  have n2 : N + 2 ≠ w.heap.size := by omega
  have n3 : w.heap.size ≠ N := by omega
  have n4 : w.heap.size ≠ N + 1 := by omega
  have n5 : w.heap.size ≠ N + 2 := by omega
  clear h0 h1 h2 h3 h4 z0 z1 z2 hta
  go_region_held (fun w' => w'.cell? ⟨N + 4, 0, none⟩ = some (.pointer (some ⟨N + 3, 0, none⟩)) ∧ w'.cell? ⟨N + 3, 1, none⟩ = some (.int .i64 k) ∧ w'.cell? ⟨w.heap.size, 0, none⟩ = some (.iface 42 (.int .i64 n))) (go_keep) (fail)
  all_goals go_wp2
  have k0 : (((w1.setCell ⟨N, 0, none⟩ (.slice none 0 0)).setCell ⟨N + 1, 0, none⟩ (.int .i64 k)).setCell ⟨N + 2, 0, none⟩ (.iface 42 (.int .i64 n))).drew.cell? ⟨N, 0, none⟩ = some (.slice none 0 0) :=
    ((World.cell?_setCell_other _ _ _ _ (by simp)).trans (World.cell?_setCell_other _ _ _ _ (by simp))).trans (World.cell?_setCell_same _ _ _ a0)
  have k1 : (((w1.setCell ⟨N, 0, none⟩ (.slice none 0 0)).setCell ⟨N + 1, 0, none⟩ (.int .i64 k)).setCell ⟨N + 2, 0, none⟩ (.iface 42 (.int .i64 n))).drew.cell? ⟨N + 1, 0, none⟩ = some (.int .i64 k) :=
    (World.cell?_setCell_other _ _ _ _ (by simp)).trans (World.cell?_setCell_same _ _ _ ((World.cell?_setCell_other _ _ _ _ (by simp)).trans a1))
  have k2 : (((w1.setCell ⟨N, 0, none⟩ (.slice none 0 0)).setCell ⟨N + 1, 0, none⟩ (.int .i64 k)).setCell ⟨N + 2, 0, none⟩ (.iface 42 (.int .i64 n))).drew.cell? ⟨N + 2, 0, none⟩ = some (.iface 42 (.int .i64 n)) :=
    World.cell?_setCell_same _ _ _ ((World.cell?_setCell_other _ _ _ _ (by simp)).trans ((World.cell?_setCell_other _ _ _ _ (by simp)).trans a2))
  have k3 : Below N w (((w1.setCell ⟨N, 0, none⟩ (.slice none 0 0)).setCell ⟨N + 1, 0, none⟩ (.int .i64 k)).setCell ⟨N + 2, 0, none⟩ (.iface 42 (.int .i64 n))).drew :=
    (((hbB.setCell (Nat.le_refl _) _).setCell (by show N ≤ N + 1; omega) _).setCell (by show N ≤ N + 2; omega) _).drew
  clear hbB a0 a1 a2 a3 a4 a5 y0 y1 y2 n0 n1 n2 n3 n4 n5
  try clear hHeld
  generalize (((w1.setCell ⟨N, 0, none⟩ (.slice none 0 0)).setCell ⟨N + 1, 0, none⟩ (.int .i64 k)).setCell ⟨N + 2, 0, none⟩ (.iface 42 (.int .i64 n))).drew = w9 at *
  cases c₀
  simp_all [bodyPostS, results, Tryz.results17]

end Go.Proofs.YtpbnjdgedifnoabGreatDoor
namespace Go.Proofs.YtpbnjdgedifnoabGreatDoor
open Go.RowKit
set_option linter.unusedVariables false
set_option linter.unusedSimpArgs false
set_option maxRecDepth 100000

/-- What the words say, or where it is wrong. -/
def lineR (ts : List Tk) : Except (Nat × Int) (List Nd) :=
  match prs ts with
  | .ok (e, []) => .ok e
  | .ok (e, t :: r) => .error (ts.length - (r.length + 1), 1)
  | .error y => .error (ts.length - y.1, y.2)
def LineE (R : Except (Nat × Int) (List Nd)) (e : Ending) (w' : World) : Prop :=
  match R with
  | .ok x => ∃ q cc, e = .returned (.tuple #[.slice q x.length cc, .int .i64 0, .nilIface]) ∧ NT w' 0 q x ∧ x.length ≤ cc ∧ cc ≤ maxLen ∧ x ≠ []
  | .error y => e = .returned (.tuple #[.slice none 0 0, .int .i64 (y.1 : Int), .iface 42 (.int .i64 y.2)])
/-- The named results and the reader's address. -/
structure LK (w : World) (N : Nat) (v : Value) : Prop where
  b0 : w.heap[N]? = some (.cells #[v] 23 (0, 0))
  b1 : w.heap[N + 1]? = some (.cells #[.int .i64 0] 3 (0, 0))
  b2 : w.heap[N + 2]? = some (.cells #[.nilIface] 25 (0, 0))
  b4 : w.heap[N + 4]? = some (.cells #[.pointer (some ⟨N + 3, 0, none⟩)] 54 (0, 0))
theorem LK.lt {w : World} {N : Nat} {v : Value} (h : LK w N v) : N + 5 ≤ w.heap.size := by
  have := (Array.getElem?_eq_some_iff.1 h.b4).1; omega
theorem LK.bx {w w' : World} {N : Nat} {v : Value} (h : LK w N v) (hx : BX (N + 3) w w') : LK w' N v := by
  have := h.lt
  exact ⟨(hx.block N (by omega) (by omega)).trans h.b0, (hx.block (N + 1) (by omega) (by omega)).trans h.b1, (hx.block (N + 2) (by omega) (by omega)).trans h.b2, (hx.block (N + 4) (by omega) (by omega)).trans h.b4⟩
theorem cell_of {w : World} {N : Nat} {v : Value} {T : TypeId} (h : w.heap[N]? = some (.cells #[v] T (0, 0))) : w.cell? ⟨N, 0, none⟩ = some v ∧ w.frozen? ⟨N, 0, none⟩ = false := by
  simp [World.cell?, World.frozen?, h]
theorem NT.same {w w' : World} {q : Option Addr} {L : List Nd} (hs : w.heap.size ≤ w'.heap.size) (k : ∀ b, Typed w b 31 → w'.heap[b]? = w.heap[b]?) (h : NT w 0 q L) : NT w' 0 q L := by
  obtain ⟨h1, h2⟩ := h
  rcases h2 with h2 | ⟨b, o, h2, h3⟩
  · exact ⟨.inl h2, .inl h2⟩
  · rcases h3 with h3 | h3
    · omega
    · have hb := k b h3
      refine ⟨?_, .inr ⟨b, o, h2, .inr ?_⟩⟩
      · rcases h1 with h1 | ⟨b', o', e, h4, h5⟩
        · exact .inl h1
        · rw [h2] at e; cases e
          refine .inr ⟨b, o, h2, Nat.lt_of_lt_of_le h4 hs, fun i x hi => ?_⟩
          have q : ∀ o, w'.cell? ⟨b, o, none⟩ = w.cell? ⟨b, o, none⟩ := fun o => World.cell?_of_block hb
          simp only [q]
          exact h5 i x hi
      · obtain ⟨cur, fr, hh⟩ := h3
        exact ⟨cur, fr, hb.trans hh⟩
theorem at_new {w : World} {cs : Array Value} {T : TypeId} {n : Nat} (h : n = w.heap.size) : (w.alloc (.cells cs T)).heap[n]? = some (.cells cs T (0, 0)) := by
  subst h; exact heap_alloc_new _ _
theorem at_old {w : World} {o : Obj} {n : Nat} (h : n < w.heap.size) : (w.alloc o).heap[n]? = w.heap[n]? := ((Below.refl w.heap.size w).alloc (Nat.le_refl _) o).block n h
set_option maxHeartbeats 4000000 in
theorem readLine_any (ts : List Tk) (p : Option Addr) (c : Nat) (w : World) (hl : ts.length ≤ 300) (hs : AllS ts) (htk : TKL w p ts) (he : ErrIn w) :
    Calls Tryz.prog 11 #[.slice p ts.length c] w fun e w' => LineE (lineR ts) e w' ∧ Below w.heap.size w w' := by
  have hmf : ∀ (fn : Fn) (first cap : Array Value) (w : World), (Instr.makeFunc fn first cap).run Tryz.prog w = .ok (.func fn first cap) w := fun _ _ _ _ => rfl
  obtain ⟨w5, hw5⟩ : ∃ w5, w5 = ((((w.alloc (.cells #[.slice none 0 0] 23)).alloc (.cells #[.int .i64 0] 3)).alloc (.cells #[.nilIface] 25)).alloc (.cells #[.slice p ts.length c, .int .i64 0] 56)).alloc (.cells #[.pointer (some ⟨w.heap.size + 1 + 1 + 1, 0, none⟩)] 54) := ⟨_, rfl⟩
  have hb5 : Below w.heap.size w w5 := by
    rw [hw5]
    exact (((((Below.refl _ _).alloc (Nat.le_refl _) _).alloc (by simp) _).alloc (by simp; omega) _).alloc (by simp; omega) _).alloc (by simp; omega) _
  have hK5 : LK w5 w.heap.size (.slice none 0 0) := by
    rw [hw5]
    refine ⟨?_, ?_, ?_, ?_⟩
    · rw [at_old (by simp <;> omega), at_old (by simp <;> omega), at_old (by simp <;> omega), at_old (by simp)]; exact at_new rfl
    · rw [at_old (by simp <;> omega), at_old (by simp <;> omega), at_old (by simp)]; exact at_new (by simp)
    · rw [at_old (by simp <;> omega), at_old (by simp)]; exact at_new (by simp)
    · exact at_new (by simp)
  have hR5 : RS w5 (w.heap.size + 3) p c ts 0 := by
    have hge : 7 < w.heap.size := by
      obtain ⟨ev, h1, _⟩ := he
      exact World.block_lt_of_cell? w _ h1
    have hne0 : ts = [] ∨ ∀ a, p = some a → a.block ≠ w.heap.size + 3 := by
      rcases htk with h | ⟨b, off, h1, h2, _⟩
      · exact .inl h
      · exact .inr fun a ha => by rw [h1] at ha; cases ha; show b ≠ _; omega
    refine ⟨?_, htk.up hb5, hne0, Nat.zero_le _, hl, hs, ?_, by omega⟩
    · rw [hw5, at_old (by simp)]; exact at_new (by simp)
    · obtain ⟨ev, h1, h2⟩ := he
      exact ⟨ev, (hb5.cell (p := ⟨7, 0, none⟩) hge).trans h1, h2⟩
  have H1 := all_reads (w.heap.size + 3) p c ts (10 * ts.length + 10) 0 (by omega) w5 0 (prs ts) hR5 (by rw [List.drop_zero]; exact prs_any (Nat.le_refl _))
  go_enter_defers Tryz.func11, Tryz.ntmps11
  go_wp2_with fail
  rw [← hw5]
  refine H1.mono ?_
  have HL : Hid (lineR ts = match prs ts with
    | .ok (e, []) => .ok e
    | .ok (e, t :: r) => .error (ts.length - (r.length + 1), 1)
    | .error y => .error (ts.length - y.1, y.2)) := rfl
  cases hprs : prs ts with
  | error y =>
    rw [hprs] at H1 HL
    rintro e w6 ⟨rfl, hr6, hx6⟩
    have hK6 := hK5.bx hx6
    have hB6 : Below w.heap.size w w6 := hb5.trans (hx6.below (by omega) hR5.lt)
    obtain ⟨x0, z0⟩ := cell_of hK6.b0
    obtain ⟨x1, z1⟩ := cell_of hK6.b1
    obtain ⟨x2, z2⟩ := cell_of hK6.b2
    obtain ⟨x4, z4⟩ := cell_of hK6.b4
    have x3 := hr6.c1
    have hsz := hK6.lt
    clear H1 hprs hw5
    go_wp2
    refine leaves_cons (f := 17) (args := #[.pointer (some ⟨w.heap.size + 4, 0, none⟩), .pointer (some ⟨w.heap.size, 0, none⟩), .pointer (some ⟨w.heap.size + 1, 0, none⟩), .pointer (some ⟨w.heap.size + 2, 0, none⟩)]) (by simp) (by simp [go_sem]) ?_
    refine (pcatch_thrown y.2 w.heap.size _ _ _ _ _ x0 z0 x1 z1 x2 z2 x4 x3 hsz).mono ?_
    rintro e u' w7 ⟨rfl, rfl, c0, c1, c2, hb7⟩
    have hb8 := hB6.trans hb7
    simp [Leaves, settle, results, Tryz.results11, go_sem, c0, c1, c2]
    exact ⟨by rw [HL.out]; rfl, hb8⟩
  | ok x =>
    obtain ⟨x, r⟩ := x
    rw [hprs] at H1 HL
    rintro e w6 ⟨⟨q, cc, rfl, hnt, hc, hcm⟩, hr6, hx6⟩
    simp only at hnt hc hr6 ⊢
    have hK6 := hK5.bx hx6
    have hB6 : Below w.heap.size w w6 := hb5.trans (hx6.below (by omega) hR5.lt)
    obtain ⟨x0, z0⟩ := cell_of hK6.b0
    have hb7 : (w6.setCell ⟨w.heap.size, 0, none⟩ (.slice q x.length cc)).heap[w.heap.size]? = some (.cells #[.slice q x.length cc] 23 (0, 0)) := heap_setCell_same w6 w.heap.size 0 _ _ _ hK6.b0
    have hne : ∀ k, k ≠ w.heap.size → (w6.setCell ⟨w.heap.size, 0, none⟩ (.slice q x.length cc)).heap[k]? = w6.heap[k]? := fun k hk => Below.heap_setCell w6 ⟨w.heap.size, 0, none⟩ _ k hk
    have hK7 : LK (w6.setCell ⟨w.heap.size, 0, none⟩ (.slice q x.length cc)) w.heap.size (.slice q x.length cc) :=
      ⟨hb7, (hne _ (by omega)).trans hK6.b1, (hne _ (by omega)).trans hK6.b2, (hne _ (by omega)).trans hK6.b4⟩
    have hR7 : (w6.setCell ⟨w.heap.size, 0, none⟩ (.slice q x.length cc)).heap[w.heap.size + 3]? = some (.cells #[.slice p ts.length c, .int .i64 ((ts.length - r.length : Nat) : Int)] 56 (0, 0)) := (hne _ (by omega)).trans hr6.blk
    have hN7 : NT (w6.setCell ⟨w.heap.size, 0, none⟩ (.slice q x.length cc)) 0 q x := by
      refine NT.same (by simp) (fun b hb => hne b ?_) hnt
      rintro rfl
      obtain ⟨cu, fr, hh⟩ := hb
      rw [hK6.b0] at hh
      injection hh with hh
      injection hh with _ hh _
      exact absurd hh (by decide)
    have hB7 : Below w.heap.size w (w6.setCell ⟨w.heap.size, 0, none⟩ (.slice q x.length cc)) := hB6.setCell (Nat.le_refl _) _
    have HPR : Hid (prs ts = .ok (x, r)) := hprs
    clear hne hb7 H1 hprs hw5 hnt
    go_wp2_with fail
    generalize w6.setCell ⟨w.heap.size, 0, none⟩ (.slice q x.length cc) = w7 at *
    have hb8 : Below w7.heap.size w7 w7.drew := (Below.refl _ _).drew
    have hN8 := hN7.below hb8
    have hB8 := hB7.trans (hb8.mono hB7.size)
    have hK8 : LK w7.drew w.heap.size (.slice q x.length cc) := ⟨hK7.b0, hK7.b1, hK7.b2, hK7.b4⟩
    have hR8 : w7.drew.heap[w.heap.size + 3]? = some (.cells #[.slice p ts.length c, .int .i64 ((ts.length - r.length : Nat) : Int)] 56 (0, 0)) := hR7
    refine wp_region_still_tail 11 (by kernel_rfl) (by kernel_rfl) ?_
    change wpStill _ _ w7.drew (fun a' => wpList _ _ _ _ a' w7.drew) _ _
    clear hN7 hB7 hK7 hR7 hb8
    generalize w7.drew = w8 at *
    obtain ⟨x0, z0⟩ := cell_of hK8.b0
    obtain ⟨x1, z1⟩ := cell_of hK8.b1
    obtain ⟨x2, z2⟩ := cell_of hK8.b2
    obtain ⟨x4, z4⟩ := cell_of hK8.b4
    have x3 : w8.cell? ⟨w.heap.size + 3, 1, none⟩ = some (.int .i64 ((ts.length - r.length : Nat) : Int)) := by simp [World.cell?, hR8]
    have x5 : w8.cell? ⟨w.heap.size + 3, 0, none⟩ = some (.slice p ts.length c) := by simp [World.cell?, hR8]
    have hsz := hK8.lt
    have hlr : r.length ≤ ts.length := by
      have h8 := prs_any (n := 10 * ts.length + 10) (l := ts) (Nat.le_refl _)
      rw [HPR.out] at h8
      have h9 := (pE_len (lvl := 0) hs.kinds (by omega) h8).1
      omega
    cases r with
    | nil =>
      have e0 : ((ts.length - ([] : List Tk).length : Nat) : Int) = (ts.length : Int) := by simp
      rw [e0] at x3
      simp only [List.take_succ_cons, List.take_zero, List.drop_succ_cons, List.drop_zero]
      repeat still_step
      refine wpStill_nil ?_
      go_wp2_with fail
      refine (pneed_true _ _).mono ?_
      rintro e w9 ⟨rfl, rfl⟩
      go_wp2
      have hneT : ∀ b, Typed w9 b 31 → b ≠ w.heap.size ∧ b ≠ w.heap.size + 1 ∧ b ≠ w.heap.size + 1 + 1 := fun b hb =>
        ⟨hb.ne ⟨_, _, hK8.b0⟩ (by decide), hb.ne ⟨_, _, hK8.b1⟩ (by decide), hb.ne ⟨_, _, hK8.b2⟩ (by decide)⟩
      have hNz : NT (((w9.setCell ⟨w.heap.size, 0, none⟩ (.slice q x.length cc)).setCell ⟨w.heap.size + 1, 0, none⟩ (.int .i64 0)).setCell ⟨w.heap.size + 1 + 1, 0, none⟩ .nilIface) 0 q x :=
        NT.same (by simp) (fun b hb => by
          obtain ⟨n0, n1, n2⟩ := hneT b hb
          rw [Below.heap_setCell _ _ _ _ n2, Below.heap_setCell _ _ _ _ n1, Below.heap_setCell _ _ _ _ n0]) hN8
      have hBz : Below w.heap.size w (((w9.setCell ⟨w.heap.size, 0, none⟩ (.slice q x.length cc)).setCell ⟨w.heap.size + 1, 0, none⟩ (.int .i64 0)).setCell ⟨w.heap.size + 1 + 1, 0, none⟩ .nilIface) :=
        ((hB8.setCell (Nat.le_refl _) _).setCell (by show w.heap.size ≤ w.heap.size + 1; omega) _).setCell (by show w.heap.size ≤ w.heap.size + 1 + 1; omega) _
      have g0 : (((w9.setCell ⟨w.heap.size, 0, none⟩ (.slice q x.length cc)).setCell ⟨w.heap.size + 1, 0, none⟩ (.int .i64 0)).setCell ⟨w.heap.size + 1 + 1, 0, none⟩ .nilIface).cell? ⟨w.heap.size, 0, none⟩ = some (.slice q x.length cc) :=
        ((World.cell?_setCell_other _ _ _ _ (by simp; try omega)).trans (World.cell?_setCell_other _ _ _ _ (by simp))).trans (World.cell?_setCell_same _ _ _ x0)
      have g1 : (((w9.setCell ⟨w.heap.size, 0, none⟩ (.slice q x.length cc)).setCell ⟨w.heap.size + 1, 0, none⟩ (.int .i64 0)).setCell ⟨w.heap.size + 1 + 1, 0, none⟩ .nilIface).cell? ⟨w.heap.size + 1, 0, none⟩ = some (.int .i64 0) :=
        (World.cell?_setCell_other _ _ _ _ (by simp)).trans (World.cell?_setCell_same _ _ _ ((World.cell?_setCell_other _ _ _ _ (by simp)).trans x1))
      have g2 : (((w9.setCell ⟨w.heap.size, 0, none⟩ (.slice q x.length cc)).setCell ⟨w.heap.size + 1, 0, none⟩ (.int .i64 0)).setCell ⟨w.heap.size + 1 + 1, 0, none⟩ .nilIface).cell? ⟨w.heap.size + 1 + 1, 0, none⟩ = some .nilIface :=
        World.cell?_setCell_same _ _ _ ((World.cell?_setCell_other _ _ _ _ (by simp)).trans ((World.cell?_setCell_other _ _ _ _ (by simp; try omega)).trans x2))
      have HXN : Hid (x ≠ []) := by
        have h8 := prs_any (n := 10 * ts.length + 10) (l := ts) (Nat.le_refl _)
        rw [HPR.out] at h8
        exact (pE_len (lvl := 0) hs.kinds (by omega) h8).2.1
      clear hneT
      generalize ((w9.setCell ⟨w.heap.size, 0, none⟩ (.slice q x.length cc)).setCell ⟨w.heap.size + 1, 0, none⟩ (.int .i64 0)).setCell ⟨w.heap.size + 1 + 1, 0, none⟩ .nilIface = wz at *
      unfold bodyPostD
      simp only []
      refine leaves_cons (f := 17) (args := #[.pointer (some ⟨w.heap.size + 4, 0, none⟩), .pointer (some ⟨w.heap.size, 0, none⟩), .pointer (some ⟨w.heap.size + 1, 0, none⟩), .pointer (some ⟨w.heap.size + 2, 0, none⟩)]) (by simp) (by simp [go_sem]) ?_
      refine (pcatch_idle ⟨w.heap.size + 4, 0, none⟩ ⟨w.heap.size, 0, none⟩ ⟨w.heap.size + 1, 0, none⟩ ⟨w.heap.size + 2, 0, none⟩ _).mono ?_
      rintro e u' w10 ⟨rfl, rfl, rfl⟩
      simp [Leaves, settle, results, Tryz.results11, go_sem, g0, g1, g2]
      exact ⟨by rw [HL.out]; exact ⟨_, _, rfl, hNz, hc, hcm, HXN.out⟩, hBz⟩
    | cons t r1 =>
      have hlt : ((ts.length - (t :: r1).length : Nat) : Int) ≠ (ts.length : Int) := by simp only [List.length_cons] at *; omega
      have e0 : (((ts.length - (t :: r1).length : Nat) : Int) == (ts.length : Int)) = false := by simpa using hlt
      simp only [List.length_cons] at *
      have HKK : Hid (ts.length - (r1.length + 1) = ts.length - (r1.length + 1)) := rfl
      generalize ts.length - (r1.length + 1) = kk at *
      simp only [List.take_succ_cons, List.take_zero, List.drop_succ_cons, List.drop_zero]
      repeat still_step
      refine wpStill_nil ?_
      go_wp2_with fail
      refine (pneed_false _ _).mono ?_
      rintro e w9 ⟨rfl, rfl⟩
      go_wp2
      refine leaves_cons (f := 17) (args := #[.pointer (some ⟨w.heap.size + 4, 0, none⟩), .pointer (some ⟨w.heap.size, 0, none⟩), .pointer (some ⟨w.heap.size + 1, 0, none⟩), .pointer (some ⟨w.heap.size + 2, 0, none⟩)]) (by simp) (by simp [go_sem]) ?_
      refine (pcatch_thrown 1 w.heap.size _ _ _ _ _ x0 z0 x1 z1 x2 z2 x4 x3 hsz).mono ?_
      rintro e u' w10 ⟨rfl, rfl, c0, c1, c2, hb10⟩
      have hbE := hB8.trans hb10
      simp [Leaves, settle, results, Tryz.results11, go_sem, c0, c1, c2]
      exact ⟨by rw [HL.out]; rfl, hbE⟩
end Go.Proofs.YtpbnjdgedifnoabGreatDoor
namespace Go.Proofs.YtpbnjdgedifnoabGreatDoor
open Go.RowKit
set_option linter.unusedVariables false

theorem wcatch_idle (p q : Addr) (w : World) :
    CallsD Tryz.prog 76 #[.pointer (some p), .pointer (some q)] .returning w fun e u' w' => e = .returned (.tuple #[]) ∧ u' = .returning ∧ w' = w := by
  refine callsD_of_wpS Tryz.func76 rfl fun c₀ cs hu => ?_
  apply wpS_seq
  apply wpS_region
  simp [wpOpsS, go_sem, recoverD, hu, Tryz.ntmps76, Exit.thenS]
  refine wpS_of_wp ?_
  go_wp2
  cases c₀
  simp_all [bodyPostS, results, Tryz.results76]

set_option maxHeartbeats 1000000 in
theorem wcatch_thrown (n : Int) (B : Nat) (w : World) (u0 u1 : Value) (h0 : w.cell? ⟨B, 0, none⟩ = some u0) (z0 : w.frozen? ⟨B, 0, none⟩ = false) (h1 : w.cell? ⟨B + 1, 0, none⟩ = some u1) (z1 : w.frozen? ⟨B + 1, 0, none⟩ = false) (hs : B + 2 ≤ w.heap.size) :
    CallsD Tryz.prog 76 #[.pointer (some ⟨B, 0, none⟩), .pointer (some ⟨B + 1, 0, none⟩)] (.panicking (thrownW n)) w fun e u' w' => e = .returned (.tuple #[]) ∧ u' = .panicking [{ v := .iface 96 (.agg #[.iface 42 (.int .i64 n)]), recovered := true }] ∧
      w'.cell? ⟨B, 0, none⟩ = some (.slice none 0 0) ∧ w'.cell? ⟨B + 1, 0, none⟩ = some (.iface 42 (.int .i64 n)) ∧ Below B w w' := by
  have hta : ∀ w : World, Sem.run Tryz.prog (Instr.typeAssert (.iface 96 (.agg #[.iface 42 (.int .i64 n)])) 20 96 true) w = .ok (.tuple #[.agg #[.iface 42 (.int .i64 n)], .bool true]) w := fun _ => by kernel_rfl
  refine callsD_of_wpS Tryz.func76 rfl fun c₀ cs hu => ?_
  unfold thrownW at hu
  apply wpS_seq
  apply wpS_region
  simp [wpOpsS, go_sem, recoverD, hu, Tryz.ntmps76, Exit.thenS]
  have e : ∀ p q X : Value, #[p, q] ++ (Array.replicate 11 undef).setIfInBounds 3 X = #[p, q, undef, undef, undef, X, undef, undef, undef, undef, undef, undef, undef] := fun _ _ _ => rfl
  rw [e]
  refine wpS_of_wp ?_
  go_wp2_with fail
  have hbA : Below w.heap.size w (w.alloc (.cells #[.iface 42 (.int .i64 n)] 96)) := (Below.refl _ _).alloc (Nat.le_refl _) _
  have a0 := (hbA.cell (p := ⟨B, 0, none⟩) (by show B < _; omega)).trans h0
  have a1 := (hbA.cell (p := ⟨B + 1, 0, none⟩) (by show B + 1 < _; omega)).trans h1
  have y0 := (hbA.frozen (p := ⟨B, 0, none⟩) (by show B < _; omega)).trans z0
  have y1 := (hbA.frozen (p := ⟨B + 1, 0, none⟩) (by show B + 1 < _; omega)).trans z1
  have a2 : (w.alloc (.cells #[.iface 42 (.int .i64 n)] 96)).cell? ⟨w.heap.size, 0, none⟩ = some (.iface 42 (.int .i64 n)) := by simp [go_sem]
  have ne0 : (⟨B, 0, none⟩ : Addr) ≠ ⟨w.heap.size, 0, none⟩ := by intro hh; injection hh; omega
  have ne1 : (⟨B, 0, none⟩ : Addr) ≠ ⟨B + 1, 0, none⟩ := by intro hh; injection hh; omega
  have a3 := (World.cell?_setCell_other (w.alloc (.cells #[.iface 42 (.int .i64 n)] 96)) _ _ (.slice none 0 0) ne0).trans a2
  have a4 := (World.cell?_setCell_other (w.alloc (.cells #[.iface 42 (.int .i64 n)] 96)) _ _ (.slice none 0 0) ne1).trans a1
  have hbB : Below B w (w.alloc (.cells #[.iface 42 (.int .i64 n)] 96)) := hbA.mono (by omega)
  clear hbA
  generalize w.alloc (.cells #[.iface 42 (.int .i64 n)] 96) = w1 at *
  go_region
  all_goals go_wp2
  have k0 : ((w1.setCell ⟨B, 0, none⟩ (.slice none 0 0)).setCell ⟨B + 1, 0, none⟩ (.iface 42 (.int .i64 n))).drew.cell? ⟨B, 0, none⟩ = some (.slice none 0 0) :=
    (World.cell?_setCell_other _ _ _ _ ne1.symm).trans (World.cell?_setCell_same _ _ _ a0)
  have k1 : ((w1.setCell ⟨B, 0, none⟩ (.slice none 0 0)).setCell ⟨B + 1, 0, none⟩ (.iface 42 (.int .i64 n))).drew.cell? ⟨B + 1, 0, none⟩ = some (.iface 42 (.int .i64 n)) :=
    World.cell?_setCell_same _ _ _ a4
  have k2 : Below B w ((w1.setCell ⟨B, 0, none⟩ (.slice none 0 0)).setCell ⟨B + 1, 0, none⟩ (.iface 42 (.int .i64 n))).drew :=
    ((hbB.setCell (Nat.le_refl _) _).setCell (by show B ≤ B + 1; omega) _).drew
  clear hbB a0 a1 a2 a3 a4 y0 y1 h0 h1 z0 z1 hta
  generalize ((w1.setCell ⟨B, 0, none⟩ (.slice none 0 0)).setCell ⟨B + 1, 0, none⟩ (.iface 42 (.int .i64 n))).drew = w9 at *
  cases c₀
  simp_all [bodyPostS, results, Tryz.results76]

/-- What Read comes to: the words, or what is wrong and where. -/
def ReadPost (N : Nat) (R : Except (Int × Nat) (List Tk)) (e : Ending) (w' : World) : Prop :=
  match R with
  | .ok ts => ∃ q c, e = .returned (.tuple #[.slice q ts.length c, .int .i64 0, .nilIface]) ∧ TKL w' q ts ∧ ts.length ≤ c ∧ c ≤ maxLen ∧ ∀ a, q = some a → N ≤ a.block
  | .error x => e = .returned (.tuple #[.slice none 0 0, .int .i64 x.2, .iface 42 (.int .i64 x.1)])

/-- The words so far, in the call's own memory: the two named results' blocks at B, the row behind them. -/
structure WK (w wr : World) (B : Nat) (acc : List Tk) : Prop where
  bel : Below B w wr
  size : B + 2 ≤ wr.heap.size
  row : ∃ v, wr.cell? ⟨B, 0, none⟩ = some v ∧ OT wr (B + 2) v acc
  rowf : wr.frozen? ⟨B, 0, none⟩ = false
  err : wr.cell? ⟨B + 1, 0, none⟩ = some .nilIface
  errf : wr.frozen? ⟨B + 1, 0, none⟩ = false
theorem WK.up {w wr w' : World} {B : Nat} {acc : List Tk} (h : WK w wr B acc) (k : Below wr.heap.size wr w') : WK w w' B acc where
  bel := h.bel.trans (k.mono (by have := h.size; omega))
  size := Nat.le_trans h.size k.size
  row := by
    obtain ⟨v, h1, h2⟩ := h.row
    exact ⟨v, (k.cell (p := ⟨B, 0, none⟩) (by have := h.size; show B < _; omega)).trans h1, h2.below k⟩
  rowf := (k.frozen (p := ⟨B, 0, none⟩) (by have := h.size; show B < _; omega)).trans h.rowf
  err := (k.cell (p := ⟨B + 1, 0, none⟩) (by have := h.size; show B + 1 < _; omega)).trans h.err
  errf := (k.frozen (p := ⟨B + 1, 0, none⟩) (by have := h.size; show B + 1 < _; omega)).trans h.errf
theorem WK.grow {w wr w1 : World} {B : Nat} {acc m : List Tk} {v : Value} (h : WK w wr B acc) (hb : Below (B + 2) wr w1) (hown : OT w1 (B + 2) v m) : WK w (w1.setCell ⟨B, 0, none⟩ v) B m where
  bel := (h.bel.trans (hb.mono (by omega))).setCell (Nat.le_refl _) _
  size := by have := h.size; have := hb.size; simp [World.setCell]; omega
  row := by
    obtain ⟨u, h1, h2⟩ := h.row
    exact ⟨v, World.cell?_setCell_same _ _ _ ((hb.cell (p := ⟨B, 0, none⟩) (by show B < B + 2; omega)).trans h1), hown.set (by show B < B + 2; omega) _⟩
  rowf := by
    have := (hb.frozen (p := ⟨B, 0, none⟩) (by show B < B + 2; omega)).trans h.rowf
    simpa using this
  err := ((World.cell?_setCell_other _ _ _ _ (by simp)).trans (hb.cell (p := ⟨B + 1, 0, none⟩) (by show B + 1 < B + 2; omega))).trans h.err
  errf := by
    have := (hb.frozen (p := ⟨B + 1, 0, none⟩) (by show B + 1 < B + 2; omega)).trans h.errf
    simpa using this
theorem wk_start (w : World) : WK w ((w.alloc (.cells #[.slice none 0 0] 22)).alloc (.cells #[.nilIface] 25)) w.heap.size [] where
  bel := ((Below.refl _ _).alloc (Nat.le_refl _) _).alloc (by simp) _
  size := by simp
  row := ⟨.slice none 0 0, by simp [go_sem], OT.nil _ _⟩
  rowf := by simp [go_sem]
  err := by simp [go_sem]
  errf := by simp [go_sem]

set_option maxHeartbeats 2000000 in
theorem wwalk_any (s : ByteArray) (w : World) (hs : s.size ≤ 900) :
    Calls Tryz.prog 52 #[.string s] w fun e w' => ReadPost w.heap.size (wds s.data.toList [] 0) e w' ∧ Below w.heap.size w w' := by
  have hl : s.data.toList.length = s.size := by simp
  have hmf : ∀ (fn : Fn) (first cap : Array Value) (w : World), (Instr.makeFunc fn first cap).run Tryz.prog w = .ok (.func fn first cap) w := fun _ _ _ _ => rfl
  have HK := wk_start w
  generalize hw0 : (w.alloc (.cells #[.slice none 0 0] 22)).alloc (.cells #[.nilIface] 25) = w0 at HK
  have HR0 := runBlank_any s
  have hk0 := runL_le blankb s.data.toList
  rw [wds_run]
  have HN0 := run_next s.data.toList
  generalize runL blankb s.data.toList = k0 at *
  generalize hR : wds (s.data.toList.drop k0) [] (0 + k0) = R
  have HR : Hid (wds (s.data.toList.drop k0) [] k0 = R) := by rw [← hR]; show _ = _; rw [Nat.zero_add]
  clear hR
  go_enter_defers Tryz.func52, Tryz.ntmps52
  go_wp2_with fail
  refine (HR0 _ (by unfold maxLen; omega)).mono ?_
  rintro e w1 ⟨rfl, rfl⟩
  go_wp2_with fail
  go_loopw [3] (fun a wr => ∃ (k : Nat) (acc : List Tk), k ≤ s.size ∧ a = .int .i64 k ∧ Hid (WK w wr w.heap.size acc) ∧ Hid (acc.length ≤ 300) ∧ Hid (∀ c r, s.data.toList.drop k = c :: r → (c.toNat == 32) = false) ∧ Hid (wds (s.data.toList.drop k) acc k = R)) (fun a _ => s.size - (intOf a).toNat)
  case atStart => exact ⟨k0, [], by omega, rfl, by subst hw0; exact HK, Nat.zero_le _, HN0, HR⟩
  case round =>
    clear HR0 HN0 HK hw0 hk0 HR
    obtain ⟨k, acc, hk, rfl, HK, HA, HB, HR⟩ := hrel
    by_cases hlt : k < s.size
    · have i1 : (k : Int) < (s.size : Int) := by omega
      have i2 : (k : Int) ≤ (s.size : Int) := by omega
      have hD := drop_at s k hlt
      have hne := HB.out _ _ hD
      have H1 := first_any (s.extract k s.size) wr (by simp; omega) (by simp; omega)
      rw [tail_dropW] at H1
      obtain ⟨v, hrow, hown⟩ := HK.out.row
      obtain ⟨q, cp, rfl, _⟩ := hown.slice
      have hnl := HK.out.err
      have hsz := HK.out.size
      cases hw : word1 (s.data.toList.drop k) with
      | error n =>
        rw [hw] at H1
        unfold endW at H1
        simp only [] at H1
        have HN : Hid (R = .error (n, k)) := by
          have := HR.out
          rw [hD] at hw
          rw [hD, wds_bad hne hw] at this
          exact this.symm
        clear hw hD hne HB HR hown
        go_wp2_with fail
        refine H1.mono ?_
        rintro e w2 ⟨rfl, hb⟩
        have HK2 := HK.out.up hb
        obtain ⟨v2, hr2, ho2⟩ := HK2.row
        go_wp2
        refine leaves_cons (f := 76) (args := #[.pointer (some ⟨w.heap.size, 0, none⟩), .pointer (some ⟨w.heap.size + 1, 0, none⟩)]) (by simp) (by simp [go_sem]) ?_
        refine (wcatch_thrown n w.heap.size _ _ _ hr2 HK2.rowf HK2.err HK2.errf HK2.size).mono ?_
        rintro e u' w3 ⟨rfl, rfl, c0, c1, hb3⟩
        have hb4 := HK2.bel.trans hb3
        simp [Leaves, settle, results, Tryz.results52, go_sem, c0, c1]
        exact ⟨by rw [HN.out]; rfl, hb4⟩
      | ok x =>
        obtain ⟨kd, t, n⟩ := x
        rw [hw] at H1
        unfold endW at H1
        simp only [] at H1
        obtain ⟨n1, n2⟩ := word1_size hw
        rw [List.length_drop, hl] at n2
        simp only at n1 n2
        by_cases hf : 300 ≤ acc.length
        · have HN : Hid (R = .error (4, k)) := by
            have := HR.out
            rw [hD] at hw
            rw [hD, wds_full hne hw hf] at this
            exact this.symm
          clear hw hD hne HB HR hown
          go_wp2_with fail
          refine H1.mono ?_
          rintro e w2 ⟨rfl, hb⟩
          have hbt : Below w2.heap.size w2 (w2.alloc (.cells #[.int .i64 kd, .string ⟨t.toArray⟩, .int .i64 0] 37)) := (Below.refl _ _).alloc (Nat.le_refl _) _
          have HK2 := (HK.out.up hb).up hbt
          have hr2 := (hbt.cell (p := ⟨w.heap.size, 0, none⟩) (by have := hb.size; show w.heap.size < _; omega)).trans ((hb.cell (p := ⟨w.heap.size, 0, none⟩) (by show w.heap.size < _; omega)).trans hrow)
          have hsz2 := (HK.out.up hb).size
          clear HK hrow hnl
          go_wp2_with fail
          rw [decide_eq_false (by omega)]
          refine (wneed_false _ _).mono ?_
          rintro e w3 ⟨rfl, rfl⟩
          go_wp2
          refine leaves_cons (f := 76) (args := #[.pointer (some ⟨w.heap.size, 0, none⟩), .pointer (some ⟨w.heap.size + 1, 0, none⟩)]) (by simp) (by simp [go_sem]) ?_
          refine (wcatch_thrown 4 w.heap.size _ _ _ hr2 HK2.rowf HK2.err HK2.errf HK2.size).mono ?_
          rintro e u' w3 ⟨rfl, rfl, c0, c1, hb3⟩
          have hb4 := HK2.bel.trans hb3
          simp [Leaves, settle, results, Tryz.results52, go_sem, c0, c1]
          exact ⟨by rw [HN.out]; rfl, hb4⟩
        · have HN : Hid (wds (s.data.toList.drop (k + n)) (acc ++ [mkT kd t k]) (k + n) = R) := by
            have := HR.out
            rw [hD] at hw
            rw [hD, wds_word hne hw hf] at this
            simp only at this
            rw [List.drop_drop, show k + 1 + (n - 1) = k + n by omega] at this
            exact this
          clear hw hD hne HB HR hown
          go_wp2_with fail
          refine H1.mono ?_
          rintro e w2 ⟨rfl, hb⟩
          have hbt : Below w2.heap.size w2 (w2.alloc (.cells #[.int .i64 kd, .string ⟨t.toArray⟩, .int .i64 0] 37)) := (Below.refl _ _).alloc (Nat.le_refl _) _
          have hbt2 : Below w2.heap.size w2 (w2.alloc (.cells #[.int .i64 kd, .string ⟨t.toArray⟩, .int .i64 k] 37)) := (Below.refl _ _).alloc (Nat.le_refl _) _
          have HK1 := HK.out.up hb
          have hsz2 := HK1.size
          have hr1 := (hb.cell (p := ⟨w.heap.size, 0, none⟩) (by show w.heap.size < _; omega)).trans hrow
          have hr2 := (hbt.cell (p := ⟨w.heap.size, 0, none⟩) (by show w.heap.size < _; omega)).trans hr1
          have hr3 := (hbt2.cell (p := ⟨w.heap.size, 0, none⟩) (by show w.heap.size < _; omega)).trans hr1
          have HK3 := HK1.up hbt2
          clear HK hrow hnl hbt
          go_wp2_with fail
          rw [decide_eq_true (by omega)]
          refine (wneed_true _ _).mono ?_
          rintro e w3 ⟨rfl, rfl⟩
          obtain ⟨v3, r3, hown3⟩ := HK3.row
          obtain rfl : v3 = .slice q acc.length cp := Option.some.inj (r3.symm.trans hr3)
          have hz : (w2.alloc (.cells #[.int .i64 kd, .string ⟨t.toArray⟩, .int .i64 k] 37)).heap.size = w2.heap.size + 1 := by simp
          have hrf3 := HK3.rowf
          have hal : acc.length ≤ 300 := HA.out
          have i3 : (k : Int) + (n : Int) ≤ (s.size : Int) := by omega
          have hlen : (acc ++ [mkT kd t k]).length = acc.length + 1 := by simp
          have Hlen : Hid _ := hlen
          clear hlen
          go_wp2_with (at_builtin; refine append_tok (w2.alloc (.cells #[.int .i64 kd, .string ⟨t.toArray⟩, .int .i64 k] 37)) rfl (.tmp 34) (.tmp 36) rfl (w.heap.size + 2) (.slice q acc.length cp) acc rfl hown3 (mkT kd t k) (by rw [hz]; rfl) (by omega) (by rw [hz]; omega) ?_; intro v' w4 hown4 hb4; obtain ⟨q4, c4, rfl, _⟩ := hown4.slice; rw [Hlen.out] at hown4 ⊢; have h4 := (hb4.cell (p := ⟨w.heap.size, 0, none⟩) (by show w.heap.size < w.heap.size + 2; omega)).trans hr3; have z4 := (hb4.frozen (p := ⟨w.heap.size, 0, none⟩) (by show w.heap.size < w.heap.size + 2; omega)).trans hrf3)
          have HK5 := HK3.grow hb4 hown4
          generalize w4.setCell ⟨w.heap.size, 0, none⟩ (.slice q4 (acc.length + 1) c4) = w5 at *
          have HB5 := runBlank_any (s.extract (k + n) s.size) w5 (by simp; unfold maxLen; omega)
          have HR5 := wds_run (s.data.toList.drop (k + n)) (acc ++ [mkT kd t k]) (k + n)
          have hbl := runL_le blankb (s.data.toList.drop (k + n))
          have HN5 := run_next (s.data.toList.drop (k + n))
          rw [tail_dropW] at HB5
          rw [List.drop_drop] at HN5 HR5
          rw [List.length_drop, hl] at hbl
          generalize runL blankb (s.data.toList.drop (k + n)) = b at *
          have HR6 : Hid (wds (s.data.toList.drop (k + n + b)) (acc ++ [mkT kd t k]) (k + n + b) = R) := HR5.symm.trans HN.out
          have HN6 : Hid (∀ c r, s.data.toList.drop (k + n + b) = c :: r → (c.toNat == 32) = false) := HN5
          have HA6 : Hid ((acc ++ [mkT kd t k]).length ≤ 300) := by show _ ≤ _; rw [Hlen.out]; omega
          have HK6 : Hid _ := HK5
          clear HR5 HN5 HK5 HN hown3 hown4 hb4 h4 z4 hr2 hr3 r3 hrf3 HK3 HK1
          refine HB5.mono ?_
          rintro e w6 ⟨rfl, rfl⟩
          go_wp2
          go_roundw
          case rel => exact ⟨k + n + b, _, by omega, by go_num, HK6, HA6, HN6, HR6⟩
          case measure => simp [intOf]; omega
    · obtain rfl : k = s.size := by omega
      have i1 : ¬ (s.size : Int) < (s.size : Int) := by omega
      have HN : Hid (R = .ok acc) := by
        have := HR.out
        rw [List.drop_of_length_le (by simp), wds_nil] at this
        exact this.symm
      obtain ⟨v, hrow, hown⟩ := HK.out.row
      obtain ⟨q, cp, rfl, _⟩ := hown.slice
      have hnl := HK.out.err
      have hrf := HK.out.rowf
      have hnf := HK.out.errf
      have hbw := HK.out.bel
      have hne : (⟨w.heap.size, 0, none⟩ : Addr) ≠ ⟨w.heap.size + 1, 0, none⟩ := by intro hh; injection hh; omega
      have hown2 := (hown.set (a := ⟨w.heap.size, 0, none⟩) (by show w.heap.size < w.heap.size + 2; omega) (.slice q acc.length cp)).set (a := ⟨w.heap.size + 1, 0, none⟩) (by show w.heap.size + 1 < w.heap.size + 2; omega) .nilIface
      have g0 := (World.cell?_setCell_other (wr.setCell ⟨w.heap.size, 0, none⟩ (.slice q acc.length cp)) _ _ .nilIface hne.symm).trans (World.cell?_setCell_same _ _ (.slice q acc.length cp) hrow)
      have g1 := World.cell?_setCell_same (wr.setCell ⟨w.heap.size, 0, none⟩ (.slice q acc.length cp)) _ .nilIface ((World.cell?_setCell_other _ _ _ _ hne).trans hnl)
      have hb4 := (hbw.setCell (p := ⟨w.heap.size, 0, none⟩) (Nat.le_refl _) (.slice q acc.length cp)).setCell (p := ⟨w.heap.size + 1, 0, none⟩) (by show w.heap.size ≤ w.heap.size + 1; omega) .nilIface
      clear HK HR HB hown hbw
      go_wp2
      unfold bodyPostD
      simp only []
      refine leaves_cons (f := 76) (args := #[.pointer (some ⟨w.heap.size, 0, none⟩), .pointer (some ⟨w.heap.size + 1, 0, none⟩)]) (by simp) (by simp [go_sem]) ?_
      refine (wcatch_idle ⟨w.heap.size, 0, none⟩ ⟨w.heap.size + 1, 0, none⟩ _).mono ?_
      rintro e u' w3 ⟨rfl, rfl, rfl⟩
      simp [Leaves, settle, results, Tryz.results52, go_sem, g0, g1]
      obtain ⟨q', c', hq', hrest⟩ := hown2.slice
      injection hq' with e1 e2 e3
      subst e1 e3
      exact ⟨by rw [HN.out]; exact ⟨_, _, rfl, hrest.1, hrest.2.1, hrest.2.2.1, fun a ha => Nat.le_trans (by omega) (hrest.2.2.2 a ha)⟩, hb4⟩

theorem read_any (s : ByteArray) (w : World) (hs : s.size ≤ maxLen) :
    Calls Tryz.prog 26 #[.string s] w fun e w' => ReadPost w.heap.size (readL s.data.toList) e w' ∧ Below w.heap.size w w' := by
  have hl : s.data.toList.length = s.size := by simp
  unfold maxLen at hs
  by_cases h : 900 < s.size
  · have HF : Hid (readL s.data.toList = .error (4, 0)) := if_pos (by omega)
    have h' : (900 : Int) < (s.size : Int) := by omega
    go_enter Tryz.func26, Tryz.ntmps26
    go_wp2
    go_ret3
    exact ⟨by rw [HF.out]; rfl, Below.refl _ _⟩
  · have HF : Hid (readL s.data.toList = wds s.data.toList [] 0) := if_neg (by omega)
    have h' : ¬ (900 : Int) < (s.size : Int) := by omega
    have H1 := wwalk_any s w (by omega)
    rw [← HF.out] at H1
    generalize readL s.data.toList = R at *
    cases R with
    | ok ts =>
      go_enter Tryz.func26, Tryz.ntmps26
      go_wp2_with fail
      refine H1.mono ?_
      rintro e w1 ⟨⟨q, c, rfl, hr⟩, hb⟩
      go_wp2
      go_ret3
      exact ⟨⟨q, c, rfl, hr⟩, hb⟩
    | error x =>
      go_enter Tryz.func26, Tryz.ntmps26
      go_wp2_with fail
      refine H1.mono ?_
      rintro e w1 ⟨rfl, hb⟩
      go_wp2
      go_ret3
      exact ⟨rfl, hb⟩
end Go.Proofs.YtpbnjdgedifnoabGreatDoor
namespace Go.Proofs.YtpbnjdgedifnoabGreatDoor
open Go.RowKit
set_option linter.unusedVariables false

/-- What Quote tells, its text written out. -/
theorem quoteW_any (s : ByteArray) (w : World) (hs : s.size ≤ maxLen) :
    Calls Tryz.prog 51 #[.string s] w fun e w' => (∃ v, e = .returned (.tuple #[.string ⟨(if textOk s.data.toList = true then quoted s.data.toList else []).toArray⟩, v])) ∧ Below w.heap.size w w' := by
  have hl : s.data.toList.length = s.size := by simp
  by_cases h1 : s.size ≤ 60
  · refine (quote_short s w h1).mono ?_
    rintro e w' ⟨rfl, hb⟩
    cases h2 : s.data.toList.all okb
    · have : textOk s.data.toList = false := by unfold textOk; rw [h2]; simp
      exact ⟨⟨_, by rw [qres_bad h2, this]; rfl⟩, hb⟩
    · have : textOk s.data.toList = true := by unfold textOk; rw [h2, decide_eq_true (by omega)]; rfl
      exact ⟨⟨_, by rw [qres_ok h2, this]; rfl⟩, hb⟩
  · refine (quote_full s w hs (by omega)).mono ?_
    rintro e w' ⟨rfl, rfl⟩
    have : textOk s.data.toList = false := by unfold textOk; rw [decide_eq_false (by omega)]; rfl
    exact ⟨⟨_, by rw [this]; rfl⟩, Below.refl _ _⟩

theorem ba_same {a b : ByteArray} (h : a.data.toList = b.data.toList) : a = b := by
  have := of_list h
  rw [this]
theorem wr_ba {t : Tk} {b : ByteArray} (h : b.data.toList = wtn t) : b = ⟨(wtn t).toArray⟩ := by rw [← h]

set_option maxHeartbeats 1000000 in
theorem write_any (t : Tk) (w : World) (hs : t.s.size ≤ 140737488351232) :
    Calls Tryz.prog 25 #[.agg #[.int .i64 t.kind, .string t.s, .int .i64 t.at_]] w fun e w' => e = .returned (.string ⟨(wtn t).toArray⟩) ∧ Below w.heap.size w w' := by
  have hb0 : Below w.heap.size w (w.alloc (.cells #[.int .i64 t.kind, .string t.s, .int .i64 t.at_] 37)) := (Below.refl _ _).alloc (Nat.le_refl _) _
  by_cases h4 : t.kind = 4
  · have HW : Hid ((⟨#[63]⟩ ++ t.s : ByteArray) = ⟨(wtn t).toArray⟩) := wr_ba (by rw [wr_slot h4]; simp)
    have e4 : (t.kind == 4) = true := by simpa using h4
    have i1 : ¬ 9223372036854775807 < 1 + t.s.size := by omega
    clear h4
    go_enter Tryz.func25, Tryz.ntmps25
    go_wp2
    go_ret
    exact ⟨by rw [← HW.out]; rfl, hb0⟩
  · have e4 : (t.kind == 4) = false := by simpa using h4
    by_cases h3 : t.kind = 3
    · have HW : Hid (wtn t = if textOk t.s.data.toList = true then quoted t.s.data.toList else []) := wr_quo h3
      have e3 : (t.kind == 3) = true := by simpa using h3
      have H1 := fun w => quoteW_any t.s w (by unfold maxLen; omega)
      rw [← HW.out] at H1
      clear h4 h3
      go_enter Tryz.func25, Tryz.ntmps25
      go_wp2_with fail
      refine (H1 _).mono ?_
      rintro e w1 ⟨⟨v, rfl⟩, hb⟩
      go_wp2
      go_ret
      exact ⟨rfl, hb0.trans (hb.mono hb0.size)⟩
    · have HW : Hid (t.s = ⟨(wtn t).toArray⟩) := wr_ba (wr_else h3 h4).symm
      have e3 : (t.kind == 3) = false := by simpa using h3
      clear h4 h3
      go_enter Tryz.func25, Tryz.ntmps25
      go_wp2
      go_ret
      exact ⟨by rw [← HW.out]; rfl, hb0⟩

theorem wr_size (t : Tk) : (wtn t).length ≤ t.s.size + 122 := by
  have hl : t.s.data.toList.length = t.s.size := by simp
  unfold wtn
  split
  · simp
  · split
    · split
      · rename_i h
        unfold textOk at h
        rw [Bool.and_eq_true, decide_eq_true_eq] at h
        have := body_length t.s.data.toList
        unfold quoted
        rw [List.length_cons, List.length_append, List.length_cons, List.length_nil]; omega
      · simp
    · omega

/-- What spellOne tells. -/
def oneV (t : Tk) : Value := if spB t = true then .tuple #[.string ⟨(wtn t).toArray⟩, .nilIface] else .tuple #[.string ⟨#[]⟩, .iface 42 (.int .i64 1)]
theorem oneV_yes {t : Tk} (h : spB t = true) : oneV t = .tuple #[.string ⟨(wtn t).toArray⟩, .nilIface] := if_pos h
theorem oneV_no {t : Tk} (h : ¬ spB t = true) : oneV t = .tuple #[.string ⟨#[]⟩, .iface 42 (.int .i64 1)] := if_neg h

set_option maxHeartbeats 2000000 in
theorem spellOne_any (t : Tk) (w : World) (hs : t.s.size ≤ 140737488351232) :
    Calls Tryz.prog 16 #[.agg #[.int .i64 t.kind, .string t.s, .int .i64 t.at_]] w fun e w' => e = .returned (oneV t) ∧ Below w.heap.size w w' := by
  have hb0 : Below w.heap.size w (w.alloc (.cells #[.int .i64 t.kind, .string t.s, .int .i64 t.at_] 37)) := (Below.refl _ _).alloc (Nat.le_refl _) _
  have H1 := fun w => write_any t w hs
  have hwl := wr_size t
  have H2 := fun w => read_any ⟨(wtn t).toArray⟩ w (by show (wtn t).length ≤ maxLen; unfold maxLen; omega)
  have HD : (⟨(wtn t).toArray⟩ : ByteArray).data.toList = wtn t := rfl
  rw [HD] at H2
  generalize hB : (⟨(wtn t).toArray⟩ : ByteArray) = B at *
  cases hR : readL (wtn t) with
  | error x =>
    have HV : Hid (_ = _) := oneV_no (t := t) (fun h => by have := spB_read h; rw [hR] at this; cases this)
    rw [hR] at H2
    clear hR HD hwl hB
    go_enter Tryz.func16, Tryz.ntmps16
    go_wp2_with fail
    refine (H1 _).mono ?_
    rintro e w1 ⟨rfl, hb1⟩
    go_wp2_with fail
    refine (H2 _).mono ?_
    rintro e w2 ⟨rfl, hb2⟩
    have hb3 := hb1.trans (hb2.mono hb1.size)
    have q0 : ∀ o, w2.cell? ⟨w.heap.size, o, none⟩ = _ := fun o => hb3.cell (p := ⟨w.heap.size, o, none⟩) (by simp)
    have qf : ∀ o, w2.frozen? ⟨w.heap.size, o, none⟩ = _ := fun o => hb3.frozen (p := ⟨w.heap.size, o, none⟩) (by simp)
    have d0 : w2.cell? ⟨w.heap.size, 0, none⟩ = some (.int .i64 t.kind) := (q0 0).trans (by simp [go_sem])
    have d1 : w2.cell? ⟨w.heap.size, 1, none⟩ = some (.string t.s) := (q0 1).trans (by simp [go_sem])
    have d2 : w2.cell? ⟨w.heap.size, 2, none⟩ = some (.int .i64 t.at_) := (q0 2).trans (by simp [go_sem])
    have f2 : w2.frozen? ⟨w.heap.size, 2, none⟩ = false := (qf 2).trans (by simp [go_sem])
    have hb4 := hb0.trans (hb3.mono hb0.size)
    clear q0 qf
    go_wp2_with fail
    go_quiet (fail)
    go_wp2
    go_ret2
    exact ⟨by rw [HV.out]; rfl, below_draws (hb4.setCell (Nat.le_refl _) _) _⟩
  | ok us =>
    rw [hR] at H2
    by_cases h1 : us.length = 1
    · obtain ⟨u, rfl⟩ : ∃ u, us = [u] := List.length_eq_one_iff.1 h1
      by_cases hk : u.kind = t.kind ∧ u.s = t.s ∧ u.at_ = 0
      · have HV : Hid (_ = _) := oneV_yes (t := t) (read_spB (by rw [hR]; obtain ⟨e1, e2, e3⟩ := hk; cases u; simp only at e1 e2 e3; subst e1 e2 e3; rfl))
        obtain ⟨e1, e2, e3⟩ := hk
        clear hR HD hwl h1
        go_enter Tryz.func16, Tryz.ntmps16
        go_wp2_with fail
        refine (H1 _).mono ?_
        rintro e w1 ⟨rfl, hb1⟩
        go_wp2_with fail
        refine (H2 _).mono ?_
        rintro e w2 ⟨⟨q, cp, rfl, hq, _, _, hqn⟩, hb2⟩
        have hb3 := hb1.trans (hb2.mono hb1.size)
        have q0 : ∀ o, w2.cell? ⟨w.heap.size, o, none⟩ = _ := fun o => hb3.cell (p := ⟨w.heap.size, o, none⟩) (by simp)
        have qf : ∀ o, w2.frozen? ⟨w.heap.size, o, none⟩ = _ := fun o => hb3.frozen (p := ⟨w.heap.size, o, none⟩) (by simp)
        have d0 : w2.cell? ⟨w.heap.size, 0, none⟩ = some (.int .i64 t.kind) := (q0 0).trans (by simp [go_sem])
        have d1 : w2.cell? ⟨w.heap.size, 1, none⟩ = some (.string t.s) := (q0 1).trans (by simp [go_sem])
        have d2 : w2.cell? ⟨w.heap.size, 2, none⟩ = some (.int .i64 t.at_) := (q0 2).trans (by simp [go_sem])
        have f2 : w2.frozen? ⟨w.heap.size, 2, none⟩ = false := (qf 2).trans (by simp [go_sem])
        have hb4 := hb0.trans (hb3.mono hb0.size)
        have hb1s : w.heap.size + 1 ≤ w1.heap.size := by have := hb1.size; simpa using this
        clear q0 qf
        have hcell := hq.at (i := 0) (by simp)
        obtain ⟨b, off, rfl, hbw, c0, c1, c2⟩ := hcell
        simp only [List.getElem_cons_zero, Nat.zero_mul, Nat.add_zero] at c0 c1 c2
        have hbn := hqn _ rfl
        simp only at hbn
        have nb : ∀ o : Nat, (⟨w.heap.size, 2, none⟩ : Addr) ≠ ⟨b, o, none⟩ := by intro o hh; injection hh; omega
        have g0 := (World.cell?_setCell_other w2 _ _ (.int .i64 0) (nb off)).trans c0
        have g1 := (World.cell?_setCell_other w2 _ _ (.int .i64 0) (nb (off + 1))).trans c1
        have g2 := (World.cell?_setCell_other w2 _ _ (.int .i64 0) (nb (off + 2))).trans c2
        have n0 : (⟨w.heap.size, 2, none⟩ : Addr) ≠ ⟨w.heap.size, 0, none⟩ := by intro hh; injection hh; omega
        have n1 : (⟨w.heap.size, 2, none⟩ : Addr) ≠ ⟨w.heap.size, 1, none⟩ := by intro hh; injection hh; omega
        have k0 := (World.cell?_setCell_other w2 _ _ (.int .i64 0) n0).trans d0
        have k1 := (World.cell?_setCell_other w2 _ _ (.int .i64 0) n1).trans d1
        have k2 := World.cell?_setCell_same w2 _ (.int .i64 0) d2
        have hsz : w.heap.size < w2.heap.size := by have := hb2.size; omega
        rw [e1] at g0
        rw [e2] at g1
        rw [e3] at g2
        clear c0 c1 c2 e1 e2 e3
        go_wp2_with fail
        go_quiet (fail)
        go_wp2
        go_ret2
        exact ⟨by rw [HV.out, hB]; rfl, below_draws (hb4.setCell (Nat.le_refl _) _) _⟩
      · have HV : Hid (_ = _) := oneV_no (t := t) (fun h => hk (by have := spB_read h; rw [hR] at this; injection this with this; injection this with this _; rw [this]; exact ⟨rfl, rfl, rfl⟩))
        clear hR HD hwl h1 hB
        go_enter Tryz.func16, Tryz.ntmps16
        go_wp2_with fail
        refine (H1 _).mono ?_
        rintro e w1 ⟨rfl, hb1⟩
        go_wp2_with fail
        refine (H2 _).mono ?_
        rintro e w2 ⟨⟨q, cp, rfl, hq, _, _, hqn⟩, hb2⟩
        have hb3 := hb1.trans (hb2.mono hb1.size)
        have q0 : ∀ o, w2.cell? ⟨w.heap.size, o, none⟩ = _ := fun o => hb3.cell (p := ⟨w.heap.size, o, none⟩) (by simp)
        have qf : ∀ o, w2.frozen? ⟨w.heap.size, o, none⟩ = _ := fun o => hb3.frozen (p := ⟨w.heap.size, o, none⟩) (by simp)
        have d0 : w2.cell? ⟨w.heap.size, 0, none⟩ = some (.int .i64 t.kind) := (q0 0).trans (by simp [go_sem])
        have d1 : w2.cell? ⟨w.heap.size, 1, none⟩ = some (.string t.s) := (q0 1).trans (by simp [go_sem])
        have d2 : w2.cell? ⟨w.heap.size, 2, none⟩ = some (.int .i64 t.at_) := (q0 2).trans (by simp [go_sem])
        have f2 : w2.frozen? ⟨w.heap.size, 2, none⟩ = false := (qf 2).trans (by simp [go_sem])
        have hb4 := hb0.trans (hb3.mono hb0.size)
        have hb1s : w.heap.size + 1 ≤ w1.heap.size := by have := hb1.size; simpa using this
        clear q0 qf
        have hcell := hq.at (i := 0) (by simp)
        obtain ⟨b, off, rfl, hbw, c0, c1, c2⟩ := hcell
        simp only [List.getElem_cons_zero, Nat.zero_mul, Nat.add_zero] at c0 c1 c2
        have hbn := hqn _ rfl
        simp only at hbn
        have nb : ∀ o : Nat, (⟨w.heap.size, 2, none⟩ : Addr) ≠ ⟨b, o, none⟩ := by intro o hh; injection hh; omega
        have g0 := (World.cell?_setCell_other w2 _ _ (.int .i64 0) (nb off)).trans c0
        have g1 := (World.cell?_setCell_other w2 _ _ (.int .i64 0) (nb (off + 1))).trans c1
        have g2 := (World.cell?_setCell_other w2 _ _ (.int .i64 0) (nb (off + 2))).trans c2
        have n0 : (⟨w.heap.size, 2, none⟩ : Addr) ≠ ⟨w.heap.size, 0, none⟩ := by intro hh; injection hh; omega
        have n1 : (⟨w.heap.size, 2, none⟩ : Addr) ≠ ⟨w.heap.size, 1, none⟩ := by intro hh; injection hh; omega
        have k0 := (World.cell?_setCell_other w2 _ _ (.int .i64 0) n0).trans d0
        have k1 := (World.cell?_setCell_other w2 _ _ (.int .i64 0) n1).trans d1
        have k2 := World.cell?_setCell_same w2 _ (.int .i64 0) d2
        have hsz : w.heap.size < w2.heap.size := by have := hb2.size; omega
        clear c0 c1 c2
        obtain ⟨tk, ts, ta⟩ := t
        obtain ⟨uk, us, ua⟩ := u
        simp only at *
        by_cases e1 : uk = tk
        · subst e1
          by_cases e2 : us = ts
          · subst e2
            have e3 : ¬ ua = 0 := fun h => hk ⟨rfl, rfl, h⟩
            clear hk
            go_wp2_with fail
            go_quiet (fail)
            go_wp2
            go_ret2
            exact ⟨by rw [HV.out]; rfl, below_draws (hb4.setCell (Nat.le_refl _) _) _⟩
          · have e2' : ¬ us.toList = ts.toList := fun h => e2 (ba_same (by simpa only [ByteArray.toList_eq] using h))
            clear hk
            go_wp2_with fail
            go_quiet (fail)
            go_wp2
            go_ret2
            exact ⟨by rw [HV.out]; rfl, below_draws (hb4.setCell (Nat.le_refl _) _) _⟩
        · clear hk
          go_wp2_with fail
          go_quiet (fail)
          go_wp2
          go_ret2
          exact ⟨by rw [HV.out]; rfl, below_draws (hb4.setCell (Nat.le_refl _) _) _⟩
    · have HV : Hid (_ = _) := oneV_no (t := t) (fun h => by have := spB_read h; rw [hR] at this; injection this with this; rw [this] at h1; simp at h1)
      have i1 : ((us.length : Int) != 1) = true := by simp; omega
      clear hR HD hwl hB
      go_enter Tryz.func16, Tryz.ntmps16
      go_wp2_with fail
      refine (H1 _).mono ?_
      rintro e w1 ⟨rfl, hb1⟩
      go_wp2_with fail
      refine (H2 _).mono ?_
      rintro e w2 ⟨⟨q, cp, rfl, hq, _, _, hqn⟩, hb2⟩
      have hb3 := hb1.trans (hb2.mono hb1.size)
      have q0 : ∀ o, w2.cell? ⟨w.heap.size, o, none⟩ = _ := fun o => hb3.cell (p := ⟨w.heap.size, o, none⟩) (by simp)
      have qf : ∀ o, w2.frozen? ⟨w.heap.size, o, none⟩ = _ := fun o => hb3.frozen (p := ⟨w.heap.size, o, none⟩) (by simp)
      have d0 : w2.cell? ⟨w.heap.size, 0, none⟩ = some (.int .i64 t.kind) := (q0 0).trans (by simp [go_sem])
      have d1 : w2.cell? ⟨w.heap.size, 1, none⟩ = some (.string t.s) := (q0 1).trans (by simp [go_sem])
      have d2 : w2.cell? ⟨w.heap.size, 2, none⟩ = some (.int .i64 t.at_) := (q0 2).trans (by simp [go_sem])
      have f2 : w2.frozen? ⟨w.heap.size, 2, none⟩ = false := (qf 2).trans (by simp [go_sem])
      have hb4 := hb0.trans (hb3.mono hb0.size)
      have hb1s : w.heap.size + 1 ≤ w1.heap.size := by have := hb1.size; simpa using this
      clear q0 qf
      go_wp2_with fail
      go_quiet (fail)
      go_wp2
      go_ret2
      exact ⟨by rw [HV.out]; rfl, below_draws (hb4.setCell (Nat.le_refl _) _) _⟩
end Go.Proofs.YtpbnjdgedifnoabGreatDoor
namespace Go.Proofs.YtpbnjdgedifnoabGreatDoor
open Go.RowKit
set_option linter.unusedVariables false

theorem append_text (w : World) {ops : Array Oper} {rest : List Oper} {o : Oper} {a : Act} {Q : Exit → Act → World → Prop} (hgd : o.guard = none) (s x : Operand)
    (ho : o.op = .call { callee := .builtin .append, args := #[s, x], argTypes := #[52, 9] })
    (base : Nat) (v : Value) (l : List UInt8) (hs : a.eval s = v) (hown : OwnB w base v l) (t : ByteArray) (hx : a.eval x = .string t)
    (hlen : l.length + t.size ≤ 140737488355328) (hbase : base ≤ w.heap.size)
    (h : ∀ v' w', OwnB w' base v' (l ++ t.data.toList) → Below base w w' → wpList Tryz.prog ops Q rest (a.put o.dst v') w') : wpList Tryz.prog ops Q (o :: rest) a w := by
  obtain ⟨i0, hi, hz0, hz1, hz2⟩ := info_parts Tryz.infoByte
  refine Lib.wpList_append_own_string w hgd s x 52 9 ho base 5 i0 Tryz.underlying52 Tryz.underlying9 hi hz0 hz1 hz2 v l.length (bs l) hs hown t hx (by unfold maxLen; omega) hlen hbase ?_
  intro v' w' h1 h2 _
  refine h v' w' ?_ ?_
  · have e : bs (l ++ t.data.toList) = bs l ++ Lib.strCells t := by simp [bs, Lib.strCells]
    unfold OwnB
    rw [e, List.length_append, show t.data.toList.length = t.size by simp]
    exact h1
  · exact (Below.refl base w).grown h2 hbase (fun k hk => (World.ownsRow.lt hown k hk).1)

theorem spB_len {t : Tk} (h : spB t = true) : (wtn t).length ≤ 900 := by
  have := spB_read h
  unfold readL at this
  split at this
  · cases this
  · omega
theorem gaps_len : ∀ ts : List Tk, ts.all spB = true → (gaps ts).length ≤ ts.length * 901
  | [], _ => by simp [gaps]
  | t :: r, h => by
    rw [List.all_cons, Bool.and_eq_true] at h
    have h1 := spB_len h.1
    have h2 := gaps_len r h.2
    rw [gaps_cons]
    simp only [List.length_cons, List.length_append]
    omega
theorem lineW_len (ts : List Tk) (h : ts.all spB = true) : (lineW ts).length ≤ ts.length * 901 := by
  have := gaps_len ts h
  unfold lineW
  rw [List.length_tail]; omega
theorem all_more {ts : List Tk} {k : Nat} (h : k < ts.length) (ha : (ts.take k).all spB = true) (hb : spB ts[k] = true) : (ts.take (k + 1)).all spB = true := by
  rw [List.take_succ_eq_append_getElem h, List.all_append, ha]; simp [hb]
theorem all_not {ts : List Tk} {k : Nat} (h : k < ts.length) (hb : ¬ spB ts[k] = true) : ¬ ts.all spB = true := by
  intro ha
  exact hb (List.all_eq_true.1 ha _ (List.getElem_mem h))

/-- What Spell tells, as a value. -/
def spellV : Except Int (List UInt8) → Value
  | .ok l => .tuple #[.string ⟨l.toArray⟩, .nilIface]
  | .error n => .tuple #[.string ⟨#[]⟩, .iface 42 (.int .i64 n)]

set_option maxHeartbeats 2000000 in
theorem spell_any (ts : List Tk) (q : Option Addr) (c : Nat) (w : World) (hv : TKL w q ts) (hc : ts.length ≤ maxLen) (hs : ∀ t ∈ ts, t.s.size ≤ 140737488351232) :
    Calls Tryz.prog 10 #[.slice q ts.length c] w fun e w' => e = .returned (spellV (spellL ts)) ∧ Below w.heap.size w w' := by
  unfold maxLen at hc
  by_cases h300 : 300 < ts.length
  · have HV : Hid (spellL ts = .error 4) := if_pos h300
    have i1 : (300 : Int) < (ts.length : Int) := by omega
    go_enter Tryz.func10, Tryz.ntmps10
    go_wp2
    go_ret2
    exact ⟨by rw [HV.out]; rfl, Below.refl _ _⟩
  · have i1 : ¬ (300 : Int) < (ts.length : Int) := by omega
    have HS : Hid (∀ t ∈ ts, t.s.size ≤ 140737488351232) := hs
    have HV0 : Hid (¬ 300 < ts.length) := h300
    clear hs
    go_enter Tryz.func10, Tryz.ntmps10
    go_wp2
    go_loopw [4, 15] (fun v i wr => ∃ k : Nat, k ≤ ts.length ∧ i = .int .i64 k ∧ OwnB wr w.heap.size v (lineW (ts.take k)) ∧ Hid ((ts.take k).all spB = true) ∧ Below w.heap.size w wr) (fun _ i _ => ts.length - (intOf i).toNat)
    case atStart => exact ⟨0, Nat.zero_le _, rfl, ownB_nil _ _, rfl, Below.refl _ _⟩
    case round =>
      obtain ⟨k, hk, rfl, hown, HA, hb⟩ := hrel
      have hlen := lineW_len _ HA.out
      rw [List.length_take, Nat.min_eq_left hk] at hlen
      by_cases hlt : k < ts.length
      · have i2 : (k : Int) < (ts.length : Int) := by omega
        obtain ⟨b, off, rfl, hbw, c0, c1, c2⟩ := (hv.up hb).at hlt
        have HT : Hid (ts.take (k + 1) = ts.take k ++ [ts[k]]) := List.take_succ_eq_append_getElem hlt
        have hts := HS.out _ (List.getElem_mem hlt)
        have HM : Hid (spB ts[k] = true → (ts.take (k + 1)).all spB = true) := all_more hlt HA.out
        have HNo : Hid (¬ spB ts[k] = true → ¬ ts.all spB = true) := all_not hlt
        generalize ts[k] = t at *
        have H1 := fun w => spellOne_any t w hts
        have hbt : Below wr.heap.size wr (wr.alloc (.cells #[.int .i64 t.kind, .string t.s, .int .i64 t.at_] 37)) := (Below.refl _ _).alloc (Nat.le_refl _) _
        by_cases hsp : spB t = true
        · have HM2 : Hid _ := HM.out hsp
          have hwl := spB_len hsp
          have hws : (⟨(wtn t).toArray⟩ : ByteArray).size = (wtn t).length := rfl
          have Hwd : Hid ((⟨(wtn t).toArray⟩ : ByteArray).data.toList = wtn t) := rfl
          rw [oneV_yes hsp] at H1
          generalize hW : (⟨(wtn t).toArray⟩ : ByteArray) = W at *
          clear hsp HM HNo hW
          go_wp2_with fail
          refine (H1 _).mono ?_
          rintro e w2 ⟨rfl, hb2⟩
          have hb3 := hbt.trans (hb2.mono hbt.size)
          have hb4 := hb.trans (hb3.mono hb.size)
          have hown2 := hown.up hb3
          have hz2 := hb4.size
          by_cases h0 : k = 0
          · have i3 : ¬ (0 : Int) < (k : Int) := by omega
            have HL : Hid (lineW (ts.take k) ++ W.data.toList = lineW (ts.take (k + 1))) := by
              show _ = _
              rw [HT.out, h0, List.take_zero, List.nil_append, lineW_one, Hwd.out]; rfl
            clear h0
            generalize lineW (ts.take k) = l at *
            go_wp2_with (at_builtin; refine append_text _ rfl (.tmp 33) (.tmp 34) rfl w.heap.size u4 l rfl hown2 W rfl (by omega) hz2 ?_; intro v' w3 hown3 hb5)
            go_roundw
            case rel => exact ⟨k + 1, by omega, by go_num, by rw [← HL.out]; exact hown3, HM2, hb4.trans hb5⟩
            case measure => simp [intOf]; omega
          · have i3 : (0 : Int) < (k : Int) := by omega
            have HL : Hid ((lineW (ts.take k) ++ [32]) ++ W.data.toList = lineW (ts.take (k + 1))) := by
              show _ = _
              have hne : ts.take k ≠ [] := by
                intro h
                have := congrArg List.length h
                rw [List.length_take, Nat.min_eq_left hk] at this
                simp at this; omega
              rw [HT.out, lineW_snoc hne, Hwd.out]
            clear h0
            generalize lineW (ts.take k) = l at *
            have t1 : True := trivial
            go_wp2_with (first
              | (at_builtin; have _t := t1; refine append_byte _ rfl (.tmp 30) (.tmp 31) rfl w.heap.size u4 l rfl hown2 _ 32 rfl rfl (by omega) hz2 ?_; intro v5 w3 hown3 hb5; have hz3 := Nat.le_trans hz2 hb5.size; clear t1)
              | (at_builtin; refine append_text _ rfl (.tmp 33) (.tmp 34) rfl w.heap.size v5 (l ++ [32]) rfl hown3 W rfl (by simp only [List.length_append, List.length_cons, List.length_nil]; omega) hz3 ?_; intro v' w4 hown4 hb6))
            go_roundw
            case rel => exact ⟨k + 1, by omega, by go_num, by rw [← HL.out]; exact hown4, HM2, (hb4.trans hb5).trans hb6⟩
            case measure => simp [intOf]; omega
        · have HV : Hid (spellL ts = .error 1) := by
            show _ = _
            unfold spellL
            rw [if_neg HV0.out, if_neg (HNo.out hsp)]
          rw [oneV_no hsp] at H1
          clear hsp HM HNo hown
          go_wp2_with fail
          refine (H1 _).mono ?_
          rintro e w2 ⟨rfl, hb2⟩
          have hb3 := hbt.trans (hb2.mono hbt.size)
          have hb4 := hb.trans (hb3.mono hb.size)
          go_wp2
          go_ret2
          exact ⟨by rw [HV.out]; rfl, hb4⟩
      · obtain rfl : k = ts.length := by omega
        have i2 : ¬ (ts.length : Int) < (ts.length : Int) := by omega
        rw [List.take_of_length_le (Nat.le_refl _)] at hown HA hlen
        obtain ⟨p4, n4, rfl⟩ := hown.shape
        have hconv := text_of _ _ _ _ hown
        by_cases h9 : 900 < (lineW ts).length
        · have HV : Hid (spellL ts = .error 4) := by
            show _ = _
            unfold spellL
            rw [if_neg HV0.out, if_pos HA.out, if_pos h9]
          have i3 : (900 : Int) < ((lineW ts).length : Int) := by omega
          generalize lineW ts = l at *
          go_wp2
          go_ret2
          exact ⟨by rw [HV.out]; rfl, hb⟩
        · have HV : Hid (spellL ts = .ok (lineW ts)) := by
            show _ = _
            unfold spellL
            rw [if_neg HV0.out, if_pos HA.out, if_neg h9]
          have i3 : ¬ (900 : Int) < ((lineW ts).length : Int) := by omega
          generalize lineW ts = l at *
          go_wp2
          go_ret2
          exact ⟨by rw [HV.out]; rfl, hb⟩
end Go.Proofs.YtpbnjdgedifnoabGreatDoor
namespace Go.Proofs.YtpbnjdgedifnoabGreatDoor
open Go.RowKit
set_option linter.unusedVariables false
set_option maxRecDepth 100000

theorem line_parse {ts : List Tk} (hl : ts.length ≤ 300) (hs : AllS ts) : parseL ts = match lineR ts with | .error y => .error y | .ok x => if 200 < x.length then .error (0, 4) else .ok x := by
  have hp := prs_any (n := 10 * ts.length + 10) (l := ts) (Nat.le_refl _)
  unfold lineR
  match hr : prs ts with
  | .error y =>
    rw [hr] at hp
    rw [parse_halt hl hs (halt_error hs.kinds hp)]
  | .ok (e, []) =>
    rw [hr] at hp
    have ha := halt_ok (b := bT) hs.kinds hp
    obtain ⟨e', hd⟩ := der_acc hs.kinds ha
    have := prs_der hd
    rw [hr] at this
    injection this with this
    injection this with this
    subst this
    simp only
    split
    · rename_i h; exact parse_full hl hs hd h
    · rename_i h; exact parse_ok hl hs hd (by omega)
  | .ok (e, t :: r) =>
    rw [hr] at hp
    rw [parse_halt hl hs (halt_more hs.kinds hp)]
theorem parse_bad {ts : List Tk} {i : Nat} (hl : ts.length ≤ 300) (hi : i < ts.length) (hb : ∀ t ∈ ts.take i, spB t = true) (hn : spB ts[i] = false) : parseL ts = .error (i, 1) := by
  unfold parseL
  rw [if_neg (by omega)]
  have hf : ts.findIdx? (fun t => !spB t) = some i := by
    rw [List.findIdx?_eq_some_iff_getElem]
    refine ⟨hi, by simp [hn], fun j hj => ?_⟩
    have : ts[j] ∈ ts.take i := List.mem_take_iff_getElem.2 ⟨j, by omega, rfl⟩
    simp [hb _ this]
  rw [hf]
theorem one_spell (t : Tk) : (∃ l, spellL [t] = .ok l) ↔ spB t = true := by
  unfold spellL
  rw [if_neg (by simp)]
  constructor
  · rintro ⟨l, h⟩
    split at h
    · rename_i h1; simpa using h1
    · cases h
  · intro h
    have hl : (lineW [t]).length ≤ 900 := by
      have h60 := spB_size h
      unfold Tk.l at h60
      rw [lineW_cons]
      simp only [gaps, List.flatMap_nil, List.append_nil]
      unfold wtn
      split
      · simp only [List.length_cons]; omega
      · split
        · split
          · have := body_length t.s.data.toList
            unfold quoted
            simp only [List.length_cons, List.length_append, List.length_nil]; omega
          · simp
        · omega
    exact ⟨_, by rw [if_pos (by simpa using h), if_neg (by omega)]⟩
theorem TKL.one {w : World} {b off : Nat} {L : List Tk} (h : TKL w (some ⟨b, off, none⟩) L) {i : Nat} (hi : i < L.length) : TKL w (some ⟨b, off + i * 3, none⟩) [L[i]] := by
  obtain ⟨b', o', e, h1, h2, h3, h4⟩ := h.at hi
  cases e
  refine .inr ⟨b, off + i * 3, rfl, h1, fun j x hx => ?_⟩
  match j, hx with
  | 0, hx => simp at hx; subst hx; exact ⟨by simpa using h2, by simpa using h3, by simpa using h4⟩
set_option maxHeartbeats 600000 in
theorem parse_any (ts : List Tk) (p : Option Addr) (c : Nat) (w : World) (hv : TKL w p ts) (hlc : ts.length ≤ c) (hcm : c ≤ maxLen) (hsz : ∀ t ∈ ts, t.s.size ≤ 140737488351232) (he : ErrIn w) :
    Calls Tryz.prog 5 #[.slice p ts.length c] w fun e w' => LineE (parseL ts) e w' ∧ Below w.heap.size w w' := by
  unfold maxLen at hcm
  by_cases h300 : 300 < ts.length
  · have HP : Hid (parseL ts = .error (0, 4)) := by unfold parseL; exact if_pos h300
    have i1 : (300 : Int) < (ts.length : Int) := by omega
    go_enter Tryz.func5, Tryz.ntmps5
    go_wp2
    go_ret3
    exact ⟨by rw [HP.out]; rfl, Below.refl _ _⟩
  · have i1 : ¬ (300 : Int) < (ts.length : Int) := by omega
    have HV : Hid (TKL w p ts) := hv
    have HSZ : Hid (∀ t ∈ ts, t.s.size ≤ 140737488351232) := hsz
    have HE : Hid (ErrIn w) := he
    clear hv hsz he
    go_enter Tryz.func5, Tryz.ntmps5
    go_wp2_with fail
    go_loopw [17] (fun i wr => ∃ k : Nat, k ≤ ts.length ∧ i = .int .i64 k ∧ Hid (∀ t ∈ ts.take k, spB t = true) ∧ Below w.heap.size w wr) (fun i _ => ts.length - (intOf i).toNat)
    case atStart => exact ⟨0, Nat.zero_le _, rfl, (fun t ht => absurd ht (by simp)), Below.refl _ _⟩
    case round =>
      obtain ⟨k, hk, rfl, HA, hb⟩ := hrel
      by_cases hlt : k < ts.length
      · have i2 : (k : Int) < (ts.length : Int) := by omega
        obtain ⟨b, off, rfl, hbw, _⟩ := (HV.out.up hb).at hlt
        have hone := (HV.out.up hb).one hlt
        have H1 := spell_any [ts[k]] (some ⟨b, off + k * 3, none⟩) (c - k) wr hone (by unfold maxLen; simp) (fun t ht => by simp at ht; subst ht; exact HSZ.out _ (List.getElem_mem _))
        simp only [List.length_cons, List.length_nil, Nat.zero_add] at H1
        have ho := one_spell ts[k]
        have HPB : Hid (spB ts[k] = false → parseL ts = .error (k, 1)) := fun hn => parse_bad (by omega) hlt HA.out hn
        have HNX : Hid (spB ts[k] = true → ∀ t ∈ ts.take (k + 1), spB t = true) := fun hn t ht => by
          rw [List.take_succ_eq_append_getElem hlt] at ht
          rcases List.mem_append.1 ht with ht | ht
          · exact HA.out t ht
          · simp at ht; subst ht; exact hn
        cases hsp : spellL [ts[k]] with
        | ok l =>
          rw [hsp] at H1
          have HB : Hid (spB ts[k] = true) := ho.1 ⟨l, hsp⟩
          unfold spellV at H1
          simp only [] at H1
          clear hsp ho
          go_wp2_with fail
          refine H1.mono ?_
          rintro e w1 ⟨rfl, hb1⟩
          go_wp2
          go_roundw
          case rel => exact ⟨k + 1, by omega, by go_num, HNX.out HB.out, hb.trans (hb1.mono hb.size)⟩
          case measure => simp [intOf]; omega
        | error n =>
          rw [hsp] at H1
          have HB : Hid (spB ts[k] = false) := by
            show _ = _
            cases hh : spB ts[k]
            · rfl
            · obtain ⟨l, hl⟩ := ho.2 hh
              rw [hl] at hsp; cases hsp
          unfold spellV at H1
          simp only [] at H1
          clear hsp ho
          go_wp2_with fail
          refine H1.mono ?_
          rintro e w1 ⟨rfl, hb1⟩
          go_wp2
          go_ret3
          exact ⟨by rw [HPB.out HB.out]; rfl, hb.trans (hb1.mono hb.size)⟩
      · obtain rfl : k = ts.length := by omega
        have i2 : ¬ (ts.length : Int) < (ts.length : Int) := by omega
        have hall : AllS ts := by have := HA.out; rwa [List.take_length] at this
        have hEr : ErrIn wr := by
          obtain ⟨ev, h1, h2⟩ := HE.out
          exact ⟨ev, (hb.cell (p := ⟨7, 0, none⟩) (World.block_lt_of_cell? w _ h1)).trans h1, h2⟩
        have HR := readLine_any ts p c wr (by omega) hall (HV.out.up hb) hEr
        have HLP : Hid _ := line_parse (by omega) hall
        clear hall hEr HA
        cases hlr : lineR ts with
        | error y =>
          rw [hlr] at HR
          have HP : Hid (parseL ts = .error y) := by have := HLP.out; rw [hlr] at this; exact this
          clear hlr HLP
          go_wp2_with fail
          refine HR.mono ?_
          rintro e w1 ⟨rfl, hb1⟩
          go_wp2
          go_ret3
          exact ⟨by rw [HP.out]; rfl, hb.trans (hb1.mono hb.size)⟩
        | ok x =>
          rw [hlr] at HR
          by_cases hx : 200 < x.length
          · have HP : Hid (parseL ts = .error (0, 4)) := by have := HLP.out; rw [hlr] at this; simp only [if_pos hx] at this; exact this
            have i3 : (200 : Int) < (x.length : Int) := by omega
            clear hlr HLP
            go_wp2_with fail
            refine HR.mono ?_
            rintro e w1 ⟨⟨q, cc, rfl, hnt, hc, hcm2, hne⟩, hb1⟩
            clear hnt hne
            go_wp2
            go_ret3
            exact ⟨by rw [HP.out]; rfl, hb.trans (hb1.mono hb.size)⟩
          · have HP : Hid (parseL ts = .ok x) := by have := HLP.out; rw [hlr] at this; simp only [if_neg hx] at this; exact this
            have i3 : ¬ (200 : Int) < (x.length : Int) := by omega
            clear hlr HLP
            go_wp2_with fail
            refine HR.mono ?_
            rintro e w1 ⟨⟨q, cc, rfl, hnt, hc, hcm2, hne⟩, hb1⟩
            have HN : Hid (NT w1 0 q x) := hnt
            have HNE : Hid (x ≠ []) := hne
            clear hnt hne
            go_wp2
            go_ret3
            exact ⟨by rw [HP.out]; exact ⟨q, cc, rfl, HN.out, hc, hcm2, HNE.out⟩, hb.trans (hb1.mono hb.size)⟩
end Go.Proofs.YtpbnjdgedifnoabGreatDoor
namespace Go.Proofs.YtpbnjdgedifnoabGreatDoor
open Go.RowKit
set_option linter.unusedVariables false
set_option maxRecDepth 100000

theorem num_fn (n : Int) (w : World) :
    Calls Tryz.prog 8 #[.int .i64 n] w fun e w' => e = .returned (.agg #[.int .i64 2, .int .i64 n, .string ⟨#[]⟩, .string ⟨#[]⟩]) ∧ Below w.heap.size w w' := by
  go_enter Tryz.func8, Tryz.ntmps8
  go_wp2
  refine bodyPost_ret (v := .agg #[.int .i64 2, .int .i64 n, .string ⟨#[]⟩, .string ⟨#[]⟩]) (by simp [results, Tryz.results8, go_sem]) rfl ⟨rfl, ?_⟩
  exact (Below.refl _ _).alloc (Nat.le_refl _) _
theorem qba {a b : World} (h : Below a.heap.size a b) (o : Obj) : Below a.heap.size a (b.alloc o) := qbt h ((Below.refl _ _).alloc (Nat.le_refl _) o)
theorem qbn {a b : World} (h : Below a.heap.size a b) (n : Nat) : Below a.heap.size a (b.drewN n) := ⟨h.os, h.tape, h.output, h.size, h.block⟩
theorem NL.lit (w : World) (L : List Nd) (cs : Array Value) (hw : ∀ x ∈ L, x.wf) (hc : cs.toList = ncells L) (hl : L.length ≤ 1000) : NL (w.alloc (.cells cs 31)) (some ⟨w.heap.size, 0, none⟩) L := by
  have hs : cs.size = L.length * 4 := by rw [← ncells_length, ← hc]; simp
  obtain ⟨q, c, e, h, _⟩ := NL.of_row (base := 0) (v := .slice (some ⟨w.heap.size, 0, none⟩) L.length L.length) hw (w := w.alloc (.cells cs 31)) ⟨ncells_length L, .inr ⟨w.heap.size, L.length, cs, rfl, Nat.zero_le _, heap_alloc_new _ _, Nat.le_refl _, by unfold maxLen; omega, hs, by rw [hc, ← ncells_length, List.take_length]⟩⟩
  cases e
  exact h.1
theorem num_wf {n : Int} (h : n ≤ 9223372036854775807) : (⟨2, n, ⟨#[]⟩, ⟨#[]⟩⟩ : Nd).wf := ⟨by unfold maxLen; show 0 ≤ _; decide, by unfold maxLen; show 0 ≤ _; decide, h⟩
/-- Two lists of nodes that are the same. -/
theorem same_nodes (a : List Nd) (n : Nat) (hn : a.length = n) (p q : Option Addr) (c1 c2 : Nat) (w : World) (ha : NL w p a) (hb : NL w q a) (hl : n ≤ 1000) :
    Calls Tryz.prog 7 #[.slice p n c1, .slice q n c2] w fun e w' => e = .returned (.bool true) ∧ Below w.heap.size w w' := by
  subst hn
  have h := sameNodes_any a a p q c1 c2 w ha hb (by unfold maxLen; omega) (by unfold maxLen; omega)
  rw [(sameNd_iff _ _).2 rfl] at h
  refine h.mono ?_
  rintro e w' ⟨rfl, n, rfl⟩
  exact ⟨rfl, qbn (Below.refl _ _) n⟩
/-- The words of a list with what Parse asks of it. -/
structure PArg (w : World) (p : Option Addr) (c : Nat) (a : List Tk) : Prop where
  tk : TKL w p a
  le : a.length ≤ c
  cm : c ≤ maxLen
  sz : ∀ t ∈ a, t.s.size ≤ 140737488351232
theorem PArg.up {w w' : World} {p : Option Addr} {c : Nat} {a : List Tk} (h : PArg w p c a) (hb : Below w.heap.size w w') : PArg w' p c a := ⟨h.tk.up hb, h.le, h.cm, h.sz⟩
theorem parse_arg (ts : List Tk) (n : Nat) (hn : ts.length = n) (p : Option Addr) (c : Nat) (w : World) (h : PArg w p c ts) (he : ErrIn w) (R : Except (Nat × Int) (List Nd)) (hR : parseL ts = R) :
    Calls Tryz.prog 5 #[.slice p n c] w fun e w' => LineE R e w' ∧ Below w.heap.size w w' := by
  subst hn hR
  exact parse_any ts p c w h.tk h.le h.cm h.sz he
theorem cell_ltL {w : World} {a : Addr} {v : Value} (h : w.cell? a = some v) : a.block < w.heap.size := by
  unfold World.cell? at h
  by_cases hb : a.block < w.heap.size
  · exact hb
  · rw [Array.getElem?_eq_none (by omega)] at h
    cases h
theorem errIn_up {w w' : World} (h : ErrIn w) (hb : Below w.heap.size w w') : ErrIn w' := by
  obtain ⟨ev, h1, h2⟩ := h
  exact ⟨ev, (hb.cell (p := ⟨7, 0, none⟩) (cell_ltL h1)).trans h1, h2⟩
/-- How Parse ends, whatever the words: three results. -/
theorem LineE.any {R : Except (Nat × Int) (List Nd)} {e : Ending} {w' : World} (h : LineE R e w') : ∃ q n c i v, e = .returned (.tuple #[.slice q n c, .int .i64 i, v]) ∧ (v = .nilIface ∨ ∃ k, v = .iface 42 (.int .i64 k)) := by
  cases R with
  | ok x => obtain ⟨q, cc, rfl, _⟩ := h; exact ⟨q, _, cc, 0, _, rfl, .inl rfl⟩
  | error y => exact ⟨none, 0, 0, _, _, h, .inr ⟨_, rfl⟩⟩
end Go.Proofs.YtpbnjdgedifnoabGreatDoor
namespace Go.Proofs.YtpbnjdgedifnoabGreatDoor
open Go.RowKit
set_option linter.unusedVariables false
set_option maxRecDepth 100000

def tO : Tk := ⟨5, ⟨#[40]⟩, 0⟩
def tC : Tk := ⟨5, ⟨#[41]⟩, 0⟩
theorem LineE.good {R : Except (Nat × Int) (List Nd)} {q : Option Addr} {n c : Nat} {i : Int} {w : World} (h : LineE R (.returned (.tuple #[.slice q n c, .int .i64 i, .nilIface])) w) : ∃ x, R = .ok x ∧ n = x.length ∧ NL w q x ∧ x ≠ [] := by
  cases R with
  | ok x => obtain ⟨q', cc, e, h1, _, _, h2⟩ := h; cases e; exact ⟨x, rfl, rfl, h1.1, h2⟩
  | error y => cases h
theorem parse_ne {a : List Tk} {x : List Nd} (h : parseL a = .ok x) : a ≠ [] := by
  rintro rfl
  have h0 : parseL [] = .error (0, 1) := by kernel_rfl
  rw [h0] at h
  cases h
theorem PArg.ne {w : World} {p : Option Addr} {c : Nat} {a : List Tk} (h : PArg w p c a) (hn : a ≠ []) : p ≠ none := by
  rintro rfl
  rcases h.tk with h0 | ⟨b, o, h0, _⟩
  · exact hn h0
  · cases h0
theorem NL.some {w : World} {q : Option Addr} {L : List Nd} (h : NL w q L) (hn : L ≠ []) : ∃ b o, q = some ⟨b, o, none⟩ := by
  rcases h with h0 | ⟨b, o, h0, _⟩
  · exact absurd h0 hn
  · exact ⟨b, o, h0⟩
end Go.Proofs.YtpbnjdgedifnoabGreatDoor
namespace Go.Proofs.YtpbnjdgedifnoabGreatDoor
open Go.RowKit
set_option linter.unusedVariables false
set_option maxRecDepth 100000

def fL : List Nd := [opN 18, opN 18, ⟨2, 1, ⟨#[]⟩, ⟨#[]⟩⟩, ⟨2, 2, ⟨#[]⟩, ⟨#[]⟩⟩, ⟨2, 3, ⟨#[]⟩, ⟨#[]⟩⟩]
/-- The five signs and their operators. -/
def sgk : Nat → ByteArray
  | 0 => ⟨#[124, 124]⟩ | 1 => ⟨#[38, 38]⟩ | 2 => ⟨#[43]⟩ | 3 => ⟨#[45]⟩ | _ => ⟨#[42]⟩
def opk : Nat → Int
  | 0 => 12 | 1 => 11 | 2 => 17 | 3 => 18 | _ => 19
def tG (k : Nat) : Tk := ⟨5, sgk k, 0⟩
theorem five {k : Nat} (h : k ≤ 4) : k = 0 ∨ k = 1 ∨ k = 2 ∨ k = 3 ∨ k = 4 := by omega
theorem sgk_at {k : Nat} (h : k ≤ 4) : (#[.string ⟨#[124, 124]⟩, .string ⟨#[38, 38]⟩, .string ⟨#[43]⟩, .string ⟨#[45]⟩, .string ⟨#[42]⟩] : Array Value)[k]? = some (.string (sgk k)) := by
  rcases five h with rfl | rfl | rfl | rfl | rfl <;> rfl
theorem opk_at {k : Nat} (h : k ≤ 4) : (#[.int .i64 12, .int .i64 11, .int .i64 17, .int .i64 18, .int .i64 19] : Array Value)[k]? = some (.int .i64 (opk k)) := by
  rcases five h with rfl | rfl | rfl | rfl | rfl <;> rfl
theorem left_k {k : Nat} (h : k ≤ 4) : ∃ l, lftL l ∧ lvlS l (tG k) = true ∧ opOf (tG k) = opk k ∧ spB (tG k) = true := by
  rcases five h with rfl | rfl | rfl | rfl | rfl
  · exact ⟨1, by unfold lftL; decide, by kernel_rfl, by kernel_rfl, by kernel_rfl⟩
  · exact ⟨2, by unfold lftL; decide, by kernel_rfl, by kernel_rfl, by kernel_rfl⟩
  · exact ⟨4, by unfold lftL; decide, by kernel_rfl, by kernel_rfl, by kernel_rfl⟩
  · exact ⟨4, by unfold lftL; decide, by kernel_rfl, by kernel_rfl, by kernel_rfl⟩
  · exact ⟨5, by unfold lftL; decide, by kernel_rfl, by kernel_rfl, by kernel_rfl⟩
/-- What the loop has written. -/
def rowJ (a b c : List Tk) (k : Nat) : Nat → List Tk
  | 0 => []
  | 1 => tO :: (a ++ [tC])
  | 2 => (tO :: (a ++ [tC])) ++ tG k :: (tO :: (b ++ [tC]))
  | _ => (tO :: (a ++ [tC])) ++ tG k :: ((tO :: (b ++ [tC])) ++ tG k :: (tO :: (c ++ [tC])))
theorem parse_row {a b c : List Tk} {x y z : List Nd} {k : Nat} (ha : parseL a = .ok x) (hb : parseL b = .ok y) (hc : parseL c = .ok z) (hk : k ≤ 4) (hw : a.length + b.length + c.length + 8 ≤ 300) (hn : x.length + y.length + z.length + 2 ≤ 200) :
    parseL (rowJ a b c k 3) = .ok (opN (opk k) :: opN (opk k) :: (x ++ (y ++ z))) := by
  obtain ⟨l, h1, h2, h3, h4⟩ := left_k hk
  rw [← h3]
  exact parse_left ha hb hc (t := tO) (u := tC) (s := tG k) (by kernel_rfl) (by kernel_rfl) (by kernel_rfl) (by kernel_rfl) h4 h1 h2 hw hn
theorem three_new (w : World) (A B C : Array Value) (t u v : TypeId) : (((w.alloc (.cells A t)).alloc (.cells B u)).alloc (.cells C v)).heap[w.heap.size]? = some (.cells A t) ∧ (((w.alloc (.cells A t)).alloc (.cells B u)).alloc (.cells C v)).heap[w.heap.size + 1]? = some (.cells B u) ∧ (((w.alloc (.cells A t)).alloc (.cells B u)).alloc (.cells C v)).heap[w.heap.size + 1 + 1]? = some (.cells C v) := by
  refine ⟨?_, ?_, ?_⟩
  · rw [at_old (by simp; omega), at_old (by simp), at_new rfl]
  · rw [at_old (by simp), at_new (by simp)]
  · rw [at_new (by simp)]
/-- What the loop reads in a round. -/
def Part (w wB : World) (g n j : Nat) (a b c M : List Tk) (pM : Option Addr) (cM : Nat) : Prop :=
  wB.cell? ⟨g, j, none⟩ = some (.slice pM M.length cM) ∧ PArg w pM cM M ∧ pM ≠ none ∧ M.length ≤ 300 ∧ rowJ a b c n (j + 1) = ((rowJ a b c n j ++ (if j = 0 then [] else [tG n])) ++ [tO]) ++ M ++ [tC]
set_option maxHeartbeats 1000000 in
theorem phraseLeft_true (a b c : List Tk) (p q r : Option Addr) (c1 c2 c3 : Nat) (k : Int) (w : World) (ha : PArg w p c1 a) (hb : PArg w q c2 b) (hc : PArg w r c3 c) (he : ErrIn w) :
    Calls Tryz.prog 3 #[.slice p a.length c1, .slice q b.length c2, .slice r c.length c3, .int .i64 k] w fun e w' => e = .returned (.bool true) ∧ Below w.heap.size w w' := by
  have HQ := quick_any ⟨#[49, 32, 45, 32, 50, 32, 45, 32, 51]⟩ wL w (by decide) read_wL
  have hlw : wL.length = 5 := rfl
  rw [hlw] at HQ
  go_enter Tryz.func3, Tryz.ntmps3
  go_wp2_with fail
  refine HQ.mono ?_
  rintro e w1 ⟨⟨q1, d1, rfl, hk1, hd1, hd2⟩, hb1⟩
  have hm : ∀ t ∈ wL.map at0, t.s.size ≤ 140737488351232 := by intro t ht; simp only [wL, List.map_cons, List.map_nil, List.mem_cons, List.not_mem_nil, or_false] at ht; rcases ht with rfl | rfl | rfl | rfl | rfl <;> decide
  have HP := parse_arg (wL.map at0) 5 rfl q1 d1 w1 ⟨hk1, hd1, hd2, hm⟩ (errIn_up he hb1) _ parse_wL
  clear hk1 hm hd1 hd2
  go_wp2_with fail
  refine HP.mono ?_
  rintro e w2 ⟨⟨q2, d2, rfl, hn2, hd1, hd2, _⟩, hb2'⟩
  have hb2 := qbt hb1 hb2'
  have hx2 := hn2.1
  clear hb1 hb2' hn2 HP
  go_wp2_with fail
  refine (num_fn _ _).mono ?_
  rintro e w3 ⟨rfl, hb3'⟩
  have hb3 := qbt hb2 hb3'
  have hx3 := hx2.up hb3'
  clear hb2 hb3' hx2
  go_wp2_with fail
  refine (num_fn _ _).mono ?_
  rintro e w4 ⟨rfl, hb4'⟩
  have hb4 := qbt hb3 hb4'
  have hx4 := hx3.up hb4'
  clear hb3 hb4' hx3
  go_wp2_with fail
  refine (num_fn _ _).mono ?_
  rintro e w5 ⟨rfl, hb5'⟩
  have hb5 := qbt hb4 hb5'
  have hx5 := hx4.up hb5'
  clear hb4 hb5' hx4
  go_wp2_with fail
  have hf : ∀ x ∈ fL, x.wf := by intro x hx; simp only [fL, List.mem_cons, List.not_mem_nil, or_false] at hx; rcases hx with rfl | rfl | rfl | rfl | rfl <;> first | exact opN_wf | exact num_wf (by decide)
  refine (same_nodes fL 5 rfl q2 (some ⟨w5.heap.size, 0, none⟩) d2 5 _ (hx5.up ((Below.refl _ _).alloc (Nat.le_refl _) _)) (NL.lit w5 fL _ hf rfl (by decide)) (by decide)).mono ?_
  rintro e w6 ⟨rfl, hb6'⟩
  have hb6 := qbt (qba hb5 _) hb6'
  clear hb5 hb6' hx5 hf
  go_wp2_with fail
  refine (parse_arg a _ rfl p c1 _ (ha.up hb6) (errIn_up he hb6) _ rfl).mono ?_
  rintro e w7 ⟨hA, hb7'⟩
  have hb7 := qbt hb6 hb7'
  obtain ⟨qa, na, ca, ia, va, rfl, hva⟩ := hA.any
  go_wp2_with fail
  refine (parse_arg b _ rfl q c2 _ (hb.up hb7) (errIn_up he hb7) _ rfl).mono ?_
  rintro e w8 ⟨hB, hb8'⟩
  have hb8 := qbt hb7 hb8'
  obtain ⟨qb, nb, cb, ib, vb, rfl, hvb⟩ := hB.any
  go_wp2_with fail
  refine (parse_arg c _ rfl r c3 _ (hc.up hb8) (errIn_up he hb8) _ rfl).mono ?_
  rintro e w9 ⟨hC, hb9'⟩
  have hb9 := qbt hb8 hb9'
  obtain ⟨qc, nc, cc, ic, vc, rfl, hvc⟩ := hC.any
  rcases hva with rfl | ⟨ka, rfl⟩
  rotate_left
  · clear hA hB hC
    go_wp2
    go_ret
    exact ⟨rfl, hb9⟩
  rcases hvb with rfl | ⟨kb, rfl⟩
  rotate_left
  · clear hA hB hC
    go_wp2
    go_ret
    exact ⟨rfl, hb9⟩
  rcases hvc with rfl | ⟨kc, rfl⟩
  rotate_left
  · clear hA hB hC
    go_wp2
    go_ret
    exact ⟨rfl, hb9⟩
  obtain ⟨x, eA, rfl, hx7, nx⟩ := hA.good
  obtain ⟨y, eB, rfl, hy8, ny⟩ := hB.good
  obtain ⟨z, eC, rfl, hz9, nz⟩ := hC.good
  obtain ⟨la, sa, _, lx⟩ := ok_parse eA
  obtain ⟨lb, sb, _, ly⟩ := ok_parse eB
  obtain ⟨lc, sc, _, lz⟩ := ok_parse eC
  clear hA hB hC
  by_cases h1 : 300 < a.length + b.length + c.length + 8
  · have i1 : (300 : Int) < (a.length : Int) + (b.length : Int) + (c.length : Int) + 8 := by omega
    go_wp2
    go_ret
    exact ⟨rfl, hb9⟩
  have i1 : ¬ (300 : Int) < (a.length : Int) + (b.length : Int) + (c.length : Int) + 8 := by omega
  by_cases h2 : 200 < x.length + y.length + z.length + 2
  · have i2 : (200 : Int) < (x.length : Int) + (y.length : Int) + (z.length : Int) + 2 := by omega
    go_wp2
    go_ret
    exact ⟨rfl, hb9⟩
  have i2 : ¬ (200 : Int) < (x.length : Int) + (y.length : Int) + (z.length : Int) + 2 := by omega
  by_cases h3 : k < 0
  · go_wp2
    go_ret
    exact ⟨rfl, hb9⟩
  by_cases h4 : 4 < k
  · go_wp2
    go_ret
    exact ⟨rfl, hb9⟩
  obtain ⟨n, rfl⟩ : ∃ n : Nat, k = n := ⟨k.toNat, by omega⟩
  have hn4 : n ≤ 4 := by omega
  obtain ⟨wB, hwB⟩ : ∃ wB, wB = ((w9.alloc (.cells #[.string ⟨#[124, 124]⟩, .string ⟨#[38, 38]⟩, .string ⟨#[43]⟩, .string ⟨#[45]⟩, .string ⟨#[42]⟩] 9)).alloc (.cells #[.int .i64 12, .int .i64 11, .int .i64 17, .int .i64 18, .int .i64 19] 3)).alloc (.cells #[.slice p a.length c1, .slice q b.length c2, .slice r c.length c3] 22) := ⟨_, rfl⟩
  have hbB : Below w.heap.size w wB := by rw [hwB]; exact qba (qba (qba hb9 _) _) _
  have hb9B : Below w9.heap.size w9 wB := by rw [hwB]; exact qba (qba (qba (Below.refl _ _) _) _) _
  have hsB : wB.heap.size = w9.heap.size + 3 := by rw [hwB]; simp
  obtain ⟨g0, g1, g2⟩ := three_new w9 #[.string ⟨#[124, 124]⟩, .string ⟨#[38, 38]⟩, .string ⟨#[43]⟩, .string ⟨#[45]⟩, .string ⟨#[42]⟩] #[.int .i64 12, .int .i64 11, .int .i64 17, .int .i64 18, .int .i64 19] #[.slice p a.length c1, .slice q b.length c2, .slice r c.length c3] 9 3 22
  rw [← hwB] at g0 g1 g2
  have hS : wB.cell? ⟨w9.heap.size, n, none⟩ = some (.string (sgk n)) := by unfold World.cell?; rw [g0]; exact sgk_at hn4
  have hO : wB.cell? ⟨w9.heap.size + 1, n, none⟩ = some (.int .i64 (opk n)) := by unfold World.cell?; rw [g1]; exact opk_at hn4
  have HM : ∀ j, j < 3 → ∃ M pM cM, Part w wB (w9.heap.size + 1 + 1) n j a b c M pM cM := by
    intro j hj
    rcases j with _ | _ | _ | j
    · exact ⟨a, p, c1, by unfold World.cell?; rw [g2]; rfl, ha, ha.ne (parse_ne eA), la, by simp [rowJ]⟩
    · exact ⟨b, q, c2, by unfold World.cell?; rw [g2]; rfl, hb, hb.ne (parse_ne eB), lb, by simp [rowJ]⟩
    · exact ⟨c, r, c3, by unfold World.cell?; rw [g2]; rfl, hc, hc.ne (parse_ne eC), lc, by simp [rowJ]⟩
    · omega
  have HR : Hid (parseL (rowJ a b c n 3) = .ok (opN (opk n) :: opN (opk n) :: (x ++ (y ++ z)))) := parse_row eA eB eC hn4 (by omega) (by omega)
  have hxB := hx7.up (qbt hb8' (qbt hb9' hb9B))
  have hyB := hy8.up (qbt hb9' hb9B)
  have hzB := hz9.up hb9B
  have hlj : ∀ j, j ≤ 3 → (rowJ a b c n j).length ≤ 300 := by
    intro j hj
    rcases j with _ | _ | _ | _ | j <;> simp [rowJ] <;> omega
  have HS : Hid (∀ t ∈ rowJ a b c n 3, t.s.size ≤ 140737488351232) := by
    intro t ht
    have h0 : ∀ m, (tG m).s.size ≤ 140737488351232 := by intro m; unfold tG sgk; split <;> decide
    simp only [rowJ, List.mem_append, List.mem_cons, List.not_mem_nil, or_false] at ht
    have t1 : tO.s.size ≤ 140737488351232 := by decide
    have t2 : tC.s.size ≤ 140737488351232 := by decide
    rcases ht with (rfl | ht | rfl) | rfl | (rfl | ht | rfl) | rfl | rfl | ht | rfl
    · exact t1
    · exact ha.sz t ht
    · exact t2
    · exact h0 n
    · exact t1
    · exact hb.sz t ht
    · exact t2
    · exact h0 n
    · exact t1
    · exact hc.sz t ht
    · exact t2
  have HE : Hid (ErrIn wB) := errIn_up he hbB
  clear g0 g1 g2 eA eB eC la lb lc sa sb sc HQ hlw hd1 hd2 hx7 hy8 hz9 ha hb hc he
  go_wp2
  rw [← hwB]
  clear hwB
  go_loopw [24, 26] (fun v i wr => ∃ j : Nat, j ≤ 3 ∧ i = .int .i64 j ∧ OT wr wB.heap.size v (rowJ a b c n j) ∧ Below wB.heap.size wB wr) (fun _ i _ => 3 - (intOf i).toNat)
  case atStart => exact ⟨0, Nat.zero_le _, rfl, OT.nil _ _, Below.refl _ _⟩
  case round =>
    obtain ⟨j, hj, rfl, hown, hbr⟩ := hrel
    have hl0 := hlj j hj
    by_cases h3j : j < 3
    · have i3 : (j : Int) < 3 := by omega
      obtain ⟨M, pM, cM, hpc, hpa, hpn, hpl, hprow⟩ := HM j h3j
      have HRow : Hid (rowJ a b c n (j + 1) = ((rowJ a b c n j ++ (if j = 0 then [] else [tG n])) ++ [tO]) ++ M ++ [tC]) := hprow
      have HPC : Hid (wB.cell? ⟨w9.heap.size + 1 + 1, j, none⟩ = some (.slice pM M.length cM)) := hpc
      have HPA : Hid (PArg w pM cM M) := hpa
      clear hprow hpc hpa
      by_cases h0j : j = 0
      · subst h0j
        rw [if_pos rfl, List.append_nil] at HRow
        generalize rowJ a b c n 0 = row at *
        go_wp2_with (at_builtin; first
          | (refine append_tok wr rfl (.tmp 133) (.tmp 135) rfl wB.heap.size u24 row rfl hown tO rfl (by omega) hbr.size ?_; intro v1 wr1 ho1 hk1; have hbr1 := hbr.trans hk1; have kc1 : wr1.cell? ⟨w9.heap.size + 1 + 1, 0, none⟩ = _ := (hbr1.cell (p := ⟨w9.heap.size + 1 + 1, 0, none⟩) (by show w9.heap.size + 1 + 1 < _; omega)).trans HPC.out)
          | (refine append_toks wr1 rfl (.tmp 137) (.tmp 141) rfl wB.heap.size v1 (row ++ [tO]) rfl ho1 M M.length rfl pM cM (HPA.out.tk.up (hbB.trans (hbr1.mono hbB.size))) rfl (fun h => absurd h hpn) (by simp; omega) hbr1.size ?_; intro v2 wr2 ho2 hk2; have hbr2 := hbr1.trans hk2)
          | (refine append_tok wr2 rfl (.tmp 143) (.tmp 145) rfl wB.heap.size v2 (row ++ [tO] ++ M) rfl ho2 tC rfl (by simp; omega) hbr2.size ?_; intro v3 wr3 ho3 hk3; have hbr3 := hbr2.trans hk3))
        go_roundw
        case rel => exact ⟨0 + 1, by omega, by go_num, by rw [HRow.out]; exact ho3, hbr3⟩
        case measure => simp [intOf]
      · have i0 : (0 : Int) < (j : Int) := by omega
        rw [if_neg h0j] at HRow
        generalize rowJ a b c n j = row at *
        have ks0 : wr.cell? ⟨w9.heap.size, n, none⟩ = _ := (hbr.cell (p := ⟨w9.heap.size, n, none⟩) (by show w9.heap.size < _; omega)).trans hS
        go_wp2_with (at_builtin; first
          | (refine append_tok wr rfl (.tmp 125) (.tmp 131) rfl wB.heap.size u24 row rfl hown (tG n) rfl (by omega) hbr.size ?_; intro v0 wr0 ho0 hk0; have hbr0 := hbr.trans hk0)
          | (refine append_tok wr0 rfl (.tmp 133) (.tmp 135) rfl wB.heap.size v0 (row ++ [tG n]) rfl ho0 tO rfl (by simp; omega) hbr0.size ?_; intro v1 wr1 ho1 hk1; have hbr1 := hbr0.trans hk1; have kc1 : wr1.cell? ⟨w9.heap.size + 1 + 1, j, none⟩ = _ := (hbr1.cell (p := ⟨w9.heap.size + 1 + 1, j, none⟩) (by show w9.heap.size + 1 + 1 < _; omega)).trans HPC.out)
          | (refine append_toks wr1 rfl (.tmp 137) (.tmp 141) rfl wB.heap.size v1 (row ++ [tG n] ++ [tO]) rfl ho1 M M.length rfl pM cM (HPA.out.tk.up (hbB.trans (hbr1.mono hbB.size))) rfl (fun h => absurd h hpn) (by simp; omega) hbr1.size ?_; intro v2 wr2 ho2 hk2; have hbr2 := hbr1.trans hk2)
          | (refine append_tok wr2 rfl (.tmp 143) (.tmp 145) rfl wB.heap.size v2 (row ++ [tG n] ++ [tO] ++ M) rfl ho2 tC rfl (by simp; omega) hbr2.size ?_; intro v3 wr3 ho3 hk3; have hbr3 := hbr2.trans hk3))
        go_roundw
        case rel => exact ⟨j + 1, by omega, by go_num, by rw [HRow.out]; exact ho3, hbr3⟩
        case measure => simp [intOf]; omega
    · obtain rfl : j = 3 := by omega
      have i3 : ¬ ((3 : Nat) : Int) < 3 := by omega
      obtain ⟨qt, ct, rfl, hkt, hct1, hct2, _⟩ := hown.slice
      have hbw : Below w.heap.size w wr := hbB.trans (hbr.mono hbB.size)
      have HP := parse_arg (rowJ a b c n 3) _ rfl qt ct wr ⟨hkt, hct1, hct2, HS.out⟩ (errIn_up HE.out hbr) _ HR.out
      have hlen : (opN (opk n) :: opN (opk n) :: (x ++ (y ++ z))).length = 2 + x.length + y.length + z.length := by simp; omega
      clear hct1 hct2 hlj HM HS hkt
      generalize hNl : (rowJ a b c n 3).length = nl at *
      go_wp2_with fail
      refine HP.mono ?_
      rintro e w10 ⟨⟨q10, d10, rfl, hn10, _⟩, hb10'⟩
      have hb10 := qbt hbw hb10'
      have hBr10 : Below wB.heap.size wB w10 := hbr.trans (hb10'.mono hbr.size)
      have ko : w10.cell? ⟨w9.heap.size + 1, n, none⟩ = _ := (hBr10.cell (p := ⟨w9.heap.size + 1, n, none⟩) (by show w9.heap.size + 1 < _; omega)).trans hO
      rw [hlen]
      obtain ⟨wE, hwE⟩ : ∃ wE, wE = (w10.alloc (.cells #[.int .i64 (opk n), .int .i64 0, .string ⟨#[]⟩, .string ⟨#[]⟩] 31)).alloc (.cells #[.int .i64 (opk n), .int .i64 0, .string ⟨#[]⟩, .string ⟨#[]⟩, .int .i64 (opk n), .int .i64 0, .string ⟨#[]⟩, .string ⟨#[]⟩] 31) := ⟨_, rfl⟩
      have hE10 : Below w10.heap.size w10 wE := by rw [hwE]; exact qba (qba (Below.refl _ _) _) _
      have hx10 := hxB.up hBr10
      have hy10 := hyB.up hBr10
      have hz10 := hzB.up hBr10
      obtain ⟨bx, ox, rfl⟩ := hx10.some nx
      obtain ⟨by_, oy, rfl⟩ := hy10.some ny
      obtain ⟨bz, oz, rfl⟩ := hz10.some nz
      have hO0 : ON wE (w10.heap.size + 1) (.slice (some ⟨w10.heap.size + 1, 0, none⟩) 2 2) [opN (opk n), opN (opk n)] := by
        have h := ON.lit2 (w10.alloc (.cells #[.int .i64 (opk n), .int .i64 0, .string ⟨#[]⟩, .string ⟨#[]⟩] 31)) (opN (opk n)) (opN (opk n)) opN_wf opN_wf
        have h2 : (w10.alloc (.cells #[.int .i64 (opk n), .int .i64 0, .string ⟨#[]⟩, .string ⟨#[]⟩] 31)).heap.size = w10.heap.size + 1 := by simp
        rw [h2] at h
        rw [hwE]
        exact h
      have hsE : w10.heap.size + 1 ≤ wE.heap.size := by rw [hwE]; simp
      clear HP hxB hyB hzB hbB hb9B hS hO HR HE hBr10 hbr hb6 hb7 hb7' hb8 hb8' hb9 hb9'
      have hlE : ([opN (opk n), opN (opk n)] ++ x ++ y ++ z).length = 2 + x.length + y.length + z.length := by simp; omega
      have HAS : Hid ([opN (opk n), opN (opk n)] ++ x ++ y ++ z = opN (opk n) :: opN (opk n) :: (x ++ (y ++ z))) := by show _ = _; simp
      go_wp2_with (at_builtin; first
        | (rw [← hwE]; refine append_nodes wE rfl (.tmp 160) (.tmp 161) rfl (w10.heap.size + 1) _ [opN (opk n), opN (opk n)] rfl hO0 x x.length rfl bx ox ca (hx10.up hE10) rfl (by simp; omega) hsE ?_; intro v1 wr1 ho1 hk1; have hE1 := hE10.trans (hk1.bel.mono (Nat.le_succ _)))
        | (refine append_nodes wr1 rfl (.tmp 163) (.tmp 164) rfl (w10.heap.size + 1) v1 ([opN (opk n), opN (opk n)] ++ x) rfl ho1 y y.length rfl by_ oy cb (hy10.up hE1) rfl (by simp; omega) (Nat.le_trans hsE hk1.bel.size) ?_; intro v2 wr2 ho2 hk2; have hE2 := hE1.trans (hk2.bel.mono (Nat.le_succ _)))
        | (refine append_nodes wr2 rfl (.tmp 166) (.tmp 167) rfl (w10.heap.size + 1) v2 ([opN (opk n), opN (opk n)] ++ x ++ y) rfl ho2 z z.length rfl bz oz cc (hz10.up hE2) rfl (by simp; omega) (Nat.le_trans hsE (Nat.le_trans hk1.bel.size hk2.bel.size)) ?_; intro v3 wr3 ho3 hk3; have hE3 := hE2.trans (hk3.bel.mono (Nat.le_succ _)); obtain ⟨g3, cp3, e3, _, _, _, _, hN3, _⟩ := ho3.slice (by simp); rw [hlE] at e3; subst e3)
        | fail)
      rw [HAS.out] at hN3
      refine (same_nodes _ _ hlen q10 (some ⟨g3, 0, none⟩) d10 cp3 _ (hn10.1.up hE3) hN3 (by omega)).mono ?_
      rintro e w12 ⟨rfl, hb12'⟩
      have hb12 := qbt (qbt hb10 hE3) hb12'
      clear hb10 hE3 hE2 hE1 hE10
      go_wp2
      go_ret
      exact ⟨rfl, hb12⟩
end Go.Proofs.YtpbnjdgedifnoabGreatDoor
namespace Go.Proofs.YtpbnjdgedifnoabGreatDoor
open Go.ChangeShapes Go.WideShapes Go.ChangeAt Go.RowKit Go.Deep
set_option linter.unusedVariables false

theorem Tryz.cellsTok : Tryz.prog.cellsOf 37 = 3 := by kernel_rfl
theorem laidOut : laidOutB Tryz.prog = true := by kernel_rfl
instance : Inhabited Tk := ⟨⟨0, ⟨#[]⟩, 0⟩⟩
theorem lt_of_cell {w : World} {a : Addr} {v : Value} (h : w.cell? a = some v) : a.block < w.heap.size := by
  unfold World.cell? at h
  by_cases hb : a.block < w.heap.size
  · exact hb
  · rw [Array.getElem?_eq_none (by omega)] at h
    cases h

theorem weightsAll_mem {H : Type} {P : Program} {e : TypeId} : ∀ {ds : List (DataW H)} {d : DataW H} {n : Nat}, d ∈ ds → n ∈ d.weights P e → n ∈ DataW.weightsAll P e ds
  | x :: r, d, n, h, hn => by
    rw [DataW.weightsAll, List.mem_append]
    rcases List.mem_cons.1 h with rfl | h
    · exact .inl hn
    · exact .inr (weightsAll_mem h hn)

set_option maxRecDepth 100000 in
theorem open_tok {H : Type} {enc : TypeId × Value → H} {W : World} {base : Nat} {spare : Nat → Bool} {held : Bool} {fuel : Nat} {cs : List Value} {x : DataW H × List MemPlace}
    (h : DataW.trod enc Tryz.prog W base spare held fuel 37 cs = some x) :
    ∃ y : Tk, cs = [.int .i64 y.kind, .string y.s, .int .i64 y.at_] ∧ y.s.size ∈ x.1.weights Tryz.prog 37 := by
  obtain ⟨xs, n, _, rfl, hl, hlen, hf⟩ := DataW.trod_struct Tryz.underlying37 h
  rw [Tryz.cellsTok] at hl
  match xs, hlen with
  | [y0, y1, y2], _ =>
    have f0 := hf 0 _ rfl
    have f1 := hf 1 _ rfl
    have f2 := hf 2 _ rfl
    match cs, hl with
    | [c0, c1, c2], _ =>
      have k3 : Tryz.prog.cellsOf 3 = 1 := by kernel_rfl
      have k9 : Tryz.prog.cellsOf 9 = 1 := by kernel_rfl
      simp [k3, k9] at f0 f1 f2
      obtain ⟨a, e0, g0, w0⟩ := DataW.trod_int Tryz.underlying3 f0
      obtain ⟨s, e1, g1, w1⟩ := DataW.trod_string Tryz.underlying9 f1
      obtain ⟨b, e2, g2, w2⟩ := DataW.trod_int Tryz.underlying3 f2
      simp at e0 e1 e2
      subst e0 e1 e2 g0 g1 g2
      refine ⟨⟨a, s, b⟩, rfl, ?_⟩
      show s.size ∈ DataW.weights Tryz.prog 37 (.agg [.lit (.int .i64 a), .lit (.string s.data.toList), .lit (.int .i64 b)])
      have hm := DataW.weights_mem_each (H := H) (P := Tryz.prog) (ts := [3, 9, 3]) (ds := [.lit (.int .i64 a), .lit (.string s.data.toList), .lit (.int .i64 b)]) (j := 1) rfl rfl s.size (by simp [DataW.weights])
      unfold DataW.weights
      rw [Tryz.underlying37]
      exact hm

set_option maxRecDepth 100000 in
theorem open_toks_cells {H : Type} {enc : TypeId × Value → H} {W : World} {base : Nat} {spare : Nat → Bool} {held : Bool} {fuel : Nat} {cs : List Value} {x : DataW H × List MemPlace}
    (h : DataW.trod enc Tryz.prog W base spare held fuel 22 cs = some x) :
    ∃ (v : List Tk) (p : Option Addr) (c : Nat), cs = [.slice p v.length c] ∧ TKL W p v ∧ v.length ≤ c ∧ c ≤ maxLen ∧ ∀ t ∈ v, t.s.size ∈ x.1.weights Tryz.prog 22 := by
  rcases open_slice Tryz.underlying22 h with ⟨rfl, _⟩ | ⟨a, len, cap, m, n, D, Pl, rfl, hb, hl, hm, hmm, rfl, hx⟩
  · exact ⟨[], none, 0, rfl, .inl rfl, Nat.le_refl _, Nat.zero_le _, by simp⟩
  · have hlm : len ≤ m := by rw [hmm]; split <;> omega
    rw [Tryz.cellsTok] at hx
    obtain ⟨Y, hY⟩ := choose_lt (α := Tk) (n := len) (p := fun i y => W.cells? base (a.add (i * 3)) 3 = some [.int .i64 y.kind, .string y.s, .int .i64 y.at_] ∧ y.s.size ∈ (D i).weights Tryz.prog 37) (fun i hi => by
      obtain ⟨cs', h1, h2⟩ := hx i (by omega)
      obtain ⟨y, rfl, hw⟩ := open_tok h2
      exact ⟨y, h1, hw⟩)
    refine ⟨(List.range len).map Y, some a, cap, by simp, ?_, by simpa using hl, hm, fun t ht => ?_⟩
    · by_cases h0 : len = 0
      · exact .inl (by simp [h0])
      · obtain ⟨b, off, spot⟩ := a
        have hcell : ∀ i, i < len → ∀ j, j < 3 → W.cell? ((⟨b, off, spot⟩ : Addr).add (i * 3 + j)) = ([.int .i64 (Y i).kind, .string (Y i).s, .int .i64 (Y i).at_] : List Value)[j]? := by
          intro i hi j hj
          have := (World.cells?_some (hY i hi).1).2.2 j hj
          rw [add_add] at this
          exact this
        have hspot : spot = none := by
          have := hcell 0 (by omega) 0 (by omega)
          simpa [Addr.add] using World.cell?_spot this
        subst hspot
        have hlt : b < W.heap.size := by
          have := hcell 0 (by omega) 0 (by omega)
          simp [Addr.add] at this
          exact lt_of_cell this
        refine .inr ⟨b, off, rfl, hlt, fun i y hy => ?_⟩
        have hi : i < len := by
          have := (List.getElem?_eq_some_iff.1 hy).1
          simpa using this
        obtain rfl : Y i = y := by simpa [hi] using hy
        refine ⟨?_, ?_, ?_⟩
        · have := hcell i hi 0 (by omega); simp [Addr.add] at this; split at this; (rename_i h; rw [h]; exact this); exact this
        · have := hcell i hi 1 (by omega); simpa [Addr.add, Nat.add_assoc] using this
        · have := hcell i hi 2 (by omega); simpa [Addr.add, Nat.add_assoc] using this
    · obtain ⟨i, hi, rfl⟩ := List.mem_map.1 ht
      have hw := (hY i (List.mem_range.1 hi)).2
      have hm2 := weightsAll_mem (P := Tryz.prog) (e := 37) (List.mem_map.2 ⟨i, hi, rfl⟩ : D i ∈ (List.range len).map D) hw
      show _ ∈ DataW.weights Tryz.prog 22 (.slice _ _)
      unfold DataW.weights
      rw [Tryz.underlying22]
      exact List.mem_cons_of_mem _ (List.mem_append.2 (.inl hm2))

set_option maxRecDepth 100000 in
theorem open_toks {H : Type} {enc : TypeId × Value → H} {W : World} {base b0 : Nat} {spare : Nat → Bool} {held : Bool} {v : Value} {d : DataW H} {p : List MemPlace}
    (hv : Value.okWide Tryz.prog W .any b0 22 v) (h : DataW.Trod enc Tryz.prog W base spare held 22 v d p) :
    ∃ (L : List Tk) (q : Option Addr) (c : Nat), v = .slice q L.length c ∧ TKL W q L ∧ L.length ≤ c ∧ c ≤ maxLen ∧ ∀ t ∈ L, t.s.size ∈ d.weights Tryz.prog 22 := by
  obtain ⟨a0, len0, cap0, rfl⟩ := okWide_slice Tryz.underlying22 hv
  obtain ⟨fuel, hf⟩ := h
  obtain ⟨L, q, c, h1, h2⟩ := open_toks_cells hf
  simp [Value.cells] at h1
  obtain ⟨rfl, rfl, rfl⟩ := h1
  exact ⟨L, _, _, rfl, h2⟩
/-- A list with no memory has no room. -/
theorem toks_none {H : Type} {enc : TypeId × Value → H} {W : World} {base : Nat} {spare : Nat → Bool} {held : Bool} {q : Option Addr} {n c : Nat} {d : DataW H} {p : List MemPlace}
    (h : DataW.Trod enc Tryz.prog W base spare held 22 (.slice q n c) d p) : q = none → c = 0 := by
  rintro rfl
  obtain ⟨fuel, hf⟩ := h
  rcases open_slice Tryz.underlying22 hf with ⟨e, _⟩ | ⟨a, len, cap, m, n, D, Pl, e, _⟩
  · simp [Value.cells] at e; exact e.2
  · simp [Value.cells] at e
/-- The texts of the words that came first are within the reach. -/
theorem toks_reach {H : Type} {ts : List TypeId} {ds : List (DataW H)} {d : DataW H} {L : List Tk} (hsz : (DataW.weightsEach Tryz.prog (22 :: ts) (d :: ds)).all (· ≤ reachBytes) = true)
    (h : ∀ t ∈ L, t.s.size ∈ d.weights Tryz.prog 22) : ∀ t ∈ L, t.s.size ≤ 140737488351232 := fun t ht => by
  have := List.all_eq_true.1 hsz _ (DataW.weights_mem_each (j := 0) rfl rfl _ (h t ht))
  have h2 : t.s.size ≤ reachBytes := of_decide_eq_true this
  unfold reachBytes at h2
  exact h2
/-- .. and of those that came at any place. -/
theorem toks_reach_at {H : Type} {ts : List TypeId} {ds : List (DataW H)} {d : DataW H} {L : List Tk} (j : Nat) (ht : ts[j]? = some 22) (hd : ds[j]? = some d) (hsz : (DataW.weightsEach Tryz.prog ts ds).all (· ≤ reachBytes) = true)
    (h : ∀ t ∈ L, t.s.size ∈ d.weights Tryz.prog 22) : ∀ t ∈ L, t.s.size ≤ 140737488351232 := fun t hm => by
  have := List.all_eq_true.1 hsz _ (DataW.weights_mem_each (j := j) ht hd _ (h t hm))
  have h2 : t.s.size ≤ reachBytes := of_decide_eq_true this
  unfold reachBytes at h2
  exact h2
end Go.Proofs.YtpbnjdgedifnoabGreatDoor
namespace Go.Proofs.YtpbnjdgedifnoabGreatDoor
open Go.ChangeShapes Go.WideShapes Go.ChangeAt Go.RowKit
set_option maxRecDepth 100000

theorem Tryz.own : ownKnob Tryz.prog.godebug = none := by kernel_rfl
theorem Tryz.gER : Tryz.prog.globalNamed "strconv.ErrRange" = some 7 := by kernel_rfl
theorem Tryz.gERType : (Tryz.prog.globals[7]?).map (·.type) = some 25 := by kernel_rfl
theorem Tryz.cellsES : Tryz.prog.cellsOf 170 = 1 := by kernel_rfl
theorem Tryz.cellsStr : Tryz.prog.cellsOf 9 = 1 := by kernel_rfl
theorem Tryz.starES : "*" ++ "errors.errorString" = "*errors.errorString" := by decide
theorem Tryz.rowES (u : TypeId) (h : Tryz.prog.typeName? 3 u = some "*errors.errorString") : u = 168 :=
  typeName_ptr_named (nm := "errors.errorString") (by rw [Tryz.starES]; kernel_rfl) (by kernel_rfl) (by decide) u (by rw [Tryz.starES]; exact h)
def listed7 : List (String × DataW Unit) := [("math/bits.deBruijn32tab", Rows.laid_math_bits_deBruijn32tab), ("math/bits.deBruijn64tab", Rows.laid_math_bits_deBruijn64tab), ("internal/strconv.uint64pow10", Rows.laid_internal_strconv_uint64pow10), ("unicode/utf8.acceptRanges", Rows.laid_unicode_utf8_acceptRanges), ("strconv.ErrRange", Rows.laid_strconv_ErrRange), ("strconv.ErrSyntax", Rows.laid_strconv_ErrSyntax), ("unicode/utf8.first", Rows.laid_unicode_utf8_first)]
theorem errIn_of_list {W : World} (h : laidMet Tryz.prog listed7 W) : ErrIn W := by
  obtain ⟨a0, s0, hv0, -, -, -⟩ := laid_sentinel h.tail.tail.tail.tail Tryz.gER Tryz.gERType Tryz.underlying25 Tryz.rowES Tryz.underlying168 Tryz.underlying170 rfl rfl Tryz.underlying9 Tryz.cellsES Tryz.cellsStr
  exact ⟨_, by simpa using World.var?_cell Tryz.gER hv0 0, .inr ⟨_, _, rfl⟩⟩
theorem errIn_of_laid7 {W : World} (h : laidMetH Tryz.prog listed7 W) : ErrIn W := by
  rw [MakeChecks.laidMetH_plain _ _ _ (by kernel_rfl)] at h
  exact errIn_of_list h

/-- The numbers of a table, one behind the other. -/
def leafV : DataW Unit → Value
  | .lit (.int k z) => .int k z
  | _ => .bool false
def rowV : DataW Unit → List Value
  | .agg l => l.map leafV
  | d => [leafV d]
def flatV : DataW Unit → List Value
  | .agg l => l.flatMap rowV
  | d => [leafV d]
def layCells (w : World) (g : Nat) (cs : List Value) : World :=
  { w with heap := w.heap.modify g fun
      | .cells _ t frozen => .cells cs.toArray t frozen
      | o => o }
def rngS : ByteArray := ⟨#[118, 97, 108, 117, 101, 32, 111, 117, 116, 32, 111, 102, 32, 114, 97, 110, 103, 101]⟩
def synS : ByteArray := ⟨#[105, 110, 118, 97, 108, 105, 100, 32, 115, 121, 110, 116, 97, 120]⟩
/-- Two blocks more, each an errors.errorString; strconv's two variables hold pointers to them. -/
def layTwo (w : World) : World :=
  layCells (layCells { w with heap := (w.heap.push (.cells #[.string rngS] 170)).push (.cells #[.string synS] 170) }
    7 [.iface 168 (.pointer (some ⟨w.heap.size, 0, none⟩))]) 6 [.iface 168 (.pointer (some ⟨w.heap.size + 1, 0, none⟩))]
/-- All seven laid as the program's text lays them. -/
def layAll7 (w : World) : World :=
  layCells (layCells (layCells (layCells (layCells (layTwo w) 2 (flatV Rows.laid_unicode_utf8_first)) 3 (flatV Rows.laid_unicode_utf8_acceptRanges))
    0 (flatV Rows.laid_internal_strconv_uint64pow10)) 5 (flatV Rows.laid_math_bits_deBruijn64tab)) 4 (flatV Rows.laid_math_bits_deBruijn32tab)
noncomputable def low : Nat := (World.holding Tryz.prog default ⟨#[], #[], []⟩).heap.size
theorem laid_run7 (os : Os) (args : Array Value) : laidMet Tryz.prog listed7 ((layAll7 (World.holding Tryz.prog os ⟨#[], #[], []⟩)).forCall (fun _ _ => 0) ⟨#[], args, []⟩).memory :=
  laidMet_of_run (ps := MemPlace.row ⟨4, 0, none⟩ 32 ++ [] ++ (MemPlace.row ⟨5, 0, none⟩ 64 ++ [] ++ (MemPlace.row ⟨0, 0, none⟩ 20 ++ [] ++ (MemPlace.row ⟨3, 0, none⟩ 32 ++ [] ++
    ([.cell 7 0, .cell low 0] ++ ([.cell 6 0, .cell (low + 1) 0] ++ (MemPlace.row ⟨2, 0, none⟩ 256 ++ [] ++ []))))))) 8 (by kernel_rfl) (by kernel_rfl) (by kernel_rfl)
theorem laid_met7 (os : Os) (args : Array Value) : laidMetH Tryz.prog listed7 ((layAll7 (World.holding Tryz.prog os ⟨#[], #[], []⟩)).forCall (fun _ _ => 0) ⟨#[], args, []⟩).memory := by
  rw [MakeChecks.laidMetH_plain _ _ _ (by kernel_rfl)]
  exact laid_run7 os args
end Go.Proofs.YtpbnjdgedifnoabGreatDoor
