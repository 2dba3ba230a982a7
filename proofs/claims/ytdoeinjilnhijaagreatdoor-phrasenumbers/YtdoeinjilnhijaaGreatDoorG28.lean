/- Package phrase's reader: number. Package phrase's reader: named. Package phrase's reader: list at the parts of a set. -/
import Derived.Test.YtdoeinjilnhijaaGreatDoorG26
import Derived.Test.YtdoeinjilnhijaaGreatDoorG27
import Derived.Test.YtdoeinjilnhijaaGreatDoorShelf
import Derived.Test.YtdoeinjilnhijaaGreatDoorG19
namespace Go.Proofs.YtdoeinjilnhijaaGreatDoor
open Go.RowKit Go.Maps Go.Shelf
set_option linter.unusedVariables false
set_option maxRecDepth 100000

theorem atoi_ok (s : ByteArray) (v : Int) (w : World) (hs : s.size ≤ 1000) (h : Lib.atoiAll s.data.toList = .ok v) :
    Calls Tryz.prog 196 #[.string s] w fun e w' => e = .returned (.tuple #[.int .i64 v, .nilIface]) ∧ Below w.heap.size w w' := by
  refine (Any.strconv_Atoi_ok Tryz.laysC172 s (by omega) v h w).mono ?_
  rintro e w' ⟨rfl, rfl | ⟨t, rfl⟩⟩
  · exact ⟨rfl, Below.refl _ _⟩
  · exact ⟨rfl, Lib.bytesWorld_below _ _ _⟩
theorem atoi_range (s : ByteArray) (w : World) (hs : s.size ≤ 1000) (h : Lib.atoiAll s.data.toList = .range) (he : ErrIn w) :
    Calls Tryz.prog 196 #[.string s] w fun e w' => (∃ n T N, e = .returned (.tuple #[.int .i64 n, .iface T (.pointer (some ⟨N, 0, none⟩))])) ∧ Below w.heap.size w w' := by
  obtain ⟨ev, h1, h2⟩ := he
  refine (Any.strconv_Atoi_range Tryz.laysC172 s (by omega) h ev w h1 h2).mono ?_
  rintro e w' ⟨N, rfl, _, _, hb⟩
  exact ⟨⟨_, _, N, rfl⟩, hb⟩
set_option maxHeartbeats 2000000 in
theorem number_bad (w : World) (B : Nat) (p : Option Addr) (c : Nat) (ts : List Tk) (k : Nat) (lead : ByteArray) (h : RS w B p c ts k) (hd : ((hdT (ts.drop k)).kind == 2) = false) :
    Calls Tryz.prog 192 #[.pointer (some ⟨B, 0, none⟩), .string lead] w fun e w' => e = .panicked (thrownP 1) ∧ RS w' B p c ts k ∧ BX B w w' := by
  have H1 := ahead0_any w B p c ts k h
  generalize hdT (ts.drop k) = t at *
  unfold tokV at H1
  go_enter Tryz.func192, Tryz.ntmps192
  go_wp2_with fail
  refine H1.mono ?_
  rintro e w1 ⟨rfl, hb1⟩
  have hbt : Below w1.heap.size w1 (w1.alloc (.cells #[.int .i64 t.kind, .string t.s, .int .i64 t.at_] 47)) := (Below.refl _ _).alloc (Nat.le_refl _) _
  go_wp2_with fail
  refine (pneed_false _ _).mono ?_
  rintro e w2 ⟨rfl, rfl⟩
  go_wp2
  exact ⟨rfl, rfl, (h.up hb1).up hbt, (BX.of_below hb1).up hbt⟩
set_option maxHeartbeats 2000000 in
theorem number_over (w : World) (B : Nat) (p : Option Addr) (c : Nat) (ts : List Tk) (k : Nat) (lead : ByteArray) (h : RS w B p c ts k) (hd : (hdT (ts.drop k)).kind = 2) (hl : lead.size ≤ 10) (hs : (hdT (ts.drop k)).s.size ≤ 60)
    (ha : Lib.atoiAll (lead.data.toList ++ (hdT (ts.drop k)).l) = .range) :
    Calls Tryz.prog 192 #[.pointer (some ⟨B, 0, none⟩), .string lead] w fun e w' => e = .panicked (thrownP 5) ∧ RS w' B p c ts k ∧ BX B w w' := by
  have H1 := ahead0_any w B p c ts k h
  generalize hdT (ts.drop k) = t at *
  unfold tokV at H1
  have HA := fun W => atoi_range (lead ++ t.s) W (by simp; omega) (by rw [← ha]; simp [Tk.l])
  go_enter Tryz.func192, Tryz.ntmps192
  go_wp2_with fail
  refine H1.mono ?_
  rintro e w1 ⟨rfl, hb1⟩
  have hbt : Below w1.heap.size w1 (w1.alloc (.cells #[.int .i64 t.kind, .string t.s, .int .i64 t.at_] 47)) := (Below.refl _ _).alloc (Nat.le_refl _) _
  rw [hd] at hbt
  have hr := (h.up hb1).up hbt
  go_wp2_with fail
  refine (pneed_true _ _).mono ?_
  rintro e w2 ⟨rfl, rfl⟩
  go_wp2_with fail
  refine (HA _ hr.er).mono ?_
  rintro e w3 ⟨⟨n, T, N, rfl⟩, hb3⟩
  go_wp2_with fail
  refine (pneed_false _ _).mono ?_
  rintro e w4 ⟨rfl, rfl⟩
  go_wp2
  exact ⟨rfl, rfl, hr.up hb3, ((BX.of_below hb1).up hbt).up hb3⟩
set_option maxHeartbeats 2000000 in
theorem number_ok (w : World) (B : Nat) (p : Option Addr) (c : Nat) (ts : List Tk) (k : Nat) (lead : ByteArray) (v : Int) (h : RS w B p c ts k) (hk : k < ts.length) (hd : (hdT (ts.drop k)).kind = 2) (hl : lead.size ≤ 10) (hs : (hdT (ts.drop k)).s.size ≤ 60)
    (ha : Lib.atoiAll (lead.data.toList ++ (hdT (ts.drop k)).l) = .ok v) (hv : v ≤ 9223372036854775807) :
    Calls Tryz.prog 192 #[.pointer (some ⟨B, 0, none⟩), .string lead] w fun e w' => (∃ q cc, e = .returned (.slice q 1 cc) ∧ NT w' 0 q [mkN 2 v [] []] ∧ 1 ≤ cc ∧ cc ≤ maxLen) ∧ RS w' B p c ts (k + 1) ∧ BX B w w' := by
  have H1 := ahead0_any w B p c ts k h
  have hkk : (k : Int) ≤ 300 := by have := h.len; omega
  generalize hdT (ts.drop k) = t at *
  unfold tokV at H1
  have HA := fun W => atoi_ok (lead ++ t.s) v W (by simp; omega) (by rw [← ha]; simp [Tk.l])
  have HJ := fun W => join0 (mkN 2 v [] []) W ⟨Nat.zero_le _, Nat.zero_le _, hv⟩
  rw [show ndV (mkN 2 v [] []) = .agg #[.int .i64 2, .int .i64 v, .string ⟨#[]⟩, .string ⟨#[]⟩] from rfl] at HJ
  go_enter Tryz.func192, Tryz.ntmps192
  go_wp2_with fail
  refine H1.mono ?_
  rintro e w1 ⟨rfl, hb1⟩
  have hbt : Below w1.heap.size w1 (w1.alloc (.cells #[.int .i64 t.kind, .string t.s, .int .i64 t.at_] 47)) := (Below.refl _ _).alloc (Nat.le_refl _) _
  rw [hd] at hbt
  have hr := (h.up hb1).up hbt
  go_wp2_with fail
  refine (pneed_true _ _).mono ?_
  rintro e w2 ⟨rfl, rfl⟩
  go_wp2_with fail
  refine (HA _).mono ?_
  rintro e w3 ⟨rfl, hb3⟩
  have hr3 := hr.up hb3
  have c13 := hr3.c1
  have f13 := hr3.fz
  go_wp2_with (first
    | (go_at_call 40; refine (pneed_true _ _).mono ?_; rintro e w4 ⟨rfl, rfl⟩)
    | (go_at_call 74; refine (HJ _).mono ?_; rintro e w5 ⟨⟨q, cc, rfl, hnt, hc, hcm⟩, hb5⟩))
  go_ret
  refine ⟨⟨q, cc, rfl, hnt, hc, hcm⟩, (hr3.set (k' := k + 1) (by omega)).up hb5, ?_⟩
  exact ((((BX.of_below hb1).up hbt).up hb3).set 1 _).up hb5
end Go.Proofs.YtdoeinjilnhijaaGreatDoor
namespace Go.Proofs.YtdoeinjilnhijaaGreatDoor
open Go.RowKit Go.Maps Go.Shelf
set_option linter.unusedVariables false
set_option maxRecDepth 100000

theorem var_fault {s : List UInt8} (h : nfault s = 0) : xfault [mkN 8 0 s []] = if rsv s = true then 1 else 0 := by
  obtain ⟨c, r, e, hc⟩ := name_head h
  have hq : ¬ s.head? = some 63 := by
    rw [e]; intro hh; injection hh with hh; subst hh; cases hc
  have hv : varOk s = !rsv s := by unfold varOk; rw [if_neg hq, h]; rfl
  have hx : exOk (mkN 8 0 s []) = !rsv s := by
    unfold exOk
    rw [if_neg (by simp [mkN]), if_neg (by simp [mkN, prt])]
    simp [mkN, hv]
  unfold xfault isEx
  rw [if_neg (by simp)]
  cases hr : rsv s
  · rw [hr] at hx
    have hx' : exOk ⟨8, 0, ⟨s.toArray⟩, ⟨#[]⟩⟩ = true := hx
    simp [pastE, hx', mkN, prt, partsE]
  · rw [hr] at hx
    simp [pastE, hx]
theorem lit_false : (ByteArray.mk #[102, 97, 108, 115, 101]).toList = [102, 97, 108, 115, 101] := by simp [go_sem]
theorem lit_true : (ByteArray.mk #[116, 114, 117, 101]).toList = [116, 114, 117, 101] := by simp [go_sem]
theorem mkN_self (op : Int) (s : ByteArray) : mkN op 0 s.data.toList [] = ⟨op, 0, s, ⟨#[]⟩⟩ := by unfold mkN; simp
set_option maxHeartbeats 4000000 in
theorem named_any (B : Nat) (p : Option Addr) (c : Nat) (ts : List Tk) (w : World) (k : Nat) (t : Tk) (r : List Tk) (res : PRes) (h : RS w B p c ts k) (hd : ts.drop k = t :: r) (ht : t.kind = 1)
    (hres : (if nextS r [58, 58] = true then must (fun u => u.kind == 3) r.tail fun u r2 => some (.ok ([mkN 4 0 t.l u.l], r2))
           else if (t.l == wTrue) = true then some (.ok ([mkN 1 1 [] []], r))
           else if (t.l == wFalse) = true then some (.ok ([mkN 1 0 [] []], r))
           else if rsv t.l = true then some (.error (r.length, 1))
           else some (.ok ([mkN 8 0 t.l []], r))) = some res) :
    Calls Tryz.prog 191 #[.pointer (some ⟨B, 0, none⟩)] w fun e w' => EndP B p c ts w res e w' := by
  have hlk := h.le
  have hlen := h.len
  obtain ⟨d1, d2, d3⟩ := drop_cons hd
  have hdt : hdT (ts.drop k) = t := by rw [hd]; rfl
  have hst := h.all t (List.mem_of_mem_drop (i := k) (by rw [hd]; exact List.mem_cons_self ..))
  have hnf := spB_one hst ht
  have htsz : t.s.size ≤ maxLen := by have := spB_size hst; unfold Tk.l at this; unfold maxLen; simp at this; omega
  have HT := take_ok w B p c ts k 1 h d2 (by rw [hdt]; exact ht)
  rw [hdt] at HT
  have al : AllS r := fun u hu => h.all u (List.mem_of_mem_drop (i := k) (by rw [hd]; exact List.mem_cons_of_mem _ hu))
  have y1 := sayB_sgn (c := 58) (w := [58]) al (by decide)
  go_enter Tryz.func191, Tryz.ntmps191
  go_wp2_with fail
  refine HT.mono ?_
  rintro e w1 ⟨rfl, hr1, hx1⟩
  clear HT
  go_wp2_with fail
  by_cases c1 : nextS r [58, 58] = true
  · obtain ⟨v, r1, rfl, hv⟩ := nextS_cons c1
    obtain ⟨d4, d5, d6⟩ := drop_cons d1
    rw [if_pos c1] at hres
    refine (passes_yes w1 B p c ts (k + 1) ⟨#[58, 58]⟩ hr1 (by rw [d1]; exact y1.trans c1) d5).mono ?_
    rintro e w2 ⟨rfl, hr2, hx2⟩
    have hX2 : BX B w w2 := hx1.trans hx2
    clear hx1 hx2 hr1
    go_wp2_with fail
    rcases must_some hres with ⟨m1, rfl⟩ | ⟨u, r2, hru, m1, g1⟩
    · have hbad := hd_bad (kd := 3) (by decide) m1
      rw [List.tail_cons, ← d4] at hbad
      refine (take_bad w2 B p c ts (k + 1 + 1) 3 hr2 hbad).mono ?_
      rintro e w3 ⟨rfl, hr3, hx3⟩
      have HK : Hid (ts.length - r1.length = k + 1 + 1) := d6
      clear hbad m1
      go_wp2
      refine ⟨rfl, rfl, ?_, hX2.trans hx3⟩
      simp only [List.tail_cons, HK.out]; exact hr3
    · rw [List.tail_cons] at hru
      subst hru
      obtain ⟨d7, d8, d9⟩ := drop_cons d4
      have hdu : hdT (ts.drop (k + 1 + 1)) = u := by rw [d4]; rfl
      have HT := take_ok w2 B p c ts (k + 1 + 1) 3 hr2 d8 (by rw [hdu]; simpa using m1)
      rw [hdu] at HT
      have hsu := h.all u (List.mem_of_mem_drop (i := k + 1 + 1) (by rw [d4]; exact List.mem_cons_self ..))
      have husz : u.s.size ≤ maxLen := by have := spB_size hsu; unfold Tk.l at this; unfold maxLen; simp at this; omega
      have HJ := fun W => join0 (mkN 4 0 t.l u.l) W ⟨by show t.s.data.toList.toArray.size ≤ _; simpa using htsz, by show u.s.data.toList.toArray.size ≤ _; simpa using husz, by show (0 : Int) ≤ _; decide⟩
      rw [show ndV (mkN 4 0 t.l u.l) = .agg #[.int .i64 4, .int .i64 0, .string t.s, .string u.s] from by unfold ndV mkN Tk.l; simp] at HJ
      have HG : Hid _ := g1
      have HK : Hid (ts.length - r2.length = k + 1 + 1 + 1) := d9
      clear hdu m1 g1 hres
      go_wp2_with (first
        | (go_at_call 138; refine HT.mono ?_; rintro e w3 ⟨rfl, hr3, hx3⟩)
        | (go_at_call 74; refine (HJ _).mono ?_; rintro e w4 ⟨⟨q, cc, rfl, hnt, hc, hcm⟩, hb4⟩))
      go_ret
      injection HG.out with hres
      rw [← hres]
      refine ⟨⟨q, cc, rfl, hnt, hc, hcm⟩, ?_, (hX2.trans hx3).up hb4⟩
      simp only [HK.out]; exact hr3.up hb4
  · have c1' : nextS r [58, 58] = false := by simpa using c1
    rw [if_neg c1] at hres
    refine (passes_no w1 B p c ts (k + 1) ⟨#[58, 58]⟩ hr1 (by rw [d1]; exact y1.trans c1')).mono ?_
    rintro e w2 ⟨rfl, hb2⟩
    have hr2 := hr1.up hb2
    have hX2 : BX B w w2 := hx1.up hb2
    have HK : Hid (ts.length - r.length = k + 1) := d3
    clear hx1 hb2 hr1 c1 c1' y1
    have EF : (t.s.toList == [102, 97, 108, 115, 101]) = (t.l == wFalse) := by rw [ByteArray.toList_eq]; rfl
    have ET : (t.s.toList == [116, 114, 117, 101]) = (t.l == wTrue) := by rw [ByteArray.toList_eq]; rfl
    by_cases c2 : (t.l == wTrue) = true
    · rw [if_pos c2] at hres
      have c3 : (t.l == wFalse) = false := by rw [beq_iff_eq.1 c2]; decide
      rw [c2] at ET
      rw [c3] at EF
      have HJ := fun W => join0 (mkN 1 1 [] []) W ⟨Nat.zero_le _, Nat.zero_le _, by show (1 : Int) ≤ _; decide⟩
      rw [show ndV (mkN 1 1 [] []) = .agg #[.int .i64 1, .int .i64 1, .string ⟨#[]⟩, .string ⟨#[]⟩] from rfl] at HJ
      have HG : Hid _ := hres
      clear hres c2 c3
      go_wp2_with (go_at_call 74; refine (HJ _).mono ?_; rintro e w4 ⟨⟨q, cc, rfl, hnt, hc, hcm⟩, hb4⟩)
      go_ret
      injection HG.out with hres
      rw [← hres]
      refine ⟨⟨q, cc, rfl, hnt, hc, hcm⟩, ?_, hX2.up hb4⟩
      simp only [HK.out]; exact hr2.up hb4
    · rw [if_neg c2] at hres
      have c2' : (t.l == wTrue) = false := by simpa using c2
      rw [c2'] at ET
      by_cases c3 : (t.l == wFalse) = true
      · rw [if_pos c3] at hres
        rw [c3] at EF
        have HJ := fun W => join0 (mkN 1 0 [] []) W ⟨Nat.zero_le _, Nat.zero_le _, by show (0 : Int) ≤ _; decide⟩
        rw [show ndV (mkN 1 0 [] []) = .agg #[.int .i64 1, .int .i64 0, .string ⟨#[]⟩, .string ⟨#[]⟩] from rfl] at HJ
        have HG : Hid _ := hres
        clear hres c2 c3 c2'
        go_wp2_with (go_at_call 74; refine (HJ _).mono ?_; rintro e w4 ⟨⟨q, cc, rfl, hnt, hc, hcm⟩, hb4⟩)
        go_ret
        injection HG.out with hres
        rw [← hres]
        refine ⟨⟨q, cc, rfl, hnt, hc, hcm⟩, ?_, hX2.up hb4⟩
        simp only [HK.out]; exact hr2.up hb4
      · rw [if_neg c3] at hres
        have c3' : (t.l == wFalse) = false := by simpa using c3
        rw [c3'] at EF
        have HJ := fun W => join0 (mkN 8 0 t.s.data.toList []) W (mkN_wf htsz)
        rw [ndV_mk] at HJ
        have hvf := var_fault hnf
        have HC := fun W q cc (hn : NL W q [mkN 8 0 t.s.data.toList []]) => tcheck_any [mkN 8 0 t.s.data.toList []] q cc W hn (by unfold maxLen; simp)
        simp only [List.length_cons, List.length_nil, Nat.zero_add] at HC
        by_cases c4 : rsv t.l = true
        · rw [if_pos c4] at hres hvf
          have HC2 := HC
          rw [show xfault [mkN 8 0 t.s.data.toList []] = 1 from hvf] at HC2
          have HG : Hid _ := hres
          clear hres c2 c3 c2' c3' hvf HC c4
          go_wp2_with (first
            | (go_at_call 74; refine (HJ _).mono ?_; rintro e w4 ⟨⟨q, cc, rfl, hnt, hc, hcm⟩, hb4⟩)
            | (go_at_call 14; refine (HC2 _ q cc hnt.1).mono ?_; rintro e w5 ⟨rfl, hb5⟩; rw [show eV 1 = .iface 33 (.int .i64 1) from rfl])
            | (go_at_call 40; refine (pneed_false _ _).mono ?_; rintro e w6 ⟨rfl, rfl⟩))
          injection HG.out with hres
          refine ⟨rfl, ?_⟩
          rw [← hres]
          refine ⟨rfl, ?_, (hX2.up hb4).up hb5⟩
          simp only [HK.out]; exact (hr2.up hb4).up hb5
        · rw [if_neg c4] at hres hvf
          have HC2 := HC
          rw [show xfault [mkN 8 0 t.s.data.toList []] = 0 from hvf] at HC2
          have HG : Hid _ := hres
          clear hres c2 c3 c2' c3' hvf HC c4
          go_wp2_with (first
            | (go_at_call 74; refine (HJ _).mono ?_; rintro e w4 ⟨⟨q, cc, rfl, hnt, hc, hcm⟩, hb4⟩)
            | (go_at_call 14; refine (HC2 _ q cc hnt.1).mono ?_; rintro e w5 ⟨rfl, hb5⟩; rw [show eV 0 = .nilIface from rfl])
            | (go_at_call 40; refine (pneed_true _ _).mono ?_; rintro e w6 ⟨rfl, rfl⟩))
          go_ret
          injection HG.out with hres
          rw [← hres]
          refine ⟨⟨q, cc, rfl, hnt.below hb5, hc, hcm⟩, ?_, (hX2.up hb4).up hb5⟩
          simp only [HK.out]; exact (hr2.up hb4).up hb5
end Go.Proofs.YtdoeinjilnhijaaGreatDoor
namespace Go.Proofs.YtdoeinjilnhijaaGreatDoor
open Go.RowKit
set_option linter.unusedVariables false
set_option maxRecDepth 100000

/-- What a list of parts comes to: the parts in a row of their own; or a throw. -/
def ListP (op : Int) (B : Nat) (p : Option Addr) (c : Nat) (ts : List Tk) (w : World) (res : PRes) (e : Ending) (w' : World) : Prop :=
  match res with
  | .ok x => (∃ vs q cc, e = .returned (.slice q vs.length cc) ∧ LL w' q vs ∧ x.1 = mkN op vs.length [] [] :: vs.flatten ∧ (∀ u ∈ vs, u ≠ []) ∧ vs.flatten.length ≤ 300 ∧ vs.length ≤ 300) ∧ RS w' B p c ts (ts.length - x.2.length) ∧ BX B w w'
  | .error y => e = .panicked (thrownP y.2) ∧ RS w' B p c ts (ts.length - y.1) ∧ BX B w w'
/-- Where the parts of a set stand, behind so many of them. -/
def SetI (n : Nat) (res : PRes) (vs : List (List Nd)) (l : List Tk) : Prop :=
  (nextS l [93] = true ∧ res = .ok (mkN 5 vs.length [] [] :: vs.flatten, l.tail)) ∨
  (nextS l [93] = false ∧ ((vs = [] ∧ pS n 0 [] l = some res) ∨ (vs ≠ [] ∧ nextS l [44] = true ∧ pS n vs.length vs.flatten l.tail = some res) ∨ (vs ≠ [] ∧ nextS l [44] = false ∧ res = .error (l.length, 1))))
theorem SetI.start {n : Nat} {res : PRes} {l : List Tk} (h : (if nextS l [93] = true then some (.ok ([mkN 5 0 [] []], l.tail)) else pS n 0 [] l) = some res) : SetI n res [] l := by
  by_cases c : nextS l [93] = true
  · rw [if_pos c] at h; injection h with h; exact Or.inl ⟨c, h.symm⟩
  · rw [if_neg c] at h; exact Or.inr ⟨by simpa using c, Or.inl ⟨rfl, h⟩⟩
/-- The next part. -/
theorem SetI.part {n : Nat} {res : PRes} {vs : List (List Nd)} {l : List Tk} (h : pS n vs.length vs.flatten l = some res) :
    (∃ e, pE n 0 l = some (.error e) ∧ res = .error e) ∨ ∃ b r, pE n 0 l = some (.ok (b, r)) ∧ SetI n res (vs ++ [b]) r := by
  rcases pS_go h with h1 | ⟨b, r, h1, h2⟩
  · exact Or.inl h1
  · refine Or.inr ⟨b, r, h1, ?_⟩
    have ef : (vs ++ [b]).flatten = vs.flatten ++ b := by simp
    have el : (vs ++ [b]).length = vs.length + 1 := by simp
    have hne : vs ++ [b] ≠ [] := by simp
    unfold SetI
    rw [ef, el]
    rcases h2 with ⟨c1, h3⟩ | ⟨c1, c2, h3⟩ | ⟨c1, c2, h3⟩
    · exact Or.inl ⟨c1, h3⟩
    · exact Or.inr ⟨c1, Or.inr (Or.inl ⟨hne, c2, h3⟩)⟩
    · exact Or.inr ⟨c1, Or.inr (Or.inr ⟨hne, c2, h3⟩)⟩

set_option maxHeartbeats 4000000 in
theorem listSet_any (n : Nat) (B : Nat) (p : Option Addr) (c : Nat) (ts : List Tk) (ih : AllR n B p c ts) (w : World) (k : Nat) (res : PRes) (h : RS w B p c ts k) (hres : SetI n res [] (ts.drop k)) :
    Calls Tryz.prog 193 #[.pointer (some ⟨B, 0, none⟩), .func (.func 39) #[.pointer (some ⟨B, 0, none⟩)] #[], .string ⟨#[93]⟩] w fun e w' => ListP 5 B p c ts w res e w' := by
  have hlk := h.le
  have hlen := h.len
  have hlow := h.low
  have hBl := h.lt
  have eg : ∀ args w, (callFunc 39 args).run Tryz.prog w = .ok (.enter 39 args) w := enters_of Tryz.func39 (by kernel_rfl) rfl
  have HS0 : Hid (SetI n res [] (ts.drop k)) := hres
  have H0 : Hid (RS w B p c ts k) := h
  clear hres h
  go_enter Tryz.func193, Tryz.ntmps193
  go_wp2_with fail
  go_loopw [7] (fun pv wr => ∃ (k' : Nat) (vs : List (List Nd)), Hid (OW wr w.heap.size pv vs) ∧ Hid (SetI n res vs (ts.drop k')) ∧ Hid (RS wr B p c ts k') ∧ Hid (BX B w wr) ∧ Hid (∀ u ∈ vs, u ≠ []) ∧
      vs.length + (ts.length - k') ≤ 300 ∧ Hid (vs.flatten.length + (ts.length - k') ≤ 300)) (fun _ wr => ts.length - (intOf ((wr.cell? ⟨B, 1, none⟩).getD undef)).toNat)
  case atStart => exact ⟨k, [], OW.nil _ _, HS0, H0, BX.refl _ _, (fun u hu => absurd hu (by simp)), (by show 0 + _ ≤ _; omega), (by show 0 + _ ≤ _; omega)⟩
  case round =>
    obtain ⟨k', vs, HO, HS, HR, HX, HN, hvl, HF⟩ := hrel
    have hk' := HR.out.le
    have hall := HR.out.rest
    have y1 := sayB_sgn (c := 93) (w := []) hall (by decide)
    obtain ⟨qv, cv, rfl, hcv, hcvm⟩ : ∃ qv cv, u7 = .slice qv vs.length cv ∧ vs.length ≤ cv ∧ cv ≤ maxLen := by
      obtain ⟨q, c, h1, _, h2, h3⟩ := HO.out.ol.lists
      exact ⟨q, c, h1, h2, h3⟩
    by_cases c1 : nextS (ts.drop k') [93] = true
    · obtain ⟨t, r, hd, ht⟩ := nextS_cons c1
      obtain ⟨d1, d2, d3⟩ := drop_cons hd
      have P1 := passes_yes wr B p c ts k' ⟨#[93]⟩ HR.out (y1.trans c1) d2
      have HE : Hid (res = .ok (mkN 5 vs.length [] [] :: vs.flatten, r)) := by
        rcases HS.out with ⟨_, h2⟩ | ⟨h2, _⟩
        · rw [hd] at h2; exact h2
        · rw [c1] at h2; cases h2
      have HK : Hid (ts.length - r.length = k' + 1) := d3
      clear y1 c1 HS hd
      go_wp2_with (go_at_call 103; refine P1.mono ?_; rintro e w2 ⟨rfl, hr2, hx2⟩)
      go_ret
      rw [HE.out]
      have hO2 := HO.out.nodal (Nodal.bx HR.out hx2)
      obtain ⟨q2, c2, e2, hll, _, _⟩ := hO2.ol.lists
      refine ⟨⟨vs, q2, c2, ?_, hll, rfl, HN.out, by have := HF.out; omega, by omega⟩, ?_, HX.out.trans hx2⟩
      · rw [← e2]; rfl
      · simp only [HK.out]; exact hr2
    · have c1' : nextS (ts.drop k') [93] = false := by simpa using c1
      have P1 := passes_no wr B p c ts k' ⟨#[93]⟩ HR.out (y1.trans c1')
      go_wp2_with fail
      refine P1.mono ?_
      rintro e w2 ⟨rfl, hb2⟩
      have hr2 := HR.out.up hb2
      have hX2 : BX B w w2 := HX.out.up hb2
      have hO2 := HO.out.nodal (Nodal.below hb2)
      have hs : (vs = [] ∧ pS n 0 [] (ts.drop k') = some res) ∨ (vs ≠ [] ∧ nextS (ts.drop k') [44] = true ∧ pS n vs.length vs.flatten (ts.drop k').tail = some res) ∨ (vs ≠ [] ∧ nextS (ts.drop k') [44] = false ∧ res = .error ((ts.drop k').length, 1)) := by
        rcases HS.out with ⟨h2, _⟩ | ⟨_, h2⟩
        · rw [h2] at c1'; cases c1'
        · exact h2
      have y2 := sayB_sgn (c := 44) (w := []) hall (by decide)
      clear P1 y1 c1 c1' HS
      rcases hs with ⟨rfl, h2⟩ | ⟨hne, c2, h2⟩ | ⟨hne, c2, rfl⟩
      · clear y2 HO
        rcases SetI.part (vs := ([] : List (List Nd))) h2 with ⟨e1, g1, rfl⟩ | ⟨b, r, g1, g2⟩
        · have HG := fun W (hr : RS W B p c ts k') => ih 0 (by omega) W k' _ hr (by rw [(show ts.drop k' = ts.drop k' from rfl)]; exact g1)
          clear g1
          go_wp2_with (go_at_fn 39; refine (HG _ hr2).mono ?_; rintro e w4 ⟨rfl, hr4, hx4⟩)
          exact ⟨rfl, rfl, hr4, hX2.trans hx4⟩
        · obtain ⟨nb, lb, sb, db⟩ := hr2.next_words (w1 := w) (n := n) (lvl := 0) (by omega) (by rw [(show ts.drop k' = ts.drop k' from rfl)]; exact g1)
          have HG := fun W (hr : RS W B p c ts k') => ih 0 (by omega) W k' _ hr (by rw [(show ts.drop k' = ts.drop k' from rfl)]; exact g1)
          have hbl : b.length ≠ 0 := fun e => nb (List.eq_nil_of_length_eq_zero e)
          have HG2 : Hid (SetI n res (([] : List (List Nd)) ++ [b]) r) := g2
          have HNB : Hid (b ≠ []) := nb
          have HDB : Hid (ts.drop (ts.length - r.length) = r) := db
          have HOO : Hid (OW w2 w.heap.size (.slice qv (([] : List (List Nd))).length cv) ([] : List (List Nd))) := hO2
          have HXQ : Hid (BX B w w2) := hX2
          have HRQ : Hid (RS w2 B p c ts k') := hr2
          clear g1 g2 nb db
          go_wp2_with (first
            | (go_at_fn 39; refine (HG _ HRQ.out).mono ?_; rintro e w4 ⟨⟨qb, cb, rfl, hntb, hcb, hcmb⟩, hr4, hx4⟩; simp only at hntb hcb hr4 ⊢; have HNT4 : Hid (NT w4 0 qb b) := hntb; have HR4 : Hid (RS w4 B p c ts (ts.length - r.length)) := hr4; have HX4 : Hid (BX B w w4) := HXQ.out.trans hx4; have HO4 : Hid (OW w4 w.heap.size (.slice qv (([] : List (List Nd))).length cv) ([] : List (List Nd))) := HOO.out.nodal (Nodal.bx HRQ.out hx4); clear hntb hr4 hx4)
            | (at_builtin; (refine append_ow w4 rfl (.tmp 17) (.tmp 20) rfl w.heap.size (.slice qv 0 cv) ([] : List (List Nd)) rfl HO4.out b qb cb HNT4.out hcb hcmb rfl (by simp; try omega) HX4.out.size ?_); intro v5 w5 hown5 hk5))
          have hr5 := HR4.out.kept hk5 hBl hlow
          refine ⟨⟨ts.length - r.length, ([] : List (List Nd)) ++ [b], hown5, by show SetI _ _ _ _; rw [HDB.out]; exact HG2.out, hr5, HX4.out.kept hk5, ?_, ?_, ?_⟩, ?_⟩
          · intro u hu
            rcases List.mem_append.1 hu with hu | hu
            · exact HN.out u hu
            · simp at hu; subst hu; exact HNB.out
          · simp; try omega
          · have := HF.out; show _ ≤ _; simp at this ⊢; try omega
          · rw [hr5.c1, HR.out.c1]; simp [intOf]; omega
      · obtain ⟨t, r0, hd, ht⟩ := nextS_cons c2
        obtain ⟨d1, d2, d3⟩ := drop_cons hd
        have hv0 : (0 : Int) < (vs.length : Int) := by
          have : vs.length ≠ 0 := fun e => hne (List.eq_nil_of_length_eq_zero e)
          omega
        have P2 := pass_ok w2 B p c ts k' ⟨#[44]⟩ hr2 (y2.trans c2) d2
        rw [hd, List.tail_cons] at h2
        go_wp2_with (go_at_call 73; refine P2.mono ?_; rintro e w3 ⟨rfl, hr3, hx3⟩; have hX3 : BX B w w3 := hX2.trans hx3; have hO3 := hO2.nodal (Nodal.bx hr2 hx3); clear hx3)
        rcases SetI.part (vs := vs) h2 with ⟨e1, g1, rfl⟩ | ⟨b, r, g1, g2⟩
        · have HG := fun W (hr : RS W B p c ts (k' + 1)) => ih 0 (by omega) W (k' + 1) _ hr (by rw [d1]; exact g1)
          clear g1
          go_wp2_with (go_at_fn 39; refine (HG _ hr3).mono ?_; rintro e w4 ⟨rfl, hr4, hx4⟩)
          exact ⟨rfl, rfl, hr4, hX3.trans hx4⟩
        · obtain ⟨nb, lb, sb, db⟩ := hr3.next_words (w1 := w) (n := n) (lvl := 0) (by omega) (by rw [d1]; exact g1)
          have HG := fun W (hr : RS W B p c ts (k' + 1)) => ih 0 (by omega) W (k' + 1) _ hr (by rw [d1]; exact g1)
          have hbl : b.length ≠ 0 := fun e => nb (List.eq_nil_of_length_eq_zero e)
          have HG2 : Hid (SetI n res (vs ++ [b]) r) := g2
          have HNB : Hid (b ≠ []) := nb
          have HDB : Hid (ts.drop (ts.length - r.length) = r) := db
          have HOO : Hid (OW w3 w.heap.size (.slice qv (vs).length cv) vs) := hO3
          have HXQ : Hid (BX B w w3) := hX3
          have HRQ : Hid (RS w3 B p c ts (k' + 1)) := hr3
          clear g1 g2 nb db
          go_wp2_with (first
            | (go_at_fn 39; refine (HG _ HRQ.out).mono ?_; rintro e w4 ⟨⟨qb, cb, rfl, hntb, hcb, hcmb⟩, hr4, hx4⟩; simp only at hntb hcb hr4 ⊢; have HNT4 : Hid (NT w4 0 qb b) := hntb; have HR4 : Hid (RS w4 B p c ts (ts.length - r.length)) := hr4; have HX4 : Hid (BX B w w4) := HXQ.out.trans hx4; have HO4 : Hid (OW w4 w.heap.size (.slice qv (vs).length cv) vs) := HOO.out.nodal (Nodal.bx HRQ.out hx4); clear hntb hr4 hx4)
            | (at_builtin; (refine append_ow w4 rfl (.tmp 17) (.tmp 20) rfl w.heap.size (.slice qv vs.length cv) vs rfl HO4.out b qb cb HNT4.out hcb hcmb rfl (by simp; try omega) HX4.out.size ?_); intro v5 w5 hown5 hk5))
          have hr5 := HR4.out.kept hk5 hBl hlow
          refine ⟨⟨ts.length - r.length, vs ++ [b], hown5, by show SetI _ _ _ _; rw [HDB.out]; exact HG2.out, hr5, HX4.out.kept hk5, ?_, ?_, ?_⟩, ?_⟩
          · intro u hu
            rcases List.mem_append.1 hu with hu | hu
            · exact HN.out u hu
            · simp at hu; subst hu; exact HNB.out
          · simp; try omega
          · have := HF.out; show _ ≤ _; simp at this ⊢; try omega
          · rw [hr5.c1, HR.out.c1]; simp [intOf]; omega
      · have hv0 : (0 : Int) < (vs.length : Int) := by
          have : vs.length ≠ 0 := fun e => hne (List.eq_nil_of_length_eq_zero e)
          omega
        have P2 := pass_bad w2 B p c ts k' ⟨#[44]⟩ hr2 (y2.trans c2)
        have HK : Hid (ts.length - (ts.drop k').length = k') := by show _ = _; rw [List.length_drop]; omega
        go_wp2_with (go_at_call 73; refine P2.mono ?_; rintro e w3 ⟨rfl, hr3, hx3⟩)
        refine ⟨rfl, rfl, ?_, hX2.trans hx3⟩
        simp only [HK.out]; exact hr3
end Go.Proofs.YtdoeinjilnhijaaGreatDoor
