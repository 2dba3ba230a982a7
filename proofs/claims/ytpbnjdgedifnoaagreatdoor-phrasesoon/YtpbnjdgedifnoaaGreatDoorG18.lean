/- Package phrase's reader: number. -/
import Derived.Test.YtpbnjdgedifnoaaGreatDoorG16
import Derived.Test.YtpbnjdgedifnoaaGreatDoorG17
import Derived.Test.YtpbnjdgedifnoaaGreatDoorShelf
namespace Go.Proofs.YtpbnjdgedifnoaaGreatDoor
open Go.RowKit Go.Maps Go.Shelf
set_option linter.unusedVariables false
set_option maxRecDepth 100000

theorem atoi_ok (s : ByteArray) (v : Int) (w : World) (hs : s.size ≤ 1000) (h : Lib.atoiAll s.data.toList = .ok v) :
    Calls Tryz.prog 231 #[.string s] w fun e w' => e = .returned (.tuple #[.int .i64 v, .nilIface]) ∧ Below w.heap.size w w' := by
  refine (Any.strconv_Atoi_ok Tryz.laysC172 s (by omega) v h w).mono ?_
  rintro e w' ⟨rfl, rfl | ⟨t, rfl⟩⟩
  · exact ⟨rfl, Below.refl _ _⟩
  · exact ⟨rfl, Lib.bytesWorld_below _ _ _⟩
theorem atoi_range (s : ByteArray) (w : World) (hs : s.size ≤ 1000) (h : Lib.atoiAll s.data.toList = .range) (he : ErrIn w) :
    Calls Tryz.prog 231 #[.string s] w fun e w' => (∃ n T N, e = .returned (.tuple #[.int .i64 n, .iface T (.pointer (some ⟨N, 0, none⟩))])) ∧ Below w.heap.size w w' := by
  obtain ⟨ev, h1, h2⟩ := he
  refine (Any.strconv_Atoi_range Tryz.laysC172 s (by omega) h ev w h1 h2).mono ?_
  rintro e w' ⟨N, rfl, _, _, hb⟩
  exact ⟨⟨_, _, N, rfl⟩, hb⟩
set_option maxHeartbeats 2000000 in
theorem number_bad (w : World) (B : Nat) (p : Option Addr) (c : Nat) (ts : List Tk) (k : Nat) (lead : ByteArray) (h : RS w B p c ts k) (hd : ((hdT (ts.drop k)).kind == 2) = false) :
    Calls Tryz.prog 227 #[.pointer (some ⟨B, 0, none⟩), .string lead] w fun e w' => e = .panicked (thrownP 1) ∧ RS w' B p c ts k ∧ BX B w w' := by
  have H1 := ahead0_any w B p c ts k h
  generalize hdT (ts.drop k) = t at *
  unfold tokV at H1
  go_enter Tryz.func227, Tryz.ntmps227
  go_wp2_with fail
  refine H1.mono ?_
  rintro e w1 ⟨rfl, hb1⟩
  have hbt : Below w1.heap.size w1 (w1.alloc (.cells #[.int .i64 t.kind, .string t.s, .int .i64 t.at_] 47)) := (Below.refl _ _).alloc (Nat.le_refl _) _
  go_wp2_with fail
  refine (pneed_false _ _).mono ?_
  rintro e w2 ⟨rfl, rfl⟩
  go_wp2
  exact ⟨rfl, rfl, (h.up hb1).up hbt, (BX.of_below hb1).up hbt⟩
set_option maxHeartbeats 2000000 in
theorem number_over (w : World) (B : Nat) (p : Option Addr) (c : Nat) (ts : List Tk) (k : Nat) (lead : ByteArray) (h : RS w B p c ts k) (hd : (hdT (ts.drop k)).kind = 2) (hl : lead.size ≤ 10) (hs : (hdT (ts.drop k)).s.size ≤ 60)
    (ha : Lib.atoiAll (lead.data.toList ++ (hdT (ts.drop k)).l) = .range) :
    Calls Tryz.prog 227 #[.pointer (some ⟨B, 0, none⟩), .string lead] w fun e w' => e = .panicked (thrownP 5) ∧ RS w' B p c ts k ∧ BX B w w' := by
  have H1 := ahead0_any w B p c ts k h
  generalize hdT (ts.drop k) = t at *
  unfold tokV at H1
  have HA := fun W => atoi_range (lead ++ t.s) W (by simp; omega) (by rw [← ha]; simp [Tk.l])
  go_enter Tryz.func227, Tryz.ntmps227
  go_wp2_with fail
  refine H1.mono ?_
  rintro e w1 ⟨rfl, hb1⟩
  have hbt : Below w1.heap.size w1 (w1.alloc (.cells #[.int .i64 t.kind, .string t.s, .int .i64 t.at_] 47)) := (Below.refl _ _).alloc (Nat.le_refl _) _
  rw [hd] at hbt
  have hr := (h.up hb1).up hbt
  go_wp2_with fail
  refine (pneed_true _ _).mono ?_
  rintro e w2 ⟨rfl, rfl⟩
  go_wp2_with fail
  refine (HA _ hr.er).mono ?_
  rintro e w3 ⟨⟨n, T, N, rfl⟩, hb3⟩
  go_wp2_with fail
  refine (pneed_false _ _).mono ?_
  rintro e w4 ⟨rfl, rfl⟩
  go_wp2
  exact ⟨rfl, rfl, hr.up hb3, ((BX.of_below hb1).up hbt).up hb3⟩
set_option maxHeartbeats 2000000 in
theorem number_ok (w : World) (B : Nat) (p : Option Addr) (c : Nat) (ts : List Tk) (k : Nat) (lead : ByteArray) (v : Int) (h : RS w B p c ts k) (hk : k < ts.length) (hd : (hdT (ts.drop k)).kind = 2) (hl : lead.size ≤ 10) (hs : (hdT (ts.drop k)).s.size ≤ 60)
    (ha : Lib.atoiAll (lead.data.toList ++ (hdT (ts.drop k)).l) = .ok v) (hv : v ≤ 9223372036854775807) :
    Calls Tryz.prog 227 #[.pointer (some ⟨B, 0, none⟩), .string lead] w fun e w' => (∃ q cc, e = .returned (.slice q 1 cc) ∧ NT w' 0 q [mkN 2 v [] []] ∧ 1 ≤ cc ∧ cc ≤ maxLen) ∧ RS w' B p c ts (k + 1) ∧ BX B w w' := by
  have H1 := ahead0_any w B p c ts k h
  have hkk : (k : Int) ≤ 300 := by have := h.len; omega
  generalize hdT (ts.drop k) = t at *
  unfold tokV at H1
  have HA := fun W => atoi_ok (lead ++ t.s) v W (by simp; omega) (by rw [← ha]; simp [Tk.l])
  have HJ := fun W => join0 (mkN 2 v [] []) W ⟨Nat.zero_le _, Nat.zero_le _, hv⟩
  rw [show ndV (mkN 2 v [] []) = .agg #[.int .i64 2, .int .i64 v, .string ⟨#[]⟩, .string ⟨#[]⟩] from rfl] at HJ
  go_enter Tryz.func227, Tryz.ntmps227
  go_wp2_with fail
  refine H1.mono ?_
  rintro e w1 ⟨rfl, hb1⟩
  have hbt : Below w1.heap.size w1 (w1.alloc (.cells #[.int .i64 t.kind, .string t.s, .int .i64 t.at_] 47)) := (Below.refl _ _).alloc (Nat.le_refl _) _
  rw [hd] at hbt
  have hr := (h.up hb1).up hbt
  go_wp2_with fail
  refine (pneed_true _ _).mono ?_
  rintro e w2 ⟨rfl, rfl⟩
  go_wp2_with fail
  refine (HA _).mono ?_
  rintro e w3 ⟨rfl, hb3⟩
  have hr3 := hr.up hb3
  have c13 := hr3.c1
  have f13 := hr3.fz
  go_wp2_with (first
    | (go_at_call 40; refine (pneed_true _ _).mono ?_; rintro e w4 ⟨rfl, rfl⟩)
    | (go_at_call 79; refine (HJ _).mono ?_; rintro e w5 ⟨⟨q, cc, rfl, hnt, hc, hcm⟩, hb5⟩))
  go_ret
  refine ⟨⟨q, cc, rfl, hnt, hc, hcm⟩, (hr3.set (k' := k + 1) (by omega)).up hb5, ?_⟩
  exact ((((BX.of_below hb1).up hbt).up hb3).set 1 _).up hb5
end Go.Proofs.YtpbnjdgedifnoaaGreatDoor
