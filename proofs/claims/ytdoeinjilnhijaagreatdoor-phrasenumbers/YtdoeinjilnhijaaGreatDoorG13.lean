/- Package phrase's writer: add, take, formOf; by walks of their own texts. Package phrase's writer: say; by a walk of its own text. -/
import Derived.Test.YtdoeinjilnhijaaGreatDoorG8
import Derived.Test.YtdoeinjilnhijaaGreatDoorG12
import Derived.StillTailTactics
namespace Go.Proofs.YtdoeinjilnhijaaGreatDoor
open Go.RowKit
set_option linter.unusedVariables false
set_option maxRecDepth 100000

/-- The writer is so far, with these words. -/
def Wr (B : Nat) (p : Option Addr) (c : Nat) (e : List Nd) (k : Nat) (L : List Tk) (w w' : World) : Prop := (∃ v', WS w' B p c e k v' L) ∧ KW B w w'
set_option maxHeartbeats 1000000 in
theorem wadd_any (w : World) (B : Nat) (p : Option Addr) (c : Nat) (e : List Nd) (k : Nat) (v : Value) (L : List Tk) (kd : Int) (s : ByteArray) (h : WS w B p c e k v L) (hl : L.length ≤ 1000000) :
    Calls Tryz.prog 52 #[.pointer (some ⟨B, 0, none⟩), .int .i64 kd, .string s] w fun en w' => en = .returned (.tuple #[]) ∧ Wr B p c e k (L ++ [⟨kd, s, 0⟩]) w w' := by
  have c2 := h.c2
  have hlt := h.lt
  go_enter Tryz.func52, Tryz.ntmps52
  go_wp2_with (at_builtin; refine append_tokK w rfl (.tmp 10) (.tmp 14) rfl (B + 1) v L rfl h.own ⟨kd, s, 0⟩ rfl (by omega) (by omega) ?_; intro v1 w1 ho1 hk1; obtain ⟨qq, cq, ev, _⟩ := ho1.slice; subst ev; have b1 : w1.heap[B]? = _ := (hk1.bel.block B (Nat.lt_succ_self _)).trans h.blk; have f1 : w1.frozen? ⟨B, 2, none⟩ = false := (by simp [World.frozen?, b1]); have d1 : w1.cell? ⟨B, 2, none⟩ = some v := (by simp [World.cell?, b1]))
  go_end0
  have ho2 : OT w1 (B + 1) (.slice qq (L.length + 1) cq) (L ++ [⟨kd, s, 0⟩]) := by simpa using ho1
  exact ⟨rfl, ⟨_, h.setTs hk1 ho2⟩, KW.set hk1.drop ⟨_, _, b1⟩ 2 _⟩
set_option maxHeartbeats 1000000 in
theorem wtake_any (w : World) (B : Nat) (p : Option Addr) (c : Nat) (e : List Nd) (k : Nat) (v : Value) (L : List Tk) (x : Nd) (h : WS w B p c e k v L) (hx : e[k]? = some x) :
    Calls Tryz.prog 44 #[.pointer (some ⟨B, 0, none⟩)] w fun en w' => en = .returned (.agg #[.int .i64 x.op, .int .i64 x.n, .string x.s, .string x.t]) ∧ Wr B p c e (k + 1) L w w' := by
  have hk : k < e.length := (List.getElem?_eq_some_iff.1 hx).1
  have hel := h.len
  have hb0 : Below w.heap.size w (w.alloc (.cells #[.int .i64 0, .int .i64 0, .string ⟨#[]⟩, .string ⟨#[]⟩] 29)) := (Below.refl _ _).alloc (Nat.le_refl _) _
  have h1 := h.up hb0
  obtain ⟨bq, oq, hpq, hbq, e0, e1, e2, e3, _⟩ := h.nl.at hk
  have hex : e[k] = x := by rw [List.getElem?_eq_getElem hk] at hx; exact Option.some.inj hx
  rw [hex] at e0 e1 e2 e3
  subst hpq
  have c0 := h.c0
  have c1 := h.c1
  have f1 := h.fz 1
  have hlt := h.lt
  have hB2 : ¬ B = w.heap.size := by omega
  have hB3 : ¬ B = w.heap.size + 1 := by omega
  have i1 : (k : Int) < (e.length : Int) := by omega
  have i2 : (k : Int) ≤ 200 := by omega
  go_enter Tryz.func44, Tryz.ntmps44
  go_wp2
  go_region
  go_wp2
  have hz : Below (w.setCell ⟨B, 1, none⟩ (.int .i64 ((k + 1 : Nat) : Int))).heap.size (w.setCell ⟨B, 1, none⟩ (.int .i64 ((k + 1 : Nat) : Int))) (((w.setCell ⟨B, 1, none⟩ (.int .i64 ((k + 1 : Nat) : Int))).alloc (.cells #[.int .i64 x.op, .int .i64 x.n, .string x.s, .string x.t] 29)).alloc (.cells #[.int .i64 x.op, .int .i64 x.n, .string x.s, .string x.t] 29)).drew :=
    (((Below.refl _ _).alloc (Nat.le_refl _) _).alloc (by simp) _).drew
  refine bodyPost_ret (v := .agg #[.int .i64 x.op, .int .i64 x.n, .string x.s, .string x.t]) (by simp [results, Tryz.results44, go_sem]) rfl ⟨rfl, ⟨v, (h.setAt (k' := k + 1) hk).up hz⟩, (KW.set (KW.refl B w) h.typed 1 _).up hz (by simp; omega)⟩
/-- The form of an operator. -/
theorem formOf_any (op : Int) (w : World) : Calls Tryz.prog 24 #[.int .i64 op] w fun en w' => en = .returned (.int .i64 (lvO op : Int)) ∧ w' = w := by
  have HL : Hid (lvO op = if op = 13 then 0 else if op = 12 then 1 else if op = 11 then 2 else if 14 ≤ op ∧ op ≤ 16 ∨ 20 ≤ op ∧ op ≤ 24 ∧ op ≠ 22 then 3 else if op = 17 ∨ op = 18 then 4 else if op = 19 then 5 else if op = 9 ∨ op = 10 then 6 else if 22 ≤ op ∧ op ≤ 27 then 7 else 8) := rfl
  rw [HL.out]
  go_enter Tryz.func24, Tryz.ntmps24
  by_cases h : 9 ≤ op ∧ op ≤ 27
  · obtain ⟨n, rfl⟩ : ∃ n : Nat, op = n := ⟨op.toNat, by omega⟩
    have hn : n = 9 ∨ n = 10 ∨ n = 11 ∨ n = 12 ∨ n = 13 ∨ n = 14 ∨ n = 15 ∨ n = 16 ∨ n = 17 ∨ n = 18 ∨ n = 19 ∨ n = 20 ∨ n = 21 ∨ n = 22 ∨ n = 23 ∨ n = 24 ∨ n = 25 ∨ n = 26 ∨ n = 27 := by omega
    rcases hn with rfl | rfl | rfl | rfl | rfl | rfl | rfl | rfl | rfl | rfl | rfl | rfl | rfl | rfl | rfl | rfl | rfl | rfl | rfl <;> (go_wp2; go_ret; exact ⟨rfl, rfl⟩)
  · have e : (if op = 13 then 0 else if op = 12 then 1 else if op = 11 then 2 else if 14 ≤ op ∧ op ≤ 16 ∨ 20 ≤ op ∧ op ≤ 24 ∧ op ≠ 22 then 3 else if op = 17 ∨ op = 18 then 4 else if op = 19 then 5 else if op = 9 ∨ op = 10 then 6 else if 22 ≤ op ∧ op ≤ 27 then 7 else 8 : Nat) = 8 := by
      repeat' split
      all_goals omega
    rw [e]
    have b9 : (op == 9) = false := by simp; omega
    have b10 : (op == 10) = false := by simp; omega
    have b11 : (op == 11) = false := by simp; omega
    have b12 : (op == 12) = false := by simp; omega
    have b13 : (op == 13) = false := by simp; omega
    have b14 : (op == 14) = false := by simp; omega
    have b15 : (op == 15) = false := by simp; omega
    have b16 : (op == 16) = false := by simp; omega
    have b17 : (op == 17) = false := by simp; omega
    have b18 : (op == 18) = false := by simp; omega
    have b19 : (op == 19) = false := by simp; omega
    have b20 : (op == 20) = false := by simp; omega
    have b21 : (op == 21) = false := by simp; omega
    have b22 : (op == 22) = false := by simp; omega
    have b23 : (op == 23) = false := by simp; omega
    have b24 : (op == 24) = false := by simp; omega
    have b25 : (op == 25) = false := by simp; omega
    have b26 : (op == 26) = false := by simp; omega
    have b27 : (op == 27) = false := by simp; omega
    clear HL e h
    go_wp2
    go_ret
    exact ⟨rfl, rfl⟩
end Go.Proofs.YtdoeinjilnhijaaGreatDoor
namespace Go.Proofs.YtdoeinjilnhijaaGreatDoor
open Go.RowKit
set_option linter.unusedVariables false
set_option maxRecDepth 100000

/-- A word that is said: a name, or a sign. -/
def sayT (s : ByteArray) : Tk := ⟨if nfault s.data.toList = 0 then 1 else 5, s, 0⟩
set_option maxHeartbeats 1000000 in
theorem wsay_any (w : World) (B : Nat) (p : Option Addr) (c : Nat) (e : List Nd) (k : Nat) (v : Value) (L : List Tk) (ss : List ByteArray) (S : Nat) (h : WS w B p c e k v L) (hl : L.length ≤ 900000) (hn : ss.length ≤ 10)
    (hS : ∀ i x, ss[i]? = some x → w.cell? ⟨S, i, none⟩ = some (.string x)) (hT : Typed w S 9) (hz : ∀ x ∈ ss, x.size ≤ maxLen) :
    Calls Tryz.prog 26 #[.pointer (some ⟨B, 0, none⟩), .slice (some ⟨S, 0, none⟩) ss.length ss.length] w fun en w' => en = .returned (.tuple #[]) ∧ Wr B p c e k (L ++ ss.map sayT) w w' := by
  have hnl : ss.length ≤ 10 := hn
  have HE : ∀ (w' : World) (L' : List Tk) (u : Value) (kd : Int) (s : ByteArray), WS w' B p c e k u L' → L'.length ≤ 900010 → Calls Tryz.prog 52 #[.pointer (some ⟨B, 0, none⟩), .int .i64 kd, .string s] w' fun en w'' => en = .returned (.tuple #[]) ∧ Wr B p c e k (L' ++ [⟨kd, s, 0⟩]) w' w'' :=
    fun w' L' u kd s h' hl' => wadd_any w' B p c e k u L' kd s h' (by omega)
  go_enter Tryz.func26, Tryz.ntmps26
  go_wp2
  go_loopw [8] (fun i wr => ∃ j : Nat, j ≤ ss.length ∧ i = .int .i64 j ∧ Wr B p c e k (L ++ (ss.take j).map sayT) w wr) (fun i _ => ss.length - (intOf i).toNat)
  case atStart => exact ⟨0, Nat.zero_le _, rfl, ⟨v, by simpa using h⟩, KW.refl _ _⟩
  case round =>
    obtain ⟨j, hj, rfl, ⟨u, hu⟩, hk⟩ := hrel
    by_cases hlt : j < ss.length
    · have i1 : (j : Int) < (ss.length : Int) := by omega
      have hx := List.getElem?_eq_getElem hlt
      have hc : wr.cell? ⟨S, j, none⟩ = some (.string ss[j]) := (hk.cellT (by decide) (by decide) hT j).trans (hS j _ hx)
      have HM : Hid (L ++ (ss.take (j + 1)).map sayT = L ++ (ss.take j).map sayT ++ [sayT ss[j]]) := by
        show _ = _
        rw [List.take_succ_eq_append_getElem hlt, List.map_append, List.map_cons, List.map_nil, List.append_assoc]
      have hll : (L ++ (ss.take j).map sayT).length ≤ 900010 := by simp; omega
      have hsz := hz _ (List.getElem_mem hlt)
      have HC := check_any ss[j] wr hsz
      have hU : sayT ss[j] = ⟨if nfault ss[j].data.toList = 0 then 1 else 5, ss[j], 0⟩ := rfl
      rw [hU] at HM
      clear hU hx
      generalize ss[j] = s at *
      generalize L ++ (ss.take j).map sayT = M at *
      by_cases hf : nfault s.data.toList = 0
      · rw [eV_nil hf] at HC
        rw [if_pos hf] at HM
        go_wp2_with fail
        refine HC.mono ?_
        rintro en w1 ⟨rfl, rfl⟩
        go_wp2_with fail
        refine (HE _ M u 1 s hu hll).mono ?_
        rintro en w2 ⟨rfl, ⟨u2, hu2⟩, hk2⟩
        go_wp2
        go_roundw
        case rel => exact ⟨j + 1, by omega, by go_num, ⟨u2, by rw [HM.out]; exact hu2⟩, hk.trans hk2⟩
        case measure => simp [intOf]; omega
      · rw [eV_not hf] at HC
        rw [if_neg hf] at HM
        go_wp2_with fail
        refine HC.mono ?_
        rintro en w1 ⟨rfl, rfl⟩
        go_wp2_with fail
        refine (HE _ M u 5 s hu hll).mono ?_
        rintro en w2 ⟨rfl, ⟨u2, hu2⟩, hk2⟩
        go_wp2
        go_roundw
        case rel => exact ⟨j + 1, by omega, by go_num, ⟨u2, by rw [HM.out]; exact hu2⟩, hk.trans hk2⟩
        case measure => simp [intOf]; omega
    · obtain rfl : j = ss.length := by omega
      have i1 : ¬ (ss.length : Int) < (ss.length : Int) := by omega
      rw [List.take_length] at hu
      go_wp2
      go_end0
      exact ⟨rfl, ⟨u, hu⟩, hk⟩
end Go.Proofs.YtdoeinjilnhijaaGreatDoor
