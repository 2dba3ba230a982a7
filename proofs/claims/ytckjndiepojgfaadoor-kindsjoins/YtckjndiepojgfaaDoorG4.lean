/- Nodes in memory: what was there is as it was; a list of nodes behind an address. Lists of nodes in memory: their head, their tail; texts by their bytes. strings.Compare: by a walk of its own text. The statements on kinds: arguments. (Parted out of KlK.) Whether two lists of nodes are the same: package wicketgatesame's Nodes, by a walk of its own text. -/
import Derived.Test.YtckjndiepojgfaaDoorChecked
import Derived.Test.YtckjndiepojgfaaDoorG3
import Derived.WalkKit
import Derived.WalkLawsBesides
import Derived.Lib.Bytealg
import Derived.Deep.QuietTactic
import Derived.BigQuiet
import Derived.StillTailTactics
import Derived.Below
import Derived.Laws.StructEq
namespace Go.Proofs.YtckjndiepojgfaaDoor
open Go.RowKit
set_option linter.unusedVariables false

/-- What was there is as it was, and the draws have not gone back. -/
def Up (w w' : World) : Prop := Below w.heap.size w w' ∧ w.drawn ≤ w'.drawn
theorem Up.refl (w : World) : Up w w := ⟨Below.refl _ _, Nat.le_refl _⟩
theorem Up.trans {a b c : World} (h : Up a b) (k : Up b c) : Up a c := ⟨h.1.trans (k.1.mono h.1.size), Nat.le_trans h.2 k.2⟩
theorem Up.alloc (w : World) (o : Obj) : Up w (w.alloc o) := ⟨(Below.refl _ _).alloc (Nat.le_refl _) _, Nat.le_refl _⟩
theorem Up.drew (w : World) : Up w w.drew := ⟨(Below.refl _ _).drew, Nat.le_succ _⟩

def Nd.val (x : Nd) : Value := .agg #[.int .i64 x.op, .int .i64 x.n, .string x.s, .string x.t]
def Nd.wf (x : Nd) : Prop := x.s.size ≤ maxLen ∧ x.t.size ≤ maxLen ∧ x.n ≤ 9223372036854775807

theorem ret_i {k : IntKind} {a b : Int} (h : a = b) : Ending.returned (.int k a) = .returned (.int k b) := by rw [h]
/-- A list of nodes lies behind an address. -/
def NL (w : World) (p : Option Addr) (L : List Nd) : Prop :=
  L = [] ∨ ∃ b off, p = some ⟨b, off, none⟩ ∧ b < w.heap.size ∧ ∀ i x, L[i]? = some x →
    w.cell? ⟨b, off + i * 4, none⟩ = some (.int .i64 x.op) ∧ w.cell? ⟨b, off + i * 4 + 1, none⟩ = some (.int .i64 x.n) ∧
    w.cell? ⟨b, off + i * 4 + 2, none⟩ = some (.string x.s) ∧ w.cell? ⟨b, off + i * 4 + 3, none⟩ = some (.string x.t) ∧ x.wf

theorem NL.up {w w' : World} {p : Option Addr} {L : List Nd} (h : NL w p L) (k : Below w.heap.size w w') : NL w' p L := by
  rcases h with h | ⟨b, off, h1, h2, h3⟩
  · exact .inl h
  · refine .inr ⟨b, off, h1, Nat.lt_of_lt_of_le h2 k.size, fun i x hx => ?_⟩
    have q : ∀ o, w'.cell? ⟨b, o, none⟩ = w.cell? ⟨b, o, none⟩ := fun o => k.cell (p := ⟨b, o, none⟩) h2
    simp only [q]
    exact h3 i x hx

theorem NL.at {w : World} {p : Option Addr} {L : List Nd} (h : NL w p L) {i : Nat} (hi : i < L.length) : ∃ b off, p = some ⟨b, off, none⟩ ∧ b < w.heap.size ∧ 
    w.cell? ⟨b, off + i * 4, none⟩ = some (.int .i64 L[i].op) ∧ w.cell? ⟨b, off + i * 4 + 1, none⟩ = some (.int .i64 L[i].n) ∧
    w.cell? ⟨b, off + i * 4 + 2, none⟩ = some (.string L[i].s) ∧ w.cell? ⟨b, off + i * 4 + 3, none⟩ = some (.string L[i].t) ∧ L[i].wf := by
  rcases h with rfl | ⟨b, off, h1, h2, h3⟩
  · simp at hi
  · exact ⟨b, off, h1, h2, h3 i _ (List.getElem?_eq_getElem hi)⟩

end Go.Proofs.YtckjndiepojgfaaDoor
namespace Go.Proofs.YtckjndiepojgfaaDoor
open Go.RowKit
set_option linter.unusedVariables false

theorem NL.tail {w : World} {b off : Nat} {x : Nd} {r : List Nd} (h : NL w (some ⟨b, off, none⟩) (x :: r)) : NL w (some ⟨b, off + 4, none⟩) r := by
  rcases h with h | ⟨b', off', h1, h2, h3⟩
  · cases h
  · cases h1
    refine .inr ⟨_, _, rfl, h2, fun i y hy => ?_⟩
    have := h3 (i + 1) y (by simpa using hy)
    rw [show off + (i + 1) * 4 = off + 4 + i * 4 by omega] at this
    exact this

theorem NL.take {w : World} {p : Option Addr} {L : List Nd} (h : NL w p L) (n : Nat) : NL w p (L.take n) := by
  rcases h with rfl | ⟨b', off', h1, h2, h3⟩
  · exact .inl (by simp)
  · refine .inr ⟨_, _, h1, h2, fun i y hy => h3 i y ?_⟩
    rw [List.getElem?_take] at hy
    split at hy
    · exact hy
    · cases hy

theorem NL.head {w : World} {p : Option Addr} {x : Nd} {r : List Nd} (h : NL w p (x :: r)) : ∃ b off, p = some ⟨b, off, none⟩ ∧ b < w.heap.size ∧
    w.cell? ⟨b, off, none⟩ = some (.int .i64 x.op) ∧ w.cell? ⟨b, off + 1, none⟩ = some (.int .i64 x.n) ∧
    w.cell? ⟨b, off + 2, none⟩ = some (.string x.s) ∧ w.cell? ⟨b, off + 3, none⟩ = some (.string x.t) ∧ x.wf := by
  rcases h with h | ⟨b, off, h1, h2, h3⟩
  · cases h
  · exact ⟨b, off, h1, h2, by simpa using h3 0 x rfl⟩


theorem bytesLess_cb : ∀ (l m : List UInt8), Op.bytesLess l m = decide (Lib.compareBytes l m < 0)
  | [], [] => rfl
  | [], _ :: _ => rfl
  | _ :: _, [] => rfl
  | a :: x, b :: y => by
    rw [Op.bytesLess, cb_cons, bytesLess_cb x y]
    by_cases h : a < b
    · simp [h]
    · by_cases k : b < a
      · have : ¬ a = b := fun e => by subst e; exact absurd k h
        simp [h, k, this]
      · have : a = b := UInt8.le_antisymm (UInt8.not_lt.1 k) (UInt8.not_lt.1 h)
        subst this
        simp

end Go.Proofs.YtckjndiepojgfaaDoor
namespace Go.Proofs.YtckjndiepojgfaaDoor
open Go.RowKit
set_option linter.unusedVariables false

theorem compareStr_any (a b : ByteArray) (w : World) :
    Calls Tryd.prog 66 #[.string a, .string b] w fun e w' => e = .returned (.int .i64 (cmpB a b)) ∧ w' = w := by
  have hx := @run_callFunc_extern Tryd.prog 74 _ Extern.BytealgCompare.compare Tryd.func74 (by kernel_rfl) (by kernel_rfl) (by kernel_rfl) (by kernel_rfl)
  have hy := @Lib.run_compareString Tryd.prog
  go_enter Tryd.func66, Tryd.ntmps66
  go_wp2
  go_ret
  exact ⟨rfl, rfl⟩

theorem strCompare_any (a b : ByteArray) (w : World) :
    Calls Tryd.prog 53 #[.string a, .string b] w fun e w' => e = .returned (.int .i64 (cmpB a b)) ∧ w' = w := by
  go_enter Tryd.func53, Tryd.ntmps53
  go_wp2_with (go_at_call 66; refine (compareStr_any _ _ _).mono ?_; rintro e w' ⟨rfl, rfl⟩)
  go_ret
  exact ⟨rfl, rfl⟩

end Go.Proofs.YtckjndiepojgfaaDoor
namespace Go.Proofs.YtckjndiepojgfaaDoor
open Go.RowKit
set_option linter.unusedVariables false

/-- A list of nodes as an argument. -/
structure AK (w : World) (a : List Nd) (p : Option Addr) (c : Nat) : Prop where
  nl : NL w p a
  le : a.length ≤ c
  cm : c ≤ maxLen
theorem AK.up {w w' : World} {a : List Nd} {p : Option Addr} {c : Nat} (h : AK w a p c) (hb : Below w.heap.size w w') : AK w' a p c := ⟨h.nl.up hb, h.le, h.cm⟩
end Go.Proofs.YtckjndiepojgfaaDoor
namespace Go.Proofs.YtckjndiepojgfaaDoor
open Go.RowKit
set_option linter.unusedVariables false

def sameNd (a b : List Nd) : Bool := decide (lsC a b = 0)
theorem sameNd_iff (a b : List Nd) : sameNd a b = true ↔ a = b := by unfold sameNd; rw [decide_eq_true_iff, lsC_is.zero]
theorem sameNd_no {a b : List Nd} (h : a ≠ b) : sameNd a b = false := by
  cases e : sameNd a b with
  | false => rfl
  | true => exact absurd ((sameNd_iff a b).1 e) h

theorem ret_b {a b : Bool} (h : a = b) : Ending.returned (.bool a) = .returned (.bool b) := by rw [h]

theorem take_same {a b : List Nd} {k : Nat} (ha : k < a.length) (hb : k < b.length) (h : a.take k = b.take k) (e : a[k] = b[k]) : a.take (k + 1) = b.take (k + 1) := by
  rw [List.take_succ_eq_append_getElem ha, List.take_succ_eq_append_getElem hb, h, e]

set_option maxHeartbeats 4000000 in
theorem sameNodes_any (a b : List Nd) (p q : Option Addr) (c1 c2 : Nat) (w : World) (ha : NL w p a) (hb : NL w q b) (la : a.length ≤ maxLen) (lb : b.length ≤ maxLen) :
    Calls Tryd.prog 10 #[.slice p a.length c1, .slice q b.length c2] w fun e w' => e = .returned (.bool (sameNd a b)) ∧ ∃ n, w' = w.drewN n := by
  unfold maxLen at la lb
  by_cases hl : a.length = b.length
  · have i0 : ((a.length : Int) != (b.length : Int)) = false := by simp [hl]
    go_enter Tryd.func10, Tryd.ntmps10
    go_wp2
    go_loopw [5] (fun i wr => ∃ k n : Nat, k ≤ a.length ∧ i = .int .i64 k ∧ wr = w.drewN n ∧ Hid (a.take k = b.take k)) (fun i _ => a.length - (intOf i).toNat)
    case atStart => exact ⟨0, 0, Nat.zero_le _, rfl, rfl, rfl⟩
    case round =>
      obtain ⟨k, n, hk, rfl, rfl, HD⟩ := hrel
      by_cases hlt : k < a.length
      · have hlt2 : k < b.length := by omega
        obtain ⟨b1, o1, rfl, hb1, x0, x1, x2, x3, xw⟩ := ha.at hlt
        obtain ⟨b2, o2, rfl, hb2, y0, y1, y2, y3, yw⟩ := hb.at hlt2
        have i1 : (k : Int) < (a.length : Int) := by omega
        have i2 : (k : Int) < (b.length : Int) := by omega
        have HE : Hid (a[k] = b[k] → a.take (k + 1) = b.take (k + 1)) := take_same hlt hlt2 HD.out
        have HF : Hid (a[k] ≠ b[k] → a ≠ b) := fun h1 h2 => h1 (by subst h2; rfl)
        generalize a[k] = x at *
        generalize b[k] = y at *
        obtain ⟨xa, xb, xc, xd⟩ := x
        obtain ⟨ya, yb, yc, yd⟩ := y
        simp only at x0 x1 x2 x3 y0 y1 y2 y3
        by_cases h1 : xa = ya
        · subst h1
          by_cases h2 : xb = yb
          · subst h2
            by_cases h3 : xc = yc
            · subst h3
              by_cases h4 : xd = yd
              · subst h4
                have HE2 : Hid (a.take (k + 1) = b.take (k + 1)) := HE.out rfl
                clear HE HF
                go_wp2
                go_quiet (fail)
                go_wp2
                go_roundw
                case rel => exact ⟨k + 1, _, by omega, by go_num, rfl, HE2⟩
                case measure => simp [intOf]; omega
              · have h4' : ¬ xd.toList = yd.toList := fun h => h4 (bytes_inj (by simpa only [ByteArray.toList_eq] using h))
                go_wp2
                go_quiet (fail)
                go_wp2
                go_ret
                exact ⟨ret_b (sameNd_no (HF.out (fun h => h4 (by injection h)))).symm, _, by rw [World.drewN_drewN]⟩
            · have h3' : ¬ xc.toList = yc.toList := fun h => h3 (bytes_inj (by simpa only [ByteArray.toList_eq] using h))
              go_wp2
              go_quiet (fail)
              go_wp2
              go_ret
              exact ⟨ret_b (sameNd_no (HF.out (fun h => h3 (by injection h)))).symm, _, by rw [World.drewN_drewN]⟩
          · go_wp2
            go_quiet (fail)
            go_wp2
            go_ret
            exact ⟨ret_b (sameNd_no (HF.out (fun h => h2 (by injection h)))).symm, _, by rw [World.drewN_drewN]⟩
        · go_wp2
          go_quiet (fail)
          go_wp2
          go_ret
          exact ⟨ret_b (sameNd_no (HF.out (fun h => h1 (by injection h)))).symm, _, by rw [World.drewN_drewN]⟩
      · have i1 : ¬ (k : Int) < (a.length : Int) := by omega
        have HS : Hid (sameNd a b = true) := by
          show _ = _
          rw [sameNd_iff]
          have := HD.out
          rw [List.take_of_length_le (by omega), List.take_of_length_le (by omega)] at this
          exact this
        go_wp2
        go_ret
        exact ⟨ret_b HS.out.symm, _, rfl⟩
  · have i0 : ((a.length : Int) != (b.length : Int)) = true := by simp; omega
    go_enter Tryd.func10, Tryd.ntmps10
    go_wp2
    go_ret
    exact ⟨ret_b (sameNd_no (fun h => hl (by rw [h]))).symm, 0, rfl⟩
end Go.Proofs.YtckjndiepojgfaaDoor
