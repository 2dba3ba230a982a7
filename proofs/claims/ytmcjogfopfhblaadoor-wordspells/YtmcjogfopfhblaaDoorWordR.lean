/- Package word's walk and Read: what is thrown is caught; what is told of every line. -/
import Derived.Test.YtmcjogfopfhblaaDoorWordG
import Derived.Defers
import Derived.Recover
import Derived.Laws.Pointers
namespace Go.Proofs.YtmcjogfopfhblaaDoor
open Go.RowKit
set_option linter.unusedVariables false

theorem wcatch_idle (p q : Addr) (w : World) :
    CallsD Tryd.prog 19 #[.pointer (some p), .pointer (some q)] .returning w fun e u' w' => e = .returned (.tuple #[]) ∧ u' = .returning ∧ w' = w := by
  refine callsD_of_wpS Tryd.func19 rfl fun c₀ cs hu => ?_
  apply wpS_seq
  apply wpS_region
  simp [wpOpsS, go_sem, recoverD, hu, Tryd.ntmps19, Exit.thenS]
  refine wpS_of_wp ?_
  go_wp2
  cases c₀
  simp_all [bodyPostS, results, Tryd.results19]

set_option maxHeartbeats 1000000 in
theorem wcatch_thrown (n : Int) (B : Nat) (w : World) (u0 u1 : Value) (h0 : w.cell? ⟨B, 0, none⟩ = some u0) (z0 : w.frozen? ⟨B, 0, none⟩ = false) (h1 : w.cell? ⟨B + 1, 0, none⟩ = some u1) (z1 : w.frozen? ⟨B + 1, 0, none⟩ = false) (hs : B + 2 ≤ w.heap.size) :
    CallsD Tryd.prog 19 #[.pointer (some ⟨B, 0, none⟩), .pointer (some ⟨B + 1, 0, none⟩)] (.panicking (thrownW n)) w fun e u' w' => e = .returned (.tuple #[]) ∧ u' = .panicking [{ v := .iface 51 (.agg #[.iface 27 (.int .i64 n)]), recovered := true }] ∧
      w'.cell? ⟨B, 0, none⟩ = some (.slice none 0 0) ∧ w'.cell? ⟨B + 1, 0, none⟩ = some (.iface 27 (.int .i64 n)) ∧ Below B w w' := by
  have hta : ∀ w : World, Sem.run Tryd.prog (Instr.typeAssert (.iface 51 (.agg #[.iface 27 (.int .i64 n)])) 20 51 true) w = .ok (.tuple #[.agg #[.iface 27 (.int .i64 n)], .bool true]) w := fun _ => by kernel_rfl
  refine callsD_of_wpS Tryd.func19 rfl fun c₀ cs hu => ?_
  unfold thrownW at hu
  apply wpS_seq
  apply wpS_region
  simp [wpOpsS, go_sem, recoverD, hu, Tryd.ntmps19, Exit.thenS]
  have e : ∀ p q X : Value, #[p, q] ++ (Array.replicate 11 undef).setIfInBounds 3 X = #[p, q, undef, undef, undef, X, undef, undef, undef, undef, undef, undef, undef] := fun _ _ _ => rfl
  rw [e]
  refine wpS_of_wp ?_
  go_wp2_with fail
  have hbA : Below w.heap.size w (w.alloc (.cells #[.iface 27 (.int .i64 n)] 51)) := (Below.refl _ _).alloc (Nat.le_refl _) _
  have a0 := (hbA.cell (p := ⟨B, 0, none⟩) (by show B < _; omega)).trans h0
  have a1 := (hbA.cell (p := ⟨B + 1, 0, none⟩) (by show B + 1 < _; omega)).trans h1
  have y0 := (hbA.frozen (p := ⟨B, 0, none⟩) (by show B < _; omega)).trans z0
  have y1 := (hbA.frozen (p := ⟨B + 1, 0, none⟩) (by show B + 1 < _; omega)).trans z1
  have a2 : (w.alloc (.cells #[.iface 27 (.int .i64 n)] 51)).cell? ⟨w.heap.size, 0, none⟩ = some (.iface 27 (.int .i64 n)) := by simp [go_sem]
  have ne0 : (⟨B, 0, none⟩ : Addr) ≠ ⟨w.heap.size, 0, none⟩ := by intro hh; injection hh; omega
  have ne1 : (⟨B, 0, none⟩ : Addr) ≠ ⟨B + 1, 0, none⟩ := by intro hh; injection hh; omega
  have a3 := (World.cell?_setCell_other (w.alloc (.cells #[.iface 27 (.int .i64 n)] 51)) _ _ (.slice none 0 0) ne0).trans a2
  have a4 := (World.cell?_setCell_other (w.alloc (.cells #[.iface 27 (.int .i64 n)] 51)) _ _ (.slice none 0 0) ne1).trans a1
  have hbB : Below B w (w.alloc (.cells #[.iface 27 (.int .i64 n)] 51)) := hbA.mono (by omega)
  clear hbA
  generalize w.alloc (.cells #[.iface 27 (.int .i64 n)] 51) = w1 at *
  go_region
  all_goals go_wp2
  have k0 : ((w1.setCell ⟨B, 0, none⟩ (.slice none 0 0)).setCell ⟨B + 1, 0, none⟩ (.iface 27 (.int .i64 n))).drew.cell? ⟨B, 0, none⟩ = some (.slice none 0 0) :=
    (World.cell?_setCell_other _ _ _ _ ne1.symm).trans (World.cell?_setCell_same _ _ _ a0)
  have k1 : ((w1.setCell ⟨B, 0, none⟩ (.slice none 0 0)).setCell ⟨B + 1, 0, none⟩ (.iface 27 (.int .i64 n))).drew.cell? ⟨B + 1, 0, none⟩ = some (.iface 27 (.int .i64 n)) :=
    World.cell?_setCell_same _ _ _ a4
  have k2 : Below B w ((w1.setCell ⟨B, 0, none⟩ (.slice none 0 0)).setCell ⟨B + 1, 0, none⟩ (.iface 27 (.int .i64 n))).drew :=
    ((hbB.setCell (Nat.le_refl _) _).setCell (by show B ≤ B + 1; omega) _).drew
  clear hbB a0 a1 a2 a3 a4 y0 y1 h0 h1 z0 z1 hta
  generalize ((w1.setCell ⟨B, 0, none⟩ (.slice none 0 0)).setCell ⟨B + 1, 0, none⟩ (.iface 27 (.int .i64 n))).drew = w9 at *
  cases c₀
  simp_all [bodyPostS, results, Tryd.results19]

/-- What Read comes to: the words, or what is wrong and where. -/
def ReadPost (N : Nat) (R : Except (Int × Nat) (List Tk)) (e : Ending) (w' : World) : Prop :=
  match R with
  | .ok ts => ∃ q c, e = .returned (.tuple #[.slice q ts.length c, .int .i64 0, .nilIface]) ∧ TKL w' q ts ∧ ts.length ≤ c ∧ c ≤ maxLen ∧ ∀ a, q = some a → N ≤ a.block
  | .error x => e = .returned (.tuple #[.slice none 0 0, .int .i64 x.2, .iface 27 (.int .i64 x.1)])

/-- The words so far, in the call's own memory: the two named results' blocks at B, the row behind them. -/
structure WK (w wr : World) (B : Nat) (acc : List Tk) : Prop where
  bel : Below B w wr
  size : B + 2 ≤ wr.heap.size
  row : ∃ v, wr.cell? ⟨B, 0, none⟩ = some v ∧ OT wr (B + 2) v acc
  rowf : wr.frozen? ⟨B, 0, none⟩ = false
  err : wr.cell? ⟨B + 1, 0, none⟩ = some .nilIface
  errf : wr.frozen? ⟨B + 1, 0, none⟩ = false
theorem WK.up {w wr w' : World} {B : Nat} {acc : List Tk} (h : WK w wr B acc) (k : Below wr.heap.size wr w') : WK w w' B acc where
  bel := h.bel.trans (k.mono (by have := h.size; omega))
  size := Nat.le_trans h.size k.size
  row := by
    obtain ⟨v, h1, h2⟩ := h.row
    exact ⟨v, (k.cell (p := ⟨B, 0, none⟩) (by have := h.size; show B < _; omega)).trans h1, h2.below k⟩
  rowf := (k.frozen (p := ⟨B, 0, none⟩) (by have := h.size; show B < _; omega)).trans h.rowf
  err := (k.cell (p := ⟨B + 1, 0, none⟩) (by have := h.size; show B + 1 < _; omega)).trans h.err
  errf := (k.frozen (p := ⟨B + 1, 0, none⟩) (by have := h.size; show B + 1 < _; omega)).trans h.errf
theorem WK.grow {w wr w1 : World} {B : Nat} {acc m : List Tk} {v : Value} (h : WK w wr B acc) (hb : Below (B + 2) wr w1) (hown : OT w1 (B + 2) v m) : WK w (w1.setCell ⟨B, 0, none⟩ v) B m where
  bel := (h.bel.trans (hb.mono (by omega))).setCell (Nat.le_refl _) _
  size := by have := h.size; have := hb.size; simp [World.setCell]; omega
  row := by
    obtain ⟨u, h1, h2⟩ := h.row
    exact ⟨v, World.cell?_setCell_same _ _ _ ((hb.cell (p := ⟨B, 0, none⟩) (by show B < B + 2; omega)).trans h1), hown.set (by show B < B + 2; omega) _⟩
  rowf := by
    have := (hb.frozen (p := ⟨B, 0, none⟩) (by show B < B + 2; omega)).trans h.rowf
    simpa using this
  err := ((World.cell?_setCell_other _ _ _ _ (by simp)).trans (hb.cell (p := ⟨B + 1, 0, none⟩) (by show B + 1 < B + 2; omega))).trans h.err
  errf := by
    have := (hb.frozen (p := ⟨B + 1, 0, none⟩) (by show B + 1 < B + 2; omega)).trans h.errf
    simpa using this
theorem wk_start (w : World) : WK w ((w.alloc (.cells #[.slice none 0 0] 22)).alloc (.cells #[.nilIface] 24)) w.heap.size [] where
  bel := ((Below.refl _ _).alloc (Nat.le_refl _) _).alloc (by simp) _
  size := by simp
  row := ⟨.slice none 0 0, by simp [go_sem], OT.nil _ _⟩
  rowf := by simp [go_sem]
  err := by simp [go_sem]
  errf := by simp [go_sem]

set_option maxHeartbeats 2000000 in
theorem wwalk_any (s : ByteArray) (w : World) (hs : s.size ≤ 900) :
    Calls Tryd.prog 14 #[.string s] w fun e w' => ReadPost w.heap.size (wds s.data.toList [] 0) e w' ∧ Below w.heap.size w w' := by
  have hl : s.data.toList.length = s.size := by simp
  have hmf : ∀ (fn : Fn) (first cap : Array Value) (w : World), (Instr.makeFunc fn first cap).run Tryd.prog w = .ok (.func fn first cap) w := fun _ _ _ _ => rfl
  have HK := wk_start w
  generalize hw0 : (w.alloc (.cells #[.slice none 0 0] 22)).alloc (.cells #[.nilIface] 24) = w0 at HK
  have HR0 := runBlank_any s
  have hk0 := runL_le blankb s.data.toList
  rw [wds_run]
  have HN0 := run_next s.data.toList
  generalize runL blankb s.data.toList = k0 at *
  generalize hR : wds (s.data.toList.drop k0) [] (0 + k0) = R
  have HR : Hid (wds (s.data.toList.drop k0) [] k0 = R) := by rw [← hR]; show _ = _; rw [Nat.zero_add]
  clear hR
  go_enter_defers Tryd.func14, Tryd.ntmps14
  go_wp2_with fail
  refine (HR0 _ (by unfold maxLen; omega)).mono ?_
  rintro e w1 ⟨rfl, rfl⟩
  go_wp2_with fail
  go_loopw [3] (fun a wr => ∃ (k : Nat) (acc : List Tk), k ≤ s.size ∧ a = .int .i64 k ∧ Hid (WK w wr w.heap.size acc) ∧ Hid (acc.length ≤ 300) ∧ Hid (∀ c r, s.data.toList.drop k = c :: r → (c.toNat == 32) = false) ∧ Hid (wds (s.data.toList.drop k) acc k = R)) (fun a _ => s.size - (intOf a).toNat)
  case atStart => exact ⟨k0, [], by omega, rfl, by subst hw0; exact HK, Nat.zero_le _, HN0, HR⟩
  case round =>
    clear HR0 HN0 HK hw0 hk0 HR
    obtain ⟨k, acc, hk, rfl, HK, HA, HB, HR⟩ := hrel
    by_cases hlt : k < s.size
    · have i1 : (k : Int) < (s.size : Int) := by omega
      have i2 : (k : Int) ≤ (s.size : Int) := by omega
      have hD := drop_at s k hlt
      have hne := HB.out _ _ hD
      have H1 := first_any (s.extract k s.size) wr (by simp; omega) (by simp; omega)
      rw [tail_drop] at H1
      obtain ⟨v, hrow, hown⟩ := HK.out.row
      obtain ⟨q, cp, rfl, _⟩ := hown.slice
      have hnl := HK.out.err
      have hsz := HK.out.size
      cases hw : word1 (s.data.toList.drop k) with
      | error n =>
        rw [hw] at H1
        unfold endW at H1
        simp only [] at H1
        have HN : Hid (R = .error (n, k)) := by
          have := HR.out
          rw [hD] at hw
          rw [hD, wds_bad hne hw] at this
          exact this.symm
        clear hw hD hne HB HR hown
        go_wp2_with fail
        refine H1.mono ?_
        rintro e w2 ⟨rfl, hb⟩
        have HK2 := HK.out.up hb
        obtain ⟨v2, hr2, ho2⟩ := HK2.row
        go_wp2
        refine leaves_cons (f := 19) (args := #[.pointer (some ⟨w.heap.size, 0, none⟩), .pointer (some ⟨w.heap.size + 1, 0, none⟩)]) (by simp) (by simp [go_sem]) ?_
        refine (wcatch_thrown n w.heap.size _ _ _ hr2 HK2.rowf HK2.err HK2.errf HK2.size).mono ?_
        rintro e u' w3 ⟨rfl, rfl, c0, c1, hb3⟩
        have hb4 := HK2.bel.trans hb3
        simp [Leaves, settle, results, Tryd.results14, go_sem, c0, c1]
        exact ⟨by rw [HN.out]; rfl, hb4⟩
      | ok x =>
        obtain ⟨kd, t, n⟩ := x
        rw [hw] at H1
        unfold endW at H1
        simp only [] at H1
        obtain ⟨n1, n2⟩ := word1_size hw
        rw [List.length_drop, hl] at n2
        simp only at n1 n2
        by_cases hf : 300 ≤ acc.length
        · have HN : Hid (R = .error (4, k)) := by
            have := HR.out
            rw [hD] at hw
            rw [hD, wds_full hne hw hf] at this
            exact this.symm
          clear hw hD hne HB HR hown
          go_wp2_with fail
          refine H1.mono ?_
          rintro e w2 ⟨rfl, hb⟩
          have hbt : Below w2.heap.size w2 (w2.alloc (.cells #[.int .i64 kd, .string ⟨t.toArray⟩, .int .i64 0] 36)) := (Below.refl _ _).alloc (Nat.le_refl _) _
          have HK2 := (HK.out.up hb).up hbt
          have hr2 := (hbt.cell (p := ⟨w.heap.size, 0, none⟩) (by have := hb.size; show w.heap.size < _; omega)).trans ((hb.cell (p := ⟨w.heap.size, 0, none⟩) (by show w.heap.size < _; omega)).trans hrow)
          have hsz2 := (HK.out.up hb).size
          clear HK hrow hnl
          go_wp2_with fail
          rw [decide_eq_false (by omega)]
          refine (wneed_false _ _).mono ?_
          rintro e w3 ⟨rfl, rfl⟩
          go_wp2
          refine leaves_cons (f := 19) (args := #[.pointer (some ⟨w.heap.size, 0, none⟩), .pointer (some ⟨w.heap.size + 1, 0, none⟩)]) (by simp) (by simp [go_sem]) ?_
          refine (wcatch_thrown 4 w.heap.size _ _ _ hr2 HK2.rowf HK2.err HK2.errf HK2.size).mono ?_
          rintro e u' w3 ⟨rfl, rfl, c0, c1, hb3⟩
          have hb4 := HK2.bel.trans hb3
          simp [Leaves, settle, results, Tryd.results14, go_sem, c0, c1]
          exact ⟨by rw [HN.out]; rfl, hb4⟩
        · have HN : Hid (wds (s.data.toList.drop (k + n)) (acc ++ [mkT kd t k]) (k + n) = R) := by
            have := HR.out
            rw [hD] at hw
            rw [hD, wds_word hne hw hf] at this
            simp only at this
            rw [List.drop_drop, show k + 1 + (n - 1) = k + n by omega] at this
            exact this
          clear hw hD hne HB HR hown
          go_wp2_with fail
          refine H1.mono ?_
          rintro e w2 ⟨rfl, hb⟩
          have hbt : Below w2.heap.size w2 (w2.alloc (.cells #[.int .i64 kd, .string ⟨t.toArray⟩, .int .i64 0] 36)) := (Below.refl _ _).alloc (Nat.le_refl _) _
          have hbt2 : Below w2.heap.size w2 (w2.alloc (.cells #[.int .i64 kd, .string ⟨t.toArray⟩, .int .i64 k] 36)) := (Below.refl _ _).alloc (Nat.le_refl _) _
          have HK1 := HK.out.up hb
          have hsz2 := HK1.size
          have hr1 := (hb.cell (p := ⟨w.heap.size, 0, none⟩) (by show w.heap.size < _; omega)).trans hrow
          have hr2 := (hbt.cell (p := ⟨w.heap.size, 0, none⟩) (by show w.heap.size < _; omega)).trans hr1
          have hr3 := (hbt2.cell (p := ⟨w.heap.size, 0, none⟩) (by show w.heap.size < _; omega)).trans hr1
          have HK3 := HK1.up hbt2
          clear HK hrow hnl hbt
          go_wp2_with fail
          rw [decide_eq_true (by omega)]
          refine (wneed_true _ _).mono ?_
          rintro e w3 ⟨rfl, rfl⟩
          obtain ⟨v3, r3, hown3⟩ := HK3.row
          obtain rfl : v3 = .slice q acc.length cp := Option.some.inj (r3.symm.trans hr3)
          have hz : (w2.alloc (.cells #[.int .i64 kd, .string ⟨t.toArray⟩, .int .i64 k] 36)).heap.size = w2.heap.size + 1 := by simp
          have hrf3 := HK3.rowf
          have hal : acc.length ≤ 300 := HA.out
          have i3 : (k : Int) + (n : Int) ≤ (s.size : Int) := by omega
          have hlen : (acc ++ [mkT kd t k]).length = acc.length + 1 := by simp
          have Hlen : Hid _ := hlen
          clear hlen
          go_wp2_with (at_builtin; refine append_tok (w2.alloc (.cells #[.int .i64 kd, .string ⟨t.toArray⟩, .int .i64 k] 36)) rfl (.tmp 34) (.tmp 36) rfl (w.heap.size + 2) (.slice q acc.length cp) acc rfl hown3 (mkT kd t k) (by rw [hz]; rfl) (by omega) (by rw [hz]; omega) ?_; intro v' w4 hown4 hb4; obtain ⟨q4, c4, rfl, _⟩ := hown4.slice; rw [Hlen.out] at hown4 ⊢; have h4 := (hb4.cell (p := ⟨w.heap.size, 0, none⟩) (by show w.heap.size < w.heap.size + 2; omega)).trans hr3; have z4 := (hb4.frozen (p := ⟨w.heap.size, 0, none⟩) (by show w.heap.size < w.heap.size + 2; omega)).trans hrf3)
          have HK5 := HK3.grow hb4 hown4
          generalize w4.setCell ⟨w.heap.size, 0, none⟩ (.slice q4 (acc.length + 1) c4) = w5 at *
          have HB5 := runBlank_any (s.extract (k + n) s.size) w5 (by simp; unfold maxLen; omega)
          have HR5 := wds_run (s.data.toList.drop (k + n)) (acc ++ [mkT kd t k]) (k + n)
          have hbl := runL_le blankb (s.data.toList.drop (k + n))
          have HN5 := run_next (s.data.toList.drop (k + n))
          rw [tail_drop] at HB5
          rw [List.drop_drop] at HN5 HR5
          rw [List.length_drop, hl] at hbl
          generalize runL blankb (s.data.toList.drop (k + n)) = b at *
          have HR6 : Hid (wds (s.data.toList.drop (k + n + b)) (acc ++ [mkT kd t k]) (k + n + b) = R) := HR5.symm.trans HN.out
          have HN6 : Hid (∀ c r, s.data.toList.drop (k + n + b) = c :: r → (c.toNat == 32) = false) := HN5
          have HA6 : Hid ((acc ++ [mkT kd t k]).length ≤ 300) := by show _ ≤ _; rw [Hlen.out]; omega
          have HK6 : Hid _ := HK5
          clear HR5 HN5 HK5 HN hown3 hown4 hb4 h4 z4 hr2 hr3 r3 hrf3 HK3 HK1
          refine HB5.mono ?_
          rintro e w6 ⟨rfl, rfl⟩
          go_wp2
          go_roundw
          case rel => exact ⟨k + n + b, _, by omega, by go_num, HK6, HA6, HN6, HR6⟩
          case measure => simp [intOf]; omega
    · obtain rfl : k = s.size := by omega
      have i1 : ¬ (s.size : Int) < (s.size : Int) := by omega
      have HN : Hid (R = .ok acc) := by
        have := HR.out
        rw [List.drop_of_length_le (by simp), wds_nil] at this
        exact this.symm
      obtain ⟨v, hrow, hown⟩ := HK.out.row
      obtain ⟨q, cp, rfl, _⟩ := hown.slice
      have hnl := HK.out.err
      have hrf := HK.out.rowf
      have hnf := HK.out.errf
      have hbw := HK.out.bel
      have hne : (⟨w.heap.size, 0, none⟩ : Addr) ≠ ⟨w.heap.size + 1, 0, none⟩ := by intro hh; injection hh; omega
      have hown2 := (hown.set (a := ⟨w.heap.size, 0, none⟩) (by show w.heap.size < w.heap.size + 2; omega) (.slice q acc.length cp)).set (a := ⟨w.heap.size + 1, 0, none⟩) (by show w.heap.size + 1 < w.heap.size + 2; omega) .nilIface
      have g0 := (World.cell?_setCell_other (wr.setCell ⟨w.heap.size, 0, none⟩ (.slice q acc.length cp)) _ _ .nilIface hne.symm).trans (World.cell?_setCell_same _ _ (.slice q acc.length cp) hrow)
      have g1 := World.cell?_setCell_same (wr.setCell ⟨w.heap.size, 0, none⟩ (.slice q acc.length cp)) _ .nilIface ((World.cell?_setCell_other _ _ _ _ hne).trans hnl)
      have hb4 := (hbw.setCell (p := ⟨w.heap.size, 0, none⟩) (Nat.le_refl _) (.slice q acc.length cp)).setCell (p := ⟨w.heap.size + 1, 0, none⟩) (by show w.heap.size ≤ w.heap.size + 1; omega) .nilIface
      clear HK HR HB hown hbw
      go_wp2
      unfold bodyPostD
      simp only []
      refine leaves_cons (f := 19) (args := #[.pointer (some ⟨w.heap.size, 0, none⟩), .pointer (some ⟨w.heap.size + 1, 0, none⟩)]) (by simp) (by simp [go_sem]) ?_
      refine (wcatch_idle ⟨w.heap.size, 0, none⟩ ⟨w.heap.size + 1, 0, none⟩ _).mono ?_
      rintro e u' w3 ⟨rfl, rfl, rfl⟩
      simp [Leaves, settle, results, Tryd.results14, go_sem, g0, g1]
      obtain ⟨q', c', hq', hrest⟩ := hown2.slice
      injection hq' with e1 e2 e3
      subst e1 e3
      exact ⟨by rw [HN.out]; exact ⟨_, _, rfl, hrest.1, hrest.2.1, hrest.2.2.1, fun a ha => Nat.le_trans (by omega) (hrest.2.2.2 a ha)⟩, hb4⟩

theorem read_any (s : ByteArray) (w : World) (hs : s.size ≤ maxLen) :
    Calls Tryd.prog 7 #[.string s] w fun e w' => ReadPost w.heap.size (readL s.data.toList) e w' ∧ Below w.heap.size w w' := by
  have hl : s.data.toList.length = s.size := by simp
  unfold maxLen at hs
  by_cases h : 900 < s.size
  · have HF : Hid (readL s.data.toList = .error (4, 0)) := if_pos (by omega)
    have h' : (900 : Int) < (s.size : Int) := by omega
    go_enter Tryd.func7, Tryd.ntmps7
    go_wp2
    go_ret3
    exact ⟨by rw [HF.out]; rfl, Below.refl _ _⟩
  · have HF : Hid (readL s.data.toList = wds s.data.toList [] 0) := if_neg (by omega)
    have h' : ¬ (900 : Int) < (s.size : Int) := by omega
    have H1 := wwalk_any s w (by omega)
    rw [← HF.out] at H1
    generalize readL s.data.toList = R at *
    cases R with
    | ok ts =>
      go_enter Tryd.func7, Tryd.ntmps7
      go_wp2_with fail
      refine H1.mono ?_
      rintro e w1 ⟨⟨q, c, rfl, hr⟩, hb⟩
      go_wp2
      go_ret3
      exact ⟨⟨q, c, rfl, hr⟩, hb⟩
    | error x =>
      go_enter Tryd.func7, Tryd.ntmps7
      go_wp2_with fail
      refine H1.mono ?_
      rintro e w1 ⟨rfl, hb⟩
      go_wp2
      go_ret3
      exact ⟨rfl, hb⟩
end Go.Proofs.YtmcjogfopfhblaaDoor
