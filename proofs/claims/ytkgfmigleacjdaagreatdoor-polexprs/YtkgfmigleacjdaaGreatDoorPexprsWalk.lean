/- PolExprs: the walk of the statement's own function. -/
import Derived.Test.YtkgfmigleacjdaaGreatDoorG26
import Derived.Test.YtkgfmigleacjdaaGreatDoorG23
import Derived.Test.YtkgfmigleacjdaaGreatDoorG24
import Derived.Test.YtkgfmigleacjdaaGreatDoorG14
import Derived.Test.YtkgfmigleacjdaaGreatDoorG4
namespace Go.Proofs.YtkgfmigleacjdaaGreatDoor
open Go.RowKit
set_option linter.unusedVariables false
set_option linter.unusedSimpArgs false
set_option maxRecDepth 100000

def po0 : Po := ⟨⟨#[97]⟩, false, ⟨0, eB, eU⟩, ⟨0, eB, eU⟩, ⟨0, eB, eU⟩, []⟩
theorem po0_expr : exprL po0 = .ok [nO 11, nO 11, nTr, nTr, nTr] := by
  have h : pof po0 = 0 := by kernel_rfl
  unfold exprL
  rw [if_pos h]
  rfl
theorem po0_po (w : World) : PoA w po0 none 0 := by
  have hu : UOk eU := ⟨Nat.zero_le _, Nat.zero_le _⟩
  have hs : ScoOk ⟨0, eB, eU⟩ := ⟨Nat.zero_le _, hu⟩
  exact ⟨by unfold maxLen; show 1 ≤ _; omega, hs, hs, hs, .inl rfl, Nat.le_refl _, Nat.zero_le _⟩
theorem pexpr_0 (w : World) : Calls Tryz.prog 5 #[poV po0 none 0] w fun e w' => (∃ q c, e = .returned (.tuple #[.slice q 5 c, .nilIface])) ∧ Below w.heap.size w w' := by
  refine (pexpr_any po0 none 0 w (po0_po w)).mono ?_
  rintro e w' ⟨h1, h2⟩
  unfold ExpRet at h1
  rw [po0_expr] at h1
  obtain ⟨q, c, rfl, _⟩ := h1
  exact ⟨⟨q, c, rfl⟩, h2⟩
theorem same0 {a : List Nd} {w : World} {p q : Option Addr} {c d n : Nat} (ha : NL w p a) (hb : NL w q a) (hla : a.length ≤ maxLen) (hn : a.length = n) : Calls Tryz.prog 10 #[.slice p n c, .slice q n d] w fun e w' => e = .returned (.bool true) ∧ Below w.heap.size w w' := by
  subst hn
  refine (sameNodes_any a a p q c d w ha hb hla hla).mono ?_
  rintro _ _ ⟨rfl, n, rfl⟩
  exact ⟨by rw [(sameNd_iff _ _).2 rfl], ⟨rfl, rfl, rfl, Nat.le_refl _, fun _ _ => rfl⟩⟩
section
variable (p : Po) (pc : Option Addr) (cc : Nat) (w : World) (hL : ErrVar w) (h : PoA w p pc cc)
include hL h
set_option maxHeartbeats 4000000 in
theorem pexprs_ok {L : List Nd} (hR : exprL p = .ok L) :
    Calls Tryz.prog 3 #[poV p pc cc] w fun e w' => e = .returned (.bool true) ∧ Below w.heap.size w w' := by
  obtain ⟨V, hV⟩ : ∃ V, V = w.alloc (.cells (poC p pc cc) 28) := ⟨_, rfl⟩
  have hbV : Below w.heap.size w V := by rw [hV]; exact kqx
  have HSS : Hid (∀ w', Below V.heap.size V w' → w'.cell? ⟨w.heap.size, 0, none⟩ = some (.string p.nm) ∧ w'.cell? ⟨w.heap.size, 1, none⟩ = some (.bool p.fb) ∧ w'.cell? ⟨w.heap.size, 2, none⟩ = some (.int .i64 p.who.op) ∧ w'.cell? ⟨w.heap.size, 3, none⟩ = some (.string p.who.ty) ∧ w'.cell? ⟨w.heap.size, 4, none⟩ = some (.string p.who.u.t) ∧ w'.cell? ⟨w.heap.size, 5, none⟩ = some (.string p.who.u.i) ∧ w'.cell? ⟨w.heap.size, 6, none⟩ = some (.int .i64 p.act.op) ∧ w'.cell? ⟨w.heap.size, 7, none⟩ = some (.string p.act.ty) ∧ w'.cell? ⟨w.heap.size, 8, none⟩ = some (.string p.act.u.t) ∧ w'.cell? ⟨w.heap.size, 9, none⟩ = some (.string p.act.u.i) ∧ w'.cell? ⟨w.heap.size, 10, none⟩ = some (.int .i64 p.what.op) ∧ w'.cell? ⟨w.heap.size, 11, none⟩ = some (.string p.what.ty) ∧ w'.cell? ⟨w.heap.size, 12, none⟩ = some (.string p.what.u.t) ∧ w'.cell? ⟨w.heap.size, 13, none⟩ = some (.string p.what.u.i) ∧ w'.cell? ⟨w.heap.size, 14, none⟩ = some (.slice pc p.cs.length cc)) := fun w' hk => by
    have hb : Blk V w.heap.size (poC p pc cc) 28 := by rw [hV]; exact Blk.new w _ _ rfl
    exact po_cells (hb.up hk)
  unfold poC at hV
  have HX0 := pexpr_0 V
  have HCK := fun W (hW : Below V.heap.size V W) => pcheck_any p pc cc W ((h.up hbV).up hW)
  have HPF := fun W (hW : Below V.heap.size V W) => policyFault_any p pc cc W ((h.up hbV).up hW)
  have HT1 := fun W (hW : Below V.heap.size V W) => toldE_any (pof p) (pof p) W (ev_up hL (kqt hbV hW))
  rw [show (pof p == pof p) = true by simp] at HT1
  have HPX := fun W (hW : Below V.heap.size V W) => policyExpr_any p pc cc W ((h.up hbV).up hW)
  have HEX := fun W (hW : Below V.heap.size V W) => pexpr_any p pc cc W ((h.up hbV).up hW)
  have HT2 := fun W (hW : Below V.heap.size V W) => toldE_any 0 0 W (ev_up hL (kqt hbV hW))
  rw [eV_nil rfl, show ((0 : Int) == 0) = true by rfl] at HT2
  unfold PxRet at HPX
  unfold ExpRet at HEX
  rw [hR] at HPX HEX
  generalize pof p = k at *
  unfold poV po0 at *
  clear h hL hR
  go_enter Tryz.func3, Tryz.ntmps3
  go_wp2_with fail
  rw [← hV]
  clear hV
  refine HX0.mono ?_
  rintro _ w0 ⟨⟨q0, c0, rfl⟩, hb0⟩
  clear HX0
  go_wp2_with fail
  go_region_held (fun w' => w'.cell? ⟨w.heap.size, 0, none⟩ = some (.string p.nm) ∧ w'.cell? ⟨w.heap.size, 1, none⟩ = some (.bool p.fb) ∧ w'.cell? ⟨w.heap.size, 2, none⟩ = some (.int .i64 p.who.op) ∧ w'.cell? ⟨w.heap.size, 3, none⟩ = some (.string p.who.ty) ∧ w'.cell? ⟨w.heap.size, 4, none⟩ = some (.string p.who.u.t) ∧ w'.cell? ⟨w.heap.size, 5, none⟩ = some (.string p.who.u.i) ∧ w'.cell? ⟨w.heap.size, 6, none⟩ = some (.int .i64 p.act.op) ∧ w'.cell? ⟨w.heap.size, 7, none⟩ = some (.string p.act.ty) ∧ w'.cell? ⟨w.heap.size, 8, none⟩ = some (.string p.act.u.t) ∧ w'.cell? ⟨w.heap.size, 9, none⟩ = some (.string p.act.u.i) ∧ w'.cell? ⟨w.heap.size, 10, none⟩ = some (.int .i64 p.what.op) ∧ w'.cell? ⟨w.heap.size, 11, none⟩ = some (.string p.what.ty) ∧ w'.cell? ⟨w.heap.size, 12, none⟩ = some (.string p.what.u.t) ∧ w'.cell? ⟨w.heap.size, 13, none⟩ = some (.string p.what.u.i) ∧ w'.cell? ⟨w.heap.size, 14, none⟩ = some (.slice pc p.cs.length cc)) (first | exact HSS.out _ hb3 | exact HSS.out _ hb2 | exact HSS.out _ hb1 | exact HSS.out _ (kqt hb0 kqx)) (first
    | (go_at_call 7
       refine (HCK _ (kqt hb0 kqx)).mono ?_
       rintro _ w1 ⟨rfl, hb1'⟩
       have hb1 : Below V.heap.size V w1 := kqt (kqt hb0 kqx) hb1')
    | (go_at_call 8
       refine (HPF _ hb1).mono ?_
       rintro _ w2 ⟨rfl, hb2'⟩
       have hb2 : Below V.heap.size V w2 := kqt hb1 hb2')
    | (go_at_call 6
       refine (HT1 _ hb2).mono ?_
       rintro _ w3 ⟨rfl, hb3'⟩
       have hb3 : Below V.heap.size V w3 := kqt hb2 hb3'))
  clear hb1' hb2' hb3' HCK HPF HT1
  obtain ⟨x0, x1, x2, x3, x4, x5, x6, x7, x8, x9, x10, x11, x12, x13, x14⟩ := HSS.out _ hb3
  go_wp2_with fail
  refine (HPX _ hb3).mono ?_
  rintro _ w4 ⟨⟨q4, c4, rfl, hA4⟩, hb4'⟩
  have hb4 : Below V.heap.size V w4 := kqt hb3 hb4'
  have HA4 : Hid (AK0 w4 L q4 c4) := hA4
  clear x0 x1 x2 x3 x4 x5 x6 x7 x8 x9 x10 x11 x12 x13 x14 hA4 hb4'
  obtain ⟨x0, x1, x2, x3, x4, x5, x6, x7, x8, x9, x10, x11, x12, x13, x14⟩ := HSS.out _ hb4
  obtain ⟨nL, hnL⟩ : ∃ n, n = L.length := ⟨_, rfl⟩
  have HNL : Hid (nL = L.length) := hnL
  rw [← hnL] at HEX ⊢
  clear hnL
  go_wp2_with fail
  refine (HEX _ hb4).mono ?_
  rintro _ w5 ⟨⟨q5, c5, rfl, hA5⟩, hb5'⟩
  have hb5 : Below V.heap.size V w5 := kqt hb4 hb5'
  have HA5 : Hid (AK0 w5 L q5 c5 ∧ AK0 w5 L q4 c4) := ⟨hA5, HA4.out.up hb5'⟩
  clear x0 x1 x2 x3 x4 x5 x6 x7 x8 x9 x10 x11 x12 x13 x14 hA5 hb5'
  go_wp2_with fail
  refine (HT2 _ hb5).mono ?_
  rintro _ w6 ⟨rfl, hb6'⟩
  have hb6 : Below V.heap.size V w6 := kqt hb5 hb6'
  have HSN := same0 (w := w6) (c := c5) (d := c4) (HA5.out.1.up hb6').nl (HA5.out.2.up hb6').nl (Nat.le_trans HA5.out.1.le HA5.out.1.cm) HNL.out.symm
  clear hb6'
  go_wp2_with fail
  refine HSN.mono ?_
  rintro _ w7 ⟨rfl, hb7'⟩
  have hb7 : Below V.heap.size V w7 := kqt hb6 hb7'
  go_wp2
  go_ret
  exact ⟨rfl, kqt hbV hb7⟩
set_option maxHeartbeats 4000000 in
theorem pexprs_err {n : Int} (hR : exprL p = .error n) (hn0 : n ≠ 0) :
    Calls Tryz.prog 3 #[poV p pc cc] w fun e w' => e = .returned (.bool true) ∧ Below w.heap.size w w' := by
  obtain ⟨V, hV⟩ : ∃ V, V = w.alloc (.cells (poC p pc cc) 28) := ⟨_, rfl⟩
  have hbV : Below w.heap.size w V := by rw [hV]; exact kqx
  have HSS : Hid (∀ w', Below V.heap.size V w' → w'.cell? ⟨w.heap.size, 0, none⟩ = some (.string p.nm) ∧ w'.cell? ⟨w.heap.size, 1, none⟩ = some (.bool p.fb) ∧ w'.cell? ⟨w.heap.size, 2, none⟩ = some (.int .i64 p.who.op) ∧ w'.cell? ⟨w.heap.size, 3, none⟩ = some (.string p.who.ty) ∧ w'.cell? ⟨w.heap.size, 4, none⟩ = some (.string p.who.u.t) ∧ w'.cell? ⟨w.heap.size, 5, none⟩ = some (.string p.who.u.i) ∧ w'.cell? ⟨w.heap.size, 6, none⟩ = some (.int .i64 p.act.op) ∧ w'.cell? ⟨w.heap.size, 7, none⟩ = some (.string p.act.ty) ∧ w'.cell? ⟨w.heap.size, 8, none⟩ = some (.string p.act.u.t) ∧ w'.cell? ⟨w.heap.size, 9, none⟩ = some (.string p.act.u.i) ∧ w'.cell? ⟨w.heap.size, 10, none⟩ = some (.int .i64 p.what.op) ∧ w'.cell? ⟨w.heap.size, 11, none⟩ = some (.string p.what.ty) ∧ w'.cell? ⟨w.heap.size, 12, none⟩ = some (.string p.what.u.t) ∧ w'.cell? ⟨w.heap.size, 13, none⟩ = some (.string p.what.u.i) ∧ w'.cell? ⟨w.heap.size, 14, none⟩ = some (.slice pc p.cs.length cc)) := fun w' hk => by
    have hb : Blk V w.heap.size (poC p pc cc) 28 := by rw [hV]; exact Blk.new w _ _ rfl
    exact po_cells (hb.up hk)
  unfold poC at hV
  have HX0 := pexpr_0 V
  have HCK := fun W (hW : Below V.heap.size V W) => pcheck_any p pc cc W ((h.up hbV).up hW)
  have HPF := fun W (hW : Below V.heap.size V W) => policyFault_any p pc cc W ((h.up hbV).up hW)
  have HT1 := fun W (hW : Below V.heap.size V W) => toldE_any (pof p) (pof p) W (ev_up hL (kqt hbV hW))
  rw [show (pof p == pof p) = true by simp] at HT1
  have HPX := fun W (hW : Below V.heap.size V W) => policyExpr_any p pc cc W ((h.up hbV).up hW)
  have HEX := fun W (hW : Below V.heap.size V W) => pexpr_any p pc cc W ((h.up hbV).up hW)
  have HT2 := fun W (hW : Below V.heap.size V W) => toldE_any n n W (ev_up hL (kqt hbV hW))
  rw [eV_not hn0, show (n == n) = true by simp] at HT2
  unfold PxRet at HPX
  unfold ExpRet at HEX
  rw [hR] at HPX HEX
  generalize pof p = k at *
  unfold poV po0 at *
  clear h hL hR hn0
  go_enter Tryz.func3, Tryz.ntmps3
  go_wp2_with fail
  rw [← hV]
  clear hV
  refine HX0.mono ?_
  rintro _ w0 ⟨⟨q0, c0, rfl⟩, hb0⟩
  clear HX0
  go_wp2_with fail
  go_region_held (fun w' => w'.cell? ⟨w.heap.size, 0, none⟩ = some (.string p.nm) ∧ w'.cell? ⟨w.heap.size, 1, none⟩ = some (.bool p.fb) ∧ w'.cell? ⟨w.heap.size, 2, none⟩ = some (.int .i64 p.who.op) ∧ w'.cell? ⟨w.heap.size, 3, none⟩ = some (.string p.who.ty) ∧ w'.cell? ⟨w.heap.size, 4, none⟩ = some (.string p.who.u.t) ∧ w'.cell? ⟨w.heap.size, 5, none⟩ = some (.string p.who.u.i) ∧ w'.cell? ⟨w.heap.size, 6, none⟩ = some (.int .i64 p.act.op) ∧ w'.cell? ⟨w.heap.size, 7, none⟩ = some (.string p.act.ty) ∧ w'.cell? ⟨w.heap.size, 8, none⟩ = some (.string p.act.u.t) ∧ w'.cell? ⟨w.heap.size, 9, none⟩ = some (.string p.act.u.i) ∧ w'.cell? ⟨w.heap.size, 10, none⟩ = some (.int .i64 p.what.op) ∧ w'.cell? ⟨w.heap.size, 11, none⟩ = some (.string p.what.ty) ∧ w'.cell? ⟨w.heap.size, 12, none⟩ = some (.string p.what.u.t) ∧ w'.cell? ⟨w.heap.size, 13, none⟩ = some (.string p.what.u.i) ∧ w'.cell? ⟨w.heap.size, 14, none⟩ = some (.slice pc p.cs.length cc)) (first | exact HSS.out _ hb3 | exact HSS.out _ hb2 | exact HSS.out _ hb1 | exact HSS.out _ (kqt hb0 kqx)) (first
    | (go_at_call 7
       refine (HCK _ (kqt hb0 kqx)).mono ?_
       rintro _ w1 ⟨rfl, hb1'⟩
       have hb1 : Below V.heap.size V w1 := kqt (kqt hb0 kqx) hb1')
    | (go_at_call 8
       refine (HPF _ hb1).mono ?_
       rintro _ w2 ⟨rfl, hb2'⟩
       have hb2 : Below V.heap.size V w2 := kqt hb1 hb2')
    | (go_at_call 6
       refine (HT1 _ hb2).mono ?_
       rintro _ w3 ⟨rfl, hb3'⟩
       have hb3 : Below V.heap.size V w3 := kqt hb2 hb3'))
  clear hb1' hb2' hb3' HCK HPF HT1
  obtain ⟨x0, x1, x2, x3, x4, x5, x6, x7, x8, x9, x10, x11, x12, x13, x14⟩ := HSS.out _ hb3
  go_wp2_with fail
  refine (HPX _ hb3).mono ?_
  rintro _ w4 ⟨rfl, hb4'⟩
  have hb4 : Below V.heap.size V w4 := kqt hb3 hb4'
  clear x0 x1 x2 x3 x4 x5 x6 x7 x8 x9 x10 x11 x12 x13 x14 hb4'
  obtain ⟨x0, x1, x2, x3, x4, x5, x6, x7, x8, x9, x10, x11, x12, x13, x14⟩ := HSS.out _ hb4
  go_wp2_with fail
  refine (HEX _ hb4).mono ?_
  rintro _ w5 ⟨rfl, hb5'⟩
  have hb5 : Below V.heap.size V w5 := kqt hb4 hb5'
  clear x0 x1 x2 x3 x4 x5 x6 x7 x8 x9 x10 x11 x12 x13 x14 hb5'
  go_wp2_with fail
  refine (HT2 _ hb5).mono ?_
  rintro _ w6 ⟨rfl, hb6'⟩
  have hb6 : Below V.heap.size V w6 := kqt hb5 hb6'
  have HSN := same0 (a := []) (n := 0) (w := w6) (p := none) (q := none) (c := 0) (d := 0) (.inl rfl) (.inl rfl) (Nat.zero_le _) rfl
  clear hb6'
  go_wp2_with fail
  refine HSN.mono ?_
  rintro _ w7 ⟨rfl, hb7'⟩
  have hb7 : Below V.heap.size V w7 := kqt hb6 hb7'
  go_wp2
  go_ret
  exact ⟨rfl, kqt hbV hb7⟩
theorem pexprs_walk :
    Calls Tryz.prog 3 #[poV p pc cc] w fun e w' => e = .returned (.bool true) ∧ Below w.heap.size w w' := by
  cases hR : exprL p with
  | ok L => exact pexprs_ok p pc cc w hL h hR
  | error n =>
    refine pexprs_err p pc cc w hL h hR ?_
    unfold exprL at hR
    split at hR
    · split at hR
      · cases hR
      · injection hR with hR; omega
    · rename_i hn; injection hR with hR; exact fun e => hn (by omega)
end
end Go.Proofs.YtkgfmigleacjdaaGreatDoor
