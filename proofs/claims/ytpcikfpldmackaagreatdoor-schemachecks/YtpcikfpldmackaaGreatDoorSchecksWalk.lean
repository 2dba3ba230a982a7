/- SchemaChecks: the walk of the statement's own function (written by gen_schecks.py). -/
import Derived.Test.YtpcikfpldmackaaGreatDoorG25
import Derived.Test.YtpcikfpldmackaaGreatDoorG30
import Derived.Test.YtpcikfpldmackaaGreatDoorG29
import Derived.Test.YtpcikfpldmackaaGreatDoorG8
namespace Go.Proofs.YtpcikfpldmackaaGreatDoor
open Go.RowKit
set_option linter.unusedVariables false
set_option linter.unusedSimpArgs false
set_option maxRecDepth 100000

theorem fact_storeC (V : World) (n : Nat) (hn : V.heap.size = n) :
    Calls Tryz.prog 16 #[.agg #[.slice none 0 0, .slice none 0 0], .slice (some ⟨n + 1, 0, none⟩) 1 1] ((V.alloc (.cells #[.int .i64 6, .int .i64 0, .string ⟨#[]⟩, .string ⟨#[]⟩] 51)).alloc
      (.cells #[.string ⟨#[65]⟩, .string ⟨#[]⟩, .slice none 0 0, .slice (some ⟨n, 0, none⟩) 1 1] 54)) fun e w' => e = .returned (.iface 23 (.int .i64 3)) ∧ Below V.heap.size V w' := by
  refine (sstore_any sc0 es1 none none (some ⟨n + 1, 0, none⟩) 0 0 1 _ (sc0_sa _) (es1_lies V n hn) (by unfold maxLen es1; simp)).mono ?_
  rintro e w' ⟨rfl, hb⟩
  refine ⟨by rw [fact_none]; rfl, kqt ?_ hb⟩
  exact kqx
set_option maxHeartbeats 4000000 in
theorem schecks_walk (s : Sc) (es : List En) (q : Rq) (pk pa pe pq : Option Addr) (ck ca ce cq : Nat) (w : World) (hL : ErrVar w) (h : SA w s pk ck pa ca) (he : EL w pe es) (hem : es.length ≤ maxLen) (hq : RqArg w q pq cq) :
    Calls Tryz.prog 4 #[scV s pk ck pa ca, .slice pe es.length ce, reqV q pq cq] w fun e w' => e = .returned (.bool true) ∧ Below w.heap.size w w' := by
  obtain ⟨V, hV⟩ : ∃ V, V = (w.alloc (.cells #[.slice pk s.ks.length ck, .slice pa s.acs.length ca] 38)).alloc (.cells #[.string q.who.t, .string q.who.i, .string q.act.t, .string q.act.i, .string q.what.t, .string q.what.i, .slice pq q.cx.length cq] 43) := ⟨_, rfl⟩
  have hbV : Below w.heap.size w V := by rw [hV]; exact kqx
  have HB0 : Hid (Blk V w.heap.size #[.slice pk s.ks.length ck, .slice pa s.acs.length ca] 38) := by rw [hV]; exact (Blk.new w _ _ rfl).up kqx
  have HB1 : Hid (Blk V (w.heap.size + 1) #[.string q.who.t, .string q.who.i, .string q.act.t, .string q.act.i, .string q.what.t, .string q.what.i, .slice pq q.cx.length cq] 43) := by rw [hV]; refine Blk.new _ _ _ ?_; simp
  have HSS : Hid (∀ w', Below V.heap.size V w' → w'.cell? ⟨w.heap.size, 0, none⟩ = some (.slice pk s.ks.length ck) ∧ w'.cell? ⟨w.heap.size, 1, none⟩ = some (.slice pa s.acs.length ca) ∧ w'.cell? ⟨w.heap.size + 1, 0, none⟩ = some (.string q.who.t) ∧ w'.cell? ⟨w.heap.size + 1, 1, none⟩ = some (.string q.who.i) ∧ w'.cell? ⟨w.heap.size + 1, 2, none⟩ = some (.string q.act.t) ∧ w'.cell? ⟨w.heap.size + 1, 3, none⟩ = some (.string q.act.i) ∧ w'.cell? ⟨w.heap.size + 1, 4, none⟩ = some (.string q.what.t) ∧ w'.cell? ⟨w.heap.size + 1, 5, none⟩ = some (.string q.what.i) ∧ w'.cell? ⟨w.heap.size + 1, 6, none⟩ = some (.slice pq q.cx.length cq)) := fun w' hb => ⟨(HB0.out.up hb).cell 0, (HB0.out.up hb).cell 1, (HB1.out.up hb).cell 0, (HB1.out.up hb).cell 1, (HB1.out.up hb).cell 2, (HB1.out.up hb).cell 3, (HB1.out.up hb).cell 4, (HB1.out.up hb).cell 5, (HB1.out.up hb).cell 6⟩
  have HER : Hid (∀ W, Below V.heap.size V W → ErrVar W) := fun W hW => ev_up hL (kqt hbV hW)
  have H1 := fun W (hW : Below V.heap.size V W) => scheck_any s pk pa ck ca W ((h.up hbV).up hW)
  have H2 := fun W (hW : Below V.heap.size V W) => schemaFault_any s pk pa ck ca W ((h.up hbV).up hW)
  have H3 := fun W (hW : Below V.heap.size V W) => sstore_any s es pk pa pe ck ca ce W ((h.up hbV).up hW) ((he.up hbV).up hW) hem
  have H4 := fun W (hW : Below V.heap.size V W) => storeFits_any s es pk pa pe ck ca ce W ((h.up hbV).up hW) ((he.up hbV).up hW) hem
  have hrq : ∀ W, Below V.heap.size V W → RqArg W q pq cq := fun W hW => ⟨hq.u0, hq.u1, hq.u2, hq.nl.up (kqt hbV hW), hq.le, hq.cm⟩
  have H5 := fun W (hW : Below V.heap.size V W) => sasks_any s q pk pa pq ck ca cq W ((h.up hbV).up hW) (hrq W hW)
  have H6 := fun W (hW : Below V.heap.size V W) => askFits_any s q pk pa pq ck ca cq W ((h.up hbV).up hW) (hrq W hW)
  have T1 := fun W (hW : Below V.heap.size V W) => toldE_any (scf s) (scf s) W (HER.out W hW)
  have T2 := fun W (hW : Below V.heap.size V W) => toldE_any (stof s es) (stof s es) W (HER.out W hW)
  have T3 := fun W (hW : Below V.heap.size V W) => toldE_any (asks s q) (asks s q) W (HER.out W hW)
  rw [show (scf s == scf s) = true by simp] at T1
  rw [show (stof s es == stof s es) = true by simp] at T2
  rw [show (asks s q == asks s q) = true by simp] at T3
  generalize scf s = n1 at *
  generalize stof s es = n2 at *
  generalize asks s q = n3 at *
  unfold scV at *
  unfold reqV at *
  clear h he hq hL hrq
  go_enter Tryz.func4, Tryz.ntmps4
  go_wp2_with fail
  rw [← hV]
  clear hV
  have hb0 : Below V.heap.size V V := Below.refl _ _
  go_region_held (fun w' => w'.cell? ⟨w.heap.size, 0, none⟩ = some (.slice pk s.ks.length ck) ∧ w'.cell? ⟨w.heap.size, 1, none⟩ = some (.slice pa s.acs.length ca) ∧ w'.cell? ⟨w.heap.size + 1, 0, none⟩ = some (.string q.who.t) ∧ w'.cell? ⟨w.heap.size + 1, 1, none⟩ = some (.string q.who.i) ∧ w'.cell? ⟨w.heap.size + 1, 2, none⟩ = some (.string q.act.t) ∧ w'.cell? ⟨w.heap.size + 1, 3, none⟩ = some (.string q.act.i) ∧ w'.cell? ⟨w.heap.size + 1, 4, none⟩ = some (.string q.what.t) ∧ w'.cell? ⟨w.heap.size + 1, 5, none⟩ = some (.string q.what.i) ∧ w'.cell? ⟨w.heap.size + 1, 6, none⟩ = some (.slice pq q.cx.length cq)) (first | exact HSS.out _ hb3 | exact HSS.out _ hb2 | exact HSS.out _ hb1 | exact HSS.out _ (kqt hb0 kqx)) (first
    | (go_at_call 14
       refine (H1 _ (kqt hb0 kqx)).mono ?_
       rintro _ w1 ⟨rfl, hb1'⟩
       have hb1 : Below V.heap.size V w1 := kqt (kqt hb0 kqx) hb1')
    | (go_at_call 15
       refine (H2 _ hb1).mono ?_
       rintro _ w2 ⟨rfl, hb2'⟩
       have hb2 : Below V.heap.size V w2 := kqt hb1 hb2')
    | (go_at_call 6
       refine (T1 _ hb2).mono ?_
       rintro _ w3 ⟨rfl, hb3'⟩
       have hb3 : Below V.heap.size V w3 := kqt hb2 hb3'))
  clear hb1' hb2' hb3'
  go_wp2_with fail
  go_region_held (fun w' => w'.cell? ⟨w.heap.size, 0, none⟩ = some (.slice pk s.ks.length ck) ∧ w'.cell? ⟨w.heap.size, 1, none⟩ = some (.slice pa s.acs.length ca) ∧ w'.cell? ⟨w.heap.size + 1, 0, none⟩ = some (.string q.who.t) ∧ w'.cell? ⟨w.heap.size + 1, 1, none⟩ = some (.string q.who.i) ∧ w'.cell? ⟨w.heap.size + 1, 2, none⟩ = some (.string q.act.t) ∧ w'.cell? ⟨w.heap.size + 1, 3, none⟩ = some (.string q.act.i) ∧ w'.cell? ⟨w.heap.size + 1, 4, none⟩ = some (.string q.what.t) ∧ w'.cell? ⟨w.heap.size + 1, 5, none⟩ = some (.string q.what.i) ∧ w'.cell? ⟨w.heap.size + 1, 6, none⟩ = some (.slice pq q.cx.length cq)) (first | exact HSS.out _ hb6 | exact HSS.out _ hb5 | exact HSS.out _ hb4 | exact HSS.out _ (kqt hb3 kqx)) (first
    | (go_at_call 16
       refine (H3 _ (kqt hb3 kqx)).mono ?_
       rintro _ w4 ⟨rfl, hb4'⟩
       have hb4 : Below V.heap.size V w4 := kqt (kqt hb3 kqx) hb4')
    | (go_at_call 17
       refine (H4 _ hb4).mono ?_
       rintro _ w5 ⟨rfl, hb5'⟩
       have hb5 : Below V.heap.size V w5 := kqt hb4 hb5')
    | (go_at_call 6
       refine (T2 _ hb5).mono ?_
       rintro _ w6 ⟨rfl, hb6'⟩
       have hb6 : Below V.heap.size V w6 := kqt hb5 hb6'))
  clear hb4' hb5' hb6'
  go_wp2_with fail
  go_region_held (fun w' => w'.cell? ⟨w.heap.size, 0, none⟩ = some (.slice pk s.ks.length ck) ∧ w'.cell? ⟨w.heap.size, 1, none⟩ = some (.slice pa s.acs.length ca) ∧ w'.cell? ⟨w.heap.size + 1, 0, none⟩ = some (.string q.who.t) ∧ w'.cell? ⟨w.heap.size + 1, 1, none⟩ = some (.string q.who.i) ∧ w'.cell? ⟨w.heap.size + 1, 2, none⟩ = some (.string q.act.t) ∧ w'.cell? ⟨w.heap.size + 1, 3, none⟩ = some (.string q.act.i) ∧ w'.cell? ⟨w.heap.size + 1, 4, none⟩ = some (.string q.what.t) ∧ w'.cell? ⟨w.heap.size + 1, 5, none⟩ = some (.string q.what.i) ∧ w'.cell? ⟨w.heap.size + 1, 6, none⟩ = some (.slice pq q.cx.length cq)) (first | exact HSS.out _ hb9 | exact HSS.out _ hb8 | exact HSS.out _ hb7 | exact HSS.out _ (kqt hb6 kqx)) (first
    | (go_at_call 18
       refine (H5 _ (kqt hb6 kqx)).mono ?_
       rintro _ w7 ⟨rfl, hb7'⟩
       have hb7 : Below V.heap.size V w7 := kqt (kqt hb6 kqx) hb7')
    | (go_at_call 19
       refine (H6 _ hb7).mono ?_
       rintro _ w8 ⟨rfl, hb8'⟩
       have hb8 : Below V.heap.size V w8 := kqt hb7 hb8')
    | (go_at_call 6
       refine (T3 _ hb8).mono ?_
       rintro _ w9 ⟨rfl, hb9'⟩
       have hb9 : Below V.heap.size V w9 := kqt hb8 hb9'))
  clear hb7' hb8' hb9'
  clear H1 H2 H3 H4 H5 H6 T1 T2 T3
  have HF := fact_storeC w9 w9.heap.size rfl
  go_wp2_with fail
  refine HF.mono ?_
  rintro _ w10 ⟨rfl, hb10⟩
  go_wp2_with fail
  refine (same_errno 3 3 w10 (HER.out _ (kqt hb9 hb10))).mono ?_
  rintro _ w11 ⟨rfl, hb11⟩
  rw [show ((3 : Int) == 3) = true from rfl]
  go_wp2
  go_ret
  exact ⟨rfl, kqt hbV (kqt hb9 (kqt hb10 hb11))⟩
end Go.Proofs.YtpcikfpldmackaaGreatDoor
