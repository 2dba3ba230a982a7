/- maps.Keys at a set of uids, and its iterator: by walks of their own texts. -/
import Derived.Test.YtkpbholhempmmaaGreatDoorUSet
import Derived.Shelf.SlIter.Collect
namespace Go.Proofs.YtkpbholhempmmaaGreatDoor
open Go.RowKit Go.Maps Go.WideMaps Go.Sort Go.Shelf
set_option linter.unusedVariables false
set_option linter.unusedSimpArgs false

def uE (u : Ui) : Value := .agg #[.string u.t, .string u.i]

/-- Those that have come so far. -/
def UCame (L : List Ui) (left : Lit → Bool) (ss : List Ui) : Prop := ss.Nodup ∧ ∀ x ∈ ss, x ∈ L ∧ left (klit x) = false
def ULeft (L : List Ui) (left : Lit → Bool) (ss : List Ui) : Prop := ∀ x ∈ L, x ∈ ss ∨ left (klit x) = true

set_option maxRecDepth 100000 in
set_option maxHeartbeats 1000000 in
/-- The iterator: each uid of the set, once. -/
theorem ukeys1_in (F : Fence) (n : Nat) (hF : F.fn 36) (hro : F.round = none) (hn : 1 ≤ n) (l Bm b : Nat) (L : List Ui) (J : List Ui → World → Prop)
    (hY : ∀ pre x W, J pre W → pre.length < L.length → YieldAt F (n - 1) Tryz.prog l #[uE x] W fun e W' => e = .returned (.bool true) ∧ J (pre ++ [x]) W' ∧ KeepsWalks W W')
    (W : World) (hJ : AbidesFrom W.heap.size J) (hm : W.cell? ⟨Bm, 0, none⟩ = some (.map (some b))) (hset : USet W b L) (h0 : J [] W) :
    CallsIn F n Tryz.prog 36 #[.func (.yield l) #[] #[], .pointer (some ⟨Bm, 0, none⟩)] W fun e W' => (∃ v, e = .returned v) ∧ ∃ ss : List Ui, (ss.Nodup ∧ ∀ x, x ∈ ss ↔ x ∈ L) ∧ J ss W' := by
  obtain ⟨D, hown, h2, h3, h4, h5, h6⟩ := hset
  have H3 : Hid (∀ _, _) := h3
  have H4 : Hid (∀ _, _) := h4
  have H2 : Hid (∀ _, _) := h2
  have H6 : Hid (_ = _) := h6
  clear h2 h3 h4 h6
  refine callsIn_of_wp Tryz.func36 rfl hF ?_ hro
  simp only [Tryz.ntmps36, List.size_toArray, List.length_cons, List.length_nil, Nat.reduceAdd, Nat.reduceSub, Array.replicate_succ, Array.replicate_zero, List.push_toArray, List.append_toArray, List.nil_append, List.cons_append]
  gi_wp2_with (first
    | (gi_at_range; refine wpListIn_range_own _ rfl _ 59 rfl 24 60 uid_law Tryz.underlying59 _ b L.length _ rfl hown ?_; intro w0 hrg0 hg0 hs0)
    | gi_in)
  go_frame
  gi_loopw [3] (fun _ wr => ∃ (left : Lit → Bool) (cnt : Nat) (ss : List Ui), wr.ranges Tryz.prog 24 unitElem b W.heap.size L.length D left cnt ∧ ss.length + cnt ≤ L.length ∧ Hid (UCame L left ss) ∧ Hid (ULeft L left ss) ∧ Hid (∀ kl, left kl = true → Maps.has D kl = true) ∧ J ss wr)
    (fun _ wr => wr.rangeLeft b W.heap.size)
  case atStart =>
    exact ⟨_, _, [], hrg0, by rw [H6.out]; simp, ⟨List.nodup_nil, fun x hx => (by cases hx)⟩, fun x hx => .inr ((H2.out x (H4.out x hx)).2 hx), fun kl h => h, hJ [] W w0 none h0 hg0 (fun r e => by cases e)⟩
  case round =>
    obtain ⟨left, cnt, ss, hrg, hcs, HC, HE, HH, hJs⟩ := hrel
    gi_wp2_with (first
      | (gi_at_next; refine wpListIn_next_ranges _ rfl _ rfl 24 uid_law unitElem (fun x : Ui => .agg #[.string x.t, .string x.i]) id (fun key kl hk => by obtain ⟨x, hx, _⟩ := keyOf_uid_inv hk; exact ⟨x, hx⟩) (fun v _ _ => ⟨v, rfl⟩) b W.heap.size L.length _ _ _ rfl hrg ?_ ?_)
      | gi_in)
    · intro hc0 hl0
      gi_wp2
      go_end0
      refine ⟨⟨_, rfl⟩, ss, ⟨HC.out.1, fun x => ⟨fun hx => (HC.out.2 x hx).1, fun hx => ?_⟩⟩, hJs⟩
      rcases HE.out x hx with h | h
      · exact h
      · rw [hl0] at h; cases h
    · intro x c kl yd yp w2 cnt2 hkey hlk hv hat hrg2 hlt hg2 hs2 hen
      obtain ⟨x', ex, hxok, rfl⟩ := keyOf_uid_inv hkey
      obtain rfl : x = x' := uV_inj ex
      have hJ2 : J ss w2 := hJ ss wr w2 (some W.heap.size) hJs hg2 (fun r e => by cases e; exact ⟨Nat.le_refl _, hrg.iter_walk⟩)
      have HXL : Hid (x ∈ L) := (H2.out x hxok).1 (HH.out _ hlk)
      have HLK : Hid (left (klit x) = true) := hlk
      clear hs2 ex hkey hv hat hlk
      have hJ3 : J ss (w2.alloc (.cells #[.string x.t, .string x.i] 24)) := hJ ss w2 _ none hJ2 (World.grownBy_alloc w2 _ none) (fun r e => by cases e)
      obtain ⟨fn, tmps, assign, body, hy, hR⟩ := hY ss x _ hJ3 (by omega)
      unfold uE at hy
      gi_wp2
      refine hR.mono ?_
      rintro e W3 ⟨rfl, hJ4, hk3⟩
      gi_wp2
      have hrg3 := (hrg2.alloc (.cells #[.string x.t, .string x.i] 24)).of_walks hk3
      have hnew : x ∉ ss := fun hx => by have := (HC.out.2 x hx).2; rw [HLK.out] at this; cases this
      go_roundw
      case rel =>
        refine ⟨_, cnt2, ss ++ [x], hrg3, by simp; omega, ⟨?_, fun y hy => ?_⟩, fun y hy => ?_, fun kl h => HH.out kl (by simp at h; exact h.1), hJ4⟩
        · rw [List.nodup_append]
          exact ⟨HC.out.1, by simp, fun a ha b hb e => by rw [List.mem_singleton.1 hb] at e; rw [e] at ha; exact hnew ha⟩
        · rcases List.mem_append.1 hy with hy | hy
          · obtain ⟨k1, k2⟩ := HC.out.2 y hy
            exact ⟨k1, by simp [k2]⟩
          · rw [List.mem_singleton.1 hy]
            exact ⟨HXL.out, by simp [WideAt.sameKey_self (klit_key x)]⟩
        · by_cases hyx : y = x
          · exact .inl (by simp [hyx])
          · rcases HE.out y hy with h | h
            · exact .inl (by simp [h])
            · refine .inr ?_
              show (left (klit y) && !(klit y).sameKey (klit x)) = true
              rw [h, sameKey_ne (fun q => hyx (klit_inj (H4.out y hy) hxok q))]
              rfl
      case measure => rw [hrg3.left_eq, hrg.left_eq]; exact hlt

/-- The iterator as a value: in every later world. -/
theorem ukeys_gives (F : Fence) (n : Nat) (hF : F.fn 36) (hro : F.round = none) (hn : 1 ≤ n) (Bm b : Nat) (L : List Ui) (w : World) (hBm : Bm < w.heap.size)
    (hm : w.cell? ⟨Bm, 0, none⟩ = some (.map (some b))) (hset : USet w b L) :
    SeqGives F n Tryz.prog 36 #[.pointer (some ⟨Bm, 0, none⟩)] uE (fun ss => ss.Nodup ∧ ∀ x, x ∈ ss ↔ x ∈ L) L.length w := fun l J W hW hJ hY h0 =>
  ukeys1_in F n hF hro hn l Bm b L J hY W hJ ((hW.cell (p := ⟨Bm, 0, none⟩) hBm).trans hm) (hset.up hW) h0

set_option maxHeartbeats 1000000 in
theorem ukeys_any (mb : Option Nat) (w : World) :
    Calls Tryz.prog 20 #[.map mb] w fun e w' => e = .returned (.func (.func 36) #[] #[.pointer (some ⟨w.heap.size, 0, none⟩)]) ∧ w' = w.alloc (.cells #[.map mb] 59) := by
  go_enter Tryz.func20, Tryz.ntmps20
  go_wp2_with fail
  go_ret
  exact ⟨rfl, rfl⟩
end Go.Proofs.YtkpbholhempmmaaGreatDoor
