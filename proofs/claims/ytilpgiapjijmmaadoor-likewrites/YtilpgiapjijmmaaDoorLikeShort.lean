/- What like.Short tells: by a walk of its own text. -/
import Derived.Test.YtilpgiapjijmmaaDoorLikeFace
import Derived.Test.YtilpgiapjijmmaaDoorPCmWalk
namespace Go.Proofs.YtilpgiapjijmmaaDoor
open Go.RowKit
set_option linter.unusedVariables false

theorem OP.block {w : World} {base : Nat} {v : Value} {L : List Pc} (h : OP w base v L) : (L = [] ∧ v = .slice none 0 0) ∨ ∃ g cap, v = .slice (some ⟨g, 0, none⟩) L.length cap ∧ PB w g L ∧ base ≤ g ∧ L.length ≤ cap ∧ cap ≤ maxLen := by
  rcases h.2 with ⟨rfl, hn⟩ | ⟨g, cap, cur, rfl, hb, hgg, hle, hm, hsz, htk⟩
  · obtain rfl := List.eq_nil_of_length_eq_zero hn
    exact .inl ⟨rfl, rfl⟩
  · refine .inr ⟨g, cap, rfl, ⟨cur, hgg, by rw [hsz]; omega, fun i x hx => ?_⟩, hb, hle, hm⟩
    have hi : i < L.length := (List.getElem?_eq_some_iff.1 hx).1
    obtain ⟨k1, k2⟩ := pcells_at L i x hx
    have hc : ∀ j, j < L.length * 2 → cur[j]? = (pcells L)[j]? := by
      intro j hj
      rw [← htk, List.getElem?_take_of_lt hj]
      simp
    rw [← k1, ← k2]
    exact ⟨hc (i * 2) (by omega), hc (i * 2 + 1) (by omega)⟩
theorem compactP_nil (w : World) :
    Calls Tryd.prog 22 #[.slice none 0 0, .func (.func 23) #[] #[]] w fun e w' => e = .returned (.slice none 0 0) ∧ w' = w := by
  go_enter Tryd.func22, Tryd.ntmps22
  go_wp2
  go_ret
  exact ⟨rfl, rfl⟩
/-- CompactFunc of a row of the call's own. -/
theorem compactP_own (ps : List Pc) (base : Nat) (v : Value) (w : World) (h : OP w base v ps) (h60 : ps.length ≤ 1000) :
    Calls Tryd.prog 22 #[v, .func (.func 23) #[] #[]] w fun e w' => (∃ q c, e = .returned (.slice q (pcp false ps).length c) ∧ PL w' q (pcp false ps)) ∧ Below base w w' := by
  rcases h.block with ⟨rfl, rfl⟩ | ⟨g, cap, rfl, hb, hg, h1, h2⟩
  · refine (compactP_nil w).mono ?_
    rintro e w' ⟨rfl, rfl⟩
    exact ⟨⟨none, 0, rfl, .inl rfl⟩, Below.refl _ _⟩
  · refine (compactP_any ps g cap w hb h1 h2 h60).mono ?_
    rintro e w' ⟨⟨rfl, hp⟩, hbl⟩
    exact ⟨⟨_, _, rfl, hp⟩, hbl.mono hg⟩
theorem pcp_len : ∀ (ps : List Pc) (b : Bool), (pcp b ps).length ≤ ps.length
  | [], _ => Nat.le_refl _
  | x :: r, b => by
    have := pcp_len r x.1
    rw [pcp]
    split <;> simp only [List.length_cons] <;> omega

set_option maxHeartbeats 1000000 in
theorem short_good (s : ByteArray) (w : World) (hs : textOk s.data.toList = true) :
    Calls Tryd.prog 10 #[.string s] w fun e w' => e = .returned (.tuple #[.string ⟨(pwr (pcp false (pcs s.data.toList))).toArray⟩, .nilIface]) ∧ Below w.heap.size w w' := by
  have hs6 := text_size hs
  have HE : Hid (eV (tfault s.data.toList) = .nilIface) := eV_nil (tfault_ok hs)
  have hl : (pcs s.data.toList).length ≤ 60 := by
    have h1 := pcs_len s.data.toList
    have h2 : s.data.toList.length = s.size := by simp
    omega
  have hl2 := pcp_len (pcs s.data.toList) false
  clear hs
  go_enter Tryd.func10, Tryd.ntmps10
  go_wp2_with fail
  refine (likeCheck_any s _ (by unfold maxLen; omega)).mono ?_
  rintro e w1 ⟨rfl, hb1⟩
  rw [HE.out]
  go_wp2_with fail
  refine (pieces_any s _ hs6).mono ?_
  rintro e w2 ⟨v, rfl, hown, hb2'⟩
  have hb2 := belt hb1 hb2'
  go_wp2_with fail
  refine (compactP_own _ _ v _ hown (by omega)).mono ?_
  rintro e w3 ⟨⟨q, c, rfl, hq⟩, hb3'⟩
  have hb3 := hb2.trans (hb3'.mono hb1.size)
  go_wp2_with fail
  refine (write_pieces _ q c _ hq (by omega)).mono ?_
  rintro e w4 ⟨rfl, hb4'⟩
  have hb4 := belt hb3 hb4'
  go_wp2_with fail
  go_ret2
  exact ⟨rfl, hb4⟩
set_option maxHeartbeats 1000000 in
theorem short_bad (s : ByteArray) (w : World) (hm : s.size ≤ maxLen) (h : tfault s.data.toList ≠ 0) :
    Calls Tryd.prog 10 #[.string s] w fun e w' => e = .returned (.tuple #[.string ⟨#[]⟩, .iface 26 (.int .i64 (tfault s.data.toList))]) ∧ Below w.heap.size w w' := by
  have HF : Hid (eV (tfault s.data.toList) = .iface 26 (.int .i64 (tfault s.data.toList))) := eV_not h
  clear h
  go_enter Tryd.func10, Tryd.ntmps10
  go_wp2_with fail
  refine (likeCheck_any s _ hm).mono ?_
  rintro e w1 ⟨rfl, hb1⟩
  rw [HF.out]
  go_wp2_with fail
  go_ret2
  exact ⟨rfl, hb1⟩
end Go.Proofs.YtilpgiapjijmmaaDoor
