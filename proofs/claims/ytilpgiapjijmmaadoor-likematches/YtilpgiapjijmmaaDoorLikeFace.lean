/- What like.Match and like.Just tell: by walks of their own texts. -/
import Derived.Test.YtilpgiapjijmmaaDoorLikeFits
namespace Go.Proofs.YtilpgiapjijmmaaDoor
open Go.RowKit
set_option linter.unusedVariables false

theorem tfault_zero {l : List UInt8} (h : tfault l = 0) : textOk l = true := by
  cases h1 : textOk l
  · exact absurd h (tfault_not h1)
  · rfl
theorem text_size {s : ByteArray} (h : textOk s.data.toList = true) : s.size ≤ 60 := by
  unfold textOk at h
  rw [Bool.and_eq_true, decide_eq_true_eq] at h
  simpa using h.1
/-- What is wrong with a pattern, or else with a text. -/
def mfault (p s : List UInt8) : Int := if tfault p = 0 then tfault s else tfault p
theorem mfault_ok {p s : List UInt8} (h : mfault p s = 0) : textOk p = true ∧ textOk s = true := by
  unfold mfault at h
  by_cases h1 : tfault p = 0
  · rw [if_pos h1] at h
    exact ⟨tfault_zero h1, tfault_zero h⟩
  · rw [if_neg h1] at h; exact absurd h h1
theorem mfault_zero {p s : List UInt8} (hp : textOk p = true) (hs : textOk s = true) : mfault p s = 0 := by
  unfold mfault; rw [if_pos (tfault_ok hp), tfault_ok hs]
theorem belt {a b c : World} (h : Below a.heap.size a b) (k : Below b.heap.size b c) : Below a.heap.size a c := h.trans (k.mono h.size)

set_option maxHeartbeats 1000000 in
theorem match_bad (p s : ByteArray) (w : World) (hp : p.size ≤ maxLen) (hs : s.size ≤ maxLen) (h : mfault p.data.toList s.data.toList ≠ 0) :
    Calls Tryd.prog 6 #[.string p, .string s] w fun e w' => e = .returned (.tuple #[.bool false, .iface 26 (.int .i64 (mfault p.data.toList s.data.toList))]) ∧ Below w.heap.size w w' := by
  by_cases h1 : tfault p.data.toList = 0
  · have hm : mfault p.data.toList s.data.toList = tfault s.data.toList := if_pos h1
    rw [hm] at h ⊢
    have HE : Hid (eV (tfault p.data.toList) = .nilIface) := eV_nil h1
    have HF : Hid (eV (tfault s.data.toList) = .iface 26 (.int .i64 (tfault s.data.toList))) := eV_not h
    clear h h1 hm
    go_enter Tryd.func6, Tryd.ntmps6
    go_wp2_with fail
    refine (likeCheck_any p _ hp).mono ?_
    rintro e w1 ⟨rfl, hb1⟩
    rw [HE.out]
    go_wp2_with fail
    refine (likeCheck_any s _ hs).mono ?_
    rintro e w2 ⟨rfl, hb2'⟩
    have hb2 := belt hb1 hb2'
    rw [HF.out]
    go_wp2_with fail
    go_ret2
    exact ⟨rfl, hb2⟩
  · have hm : mfault p.data.toList s.data.toList = tfault p.data.toList := if_neg h1
    rw [hm] at h ⊢
    have HF : Hid (eV (tfault p.data.toList) = .iface 26 (.int .i64 (tfault p.data.toList))) := eV_not h
    clear h h1 hm
    go_enter Tryd.func6, Tryd.ntmps6
    go_wp2_with fail
    refine (likeCheck_any p _ hp).mono ?_
    rintro e w1 ⟨rfl, hb1⟩
    rw [HF.out]
    go_wp2_with fail
    go_ret2
    exact ⟨rfl, hb1⟩

set_option maxHeartbeats 1000000 in
theorem match_ok (p s : ByteArray) (w : World) (hp : textOk p.data.toList = true) (hs : textOk s.data.toList = true) :
    Calls Tryd.prog 6 #[.string p, .string s] w fun e w' => e = .returned (.tuple #[.bool (pM (pcs p.data.toList) s.data.toList), .nilIface]) ∧ Below w.heap.size w w' := by
  have hp6 := text_size hp
  have hs6 := text_size hs
  have HE : Hid (eV (tfault p.data.toList) = .nilIface) := eV_nil (tfault_ok hp)
  have HF : Hid (eV (tfault s.data.toList) = .nilIface) := eV_nil (tfault_ok hs)
  have hl : (pcs p.data.toList).length ≤ 60 := by
    have h1 := pcs_len p.data.toList
    have h2 : p.data.toList.length = p.size := by simp
    omega
  clear hp hs
  go_enter Tryd.func6, Tryd.ntmps6
  go_wp2_with fail
  refine (likeCheck_any p _ (by unfold maxLen; omega)).mono ?_
  rintro e w1 ⟨rfl, hb1⟩
  rw [HE.out]
  go_wp2_with fail
  refine (likeCheck_any s _ (by unfold maxLen; omega)).mono ?_
  rintro e w2 ⟨rfl, hb2'⟩
  have hb2 := belt hb1 hb2'
  rw [HF.out]
  go_wp2_with fail
  refine (pieces_any p _ hp6).mono ?_
  rintro e w3 ⟨v, rfl, hown, hb3'⟩
  have hb3 := belt hb2 hb3'
  obtain ⟨q, c, rfl, hq, _⟩ := hown.slice
  go_wp2_with fail
  refine (fits_any (pcs p.data.toList) q c s _ hq (by omega) (by omega)).mono ?_
  rintro e w4 ⟨rfl, hb4'⟩
  have hb4 := belt hb3 hb4'
  go_wp2_with fail
  go_ret2
  exact ⟨rfl, hb4⟩

/-- What is wrong with a text, or with the pattern that stands for it. -/
def jfault (l : List UInt8) : Int := if tfault l = 0 then (if 60 < (pwr (plit l)).length then 4 else 0) else tfault l
theorem jfault_ok {l : List UInt8} (h : jfault l = 0) : textOk l = true ∧ (pwr (plit l)).length ≤ 60 := by
  unfold jfault at h
  by_cases h1 : tfault l = 0
  · rw [if_pos h1] at h
    by_cases h2 : 60 < (pwr (plit l)).length
    · rw [if_pos h2] at h; exact absurd h (by decide)
    · exact ⟨tfault_zero h1, by omega⟩
  · rw [if_neg h1] at h; exact absurd h h1
theorem jfault_zero {l : List UInt8} (h : textOk l = true) (k : (pwr (plit l)).length ≤ 60) : jfault l = 0 := by
  unfold jfault; rw [if_pos (tfault_ok h), if_neg (by omega)]
theorem plit_snoc (l : List UInt8) (c : UInt8) : plit (l ++ [c]) = plit l ++ [(false, c)] := by simp [plit]
theorem plit_len (l : List UInt8) : (plit l).length = l.length := by simp [plit]

/-- What Just returns of a text. -/
def jres (l : List UInt8) : Value := if 60 < (pwr (plit l)).length then .tuple #[.string ⟨#[]⟩, .iface 26 (.int .i64 4)] else .tuple #[.string ⟨(pwr (plit l)).toArray⟩, .nilIface]
theorem jres_full {l : List UInt8} (h : 60 < (pwr (plit l)).length) : jres l = .tuple #[.string ⟨#[]⟩, .iface 26 (.int .i64 4)] := if_pos h
theorem jres_ok {l : List UInt8} (h : ¬ 60 < (pwr (plit l)).length) : jres l = .tuple #[.string ⟨(pwr (plit l)).toArray⟩, .nilIface] := if_neg h
set_option maxHeartbeats 1000000 in
theorem just_at (s : ByteArray) (w : World) (hs : textOk s.data.toList = true) :
    Calls Tryd.prog 12 #[.string s] w fun e w' => e = .returned (jres s.data.toList) ∧ Below w.heap.size w w' := by
  have hs6 := text_size hs
  have HE : Hid (eV (tfault s.data.toList) = .nilIface) := eV_nil (tfault_ok hs)
  clear hs
  go_enter Tryd.func12, Tryd.ntmps12
  go_wp2_with fail
  refine (likeCheck_any s _ (by unfold maxLen; omega)).mono ?_
  rintro e w1 ⟨rfl, hb1⟩
  rw [HE.out]
  have HB1 : Hid (Below w.heap.size w w1) := hb1
  clear hb1
  go_wp2_with fail
  go_loopw [5, 15] (fun v i wr => ∃ k : Nat, k ≤ s.size ∧ i = .int .i64 k ∧ OP wr w.heap.size v (plit (s.data.toList.take k)) ∧ Hid (Below w.heap.size w wr)) (fun _ i _ => s.size - (intOf i).toNat)
  case atStart => exact ⟨0, Nat.zero_le _, rfl, OP.nil _ _, HB1⟩
  case round =>
    obtain ⟨k, hk, rfl, hown, HB⟩ := hrel
    have hsz := HB.out.size
    have hl : (plit (s.data.toList.take k)).length ≤ 60 := by rw [plit_len, List.length_take]; omega
    by_cases hlt : k < s.size
    · have i1 : (k : Int) < (s.size : Int) := by omega
      have HT : Hid (plit (s.data.toList.take (k + 1)) = plit (s.data.toList.take k) ++ [(false, s[k])]) := by show _ = _; rw [take_snoc s k hlt, plit_snoc]
      generalize plit (s.data.toList.take k) = acc at hown hl HT
      go_wp2_with (at_builtin; refine append_piece _ rfl (.tmp 18) (.tmp 23) rfl w.heap.size _ _ rfl hown _ _ s[k] rfl rfl (by omega) hsz ?_; intro v1 w1 hown1 hb1)
      go_roundw
      case rel => exact ⟨k + 1, by omega, by go_num, by rw [HT.out]; exact hown1, HB.out.trans hb1⟩
      case measure => simp [intOf]; omega
    · obtain rfl : k = s.size := by omega
      have i1 : ¬ (s.size : Int) < (s.size : Int) := by omega
      rw [take_all s] at hown hl
      obtain ⟨q, c, rfl, hq, _⟩ := hown.slice
      by_cases h6 : 60 < (pwr (plit s.data.toList)).length
      · have HJ : Hid (_ = _) := jres_full h6
        have j1 : (60 : Int) < ((pwr (plit s.data.toList)).length : Int) := by omega
        go_wp2_with fail
        refine (write_pieces (plit s.data.toList) q c _ hq (by omega)).mono ?_
        rintro e w2 ⟨rfl, hb2⟩
        have hb3 := HB.out.trans (hb2.mono hsz)
        go_wp2_with fail
        go_ret2
        exact ⟨by rw [HJ.out]; rfl, hb3⟩
      · have HJ : Hid (_ = _) := jres_ok h6
        have j1 : ¬ (60 : Int) < ((pwr (plit s.data.toList)).length : Int) := by omega
        go_wp2_with fail
        refine (write_pieces (plit s.data.toList) q c _ hq (by omega)).mono ?_
        rintro e w2 ⟨rfl, hb2⟩
        have hb3 := HB.out.trans (hb2.mono hsz)
        go_wp2_with fail
        go_ret2
        exact ⟨by rw [HJ.out]; rfl, hb3⟩
theorem just_ok (s : ByteArray) (w : World) (h : jfault s.data.toList = 0) :
    Calls Tryd.prog 12 #[.string s] w fun e w' => e = .returned (.tuple #[.string ⟨(pwr (plit s.data.toList)).toArray⟩, .nilIface]) ∧ Below w.heap.size w w' := by
  obtain ⟨h1, h2⟩ := jfault_ok h
  refine (just_at s w h1).mono ?_
  rintro e w1 ⟨rfl, hb⟩
  exact ⟨by rw [jres_ok (by omega)], hb⟩
theorem just_bad (s : ByteArray) (w : World) (hm : s.size ≤ maxLen) (h : jfault s.data.toList ≠ 0) :
    Calls Tryd.prog 12 #[.string s] w fun e w' => e = .returned (.tuple #[.string ⟨#[]⟩, .iface 26 (.int .i64 (jfault s.data.toList))]) ∧ Below w.heap.size w w' := by
  by_cases h1 : tfault s.data.toList = 0
  · by_cases h2 : 60 < (pwr (plit s.data.toList)).length
    · refine (just_at s w (tfault_zero h1)).mono ?_
      rintro e w1 ⟨rfl, hb⟩
      exact ⟨by rw [jres_full h2]; unfold jfault; rw [if_pos h1, if_pos h2], hb⟩
    · exact absurd (jfault_zero (tfault_zero h1) (by omega)) h
  · have hj : jfault s.data.toList = tfault s.data.toList := if_neg h1
    rw [hj]
    have HF : Hid (eV (tfault s.data.toList) = .iface 26 (.int .i64 (tfault s.data.toList))) := eV_not h1
    clear h h1 hj
    go_enter Tryd.func12, Tryd.ntmps12
    go_wp2_with fail
    refine (likeCheck_any s _ hm).mono ?_
    rintro e w1 ⟨rfl, hb1⟩
    rw [HF.out]
    go_wp2_with fail
    go_ret2
    exact ⟨rfl, hb1⟩
end Go.Proofs.YtilpgiapjijmmaaDoor
