/- What the document's own Shortened and Fits return: by walks of their own texts. -/
import Derived.Test.YtilpgiapjijmmaaDoorLikeRef
import Derived.Test.YtilpgiapjijmmaaDoorBRow
namespace Go.Proofs.YtilpgiapjijmmaaDoor
open Go.RowKit
set_option linter.unusedVariables false

theorem pcat_wild (s : ByteArray) (k : Nat) (h : k < s.size) : (pcat (s.data.toList.drop k)).1 = (s[k].toNat == 42) := by
  have h1 : ∀ c : UInt8, (pc1 c).1 = (c.toNat == 42) := fun c => by
    unfold pc1
    by_cases e : (c.toNat == 42) = true
    · rw [if_pos e, e]
    · rw [if_neg e]; simpa using e
  rw [drop_get s k h]
  generalize s.data.toList.drop (k + 1) = r
  match r with
  | [] => exact h1 _
  | d :: r =>
    rw [pcat_cons]
    cases hg : gst s[k] d
    · exact h1 _
    · unfold gst at hg
      simp only [Bool.and_eq_true, beq_iff_eq] at hg
      rw [hg.1]; rfl
theorem pcat_byte (s : ByteArray) (k : Nat) (h : k < s.size) (hn : (s[k].toNat == 42) = false) : (pcat (s.data.toList.drop k)).2 = if stat (s.data.toList.drop k) then 42 else s[k] := by
  have h1 : ∀ c : UInt8, (c.toNat == 42) = false → (pc1 c).2 = c := fun c e => by unfold pc1; rw [if_neg (by rw [e]; decide)]
  rw [drop_get s k h]
  generalize s.data.toList.drop (k + 1) = r
  match r with
  | [] => exact h1 _ hn
  | d :: r =>
    rw [pcat_cons]
    show _ = if gst s[k] d then 42 else s[k]
    cases hg : gst s[k] d
    · exact h1 _ hn
    · rfl
/-- The k-th piece, by the place where it begins. -/
theorem piece_at {s : ByteArray} {k a : Nat} (h : (sts s.data.toList 0)[k]? = some a) : a < s.size ∧ (pcs s.data.toList)[k]? = some (pcat (s.data.toList.drop a)) ∧
    ((sts s.data.toList 0)[k + 1]?).getD s.size = a + psz (s.data.toList.drop a) ∧ a + psz (s.data.toList.drop a) ≤ s.size ∧ (pcs s.data.toList).drop k = pcat (s.data.toList.drop a) :: (pcs s.data.toList).drop (k + 1) := by
  have hl : s.data.toList.length = s.size := by simp
  obtain ⟨h1, h2, h3⟩ := starts_at h
  rw [hl] at h1 h3
  have hne : s.data.toList.drop a ≠ [] := by rw [drop_get s a h1]; simp
  rw [pcs_cons hne] at h2
  have h4 : (pcs s.data.toList)[k]? = some (pcat (s.data.toList.drop a)) := by
    have := congrArg (fun l : List Pc => l[0]?) h2
    simp only [List.getElem?_cons_zero, List.getElem?_drop, Nat.add_zero] at this
    exact this.symm
  refine ⟨h1, h4, h3, ?_, ?_⟩
  · have := psz_le hne
    rw [List.length_drop, hl] at this
    omega
  · obtain ⟨hk, e⟩ := List.getElem?_eq_some_iff.1 h4
    rw [List.drop_eq_getElem_cons hk, e]
theorem part_of (s : ByteArray) (a : Nat) (h : a < s.size) : (s.extract a (a + psz (s.data.toList.drop a))).data.toList = wone (pcat (s.data.toList.drop a)) := by
  have hne : s.data.toList.drop a ≠ [] := by rw [drop_get s a h]; simp
  rw [Lib.extract_data, ← wone_pcat hne]
  congr 1
  omega
theorem cpn_drop {ps : List Pc} {k : Nat} (h : (decide (0 < k) && ((ps.getD k (false, 0)).1 && (ps.getD (k - 1) (false, 0)).1)) = true) : pcpn ps (k + 1) = pcpn ps k := by rw [pcpn, if_pos h]
theorem cpn_keep {ps : List Pc} {k : Nat} (h : (decide (0 < k) && ((ps.getD k (false, 0)).1 && (ps.getD (k - 1) (false, 0)).1)) = false) : pwr (pcpn ps (k + 1)) = pwr (pcpn ps k) ++ wone (ps.getD k (false, 0)) := by
  rw [pcpn, if_neg (by rw [h]; decide), pwr_snoc]
theorem cpn_len (ps : List Pc) : ∀ k, (pcpn ps k).length ≤ k
  | 0 => Nat.le_refl _
  | k + 1 => by
    have := cpn_len ps k
    rw [pcpn]
    split
    · omega
    · rw [List.length_append, List.length_cons, List.length_nil]; omega
theorem byte_is42 {c : UInt8} (b : Bool) : (c.toNat == 42) = b → ((c.toNat : Int) == 42) = b := fun h => by
  rw [← h, Bool.eq_iff_iff]; simp; omega

set_option maxHeartbeats 2000000 in
theorem shortened_any (s : ByteArray) (w : World) (hs : s.size ≤ 60) :
    Calls Tryd.prog 13 #[.string s] w fun e w' => e = .returned (.string ⟨(pwr (pcp false (pcs s.data.toList))).toArray⟩) ∧ Below w.heap.size w w' := by
  have HLN : Hid ((sts s.data.toList 0).length = (pcs s.data.toList).length) := sts_length _ _
  have hln : (sts s.data.toList 0).length ≤ 60 := by
    have h1 := pcs_len s.data.toList
    have h2 : s.data.toList.length = s.size := by simp
    rw [HLN.out]; omega
  go_enter Tryd.func13, Tryd.ntmps13
  go_wp2_with fail
  refine (starts_any s _ hs).mono ?_
  rintro e w1 ⟨v, rfl, hown, hb1⟩
  obtain ⟨q, c, rfl, hq, _, _⟩ := hown.slice
  have HI : Hid (IL w1 q (sts s.data.toList 0)) := hq
  have HB1 : Hid (Below w.heap.size w w1) := hb1
  clear hown hq hb1
  go_wp2_with fail
  go_loop [3, 5] (fun o kv => ∃ (k : Nat) (t : ByteArray), k ≤ (sts s.data.toList 0).length ∧ kv = .int .i64 k ∧ o = .string t ∧ Hid (t.data.toList = pwr (pcpn (pcs s.data.toList) k))) (fun _ kv => (sts s.data.toList 0).length - (intOf kv).toNat)
  case atStart => exact ⟨0, ⟨#[]⟩, Nat.zero_le _, rfl, rfl, rfl⟩
  case round =>
    obtain ⟨k, t, hk, rfl, rfl, HQ⟩ := hrel
    have ht : t.size ≤ 120 := by
      have h1 := (wr_len (pcpn (pcs s.data.toList) k)).2
      have h2 := cpn_len (pcs s.data.toList) k
      rw [size_of, HQ.out]; omega
    by_cases hlt : k < (sts s.data.toList 0).length
    · have i1 : (k : Int) < ((sts s.data.toList 0).length : Int) := by omega
      obtain ⟨a, ha⟩ : ∃ a, (sts s.data.toList 0)[k]? = some a := ⟨_, List.getElem?_eq_getElem hlt⟩
      obtain ⟨a1, a2, a3, a4, _⟩ := piece_at ha
      obtain ⟨b, off, rfl, hbl, hcell⟩ : ∃ b off, q = some ⟨b, off, none⟩ ∧ b < w1.heap.size ∧ ∀ (i x : Nat), (sts s.data.toList 0)[i]? = some x → w1.cell? ⟨b, off + i, none⟩ = some (.int .i64 (x : Int)) := by
        rcases HI.out with h | h
        · rw [h] at hlt; simp at hlt
        · exact h
      have c0 := hcell k a ha
      have hw := pcat_wild s a a1
      have HX : Hid ((s.extract a (a + psz (s.data.toList.drop a))).data.toList = wone ((pcs s.data.toList).getD k (false, 0))) := by
        show _ = _
        rw [part_of s a a1, List.getD_eq_getElem?_getD, a2]; rfl
      have hx2 : ((pcs s.data.toList).getD k (false, 0)).1 = (s[a].toNat == 42) := by rw [List.getD_eq_getElem?_getD, a2]; exact hw
      have k2 : (a : Int) < (s.size : Int) := by omega
      -- where the piece ends
      have hend : (k + 1 < (sts s.data.toList 0).length ∧ w1.cell? ⟨b, off + (k + 1), none⟩ = some (.int .i64 ((a + psz (s.data.toList.drop a) : Nat) : Int))) ∨ (¬ k + 1 < (sts s.data.toList 0).length ∧ s.size = a + psz (s.data.toList.drop a)) := by
        by_cases h1 : k + 1 < (sts s.data.toList 0).length
        · refine .inl ⟨h1, ?_⟩
          rw [List.getElem?_eq_getElem h1, Option.getD_some] at a3
          exact hcell (k + 1) _ (by rw [List.getElem?_eq_getElem h1, a3])
        · refine .inr ⟨h1, ?_⟩
          rw [List.getElem?_eq_none (by omega), Option.getD_none] at a3
          exact a3
      have hp1 := psz_pos (s.data.toList.drop a)
      generalize psz (s.data.toList.drop a) = z at hend HX a4 hp1
      have hxs : (s.extract a (a + z)).size ≤ 60 := by simp only [ByteArray.size_extract]; omega
      -- what stands ahead
      have hprev : k = 0 ∨ (0 < k ∧ ∃ a' : Nat, a' < s.size ∧ w1.cell? ⟨b, off + (k - 1), none⟩ = some (.int .i64 (a' : Int)) ∧ ∃ h : a' < s.size, ((pcs s.data.toList).getD (k - 1) (false, 0)).1 = (s[a'].toNat == 42)) := by
        rcases Nat.eq_zero_or_pos k with h | h
        · exact .inl h
        · refine .inr ⟨h, ?_⟩
          have hl' : k - 1 < (sts s.data.toList 0).length := by omega
          obtain ⟨a', ha'⟩ : ∃ a', (sts s.data.toList 0)[k - 1]? = some a' := ⟨_, List.getElem?_eq_getElem hl'⟩
          obtain ⟨b1, b2, _⟩ := piece_at ha'
          exact ⟨a', b1, hcell _ _ ha', b1, by rw [List.getD_eq_getElem?_getD, b2]; exact pcat_wild s a' b1⟩
      have HKEEP : Hid (∀ d, (decide (0 < k) && (((pcs s.data.toList).getD k (false, 0)).1 && ((pcs s.data.toList).getD (k - 1) (false, 0)).1)) = d → (d = false → pwr (pcpn (pcs s.data.toList) (k + 1)) = pwr (pcpn (pcs s.data.toList) k) ++ wone ((pcs s.data.toList).getD k (false, 0))) ∧ (d = true → pwr (pcpn (pcs s.data.toList) (k + 1)) = pwr (pcpn (pcs s.data.toList) k))) := fun d hd => by
        refine ⟨fun h => cpn_keep (by rw [hd, h]), fun h => by rw [cpn_drop (by rw [hd, h])]⟩
      clear hcell ha a2 a3 hw
      generalize hx0 : ((pcs s.data.toList).getD k (false, 0)) = X at HX hx2 HKEEP
      generalize hy0 : ((pcs s.data.toList).getD (k - 1) (false, 0)) = Y at hprev HKEEP
      clear hx0 hy0
      have HR : Hid (∀ d, (decide (0 < k) && (X.1 && Y.1)) = d → d = false → (t ++ s.extract a (a + z)).data.toList = pwr (pcpn (pcs s.data.toList) (k + 1))) := fun d hd hf => by
        show _ = _
        rw [glue, HQ.out, HX.out, (HKEEP.out d hd).1 hf]
      have HR2 : Hid ((decide (0 < k) && (X.1 && Y.1)) = true → t.data.toList = pwr (pcpn (pcs s.data.toList) (k + 1))) := fun hd => by
        show _ = _
        rw [HQ.out, (HKEEP.out true hd).2 rfl]
      clear HX HKEEP
      have j1 : (a : Int) ≤ ((a + z : Nat) : Int) := by omega
      have j2 : ((a + z : Nat) : Int) ≤ (s.size : Int) := by omega
      have j3 : (a : Int) ≤ (s.size : Int) := by omega
      generalize hz : a + z = e at *
      clear hz hp1
      rcases hend with ⟨n1, c1⟩ | ⟨n1, n2⟩
      · have i2 : (k : Int) + 1 < ((sts s.data.toList 0).length : Int) := by omega
        rcases hprev with h0 | ⟨h0, a', ha', cm, ha'', hy⟩
        · have m0 : ¬ (0 : Int) < (k : Int) := by omega
          have HR3 : Hid (_ = _) := HR.out _ rfl (by rw [decide_eq_false (by omega)]; rfl)
          clear HR HR2 hx2 h0
          go_wp2_with fail
          go_round
          case rel => exact ⟨k + 1, _, by omega, by go_num, rfl, HR3⟩
          case measure => simp [intOf]; omega
        · have m0 : (0 : Int) < (k : Int) := by omega
          have m1 : (1 : Int) ≤ (k : Int) := by omega
          have k3 : (a' : Int) < (s.size : Int) := by omega
          cases hX : (s[a].toNat == 42)
          · have bX := byte_is42 _ hX
            have HR3 : Hid (_ = _) := HR.out _ rfl (by rw [hx2, hX]; simp)
            clear HR HR2 hx2 hX hy
            go_wp2_with fail
            go_round
            case rel => exact ⟨k + 1, _, by omega, by go_num, rfl, HR3⟩
            case measure => simp [intOf]; omega
          · have bX := byte_is42 _ hX
            cases hY : (s[a'].toNat == 42)
            · have bY := byte_is42 _ hY
              have HR3 : Hid (_ = _) := HR.out _ rfl (by rw [hy, hY]; simp)
              clear HR HR2 hx2 hX hy hY
              go_wp2_with fail
              go_round
              case rel => exact ⟨k + 1, _, by omega, by go_num, rfl, HR3⟩
              case measure => simp [intOf]; omega
            · have bY := byte_is42 _ hY
              have HR3 : Hid (_ = _) := HR2.out (by rw [hx2, hX, hy, hY, decide_eq_true h0]; rfl)
              clear HR HR2 hx2 hX hy hY
              go_wp2_with fail
              go_round
              case rel => exact ⟨k + 1, _, by omega, by go_num, rfl, HR3⟩
              case measure => simp [intOf]; omega
      · have i2 : ¬ (k : Int) + 1 < ((sts s.data.toList 0).length : Int) := by omega
        subst n2
        rcases hprev with h0 | ⟨h0, a', ha', cm, ha'', hy⟩
        · have m0 : ¬ (0 : Int) < (k : Int) := by omega
          have HR3 : Hid (_ = _) := HR.out _ rfl (by rw [decide_eq_false (by omega)]; rfl)
          clear HR HR2 hx2 h0
          go_wp2_with fail
          go_round
          case rel => exact ⟨k + 1, _, by omega, by go_num, rfl, HR3⟩
          case measure => simp [intOf]; omega
        · have m0 : (0 : Int) < (k : Int) := by omega
          have m1 : (1 : Int) ≤ (k : Int) := by omega
          have k3 : (a' : Int) < (s.size : Int) := by omega
          cases hX : (s[a].toNat == 42)
          · have bX := byte_is42 _ hX
            have HR3 : Hid (_ = _) := HR.out _ rfl (by rw [hx2, hX]; simp)
            clear HR HR2 hx2 hX hy
            go_wp2_with fail
            go_round
            case rel => exact ⟨k + 1, _, by omega, by go_num, rfl, HR3⟩
            case measure => simp [intOf]; omega
          · have bX := byte_is42 _ hX
            cases hY : (s[a'].toNat == 42)
            · have bY := byte_is42 _ hY
              have HR3 : Hid (_ = _) := HR.out _ rfl (by rw [hy, hY]; simp)
              clear HR HR2 hx2 hX hy hY
              go_wp2_with fail
              go_round
              case rel => exact ⟨k + 1, _, by omega, by go_num, rfl, HR3⟩
              case measure => simp [intOf]; omega
            · have bY := byte_is42 _ hY
              have HR3 : Hid (_ = _) := HR2.out (by rw [hx2, hX, hy, hY, decide_eq_true h0]; rfl)
              clear HR HR2 hx2 hX hy hY
              go_wp2_with fail
              go_round
              case rel => exact ⟨k + 1, _, by omega, by go_num, rfl, HR3⟩
              case measure => simp [intOf]; omega
    · obtain rfl : k = (sts s.data.toList 0).length := by omega
      have i1 : ¬ ((sts s.data.toList 0).length : Int) < ((sts s.data.toList 0).length : Int) := by omega
      go_wp2_with fail
      go_ret
      refine ⟨ret_text ?_, HB1.out⟩
      rw [HQ.out, HLN.out, cpn_all]
end Go.Proofs.YtilpgiapjijmmaaDoor
