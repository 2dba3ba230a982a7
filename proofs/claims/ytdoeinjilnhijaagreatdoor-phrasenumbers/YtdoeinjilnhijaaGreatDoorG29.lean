/- The fields of a record, one by one, plain. No program is named here. The first lines of PhraseBack and PhrasePrints: their words, and what is printed. -/
import Derived.Test.YtdoeinjilnhijaaGreatDoorG7
namespace Go.Proofs.YtdoeinjilnhijaaGreatDoor
set_option linter.unusedVariables false

/-- What one field comes to, behind this name: where it is wrong; or its word, its nodes and what stands behind. -/
def FO (n : Nat) (nm : List UInt8) (l : List Tk) (out : Except (Nat × Int) (Tk × List Nd × List Tk)) : Prop :=
  (keyB nm l = false ∧ out = .error (l.length, 1)) ∨
  (∃ u l1, l = u :: l1 ∧ keyB nm l = true ∧
    ((nextS l1 [58] = false ∧ out = .error (l1.length, 1)) ∨
     (∃ v l2, l1 = v :: l2 ∧ sgn v [58] = true ∧
       ((∃ e, pE n 0 l2 = some (.error e) ∧ out = .error e) ∨
        (∃ b r, pE n 0 l2 = some (.ok (b, r)) ∧ ((u.l = wLast ∧ nextS r [125] = false ∧ out = .error (r.length, 1)) ∨ ((u.l ≠ wLast ∨ nextS r [125] = true) ∧ out = .ok (u, b, r))))))))
/-- Where the fields of a record stand, behind so many of them, the last name. -/
def RecI (n : Nat) (res : PRes) (vs : List (List Nd)) (nm : List UInt8) (l : List Tk) : Prop :=
  (nextS l [125] = true ∧ res = .ok (mkN 6 vs.length [] [] :: vs.flatten, l.tail)) ∨
  (nextS l [125] = false ∧ ((vs = [] ∧ nm = [] ∧ pK n 0 [] [] l = some res) ∨ (vs ≠ [] ∧ nextS l [44] = true ∧ pK n vs.length nm vs.flatten l.tail = some res) ∨ (vs ≠ [] ∧ nextS l [44] = false ∧ res = .error (l.length, 1))))
theorem RecI.start {n : Nat} {res : PRes} {l : List Tk} (h : (if nextS l [125] = true then some (.ok ([mkN 6 0 [] []], l.tail)) else pK n 0 [] [] l) = some res) : RecI n res [] [] l := by
  by_cases c : nextS l [125] = true
  · rw [if_pos c] at h; injection h with h; exact Or.inl ⟨c, h.symm⟩
  · rw [if_neg c] at h; exact Or.inr ⟨by simpa using c, Or.inl ⟨rfl, rfl, h⟩⟩
theorem RecI.part {n : Nat} {res : PRes} {vs : List (List Nd)} {nm : List UInt8} {l : List Tk} (h : pK n vs.length nm vs.flatten l = some res) :
    ∃ out, FO n nm l out ∧ ((∃ e, out = .error e ∧ res = .error e) ∨ ∃ u b r, out = .ok (u, b, r) ∧ RecI n res (vs ++ [mkN 7 0 u.l [] :: b]) u.l r) := by
  by_cases c1 : keyB nm l = true
  · cases l with
    | nil => cases c1
    | cons u l1 =>
      by_cases c2 : nextS l1 [58] = true
      · cases l1 with
        | nil => cases c2
        | cons v l2 =>
          have hv : sgn v [58] = true := c2
          rcases pK_go c1 hv h with ⟨e, h1, h2⟩ | ⟨b, r, h1, h2⟩
          · exact ⟨.error e, Or.inr ⟨u, _, rfl, c1, Or.inr ⟨v, l2, rfl, hv, Or.inl ⟨e, h1, rfl⟩⟩⟩, Or.inl ⟨e, rfl, h2⟩⟩
          · have ef : (vs ++ [mkN 7 0 u.l [] :: b]).flatten = vs.flatten ++ (mkN 7 0 u.l [] :: b) := by simp
            have el : (vs ++ [mkN 7 0 u.l [] :: b]).length = vs.length + 1 := by simp
            have hne : vs ++ [mkN 7 0 u.l [] :: b] ≠ [] := by simp
            rcases h2 with ⟨c3, h3⟩ | ⟨c3, c4, c5, h3⟩ | ⟨c3, c4, h3⟩
            · refine ⟨.ok (u, b, r), Or.inr ⟨u, _, rfl, c1, Or.inr ⟨v, l2, rfl, hv, Or.inr ⟨b, r, h1, Or.inr ⟨Or.inr c3, rfl⟩⟩⟩⟩, Or.inr ⟨u, b, r, rfl, ?_⟩⟩
              unfold RecI; rw [ef, el]; exact Or.inl ⟨c3, h3⟩
            · refine ⟨.ok (u, b, r), Or.inr ⟨u, _, rfl, c1, Or.inr ⟨v, l2, rfl, hv, Or.inr ⟨b, r, h1, Or.inr ⟨Or.inl c4, rfl⟩⟩⟩⟩, Or.inr ⟨u, b, r, rfl, ?_⟩⟩
              unfold RecI; rw [ef, el]; exact Or.inr ⟨c3, Or.inr (Or.inl ⟨hne, c5, h3⟩)⟩
            · by_cases c6 : u.l = wLast
              · exact ⟨.error (r.length, 1), Or.inr ⟨u, _, rfl, c1, Or.inr ⟨v, l2, rfl, hv, Or.inr ⟨b, r, h1, Or.inl ⟨c6, c3, rfl⟩⟩⟩⟩, Or.inl ⟨_, rfl, h3⟩⟩
              · have c7 : nextS r [44] = false := by
                  rcases c4 with c4 | c4
                  · exact absurd c4 c6
                  · exact c4
                refine ⟨.ok (u, b, r), Or.inr ⟨u, _, rfl, c1, Or.inr ⟨v, l2, rfl, hv, Or.inr ⟨b, r, h1, Or.inr ⟨Or.inl c6, rfl⟩⟩⟩⟩, Or.inr ⟨u, b, r, rfl, ?_⟩⟩
                unfold RecI; rw [ef, el]; exact Or.inr ⟨c3, Or.inr (Or.inr ⟨hne, c7, h3⟩)⟩
      · have c2' : nextS l1 [58] = false := by simpa using c2
        exact ⟨.error (l1.length, 1), Or.inr ⟨u, l1, rfl, c1, Or.inl ⟨c2', rfl⟩⟩, Or.inl ⟨_, rfl, pK_colon c1 c2' h⟩⟩
  · have c1' : keyB nm l = false := by simpa using c1
    exact ⟨.error (l.length, 1), Or.inl ⟨c1', rfl⟩, Or.inl ⟨_, rfl, pK_bad c1' h⟩⟩
end Go.Proofs.YtdoeinjilnhijaaGreatDoor
namespace Go.Proofs.YtdoeinjilnhijaaGreatDoor
set_option linter.unusedVariables false
set_option maxRecDepth 100000

def wK : List Tk := [mkT 5 [40] 0, mkT 2 [49] 1, mkT 5 [43] 3, mkT 2 [50] 5, mkT 5 [41] 6, mkT 5 [42] 8, mkT 2 [51] 10]
theorem read_wK : readL [40, 49, 32, 43, 32, 50, 41, 32, 42, 32, 51] = .ok wK := by
  unfold readL
  rw [if_neg (by decide), wds_word (by decide) (x := (5, [40], 1)) rfl (by decide)]
  simp only [List.nil_append, List.drop_zero, Nat.sub_self, Nat.zero_add]
  rw [wds_word (by decide) (x := (2, [49], 1)) rfl (by simp)]
  simp only [Nat.sub_self, List.drop_zero]
  rw [wds_blank (by decide), wds_word (by decide) (x := (5, [43], 1)) rfl (by simp)]
  simp only [Nat.sub_self, List.drop_zero]
  rw [wds_blank (by decide), wds_word (by decide) (x := (2, [50], 1)) rfl (by simp)]
  simp only [Nat.sub_self, List.drop_zero]
  rw [wds_word (by decide) (x := (5, [41], 1)) rfl (by simp)]
  simp only [Nat.sub_self, List.drop_zero]
  rw [wds_blank (by decide), wds_word (by decide) (x := (5, [42], 1)) rfl (by simp)]
  simp only [Nat.sub_self, List.drop_zero]
  rw [wds_blank (by decide), wds_word (by decide) (x := (2, [51], 1)) rfl (by simp)]
  simp only [Nat.sub_self, List.drop_zero]
  rw [wds_nil]
  rfl
def wM : List Tk := [mkT 5 [45] 0, mkT 5 [40] 1, mkT 2 [53] 2, mkT 5 [41] 3]
theorem read_wM : readL [45, 40, 53, 41] = .ok wM := by
  unfold readL
  rw [if_neg (by decide), wds_word (by decide) (x := (5, [45], 1)) rfl (by decide)]
  simp only [List.nil_append, List.drop_zero, Nat.sub_self, Nat.zero_add]
  rw [wds_word (by decide) (x := (5, [40], 1)) rfl (by simp)]
  simp only [Nat.sub_self, List.drop_zero]
  rw [wds_word (by decide) (x := (2, [53], 1)) rfl (by simp)]
  simp only [Nat.sub_self, List.drop_zero]
  rw [wds_word (by decide) (x := (5, [41], 1)) rfl (by simp)]
  simp only [Nat.sub_self, List.drop_zero]
  rw [wds_nil]
  rfl
def fK : List Nd := [opN 19, opN 17, ⟨2, 1, ⟨#[]⟩, ⟨#[]⟩⟩, ⟨2, 2, ⟨#[]⟩, ⟨#[]⟩⟩, ⟨2, 3, ⟨#[]⟩, ⟨#[]⟩⟩]
def fM : List Nd := [opN 10, ⟨2, 5, ⟨#[]⟩, ⟨#[]⟩⟩]
theorem wrd_fK : wrd fK = wK.map at0 := by
  have e : wrd fK = [sgW [40], numW 1, sgW [43], numW 2, sgW [41], sgW [42], numW 3] := by kernel_rfl
  rw [e]
  unfold numW
  rw [decL_small (by decide), decL_small (by decide), decL_small (by decide)]
  rfl
theorem wrd_fM : wrd fM = wM.map at0 := by
  have e : wrd fM = [sgW [45], sgW [40], numW 5, sgW [41]] := by kernel_rfl
  rw [e]
  unfold numW
  rw [decL_small (by decide)]
  rfl
theorem xfault_fK : xfault fK = 0 := by kernel_rfl
theorem xfault_fM : xfault fM = 0 := by kernel_rfl
end Go.Proofs.YtdoeinjilnhijaaGreatDoor
