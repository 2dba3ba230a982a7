/- What has no fault: its head, and the items behind it. No program is named here. -/
import Derived.Test.YtjbjheeigdblkabPartsL
namespace Go.Proofs.Ytjbjheeigdblkab
set_option linter.unusedVariables false

theorem isVal_past {v : List Nd} (h : vfault v = 0) : v.length ≤ 200 ∧ pastV (v.length + 1) v = some [] := by
  unfold vfault at h
  split at h
  · cases h
  · rename_i h1
    split at h
    · rename_i h2
      refine ⟨by omega, ?_⟩
      unfold isVal at h2
      cases e : pastV (v.length + 1) v with
      | none => rw [e] at h2; cases h2
      | some r =>
        rw [e] at h2
        cases r with
        | nil => rfl
        | cons y r => cases h2
    · cases h

theorem value_head {v : List Nd} (h : vfault v = 0) : ∃ x r, v = x :: r ∧ v.length ≤ 200 ∧ x.op ≠ 7 ∧ ndOk x = true ∧
    pastV (v.length + 1) v = (if x.op = 5 then setLoop (pastV v.length) x.n.toNat none r else if x.op = 6 then recLoop (pastV v.length) x.n.toNat ⟨#[]⟩ r else some r) := by
  obtain ⟨hl, hp⟩ := isVal_past h
  cases v with
  | nil => simp [pastV] at hp
  | cons x r =>
    have hp' := hp
    simp only [List.length_cons, pastV] at hp
    split at hp
    · rename_i hx
      refine ⟨x, r, rfl, hl, hx.1, hx.2, ?_⟩
      rw [hp']
      simp only [List.length_cons]
      exact hp.symm
    · cases hp

/-- A set falls into its parts. -/
theorem set_items {x : Nd} {r : List Nd} (h : vfault (x :: r) = 0) (h5 : x.op = 5) : ∃ ss, Segs (x :: r).length r ss ∧ ss.length = x.n.toNat ∧ ∀ s ∈ ss, ∃ y t, s = y :: t ∧ y.op ≠ 7 := by
  obtain ⟨_, _, e, _, _, _, hp⟩ := value_head h
  cases e
  rw [(isVal_past h).2, if_pos h5] at hp
  exact setLoop_segs _ _ _ hp.symm
/-- A record falls into Fields with their values, the names rising. -/
theorem rec_items {x : Nd} {r : List Nd} (h : vfault (x :: r) = 0) (h6 : x.op = 6) : ∃ ss, Segs (x :: r).length r ss ∧ ss.length = x.n.toNat ∧ Rising ⟨#[]⟩ ss := by
  obtain ⟨_, _, e, _, _, _, hp⟩ := value_head h
  cases e
  rw [(isVal_past h).2, if_neg (by omega), if_pos h6] at hp
  exact recLoop_segs _ _ _ hp.symm

theorem Segs.ne {f : Nat} {u : List Nd} {ss : List (List Nd)} (h : Segs f u ss) : ∀ s ∈ ss, s ≠ [] := by
  induction h with
  | nil => simp
  | cons h hs ih =>
    intro s hs'
    rcases List.mem_cons.1 hs' with rfl | hs'
    · obtain ⟨a', e, _, hne⟩ := itemP_off h
      obtain rfl := List.append_cancel_right e
      exact hne
    · exact ih s hs'
theorem Segs.short {f : Nat} {u : List Nd} {ss : List (List Nd)} (h : Segs f u ss) : ∀ s ∈ ss, s.length ≤ u.length := by
  induction h with
  | nil => simp
  | cons h hs ih =>
    intro s hs'
    rcases List.mem_cons.1 hs' with rfl | hs'
    · simp
    · have := ih s hs'; simp; omega
end Go.Proofs.Ytjbjheeigdblkab
