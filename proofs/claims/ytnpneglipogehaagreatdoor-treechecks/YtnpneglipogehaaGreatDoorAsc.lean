/- Two rows that rise and have the same members are one. No program is named here. -/
import Derived.Test.YtnpneglipogehaaGreatDoorNd
namespace Go.Proofs.YtnpneglipogehaaGreatDoor

theorem asc_unique {α : Type} {c : α → α → Int} (hc : IsCmp c) : ∀ (l m : List α), l.Pairwise (fun x y => c x y < 0) → m.Pairwise (fun x y => c x y < 0) → (∀ x, x ∈ l ↔ x ∈ m) → l = m
  | [], [], _, _, _ => rfl
  | [], y :: m, _, _, h => by have := (h y).2 (by simp); cases this
  | x :: l, [], _, _, h => by have := (h x).1 (by simp); cases this
  | x :: l, y :: m, hl, hm, h => by
    obtain ⟨l1, l2⟩ := List.pairwise_cons.1 hl
    obtain ⟨m1, m2⟩ := List.pairwise_cons.1 hm
    have irr : ∀ z, ¬ c z z < 0 := fun z hz => by rw [hc.self] at hz; omega
    have asym : ∀ a b, c a b < 0 → ¬ c b a < 0 := fun a b h1 h2 => by rw [hc.neg] at h1; omega
    have exy : x = y := by
      rcases List.mem_cons.1 ((h x).1 (by simp)) with e | hx
      · exact e
      · rcases List.mem_cons.1 ((h y).2 (by simp)) with e | hy
        · exact e.symm
        · exact absurd (m1 x hx) (asym _ _ (l1 y hy))
    subst exy
    rw [asc_unique hc l m l2 m2 (fun z => ⟨fun hz => by
      rcases List.mem_cons.1 ((h z).1 (by simp [hz])) with e | hz'
      · subst e; exact absurd (l1 _ hz) (irr _)
      · exact hz', fun hz => by
      rcases List.mem_cons.1 ((h z).2 (by simp [hz])) with e | hz'
      · subst e; exact absurd (m1 _ hz) (irr _)
      · exact hz'⟩)]
end Go.Proofs.YtnpneglipogehaaGreatDoor
