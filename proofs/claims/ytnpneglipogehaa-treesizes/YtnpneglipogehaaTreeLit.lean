/- Expressions that the statements write down. -/
import Derived.Test.YtnpneglipogehaaTreeVars
import Derived.Test.YtnpneglipogehaaTreePut
import Derived.Test.YtnpneglipogehaaTreeW
import Derived.Test.YtnpneglipogehaaTreeAm
import Derived.Test.YtnpneglipogehaaSame
namespace Go.Proofs.Ytnpneglipogehaa
open Go.RowKit
set_option linter.unusedVariables false

theorem bt {a b c : World} (h : Below a.heap.size a b) (k : Below b.heap.size b c) : Below a.heap.size a c := h.trans (k.mono h.size)
theorem bta {a b : World} (h : Below a.heap.size a b) (o : Obj) : Below a.heap.size a (b.alloc o) := bt h ((Below.refl _ _).alloc (Nat.le_refl _) o)
theorem btn {a b : World} (h : Below a.heap.size a b) (n : Nat) : Below a.heap.size a (b.drewN n) := ⟨h.os, h.tape, h.output, h.size, h.block⟩

def tA : ByteArray := ⟨#[97]⟩
def tB : ByteArray := ⟨#[98]⟩
def nA : Nd := ⟨8, 0, ⟨#[97]⟩, ⟨#[]⟩⟩
def nB : Nd := ⟨8, 0, ⟨#[98]⟩, ⟨#[]⟩⟩
def n5 : Nd := ⟨2, 5, ⟨#[]⟩, ⟨#[]⟩⟩
def nNot : Nd := ⟨9, 0, ⟨#[]⟩, ⟨#[]⟩⟩
def nEq : Nd := ⟨14, 0, ⟨#[]⟩, ⟨#[]⟩⟩

theorem lit_one (w : World) (a b : Int) (s t : ByteArray) (hx : (⟨a, b, s, t⟩ : Nd).wf) : NL (w.alloc (.cells #[.int .i64 a, .int .i64 b, .string s, .string t] 28)) (some ⟨w.heap.size, 0, none⟩) [⟨a, b, s, t⟩] := NL.single w _ ⟨a, b, s, t⟩ hx rfl
theorem lit_two (w : World) (a b a2 b2 : Int) (s t s2 t2 : ByteArray) (hx : (⟨a, b, s, t⟩ : Nd).wf) (hy : (⟨a2, b2, s2, t2⟩ : Nd).wf) : NL (w.alloc (.cells #[.int .i64 a, .int .i64 b, .string s, .string t, .int .i64 a2, .int .i64 b2, .string s2, .string t2] 28)) (some ⟨w.heap.size, 0, none⟩) [⟨a, b, s, t⟩, ⟨a2, b2, s2, t2⟩] := by
  refine .inr ⟨w.heap.size, 0, rfl, by simp, fun i z hz => ?_⟩
  rcases i with _ | _ | i
  · simp at hz
    subst hz
    simp [go_sem, hx]
  · simp at hz
    subst hz
    simp [go_sem, hy]
  · simp at hz
theorem lit_three (w : World) (a b a2 b2 a3 b3 : Int) (s t s2 t2 s3 t3 : ByteArray) (hx : (⟨a, b, s, t⟩ : Nd).wf) (hy : (⟨a2, b2, s2, t2⟩ : Nd).wf) (hz : (⟨a3, b3, s3, t3⟩ : Nd).wf) : NL (w.alloc (.cells #[.int .i64 a, .int .i64 b, .string s, .string t, .int .i64 a2, .int .i64 b2, .string s2, .string t2, .int .i64 a3, .int .i64 b3, .string s3, .string t3] 28)) (some ⟨w.heap.size, 0, none⟩) [⟨a, b, s, t⟩, ⟨a2, b2, s2, t2⟩, ⟨a3, b3, s3, t3⟩] := by
  refine .inr ⟨w.heap.size, 0, rfl, by simp, fun i u hu => ?_⟩
  rcases i with _ | _ | _ | i
  · simp at hu
    subst hu
    simp [go_sem, hx]
  · simp at hu
    subst hu
    simp [go_sem, hy]
  · simp at hu
    subst hu
    simp [go_sem, hz]
  · simp at hu
theorem small_wf {a b : Int} {s t : ByteArray} (h1 : s.size ≤ 100) (h2 : t.size ≤ 100) (h3 : b ≤ 1000) : (⟨a, b, s, t⟩ : Nd).wf := by
  refine ⟨?_, ?_, ?_⟩
  · show s.size ≤ maxLen; unfold maxLen; omega
  · show t.size ≤ maxLen; unfold maxLen; omega
  · show b ≤ _; omega

theorem fact_vars (g : Nat) (w : World) (hN : NL w (some ⟨g, 0, none⟩) [nNot, nA]) :
    Calls Try.prog 11 #[.slice (some ⟨g, 0, none⟩) 2 2] w fun e w' => (∃ q c, e = .returned (.tuple #[.slice q 1 c, .nilIface]) ∧ TL w' q [tA]) ∧ Below w.heap.size w w' := by
  have h : xfault [nNot, nA] = 0 := by decide
  have e : nms [nNot, nA] = [tA] := rfl
  refine (tvars_ok [nNot, nA] (some ⟨g, 0, none⟩) 2 w hN h).mono ?_
  rintro e' w' ⟨⟨q, c, rfl, h1, _⟩, hb⟩
  rw [e] at h1 ⊢
  exact ⟨⟨q, c, rfl, h1⟩, hb⟩
end Go.Proofs.Ytnpneglipogehaa
