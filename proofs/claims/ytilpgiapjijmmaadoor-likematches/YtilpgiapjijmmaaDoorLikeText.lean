/- Small laws on texts and their parts. -/
import Derived.Test.YtilpgiapjijmmaaDoorLikeFace
import Derived.Lib.Strings
namespace Go.Proofs.YtilpgiapjijmmaaDoor
open Go.RowKit
set_option linter.unusedVariables false

theorem glue (a b : ByteArray) : (a ++ b).data.toList = a.data.toList ++ b.data.toList := by simp
theorem last_byte (s : ByteArray) (h : 0 < s.size) : s.data.toList.getLast? = some (s[s.size - 1]'(by omega)) := by
  have hl : s.data.toList.length = s.size := by simp
  rw [List.getLast?_eq_getElem?, List.getElem?_eq_getElem (by omega)]
  simp only [hl]
  rfl
theorem head_of (t : ByteArray) (n : Nat) : (t.extract 0 n).data.toList = t.data.toList.take n := by
  rw [Lib.extract_data]; simp
theorem tail_of (t : ByteArray) (n : Nat) : (t.extract n t.size).data.toList = t.data.toList.drop n := by
  rw [Lib.extract_data]
  exact List.take_of_length_le (by simp)
theorem text_take {l : List UInt8} (h : textOk l = true) (i : Nat) : textOk (l.take i) = true := by
  unfold textOk at *
  rw [Bool.and_eq_true, decide_eq_true_eq] at h ⊢
  refine ⟨by rw [List.length_take]; omega, ?_⟩
  rw [List.all_eq_true] at h ⊢
  exact fun x hx => h.2 x (List.mem_of_mem_take hx)
theorem text_drop {l : List UInt8} (h : textOk l = true) (i : Nat) : textOk (l.drop i) = true := by
  unfold textOk at *
  rw [Bool.and_eq_true, decide_eq_true_eq] at h ⊢
  refine ⟨by rw [List.length_drop]; omega, ?_⟩
  rw [List.all_eq_true] at h ⊢
  exact fun x hx => h.2 x (List.mem_of_mem_drop hx)
theorem text_parts {a b : List UInt8} (h : textOk (a ++ b) = true) : textOk a = true ∧ textOk b = true := by
  have h1 := text_take h a.length
  have h2 := text_drop h a.length
  rw [List.take_left] at h1
  rw [List.drop_left] at h2
  exact ⟨h1, h2⟩
end Go.Proofs.YtilpgiapjijmmaaDoor
