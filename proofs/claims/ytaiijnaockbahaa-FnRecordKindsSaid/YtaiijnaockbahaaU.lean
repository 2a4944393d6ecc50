/- What the functions of the model's chapter 1 return: names that are read below an origin. -/
import Derived.Test.YtaiijnaockbahaaT
namespace Go.Proofs.Ytaiijnaockbahaa
open Go.RowKit
set_option maxRecDepth 100000

theorem empty_iff (s : ByteArray) : s.toList.isEmpty = decide (lst s = []) := by rw [toList_lst, Bool.eq_iff_iff]; simp

/-- The two ways behind the text of the name. -/
theorem readName_ends {t o x : ByteArray} (hv : Z.valid (lst o) = true) (he : t.toList.isEmpty = false) (h60 : t.size ≤ 60) (hf : Z.fullText (lst t) (lst o) = lst x) :
    (Z.valid (lst x) = true → Z.readName (lst t) (lst o) = some (lst x)) ∧ (Z.valid (lst x) = false → Z.readName (lst t) (lst o) = none) := by
  have hne : lst t ≠ [] := by rw [empty_iff] at he; simpa using he
  have := readName_of hv hne (by rw [lst_length]; exact h60) hf
  rw [this]
  exact ⟨fun h => by rw [if_pos h], fun h => by rw [h]; simp⟩

theorem index_last (t : ByteArray) (he : t.toList.isEmpty = false) : 1 ≤ t.size := by
  rw [empty_iff] at he
  have : lst t ≠ [] := by simpa using he
  rw [← lst_length]
  exact List.length_pos_iff.2 this

end Go.Proofs.Ytaiijnaockbahaa
