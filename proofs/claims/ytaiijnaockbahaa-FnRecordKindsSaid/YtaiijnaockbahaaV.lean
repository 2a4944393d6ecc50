/- What the functions of the model's chapter 1 return: being below, short names and the order. -/
import Derived.Test.YtaiijnaockbahaaU
namespace Go.Proofs.Ytaiijnaockbahaa
open Go.RowKit
set_option maxRecDepth 100000

theorem suffix_iff (x y : List Z.Str) (h : y.length ≤ x.length) : y <:+ x ↔ ∀ j, j < y.length → x.getD (x.length - y.length + j) [] = y.getD j [] := by
  constructor
  · rintro ⟨p, rfl⟩ j hj
    have e : (p ++ y).length - y.length + j = p.length + j := by rw [List.length_append]; omega
    rw [e]
    simp [List.getD_eq_getElem?_getD, List.getElem?_append_right]
  · intro hh
    refine ⟨x.take (x.length - y.length), ?_⟩
    have : y = x.drop (x.length - y.length) := by
      apply List.ext_getElem
      · rw [List.length_drop]; omega
      · intro j h1 h2
        have := hh j h1
        rw [List.getElem_drop]
        have hj : x.length - y.length + j < x.length := by omega
        simpa [h1, hj] using this.symm
    conv => lhs; rhs; rw [this]
    exact List.take_append_drop _ _

def SameTo (x y : List Z.Str) (d k : Nat) : Prop := ∀ j, j < k → x.getD (d + j) [] = y.getD j []

theorem endsNonneg {s t : ByteArray} {m : Int} (h : Hid ((Z.labs (lst t) <:+ Z.labs (lst s) → m = (Z.labs (lst s)).length - (Z.labs (lst t)).length) ∧ (¬ Z.labs (lst t) <:+ Z.labs (lst s) → m < 0))) :
    decide (0 ≤ m) = (Z.labs (lst t)).isSuffixOf (Z.labs (lst s)) := by
  by_cases hs : Z.labs (lst t) <:+ Z.labs (lst s)
  · have h1 := h.out.1 hs
    have h2 := hs.length_le
    rw [List.isSuffixOf_iff_suffix.2 hs]
    simp; omega
  · have h1 := h.out.2 hs
    have : (Z.labs (lst t)).isSuffixOf (Z.labs (lst s)) = false := by
      rw [Bool.eq_false_iff]; exact fun e => hs (List.isSuffixOf_iff_suffix.1 e)
    rw [this]
    simp; omega

theorem ends_zero {s t : ByteArray} (hv : Z.valid (lst s) = true) (hv2 : Z.valid (lst t) = true) {m : Int} (h : Hid ((Z.labs (lst t) <:+ Z.labs (lst s) → m = (Z.labs (lst s)).length - (Z.labs (lst t)).length) ∧ (¬ Z.labs (lst t) <:+ Z.labs (lst s) → m < 0))) :
    (m = 0 ↔ lst s = lst t) ∧ (m < 0 ↔ Z.below (lst s) (lst t) = false) := by
  have hb : Z.below (lst s) (lst t) = (Z.labs (lst t)).isSuffixOf (Z.labs (lst s)) := by unfold Z.below; rw [hv, hv2]; simp
  have hd := endsNonneg h
  refine ⟨⟨fun e => ?_, fun e => ?_⟩, ?_⟩
  · by_cases hs : Z.labs (lst t) <:+ Z.labs (lst s)
    · have h1 := h.out.1 hs
      exact Z.labs_inj hv hv2 (hs.eq_of_length (by omega)).symm
    · have := h.out.2 hs; omega
  · rw [e] at h
    have := h.out.1 (List.suffix_refl _)
    omega
  · rw [hb, ← hd]
    simp

end Go.Proofs.Ytaiijnaockbahaa
