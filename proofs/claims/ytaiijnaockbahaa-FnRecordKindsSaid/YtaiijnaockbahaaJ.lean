/- What the functions of the program's chapter 1 return: names out of labels. -/
import Derived.Test.YtaiijnaockbahaaI
import Derived.Lib.Join
namespace Go.Proofs.Ytaiijnaockbahaa
open Go.RowKit
set_option maxRecDepth 100000

set_option maxHeartbeats 400000 in
theorem splitName_any (s : ByteArray) (hs : s.size ≤ maxLen) (w : World) :
    Calls Try.prog 26 #[.string s] w fun e w' => ∃ A c, e = .returned (.tuple #[.slice A (Z.labels (lst s)).length c, .bool (Z.valid (lst s))]) ∧
      w'.ownsRow w.heap.size 9 1 (.slice A (Z.labels (lst s)).length c) (Z.labels (lst s)).length ((Z.labels (lst s)).map sv) ∧ Below w.heap.size w w' := by
  unfold maxLen at hs
  by_cases hd : lst s = [46]
  · have h1 : (s.toList == [46]) = true := by rw [root_iff]; simpa using hd
    have hv : Hid (Z.valid (lst s) = true) := hid (by rw [hd]; decide)
    have hl : Hid (Z.labels (lst s) = []) := hid (by unfold Z.labels; rw [if_pos hv.out, hd, Z.labs_root])
    clear hd
    go_enter Try.func26, Try.ntmps26
    go_wp2_with fail
    go_ret2
    rw [hv.out, hl.out]
    exact ⟨none, 0, rfl, World.ownsRow_nil _ _ _ _, Below.refl _ _⟩
  · have h1 : (s.toList == [46]) = false := by rw [root_iff]; simpa using hd
    by_cases h2 : s.size ≤ 60
    · by_cases h3 : ((lst s).getLast? == some 46) = true
      · have h4 : 1 ≤ s.size := by
          rw [← lst_length]
          cases hl : lst s with
          | nil => rw [hl] at h3; simp at h3
          | cons => simp
        exact splitName_main s h4 h2 h3 hd w
      · have h3' : ((lst s).getLast? == some 46) = false := by simpa using h3
        have hv : Hid (Z.valid (lst s) = false) := hid (by unfold Z.valid; rw [h3']; simp)
        have hl : Hid (Z.labels (lst s) = []) := hid (by unfold Z.labels; rw [hv.out]; rfl)
        have H3 := hid h3'
        clear hd h3 h3'
        go_enter Try.func26, Try.ntmps26
        go_wp2_with fail
        refine (hasDot_any _ (by unfold maxLen; omega) _).mono ?_
        rintro e w' ⟨rfl, rfl⟩
        rw [H3.out]
        go_wp2_with fail
        go_ret2
        rw [hv.out, hl.out]
        exact ⟨none, 0, rfl, World.ownsRow_nil _ _ _ _, Below.refl _ _⟩
    · have hv : Hid (Z.valid (lst s) = false) := hid (by unfold Z.valid; rw [lst_length]; simp; omega)
      have hl : Hid (Z.labels (lst s) = []) := hid (by unfold Z.labels; rw [hv.out]; rfl)
      clear hd
      go_enter Try.func26, Try.ntmps26
      go_wp2_with fail
      go_ret2
      rw [hv.out, hl.out]
      exact ⟨none, 0, rfl, World.ownsRow_nil _ _ _ _, Below.refl _ _⟩

set_option maxHeartbeats 400000 in
theorem iNameValid_any (s : ByteArray) (hs : s.size ≤ maxLen) (w : World) :
    Calls Try.prog 44 #[.string s] w fun e w' => e = .returned (.bool (Z.valid (lst s))) ∧ Below w.heap.size w w' := by
  go_enter Try.func44, Try.ntmps44
  go_wp2_with fail
  refine (splitName_any s hs _).mono ?_
  rintro e w1 ⟨A, c, rfl, hown, hb1⟩
  go_wp2_with fail
  go_ret
  exact ⟨rfl, hb1⟩

theorem intercalate_dot (ls : List Z.Str) : Lib.join ls [46] ++ [46] = Z.join ls := by
  unfold Lib.join Z.join
  by_cases e : ls = []
  · subst e; rfl
  · rw [if_neg e]
    induction ls with
    | nil => exact absurd rfl e
    | cons a r ih =>
      cases r with
      | nil => simp [List.intercalate, Z.joined]
      | cons b r =>
        have := ih (by simp)
        rw [Z.joined_cons, ← this]
        simp [List.intercalate]

/-- An address without a part, in a block that is there. -/
def Plain (w : World) (A : Option Addr) : Prop := ∃ g o, A = some ⟨g, o, none⟩ ∧ g < w.heap.size

theorem join_bound {ls : List Z.Str} (h8 : ls.length ≤ 8) (hl : Z.okLabs ls = true) : (Z.join ls).length ≤ 67108864 := by
  have h1 := join_le ls
  have h2 : (Z.joined ls).length ≤ 11 * ls.length := by
    have hp := Z.okLabs_pos hl
    clear h1 h8 hl
    induction ls with
    | nil => simp [Z.joined]
    | cons a r ih =>
      have h3 := hp a (by simp)
      have h4 := ih (fun l hl => hp l (by simp [hl]))
      rw [Z.joined_cons]
      simp
      omega
  omega

end Go.Proofs.Ytaiijnaockbahaa
