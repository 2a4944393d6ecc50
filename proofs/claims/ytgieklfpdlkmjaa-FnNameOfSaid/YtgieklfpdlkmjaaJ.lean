/- What the functions of the program's chapter 1 return: names out of labels. -/
import Derived.Test.YtgieklfpdlkmjaaI
namespace Go.Proofs.Ytgieklfpdlkmjaa
open Go.RowKit

set_option maxHeartbeats 400000 in
theorem splitName_any (s : ByteArray) (hs : s.size ≤ maxLen) (w : World) :
    Calls Try.prog 47 #[.string s] w fun e w' => ∃ A c, e = .returned (.tuple #[.slice A (Z.labels (lst s)).length c, .bool (Z.valid (lst s))]) ∧
      w'.ownsRow w.heap.size 9 1 (.slice A (Z.labels (lst s)).length c) (Z.labels (lst s)).length ((Z.labels (lst s)).map sv) ∧ Below w.heap.size w w' := by
  unfold maxLen at hs
  by_cases hd : lst s = [46]
  · have h1 : (s.toList == [46]) = true := by rw [root_iff]; simpa using hd
    have hv : Hid (Z.valid (lst s) = true) := hid (by rw [hd]; decide)
    have hl : Hid (Z.labels (lst s) = []) := hid (by unfold Z.labels; rw [if_pos hv.out, hd, Z.labs_root])
    clear hd
    go_enter Try.func47, Try.ntmps47
    go_wp2_with fail
    go_ret2
    rw [hv.out, hl.out]
    exact ⟨none, 0, rfl, World.ownsRow_nil _ _ _ _, Below.refl _ _⟩
  · have h1 : (s.toList == [46]) = false := by rw [root_iff]; simpa using hd
    by_cases h2 : s.size ≤ 60
    · by_cases h3 : ((lst s).getLast? == some 46) = true
      · have h4 : 1 ≤ s.size := by
          rw [← lst_length]
          cases hl : lst s with
          | nil => rw [hl] at h3; simp at h3
          | cons => simp
        exact splitName_main s h4 h2 h3 hd w
      · have h3' : ((lst s).getLast? == some 46) = false := by simpa using h3
        have hv : Hid (Z.valid (lst s) = false) := hid (by unfold Z.valid; rw [h3']; simp)
        have hl : Hid (Z.labels (lst s) = []) := hid (by unfold Z.labels; rw [hv.out]; rfl)
        have H3 := hid h3'
        clear hd h3 h3'
        go_enter Try.func47, Try.ntmps47
        go_wp2_with fail
        refine (hasDot_any _ (by unfold maxLen; omega) _).mono ?_
        rintro e w' ⟨rfl, rfl⟩
        rw [H3.out]
        go_wp2_with fail
        go_ret2
        rw [hv.out, hl.out]
        exact ⟨none, 0, rfl, World.ownsRow_nil _ _ _ _, Below.refl _ _⟩
    · have hv : Hid (Z.valid (lst s) = false) := hid (by unfold Z.valid; rw [lst_length]; simp; omega)
      have hl : Hid (Z.labels (lst s) = []) := hid (by unfold Z.labels; rw [hv.out]; rfl)
      clear hd
      go_enter Try.func47, Try.ntmps47
      go_wp2_with fail
      go_ret2
      rw [hv.out, hl.out]
      exact ⟨none, 0, rfl, World.ownsRow_nil _ _ _ _, Below.refl _ _⟩

set_option maxHeartbeats 400000 in
theorem iNameValid_any (s : ByteArray) (hs : s.size ≤ maxLen) (w : World) :
    Calls Try.prog 19 #[.string s] w fun e w' => e = .returned (.bool (Z.valid (lst s))) ∧ Below w.heap.size w w' := by
  go_enter Try.func19, Try.ntmps19
  go_wp2_with fail
  refine (splitName_any s hs _).mono ?_
  rintro e w1 ⟨A, c, rfl, hown, hb1⟩
  go_wp2_with fail
  go_ret
  exact ⟨rfl, hb1⟩

set_option maxHeartbeats 400000 in
theorem iLabelsOf_any (s : ByteArray) (hs : s.size ≤ maxLen) (w : World) :
    Calls Try.prog 16 #[.string s] w fun e w' => ∃ A c, e = .returned (.slice A (Z.labels (lst s)).length c) ∧ w'.ownsRow w.heap.size 9 1 (.slice A (Z.labels (lst s)).length c) (Z.labels (lst s)).length ((Z.labels (lst s)).map sv) ∧ Below w.heap.size w w' := by
  go_enter Try.func16, Try.ntmps16
  go_wp2_with fail
  refine (splitName_any s hs _).mono ?_
  rintro e w1 ⟨A, c, rfl, hown, hb1⟩
  go_wp2_with fail
  go_ret
  exact ⟨A, c, rfl, hown, hb1⟩

theorem intercalate_dot (ls : List Z.Str) : Lib.join ls [46] ++ [46] = Z.join ls := by
  unfold Lib.join Z.join
  by_cases e : ls = []
  · subst e; rfl
  · rw [if_neg e]
    induction ls with
    | nil => exact absurd rfl e
    | cons a r ih =>
      cases r with
      | nil => simp [List.intercalate, Z.joined]
      | cons b r =>
        have := ih (by simp)
        rw [Z.joined_cons, ← this]
        simp [List.intercalate]

/-- An address without a part, in a block that is there. -/
def Plain (w : World) (A : Option Addr) : Prop := ∃ g o, A = some ⟨g, o, none⟩ ∧ g < w.heap.size

set_option maxHeartbeats 400000 in
theorem joinLabels_any (ls : List Z.Str) (B : Nat) (A : Option Addr) (n c : Nat) (w : World) (hr : Reads w B A n (ls.map sv)) (hA : 0 < n → Plain w A) (hc : n ≤ c) (hn : ls.length ≤ 67108864) (hj : (Z.join ls).length ≤ 67108864) :
    Calls Try.prog 51 #[.slice A n c] w fun e w' => e = .returned (.string (bs (Z.join ls))) ∧ Below w.heap.size w w' := by
  obtain rfl : n = ls.length := by simpa using hr.1.symm
  have hjl : (Lib.join ls [46]).length ≤ 67108864 := by
    have := congrArg List.length (intercalate_dot ls)
    rw [List.length_append] at this
    simp at this
    omega
  have hfin : Hid (bs (Lib.join ls [46]) ++ ⟨#[46]⟩ = bs (Z.join ls)) := hid (by apply lst_inj; rw [lst_append, lst_bs, lst_bs, ← intercalate_dot]; rfl)
  have ha : ∀ W : World, (Op.stringOp .add (bs (Lib.join ls [46])) ⟨#[46]⟩).run Try.prog W = .ok (.string (bs (Lib.join ls [46]) ++ ⟨#[46]⟩)) W := fun W => run_string_add_sum W _ _ (by rw [bs_size]; show _ + 1 ≤ _; omega)
  have hcall : Calls Try.prog 70 #[.slice A ls.length c, .string ⟨#[46]⟩] w fun e w' => e = .returned (.string (bs (Lib.join ls [46]))) ∧ Below w.heap.size w w' := by
    rcases Nat.eq_zero_or_pos ls.length with h0 | h0
    · obtain rfl := List.eq_nil_of_length_eq_zero h0
      exact (Try.strings_Join_none A c ⟨#[46]⟩ w).mono fun e w' ⟨he, hw⟩ => ⟨he, hw ▸ Below.refl _ _⟩
    · obtain ⟨g, o, rfl, hg⟩ := hA h0
      obtain ⟨ad, e1, hb, hcell⟩ := hr.2 h0
      injection e1 with e1
      subst e1
      have hm : (ls.map bs).map (·.data.toList) = ls := by
        rw [List.map_map]
        conv => rhs; rw [← List.map_id ls]
        rfl
      have := Try.strings_Join g o c (ls.map bs) ⟨#[46]⟩ w (fun j x hx => by
        have h2 := hcell j (.string x) (by rw [List.getElem?_map] at hx ⊢; cases hl : ls[j]? with
                                           | none => rw [hl] at hx; cases hx
                                           | some l => rw [hl] at hx; simp at hx; subst hx; rfl)
        have e2 : (⟨g, o, none⟩ : Addr).add j = ⟨g, o + j, none⟩ := by unfold Addr.add; split <;> simp_all
        rwa [e2] at h2) hg (by simp; omega) (by simpa using hc) (by rw [hm]; show (Lib.join ls [46]).length ≤ _; omega)
      rw [List.length_map, hm] at this
      exact this
  have HC := hid hcall
  clear hcall hA hj
  go_enter Try.func51, Try.ntmps51
  go_wp2_with fail
  refine HC.out.mono ?_
  rintro e w1 ⟨rfl, hb1⟩
  go_wp2_with fail
  go_ret
  exact ⟨ret_str hfin.out, hb1⟩

theorem join_bound {ls : List Z.Str} (h8 : ls.length ≤ 8) (hl : Z.okLabs ls = true) : (Z.join ls).length ≤ 67108864 := by
  have h1 := join_le ls
  have h2 : (Z.joined ls).length ≤ 11 * ls.length := by
    have hp := Z.okLabs_pos hl
    clear h1 h8 hl
    induction ls with
    | nil => simp [Z.joined]
    | cons a r ih =>
      have h3 := hp a (by simp)
      have h4 := ih (fun l hl => hp l (by simp [hl]))
      rw [Z.joined_cons]
      simp
      omega
  omega

set_option maxHeartbeats 400000 in
theorem iNameOf_any (ls : List Z.Str) (B : Nat) (A : Option Addr) (n c : Nat) (w : World) (hr : Reads w B A n (ls.map sv)) (hB : B ≤ w.heap.size) (hA : 0 < n → Plain w A) (hc : n ≤ c) (hn : ls.length ≤ 67108864) (hl : ∀ l ∈ ls, l.length ≤ 67108864) :
    Calls Try.prog 21 #[.slice A n c] w fun e w' => e = .returned (rOpt (Z.nameOf ls)) ∧ Below w.heap.size w w' := by
  by_cases hok : (Z.okLabs ls && decide (ls.length ≤ 8)) = true
  · have h8 : ls.length ≤ 8 ∧ Z.okLabs ls = true := by simp at hok; exact ⟨hok.2, hok.1⟩
    have hjl := join_bound h8.1 h8.2
    have HOK := hid hok
    have HL := hid hl
    have HA := hid hA
    by_cases h60 : (bs (Z.join ls)).size ≤ 60
    · have hfin : Hid (Z.nameOf ls = some (lst (bs (Z.join ls)))) := hid (by rw [lst_bs]; rw [bs_size] at h60; unfold Z.nameOf; rw [if_pos]; simp [h8, h60])
      clear hok h8 hl hA
      go_enter Try.func21, Try.ntmps21
      go_wp2_with fail
      refine (labelsValid_any ls B A n c w hr hB hn HL.out).mono ?_
      rintro e w1 ⟨rfl, hb1⟩
      rw [HOK.out]
      have hr1 := hr.below hb1 hB
      have HA1 : Hid (0 < n → Plain w1 A) := hid (fun h => by obtain ⟨g, o, e1, hg⟩ := HA.out h; exact ⟨g, o, e1, by have := hb1.size; omega⟩)
      go_wp2_with fail
      refine (joinLabels_any ls B A n c w1 hr1 HA1.out hc hn hjl).mono ?_
      rintro e w2 ⟨rfl, hb2⟩
      go_wp2_with fail
      go_ret2
      exact ⟨rOpt_some hfin.out, below2 hb1 hb2⟩
    · have hfin : Hid (Z.nameOf ls = none) := hid (by rw [bs_size] at h60; unfold Z.nameOf; rw [if_neg]; simp; omega)
      clear hok h8 hl hA
      go_enter Try.func21, Try.ntmps21
      go_wp2_with fail
      refine (labelsValid_any ls B A n c w hr hB hn HL.out).mono ?_
      rintro e w1 ⟨rfl, hb1⟩
      rw [HOK.out]
      have hr1 := hr.below hb1 hB
      have HA1 : Hid (0 < n → Plain w1 A) := hid (fun h => by obtain ⟨g, o, e1, hg⟩ := HA.out h; exact ⟨g, o, e1, by have := hb1.size; omega⟩)
      go_wp2_with fail
      refine (joinLabels_any ls B A n c w1 hr1 HA1.out hc hn hjl).mono ?_
      rintro e w2 ⟨rfl, hb2⟩
      go_wp2_with fail
      go_ret2
      exact ⟨rOpt_none hfin.out, below2 hb1 hb2⟩
  · have hok' : (Z.okLabs ls && decide (ls.length ≤ 8)) = false := by simpa using hok
    have hfin : Hid (Z.nameOf ls = none) := hid (by unfold Z.nameOf; rw [Bool.and_comm (decide _), hok']; rfl)
    have HOK := hid hok'
    have HL := hid hl
    clear hok hok' hl hA
    go_enter Try.func21, Try.ntmps21
    go_wp2_with fail
    refine (labelsValid_any ls B A n c w hr hB hn HL.out).mono ?_
    rintro e w1 ⟨rfl, hb1⟩
    rw [HOK.out]
    go_wp2_with fail
    go_ret2
    exact ⟨rOpt_none hfin.out, hb1⟩
end Go.Proofs.Ytgieklfpdlkmjaa
