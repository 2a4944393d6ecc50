/- What the functions of the model's chapter 1 return: names that are read below an origin. -/
import Derived.Test.YtgieklfpdlkmjabT
namespace Go.Proofs.Ytgieklfpdlkmjab
open Go.RowKit

theorem empty_iff (s : ByteArray) : s.toList.isEmpty = decide (lst s = []) := by rw [toList_lst, Bool.eq_iff_iff]; simp

/-- The two ways behind the text of the name. -/
theorem readName_ends {t o x : ByteArray} (hv : Z.valid (lst o) = true) (he : t.toList.isEmpty = false) (h60 : t.size ≤ 60) (hf : Z.fullText (lst t) (lst o) = lst x) :
    (Z.valid (lst x) = true → Z.readName (lst t) (lst o) = some (lst x)) ∧ (Z.valid (lst x) = false → Z.readName (lst t) (lst o) = none) := by
  have hne : lst t ≠ [] := by rw [empty_iff] at he; simpa using he
  have := readName_of hv hne (by rw [lst_length]; exact h60) hf
  rw [this]
  exact ⟨fun h => by rw [if_pos h], fun h => by rw [h]; simp⟩

theorem index_last (t : ByteArray) (he : t.toList.isEmpty = false) : 1 ≤ t.size := by
  rw [empty_iff] at he
  have : lst t ≠ [] := by simpa using he
  rw [← lst_length]
  exact List.length_pos_iff.2 this

set_option maxHeartbeats 400000 in
theorem ReadName_at (t o : ByteArray) (h60 : t.size ≤ 60) (ho : o.size ≤ 67108864) (hv : Z.valid (lst o) = true) (ho2 : o.size ≤ 60) (he : t.toList.isEmpty = false) (hat : lst t = [64]) (w : World) :
    Calls Try.prog 35 #[.string t, .string o] w fun e w' => e = .returned (rOpt (Z.readName (lst t) (lst o))) ∧ Below w.heap.size w w' := by
  have hends := readName_ends (x := o) hv he h60 (by unfold Z.fullText; rw [if_pos hat])
  have h1 : (t.toList == [64]) = true := by rw [toList_lst]; simpa using hat
  clear hat
  have hfin := hid (hends.1 hv)
  clear hends
  go_enter Try.func35, Try.ntmps35
  go_wp2_with fail
  refine (NameValid_any o (by unfold maxLen; omega) _).mono ?_
  rintro e w1 ⟨rfl, hb1⟩
  go_wp2_with fail
  refine (l1Lower_any t (by omega) _).mono ?_
  rintro e w2 ⟨rfl, hb2⟩
  go_wp2_with fail
  refine (NameValid_any (o) (by unfold maxLen; omega) _).mono ?_
  rintro e w3 ⟨rfl, hb3⟩
  go_wp2_with fail
  go_ret2
  exact ⟨rOpt_some hfin.out, below2 hb1 (below2 hb2 hb3)⟩

set_option maxHeartbeats 400000 in
theorem ReadName_dot (t o : ByteArray) (h60 : t.size ≤ 60) (ho : o.size ≤ 67108864) (hv : Z.valid (lst o) = true) (ho2 : o.size ≤ 60) (he : t.toList.isEmpty = false) (hat : lst t ≠ [64]) (hl : (lst t).getLast? = some 46) (w : World) :
    Calls Try.prog 35 #[.string t, .string o] w fun e w' => e = .returned (rOpt (Z.readName (lst t) (lst o))) ∧ Below w.heap.size w w' := by
  have hends := readName_ends (x := bs (Z.lower (lst t))) hv he h60 (by unfold Z.fullText; rw [if_neg hat, if_pos hl]; rfl)
  have h1 : (t.toList == [64]) = false := by rw [toList_lst]; simpa using hat
  have hsz := index_last t he
  have hlast : ((t[t.size - 1].toNat : Int) != 46) = false := by
    have := last_iff t hsz
    rw [hl] at this
    have h2 : t[t.size - 1] = 46 := by simpa using this
    rw [h2]; rfl
  have hbz : (bs (Z.lower (lst t))).size ≤ 60 := by rw [bs_size, Z.lower_length, lst_length]; exact h60
  clear hat hl
  by_cases hx : Z.valid (lst (bs (Z.lower (lst t)))) = true
  · have hfin := hid (hends.1 hx)
    clear hends
    go_enter Try.func35, Try.ntmps35
    go_wp2_with fail
    refine (NameValid_any o (by unfold maxLen; omega) _).mono ?_
    rintro e w1 ⟨rfl, hb1⟩
    go_wp2_with fail
    refine (l1Lower_any t (by omega) _).mono ?_
    rintro e w2 ⟨rfl, hb2⟩
    go_wp2_with fail
    refine (NameValid_any ((bs (Z.lower (lst t)))) (by unfold maxLen; omega) _).mono ?_
    rintro e w3 ⟨rfl, hb3⟩
    go_wp2_with fail
    go_ret2
    exact ⟨rOpt_some hfin.out, below2 hb1 (below2 hb2 hb3)⟩
  · have hx' : Z.valid (lst (bs (Z.lower (lst t)))) = false := by simpa using hx
    have hfin := hid (hends.2 hx')
    clear hx
    clear hends
    go_enter Try.func35, Try.ntmps35
    go_wp2_with fail
    refine (NameValid_any o (by unfold maxLen; omega) _).mono ?_
    rintro e w1 ⟨rfl, hb1⟩
    go_wp2_with fail
    refine (l1Lower_any t (by omega) _).mono ?_
    rintro e w2 ⟨rfl, hb2⟩
    go_wp2_with fail
    refine (NameValid_any ((bs (Z.lower (lst t)))) (by unfold maxLen; omega) _).mono ?_
    rintro e w3 ⟨rfl, hb3⟩
    go_wp2_with fail
    go_ret2
    exact ⟨rOpt_none hfin.out, below2 hb1 (below2 hb2 hb3)⟩

set_option maxHeartbeats 400000 in
theorem ReadName_rest (t o : ByteArray) (h60 : t.size ≤ 60) (ho : o.size ≤ 67108864) (hv : Z.valid (lst o) = true) (ho2 : o.size ≤ 60) (he : t.toList.isEmpty = false) (hat : lst t ≠ [64]) (hl : (lst t).getLast? ≠ some 46) (w : World) :
    Calls Try.prog 35 #[.string t, .string o] w fun e w' => e = .returned (rOpt (Z.readName (lst t) (lst o))) ∧ Below w.heap.size w w' := by
  have hends := readName_ends (x := bs (belowText (lst (bs (Z.lower (lst t)))) (lst o))) hv he h60 (by unfold Z.fullText belowText; rw [if_neg hat, if_neg hl]; rfl)
  have h1 : (t.toList == [64]) = false := by rw [toList_lst]; simpa using hat
  have hsz := index_last t he
  have hlast : ((t[t.size - 1].toNat : Int) != 46) = true := by
    have := last_iff t hsz
    rw [bne_iff_ne]
    intro e
    have h2 : t[t.size - 1] = 46 := by rw [← UInt8.toNat_inj]; simp; omega
    rw [h2] at this
    simp at this
    exact hl this
  have hbz : (bs (Z.lower (lst t))).size ≤ 60 := by rw [bs_size, Z.lower_length, lst_length]; exact h60
  have hbz2 : (bs (belowText (lst (bs (Z.lower (lst t)))) (lst o))).size ≤ 121 := by
    rw [bs_size]
    unfold belowText
    rw [lst_bs]
    split
    · simp [Z.lower_length, lst_length]; omega
    · simp [Z.lower_length, lst_length]; omega
  clear hat hl
  by_cases hx : Z.valid (lst (bs (belowText (lst (bs (Z.lower (lst t)))) (lst o)))) = true
  · have hfin := hid (hends.1 hx)
    clear hends
    go_enter Try.func35, Try.ntmps35
    go_wp2_with fail
    refine (NameValid_any o (by unfold maxLen; omega) _).mono ?_
    rintro e w1 ⟨rfl, hb1⟩
    go_wp2_with fail
    refine (l1Lower_any t (by omega) _).mono ?_
    rintro e w2 ⟨rfl, hb2⟩
    go_wp2_with fail
    refine (l1Below_any (bs (Z.lower (lst t))) o (by omega) (by omega) _).mono ?_
    rintro e w9 ⟨rfl, rfl⟩
    go_wp2_with fail
    refine (NameValid_any ((bs (belowText (lst (bs (Z.lower (lst t)))) (lst o)))) (by unfold maxLen; omega) _).mono ?_
    rintro e w3 ⟨rfl, hb3⟩
    go_wp2_with fail
    go_ret2
    exact ⟨rOpt_some hfin.out, below2 hb1 (below2 hb2 hb3)⟩
  · have hx' : Z.valid (lst (bs (belowText (lst (bs (Z.lower (lst t)))) (lst o)))) = false := by simpa using hx
    have hfin := hid (hends.2 hx')
    clear hx
    clear hends
    go_enter Try.func35, Try.ntmps35
    go_wp2_with fail
    refine (NameValid_any o (by unfold maxLen; omega) _).mono ?_
    rintro e w1 ⟨rfl, hb1⟩
    go_wp2_with fail
    refine (l1Lower_any t (by omega) _).mono ?_
    rintro e w2 ⟨rfl, hb2⟩
    go_wp2_with fail
    refine (l1Below_any (bs (Z.lower (lst t))) o (by omega) (by omega) _).mono ?_
    rintro e w9 ⟨rfl, rfl⟩
    go_wp2_with fail
    refine (NameValid_any ((bs (belowText (lst (bs (Z.lower (lst t)))) (lst o)))) (by unfold maxLen; omega) _).mono ?_
    rintro e w3 ⟨rfl, hb3⟩
    go_wp2_with fail
    go_ret2
    exact ⟨rOpt_none hfin.out, below2 hb1 (below2 hb2 hb3)⟩

set_option maxHeartbeats 400000 in
theorem ReadName_any (t o : ByteArray) (ht : t.size ≤ 67108864) (ho : o.size ≤ 67108864) (w : World) :
    Calls Try.prog 35 #[.string t, .string o] w fun e w' => e = .returned (rOpt (Z.readName (lst t) (lst o))) ∧ Below w.heap.size w w' := by
  by_cases hv : Z.valid (lst o) = true
  · by_cases he : t.toList.isEmpty = true
    · have hfin : Hid (Z.readName (lst t) (lst o) = none) := hid (by
        have : lst t = [] := by rw [empty_iff] at he; simpa using he
        unfold Z.readName; rw [this]; simp)
      go_enter Try.func35, Try.ntmps35
      go_wp2_with fail
      refine (NameValid_any o (by unfold maxLen; omega) _).mono ?_
      rintro e w1 ⟨rfl, hb1⟩
      go_wp2_with fail
      go_ret2
      exact ⟨rOpt_none hfin.out, hb1⟩
    · have he' : t.toList.isEmpty = false := by simpa using he
      clear he
      by_cases h60 : t.size ≤ 60
      · have ho2 : o.size ≤ 60 := by have := Z.valid_len hv; rw [lst_length] at this; exact this.2
        by_cases hat : lst t = [64]
        · exact ReadName_at t o h60 ho hv ho2 he' hat w
        · by_cases hl : (lst t).getLast? = some 46
          · exact ReadName_dot t o h60 ho hv ho2 he' hat hl w
          · exact ReadName_rest t o h60 ho hv ho2 he' hat hl w
      · have hfin : Hid (Z.readName (lst t) (lst o) = none) := hid (by unfold Z.readName; rw [lst_length]; simp [h60])
        go_enter Try.func35, Try.ntmps35
        go_wp2_with fail
        refine (NameValid_any o (by unfold maxLen; omega) _).mono ?_
        rintro e w1 ⟨rfl, hb1⟩
        go_wp2_with fail
        go_ret2
        exact ⟨rOpt_none hfin.out, hb1⟩
  · have hv' : Z.valid (lst o) = false := by simpa using hv
    have hfin : Hid (Z.readName (lst t) (lst o) = none) := hid (by unfold Z.readName; simp [hv'])
    clear hv
    go_enter Try.func35, Try.ntmps35
    go_wp2_with fail
    refine (NameValid_any o (by unfold maxLen; omega) _).mono ?_
    rintro e w1 ⟨rfl, hb1⟩
    go_wp2_with fail
    go_ret2
    exact ⟨rOpt_none hfin.out, hb1⟩
end Go.Proofs.Ytgieklfpdlkmjab
