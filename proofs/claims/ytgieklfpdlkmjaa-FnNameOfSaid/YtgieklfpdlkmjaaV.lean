/- What the functions of the model's chapter 1 return: being below, short names and the order. -/
import Derived.Test.YtgieklfpdlkmjaaU
namespace Go.Proofs.Ytgieklfpdlkmjaa
open Go.RowKit

theorem suffix_iff (x y : List Z.Str) (h : y.length ≤ x.length) : y <:+ x ↔ ∀ j, j < y.length → x.getD (x.length - y.length + j) [] = y.getD j [] := by
  constructor
  · rintro ⟨p, rfl⟩ j hj
    have e : (p ++ y).length - y.length + j = p.length + j := by rw [List.length_append]; omega
    rw [e]
    simp [List.getD_eq_getElem?_getD, List.getElem?_append_right]
  · intro hh
    refine ⟨x.take (x.length - y.length), ?_⟩
    have : y = x.drop (x.length - y.length) := by
      apply List.ext_getElem
      · rw [List.length_drop]; omega
      · intro j h1 h2
        have := hh j h1
        rw [List.getElem_drop]
        have hj : x.length - y.length + j < x.length := by omega
        simpa [h1, hj] using this.symm
    conv => lhs; rhs; rw [this]
    exact List.take_append_drop _ _

def SameTo (x y : List Z.Str) (d k : Nat) : Prop := ∀ j, j < k → x.getD (d + j) [] = y.getD j []

set_option maxHeartbeats 400000 in
theorem l1Ends_any (s t : ByteArray) (hs : s.size ≤ 67108864) (ht : t.size ≤ 67108864) (w : World) :
    Calls Try.prog 63 #[.string s, .string t] w fun e w' => ∃ m : Int, e = .returned (.int .i64 m) ∧ Hid ((Z.labs (lst t) <:+ Z.labs (lst s) → m = (Z.labs (lst s)).length - (Z.labs (lst t)).length) ∧ (¬ Z.labs (lst t) <:+ Z.labs (lst s) → m < 0)) ∧ Below w.heap.size w w' := by
  have hx := Z.labs_count (lst s)
  have hy := Z.labs_count (lst t)
  rw [lst_length] at hx hy
  by_cases hd : (Z.labs (lst t)).length ≤ (Z.labs (lst s)).length
  · go_enter Try.func63, Try.ntmps63
    go_wp2_with fail
    refine (l1Labels_any s hs _).mono ?_
    rintro e w1 ⟨A, c, rfl, hown1, hb1⟩
    go_wp2_with fail
    refine (l1Labels_any t ht _).mono ?_
    rintro e w2 ⟨A2, c2, rfl, hown2, hb2⟩
    have hr1 := (Reads.of_own hown1).below hb2 (Nat.le_refl _)
    have hr2 := Reads.of_own hown2
    have hbb := below2 hb1 hb2
    go_wp2_with fail
    go_loopw [8] (fun i wr => ∃ (k nq : Nat), k ≤ (Z.labs (lst t)).length ∧ i = .int .i64 k ∧ wr = w2.drewN nq ∧ Hid (SameTo (Z.labs (lst s)) (Z.labs (lst t)) ((Z.labs (lst s)).length - (Z.labs (lst t)).length) k)) (fun i _ => (Z.labs (lst t)).length - (intOf i).toNat)
    case atStart => exact ⟨0, 0, Nat.zero_le _, rfl, rfl, hid (fun j hj => absurd hj (by omega))⟩
    case round =>
      obtain ⟨k, nq, hk, rfl, rfl, hok⟩ := hrel
      by_cases hlt : k < (Z.labs (lst t)).length
      · obtain ⟨ad2, y, rfl, hab2, hy2, hcell2⟩ := reads_str hr2 hlt
        obtain ⟨ad1, x, rfl, hab1, hx2, hcell1⟩ := reads_str (k := (Z.labs (lst s)).length - (Z.labs (lst t)).length + k) hr1 (by omega)
        have Hx := hid hx2
        have Hy := hid hy2
        clear hx2 hy2
        go_wp2_with fail
        go_quiet (fail)
        go_wp2
        · have hne : (!x.toList == y.toList) = true := by assumption
          go_ret
          refine ⟨_, rfl, hid ⟨fun hsuf => ?_, fun _ => by decide⟩, by repeat (first | exact hbb | refine below_drewN ?_ _)⟩
          have := (suffix_iff _ _ hd).1 hsuf k hlt
          rw [← Hx.out, ← Hy.out] at this
          rw [toList_lst, toList_lst] at hne
          simp [this] at hne
        · have heq : (!x.toList == y.toList) = false := by assumption
          refine ⟨⟨k + 1, _, by omega, by go_num, rfl, hid fun j hj => ?_⟩, by simp [intOf]; omega⟩
          rcases Nat.lt_or_ge j k with h1 | h1
          · exact hok.out j h1
          · obtain rfl : j = k := by omega
            rw [← Hx.out, ← Hy.out]
            rw [toList_lst, toList_lst] at heq
            simpa using heq
      · have hks : k = (Z.labs (lst t)).length := by omega
        have hsuf : Hid (Z.labs (lst t) <:+ Z.labs (lst s)) := hid ((suffix_iff _ _ hd).2 (by have := hok.out; rw [hks] at this; exact this))
        clear hks
        go_wp2
        go_ret
        exact ⟨_, rfl, hid ⟨fun _ => rfl, fun h => absurd hsuf.out h⟩, by repeat (first | exact hbb | refine below_drewN ?_ _)⟩
  · have hns : Hid (¬ Z.labs (lst t) <:+ Z.labs (lst s)) := hid (fun h => hd h.length_le)
    go_enter Try.func63, Try.ntmps63
    go_wp2_with fail
    refine (l1Labels_any s hs _).mono ?_
    rintro e w1 ⟨A, c, rfl, hown1, hb1⟩
    go_wp2_with fail
    refine (l1Labels_any t ht _).mono ?_
    rintro e w2 ⟨A2, c2, rfl, hown2, hb2⟩
    have hbb := below2 hb1 hb2
    go_wp2_with fail
    go_loop [8] (fun i => i = .int .i64 0) (fun _ => 0)
    case atStart => rfl
    case round =>
      subst hrel
      go_wp2
      all_goals go_ret
      all_goals exact ⟨_, rfl, hid ⟨fun h => absurd h hns.out, fun _ => by omega⟩, hbb⟩

theorem endsNonneg {s t : ByteArray} {m : Int} (h : Hid ((Z.labs (lst t) <:+ Z.labs (lst s) → m = (Z.labs (lst s)).length - (Z.labs (lst t)).length) ∧ (¬ Z.labs (lst t) <:+ Z.labs (lst s) → m < 0))) :
    decide (0 ≤ m) = (Z.labs (lst t)).isSuffixOf (Z.labs (lst s)) := by
  by_cases hs : Z.labs (lst t) <:+ Z.labs (lst s)
  · have h1 := h.out.1 hs
    have h2 := hs.length_le
    rw [List.isSuffixOf_iff_suffix.2 hs]
    simp; omega
  · have h1 := h.out.2 hs
    have : (Z.labs (lst t)).isSuffixOf (Z.labs (lst s)) = false := by
      rw [Bool.eq_false_iff]; exact fun e => hs (List.isSuffixOf_iff_suffix.1 e)
    rw [this]
    simp; omega

set_option maxHeartbeats 400000 in
theorem IsBelow_any (s t : ByteArray) (hs : s.size ≤ 67108864) (ht : t.size ≤ 67108864) (w : World) :
    Calls Try.prog 35 #[.string s, .string t] w fun e w' => e = .returned (.bool (Z.below (lst s) (lst t))) ∧ Below w.heap.size w w' := by
  by_cases hv : Z.valid (lst s) = true
  · by_cases hv2 : Z.valid (lst t) = true
    · have hfin : Hid (Z.below (lst s) (lst t) = (Z.labs (lst t)).isSuffixOf (Z.labs (lst s))) := hid (by unfold Z.below; rw [hv, hv2]; simp)
      go_enter Try.func35, Try.ntmps35
      go_wp2_with fail
      refine (NameValid_any s (by unfold maxLen; omega) _).mono ?_
      rintro e w1 ⟨rfl, hb1⟩
      go_wp2_with fail
      refine (NameValid_any t (by unfold maxLen; omega) _).mono ?_
      rintro e w2 ⟨rfl, hb2⟩
      go_wp2_with fail
      refine (l1Ends_any s t hs ht _).mono ?_
      rintro e w3 ⟨m, rfl, hm, hb3⟩
      have hdec := hid (endsNonneg hm)
      by_cases hm0 : 0 ≤ m
      all_goals
        go_wp2
        go_ret
        refine ⟨ret_bool ?_, below2 hb1 (below2 hb2 hb3)⟩
        rw [hfin.out, ← hdec.out] <;> simp <;> omega
    · have hv2' : Z.valid (lst t) = false := by simpa using hv2
      have hfin : Hid (Z.below (lst s) (lst t) = false) := hid (by unfold Z.below; rw [hv2']; simp)
      clear hv2
      go_enter Try.func35, Try.ntmps35
      go_wp2_with fail
      refine (NameValid_any s (by unfold maxLen; omega) _).mono ?_
      rintro e w1 ⟨rfl, hb1⟩
      go_wp2_with fail
      refine (NameValid_any t (by unfold maxLen; omega) _).mono ?_
      rintro e w2 ⟨rfl, hb2⟩
      go_wp2_with fail
      go_ret
      exact ⟨ret_bool hfin.out.symm, below2 hb1 hb2⟩
  · have hv' : Z.valid (lst s) = false := by simpa using hv
    have hfin : Hid (Z.below (lst s) (lst t) = false) := hid (by unfold Z.below; rw [hv']; simp)
    clear hv
    go_enter Try.func35, Try.ntmps35
    go_wp2_with fail
    refine (NameValid_any s (by unfold maxLen; omega) _).mono ?_
    rintro e w1 ⟨rfl, hb1⟩
    go_wp2_with fail
    go_ret
    exact ⟨ret_bool hfin.out.symm, hb1⟩

theorem ends_zero {s t : ByteArray} (hv : Z.valid (lst s) = true) (hv2 : Z.valid (lst t) = true) {m : Int} (h : Hid ((Z.labs (lst t) <:+ Z.labs (lst s) → m = (Z.labs (lst s)).length - (Z.labs (lst t)).length) ∧ (¬ Z.labs (lst t) <:+ Z.labs (lst s) → m < 0))) :
    (m = 0 ↔ lst s = lst t) ∧ (m < 0 ↔ Z.below (lst s) (lst t) = false) := by
  have hb : Z.below (lst s) (lst t) = (Z.labs (lst t)).isSuffixOf (Z.labs (lst s)) := by unfold Z.below; rw [hv, hv2]; simp
  have hd := endsNonneg h
  refine ⟨⟨fun e => ?_, fun e => ?_⟩, ?_⟩
  · by_cases hs : Z.labs (lst t) <:+ Z.labs (lst s)
    · have h1 := h.out.1 hs
      exact Z.labs_inj hv hv2 (hs.eq_of_length (by omega)).symm
    · have := h.out.2 hs; omega
  · rw [e] at h
    have := h.out.1 (List.suffix_refl _)
    omega
  · rw [hb, ← hd]
    simp

set_option maxHeartbeats 400000 in
theorem ShortName_valid (s t : ByteArray) (hs : s.size ≤ 67108864) (ht : t.size ≤ 67108864) (hv : Z.valid (lst s) = true) (hv2 : Z.valid (lst t) = true) (w : World) :
    Calls Try.prog 29 #[.string s, .string t] w fun e w' => e = .returned (rOpt (Z.shortName (lst s) (lst t))) ∧ Below w.heap.size w w' := by
  have hsn : Hid (Z.shortName (lst s) (lst t) = some (if lst s = lst t then [64] else if lst t = [46] || !(Z.below (lst s) (lst t)) then lst s else (lst s).take ((lst s).length - (lst t).length - 1))) := hid (by unfold Z.shortName; rw [hv, hv2]; rfl)
  have htl := Z.valid_len hv2
  have hsl := Z.valid_len hv
  rw [lst_length] at htl hsl
  go_enter Try.func29, Try.ntmps29
  go_wp2_with fail
  refine (NameValid_any s (by unfold maxLen; omega) _).mono ?_
  rintro e w1 ⟨rfl, hb1⟩
  go_wp2_with fail
  refine (NameValid_any t (by unfold maxLen; omega) _).mono ?_
  rintro e w2 ⟨rfl, hb2⟩
  go_wp2_with fail
  refine (l1Ends_any s t hs ht _).mono ?_
  rintro e w3 ⟨m, rfl, hm, hb3⟩
  have hbb := below2 hb1 (below2 hb2 hb3)
  obtain ⟨hz, hneg⟩ := ends_zero hv hv2 hm
  have Hz := hid hz
  have Hneg := hid hneg
  clear hz hneg hb1 hb2 hb3
  by_cases h0 : m = 0
  · have he : Hid (lst s = lst t) := hid (Hz.out.1 h0)
    subst h0
    go_wp2_with fail
    go_ret2
    exact ⟨rOpt_some (by rw [hsn.out, if_pos he.out]; rfl), hbb⟩
  · have he : Hid (lst s ≠ lst t) := hid (fun e => h0 (Hz.out.2 e))
    have h0' : (m == 0) = false := by simpa using h0
    by_cases hm0 : m < 0
    · have hbel : Hid (Z.below (lst s) (lst t) = false) := hid (Hneg.out.1 hm0)
      go_wp2_with fail
      go_ret2
      exact ⟨rOpt_some (by rw [hsn.out, if_neg he.out, hbel.out]; simp), hbb⟩
    · have hbel : Hid (Z.below (lst s) (lst t) = true) := hid (by
        cases h : Z.below (lst s) (lst t) with
        | true => rfl
        | false => exact absurd (Hneg.out.2 h) hm0)
      by_cases hd : lst t = [46]
      · have h1 : (t.toList == [46]) = true := by rw [toList_lst]; simpa using hd
        have HD := hid hd
        clear hd
        go_wp2_with fail
        go_ret2
        exact ⟨rOpt_some (by rw [hsn.out, if_neg he.out, HD.out]; simp), hbb⟩
      · have h1 : (t.toList == [46]) = false := by rw [toList_lst]; simpa using hd
        obtain ⟨p, hp, _, _⟩ := Z.below_split hbel.out hd he.out
        have hsum : t.size + 1 ≤ s.size := by
          have := congrArg List.length hp
          rw [lst_length] at this
          simp [lst_length] at this
          omega
        have HD := hid hd
        clear hd hp
        go_wp2_with fail
        go_ret2
        refine ⟨rOpt_some ?_, hbb⟩
        rw [hsn.out, if_neg he.out, hbel.out, if_neg (by simpa using HD.out), lst_length, lst_length]
        congr 1
        rw [lst_extract]
        simp

set_option maxHeartbeats 400000 in
theorem ShortName_any (s t : ByteArray) (hs : s.size ≤ 67108864) (ht : t.size ≤ 67108864) (w : World) :
    Calls Try.prog 29 #[.string s, .string t] w fun e w' => e = .returned (rOpt (Z.shortName (lst s) (lst t))) ∧ Below w.heap.size w w' := by
  by_cases hv : Z.valid (lst s) = true
  · by_cases hv2 : Z.valid (lst t) = true
    · exact ShortName_valid s t hs ht hv hv2 w
    · have hv2' : Z.valid (lst t) = false := by simpa using hv2
      have hfin : Hid (Z.shortName (lst s) (lst t) = none) := hid (by unfold Z.shortName; rw [hv2']; simp)
      clear hv2
      go_enter Try.func29, Try.ntmps29
      go_wp2_with fail
      refine (NameValid_any s (by unfold maxLen; omega) _).mono ?_
      rintro e w1 ⟨rfl, hb1⟩
      go_wp2_with fail
      refine (NameValid_any t (by unfold maxLen; omega) _).mono ?_
      rintro e w2 ⟨rfl, hb2⟩
      go_wp2_with fail
      go_ret2
      exact ⟨rOpt_none hfin.out, below2 hb1 hb2⟩
  · have hv' : Z.valid (lst s) = false := by simpa using hv
    have hfin : Hid (Z.shortName (lst s) (lst t) = none) := hid (by unfold Z.shortName; rw [hv']; simp)
    clear hv
    go_enter Try.func29, Try.ntmps29
    go_wp2_with fail
    refine (NameValid_any s (by unfold maxLen; omega) _).mono ?_
    rintro e w1 ⟨rfl, hb1⟩
    go_wp2_with fail
    go_ret2
    exact ⟨rOpt_none hfin.out, hb1⟩
end Go.Proofs.Ytgieklfpdlkmjaa
