/- What the functions of the program's chapter 1 return: being below, the order, parents, wildcards, common tops. -/
import Derived.Test.YtaiijnaockbahaaO
namespace Go.Proofs.Ytaiijnaockbahaa
open Go.RowKit
set_option maxRecDepth 100000

theorem labels_valid {s : Z.Str} (h : Z.valid s = true) : Z.labels s = Z.labs s := by unfold Z.labels; rw [if_pos h]
theorem labels_count (s : ByteArray) : (Z.labels (lst s)).length ≤ 60 := by
  unfold Z.labels
  split
  · rename_i h
    have h1 := Z.labs_count (lst s)
    have h2 := (Z.valid_len h).2
    omega
  · simp
theorem suffix_ends (x y : List Z.Str) : ((Z.sameEnds x y : Int) == (y.length : Int)) = y.isSuffixOf x := by
  rw [Bool.eq_iff_iff, List.isSuffixOf_iff_suffix]
  have h1 := Z.sameEnds_le y x
  have h2 := Z.drop_suffix_iff y x 0 (Nat.zero_le _)
  simp only [List.drop_zero, Nat.sub_zero] at h2
  rw [h2, Z.sameEnds_comm x y]
  simp
  omega

theorem before_ends {x y : List Z.Str} : (Z.sameEnds x y = x.length ∨ Z.sameEnds x y = y.length → Z.ltRev x.reverse y.reverse = decide (x.length < y.length)) ∧
    (Z.sameEnds x y ≠ x.length → Z.sameEnds x y ≠ y.length → Z.ltRev x.reverse y.reverse = decide (rget x (Z.sameEnds x y) < rget y (Z.sameEnds x y)) ∧ Z.sameEnds x y < x.length ∧ Z.sameEnds x y < y.length) := by
  have key : ∀ k : Nat, k ≤ Z.sameEnds x y → EndsSame x y k ∧ ComSame x y k := by
    intro k
    induction k with
    | zero => exact fun _ => ⟨endsSame_start _ _, comSame_start _ _⟩
    | succ k ih =>
      intro hk
      obtain ⟨h1, h2⟩ := ih (by omega)
      have l1 := Z.sameEnds_le x y
      have l2 := Z.sameEnds_le y x
      rw [Z.sameEnds_comm] at l2
      by_cases e : rget x k = rget y k
      · exact ⟨endsSame_next h1 (by omega) (by omega) e, comSame_next h2 (by omega) (by omega) e⟩
      · have := comSame_ne h2 (by omega) (by omega) e
        omega
  have l1 := Z.sameEnds_le x y
  have l2 := Z.sameEnds_le y x
  rw [Z.sameEnds_comm] at l2
  obtain ⟨h1, h2⟩ := key _ (Nat.le_refl _)
  refine ⟨fun h => endsSame_end h1 l1 l2 h, fun hx hy => ⟨?_, by omega, by omega⟩⟩
  by_cases e : rget x (Z.sameEnds x y) = rget y (Z.sameEnds x y)
  · have h3 := comSame_next h2 (by omega) (by omega) e
    unfold ComSame at h3
    omega
  · exact endsSame_ne h1 (by omega) (by omega) e

set_option maxHeartbeats 1000000 in
theorem iNameBefore_any (s t : ByteArray) (hs : s.size ≤ maxLen) (ht : t.size ≤ maxLen) (w : World) :
    Calls Try.prog 15 #[.string s, .string t] w fun e w' => e = .returned (.bool (Z.before (lst s) (lst t))) ∧ Below w.heap.size w w' := by
  have hc1 := labels_count s
  have hc2 := labels_count t
  by_cases hv : Z.valid (lst s) = true
  · by_cases hv2 : Z.valid (lst t) = true
    · have hfin : Hid (Z.before (lst s) (lst t) = Z.ltRev (Z.labels (lst s)).reverse (Z.labels (lst t)).reverse) := hid (by rw [labels_valid hv, labels_valid hv2]; unfold Z.before; rw [hv, hv2]; simp)
      have hends := hid (@before_ends (Z.labels (lst s)) (Z.labels (lst t)))
      have l1 := Z.sameEnds_le (Z.labels (lst s)) (Z.labels (lst t))
      have l2 := Z.sameEnds_le (Z.labels (lst t)) (Z.labels (lst s))
      rw [Z.sameEnds_comm] at l2
      go_enter Try.func15, Try.ntmps15
      go_wp2_with fail
      refine (splitName_any s hs _).mono ?_
      rintro e w1 ⟨A, c, rfl, hown1, hb1⟩
      go_wp2_with fail
      refine (splitName_any t ht _).mono ?_
      rintro e w2 ⟨A2, c2, rfl, hown2, hb2⟩
      have hr1 := (Reads.of_own hown1).below hb2 (Nat.le_refl _)
      have hr2 := Reads.of_own hown2
      have hbb := below2 hb1 hb2
      go_wp2_with fail
      refine (commonEnd_any (Z.labels (lst s)) (Z.labels (lst t)) _ A A2 _ _ c c2 w2 (hr1.more hb2.size) hr2 (by omega) (by omega)).mono ?_
      rintro e w3 ⟨rfl, q, rfl⟩
      obtain ⟨k, hk⟩ : ∃ k, k = Z.sameEnds (Z.labels (lst s)) (Z.labels (lst t)) := ⟨_, rfl⟩
      have HK := hid hk.symm
      rw [← hk] at l1 l2
      clear hk
      rw [HK.out]
      by_cases e1 : k = (Z.labels (lst s)).length
      · have t1 : ((k : Int) == ((Z.labels (lst s)).length : Int)) = true := by simp; omega
        have hlt := hid (hends.out.1 (by rw [HK.out]; exact Or.inl e1))
        clear e1
        go_wp2_with fail
        go_ret
        exact ⟨ret_bool (by rw [hfin.out, hlt.out]), below_drewN hbb _⟩
      · by_cases e2 : k = (Z.labels (lst t)).length
        · have t1 : ((k : Int) == ((Z.labels (lst s)).length : Int)) = false := by simp; omega
          have t2 : ((k : Int) == ((Z.labels (lst t)).length : Int)) = true := by simp; omega
          have hlt := hid (hends.out.1 (by rw [HK.out]; exact Or.inr e2))
          clear e1 e2
          go_wp2_with fail
          go_ret
          exact ⟨ret_bool (by rw [hfin.out, hlt.out]), below_drewN hbb _⟩
        · have t1 : ((k : Int) == ((Z.labels (lst s)).length : Int)) = false := by simp; omega
          have t2 : ((k : Int) == ((Z.labels (lst t)).length : Int)) = false := by simp; omega
          obtain ⟨hlt, hk1, hk2⟩ := hends.out.2 (by rw [HK.out]; exact e1) (by rw [HK.out]; exact e2)
          rw [HK.out] at hlt hk1 hk2
          have HLT := hid hlt
          obtain ⟨ad1, x, rfl, hab1, hx2, hcell1⟩ := reads_end hr1 hk1
          obtain ⟨ad2, y, rfl, hab2, hy2, hcell2⟩ := reads_end hr2 hk2
          have Hx := hid hx2
          have Hy := hid hy2
          clear hx2 hy2 hlt
          have p1 : 0 ≤ ((Z.labels (lst s)).length : Int) - 1 - k := by omega
          have p2 : 0 ≤ ((Z.labels (lst t)).length : Int) - 1 - k := by omega
          have q1 : ((Z.labels (lst s)).length : Int) - 1 - k < (Z.labels (lst s)).length := by omega
          have q2 : ((Z.labels (lst t)).length : Int) - 1 - k < (Z.labels (lst t)).length := by omega
          have g1 : IntKind.i64.wrap (((Z.labels (lst s)).length : Int) - 1) = ((Z.labels (lst s)).length : Int) - 1 := IntWalk.i64_in _ (by omega)
          have g2 : IntKind.i64.wrap (((Z.labels (lst s)).length : Int) - 1 - k) = ((Z.labels (lst s)).length : Int) - 1 - k := IntWalk.i64_in _ (by omega)
          have g3 : IntKind.i64.wrap (((Z.labels (lst t)).length : Int) - 1) = ((Z.labels (lst t)).length : Int) - 1 := IntWalk.i64_in _ (by omega)
          have g4 : IntKind.i64.wrap (((Z.labels (lst t)).length : Int) - 1 - k) = ((Z.labels (lst t)).length : Int) - 1 - k := IntWalk.i64_in _ (by omega)
          have f1 : (((Z.labels (lst s)).length : Int) - 1 - k).toNat = (Z.labels (lst s)).length - (k + 1) := by omega
          have f2 : (((Z.labels (lst t)).length : Int) - 1 - k).toNat = (Z.labels (lst t)).length - (k + 1) := by omega
          go_wp2_with fail
          go_quiet (fail)
          clear g1 g2 g3 g4 f1 f2 p1 p2 q1 q2
          go_wp2_with fail
          go_ret
          refine ⟨ret_bool ?_, by repeat (first | exact hbb | refine below_drewN ?_ _)⟩
          rw [hfin.out, HLT.out, bytesLess_lt, toList_lst, toList_lst, ← Hx.out, ← Hy.out]
    · have hv2' : Z.valid (lst t) = false := by simpa using hv2
      have hfin : Hid (Z.before (lst s) (lst t) = false) := hid (by unfold Z.before; rw [hv2']; simp)
      clear hv2
      go_enter Try.func15, Try.ntmps15
      go_wp2_with fail
      refine (splitName_any s hs _).mono ?_
      rintro e w1 ⟨A, c, rfl, hown1, hb1⟩
      go_wp2_with fail
      refine (splitName_any t ht _).mono ?_
      rintro e w2 ⟨A2, c2, rfl, hown2, hb2⟩
      have hr1 := (Reads.of_own hown1).below hb2 (Nat.le_refl _)
      have hr2 := Reads.of_own hown2
      have hbb := below2 hb1 hb2
      go_wp2_with fail
      go_ret
      exact ⟨ret_bool hfin.out.symm, hbb⟩
  · have hv' : Z.valid (lst s) = false := by simpa using hv
    have hfin : Hid (Z.before (lst s) (lst t) = false) := hid (by unfold Z.before; rw [hv']; simp)
    clear hv
    go_enter Try.func15, Try.ntmps15
    go_wp2_with fail
    refine (splitName_any s hs _).mono ?_
    rintro e w1 ⟨A, c, rfl, hown1, hb1⟩
    go_wp2_with fail
    refine (splitName_any t ht _).mono ?_
    rintro e w2 ⟨A2, c2, rfl, hown2, hb2⟩
    have hr1 := (Reads.of_own hown1).below hb2 (Nat.le_refl _)
    have hr2 := Reads.of_own hown2
    have hbb := below2 hb1 hb2
    go_wp2_with fail
    go_ret
    exact ⟨ret_bool hfin.out.symm, hbb⟩
end Go.Proofs.Ytaiijnaockbahaa
