/- What the functions of the program's chapter 1 return: wildcards and common tops. -/
import Derived.Test.YtgieklfpdlkmjabQ
namespace Go.Proofs.Ytgieklfpdlkmjab
open Go.RowKit

theorem set_star {ls : List Z.Str} (h : 1 ≤ ls.length) : (ls.map sv).set 0 (.string ⟨#[42]⟩) = ([42] :: ls.tail).map sv := by
  cases ls with
  | nil => simp at h
  | cons a r => rfl
theorem own_base {w : World} {base : Nat} {e : TypeId} {g o n c : Nat} {xs : List Value} (h : w.ownsRow base e 1 (.slice (some ⟨g, o, none⟩) n c) n xs) (h1 : 1 ≤ n) : base ≤ g := by
  obtain ⟨g2, cap, hv, hb, hlt⟩ := h.form h1
  injection hv with hA
  injection hA with hA
  injection hA with hg
  omega

set_option maxHeartbeats 1000000 in
theorem iStarOf_any (s : ByteArray) (hs : s.size ≤ maxLen) (w : World) :
    Calls Try.prog 18 #[.string s] w fun e w' => e = .returned (rOpt (Z.starOf (lst s))) ∧ Below w.heap.size w w' := by
  by_cases hv : Z.valid (lst s) = true
  · by_cases hd : lst s = [46]
    · have hfin : Hid (Z.starOf (lst s) = none) := hid (by unfold Z.starOf; simp [hd])
      have hl : (Z.labels (lst s)).length = 0 := by rw [hd]; rfl
      clear hd
      go_enter Try.func18, Try.ntmps18
      go_wp2_with fail
      refine (splitName_any s hs _).mono ?_
      rintro e w1 ⟨A, c, rfl, hown1, hb1⟩
      go_wp2_with fail
      go_ret2
      exact ⟨rOpt_none hfin.out, hb1⟩
    · have hfin : Hid (Z.starOf (lst s) = some (Z.join ([42] :: (Z.labels (lst s)).tail))) := hid (by unfold Z.starOf; rw [labels_valid hv]; simp [hv, hd])
      have hne := labels_pos hv hd
      have hcl := labels_count s
      have hokl : Z.okLabs ([42] :: (Z.labels (lst s)).tail) = true := by
        have h1 := (Z.valid_iff.1 hv).2.2.2.1
        rw [labels_valid hv]
        cases hl : Z.labs (lst s) with
        | nil => rfl
        | cons a r =>
          rw [hl] at h1
          simp only [Z.okLabs, Bool.and_eq_true] at h1 ⊢
          exact ⟨by decide, h1.2⟩
      have hl8 : ([42] :: (Z.labels (lst s)).tail).length ≤ 8 := by
        have h1 := (Z.valid_iff.1 hv).2.2.2.2
        rw [labels_valid hv] at hne ⊢
        simp
        omega
      have hjb := join_bound hl8 hokl
      have hst := hid (set_star hne)
      have hnl : Hid (([42] :: (Z.labels (lst s)).tail).length = (Z.labels (lst s)).length) := hid (by simp; omega)
      clear hd hokl
      go_enter Try.func18, Try.ntmps18
      go_wp2_with fail
      refine (splitName_any s hs _).mono ?_
      rintro e w1 ⟨A, c, rfl, hown, hb1⟩
      have hcap := (own_cap hown).1
      obtain ⟨g, rfl, _, _⟩ := own_drop hown hne 1
      have hg := own_lt hown hne
      have hgb := own_base hown hne
      have hcell : w1.cell? ⟨g, 0, none⟩ = some (.string (bs ((Z.labels (lst s)).getD 0 []))) := by
        rw [hown.cellAt 0 (by omega)]
        cases hl : Z.labels (lst s) with
        | nil => rw [hl] at hne; simp at hne
        | cons a r => rfl
      have hfz := hown.frozenAt 0
      obtain ⟨hown2, _⟩ := hown.stored 0 (.string ⟨#[42]⟩)
      rw [hst.out] at hown2
      clear hown
      go_wp2_with fail
      refine (joinLabels_any ([42] :: (Z.labels (lst s)).tail) _ _ _ _ _ (Reads.of_own hown2) (fun _ => ⟨g, 0, rfl, by simpa [World.setCell] using hg⟩) hcap (by omega) hjb).mono ?_
      rintro e w3 ⟨rfl, hb3⟩
      go_wp2_with fail
      go_ret2
      exact ⟨rOpt_some (by rw [hfin.out, lst_bs]), below2' (hb1.setCell (p := ⟨g, 0, none⟩) hgb _) hb3 (by have := hb1.size; simp [World.setCell]; omega)⟩
  · have hv' : Z.valid (lst s) = false := by simpa using hv
    have hfin : Hid (Z.starOf (lst s) = none) := hid (by unfold Z.starOf; rw [hv']; simp)
    clear hv
    go_enter Try.func18, Try.ntmps18
    go_wp2_with fail
    refine (splitName_any s hs _).mono ?_
    rintro e w1 ⟨A, c, rfl, hown1, hb1⟩
    go_wp2_with fail
    go_ret2
    exact ⟨rOpt_none hfin.out, hb1⟩

theorem cutPlain {w : World} {A : Option Addr} {k n : Nat} (h : 0 < n → ∃ g o, A = some ⟨g, o, none⟩ ∧ g < w.heap.size) : 0 < n → Plain w (A.map (·.add k)) := fun hn => by
  obtain ⟨g, o, rfl, hg⟩ := h hn
  by_cases hk : k = 0
  · exact ⟨g, o, by simp [Addr.add, hk], hg⟩
  · exact ⟨g, o + k, by simp [Addr.add, hk], hg⟩

set_option maxHeartbeats 1000000 in
theorem iCommonTop_any (s t : ByteArray) (hs : s.size ≤ maxLen) (ht : t.size ≤ maxLen) (w : World) :
    Calls Try.prog 16 #[.string s, .string t] w fun e w' => e = .returned (rOpt (Z.commonTop (lst s) (lst t))) ∧ Below w.heap.size w w' := by
  have hc1 := labels_count s
  have hc2 := labels_count t
  by_cases hv : Z.valid (lst s) = true
  · by_cases hv2 : Z.valid (lst t) = true
    · have hct : Hid (Z.commonTop (lst s) (lst t) = some (Z.join ((Z.labels (lst s)).drop ((Z.labels (lst s)).length - Z.sameEnds (Z.labels (lst s)) (Z.labels (lst t)))))) := hid (by rw [Z.commonTop_eq hv hv2, labels_valid hv, labels_valid hv2])
      have l1 := Z.sameEnds_le (Z.labels (lst s)) (Z.labels (lst t))
      go_enter Try.func16, Try.ntmps16
      go_wp2_with fail
      refine (splitName_any s hs _).mono ?_
      rintro e w1 ⟨A, c, rfl, hown1, hb1⟩
      go_wp2_with fail
      refine (splitName_any t ht _).mono ?_
      rintro e w2 ⟨A2, c2, rfl, hown2, hb2⟩
      have hr1 := (Reads.of_own hown1).below hb2 (Nat.le_refl _)
      have hr2 := Reads.of_own hown2
      have hbb := below2 hb1 hb2
      have hcap := (own_cap hown1).1
      have hcm := (own_cap hown1).2
      unfold maxLen at hcm
      have hpl : Hid (0 < (Z.labels (lst s)).length → ∃ g o, A = some ⟨g, o, none⟩ ∧ g < w2.heap.size) := hid (fun h => by
        obtain ⟨g, cap, hv, _, hlt⟩ := hown1.form h
        injection hv with hA
        exact ⟨g, 0, hA, by have := hb2.size; omega⟩)
      clear hown1 hown2 hb1
      go_wp2_with fail
      refine (commonEnd_any (Z.labels (lst s)) (Z.labels (lst t)) _ A A2 _ _ c c2 w2 (hr1.more hb2.size) hr2 (by omega) (by omega)).mono ?_
      rintro e w3 ⟨rfl, q, rfl⟩
      obtain ⟨k, hk⟩ : ∃ k, k = Z.sameEnds (Z.labels (lst s)) (Z.labels (lst t)) := ⟨_, rfl⟩
      have HK := hid hk.symm
      rw [← hk] at l1
      clear hk
      rw [HK.out]
      have HC := hid (hr1.cut (k := (Z.labels (lst s)).length - k) hcap)
      have hdl : ((Z.labels (lst s)).drop ((Z.labels (lst s)).length - k)).length ≤ 67108864 := by rw [List.length_drop]; omega
      have hjl := join_drop_bound hv ((Z.labels (lst s)).length - k)
      go_wp2_with fail
      · refine (joinLabels_any ((Z.labels (lst s)).drop ((Z.labels (lst s)).length - k)) _ _ _ _ _ (cut_pos (by assumption) HC.out) (fun h => by obtain ⟨g, o, e1, e2⟩ := hpl.out (by omega); exact ⟨g, o, e1, e2⟩) (by omega) hdl hjl).mono ?_
        rintro e w5 ⟨rfl, hb5⟩
        go_wp2_with fail
        go_ret2
        exact ⟨rOpt_some (by rw [hct.out, HK.out]; rfl), below2 (below_drewN hbb q) hb5⟩
      · refine (joinLabels_any ((Z.labels (lst s)).drop ((Z.labels (lst s)).length - k)) _ _ _ _ _ (cut_neg (by assumption) HC.out) (fun h => cutPlain (w := w2.drewN q) (n := (Z.labels (lst s)).length) hpl.out (by omega)) (by omega) hdl hjl).mono ?_
        rintro e w5 ⟨rfl, hb5⟩
        go_wp2_with fail
        go_ret2
        exact ⟨rOpt_some (by rw [hct.out, HK.out]; rfl), below2 (below_drewN hbb q) hb5⟩
    · have hv2' : Z.valid (lst t) = false := by simpa using hv2
      have hfin : Hid (Z.commonTop (lst s) (lst t) = none) := hid (by unfold Z.commonTop; rw [hv2']; simp)
      clear hv2
      go_enter Try.func16, Try.ntmps16
      go_wp2_with fail
      refine (splitName_any s hs _).mono ?_
      rintro e w1 ⟨A, c, rfl, hown1, hb1⟩
      go_wp2_with fail
      refine (splitName_any t ht _).mono ?_
      rintro e w2 ⟨A2, c2, rfl, hown2, hb2⟩
      have hr1 := (Reads.of_own hown1).below hb2 (Nat.le_refl _)
      have hr2 := Reads.of_own hown2
      have hbb := below2 hb1 hb2
      go_wp2_with fail
      go_ret2
      exact ⟨rOpt_none hfin.out, hbb⟩
  · have hv' : Z.valid (lst s) = false := by simpa using hv
    have hfin : Hid (Z.commonTop (lst s) (lst t) = none) := hid (by unfold Z.commonTop; rw [hv']; simp)
    clear hv
    go_enter Try.func16, Try.ntmps16
    go_wp2_with fail
    refine (splitName_any s hs _).mono ?_
    rintro e w1 ⟨A, c, rfl, hown1, hb1⟩
    go_wp2_with fail
    refine (splitName_any t ht _).mono ?_
    rintro e w2 ⟨A2, c2, rfl, hown2, hb2⟩
    have hr1 := (Reads.of_own hown1).below hb2 (Nat.le_refl _)
    have hr2 := Reads.of_own hown2
    have hbb := below2 hb1 hb2
    go_wp2_with fail
    go_ret2
    exact ⟨rOpt_none hfin.out, hbb⟩
end Go.Proofs.Ytgieklfpdlkmjab
