/- What the functions of the model's chapter 1 return: common tops. -/
import Derived.Test.YtgieklfpdlkmjabW
namespace Go.Proofs.Ytgieklfpdlkmjab
open Go.RowKit

def ComSame (x y : List Z.Str) (k : Nat) : Prop := Z.sameEnds x y = k + Z.common (x.reverse.drop k) (y.reverse.drop k)
theorem comSame_start (x y : List Z.Str) : ComSame x y 0 := by simp [ComSame, Z.sameEnds]
theorem comSame_next {x y : List Z.Str} {k : Nat} (h : ComSame x y k) (hx : k < x.length) (hy : k < y.length) (e : rget x k = rget y k) : ComSame x y (k + 1) := by
  unfold ComSame at h ⊢
  rw [h, rget_rev x k hx, rget_rev y k hy, e]
  simp [Z.common]; omega
theorem comSame_ne {x y : List Z.Str} {k : Nat} (h : ComSame x y k) (hx : k < x.length) (hy : k < y.length) (e : rget x k ≠ rget y k) : Z.sameEnds x y = k := by
  unfold ComSame at h
  rw [h, rget_rev x k hx, rget_rev y k hy]
  simp [Z.common, e]
theorem comSame_end {x y : List Z.Str} {k : Nat} (h : ComSame x y k) (e : x.length ≤ k ∨ y.length ≤ k) : Z.sameEnds x y = k := by
  unfold ComSame at h
  rw [h]
  rcases e with e | e
  · rw [List.drop_of_length_le (by simp; omega)]; simp [Z.common]
  · rw [List.drop_of_length_le (l := y.reverse) (by simp; omega)]
    cases x.reverse.drop k <;> simp [Z.common]

theorem cut_pos {w : World} {B m : Nat} {A : Option Addr} {ls : List Z.Str} {c k q : Nat} (e : c = k) (h : Reads w B (if c = k then A else A.map (·.add k)) m ((ls.map sv).drop k)) : Reads (w.drewN q) B A m ((ls.drop k).map sv) := by
  rw [if_pos e] at h
  rw [List.map_drop]
  exact h
theorem cut_neg {w : World} {B m : Nat} {A : Option Addr} {ls : List Z.Str} {c k q : Nat} (e : ¬ c = k) (h : Reads w B (if c = k then A else A.map (·.add k)) m ((ls.map sv).drop k)) : Reads (w.drewN q) B (A.map (·.add k)) m ((ls.drop k).map sv) := by
  rw [if_neg e] at h
  rw [List.map_drop]
  exact h
theorem joined_drop_le {s : Z.Str} (hv : Z.valid s = true) (k : Nat) : (Z.joined ((Z.labs s).drop k)).length ≤ 67108864 := by
  have h2 := (Z.valid_len (Z.valid_drop hv k)).2
  unfold Z.join at h2
  split at h2
  · rename_i h0; rw [h0]; simp [Z.joined]
  · omega

set_option maxHeartbeats 1000000 in
theorem CommonTop_valid (s t : ByteArray) (hs : s.size ≤ 67108864) (ht : t.size ≤ 67108864) (hv : Z.valid (lst s) = true) (hv2 : Z.valid (lst t) = true) (w : World) :
    Calls Try.prog 17 #[.string s, .string t] w fun e w' => e = .returned (rOpt (Z.commonTop (lst s) (lst t))) ∧ Below w.heap.size w w' := by
  have hx := Z.labs_count (lst s)
  have hy := Z.labs_count (lst t)
  rw [lst_length] at hx hy
  have hct := hid (Z.commonTop_eq hv hv2)
  go_enter Try.func17, Try.ntmps17
  go_wp2_with fail
  refine (NameValid_any s (by unfold maxLen; omega) _).mono ?_
  rintro e w1 ⟨rfl, hb1⟩
  go_wp2_with fail
  refine (NameValid_any t (by unfold maxLen; omega) _).mono ?_
  rintro e w2 ⟨rfl, hb2⟩
  go_wp2_with fail
  refine (l1Labels_any s hs _).mono ?_
  rintro e w3 ⟨A, c, rfl, hown1, hb3⟩
  go_wp2_with fail
  refine (l1Labels_any t ht _).mono ?_
  rintro e w4 ⟨A2, c2, rfl, hown2, hb4⟩
  have hr1 := (Reads.of_own hown1).below hb4 (Nat.le_refl _)
  have hr2 := Reads.of_own hown2
  have hbb := below2 hb1 (below2 hb2 (below2 hb3 hb4))
  have hcap := (own_cap hown1).1
  have hcm := (own_cap hown1).2
  unfold maxLen at hcm
  clear hown1 hown2 hb1 hb2 hb3 hb4
  go_wp2_with fail
  go_loopw [8] (fun i wr => ∃ (k nq : Nat), k ≤ (Z.labs (lst s)).length ∧ k ≤ (Z.labs (lst t)).length ∧ i = .int .i64 k ∧ wr = w4.drewN nq ∧ Hid (ComSame (Z.labs (lst s)) (Z.labs (lst t)) k)) (fun i _ => (Z.labs (lst t)).length - (intOf i).toNat)
  case atStart => exact ⟨0, 0, Nat.zero_le _, Nat.zero_le _, rfl, rfl, hid (comSame_start _ _)⟩
  case round =>
    obtain ⟨k, nq, hk1, hk2, rfl, rfl, hok⟩ := hrel
    have HC := hid (hr1.cut (k := (Z.labs (lst s)).length - k) hcap)
    have hdl : ((Z.labs (lst s)).drop ((Z.labs (lst s)).length - k)).length ≤ 67108864 := by rw [List.length_drop]; omega
    have hjl := joined_drop_le hv ((Z.labs (lst s)).length - k)
    by_cases hlt1 : k < (Z.labs (lst s)).length
    · by_cases hlt2 : k < (Z.labs (lst t)).length
      · obtain ⟨ad1, x, rfl, hab1, hx2, hcell1⟩ := reads_end hr1 hlt1
        obtain ⟨ad2, y, rfl, hab2, hy2, hcell2⟩ := reads_end hr2 hlt2
        have Hx := hid hx2
        have Hy := hid hy2
        clear hx2 hy2
        have p1 : 0 ≤ ((Z.labs (lst s)).length : Int) - 1 - k := by omega
        have p2 : 0 ≤ ((Z.labs (lst t)).length : Int) - 1 - k := by omega
        have q1 : ((Z.labs (lst s)).length : Int) - 1 - k < (Z.labs (lst s)).length := by omega
        have q2 : ((Z.labs (lst t)).length : Int) - 1 - k < (Z.labs (lst t)).length := by omega
        have e1 : IntKind.i64.wrap (((Z.labs (lst s)).length : Int) - 1) = ((Z.labs (lst s)).length : Int) - 1 := IntWalk.i64_in _ (by omega)
        have e2 : IntKind.i64.wrap (((Z.labs (lst s)).length : Int) - 1 - k) = ((Z.labs (lst s)).length : Int) - 1 - k := IntWalk.i64_in _ (by omega)
        have e3 : IntKind.i64.wrap (((Z.labs (lst t)).length : Int) - 1) = ((Z.labs (lst t)).length : Int) - 1 := IntWalk.i64_in _ (by omega)
        have e4 : IntKind.i64.wrap (((Z.labs (lst t)).length : Int) - 1 - k) = ((Z.labs (lst t)).length : Int) - 1 - k := IntWalk.i64_in _ (by omega)
        have f1 : (((Z.labs (lst s)).length : Int) - 1 - k).toNat = (Z.labs (lst s)).length - (k + 1) := by omega
        have f2 : (((Z.labs (lst t)).length : Int) - 1 - k).toNat = (Z.labs (lst t)).length - (k + 1) := by omega
        go_wp2_with fail
        go_quiet (fail)
        clear e1 e2 e3 e4 f1 f2 p1 p2 q1 q2
        go_wp2_with fail
        · have hq : (x.toList == y.toList) = true := by assumption
          rw [toList_lst, toList_lst] at hq
          exact ⟨⟨k + 1, _, by omega, by omega, by go_num, rfl, hid (comSame_next hok.out hlt1 hlt2 (by rw [← Hx.out, ← Hy.out]; simpa using hq))⟩, by simp [intOf]; omega⟩
        · have hq' : (x.toList == y.toList) = false := by assumption
          have hsame := hid (comSame_ne hok.out hlt1 hlt2 (by rw [← Hx.out, ← Hy.out]; rw [toList_lst, toList_lst] at hq'; simpa using hq'))
          refine (l1Join_any ((Z.labs (lst s)).drop ((Z.labs (lst s)).length - k)) _ _ _ _ _ (cut_pos (by assumption) HC.out) hdl hjl).mono ?_
          rintro e w5 ⟨rfl, rfl⟩
          go_wp2_with fail
          go_ret2
          exact ⟨rOpt_some (by rw [hct.out, hsame.out]; rfl), by repeat (first | exact hbb | refine below_drewN ?_ _)⟩
        · have hq' : (x.toList == y.toList) = false := by assumption
          have hsame := hid (comSame_ne hok.out hlt1 hlt2 (by rw [← Hx.out, ← Hy.out]; rw [toList_lst, toList_lst] at hq'; simpa using hq'))
          refine (l1Join_any ((Z.labs (lst s)).drop ((Z.labs (lst s)).length - k)) _ _ _ _ _ (cut_neg (by assumption) HC.out) hdl hjl).mono ?_
          rintro e w5 ⟨rfl, rfl⟩
          go_wp2_with fail
          go_ret2
          exact ⟨rOpt_some (by rw [hct.out, hsame.out]; rfl), by repeat (first | exact hbb | refine below_drewN ?_ _)⟩
      · have hd2 : decide (k < (Z.labs (lst t)).length) = false := by simpa using hlt2
        go_wp2_with fail
        have hsame := hid (comSame_end hok.out (Or.inr (by omega)))
        go_quiet (fail)
        go_wp2_with fail
        · refine (l1Join_any ((Z.labs (lst s)).drop ((Z.labs (lst s)).length - k)) _ _ _ _ _ (cut_pos (by assumption) HC.out) hdl hjl).mono ?_
          rintro e w5 ⟨rfl, rfl⟩
          go_wp2_with fail
          go_ret2
          exact ⟨rOpt_some (by rw [hct.out, hsame.out]; rfl), by repeat (first | exact hbb | refine below_drewN ?_ _)⟩
        · refine (l1Join_any ((Z.labs (lst s)).drop ((Z.labs (lst s)).length - k)) _ _ _ _ _ (cut_neg (by assumption) HC.out) hdl hjl).mono ?_
          rintro e w5 ⟨rfl, rfl⟩
          go_wp2_with fail
          go_ret2
          exact ⟨rOpt_some (by rw [hct.out, hsame.out]; rfl), by repeat (first | exact hbb | refine below_drewN ?_ _)⟩
    · have hd1 : decide (k < (Z.labs (lst s)).length) = false := by simpa using hlt1
      go_wp2_with fail
      have hsame := hid (comSame_end hok.out (Or.inl (by omega)))
      go_quiet (fail)
      go_wp2_with fail
      · refine (l1Join_any ((Z.labs (lst s)).drop ((Z.labs (lst s)).length - k)) _ _ _ _ _ (cut_pos (by assumption) HC.out) hdl hjl).mono ?_
        rintro e w5 ⟨rfl, rfl⟩
        go_wp2_with fail
        go_ret2
        exact ⟨rOpt_some (by rw [hct.out, hsame.out]; rfl), by repeat (first | exact hbb | refine below_drewN ?_ _)⟩
      · refine (l1Join_any ((Z.labs (lst s)).drop ((Z.labs (lst s)).length - k)) _ _ _ _ _ (cut_neg (by assumption) HC.out) hdl hjl).mono ?_
        rintro e w5 ⟨rfl, rfl⟩
        go_wp2_with fail
        go_ret2
        exact ⟨rOpt_some (by rw [hct.out, hsame.out]; rfl), by repeat (first | exact hbb | refine below_drewN ?_ _)⟩

set_option maxHeartbeats 400000 in
theorem CommonTop_any (s t : ByteArray) (hs : s.size ≤ 67108864) (ht : t.size ≤ 67108864) (w : World) :
    Calls Try.prog 17 #[.string s, .string t] w fun e w' => e = .returned (rOpt (Z.commonTop (lst s) (lst t))) ∧ Below w.heap.size w w' := by
  by_cases hv : Z.valid (lst s) = true
  · by_cases hv2 : Z.valid (lst t) = true
    · exact CommonTop_valid s t hs ht hv hv2 w
    · have hv2' : Z.valid (lst t) = false := by simpa using hv2
      have hfin : Hid (Z.commonTop (lst s) (lst t) = none) := hid (by unfold Z.commonTop; rw [hv2']; simp)
      clear hv2
      go_enter Try.func17, Try.ntmps17
      go_wp2_with fail
      refine (NameValid_any s (by unfold maxLen; omega) _).mono ?_
      rintro e w1 ⟨rfl, hb1⟩
      go_wp2_with fail
      refine (NameValid_any t (by unfold maxLen; omega) _).mono ?_
      rintro e w2 ⟨rfl, hb2⟩
      go_wp2_with fail
      go_ret2
      exact ⟨rOpt_none hfin.out, below2 hb1 hb2⟩
  · have hv' : Z.valid (lst s) = false := by simpa using hv
    have hfin : Hid (Z.commonTop (lst s) (lst t) = none) := hid (by unfold Z.commonTop; rw [hv']; simp)
    clear hv
    go_enter Try.func17, Try.ntmps17
    go_wp2_with fail
    refine (NameValid_any s (by unfold maxLen; omega) _).mono ?_
    rintro e w1 ⟨rfl, hb1⟩
    go_wp2_with fail
    go_ret2
    exact ⟨rOpt_none hfin.out, hb1⟩
end Go.Proofs.Ytgieklfpdlkmjab
