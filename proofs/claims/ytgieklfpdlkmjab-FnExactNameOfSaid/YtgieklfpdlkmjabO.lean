/- What the functions of the program's chapter 1 return: names that are read below an origin, and short names. -/
import Derived.Test.YtgieklfpdlkmjabK
namespace Go.Proofs.Ytgieklfpdlkmjab
open Go.RowKit

set_option maxHeartbeats 400000 in
theorem fullText_any (t o : ByteArray) (ht : t.size ≤ 33554432) (ho : o.size ≤ 33554430) (w : World) :
    Calls Try.prog 55 #[.string t, .string o] w fun e w' => e = .returned (.string (bs (Z.fullText (lst t) (lst o)))) ∧ Below w.heap.size w w' := by
  by_cases hat : lst t = [64]
  · have h1 : (t.toList == [64]) = true := by rw [toList_lst]; simpa using hat
    have hfin : Hid (bs (Z.fullText (lst t) (lst o)) = o) := hid (by unfold Z.fullText; rw [if_pos hat, bs_lst])
    clear hat
    go_enter Try.func55, Try.ntmps55
    go_wp2_with fail
    go_ret
    exact ⟨ret_str hfin.out.symm, Below.refl _ _⟩
  · have h1 : (t.toList == [64]) = false := by rw [toList_lst]; simpa using hat
    obtain ⟨x, hx⟩ : ∃ x : ByteArray, x = bs (Z.lower (lst t)) := ⟨_, rfl⟩
    have hxs : x.size = t.size := by rw [hx, bs_size, Z.lower_length, lst_length]
    have hxl : Hid (lst x = Z.lower (lst t)) := hid (by rw [hx, lst_bs])
    have HX := hid hx.symm
    have hxs2 : x.size ≤ 33554432 := by omega
    clear hx hxs
    by_cases hl : (lst t).getLast? = some 46
    · have hl2 : Hid (((lst x).getLast? == some 46) = true) := hid (by rw [hxl.out, (Z.lower_getLast? _).2 hl]; rfl)
      have hfin : Hid (bs (Z.fullText (lst t) (lst o)) = x) := hid (by unfold Z.fullText; rw [if_neg hat, if_pos hl, HX.out])
      clear hat hl
      go_enter Try.func55, Try.ntmps55
      go_wp2_with fail
      refine (withSmallLetters_any t (by omega) _).mono ?_
      rintro e w1 ⟨rfl, hb1⟩
      rw [HX.out]
      go_wp2_with fail
      refine (hasDot_any x (by unfold maxLen; omega) _).mono ?_
      rintro e w2 ⟨rfl, rfl⟩
      rw [hl2.out]
      go_wp2_with fail
      go_ret
      exact ⟨ret_str hfin.out.symm, hb1⟩
    · have hl2 : Hid (((lst x).getLast? == some 46) = false) := hid (by
        rw [hxl.out, Bool.eq_false_iff]
        intro e
        exact hl ((Z.lower_getLast? _).1 (by simpa using e)))
      have ha1 : ∀ W : World, (Op.stringOp .add x ⟨#[46]⟩).run Try.prog W = .ok (.string (x ++ ⟨#[46]⟩)) W := fun W => run_string_add_sum W _ _ (by show _ + 1 ≤ _; omega)
      by_cases hd : lst o = [46]
      · have h2 : (o.toList == [46]) = true := by rw [root_iff]; simpa using hd
        have hfin : Hid (bs (Z.fullText (lst t) (lst o)) = x ++ ⟨#[46]⟩) := hid (by apply lst_inj; unfold Z.fullText; rw [if_neg hat, if_neg hl, if_pos hd, lst_bs, lst_append, hxl.out]; rfl)
        clear hat hl hd
        go_enter Try.func55, Try.ntmps55
        go_wp2_with fail
        refine (withSmallLetters_any t (by omega) _).mono ?_
        rintro e w1 ⟨rfl, hb1⟩
        rw [HX.out]
        go_wp2_with fail
        refine (hasDot_any x (by unfold maxLen; omega) _).mono ?_
        rintro e w2 ⟨rfl, rfl⟩
        rw [hl2.out]
        go_wp2_with fail
        go_ret
        exact ⟨ret_str hfin.out.symm, hb1⟩
      · have h2 : (o.toList == [46]) = false := by rw [root_iff]; simpa using hd
        have ha2 : ∀ W : World, (Op.stringOp .add (x ++ ⟨#[46]⟩) o).run Try.prog W = .ok (.string (x ++ ⟨#[46]⟩ ++ o)) W := fun W => run_string_add_sum W _ _ (by rw [ByteArray.size_append]; show _ + 1 + _ ≤ _; omega)
        have hfin : Hid (bs (Z.fullText (lst t) (lst o)) = x ++ ⟨#[46]⟩ ++ o) := hid (by apply lst_inj; unfold Z.fullText; rw [if_neg hat, if_neg hl, if_neg hd, lst_bs, lst_append, lst_append, hxl.out]; rfl)
        clear hat hl hd
        go_enter Try.func55, Try.ntmps55
        go_wp2_with fail
        refine (withSmallLetters_any t (by omega) _).mono ?_
        rintro e w1 ⟨rfl, hb1⟩
        rw [HX.out]
        go_wp2_with fail
        refine (hasDot_any x (by unfold maxLen; omega) _).mono ?_
        rintro e w2 ⟨rfl, rfl⟩
        rw [hl2.out]
        go_wp2_with fail
        go_ret
        exact ⟨ret_str hfin.out.symm, hb1⟩

set_option maxHeartbeats 400000 in
theorem iReadName_any (t o : ByteArray) (ht : t.size ≤ maxLen) (ho : o.size ≤ maxLen) (w : World) :
    Calls Try.prog 36 #[.string t, .string o] w fun e w' => e = .returned (rOpt (Z.readName (lst t) (lst o))) ∧ Below w.heap.size w w' := by
  unfold maxLen at ht ho
  by_cases hv : Z.valid (lst o) = true
  · by_cases he : t.toList.isEmpty = true
    · have hfin : Hid (Z.readName (lst t) (lst o) = none) := hid (by
        have : lst t = [] := by rw [empty_iff] at he; simpa using he
        unfold Z.readName; rw [this]; simp)
      go_enter Try.func36, Try.ntmps36
      go_wp2_with fail
      refine (iNameValid_any o (by unfold maxLen; omega) _).mono ?_
      rintro e w1 ⟨rfl, hb1⟩
      go_wp2_with fail
      go_ret2
      exact ⟨rOpt_none hfin.out, hb1⟩
    · have he' : t.toList.isEmpty = false := by simpa using he
      clear he
      by_cases h60 : t.size ≤ 60
      · have ho2 : o.size ≤ 60 := by have := Z.valid_len hv; rw [lst_length] at this; exact this.2
        obtain ⟨x, hx⟩ : ∃ x : ByteArray, x = bs (Z.fullText (lst t) (lst o)) := ⟨_, rfl⟩
        have hends := readName_ends (x := x) hv he' h60 (by rw [hx, lst_bs])
        have hxs : x.size ≤ 67108864 := by
          rw [hx, bs_size]
          unfold Z.fullText
          split
          · rw [lst_length]; omega
          · split
            · rw [Z.lower_length, lst_length]; omega
            · split <;> simp [Z.lower_length, lst_length] <;> omega
        have HX := hid hx.symm
        clear hx
        by_cases hvx : Z.valid (lst x) = true
        · have hfin := hid (hends.1 hvx)
          clear hends
          go_enter Try.func36, Try.ntmps36
          go_wp2_with fail
          refine (iNameValid_any o (by unfold maxLen; omega) _).mono ?_
          rintro e w1 ⟨rfl, hb1⟩
          go_wp2_with fail
          refine (fullText_any t o (by omega) (by omega) _).mono ?_
          rintro e w2 ⟨rfl, hb2⟩
          rw [HX.out]
          go_wp2_with fail
          refine (iNameValid_any x (by unfold maxLen; omega) _).mono ?_
          rintro e w3 ⟨rfl, hb3⟩
          go_wp2_with fail
          go_ret2
          exact ⟨rOpt_some hfin.out, below2 hb1 (below2 hb2 hb3)⟩
        · have hvx' : Z.valid (lst x) = false := by simpa using hvx
          have hfin := hid (hends.2 hvx')
          clear hends hvx
          go_enter Try.func36, Try.ntmps36
          go_wp2_with fail
          refine (iNameValid_any o (by unfold maxLen; omega) _).mono ?_
          rintro e w1 ⟨rfl, hb1⟩
          go_wp2_with fail
          refine (fullText_any t o (by omega) (by omega) _).mono ?_
          rintro e w2 ⟨rfl, hb2⟩
          rw [HX.out]
          go_wp2_with fail
          refine (iNameValid_any x (by unfold maxLen; omega) _).mono ?_
          rintro e w3 ⟨rfl, hb3⟩
          go_wp2_with fail
          go_ret2
          exact ⟨rOpt_none hfin.out, below2 hb1 (below2 hb2 hb3)⟩
      · have hfin : Hid (Z.readName (lst t) (lst o) = none) := hid (by unfold Z.readName; rw [lst_length]; simp [h60])
        go_enter Try.func36, Try.ntmps36
        go_wp2_with fail
        refine (iNameValid_any o (by unfold maxLen; omega) _).mono ?_
        rintro e w1 ⟨rfl, hb1⟩
        go_wp2_with fail
        go_ret2
        exact ⟨rOpt_none hfin.out, hb1⟩
  · have hv' : Z.valid (lst o) = false := by simpa using hv
    have hfin : Hid (Z.readName (lst t) (lst o) = none) := hid (by unfold Z.readName; simp [hv'])
    clear hv
    go_enter Try.func36, Try.ntmps36
    go_wp2_with fail
    refine (iNameValid_any o (by unfold maxLen; omega) _).mono ?_
    rintro e w1 ⟨rfl, hb1⟩
    go_wp2_with fail
    go_ret2
    exact ⟨rOpt_none hfin.out, hb1⟩

/-! ### the common ends of two lists -/

set_option maxHeartbeats 1000000 in
theorem commonEnd_any (xs ys : List Z.Str) (B : Nat) (A A2 : Option Addr) (n m c c2 : Nat) (w : World) (hr1 : Reads w B A n (xs.map sv)) (hr2 : Reads w B A2 m (ys.map sv)) (hx : xs.length ≤ 67108864) (hy : ys.length ≤ 67108864) :
    Calls Try.prog 44 #[.slice A n c, .slice A2 m c2] w fun e w' => e = .returned (.int .i64 (Z.sameEnds xs ys : Nat)) ∧ ∃ q, w' = w.drewN q := by
  obtain rfl : n = xs.length := by simpa using hr1.1.symm
  obtain rfl : m = ys.length := by simpa using hr2.1.symm
  go_enter Try.func44, Try.ntmps44
  go_wp2_with fail
  go_loopw [5] (fun i wr => ∃ (k nq : Nat), k ≤ xs.length ∧ k ≤ ys.length ∧ i = .int .i64 k ∧ wr = w.drewN nq ∧ Hid (ComSame xs ys k)) (fun i _ => ys.length - (intOf i).toNat)
  case atStart => exact ⟨0, 0, Nat.zero_le _, Nat.zero_le _, rfl, rfl, hid (comSame_start _ _)⟩
  case round =>
    obtain ⟨k, nq, hk1, hk2, rfl, rfl, hok⟩ := hrel
    by_cases hlt1 : k < xs.length
    · by_cases hlt2 : k < ys.length
      · obtain ⟨ad1, x, rfl, hab1, hx2, hcell1⟩ := reads_end hr1 hlt1
        obtain ⟨ad2, y, rfl, hab2, hy2, hcell2⟩ := reads_end hr2 hlt2
        have Hx := hid hx2
        have Hy := hid hy2
        clear hx2 hy2
        have p1 : 0 ≤ (xs.length : Int) - 1 - k := by omega
        have p2 : 0 ≤ (ys.length : Int) - 1 - k := by omega
        have q1 : (xs.length : Int) - 1 - k < xs.length := by omega
        have q2 : (ys.length : Int) - 1 - k < ys.length := by omega
        have e1 : IntKind.i64.wrap ((xs.length : Int) - 1) = (xs.length : Int) - 1 := IntWalk.i64_in _ (by omega)
        have e2 : IntKind.i64.wrap ((xs.length : Int) - 1 - k) = (xs.length : Int) - 1 - k := IntWalk.i64_in _ (by omega)
        have e3 : IntKind.i64.wrap ((ys.length : Int) - 1) = (ys.length : Int) - 1 := IntWalk.i64_in _ (by omega)
        have e4 : IntKind.i64.wrap ((ys.length : Int) - 1 - k) = (ys.length : Int) - 1 - k := IntWalk.i64_in _ (by omega)
        have f1 : ((xs.length : Int) - 1 - k).toNat = xs.length - (k + 1) := by omega
        have f2 : ((ys.length : Int) - 1 - k).toNat = ys.length - (k + 1) := by omega
        go_wp2_with fail
        go_quiet (fail)
        clear e1 e2 e3 e4 f1 f2 p1 p2 q1 q2
        go_wp2_with fail
        · have hq : (x.toList == y.toList) = true := by assumption
          rw [toList_lst, toList_lst] at hq
          exact ⟨⟨k + 1, _, by omega, by omega, by go_num, rfl, hid (comSame_next hok.out hlt1 hlt2 (by rw [← Hx.out, ← Hy.out]; simpa using hq))⟩, by simp [intOf]; omega⟩
        · have hq' : (x.toList == y.toList) = false := by assumption
          have hsame := hid (comSame_ne hok.out hlt1 hlt2 (by rw [← Hx.out, ← Hy.out]; rw [toList_lst, toList_lst] at hq'; simpa using hq'))
          go_ret
          exact ⟨ret_int (by rw [hsame.out]), ⟨_, World.drewN_drewN _ _ _⟩⟩
      · have hd2 : decide (k < ys.length) = false := by simpa using hlt2
        go_wp2_with fail
        have hsame := hid (comSame_end hok.out (Or.inr (by omega)))
        go_quiet (fail)
        go_wp2_with fail
        go_ret
        exact ⟨ret_int (by rw [hsame.out]), ⟨_, World.drewN_drewN _ _ _⟩⟩
    · have hd1 : decide (k < xs.length) = false := by simpa using hlt1
      go_wp2_with fail
      have hsame := hid (comSame_end hok.out (Or.inl (by omega)))
      go_quiet (fail)
      go_wp2_with fail
      go_ret
      exact ⟨ret_int (by rw [hsame.out]), ⟨_, World.drewN_drewN _ _ _⟩⟩
end Go.Proofs.Ytgieklfpdlkmjab
