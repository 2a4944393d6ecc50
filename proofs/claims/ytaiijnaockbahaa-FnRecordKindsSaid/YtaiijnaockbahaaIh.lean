/- What validData of the program returns: the data of a valid record. -/
import Derived.Test.YtaiijnaockbahaaIg
namespace Go.Proofs.Ytaiijnaockbahaa
open Go.RowKit
set_option maxRecDepth 100000
set_option linter.unusedVariables false

theorem aValid_eq (n0 n1 n2 n3 : Int)  (w : World) (m : Bool) (hm : ([n0, n1, n2, n3].all (within · 255)) = m) :
    Calls Try.prog 94 #[.agg #[.int .i64 n0, .int .i64 n1, .int .i64 n2, .int .i64 n3]] w fun e w' => e = .returned (.bool m) ∧ Below w.heap.size w w' := by
  subst hm
  exact aValid_any _ _ _ _ _
set_option maxHeartbeats 4000000 in
theorem validData_A (aN : ByteArray) (aT aK : Int) (aA : Option Addr) (aL aC : Nat) (aG aX : ByteArray) (aZ : List Int) (aB : Nat) (w : World) (hra : Reads w aB aA aL (aZ.map iv)) (hba : aB ≤ w.heap.size) (hla : aL ≤ 67108864) (hsa : aN.size ≤ 67108864) (n0 n1 n2 n3 : Int)  (dZ : List Int) (dG dX : ByteArray) (hpick : Picks aN aT aK aA aL aC aG aX aZ aB (.iface 76 (.agg #[.int .i64 n0, .int .i64 n1, .int .i64 n2, .int .i64 n3]))) (hwith : Withs aN aT aK aA aL aC aG aX aZ aB (.iface 76 (.agg #[.int .i64 n0, .int .i64 n1, .int .i64 n2, .int .i64 n3])) dZ dG dX)
    (ok : Bool) (hok : Z.sameData (⟨lst aN, aT, aK, dZ, lst dG, lst dX⟩ : Z.Rec) (⟨lst aN, aT, aK, aZ, lst aG, lst aX⟩ : Z.Rec) = ok) (m : Bool) (hm : ([n0, n1, n2, n3].all (within · 255)) = m) :
    Calls Try.prog 25 #[.agg #[.string aN, .int .i64 aT, .int .i64 aK, .slice aA aL aC, .string aG, .string aX]] w fun e w' => e = .returned (dataOr (ok && (m && (Z.valid (lst aN) && within aT 100000))) (.iface 76 (.agg #[.int .i64 n0, .int .i64 n1, .int .i64 n2, .int .i64 n3]))) ∧ Below w.heap.size w w' := by
  have hx0 := Held.box w [.string aN, .int .i64 aT, .int .i64 aK, .slice aA aL aC, .string aG, .string aX] 25
  have HOK := hid hok
  have HM := hid hm
  clear hok hm
  cases ok
  · go_enter Try.func25, Try.ntmps25
    go_wp2_with fail
    refine (dataOf_gen _ _ _ _ _ _ _ _ aZ aB _ (hra.held hba hx0) (hx0.up hba) hla _ dZ dG dX hpick hwith false HOK.out).mono ?_
    rintro e w2 ⟨rfl, hb2⟩
    have hx2 := hx0.next hb2
    rw [dataOr_false]
    go_wp2
    go_ret2
    exact ⟨rfl, hx2.1⟩
  · go_enter Try.func25, Try.ntmps25
    go_wp2_with fail
    refine (dataOf_gen _ _ _ _ _ _ _ _ aZ aB _ (hra.held hba hx0) (hx0.up hba) hla _ dZ dG dX hpick hwith true HOK.out).mono ?_
    rintro e w2 ⟨rfl, hb2⟩
    have hx2 := hx0.next hb2
    obtain ⟨q0, q1, q2, q3, q4, q5⟩ := hx2.cells6
    rw [dataOr_true]
    cases m
    all_goals go_wp2_with (first
      | (go_at_call 94; refine (aValid_eq _ _ _ _ _ _ HM.out).mono ?_; rintro e w3 ⟨rfl, hb3⟩; have hx3 := hx2.next hb3; obtain ⟨q0, q1, q2, q3, q4, q5⟩ := hx3.cells6)
      | (go_at_call 44; refine (iNameValid_any _ (by unfold maxLen; omega) _).mono ?_; rintro e w4 ⟨rfl, hb4⟩; have hx4 := hx3.next hb4; obtain ⟨q0, q1, q2, q3, q4, q5⟩ := hx4.cells6)
      | (go_at_call 45; refine (isWithin_any _ _ _).mono ?_; rintro e w5 ⟨rfl, rfl⟩))
    all_goals go_ret2
    all_goals go_light
    all_goals refine ⟨?_, by first | exact hx4.1 | exact hx3.1⟩
    all_goals (clear hx0 hx2 hx3; try clear hx4)
    all_goals simp_all [dataOr]

theorem tValid_eq (t : ByteArray) (hts : t.size ≤ 67108864) (w : World) (m : Bool) (hm : (Z.valid (lst t)) = m) :
    Calls Try.prog 97 #[.agg #[.string t]] w fun e w' => e = .returned (.bool m) ∧ Below w.heap.size w w' := by
  subst hm
  exact tValid_any _ hts _
set_option maxHeartbeats 4000000 in
theorem validData_T (aN : ByteArray) (aT aK : Int) (aA : Option Addr) (aL aC : Nat) (aG aX : ByteArray) (aZ : List Int) (aB : Nat) (w : World) (hra : Reads w aB aA aL (aZ.map iv)) (hba : aB ≤ w.heap.size) (hla : aL ≤ 67108864) (hsa : aN.size ≤ 67108864) (t : ByteArray) (hts : t.size ≤ 67108864) (dZ : List Int) (dG dX : ByteArray) (hpick : Picks aN aT aK aA aL aC aG aX aZ aB (.iface 78 (.agg #[.string t]))) (hwith : Withs aN aT aK aA aL aC aG aX aZ aB (.iface 78 (.agg #[.string t])) dZ dG dX)
    (ok : Bool) (hok : Z.sameData (⟨lst aN, aT, aK, dZ, lst dG, lst dX⟩ : Z.Rec) (⟨lst aN, aT, aK, aZ, lst aG, lst aX⟩ : Z.Rec) = ok) (m : Bool) (hm : (Z.valid (lst t)) = m) :
    Calls Try.prog 25 #[.agg #[.string aN, .int .i64 aT, .int .i64 aK, .slice aA aL aC, .string aG, .string aX]] w fun e w' => e = .returned (dataOr (ok && (m && (Z.valid (lst aN) && within aT 100000))) (.iface 78 (.agg #[.string t]))) ∧ Below w.heap.size w w' := by
  have hx0 := Held.box w [.string aN, .int .i64 aT, .int .i64 aK, .slice aA aL aC, .string aG, .string aX] 25
  have HOK := hid hok
  have HM := hid hm
  clear hok hm
  cases ok
  · go_enter Try.func25, Try.ntmps25
    go_wp2_with fail
    refine (dataOf_gen _ _ _ _ _ _ _ _ aZ aB _ (hra.held hba hx0) (hx0.up hba) hla _ dZ dG dX hpick hwith false HOK.out).mono ?_
    rintro e w2 ⟨rfl, hb2⟩
    have hx2 := hx0.next hb2
    rw [dataOr_false]
    go_wp2
    go_ret2
    exact ⟨rfl, hx2.1⟩
  · go_enter Try.func25, Try.ntmps25
    go_wp2_with fail
    refine (dataOf_gen _ _ _ _ _ _ _ _ aZ aB _ (hra.held hba hx0) (hx0.up hba) hla _ dZ dG dX hpick hwith true HOK.out).mono ?_
    rintro e w2 ⟨rfl, hb2⟩
    have hx2 := hx0.next hb2
    obtain ⟨q0, q1, q2, q3, q4, q5⟩ := hx2.cells6
    rw [dataOr_true]
    cases m
    all_goals go_wp2_with (first
      | (go_at_call 97; refine (tValid_eq _ hts _ _ HM.out).mono ?_; rintro e w3 ⟨rfl, hb3⟩; have hx3 := hx2.next hb3; obtain ⟨q0, q1, q2, q3, q4, q5⟩ := hx3.cells6)
      | (go_at_call 44; refine (iNameValid_any _ (by unfold maxLen; omega) _).mono ?_; rintro e w4 ⟨rfl, hb4⟩; have hx4 := hx3.next hb4; obtain ⟨q0, q1, q2, q3, q4, q5⟩ := hx4.cells6)
      | (go_at_call 45; refine (isWithin_any _ _ _).mono ?_; rintro e w5 ⟨rfl, rfl⟩))
    all_goals go_ret2
    all_goals go_light
    all_goals refine ⟨?_, by first | exact hx4.1 | exact hx3.1⟩
    all_goals (clear hx0 hx2 hx3; try clear hx4)
    all_goals simp_all [dataOr]

theorem xValid_eq (t : ByteArray) (hts : t.size ≤ 67108864) (w : World) (m : Bool) (hm : (Z.okText (lst t)) = m) :
    Calls Try.prog 103 #[.agg #[.string t]] w fun e w' => e = .returned (.bool m) ∧ Below w.heap.size w w' := by
  subst hm
  exact xValid_any _ hts _
set_option maxHeartbeats 4000000 in
theorem validData_X (aN : ByteArray) (aT aK : Int) (aA : Option Addr) (aL aC : Nat) (aG aX : ByteArray) (aZ : List Int) (aB : Nat) (w : World) (hra : Reads w aB aA aL (aZ.map iv)) (hba : aB ≤ w.heap.size) (hla : aL ≤ 67108864) (hsa : aN.size ≤ 67108864) (t : ByteArray) (hts : t.size ≤ 67108864) (dZ : List Int) (dG dX : ByteArray) (hpick : Picks aN aT aK aA aL aC aG aX aZ aB (.iface 86 (.agg #[.string t]))) (hwith : Withs aN aT aK aA aL aC aG aX aZ aB (.iface 86 (.agg #[.string t])) dZ dG dX)
    (ok : Bool) (hok : Z.sameData (⟨lst aN, aT, aK, dZ, lst dG, lst dX⟩ : Z.Rec) (⟨lst aN, aT, aK, aZ, lst aG, lst aX⟩ : Z.Rec) = ok) (m : Bool) (hm : (Z.okText (lst t)) = m) :
    Calls Try.prog 25 #[.agg #[.string aN, .int .i64 aT, .int .i64 aK, .slice aA aL aC, .string aG, .string aX]] w fun e w' => e = .returned (dataOr (ok && (m && (Z.valid (lst aN) && within aT 100000))) (.iface 86 (.agg #[.string t]))) ∧ Below w.heap.size w w' := by
  have hx0 := Held.box w [.string aN, .int .i64 aT, .int .i64 aK, .slice aA aL aC, .string aG, .string aX] 25
  have HOK := hid hok
  have HM := hid hm
  clear hok hm
  cases ok
  · go_enter Try.func25, Try.ntmps25
    go_wp2_with fail
    refine (dataOf_gen _ _ _ _ _ _ _ _ aZ aB _ (hra.held hba hx0) (hx0.up hba) hla _ dZ dG dX hpick hwith false HOK.out).mono ?_
    rintro e w2 ⟨rfl, hb2⟩
    have hx2 := hx0.next hb2
    rw [dataOr_false]
    go_wp2
    go_ret2
    exact ⟨rfl, hx2.1⟩
  · go_enter Try.func25, Try.ntmps25
    go_wp2_with fail
    refine (dataOf_gen _ _ _ _ _ _ _ _ aZ aB _ (hra.held hba hx0) (hx0.up hba) hla _ dZ dG dX hpick hwith true HOK.out).mono ?_
    rintro e w2 ⟨rfl, hb2⟩
    have hx2 := hx0.next hb2
    obtain ⟨q0, q1, q2, q3, q4, q5⟩ := hx2.cells6
    rw [dataOr_true]
    cases m
    all_goals go_wp2_with (first
      | (go_at_call 103; refine (xValid_eq _ hts _ _ HM.out).mono ?_; rintro e w3 ⟨rfl, hb3⟩; have hx3 := hx2.next hb3; obtain ⟨q0, q1, q2, q3, q4, q5⟩ := hx3.cells6)
      | (go_at_call 44; refine (iNameValid_any _ (by unfold maxLen; omega) _).mono ?_; rintro e w4 ⟨rfl, hb4⟩; have hx4 := hx3.next hb4; obtain ⟨q0, q1, q2, q3, q4, q5⟩ := hx4.cells6)
      | (go_at_call 45; refine (isWithin_any _ _ _).mono ?_; rintro e w5 ⟨rfl, rfl⟩))
    all_goals go_ret2
    all_goals go_light
    all_goals refine ⟨?_, by first | exact hx4.1 | exact hx3.1⟩
    all_goals (clear hx0 hx2 hx3; try clear hx4)
    all_goals simp_all [dataOr]

theorem sValid_eq (t : ByteArray) (n0 n1 n2 n3 n4 : Int) (hts : t.size ≤ 67108864) (w : World) (m : Bool) (hm : ((Z.valid (lst t) && within n0 4294967295 && [n1, n2, n3, n4].all (within · 100000))) = m) :
    Calls Try.prog 99 #[.agg #[.string t, .int .i64 n0, .int .i64 n1, .int .i64 n2, .int .i64 n3, .int .i64 n4]] w fun e w' => e = .returned (.bool m) ∧ Below w.heap.size w w' := by
  subst hm
  exact sValid_any _ _ _ _ _ _ hts _
set_option maxHeartbeats 4000000 in
theorem validData_S (aN : ByteArray) (aT aK : Int) (aA : Option Addr) (aL aC : Nat) (aG aX : ByteArray) (aZ : List Int) (aB : Nat) (w : World) (hra : Reads w aB aA aL (aZ.map iv)) (hba : aB ≤ w.heap.size) (hla : aL ≤ 67108864) (hsa : aN.size ≤ 67108864) (t : ByteArray) (n0 n1 n2 n3 n4 : Int) (hts : t.size ≤ 67108864) (dZ : List Int) (dG dX : ByteArray) (hpick : Picks aN aT aK aA aL aC aG aX aZ aB (.iface 81 (.agg #[.string t, .int .i64 n0, .int .i64 n1, .int .i64 n2, .int .i64 n3, .int .i64 n4]))) (hwith : Withs aN aT aK aA aL aC aG aX aZ aB (.iface 81 (.agg #[.string t, .int .i64 n0, .int .i64 n1, .int .i64 n2, .int .i64 n3, .int .i64 n4])) dZ dG dX)
    (ok : Bool) (hok : Z.sameData (⟨lst aN, aT, aK, dZ, lst dG, lst dX⟩ : Z.Rec) (⟨lst aN, aT, aK, aZ, lst aG, lst aX⟩ : Z.Rec) = ok) (m : Bool) (hm : ((Z.valid (lst t) && within n0 4294967295 && [n1, n2, n3, n4].all (within · 100000))) = m) :
    Calls Try.prog 25 #[.agg #[.string aN, .int .i64 aT, .int .i64 aK, .slice aA aL aC, .string aG, .string aX]] w fun e w' => e = .returned (dataOr (ok && (m && (Z.valid (lst aN) && within aT 100000))) (.iface 81 (.agg #[.string t, .int .i64 n0, .int .i64 n1, .int .i64 n2, .int .i64 n3, .int .i64 n4]))) ∧ Below w.heap.size w w' := by
  have hx0 := Held.box w [.string aN, .int .i64 aT, .int .i64 aK, .slice aA aL aC, .string aG, .string aX] 25
  have HOK := hid hok
  have HM := hid hm
  clear hok hm
  cases ok
  · go_enter Try.func25, Try.ntmps25
    go_wp2_with fail
    refine (dataOf_gen _ _ _ _ _ _ _ _ aZ aB _ (hra.held hba hx0) (hx0.up hba) hla _ dZ dG dX hpick hwith false HOK.out).mono ?_
    rintro e w2 ⟨rfl, hb2⟩
    have hx2 := hx0.next hb2
    rw [dataOr_false]
    go_wp2
    go_ret2
    exact ⟨rfl, hx2.1⟩
  · go_enter Try.func25, Try.ntmps25
    go_wp2_with fail
    refine (dataOf_gen _ _ _ _ _ _ _ _ aZ aB _ (hra.held hba hx0) (hx0.up hba) hla _ dZ dG dX hpick hwith true HOK.out).mono ?_
    rintro e w2 ⟨rfl, hb2⟩
    have hx2 := hx0.next hb2
    obtain ⟨q0, q1, q2, q3, q4, q5⟩ := hx2.cells6
    rw [dataOr_true]
    cases m
    all_goals go_wp2_with (first
      | (go_at_call 99; refine (sValid_eq _ _ _ _ _ _ hts _ _ HM.out).mono ?_; rintro e w3 ⟨rfl, hb3⟩; have hx3 := hx2.next hb3; obtain ⟨q0, q1, q2, q3, q4, q5⟩ := hx3.cells6)
      | (go_at_call 44; refine (iNameValid_any _ (by unfold maxLen; omega) _).mono ?_; rintro e w4 ⟨rfl, hb4⟩; have hx4 := hx3.next hb4; obtain ⟨q0, q1, q2, q3, q4, q5⟩ := hx4.cells6)
      | (go_at_call 45; refine (isWithin_any _ _ _).mono ?_; rintro e w5 ⟨rfl, rfl⟩))
    all_goals go_ret2
    all_goals go_light
    all_goals refine ⟨?_, by first | exact hx4.1 | exact hx3.1⟩
    all_goals (clear hx0 hx2 hx3; try clear hx4)
    all_goals simp_all [dataOr]

theorem mValid_eq (n0 : Int) (t : ByteArray) (hts : t.size ≤ 67108864) (w : World) (m : Bool) (hm : ((Z.valid (lst t) && [n0].all (within · 999))) = m) :
    Calls Try.prog 101 #[.agg #[.int .i64 n0, .string t]] w fun e w' => e = .returned (.bool m) ∧ Below w.heap.size w w' := by
  subst hm
  exact mValid_any _ _ hts _
set_option maxHeartbeats 4000000 in
theorem validData_M (aN : ByteArray) (aT aK : Int) (aA : Option Addr) (aL aC : Nat) (aG aX : ByteArray) (aZ : List Int) (aB : Nat) (w : World) (hra : Reads w aB aA aL (aZ.map iv)) (hba : aB ≤ w.heap.size) (hla : aL ≤ 67108864) (hsa : aN.size ≤ 67108864) (n0 : Int) (t : ByteArray) (hts : t.size ≤ 67108864) (dZ : List Int) (dG dX : ByteArray) (hpick : Picks aN aT aK aA aL aC aG aX aZ aB (.iface 84 (.agg #[.int .i64 n0, .string t]))) (hwith : Withs aN aT aK aA aL aC aG aX aZ aB (.iface 84 (.agg #[.int .i64 n0, .string t])) dZ dG dX)
    (ok : Bool) (hok : Z.sameData (⟨lst aN, aT, aK, dZ, lst dG, lst dX⟩ : Z.Rec) (⟨lst aN, aT, aK, aZ, lst aG, lst aX⟩ : Z.Rec) = ok) (m : Bool) (hm : ((Z.valid (lst t) && [n0].all (within · 999))) = m) :
    Calls Try.prog 25 #[.agg #[.string aN, .int .i64 aT, .int .i64 aK, .slice aA aL aC, .string aG, .string aX]] w fun e w' => e = .returned (dataOr (ok && (m && (Z.valid (lst aN) && within aT 100000))) (.iface 84 (.agg #[.int .i64 n0, .string t]))) ∧ Below w.heap.size w w' := by
  have hx0 := Held.box w [.string aN, .int .i64 aT, .int .i64 aK, .slice aA aL aC, .string aG, .string aX] 25
  have HOK := hid hok
  have HM := hid hm
  clear hok hm
  cases ok
  · go_enter Try.func25, Try.ntmps25
    go_wp2_with fail
    refine (dataOf_gen _ _ _ _ _ _ _ _ aZ aB _ (hra.held hba hx0) (hx0.up hba) hla _ dZ dG dX hpick hwith false HOK.out).mono ?_
    rintro e w2 ⟨rfl, hb2⟩
    have hx2 := hx0.next hb2
    rw [dataOr_false]
    go_wp2
    go_ret2
    exact ⟨rfl, hx2.1⟩
  · go_enter Try.func25, Try.ntmps25
    go_wp2_with fail
    refine (dataOf_gen _ _ _ _ _ _ _ _ aZ aB _ (hra.held hba hx0) (hx0.up hba) hla _ dZ dG dX hpick hwith true HOK.out).mono ?_
    rintro e w2 ⟨rfl, hb2⟩
    have hx2 := hx0.next hb2
    obtain ⟨q0, q1, q2, q3, q4, q5⟩ := hx2.cells6
    rw [dataOr_true]
    cases m
    all_goals go_wp2_with (first
      | (go_at_call 101; refine (mValid_eq _ _ hts _ _ HM.out).mono ?_; rintro e w3 ⟨rfl, hb3⟩; have hx3 := hx2.next hb3; obtain ⟨q0, q1, q2, q3, q4, q5⟩ := hx3.cells6)
      | (go_at_call 44; refine (iNameValid_any _ (by unfold maxLen; omega) _).mono ?_; rintro e w4 ⟨rfl, hb4⟩; have hx4 := hx3.next hb4; obtain ⟨q0, q1, q2, q3, q4, q5⟩ := hx4.cells6)
      | (go_at_call 45; refine (isWithin_any _ _ _).mono ?_; rintro e w5 ⟨rfl, rfl⟩))
    all_goals go_ret2
    all_goals go_light
    all_goals refine ⟨?_, by first | exact hx4.1 | exact hx3.1⟩
    all_goals (clear hx0 hx2 hx3; try clear hx4)
    all_goals simp_all [dataOr]
end Go.Proofs.Ytaiijnaockbahaa
