/- What dataOf of the program returns: the data of a record, where it has the fields of its kind and no others. What validData of the program returns: the data of a valid record. What validData and RecordValid of the program return, for every record. -/
import Derived.Test.YtgglakonkphbgaaId
import Derived.Deep.RegionHeld3
import Derived.Test.YtgglakonkphbgaaSc
namespace Go.Proofs.Ytgglakonkphbgaa
open Go.RowKit
set_option maxRecDepth 100000
set_option linter.unusedVariables false

/-- What a call leaves that hands over data, or none. -/
def dataOr (b : Bool) (D : Value) : Value := .tuple #[if b then D else .nilIface, .bool b]
theorem dataOr_true (D : Value) : dataOr true D = .tuple #[D, .bool true] := rfl
theorem dataOr_false (D : Value) : dataOr false D = .tuple #[.nilIface, .bool false] := rfl

theorem iSameData_eq (aN : ByteArray) (aT aK : Int) (aA : Option Addr) (aL aC : Nat) (aG aX : ByteArray) (aZ : List Int) (aB : Nat) (bN : ByteArray) (bT bK : Int) (bA : Option Addr) (bL bC : Nat) (bG bX : ByteArray) (bZ : List Int) (bB : Nat) (w : World) (hra : Reads w aB aA aL (aZ.map iv)) (hba : aB ≤ w.heap.size) (hla : aL ≤ 67108864) (hrb : Reads w bB bA bL (bZ.map iv)) (hbb : bB ≤ w.heap.size) (hlb : bL ≤ 67108864) (ok : Bool) (hok : Z.sameData (⟨lst aN, aT, aK, aZ, lst aG, lst aX⟩ : Z.Rec) (⟨lst bN, bT, bK, bZ, lst bG, lst bX⟩ : Z.Rec) = ok) :
    Calls Try.prog 67 #[.agg #[.string aN, .int .i64 aT, .int .i64 aK, .slice aA aL aC, .string aG, .string aX], .agg #[.string bN, .int .i64 bT, .int .i64 bK, .slice bA bL bC, .string bG, .string bX]] w fun e w' => e = .returned (.bool ok) ∧ Below w.heap.size w w' := by
  subst hok
  exact iSameData_any _ _ _ _ _ _ _ _ aZ aB _ _ _ _ _ _ _ _ bZ bB w hra hba hla hrb hbb hlb

/-- pickData hands D over. -/
def Picks (aN : ByteArray) (aT aK : Int) (aA : Option Addr) (aL aC : Nat) (aG aX : ByteArray) (aZ : List Int) (aB : Nat) (D : Value) : Prop := ∀ W : World, Reads W aB aA aL (aZ.map iv) → aB ≤ W.heap.size →
  Calls Try.prog 119 #[.agg #[.string aN, .int .i64 aT, .int .i64 aK, .slice aA aL aC, .string aG, .string aX]] W fun e W' => e = .returned (.tuple #[D, .bool true]) ∧ Below W.heap.size W W'
/-- withData makes a record of D. -/
def Withs (aN : ByteArray) (aT aK : Int) (aA : Option Addr) (aL aC : Nat) (aG aX : ByteArray) (aZ : List Int) (aB : Nat) (D : Value) (dZ : List Int) (dG dX : ByteArray) : Prop := ∀ W : World,
  Calls Try.prog 120 #[.agg #[.string aN, .int .i64 aT, .int .i64 aK, .slice aA aL aC, .string aG, .string aX], D] W fun e W' => ∃ A L c, e = .returned (.agg #[.string aN, .int .i64 aT, .int .i64 aK, .slice A L c, .string dG, .string dX]) ∧ Reads W' W'.heap.size A L (dZ.map iv) ∧ L ≤ 67108864 ∧ Below W.heap.size W W'

set_option maxHeartbeats 8000000 in
theorem dataOf_gen (aN : ByteArray) (aT aK : Int) (aA : Option Addr) (aL aC : Nat) (aG aX : ByteArray) (aZ : List Int) (aB : Nat) (w : World) (hra : Reads w aB aA aL (aZ.map iv)) (hba : aB ≤ w.heap.size) (hla : aL ≤ 67108864) (D : Value) (dZ : List Int) (dG dX : ByteArray) (hpick : Picks aN aT aK aA aL aC aG aX aZ aB D) (hwith : Withs aN aT aK aA aL aC aG aX aZ aB D dZ dG dX)
    (ok : Bool) (hok : Z.sameData (⟨lst aN, aT, aK, dZ, lst dG, lst dX⟩ : Z.Rec) (⟨lst aN, aT, aK, aZ, lst aG, lst aX⟩ : Z.Rec) = ok) :
    Calls Try.prog 113 #[.agg #[.string aN, .int .i64 aT, .int .i64 aK, .slice aA aL aC, .string aG, .string aX]] w fun e w' => e = .returned (dataOr ok D) ∧ Below w.heap.size w w' := by
  have hx0 := Held.box w [.string aN, .int .i64 aT, .int .i64 aK, .slice aA aL aC, .string aG, .string aX] 54
  have HOK := hid hok
  clear hok
  go_enter Try.func113, Try.ntmps113
  go_wp2_with fail
  refine (hpick _ (hra.held hba hx0) (hx0.up hba)).mono ?_
  rintro e w2 ⟨rfl, hb2⟩
  have hx2 := hx0.next hb2
  obtain ⟨q0, q1, q2, q3, q4, q5⟩ := hx2.cells6
  clear hb2
  go_wp2_with fail
  go_region_held3 (fun w' => Held w w' w.heap.size [.string aN, .int .i64 aT, .int .i64 aK, .slice aA aL aC, .string aG, .string aX] ∧ w'.cell? ⟨w.heap.size, 0, none⟩ = some (.string aN) ∧ w'.cell? ⟨w.heap.size, 1, none⟩ = some (.int .i64 aT) ∧ w'.cell? ⟨w.heap.size, 2, none⟩ = some (.int .i64 aK) ∧ w'.cell? ⟨w.heap.size, 3, none⟩ = some (.slice aA aL aC) ∧ w'.cell? ⟨w.heap.size, 4, none⟩ = some (.string aG) ∧ w'.cell? ⟨w.heap.size, 5, none⟩ = some (.string aX))
    (first
      | (exact ⟨hx2, hx2.cells6⟩)
      | (exact ⟨hx2.drewN 1, (hx2.drewN 1).cells6⟩)
      | (go_split_ands; have hx := Held.next (by assumption) hb9; exact ⟨hx, hx.cells6⟩)
      | go_keep)
    (first
      | (go_at_call 120; refine (hwith _).mono ?_; rintro e w9 ⟨A, L, c, rfl, hr9, hl9, hb9⟩)
      | (go_at_call 67; go_split_ands; refine (iSameData_eq _ _ _ _ _ _ _ _ dZ _ _ _ _ _ _ _ _ _ aZ aB _ hr9 (Nat.le_refl _) hl9 (hra.held hba (by assumption)) ((by assumption : Held w _ _ _).up hba) hla ok HOK.out).mono ?_; rintro e w10 ⟨rfl, hb9⟩))
  all_goals go_split_ands
  all_goals go_wp2
  all_goals go_ret2
  all_goals first
    | (have hok : ok = false := by simpa using ‹(!ok) = true›
       subst hok
       exact ⟨rfl, And.left (show Held w _ w.heap.size [.string aN, .int .i64 aT, .int .i64 aK, .slice aA aL aC, .string aG, .string aX] from by assumption)⟩)
    | (have hok : ok = true := by simpa using ‹(!ok) = false›
       subst hok
       exact ⟨rfl, And.left (show Held w _ w.heap.size [.string aN, .int .i64 aT, .int .i64 aK, .slice aA aL aC, .string aG, .string aX] from by assumption)⟩)
end Go.Proofs.Ytgglakonkphbgaa

namespace Go.Proofs.Ytgglakonkphbgaa
open Go.RowKit
set_option maxRecDepth 100000
set_option linter.unusedVariables false

theorem aValid_eq (n0 n1 n2 n3 : Int)  (w : World) (m : Bool) (hm : ([n0, n1, n2, n3].all (within · 255)) = m) :
    Calls Try.prog 141 #[.agg #[.int .i64 n0, .int .i64 n1, .int .i64 n2, .int .i64 n3]] w fun e w' => e = .returned (.bool m) ∧ Below w.heap.size w w' := by
  subst hm
  exact aValid_any _ _ _ _ _
set_option maxHeartbeats 4000000 in
theorem validData_A (aN : ByteArray) (aT aK : Int) (aA : Option Addr) (aL aC : Nat) (aG aX : ByteArray) (aZ : List Int) (aB : Nat) (w : World) (hra : Reads w aB aA aL (aZ.map iv)) (hba : aB ≤ w.heap.size) (hla : aL ≤ 67108864) (hsa : aN.size ≤ 67108864) (n0 n1 n2 n3 : Int)  (dZ : List Int) (dG dX : ByteArray) (hpick : Picks aN aT aK aA aL aC aG aX aZ aB (.iface 123 (.agg #[.int .i64 n0, .int .i64 n1, .int .i64 n2, .int .i64 n3]))) (hwith : Withs aN aT aK aA aL aC aG aX aZ aB (.iface 123 (.agg #[.int .i64 n0, .int .i64 n1, .int .i64 n2, .int .i64 n3])) dZ dG dX)
    (ok : Bool) (hok : Z.sameData (⟨lst aN, aT, aK, dZ, lst dG, lst dX⟩ : Z.Rec) (⟨lst aN, aT, aK, aZ, lst aG, lst aX⟩ : Z.Rec) = ok) (m : Bool) (hm : ([n0, n1, n2, n3].all (within · 255)) = m) :
    Calls Try.prog 103 #[.agg #[.string aN, .int .i64 aT, .int .i64 aK, .slice aA aL aC, .string aG, .string aX]] w fun e w' => e = .returned (dataOr (ok && (m && (Z.valid (lst aN) && within aT 100000))) (.iface 123 (.agg #[.int .i64 n0, .int .i64 n1, .int .i64 n2, .int .i64 n3]))) ∧ Below w.heap.size w w' := by
  have hx0 := Held.box w [.string aN, .int .i64 aT, .int .i64 aK, .slice aA aL aC, .string aG, .string aX] 54
  have HOK := hid hok
  have HM := hid hm
  clear hok hm
  cases ok
  · go_enter Try.func103, Try.ntmps103
    go_wp2_with fail
    refine (dataOf_gen _ _ _ _ _ _ _ _ aZ aB _ (hra.held hba hx0) (hx0.up hba) hla _ dZ dG dX hpick hwith false HOK.out).mono ?_
    rintro e w2 ⟨rfl, hb2⟩
    have hx2 := hx0.next hb2
    rw [dataOr_false]
    go_wp2
    go_ret2
    exact ⟨rfl, hx2.1⟩
  · go_enter Try.func103, Try.ntmps103
    go_wp2_with fail
    refine (dataOf_gen _ _ _ _ _ _ _ _ aZ aB _ (hra.held hba hx0) (hx0.up hba) hla _ dZ dG dX hpick hwith true HOK.out).mono ?_
    rintro e w2 ⟨rfl, hb2⟩
    have hx2 := hx0.next hb2
    obtain ⟨q0, q1, q2, q3, q4, q5⟩ := hx2.cells6
    rw [dataOr_true]
    cases m
    all_goals go_wp2_with (first
      | (go_at_call 141; refine (aValid_eq _ _ _ _ _ _ HM.out).mono ?_; rintro e w3 ⟨rfl, hb3⟩; have hx3 := hx2.next hb3; obtain ⟨q0, q1, q2, q3, q4, q5⟩ := hx3.cells6)
      | (go_at_call 72; refine (iNameValid_any _ (by unfold maxLen; omega) _).mono ?_; rintro e w4 ⟨rfl, hb4⟩; have hx4 := hx3.next hb4; obtain ⟨q0, q1, q2, q3, q4, q5⟩ := hx4.cells6)
      | (go_at_call 114; refine (isWithin_any _ _ _).mono ?_; rintro e w5 ⟨rfl, rfl⟩))
    all_goals go_ret2
    all_goals go_light
    all_goals refine ⟨?_, by first | exact hx4.1 | exact hx3.1⟩
    all_goals (clear hx0 hx2 hx3; try clear hx4)
    all_goals simp_all [dataOr]

theorem tValid_eq (t : ByteArray) (hts : t.size ≤ 67108864) (w : World) (m : Bool) (hm : (Z.valid (lst t)) = m) :
    Calls Try.prog 144 #[.agg #[.string t]] w fun e w' => e = .returned (.bool m) ∧ Below w.heap.size w w' := by
  subst hm
  exact tValid_any _ hts _
set_option maxHeartbeats 4000000 in
theorem validData_T (aN : ByteArray) (aT aK : Int) (aA : Option Addr) (aL aC : Nat) (aG aX : ByteArray) (aZ : List Int) (aB : Nat) (w : World) (hra : Reads w aB aA aL (aZ.map iv)) (hba : aB ≤ w.heap.size) (hla : aL ≤ 67108864) (hsa : aN.size ≤ 67108864) (t : ByteArray) (hts : t.size ≤ 67108864) (dZ : List Int) (dG dX : ByteArray) (hpick : Picks aN aT aK aA aL aC aG aX aZ aB (.iface 125 (.agg #[.string t]))) (hwith : Withs aN aT aK aA aL aC aG aX aZ aB (.iface 125 (.agg #[.string t])) dZ dG dX)
    (ok : Bool) (hok : Z.sameData (⟨lst aN, aT, aK, dZ, lst dG, lst dX⟩ : Z.Rec) (⟨lst aN, aT, aK, aZ, lst aG, lst aX⟩ : Z.Rec) = ok) (m : Bool) (hm : (Z.valid (lst t)) = m) :
    Calls Try.prog 103 #[.agg #[.string aN, .int .i64 aT, .int .i64 aK, .slice aA aL aC, .string aG, .string aX]] w fun e w' => e = .returned (dataOr (ok && (m && (Z.valid (lst aN) && within aT 100000))) (.iface 125 (.agg #[.string t]))) ∧ Below w.heap.size w w' := by
  have hx0 := Held.box w [.string aN, .int .i64 aT, .int .i64 aK, .slice aA aL aC, .string aG, .string aX] 54
  have HOK := hid hok
  have HM := hid hm
  clear hok hm
  cases ok
  · go_enter Try.func103, Try.ntmps103
    go_wp2_with fail
    refine (dataOf_gen _ _ _ _ _ _ _ _ aZ aB _ (hra.held hba hx0) (hx0.up hba) hla _ dZ dG dX hpick hwith false HOK.out).mono ?_
    rintro e w2 ⟨rfl, hb2⟩
    have hx2 := hx0.next hb2
    rw [dataOr_false]
    go_wp2
    go_ret2
    exact ⟨rfl, hx2.1⟩
  · go_enter Try.func103, Try.ntmps103
    go_wp2_with fail
    refine (dataOf_gen _ _ _ _ _ _ _ _ aZ aB _ (hra.held hba hx0) (hx0.up hba) hla _ dZ dG dX hpick hwith true HOK.out).mono ?_
    rintro e w2 ⟨rfl, hb2⟩
    have hx2 := hx0.next hb2
    obtain ⟨q0, q1, q2, q3, q4, q5⟩ := hx2.cells6
    rw [dataOr_true]
    cases m
    all_goals go_wp2_with (first
      | (go_at_call 144; refine (tValid_eq _ hts _ _ HM.out).mono ?_; rintro e w3 ⟨rfl, hb3⟩; have hx3 := hx2.next hb3; obtain ⟨q0, q1, q2, q3, q4, q5⟩ := hx3.cells6)
      | (go_at_call 72; refine (iNameValid_any _ (by unfold maxLen; omega) _).mono ?_; rintro e w4 ⟨rfl, hb4⟩; have hx4 := hx3.next hb4; obtain ⟨q0, q1, q2, q3, q4, q5⟩ := hx4.cells6)
      | (go_at_call 114; refine (isWithin_any _ _ _).mono ?_; rintro e w5 ⟨rfl, rfl⟩))
    all_goals go_ret2
    all_goals go_light
    all_goals refine ⟨?_, by first | exact hx4.1 | exact hx3.1⟩
    all_goals (clear hx0 hx2 hx3; try clear hx4)
    all_goals simp_all [dataOr]

theorem xValid_eq (t : ByteArray) (hts : t.size ≤ 67108864) (w : World) (m : Bool) (hm : (Z.okText (lst t)) = m) :
    Calls Try.prog 150 #[.agg #[.string t]] w fun e w' => e = .returned (.bool m) ∧ Below w.heap.size w w' := by
  subst hm
  exact xValid_any _ hts _
set_option maxHeartbeats 4000000 in
theorem validData_X (aN : ByteArray) (aT aK : Int) (aA : Option Addr) (aL aC : Nat) (aG aX : ByteArray) (aZ : List Int) (aB : Nat) (w : World) (hra : Reads w aB aA aL (aZ.map iv)) (hba : aB ≤ w.heap.size) (hla : aL ≤ 67108864) (hsa : aN.size ≤ 67108864) (t : ByteArray) (hts : t.size ≤ 67108864) (dZ : List Int) (dG dX : ByteArray) (hpick : Picks aN aT aK aA aL aC aG aX aZ aB (.iface 133 (.agg #[.string t]))) (hwith : Withs aN aT aK aA aL aC aG aX aZ aB (.iface 133 (.agg #[.string t])) dZ dG dX)
    (ok : Bool) (hok : Z.sameData (⟨lst aN, aT, aK, dZ, lst dG, lst dX⟩ : Z.Rec) (⟨lst aN, aT, aK, aZ, lst aG, lst aX⟩ : Z.Rec) = ok) (m : Bool) (hm : (Z.okText (lst t)) = m) :
    Calls Try.prog 103 #[.agg #[.string aN, .int .i64 aT, .int .i64 aK, .slice aA aL aC, .string aG, .string aX]] w fun e w' => e = .returned (dataOr (ok && (m && (Z.valid (lst aN) && within aT 100000))) (.iface 133 (.agg #[.string t]))) ∧ Below w.heap.size w w' := by
  have hx0 := Held.box w [.string aN, .int .i64 aT, .int .i64 aK, .slice aA aL aC, .string aG, .string aX] 54
  have HOK := hid hok
  have HM := hid hm
  clear hok hm
  cases ok
  · go_enter Try.func103, Try.ntmps103
    go_wp2_with fail
    refine (dataOf_gen _ _ _ _ _ _ _ _ aZ aB _ (hra.held hba hx0) (hx0.up hba) hla _ dZ dG dX hpick hwith false HOK.out).mono ?_
    rintro e w2 ⟨rfl, hb2⟩
    have hx2 := hx0.next hb2
    rw [dataOr_false]
    go_wp2
    go_ret2
    exact ⟨rfl, hx2.1⟩
  · go_enter Try.func103, Try.ntmps103
    go_wp2_with fail
    refine (dataOf_gen _ _ _ _ _ _ _ _ aZ aB _ (hra.held hba hx0) (hx0.up hba) hla _ dZ dG dX hpick hwith true HOK.out).mono ?_
    rintro e w2 ⟨rfl, hb2⟩
    have hx2 := hx0.next hb2
    obtain ⟨q0, q1, q2, q3, q4, q5⟩ := hx2.cells6
    rw [dataOr_true]
    cases m
    all_goals go_wp2_with (first
      | (go_at_call 150; refine (xValid_eq _ hts _ _ HM.out).mono ?_; rintro e w3 ⟨rfl, hb3⟩; have hx3 := hx2.next hb3; obtain ⟨q0, q1, q2, q3, q4, q5⟩ := hx3.cells6)
      | (go_at_call 72; refine (iNameValid_any _ (by unfold maxLen; omega) _).mono ?_; rintro e w4 ⟨rfl, hb4⟩; have hx4 := hx3.next hb4; obtain ⟨q0, q1, q2, q3, q4, q5⟩ := hx4.cells6)
      | (go_at_call 114; refine (isWithin_any _ _ _).mono ?_; rintro e w5 ⟨rfl, rfl⟩))
    all_goals go_ret2
    all_goals go_light
    all_goals refine ⟨?_, by first | exact hx4.1 | exact hx3.1⟩
    all_goals (clear hx0 hx2 hx3; try clear hx4)
    all_goals simp_all [dataOr]

theorem sValid_eq (t : ByteArray) (n0 n1 n2 n3 n4 : Int) (hts : t.size ≤ 67108864) (w : World) (m : Bool) (hm : ((Z.valid (lst t) && within n0 4294967295 && [n1, n2, n3, n4].all (within · 100000))) = m) :
    Calls Try.prog 146 #[.agg #[.string t, .int .i64 n0, .int .i64 n1, .int .i64 n2, .int .i64 n3, .int .i64 n4]] w fun e w' => e = .returned (.bool m) ∧ Below w.heap.size w w' := by
  subst hm
  exact sValid_any _ _ _ _ _ _ hts _
set_option maxHeartbeats 4000000 in
theorem validData_S (aN : ByteArray) (aT aK : Int) (aA : Option Addr) (aL aC : Nat) (aG aX : ByteArray) (aZ : List Int) (aB : Nat) (w : World) (hra : Reads w aB aA aL (aZ.map iv)) (hba : aB ≤ w.heap.size) (hla : aL ≤ 67108864) (hsa : aN.size ≤ 67108864) (t : ByteArray) (n0 n1 n2 n3 n4 : Int) (hts : t.size ≤ 67108864) (dZ : List Int) (dG dX : ByteArray) (hpick : Picks aN aT aK aA aL aC aG aX aZ aB (.iface 128 (.agg #[.string t, .int .i64 n0, .int .i64 n1, .int .i64 n2, .int .i64 n3, .int .i64 n4]))) (hwith : Withs aN aT aK aA aL aC aG aX aZ aB (.iface 128 (.agg #[.string t, .int .i64 n0, .int .i64 n1, .int .i64 n2, .int .i64 n3, .int .i64 n4])) dZ dG dX)
    (ok : Bool) (hok : Z.sameData (⟨lst aN, aT, aK, dZ, lst dG, lst dX⟩ : Z.Rec) (⟨lst aN, aT, aK, aZ, lst aG, lst aX⟩ : Z.Rec) = ok) (m : Bool) (hm : ((Z.valid (lst t) && within n0 4294967295 && [n1, n2, n3, n4].all (within · 100000))) = m) :
    Calls Try.prog 103 #[.agg #[.string aN, .int .i64 aT, .int .i64 aK, .slice aA aL aC, .string aG, .string aX]] w fun e w' => e = .returned (dataOr (ok && (m && (Z.valid (lst aN) && within aT 100000))) (.iface 128 (.agg #[.string t, .int .i64 n0, .int .i64 n1, .int .i64 n2, .int .i64 n3, .int .i64 n4]))) ∧ Below w.heap.size w w' := by
  have hx0 := Held.box w [.string aN, .int .i64 aT, .int .i64 aK, .slice aA aL aC, .string aG, .string aX] 54
  have HOK := hid hok
  have HM := hid hm
  clear hok hm
  cases ok
  · go_enter Try.func103, Try.ntmps103
    go_wp2_with fail
    refine (dataOf_gen _ _ _ _ _ _ _ _ aZ aB _ (hra.held hba hx0) (hx0.up hba) hla _ dZ dG dX hpick hwith false HOK.out).mono ?_
    rintro e w2 ⟨rfl, hb2⟩
    have hx2 := hx0.next hb2
    rw [dataOr_false]
    go_wp2
    go_ret2
    exact ⟨rfl, hx2.1⟩
  · go_enter Try.func103, Try.ntmps103
    go_wp2_with fail
    refine (dataOf_gen _ _ _ _ _ _ _ _ aZ aB _ (hra.held hba hx0) (hx0.up hba) hla _ dZ dG dX hpick hwith true HOK.out).mono ?_
    rintro e w2 ⟨rfl, hb2⟩
    have hx2 := hx0.next hb2
    obtain ⟨q0, q1, q2, q3, q4, q5⟩ := hx2.cells6
    rw [dataOr_true]
    cases m
    all_goals go_wp2_with (first
      | (go_at_call 146; refine (sValid_eq _ _ _ _ _ _ hts _ _ HM.out).mono ?_; rintro e w3 ⟨rfl, hb3⟩; have hx3 := hx2.next hb3; obtain ⟨q0, q1, q2, q3, q4, q5⟩ := hx3.cells6)
      | (go_at_call 72; refine (iNameValid_any _ (by unfold maxLen; omega) _).mono ?_; rintro e w4 ⟨rfl, hb4⟩; have hx4 := hx3.next hb4; obtain ⟨q0, q1, q2, q3, q4, q5⟩ := hx4.cells6)
      | (go_at_call 114; refine (isWithin_any _ _ _).mono ?_; rintro e w5 ⟨rfl, rfl⟩))
    all_goals go_ret2
    all_goals go_light
    all_goals refine ⟨?_, by first | exact hx4.1 | exact hx3.1⟩
    all_goals (clear hx0 hx2 hx3; try clear hx4)
    all_goals simp_all [dataOr]

theorem mValid_eq (n0 : Int) (t : ByteArray) (hts : t.size ≤ 67108864) (w : World) (m : Bool) (hm : ((Z.valid (lst t) && [n0].all (within · 999))) = m) :
    Calls Try.prog 148 #[.agg #[.int .i64 n0, .string t]] w fun e w' => e = .returned (.bool m) ∧ Below w.heap.size w w' := by
  subst hm
  exact mValid_any _ _ hts _
set_option maxHeartbeats 4000000 in
theorem validData_M (aN : ByteArray) (aT aK : Int) (aA : Option Addr) (aL aC : Nat) (aG aX : ByteArray) (aZ : List Int) (aB : Nat) (w : World) (hra : Reads w aB aA aL (aZ.map iv)) (hba : aB ≤ w.heap.size) (hla : aL ≤ 67108864) (hsa : aN.size ≤ 67108864) (n0 : Int) (t : ByteArray) (hts : t.size ≤ 67108864) (dZ : List Int) (dG dX : ByteArray) (hpick : Picks aN aT aK aA aL aC aG aX aZ aB (.iface 131 (.agg #[.int .i64 n0, .string t]))) (hwith : Withs aN aT aK aA aL aC aG aX aZ aB (.iface 131 (.agg #[.int .i64 n0, .string t])) dZ dG dX)
    (ok : Bool) (hok : Z.sameData (⟨lst aN, aT, aK, dZ, lst dG, lst dX⟩ : Z.Rec) (⟨lst aN, aT, aK, aZ, lst aG, lst aX⟩ : Z.Rec) = ok) (m : Bool) (hm : ((Z.valid (lst t) && [n0].all (within · 999))) = m) :
    Calls Try.prog 103 #[.agg #[.string aN, .int .i64 aT, .int .i64 aK, .slice aA aL aC, .string aG, .string aX]] w fun e w' => e = .returned (dataOr (ok && (m && (Z.valid (lst aN) && within aT 100000))) (.iface 131 (.agg #[.int .i64 n0, .string t]))) ∧ Below w.heap.size w w' := by
  have hx0 := Held.box w [.string aN, .int .i64 aT, .int .i64 aK, .slice aA aL aC, .string aG, .string aX] 54
  have HOK := hid hok
  have HM := hid hm
  clear hok hm
  cases ok
  · go_enter Try.func103, Try.ntmps103
    go_wp2_with fail
    refine (dataOf_gen _ _ _ _ _ _ _ _ aZ aB _ (hra.held hba hx0) (hx0.up hba) hla _ dZ dG dX hpick hwith false HOK.out).mono ?_
    rintro e w2 ⟨rfl, hb2⟩
    have hx2 := hx0.next hb2
    rw [dataOr_false]
    go_wp2
    go_ret2
    exact ⟨rfl, hx2.1⟩
  · go_enter Try.func103, Try.ntmps103
    go_wp2_with fail
    refine (dataOf_gen _ _ _ _ _ _ _ _ aZ aB _ (hra.held hba hx0) (hx0.up hba) hla _ dZ dG dX hpick hwith true HOK.out).mono ?_
    rintro e w2 ⟨rfl, hb2⟩
    have hx2 := hx0.next hb2
    obtain ⟨q0, q1, q2, q3, q4, q5⟩ := hx2.cells6
    rw [dataOr_true]
    cases m
    all_goals go_wp2_with (first
      | (go_at_call 148; refine (mValid_eq _ _ hts _ _ HM.out).mono ?_; rintro e w3 ⟨rfl, hb3⟩; have hx3 := hx2.next hb3; obtain ⟨q0, q1, q2, q3, q4, q5⟩ := hx3.cells6)
      | (go_at_call 72; refine (iNameValid_any _ (by unfold maxLen; omega) _).mono ?_; rintro e w4 ⟨rfl, hb4⟩; have hx4 := hx3.next hb4; obtain ⟨q0, q1, q2, q3, q4, q5⟩ := hx4.cells6)
      | (go_at_call 114; refine (isWithin_any _ _ _).mono ?_; rintro e w5 ⟨rfl, rfl⟩))
    all_goals go_ret2
    all_goals go_light
    all_goals refine ⟨?_, by first | exact hx4.1 | exact hx3.1⟩
    all_goals (clear hx0 hx2 hx3; try clear hx4)
    all_goals simp_all [dataOr]
end Go.Proofs.Ytgglakonkphbgaa

namespace Go.Proofs.Ytgglakonkphbgaa
open Go.RowKit
set_option maxRecDepth 100000
set_option linter.unusedVariables false

theorem pad_ne {n : Nat} {zs : List Int} (h : zs.length ≠ n) : pad n zs ≠ zs := fun e => h (by rw [← e, pad_len])
theorem sd_false {a b : Z.Rec} (h : a.nums ≠ b.nums) : Z.sameData a b = false := by simp [Z.sameData, h]
theorem okText_nil' : Z.okText [] = true := by decide

theorem rv_A (N : Z.Str) (T : Int) (zs : List Int) (g x : Z.Str) (n0 n1 n2 n3 : Int) (hp : pad 4 zs = [n0, n1, n2, n3]) :
    Z.recValid ⟨N, T, 1, zs, g, x⟩ = (Z.sameData ⟨N, T, 1, [n0, n1, n2, n3], [], []⟩ ⟨N, T, 1, zs, g, x⟩ && ([n0, n1, n2, n3].all (within · 255) && (Z.valid N && within T 100000))) := by
  by_cases hl : zs.length = 4
  · rw [pad_eq hl] at hp
    subst hp
    rw [Bool.eq_iff_iff]
    simp [Z.recValid, Z.sameData, Z.okNums, Z.lims, Z.okRest, within, Z.kindName]
    constructor <;> intro h <;> simp_all [okText_nil']
  · rw [sd_false (by rw [← hp]; exact pad_ne hl), rv_nums (by exact okNums_len (by simpa [cnt] using hl))]
    rfl

theorem rv_S (N : Z.Str) (T : Int) (zs : List Int) (g x : Z.Str) (n0 n1 n2 n3 n4 : Int) (hp : pad 5 zs = [n0, n1, n2, n3, n4]) :
    Z.recValid ⟨N, T, 6, zs, g, x⟩ = (Z.sameData ⟨N, T, 6, [n0, n1, n2, n3, n4], g, []⟩ ⟨N, T, 6, zs, g, x⟩ && ((Z.valid g && within n0 4294967295 && [n1, n2, n3, n4].all (within · 100000)) && (Z.valid N && within T 100000))) := by
  by_cases hl : zs.length = 5
  · rw [pad_eq hl] at hp
    subst hp
    rw [Bool.eq_iff_iff]
    simp [Z.recValid, Z.sameData, Z.okNums, Z.lims, Z.okRest, within, Z.kindName]
    constructor <;> intro h <;> simp_all
  · rw [sd_false (by rw [← hp]; exact pad_ne hl), rv_nums (by exact okNums_len (by simpa [cnt] using hl))]
    rfl

theorem rv_M (N : Z.Str) (T : Int) (zs : List Int) (g x : Z.Str) (n0 : Int) (hp : pad 1 zs = [n0]) :
    Z.recValid ⟨N, T, 15, zs, g, x⟩ = (Z.sameData ⟨N, T, 15, [n0], g, []⟩ ⟨N, T, 15, zs, g, x⟩ && ((Z.valid g && [n0].all (within · 999)) && (Z.valid N && within T 100000))) := by
  by_cases hl : zs.length = 1
  · rw [pad_eq hl] at hp
    subst hp
    rw [Bool.eq_iff_iff]
    simp [Z.recValid, Z.sameData, Z.okNums, Z.lims, Z.okRest, within, Z.kindName]
    constructor <;> intro h <;> simp_all
  · rw [sd_false (by rw [← hp]; exact pad_ne hl), rv_nums (by exact okNums_len (by simpa [cnt] using hl))]
    rfl

theorem rv_X (N : Z.Str) (T : Int) (zs : List Int) (g x : Z.Str) :
    Z.recValid ⟨N, T, 16, zs, g, x⟩ = (Z.sameData ⟨N, T, 16, [], [], x⟩ ⟨N, T, 16, zs, g, x⟩ && (Z.okText x && (Z.valid N && within T 100000))) := by
  cases zs with
  | nil =>
    rw [Bool.eq_iff_iff]
    simp [Z.recValid, Z.sameData, Z.okNums, Z.lims, Z.okRest, within, Z.kindName]
    constructor <;> intro h <;> simp_all
  | cons a r =>
    rw [sd_false (by simp), rv_nums (by simp [Z.lims, Z.okNums])]
    rfl
theorem rv_T (N : Z.Str) (T k : Int) (zs : List Int) (g x : Z.Str) (hk : k = 2 ∨ k = 5 ∨ k = 12) :
    Z.recValid ⟨N, T, k, zs, g, x⟩ = (Z.sameData ⟨N, T, k, [], g, []⟩ ⟨N, T, k, zs, g, x⟩ && (Z.valid g && (Z.valid N && within T 100000))) := by
  rcases hk with rfl | rfl | rfl
  all_goals cases zs with
  | nil =>
    rw [Bool.eq_iff_iff]
    simp [Z.recValid, Z.sameData, Z.okNums, Z.lims, Z.okRest, within, Z.kindName]
    constructor <;> intro h <;> simp_all
  | cons a r =>
    rw [sd_false (by simp), rv_nums (by simp [Z.lims, Z.okNums])]
    rfl
theorem rv_none (N : Z.Str) (T k : Int) (zs : List Int) (g x : Z.Str) (k1 : ¬ k = 1) (k2 : ¬ k = 2) (k5 : ¬ k = 5) (k6 : ¬ k = 6) (k12 : ¬ k = 12) (k15 : ¬ k = 15) (k16 : ¬ k = 16) : Z.recValid ⟨N, T, k, zs, g, x⟩ = false := by
  simp [Z.recValid, Z.kindName, k1, k2, k5, k6, k12, k15, k16]

/-- The data of a record, as the program holds them. -/
def dataV (k : Int) (zs : List Int) (g x : ByteArray) : Value :=
  if k = 1 then .iface 123 (.agg ((pad 4 zs).map iv).toArray)
  else if k = 6 then .iface 128 (.agg (Value.string g :: (pad 5 zs).map iv).toArray)
  else if k = 15 then .iface 131 (.agg ((pad 1 zs).map iv ++ [Value.string g]).toArray)
  else if k = 16 then .iface 133 (.agg #[.string x])
  else .iface 125 (.agg #[.string g])
theorem list4_inj {a b c d e f g h : Int} (hh : [a, b, c, d] = [e, f, g, h]) : a = e ∧ b = f ∧ c = g ∧ d = h := by simpa using hh
theorem list5_inj {a b c d i e f g h j : Int} (hh : [a, b, c, d, i] = [e, f, g, h, j]) : a = e ∧ b = f ∧ c = g ∧ d = h ∧ i = j := by simpa using hh
theorem list1_inj {a b : Int} (hh : [a] = [b]) : a = b := by simpa using hh

set_option maxHeartbeats 1000000 in
theorem dataOf_none (aN : ByteArray) (aT aK : Int) (aA : Option Addr) (aL aC : Nat) (aG aX : ByteArray) (aZ : List Int) (aB : Nat) (w : World) (hra : Reads w aB aA aL (aZ.map iv)) (hba : aB ≤ w.heap.size) (hla : aL ≤ 67108864) (k1 : ¬ aK = 1) (k2 : ¬ aK = 2) (k5 : ¬ aK = 5) (k6 : ¬ aK = 6) (k12 : ¬ aK = 12) (k15 : ¬ aK = 15) (k16 : ¬ aK = 16) :
    Calls Try.prog 113 #[.agg #[.string aN, .int .i64 aT, .int .i64 aK, .slice aA aL aC, .string aG, .string aX]] w fun e w' => e = .returned (.tuple #[.nilIface, .bool false]) ∧ Below w.heap.size w w' := by
  have hx0 := Held.box w [.string aN, .int .i64 aT, .int .i64 aK, .slice aA aL aC, .string aG, .string aX] 54
  go_enter Try.func113, Try.ntmps113
  go_wp2_with fail
  refine (pick_none _ _ _ _ _ _ _ _ aZ aB _ (hra.held hba hx0) (hx0.up hba) hla k1 k2 k5 k6 k12 k15 k16).mono ?_
  rintro e w2 ⟨rfl, hb2⟩
  have hx2 := hx0.next hb2
  go_wp2_with fail
  go_quiet (fail)
  go_wp2
  go_ret2
  exact ⟨rfl, (hx2.drewN _).1⟩
set_option maxHeartbeats 1000000 in
theorem validData_none (aN : ByteArray) (aT aK : Int) (aA : Option Addr) (aL aC : Nat) (aG aX : ByteArray) (aZ : List Int) (aB : Nat) (w : World) (hra : Reads w aB aA aL (aZ.map iv)) (hba : aB ≤ w.heap.size) (hla : aL ≤ 67108864) (k1 : ¬ aK = 1) (k2 : ¬ aK = 2) (k5 : ¬ aK = 5) (k6 : ¬ aK = 6) (k12 : ¬ aK = 12) (k15 : ¬ aK = 15) (k16 : ¬ aK = 16) :
    Calls Try.prog 103 #[.agg #[.string aN, .int .i64 aT, .int .i64 aK, .slice aA aL aC, .string aG, .string aX]] w fun e w' => e = .returned (.tuple #[.nilIface, .bool false]) ∧ Below w.heap.size w w' := by
  have hx0 := Held.box w [.string aN, .int .i64 aT, .int .i64 aK, .slice aA aL aC, .string aG, .string aX] 54
  go_enter Try.func103, Try.ntmps103
  go_wp2_with fail
  refine (dataOf_none _ _ _ _ _ _ _ _ aZ aB _ (hra.held hba hx0) (hx0.up hba) hla k1 k2 k5 k6 k12 k15 k16).mono ?_
  rintro e w2 ⟨rfl, hb2⟩
  have hx2 := hx0.next hb2
  go_wp2
  go_ret2
  exact ⟨rfl, hx2.1⟩

theorem ret_or {b c : Bool} {D E : Value} (h : c = b) (hD : D = E) : Ending.returned (dataOr b D) = Ending.returned (dataOr c E) := by rw [h, hD]
theorem validData_any (aN : ByteArray) (aT aK : Int) (aA : Option Addr) (aL aC : Nat) (aG aX : ByteArray) (aZ : List Int) (aB : Nat) (w : World) (hra : Reads w aB aA aL (aZ.map iv)) (hba : aB ≤ w.heap.size) (hla : aL ≤ 67108864) (hsa : aN.size ≤ 67108864) (hga : aG.size ≤ 67108864) (hxa : aX.size ≤ 67108864) :
    Calls Try.prog 103 #[.agg #[.string aN, .int .i64 aT, .int .i64 aK, .slice aA aL aC, .string aG, .string aX]] w fun e w' => e = .returned (dataOr (Z.recValid (⟨lst aN, aT, aK, aZ, lst aG, lst aX⟩ : Z.Rec)) (dataV aK aZ aG aX)) ∧ Below w.heap.size w w' := by
  have hsa' : aN.size ≤ 67108864 := hsa
  by_cases k1 : aK = 1
  · subst k1
    obtain ⟨n0, n1, n2, n3, hp⟩ := list4 (pad_len 4 aZ)
    refine (validData_A _ _ _ _ _ _ _ _ aZ aB w hra hba hla hsa n0 n1 n2 n3 [n0, n1, n2, n3] ⟨#[]⟩ ⟨#[]⟩
      (fun W hr hB => (pick_A aN aT aA aL aC aG aX aZ aB W hr hB hla).mono fun e w' ⟨m0, m1, m2, m3, he, hq, hb⟩ => by
        obtain ⟨rfl, rfl, rfl, rfl⟩ := list4_inj (hq.out.symm.trans hp)
        exact ⟨he, hb⟩)
      (fun W => (with_A _ _ _ _ _ _ _ _ n0 n1 n2 n3 W).mono fun e w' ⟨A, c, he, hr, hb⟩ => ⟨A, 4, c, he, hr, by omega, hb⟩) _ rfl _ rfl).mono fun e w' ⟨he, hb⟩ => ⟨he.trans (ret_or ?_ ?_), hb⟩
    · rw [rv_A _ _ _ _ _ n0 n1 n2 n3 hp]; rfl
    · unfold dataV; rw [if_pos rfl, hp]; rfl
  · by_cases k6 : aK = 6
    · subst k6
      obtain ⟨n0, n1, n2, n3, n4, hp⟩ := list5 (pad_len 5 aZ)
      refine (validData_S _ _ _ _ _ _ _ _ aZ aB w hra hba hla hsa aG n0 n1 n2 n3 n4 hga [n0, n1, n2, n3, n4] aG ⟨#[]⟩
        (fun W hr hB => (pick_S aN aT aA aL aC aG aX aZ aB W hr hB hla).mono fun e w' ⟨m0, m1, m2, m3, m4, he, hq, hb⟩ => by
          obtain ⟨rfl, rfl, rfl, rfl, rfl⟩ := list5_inj (hq.out.symm.trans hp)
          exact ⟨he, hb⟩)
        (fun W => (with_S _ _ _ _ _ _ _ _ aG n0 n1 n2 n3 n4 W).mono fun e w' ⟨A, c, he, hr, hb⟩ => ⟨A, 5, c, he, hr, by omega, hb⟩) _ rfl _ rfl).mono fun e w' ⟨he, hb⟩ => ⟨he.trans (ret_or ?_ ?_), hb⟩
      · rw [rv_S _ _ _ _ _ n0 n1 n2 n3 n4 hp]; rfl
      · unfold dataV; rw [if_neg (by decide), if_pos rfl, hp]; rfl
    · by_cases k15 : aK = 15
      · subst k15
        obtain ⟨n0, hp⟩ := list1 (pad_len 1 aZ)
        refine (validData_M _ _ _ _ _ _ _ _ aZ aB w hra hba hla hsa n0 aG hga [n0] aG ⟨#[]⟩
          (fun W hr hB => (pick_M aN aT aA aL aC aG aX aZ aB W hr hB hla).mono fun e w' ⟨m0, he, hq, hb⟩ => by
            obtain rfl := list1_inj (hq.out.symm.trans hp)
            exact ⟨he, hb⟩)
          (fun W => (with_M _ _ _ _ _ _ _ _ n0 aG W).mono fun e w' ⟨A, c, he, hr, hb⟩ => ⟨A, 1, c, he, hr, by omega, hb⟩) _ rfl _ rfl).mono fun e w' ⟨he, hb⟩ => ⟨he.trans (ret_or ?_ ?_), hb⟩
        · rw [rv_M _ _ _ _ _ n0 hp]; rfl
        · unfold dataV; rw [if_neg (by decide), if_neg (by decide), if_pos rfl, hp]; rfl
      · by_cases k16 : aK = 16
        · subst k16
          refine (validData_X _ _ _ _ _ _ _ _ aZ aB w hra hba hla hsa aX hxa [] ⟨#[]⟩ aX
            (fun W hr hB => pick_X aN aT aA aL aC aG aX aZ aB W hr hB hla)
            (fun W => (with_X _ _ _ _ _ _ _ _ aX W).mono fun e w' ⟨he, hb⟩ => ⟨none, 0, 0, he, Reads.none_, by omega, hb⟩) _ rfl _ rfl).mono fun e w' ⟨he, hb⟩ => ⟨he.trans (ret_or ?_ ?_), hb⟩
          · rw [rv_X]; rfl
          · unfold dataV; rw [if_neg (by decide), if_neg (by decide), if_neg (by decide), if_pos rfl]
        · by_cases kT : aK = 2 ∨ aK = 5 ∨ aK = 12
          · refine (validData_T _ _ _ _ _ _ _ _ aZ aB w hra hba hla hsa aG hga [] aG ⟨#[]⟩
              (fun W hr hB => pick_T aN aT aK aA aL aC aG aX aZ aB W hr hB hla kT)
              (fun W => (with_T _ _ _ _ _ _ _ _ aG W).mono fun e w' ⟨he, hb⟩ => ⟨none, 0, 0, he, Reads.none_, by omega, hb⟩) _ rfl _ rfl).mono fun e w' ⟨he, hb⟩ => ⟨he.trans (ret_or ?_ ?_), hb⟩
            · rw [rv_T _ _ _ _ _ _ kT]; rfl
            · unfold dataV; rw [if_neg k1, if_neg k6, if_neg k15, if_neg k16]
          · have k2 : ¬ aK = 2 := fun e => kT (Or.inl e)
            have k5 : ¬ aK = 5 := fun e => kT (Or.inr (Or.inl e))
            have k12 : ¬ aK = 12 := fun e => kT (Or.inr (Or.inr e))
            refine (validData_none _ _ _ _ _ _ _ _ aZ aB w hra hba hla k1 k2 k5 k6 k12 k15 k16).mono fun e w' ⟨he, hb⟩ => ⟨he.trans ?_, hb⟩
            rw [rv_none _ _ _ _ _ _ k1 k2 k5 k6 k12 k15 k16]; rfl

set_option maxHeartbeats 1000000 in
theorem iRecordValid_any (aN : ByteArray) (aT aK : Int) (aA : Option Addr) (aL aC : Nat) (aG aX : ByteArray) (aZ : List Int) (aB : Nat) (w : World) (hra : Reads w aB aA aL (aZ.map iv)) (hba : aB ≤ w.heap.size) (hla : aL ≤ 67108864) (hsa : aN.size ≤ 67108864) (hga : aG.size ≤ 67108864) (hxa : aX.size ≤ 67108864) :
    Calls Try.prog 89 #[.agg #[.string aN, .int .i64 aT, .int .i64 aK, .slice aA aL aC, .string aG, .string aX]] w fun e w' => e = .returned (.bool (Z.recValid (⟨lst aN, aT, aK, aZ, lst aG, lst aX⟩ : Z.Rec))) ∧ Below w.heap.size w w' := by
  have hx0 := Held.box w [.string aN, .int .i64 aT, .int .i64 aK, .slice aA aL aC, .string aG, .string aX] 54
  obtain ⟨v, hv⟩ : ∃ v, Z.recValid (⟨lst aN, aT, aK, aZ, lst aG, lst aX⟩ : Z.Rec) = v := ⟨_, rfl⟩
  have HV := hid hv
  rw [hv]
  clear hv
  go_enter Try.func89, Try.ntmps89
  go_wp2_with fail
  refine (validData_any _ _ _ _ _ _ _ _ aZ aB _ (hra.held hba hx0) (hx0.up hba) hla hsa hga hxa).mono ?_
  rintro e w2 ⟨rfl, hb2⟩
  have hx2 := hx0.next hb2
  rw [HV.out]
  cases v
  · rw [dataOr_false]
    go_wp2
    go_ret
    exact ⟨rfl, hx2.1⟩
  · rw [dataOr_true]
    go_wp2
    go_ret
    exact ⟨rfl, hx2.1⟩
end Go.Proofs.Ytgglakonkphbgaa
