/- What dataOf of the program returns: the data of a record, where it has the fields of its kind and no others. -/
import Derived.Test.YtaiijnaockbahaaIf
import Derived.Deep.RegionHeld3
namespace Go.Proofs.Ytaiijnaockbahaa
open Go.RowKit
set_option maxRecDepth 100000
set_option linter.unusedVariables false

/-- What a call leaves that hands over data, or none. -/
def dataOr (b : Bool) (D : Value) : Value := .tuple #[if b then D else .nilIface, .bool b]
theorem dataOr_true (D : Value) : dataOr true D = .tuple #[D, .bool true] := rfl
theorem dataOr_false (D : Value) : dataOr false D = .tuple #[.nilIface, .bool false] := rfl

theorem iSameData_eq (aN : ByteArray) (aT aK : Int) (aA : Option Addr) (aL aC : Nat) (aG aX : ByteArray) (aZ : List Int) (aB : Nat) (bN : ByteArray) (bT bK : Int) (bA : Option Addr) (bL bC : Nat) (bG bX : ByteArray) (bZ : List Int) (bB : Nat) (w : World) (hra : Reads w aB aA aL (aZ.map iv)) (hba : aB ≤ w.heap.size) (hla : aL ≤ 67108864) (hrb : Reads w bB bA bL (bZ.map iv)) (hbb : bB ≤ w.heap.size) (hlb : bL ≤ 67108864) (ok : Bool) (hok : Z.sameData (⟨lst aN, aT, aK, aZ, lst aG, lst aX⟩ : Z.Rec) (⟨lst bN, bT, bK, bZ, lst bG, lst bX⟩ : Z.Rec) = ok) :
    Calls Try.prog 17 #[.agg #[.string aN, .int .i64 aT, .int .i64 aK, .slice aA aL aC, .string aG, .string aX], .agg #[.string bN, .int .i64 bT, .int .i64 bK, .slice bA bL bC, .string bG, .string bX]] w fun e w' => e = .returned (.bool ok) ∧ Below w.heap.size w w' := by
  subst hok
  exact iSameData_any _ _ _ _ _ _ _ _ aZ aB _ _ _ _ _ _ _ _ bZ bB w hra hba hla hrb hbb hlb

/-- pickData hands D over. -/
def Picks (aN : ByteArray) (aT aK : Int) (aA : Option Addr) (aL aC : Nat) (aG aX : ByteArray) (aZ : List Int) (aB : Nat) (D : Value) : Prop := ∀ W : World, Reads W aB aA aL (aZ.map iv) → aB ≤ W.heap.size →
  Calls Try.prog 59 #[.agg #[.string aN, .int .i64 aT, .int .i64 aK, .slice aA aL aC, .string aG, .string aX]] W fun e W' => e = .returned (.tuple #[D, .bool true]) ∧ Below W.heap.size W W'
/-- withData makes a record of D. -/
def Withs (aN : ByteArray) (aT aK : Int) (aA : Option Addr) (aL aC : Nat) (aG aX : ByteArray) (aZ : List Int) (aB : Nat) (D : Value) (dZ : List Int) (dG dX : ByteArray) : Prop := ∀ W : World,
  Calls Try.prog 60 #[.agg #[.string aN, .int .i64 aT, .int .i64 aK, .slice aA aL aC, .string aG, .string aX], D] W fun e W' => ∃ A L c, e = .returned (.agg #[.string aN, .int .i64 aT, .int .i64 aK, .slice A L c, .string dG, .string dX]) ∧ Reads W' W'.heap.size A L (dZ.map iv) ∧ L ≤ 67108864 ∧ Below W.heap.size W W'

set_option maxHeartbeats 8000000 in
theorem dataOf_gen (aN : ByteArray) (aT aK : Int) (aA : Option Addr) (aL aC : Nat) (aG aX : ByteArray) (aZ : List Int) (aB : Nat) (w : World) (hra : Reads w aB aA aL (aZ.map iv)) (hba : aB ≤ w.heap.size) (hla : aL ≤ 67108864) (D : Value) (dZ : List Int) (dG dX : ByteArray) (hpick : Picks aN aT aK aA aL aC aG aX aZ aB D) (hwith : Withs aN aT aK aA aL aC aG aX aZ aB D dZ dG dX)
    (ok : Bool) (hok : Z.sameData (⟨lst aN, aT, aK, dZ, lst dG, lst dX⟩ : Z.Rec) (⟨lst aN, aT, aK, aZ, lst aG, lst aX⟩ : Z.Rec) = ok) :
    Calls Try.prog 43 #[.agg #[.string aN, .int .i64 aT, .int .i64 aK, .slice aA aL aC, .string aG, .string aX]] w fun e w' => e = .returned (dataOr ok D) ∧ Below w.heap.size w w' := by
  have hx0 := Held.box w [.string aN, .int .i64 aT, .int .i64 aK, .slice aA aL aC, .string aG, .string aX] 25
  have HOK := hid hok
  clear hok
  go_enter Try.func43, Try.ntmps43
  go_wp2_with fail
  refine (hpick _ (hra.held hba hx0) (hx0.up hba)).mono ?_
  rintro e w2 ⟨rfl, hb2⟩
  have hx2 := hx0.next hb2
  obtain ⟨q0, q1, q2, q3, q4, q5⟩ := hx2.cells6
  clear hb2
  go_wp2_with fail
  go_region_held3 (fun w' => Held w w' w.heap.size [.string aN, .int .i64 aT, .int .i64 aK, .slice aA aL aC, .string aG, .string aX] ∧ w'.cell? ⟨w.heap.size, 0, none⟩ = some (.string aN) ∧ w'.cell? ⟨w.heap.size, 1, none⟩ = some (.int .i64 aT) ∧ w'.cell? ⟨w.heap.size, 2, none⟩ = some (.int .i64 aK) ∧ w'.cell? ⟨w.heap.size, 3, none⟩ = some (.slice aA aL aC) ∧ w'.cell? ⟨w.heap.size, 4, none⟩ = some (.string aG) ∧ w'.cell? ⟨w.heap.size, 5, none⟩ = some (.string aX))
    (first
      | (exact ⟨hx2, hx2.cells6⟩)
      | (exact ⟨hx2.drewN 1, (hx2.drewN 1).cells6⟩)
      | (go_split_ands; have hx := Held.next (by assumption) hb9; exact ⟨hx, hx.cells6⟩)
      | go_keep)
    (first
      | (go_at_call 60; refine (hwith _).mono ?_; rintro e w9 ⟨A, L, c, rfl, hr9, hl9, hb9⟩)
      | (go_at_call 17; go_split_ands; refine (iSameData_eq _ _ _ _ _ _ _ _ dZ _ _ _ _ _ _ _ _ _ aZ aB _ hr9 (Nat.le_refl _) hl9 (hra.held hba (by assumption)) ((by assumption : Held w _ _ _).up hba) hla ok HOK.out).mono ?_; rintro e w10 ⟨rfl, hb9⟩))
  all_goals go_split_ands
  all_goals go_wp2
  all_goals go_ret2
  all_goals first
    | (have hok : ok = false := by simpa using ‹(!ok) = true›
       subst hok
       exact ⟨rfl, And.left (show Held w _ w.heap.size [.string aN, .int .i64 aT, .int .i64 aK, .slice aA aL aC, .string aG, .string aX] from by assumption)⟩)
    | (have hok : ok = true := by simpa using ‹(!ok) = false›
       subst hok
       exact ⟨rfl, And.left (show Held w _ w.heap.size [.string aN, .int .i64 aT, .int .i64 aK, .slice aA aL aC, .string aG, .string aX] from by assumption)⟩)
end Go.Proofs.Ytaiijnaockbahaa
