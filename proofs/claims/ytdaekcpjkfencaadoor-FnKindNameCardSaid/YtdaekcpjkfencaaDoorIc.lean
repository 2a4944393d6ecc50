/- What KindName and KindOf of the program return, where the table of kinds is as the program's text lays it. -/
import Derived.Test.YtdaekcpjkfencaaDoorIb
import Derived.Deep.Light
namespace Go.Proofs.YtdaekcpjkfencaaDoor
open Go.RowKit
set_option maxRecDepth 100000
set_option linter.unusedVariables false

def ktCells : List Value := [.int .i64 1, .string ⟨#[65]⟩, .int .i64 2, .string ⟨#[78, 83]⟩, .int .i64 5, .string ⟨#[67, 78, 65, 77, 69]⟩, .int .i64 6, .string ⟨#[83, 79, 65]⟩, .int .i64 12, .string ⟨#[80, 84, 82]⟩, .int .i64 15, .string ⟨#[77, 88]⟩, .int .i64 16, .string ⟨#[84, 88, 84]⟩]
/-- The table of kinds lies where the program has it. -/
def KT (w : World) : Prop := 0 < w.heap.size ∧ ∀ j, j < 14 → w.cell? ⟨0, j, none⟩ = ktCells[j]?
theorem KT.below {w w' : World} (h : KT w) (hb : Below w.heap.size w w') : KT w' :=
  ⟨by have := hb.size; have := h.1; omega, fun j hj => (hb.cell (p := ⟨_, j, none⟩) h.1).trans (h.2 j hj)⟩
theorem KT.cells {w : World} (h : KT w) : w.cell? ⟨0, 0, none⟩ = some (.int .i64 1) ∧ w.cell? ⟨0, 1, none⟩ = some (.string ⟨#[65]⟩) ∧ w.cell? ⟨0, 2, none⟩ = some (.int .i64 2) ∧ w.cell? ⟨0, 3, none⟩ = some (.string ⟨#[78, 83]⟩) ∧ w.cell? ⟨0, 4, none⟩ = some (.int .i64 5) ∧ w.cell? ⟨0, 5, none⟩ = some (.string ⟨#[67, 78, 65, 77, 69]⟩) ∧ w.cell? ⟨0, 6, none⟩ = some (.int .i64 6) ∧ w.cell? ⟨0, 7, none⟩ = some (.string ⟨#[83, 79, 65]⟩) ∧ w.cell? ⟨0, 8, none⟩ = some (.int .i64 12) ∧ w.cell? ⟨0, 9, none⟩ = some (.string ⟨#[80, 84, 82]⟩) ∧ w.cell? ⟨0, 10, none⟩ = some (.int .i64 15) ∧ w.cell? ⟨0, 11, none⟩ = some (.string ⟨#[77, 88]⟩) ∧ w.cell? ⟨0, 12, none⟩ = some (.int .i64 16) ∧ w.cell? ⟨0, 13, none⟩ = some (.string ⟨#[84, 88, 84]⟩) :=
  ⟨h.2 0 (by decide), h.2 1 (by decide), h.2 2 (by decide), h.2 3 (by decide), h.2 4 (by decide), h.2 5 (by decide), h.2 6 (by decide), h.2 7 (by decide), h.2 8 (by decide), h.2 9 (by decide), h.2 10 (by decide), h.2 11 (by decide), h.2 12 (by decide), h.2 13 (by decide)⟩

theorem kt_at0 (W : World) : (Instr.index 44 (.agg #[.int .i64 1, .string ⟨#[65]⟩, .int .i64 2, .string ⟨#[78, 83]⟩, .int .i64 5, .string ⟨#[67, 78, 65, 77, 69]⟩, .int .i64 6, .string ⟨#[83, 79, 65]⟩, .int .i64 12, .string ⟨#[80, 84, 82]⟩, .int .i64 15, .string ⟨#[77, 88]⟩, .int .i64 16, .string ⟨#[84, 88, 84]⟩]) (.int .i64 0)).run Tryd.prog W = .ok (.agg #[.int .i64 1, .string ⟨#[65]⟩]) W := by kernel_rfl
theorem kt_at1 (W : World) : (Instr.index 44 (.agg #[.int .i64 1, .string ⟨#[65]⟩, .int .i64 2, .string ⟨#[78, 83]⟩, .int .i64 5, .string ⟨#[67, 78, 65, 77, 69]⟩, .int .i64 6, .string ⟨#[83, 79, 65]⟩, .int .i64 12, .string ⟨#[80, 84, 82]⟩, .int .i64 15, .string ⟨#[77, 88]⟩, .int .i64 16, .string ⟨#[84, 88, 84]⟩]) (.int .i64 1)).run Tryd.prog W = .ok (.agg #[.int .i64 2, .string ⟨#[78, 83]⟩]) W := by kernel_rfl
theorem kt_at2 (W : World) : (Instr.index 44 (.agg #[.int .i64 1, .string ⟨#[65]⟩, .int .i64 2, .string ⟨#[78, 83]⟩, .int .i64 5, .string ⟨#[67, 78, 65, 77, 69]⟩, .int .i64 6, .string ⟨#[83, 79, 65]⟩, .int .i64 12, .string ⟨#[80, 84, 82]⟩, .int .i64 15, .string ⟨#[77, 88]⟩, .int .i64 16, .string ⟨#[84, 88, 84]⟩]) (.int .i64 2)).run Tryd.prog W = .ok (.agg #[.int .i64 5, .string ⟨#[67, 78, 65, 77, 69]⟩]) W := by kernel_rfl
theorem kt_at3 (W : World) : (Instr.index 44 (.agg #[.int .i64 1, .string ⟨#[65]⟩, .int .i64 2, .string ⟨#[78, 83]⟩, .int .i64 5, .string ⟨#[67, 78, 65, 77, 69]⟩, .int .i64 6, .string ⟨#[83, 79, 65]⟩, .int .i64 12, .string ⟨#[80, 84, 82]⟩, .int .i64 15, .string ⟨#[77, 88]⟩, .int .i64 16, .string ⟨#[84, 88, 84]⟩]) (.int .i64 3)).run Tryd.prog W = .ok (.agg #[.int .i64 6, .string ⟨#[83, 79, 65]⟩]) W := by kernel_rfl
theorem kt_at4 (W : World) : (Instr.index 44 (.agg #[.int .i64 1, .string ⟨#[65]⟩, .int .i64 2, .string ⟨#[78, 83]⟩, .int .i64 5, .string ⟨#[67, 78, 65, 77, 69]⟩, .int .i64 6, .string ⟨#[83, 79, 65]⟩, .int .i64 12, .string ⟨#[80, 84, 82]⟩, .int .i64 15, .string ⟨#[77, 88]⟩, .int .i64 16, .string ⟨#[84, 88, 84]⟩]) (.int .i64 4)).run Tryd.prog W = .ok (.agg #[.int .i64 12, .string ⟨#[80, 84, 82]⟩]) W := by kernel_rfl
theorem kt_at5 (W : World) : (Instr.index 44 (.agg #[.int .i64 1, .string ⟨#[65]⟩, .int .i64 2, .string ⟨#[78, 83]⟩, .int .i64 5, .string ⟨#[67, 78, 65, 77, 69]⟩, .int .i64 6, .string ⟨#[83, 79, 65]⟩, .int .i64 12, .string ⟨#[80, 84, 82]⟩, .int .i64 15, .string ⟨#[77, 88]⟩, .int .i64 16, .string ⟨#[84, 88, 84]⟩]) (.int .i64 5)).run Tryd.prog W = .ok (.agg #[.int .i64 15, .string ⟨#[77, 88]⟩]) W := by kernel_rfl
theorem kt_at6 (W : World) : (Instr.index 44 (.agg #[.int .i64 1, .string ⟨#[65]⟩, .int .i64 2, .string ⟨#[78, 83]⟩, .int .i64 5, .string ⟨#[67, 78, 65, 77, 69]⟩, .int .i64 6, .string ⟨#[83, 79, 65]⟩, .int .i64 12, .string ⟨#[80, 84, 82]⟩, .int .i64 15, .string ⟨#[77, 88]⟩, .int .i64 16, .string ⟨#[84, 88, 84]⟩]) (.int .i64 6)).run Tryd.prog W = .ok (.agg #[.int .i64 16, .string ⟨#[84, 88, 84]⟩]) W := by kernel_rfl
theorem kn_tests (x : Int) : Z.kindName x = if ((1 : Int) == x) = true then [65] else if ((2 : Int) == x) = true then [78, 83] else if ((5 : Int) == x) = true then [67, 78, 65, 77, 69] else if ((6 : Int) == x) = true then [83, 79, 65] else if ((12 : Int) == x) = true then [80, 84, 82] else if ((15 : Int) == x) = true then [77, 88] else if ((16 : Int) == x) = true then [84, 88, 84] else [] := by
  unfold Z.kindName
  simp only [beq_iff_eq, @eq_comm Int x]
theorem ko_tests (s : ByteArray) : Z.kindOf (lst s) = if (([65] : List UInt8) == s.toList) = true then some 1 else if (([78, 83] : List UInt8) == s.toList) = true then some 2 else if (([67, 78, 65, 77, 69] : List UInt8) == s.toList) = true then some 5 else if (([83, 79, 65] : List UInt8) == s.toList) = true then some 6 else if (([80, 84, 82] : List UInt8) == s.toList) = true then some 12 else if (([77, 88] : List UInt8) == s.toList) = true then some 15 else if (([84, 88, 84] : List UInt8) == s.toList) = true then some 16 else none := by
  unfold Z.kindOf
  simp only [beq_iff_eq, toList_lst, @eq_comm (List UInt8) (lst s)]

set_option maxHeartbeats 4000000 in
theorem iKindName_any (x : Int) (w : World) (hk : KT w) :
    Calls Tryd.prog 8 #[.int .i64 x] w fun e w' => e = .returned (.string (bs (Z.kindName x))) ∧ Below w.heap.size w w' := by
  have hsz := hk.1
  obtain ⟨k0, k1, k2, k3, k4, k5, k6, k7, k8, k9, k10, k11, k12, k13⟩ := hk.cells
  clear hk
  have i0 := kt_at0
  have i1 := kt_at1
  have i2 := kt_at2
  have i3 := kt_at3
  have i4 := kt_at4
  have i5 := kt_at5
  have i6 := kt_at6
  go_enter Tryd.func8, Tryd.ntmps8
  go_wp2
  clear k0 k1 k2 k3 k4 k5 k6 k7 k8 k9 k10 k11 k12 k13
  go_rounds 9
  all_goals clear i0 i1 i2 i3 i4 i5 i6
  all_goals go_ret
  all_goals go_light
  all_goals refine ⟨ret_str ?_, by go_grown⟩
  all_goals (rw [kn_tests]; simp [*, bs])

set_option maxHeartbeats 4000000 in
theorem iKindOf_any (s : ByteArray) (w : World) (hk : KT w) :
    Calls Tryd.prog 10 #[.string s] w fun e w' => e = .returned (.tuple #[.int .i64 ((Z.kindOf (lst s)).getD 0), .bool (Z.kindOf (lst s)).isSome]) ∧ Below w.heap.size w w' := by
  have hsz := hk.1
  obtain ⟨k0, k1, k2, k3, k4, k5, k6, k7, k8, k9, k10, k11, k12, k13⟩ := hk.cells
  clear hk
  have i0 := kt_at0
  have i1 := kt_at1
  have i2 := kt_at2
  have i3 := kt_at3
  have i4 := kt_at4
  have i5 := kt_at5
  have i6 := kt_at6
  go_enter Tryd.func10, Tryd.ntmps10
  go_wp2
  clear k0 k1 k2 k3 k4 k5 k6 k7 k8 k9 k10 k11 k12 k13
  go_rounds 9
  all_goals clear i0 i1 i2 i3 i4 i5 i6
  all_goals go_ret2
  all_goals go_light
  all_goals refine ⟨?_, by go_grown⟩
  all_goals (rw [ko_tests]; simp [*])
end Go.Proofs.YtdaekcpjkfencaaDoor
