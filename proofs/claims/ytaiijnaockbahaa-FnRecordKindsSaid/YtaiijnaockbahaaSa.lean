/- What the functions of the model's chapter 2 return for kinds. -/
import Derived.Test.YtaiijnaockbahaaX
import Derived.Test.YtaiijnaockbahaaIb
import Derived.Test.YtaiijnaockbahaaIa
import Derived.Deep.Light
namespace Go.Proofs.Ytaiijnaockbahaa
open Go.RowKit
set_option maxRecDepth 100000
set_option linter.unusedVariables false

theorem skn_tests (x : Int) : Z.kindName x = if ((1 : Int) == x) = true then [65] else if ((2 : Int) == x) = true then [78, 83] else if ((5 : Int) == x) = true then [67, 78, 65, 77, 69] else if ((6 : Int) == x) = true then [83, 79, 65] else if ((12 : Int) == x) = true then [80, 84, 82] else if ((15 : Int) == x) = true then [77, 88] else if ((16 : Int) == x) = true then [84, 88, 84] else [] := by
  unfold Z.kindName
  simp only [beq_iff_eq, @eq_comm Int x]
theorem sko_tests (s : ByteArray) : Z.kindOf (lst s) = if (([65] : List UInt8) == s.toList) = true then some 1 else if (([78, 83] : List UInt8) == s.toList) = true then some 2 else if (([67, 78, 65, 77, 69] : List UInt8) == s.toList) = true then some 5 else if (([83, 79, 65] : List UInt8) == s.toList) = true then some 6 else if (([80, 84, 82] : List UInt8) == s.toList) = true then some 12 else if (([77, 88] : List UInt8) == s.toList) = true then some 15 else if (([84, 88, 84] : List UInt8) == s.toList) = true then some 16 else none := by
  unfold Z.kindOf
  simp only [beq_iff_eq, toList_lst, @eq_comm (List UInt8) (lst s)]

set_option maxHeartbeats 4000000 in
theorem KindName_any (x : Int) (w : World) :
    Calls Try.prog 32 #[.int .i64 x] w fun e w' => e = .returned (.string (bs (Z.kindName x))) ∧ Below w.heap.size w w' := by
  go_enter Try.func32, Try.ntmps32
  go_wp2
  go_rounds 9
  all_goals go_ret
  all_goals go_light
  all_goals refine ⟨ret_str ?_, by go_grown⟩
  all_goals (rw [skn_tests]; simp [*, bs])

set_option maxHeartbeats 4000000 in
theorem KindOf_any (s : ByteArray) (w : World) :
    Calls Try.prog 70 #[.string s] w fun e w' => e = .returned (.tuple #[.int .i64 ((Z.kindOf (lst s)).getD 0), .bool (Z.kindOf (lst s)).isSome]) ∧ Below w.heap.size w w' := by
  go_enter Try.func70, Try.ntmps70
  go_wp2
  go_rounds 9
  all_goals go_ret2
  all_goals go_light
  all_goals refine ⟨?_, by go_grown⟩
  all_goals (rw [sko_tests]; simp [*])
end Go.Proofs.Ytaiijnaockbahaa
