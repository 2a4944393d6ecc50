/- What the functions of the model's chapter 2 return for kinds. What the functions of the model's chapter 2 return for validity and sameness. -/
import Derived.Test.YthbeecgfikcfdaaS
import Derived.Test.YthbeecgfikcfdaaIa
import Derived.Deep.Light
namespace Go.Proofs.Ythbeecgfikcfdaa
open Go.RowKit
set_option maxRecDepth 100000
set_option linter.unusedVariables false

theorem skn_tests (x : Int) : Z.kindName x = if ((1 : Int) == x) = true then [65] else if ((2 : Int) == x) = true then [78, 83] else if ((5 : Int) == x) = true then [67, 78, 65, 77, 69] else if ((6 : Int) == x) = true then [83, 79, 65] else if ((12 : Int) == x) = true then [80, 84, 82] else if ((15 : Int) == x) = true then [77, 88] else if ((16 : Int) == x) = true then [84, 88, 84] else [] := by
  unfold Z.kindName
  simp only [beq_iff_eq, @eq_comm Int x]
theorem sko_tests (s : ByteArray) : Z.kindOf (lst s) = if (([65] : List UInt8) == s.toList) = true then some 1 else if (([78, 83] : List UInt8) == s.toList) = true then some 2 else if (([67, 78, 65, 77, 69] : List UInt8) == s.toList) = true then some 5 else if (([83, 79, 65] : List UInt8) == s.toList) = true then some 6 else if (([80, 84, 82] : List UInt8) == s.toList) = true then some 12 else if (([77, 88] : List UInt8) == s.toList) = true then some 15 else if (([84, 88, 84] : List UInt8) == s.toList) = true then some 16 else none := by
  unfold Z.kindOf
  simp only [beq_iff_eq, toList_lst, @eq_comm (List UInt8) (lst s)]

end Go.Proofs.Ythbeecgfikcfdaa

namespace Go.Proofs.Ythbeecgfikcfdaa
open Go.RowKit
set_option maxRecDepth 100000
set_option linter.unusedVariables false

def cnt (k : Int) : Nat := if k = 1 then 4 else if k = 6 then 5 else if k = 15 then 1 else 0
def mostOf (k : Int) : Int := if k = 1 then 255 else if k = 6 then 100000 else if k = 15 then 999 else 0
theorem txt_snoc (s : ByteArray) (k : Nat) (h : k < s.size) : ((lst s).take (k + 1)).all Z.okChar = (((lst s).take k).all Z.okChar && okC s[k].toNat) := by
  rw [lst_take_succ s k h, okC_byte]; simp
theorem not_txt (s : ByteArray) (k : Nat) (h : k < s.size) (hb : okC s[k].toNat = false) : Z.okText (lst s) = false := by
  unfold Z.okText
  have hm : s[k] ∈ lst s := by rw [← lst_get s k h]; exact List.getElem_mem _
  have : (lst s).all Z.okChar = false := by
    rw [Bool.eq_false_iff]
    intro ha
    rw [List.all_eq_true] at ha
    have h2 := ha _ hm
    rw [← okC_byte] at h2
    rw [h2] at hb
    cases hb
  rw [this]; simp
theorem txt_len (s : ByteArray) (h : ¬ s.size ≤ 20) : Z.okText (lst s) = false := by unfold Z.okText; rw [lst_length]; simp [h]
theorem txt_all (s : ByteArray) (h : s.size ≤ 20) (ha : ((lst s).take s.size).all Z.okChar = true) : Z.okText (lst s) = true := by
  rw [List.take_of_length_le (by rw [lst_length]; omega)] at ha
  unfold Z.okText; rw [lst_length, ha]; simp [h]

end Go.Proofs.Ythbeecgfikcfdaa
