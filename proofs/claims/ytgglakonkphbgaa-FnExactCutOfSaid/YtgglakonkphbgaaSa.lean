/- What the functions of the model's chapter 2 return for kinds. What the functions of the model's chapter 2 return for validity and sameness. -/
import Derived.Test.YtgglakonkphbgaaS
import Derived.Test.YtgglakonkphbgaaIa
import Derived.Deep.Light
namespace Go.Proofs.Ytgglakonkphbgaa
open Go.RowKit
set_option maxRecDepth 100000
set_option linter.unusedVariables false

theorem skn_tests (x : Int) : Z.kindName x = if ((1 : Int) == x) = true then [65] else if ((2 : Int) == x) = true then [78, 83] else if ((5 : Int) == x) = true then [67, 78, 65, 77, 69] else if ((6 : Int) == x) = true then [83, 79, 65] else if ((12 : Int) == x) = true then [80, 84, 82] else if ((15 : Int) == x) = true then [77, 88] else if ((16 : Int) == x) = true then [84, 88, 84] else [] := by
  unfold Z.kindName
  simp only [beq_iff_eq, @eq_comm Int x]
theorem sko_tests (s : ByteArray) : Z.kindOf (lst s) = if (([65] : List UInt8) == s.toList) = true then some 1 else if (([78, 83] : List UInt8) == s.toList) = true then some 2 else if (([67, 78, 65, 77, 69] : List UInt8) == s.toList) = true then some 5 else if (([83, 79, 65] : List UInt8) == s.toList) = true then some 6 else if (([80, 84, 82] : List UInt8) == s.toList) = true then some 12 else if (([77, 88] : List UInt8) == s.toList) = true then some 15 else if (([84, 88, 84] : List UInt8) == s.toList) = true then some 16 else none := by
  unfold Z.kindOf
  simp only [beq_iff_eq, toList_lst, @eq_comm (List UInt8) (lst s)]

set_option maxHeartbeats 4000000 in
theorem KindName_any (x : Int) (w : World) :
    Calls Try.prog 97 #[.int .i64 x] w fun e w' => e = .returned (.string (bs (Z.kindName x))) ∧ Below w.heap.size w w' := by
  go_enter Try.func97, Try.ntmps97
  go_wp2
  go_rounds 9
  all_goals go_ret
  all_goals go_light
  all_goals refine ⟨ret_str ?_, by go_grown⟩
  all_goals (rw [skn_tests]; simp [*, bs])

end Go.Proofs.Ytgglakonkphbgaa

namespace Go.Proofs.Ytgglakonkphbgaa
open Go.RowKit
set_option maxRecDepth 100000
set_option linter.unusedVariables false

def cnt (k : Int) : Nat := if k = 1 then 4 else if k = 6 then 5 else if k = 15 then 1 else 0
def mostOf (k : Int) : Int := if k = 1 then 255 else if k = 6 then 100000 else if k = 15 then 999 else 0
set_option maxHeartbeats 400000 in
theorem l2Nums_any (k : Int) (w : World) :
    Calls Try.prog 98 #[.int .i64 k] w fun e w' => e = .returned (.tuple #[.int .i64 (cnt k), .int .i64 (mostOf k)]) ∧ w = w' := by
  go_enter Try.func98, Try.ntmps98
  go_wp2
  all_goals go_ret2
  all_goals exact ⟨by simp_all [cnt, mostOf], rfl⟩

theorem txt_snoc (s : ByteArray) (k : Nat) (h : k < s.size) : ((lst s).take (k + 1)).all Z.okChar = (((lst s).take k).all Z.okChar && okC s[k].toNat) := by
  rw [lst_take_succ s k h, okC_byte]; simp
theorem not_txt (s : ByteArray) (k : Nat) (h : k < s.size) (hb : okC s[k].toNat = false) : Z.okText (lst s) = false := by
  unfold Z.okText
  have hm : s[k] ∈ lst s := by rw [← lst_get s k h]; exact List.getElem_mem _
  have : (lst s).all Z.okChar = false := by
    rw [Bool.eq_false_iff]
    intro ha
    rw [List.all_eq_true] at ha
    have h2 := ha _ hm
    rw [← okC_byte] at h2
    rw [h2] at hb
    cases hb
  rw [this]; simp
theorem txt_len (s : ByteArray) (h : ¬ s.size ≤ 20) : Z.okText (lst s) = false := by unfold Z.okText; rw [lst_length]; simp [h]
theorem txt_all (s : ByteArray) (h : s.size ≤ 20) (ha : ((lst s).take s.size).all Z.okChar = true) : Z.okText (lst s) = true := by
  rw [List.take_of_length_le (by rw [lst_length]; omega)] at ha
  unfold Z.okText; rw [lst_length, ha]; simp [h]

set_option maxHeartbeats 1000000 in
theorem l2Text_any (s : ByteArray) (hs : s.size ≤ 67108864) (w : World) :
    Calls Try.prog 99 #[.string s] w fun e w' => e = .returned (.bool (Z.okText (lst s))) ∧ w = w' := by
  go_enter Try.func99, Try.ntmps99
  go_wp2
  go_loop [3] (fun i => ∃ k : Nat, k ≤ s.size ∧ k ≤ 21 ∧ i = .int .i64 k ∧ Hid (((lst s).take k).all Z.okChar = true)) (fun i => s.size - (intOf i).toNat)
  case atStart => exact ⟨0, Nat.zero_le _, by omega, rfl, hid (by simp)⟩
  case round =>
    obtain ⟨k, hk, hk2, rfl, hok⟩ := hrel
    by_cases hlt : k < s.size
    · by_cases hle : k ≤ 20
      · go_wp2
        all_goals first
          | (go_ret
             go_light
             refine ⟨ret_bool (not_txt s k hlt ?_).symm, rfl⟩
             clear hok
             simp_all [okC]
             try omega)
          | (go_light
             refine ⟨⟨k + 1, by omega, by omega, by go_num, hid ?_⟩, by simp [intOf]; omega⟩
             rw [txt_snoc s k hlt, hok.out]
             clear hok
             simp_all [okC])
      · have HN := hid (txt_len s (by omega))
        go_wp2
        all_goals go_ret
        all_goals exact ⟨ret_bool (by rw [HN.out]; simp; try omega), rfl⟩
    · have hks : k = s.size := by omega
      by_cases h20 : s.size ≤ 20
      · have HN := hid (txt_all s h20 (by rw [← hks]; exact hok.out))
        clear hks
        go_wp2
        all_goals go_ret
        all_goals exact ⟨ret_bool (by rw [HN.out]; simp; try omega), rfl⟩
      · have HN := hid (txt_len s h20)
        clear hks
        go_wp2
        all_goals go_ret
        all_goals exact ⟨ret_bool (by rw [HN.out]; simp; try omega), rfl⟩
end Go.Proofs.Ytgglakonkphbgaa
