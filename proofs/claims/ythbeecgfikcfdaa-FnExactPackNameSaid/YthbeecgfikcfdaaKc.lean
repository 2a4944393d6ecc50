/- What the laws on the bytes of names share. -/
import Derived.Test.YthbeecgfikcfdaaKb
import Derived.Test.YthbeecgfikcfdaaH
namespace Go.Proofs.Ythbeecgfikcfdaa
open Go.RowKit
set_option maxRecDepth 100000
set_option linter.unusedVariables false

theorem PackName_v (s : ByteArray) (xs : List UInt8) (n : Nat) (ok : Bool) (hx : Hid (packOut (lst s) = xs)) (hn : Hid (xs.length = n)) (hok : Hid (Z.valid (lst s) = ok)) (hs : s.size ≤ 67108864) (w : World) :
    Calls Try.prog 12 #[.string s] w fun e w' => ∃ A c, e = .returned (.tuple #[.slice A n c, .bool ok]) ∧ w'.ownsRow w.heap.size 5 1 (.slice A n c) n (xs.map bv) ∧ Below w.heap.size w w' := by
  have h := PackName_any s hs w
  rw [hx.out, hok.out, hn.out] at h
  exact h
theorem iPackName_v (s : ByteArray) (xs : List UInt8) (n : Nat) (ok : Bool) (hx : Hid (packOut (lst s) = xs)) (hn : Hid (xs.length = n)) (hok : Hid (Z.valid (lst s) = ok)) (hs : s.size ≤ 67108864) (w : World) :
    Calls Try.prog 11 #[.string s] w fun e w' => ∃ A c, e = .returned (.tuple #[.slice A n c, .bool ok]) ∧ w'.ownsRow w.heap.size 5 1 (.slice A n c) n (xs.map bv) ∧ Below w.heap.size w w' := by
  have h := iPackName_any s hs w
  rw [hx.out, hok.out, hn.out] at h
  exact h
theorem DrawPackName_any (A : Option Addr) (c : Nat) (zs : List UInt8) (w : World) (hcode : Code w A c zs) :
    Calls Try.prog 10 #[.slice A zs.length c] w fun e w' => ∃ x : ByteArray, e = .returned (.string x) ∧ x.size ≤ 100 ∧ Below w.heap.size w w' := by
  go_enter Try.func10, Try.ntmps10
  go_wp2_with fail
  refine (l1Case_any A c zs w hcode).mono ?_
  rintro e w2 ⟨x, rfl, hx, hb⟩
  go_wp2_with fail
  go_ret
  exact ⟨x, rfl, hx, hb⟩
theorem packOut_last {s : Z.Str} (h : Z.valid s = true) : ∃ ys, packOut s = ys ++ [0] := ⟨packL (Z.labs s), by unfold packOut packN; rw [if_pos h]⟩
theorem packOut_length {s : Z.Str} (h : Z.valid s = true) : (packOut s).length = if s = [46] then 1 else s.length + 1 := by unfold packOut; rw [if_pos h]; exact packN_length h
theorem packOut_bad {s : Z.Str} (h : Z.valid s = false) : packOut s = [] := by unfold packOut; rw [if_neg (by simp [h])]
end Go.Proofs.Ythbeecgfikcfdaa
