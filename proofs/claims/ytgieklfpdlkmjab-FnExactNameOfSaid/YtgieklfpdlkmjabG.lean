/- What the draws of chapter 1 return. -/
import Derived.Test.YtgieklfpdlkmjabF
namespace Go.Proofs.Ytgieklfpdlkmjab
open Go.RowKit

/-- The bytes that a law is given. -/
def Code (w : World) (A : Option Addr) (c : Nat) (zs : List UInt8) : Prop := zs.length ≤ 1048576 ∧ zs.length ≤ c ∧ c ≤ maxLen ∧ Reads w w.heap.size A zs.length (zs.map bv)
theorem Code.below {w w' : World} {A : Option Addr} {c : Nat} {zs : List UInt8} (h : Code w A c zs) (hb : Below w.heap.size w w') : Code w' A c zs :=
  ⟨h.1, h.2.1, h.2.2.1, (h.2.2.2.below hb (Nat.le_refl _)).more hb.size⟩

def bendList : List Z.Str := [[], [46], [65], [42], [108, 111, 110, 103, 45, 108, 97, 98, 101, 108, 49], [32]]
theorem bendList_le : ∀ l ∈ bendList, l.length ≤ 12 := by decide
def twoList : List Z.Str := [[98, 46], [97, 46, 98, 46], [46]]
theorem twoList_le : ∀ l ∈ twoList, l.length ≤ 12 := by decide

set_option maxHeartbeats 1000000 in
theorem l1Case_any (A : Option Addr) (c : Nat) (zs : List UInt8) (w : World) (hcode : Code w A c zs) :
    Calls Try.prog 61 #[.slice A zs.length c] w fun e w' => ∃ x : ByteArray, e = .returned (.string x) ∧ x.size ≤ 100 ∧ Below w.heap.size w w' := by
  go_enter Try.func61, Try.ntmps61
  go_wp2_with fail
  refine (l13Open_any A c zs w hcode.1 hcode.2.1 hcode.2.2.1 hcode.2.2.2).mono ?_
  rintro e w1 ⟨rfl, hr1, hb1⟩
  have hgl := hr1.lt
  go_wp2_with fail
  refine (l1Name_any _ 0 w1 hr1 (by omega)).mono ?_
  rintro e w2 ⟨x, rfl, hx, hr2, hb2⟩
  have hbw2 := hb1.trans (hb2.below (Nat.le_refl _) (by omega))
  go_wp2_with fail
  refine (pick_any _ _ _ w2 hr2 (by omega) (by omega) (by omega)).mono ?_
  rintro e w3 ⟨i, rfl, hi0, hi1, hr3, hb3⟩
  have hbw3 := hbw2.trans (hb3.below (Nat.le_refl _) (by have := hb2.size; omega))
  by_cases hi : i = 0
  · subst hi
    obtain ⟨hr4, hrd4, hb4, hB4, hA4⟩ := with_row hr3 bendList 9
    have HA := hid hA4
    have hw3 := hr3.lt
    clear hA4
    go_wp2_with fail
    refine (l1Bend_any _ _ 12 _ _ 6 6 bendList x _ (by exact hr4) (by omega) (by exact hrd4) (by exact hB4) (by omega) (by omega) HA.out bendList_le (by omega) (by omega)).mono ?_
    rintro e w5 ⟨y, q, rfl, hy, hq, hr5, hb5⟩
    go_wp2_with fail
    go_ret
    exact ⟨y, rfl, by omega, hbw3.trans ((hb4.trans hb5).below (Nat.le_refl _) (by omega))⟩
  · have hi' : (i == 0) = false := by simpa using hi
    clear hi
    go_wp2_with fail
    go_ret
    exact ⟨x, rfl, by omega, hbw3⟩

set_option maxHeartbeats 1000000 in
theorem l1Two_any (A : Option Addr) (c : Nat) (zs : List UInt8) (w : World) (hcode : Code w A c zs) :
    Calls Try.prog 42 #[.slice A zs.length c] w fun e w' => ∃ x y : ByteArray, e = .returned (.tuple #[.string x, .string y]) ∧ x.size ≤ 100 ∧ y.size ≤ 100 ∧ Below w.heap.size w w' := by
  go_enter Try.func42, Try.ntmps42
  go_wp2_with fail
  refine (l13Open_any A c zs w hcode.1 hcode.2.1 hcode.2.2.1 hcode.2.2.2).mono ?_
  rintro e w1 ⟨rfl, hr1, hb1⟩
  have hgl := hr1.lt
  go_wp2_with fail
  refine (l1Name_any _ 0 w1 hr1 (by omega)).mono ?_
  rintro e w2 ⟨x, rfl, hx, hr2, hb2⟩
  have hbw2 := hb1.trans (hb2.below (Nat.le_refl _) (by omega))
  go_wp2_with fail
  refine (pick_any _ _ _ w2 hr2 (by omega) (by omega) (by omega)).mono ?_
  rintro e w3 ⟨i, rfl, hi0, hi1, hr3, hb3⟩
  have hbw3 := hbw2.trans (hb3.below (Nat.le_refl _) (by have := hb2.size; omega))
  have hw3 := hr3.lt
  by_cases hi : i = 0
  · subst hi
    obtain ⟨hr4, hrd4, hb4, hB4, hA4⟩ := with_row hr3 twoList 9
    have HA := hid hA4
    clear hA4
    go_wp2_with fail
    refine (of_any _ _ 12 _ _ 3 3 twoList _ (by exact hr4) (by omega) (by exact hrd4) (by exact hB4) (by omega) (by omega) HA.out twoList_le).mono ?_
    rintro e w5 ⟨y, rfl, hy, hr5, hb5⟩
    have hbw5 := hbw3.trans ((hb4.trans hb5).below (Nat.le_refl _) (by omega))
    go_wp2_with fail
    refine (l1Case_any A c zs w5 (hcode.below hbw5)).mono ?_
    rintro e w6 ⟨z, rfl, hz, hb6⟩
    go_wp2_with fail
    go_ret2
    exact ⟨z, y, rfl, hz, by omega, below2 hbw5 hb6⟩
  · have hi' : (i == 0) = false := by simpa using hi
    clear hi
    go_wp2_with fail
    refine (l1Case_any A c zs w3 (hcode.below hbw3)).mono ?_
    rintro e w6 ⟨z, rfl, hz, hb6⟩
    go_wp2_with fail
    go_ret2
    exact ⟨z, x, rfl, hz, by omega, below2 hbw3 hb6⟩

set_option maxHeartbeats 400000 in
theorem DrawShortName_any (A : Option Addr) (c : Nat) (zs : List UInt8) (w : World) (hcode : Code w A c zs) :
    Calls Try.prog 20 #[.slice A zs.length c] w fun e w' => ∃ x y : ByteArray, e = .returned (.tuple #[.string x, .string y]) ∧ x.size ≤ 100 ∧ y.size ≤ 100 ∧ Below w.heap.size w w' := by
  go_enter Try.func20, Try.ntmps20
  go_wp2_with fail
  refine (l1Two_any A c zs w hcode).mono ?_
  rintro e w1 ⟨x, y, rfl, hx, hy, hb1⟩
  go_wp2_with fail
  go_ret2
  exact ⟨x, y, rfl, hx, hy, hb1⟩
set_option maxHeartbeats 400000 in
theorem DrawCommonTop_any (A : Option Addr) (c : Nat) (zs : List UInt8) (w : World) (hcode : Code w A c zs) :
    Calls Try.prog 15 #[.slice A zs.length c] w fun e w' => ∃ x y : ByteArray, e = .returned (.tuple #[.string x, .string y]) ∧ x.size ≤ 100 ∧ y.size ≤ 100 ∧ Below w.heap.size w w' := by
  go_enter Try.func15, Try.ntmps15
  go_wp2_with fail
  refine (l1Two_any A c zs w hcode).mono ?_
  rintro e w1 ⟨x, y, rfl, hx, hy, hb1⟩
  go_wp2_with fail
  go_ret2
  exact ⟨x, y, rfl, hx, hy, hb1⟩
end Go.Proofs.Ytgieklfpdlkmjab
