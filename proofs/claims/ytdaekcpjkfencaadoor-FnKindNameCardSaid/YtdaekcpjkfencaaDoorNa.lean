/- What the draws of numbers return, and the draws of kinds. -/
import Derived.Test.YtdaekcpjkfencaaDoorG
import Derived.Test.YtdaekcpjkfencaaDoorIb
import Derived.Test.YtdaekcpjkfencaaDoorSa
namespace Go.Proofs.YtdaekcpjkfencaaDoor
open Go.RowKit
set_option maxRecDepth 100000
set_option linter.unusedVariables false

set_option maxHeartbeats 1000000 in
theorem num_draw (g p B : Nat) (A : Option Addr) (n c : Nat) (zs : List Int) (w : World) (hr : Rd w g p) (hp : p ≤ 1000000) (hrd : Reads w B A n (zs.map iv)) (hB : B ≤ w.heap.size) (hn1 : 1 ≤ n) (hn2 : n ≤ 1048576) (hA : ∀ ad, A = some ad → ad.block ≠ g) :
    Calls Tryd.prog 24 #[.pointer (some ⟨g, 0, none⟩), .slice A n c] w fun e w' => ∃ z : Int, e = .returned (.int .i64 z) ∧ z ∈ zs ∧ Rd w' g (p + 1) ∧ But g w w' := by
  obtain rfl : n = zs.length := by simpa using hrd.1.symm
  have HA := hid hA
  clear hA
  go_enter Tryd.func24, Tryd.ntmps24
  go_wp2_with fail
  refine (pick_any g p _ w hr hp (by omega) (by omega)).mono ?_
  rintro e w1 ⟨i, rfl, hi0, hi1, hr1, hb1⟩
  obtain ⟨k, rfl⟩ := Int.eq_ofNat_of_zero_le hi0
  have hk : k < zs.length := by omega
  obtain ⟨ad, u, rfl, hab, hx, hcell⟩ := (hb1.reads hrd hB (fun _ => HA.out)).at_ hk
  rw [List.getElem?_map, List.getElem?_eq_getElem hk] at hx
  simp only [Option.map_some, Option.some.injEq] at hx
  subst hx
  obtain ⟨z, hz⟩ : ∃ z, z = zs[k] := ⟨_, rfl⟩
  have hzm : z ∈ zs := by rw [hz]; exact List.getElem_mem _
  unfold iv at hcell
  rw [← hz] at hcell
  clear hz
  go_wp2_with fail
  go_ret
  exact ⟨z, rfl, hzm, hr1, hb1⟩

/-- A new row of numbers as an argument. -/
theorem with_ints {w : World} {g p : Nat} (hr : Rd w g p) (zs : List Int) (t : TypeId) :
    Rd (w.alloc (.cells (zs.map iv).toArray t)) g p ∧ Reads (w.alloc (.cells (zs.map iv).toArray t)) (w.heap.size + 1) (some ⟨w.heap.size, 0, none⟩) zs.length (zs.map iv) ∧
      But g w (w.alloc (.cells (zs.map iv).toArray t)) ∧ w.heap.size + 1 ≤ (w.alloc (.cells (zs.map iv).toArray t)).heap.size ∧ ∀ ad : Addr, some (⟨w.heap.size, 0, none⟩ : Addr) = some ad → ad.block ≠ g := by
  have hgl := hr.lt
  have h := reads_alloc w (zs.map iv) t
  rw [List.length_map] at h
  refine ⟨hr.but ((Below.refl _ _).alloc (Nat.le_refl _) _), h, (But.refl g w).alloc _, by simp, fun ad e => ?_⟩
  injection e with e
  subst e
  show w.heap.size ≠ g
  omega

def kindNums : List Int := [1, 2, 5, 6, 12, 15, 16, 0, 3, 99]
set_option maxHeartbeats 2000000 in
theorem DrawKindName_any (A : Option Addr) (c : Nat) (zs : List UInt8) (w : World) (hcode : Code w A c zs) :
    Calls Tryd.prog 7 #[.slice A zs.length c] w fun e w' => ∃ z : Int, e = .returned (.int .i64 z) ∧ Below w.heap.size w w' := by
  go_enter Tryd.func7, Tryd.ntmps7
  go_wp2_with fail
  refine (l13Open_any A c zs w hcode.1 hcode.2.1 hcode.2.2.1 hcode.2.2.2).mono ?_
  rintro e w1 ⟨rfl, hr1, hb1⟩
  have hgl := hr1.lt
  obtain ⟨hr2, hrd2, hb2, hB2, hA2⟩ := with_ints hr1 kindNums 3
  have HA2 := hid hA2
  clear hA2
  go_wp2_with fail
  refine (num_draw _ _ _ _ 10 10 kindNums _ (by exact hr2) (by omega) (by exact hrd2) (by exact hB2) (by omega) (by omega) HA2.out).mono ?_
  rintro e w3 ⟨z, rfl, hz, hr3, hb3⟩
  have hbw3 := hb1.trans ((hb2.trans hb3).below (Nat.le_refl _) (by omega))
  clear hrd2 hB2 hb2 hb3 hr2
  go_wp2_with fail
  go_ret
  exact ⟨z, rfl, hbw3⟩

def kindTexts : List Z.Str := [[65], [78, 83], [67, 78, 65, 77, 69], [83, 79, 65], [80, 84, 82], [77, 88], [84, 88, 84]]
theorem kindTexts_le : ∀ l ∈ kindTexts, l.length ≤ 12 := by decide
def kindBends : List Z.Str := [[], [65], [78], [120]]
theorem kindBends_le : ∀ l ∈ kindBends, l.length ≤ 12 := by decide
set_option maxHeartbeats 1000000 in
theorem l2Names_any (w : World) :
    Calls Tryd.prog 26 #[] w fun e w' => e = .returned (.slice (some ⟨w.heap.size, 0, none⟩) 7 7) ∧ w' = w.alloc (.cells (kindTexts.map sv).toArray 9) := by
  go_enter Tryd.func26, Tryd.ntmps26
  go_wp2
  go_ret
  exact ⟨rfl, rfl⟩
set_option maxHeartbeats 2000000 in
theorem DrawKindOf_any (A : Option Addr) (c : Nat) (zs : List UInt8) (w : World) (hcode : Code w A c zs) :
    Calls Tryd.prog 11 #[.slice A zs.length c] w fun e w' => ∃ x : ByteArray, e = .returned (.string x) ∧ x.size ≤ 100 ∧ Below w.heap.size w w' := by
  go_enter Tryd.func11, Tryd.ntmps11
  go_wp2_with fail
  refine (l13Open_any A c zs w hcode.1 hcode.2.1 hcode.2.2.1 hcode.2.2.2).mono ?_
  rintro e w1 ⟨rfl, hr1, hb1⟩
  have hgl := hr1.lt
  obtain ⟨hr2, hrd2, hb2, hB2, hA2⟩ := with_row hr1 kindTexts 9
  have HA2 := hid hA2
  clear hA2
  obtain ⟨W, hW⟩ : ∃ W, W = w1.alloc (.cells (kindTexts.map sv).toArray 9) := ⟨_, rfl⟩
  have HW := hid hW
  rw [← hW] at hr2 hrd2 hb2 hB2
  clear hW
  go_wp2_with fail
  refine (l2Names_any w1).mono ?_
  rintro e w2 ⟨rfl, hw2⟩
  rw [← HW.out] at hw2
  subst hw2
  go_wp2_with fail
  refine (of_any _ _ 12 _ _ 7 7 kindTexts _ (by exact hr2) (by omega) (by exact hrd2) (by exact hB2) (by omega) (by omega) HA2.out kindTexts_le).mono ?_
  rintro e w3 ⟨s, rfl, hs, hr3, hb3⟩
  have hbw3 := hb1.trans ((hb2.trans hb3).below (Nat.le_refl _) (by omega))
  clear hrd2 hB2 hb2 hb3 hr2
  have hgl3 := hr3.lt
  obtain ⟨hr4, hrd4, hb4, hB4, hA4⟩ := with_row hr3 kindBends 9
  have HA4 := hid hA4
  clear hA4
  go_wp2_with fail
  refine (l1Bend_any _ _ 12 _ _ 4 4 kindBends s _ (by exact hr4) (by omega) (by exact hrd4) (by exact hB4) (by omega) (by omega) HA4.out kindBends_le (by omega) (by omega)).mono ?_
  rintro e w5 ⟨x, q, rfl, hx, hq, hr5, hb5⟩
  have hbw5 := hbw3.trans ((hb4.trans hb5).below (Nat.le_refl _) (by omega))
  go_wp2_with fail
  go_ret
  exact ⟨x, rfl, by omega, hbw5⟩
end Go.Proofs.YtdaekcpjkfencaaDoor
