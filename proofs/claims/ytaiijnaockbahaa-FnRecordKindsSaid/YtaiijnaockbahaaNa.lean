/- What the draws of numbers return, and the draws of kinds. -/
import Derived.Test.YtaiijnaockbahaaG
import Derived.Test.YtaiijnaockbahaaIb
import Derived.Test.YtaiijnaockbahaaSa
namespace Go.Proofs.Ytaiijnaockbahaa
open Go.RowKit
set_option maxRecDepth 100000
set_option linter.unusedVariables false

set_option maxHeartbeats 1000000 in
theorem num_draw (g p B : Nat) (A : Option Addr) (n c : Nat) (zs : List Int) (w : World) (hr : Rd w g p) (hp : p ≤ 1000000) (hrd : Reads w B A n (zs.map iv)) (hB : B ≤ w.heap.size) (hn1 : 1 ≤ n) (hn2 : n ≤ 1048576) (hA : ∀ ad, A = some ad → ad.block ≠ g) :
    Calls Try.prog 55 #[.pointer (some ⟨g, 0, none⟩), .slice A n c] w fun e w' => ∃ z : Int, e = .returned (.int .i64 z) ∧ z ∈ zs ∧ Rd w' g (p + 1) ∧ But g w w' := by
  obtain rfl : n = zs.length := by simpa using hrd.1.symm
  have HA := hid hA
  clear hA
  go_enter Try.func55, Try.ntmps55
  go_wp2_with fail
  refine (pick_any g p _ w hr hp (by omega) (by omega)).mono ?_
  rintro e w1 ⟨i, rfl, hi0, hi1, hr1, hb1⟩
  obtain ⟨k, rfl⟩ := Int.eq_ofNat_of_zero_le hi0
  have hk : k < zs.length := by omega
  obtain ⟨ad, u, rfl, hab, hx, hcell⟩ := (hb1.reads hrd hB (fun _ => HA.out)).at_ hk
  rw [List.getElem?_map, List.getElem?_eq_getElem hk] at hx
  simp only [Option.map_some, Option.some.injEq] at hx
  subst hx
  obtain ⟨z, hz⟩ : ∃ z, z = zs[k] := ⟨_, rfl⟩
  have hzm : z ∈ zs := by rw [hz]; exact List.getElem_mem _
  unfold iv at hcell
  rw [← hz] at hcell
  clear hz
  go_wp2_with fail
  go_ret
  exact ⟨z, rfl, hzm, hr1, hb1⟩

/-- A new row of numbers as an argument. -/
theorem with_ints {w : World} {g p : Nat} (hr : Rd w g p) (zs : List Int) (t : TypeId) :
    Rd (w.alloc (.cells (zs.map iv).toArray t)) g p ∧ Reads (w.alloc (.cells (zs.map iv).toArray t)) (w.heap.size + 1) (some ⟨w.heap.size, 0, none⟩) zs.length (zs.map iv) ∧
      But g w (w.alloc (.cells (zs.map iv).toArray t)) ∧ w.heap.size + 1 ≤ (w.alloc (.cells (zs.map iv).toArray t)).heap.size ∧ ∀ ad : Addr, some (⟨w.heap.size, 0, none⟩ : Addr) = some ad → ad.block ≠ g := by
  have hgl := hr.lt
  have h := reads_alloc w (zs.map iv) t
  rw [List.length_map] at h
  refine ⟨hr.but ((Below.refl _ _).alloc (Nat.le_refl _) _), h, (But.refl g w).alloc _, by simp, fun ad e => ?_⟩
  injection e with e
  subst e
  show w.heap.size ≠ g
  omega

def kindNums : List Int := [1, 2, 5, 6, 12, 15, 16, 0, 3, 99]
def kindTexts : List Z.Str := [[65], [78, 83], [67, 78, 65, 77, 69], [83, 79, 65], [80, 84, 82], [77, 88], [84, 88, 84]]
theorem kindTexts_le : ∀ l ∈ kindTexts, l.length ≤ 12 := by decide
def kindBends : List Z.Str := [[], [65], [78], [120]]
theorem kindBends_le : ∀ l ∈ kindBends, l.length ≤ 12 := by decide
set_option maxHeartbeats 1000000 in
theorem l2Names_any (w : World) :
    Calls Try.prog 51 #[] w fun e w' => e = .returned (.slice (some ⟨w.heap.size, 0, none⟩) 7 7) ∧ w' = w.alloc (.cells (kindTexts.map sv).toArray 9) := by
  go_enter Try.func51, Try.ntmps51
  go_wp2
  go_ret
  exact ⟨rfl, rfl⟩
end Go.Proofs.Ytaiijnaockbahaa
