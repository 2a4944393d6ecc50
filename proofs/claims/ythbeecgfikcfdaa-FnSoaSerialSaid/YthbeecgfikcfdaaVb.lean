/- What the draws of serials return. -/
import Derived.Test.YthbeecgfikcfdaaVa
import Derived.Test.YthbeecgfikcfdaaH
namespace Go.Proofs.Ythbeecgfikcfdaa
open Go.RowKit
set_option maxRecDepth 100000
set_option linter.unusedVariables false

set_option maxHeartbeats 1000000 in
theorem vnum_any (g p B : Nat) (A : Option Addr) (n c : Nat) (zs : List Int) (w : World) (hr : Rd w g p) (hp : p ≤ 1000000) (hrd : Reads w B A n (zs.map iv)) (hB : B ≤ w.heap.size) (hn1 : 1 ≤ n) (hn2 : n ≤ 1048576) (hA : ∀ ad, A = some ad → ad.block ≠ g) :
    Calls Try.prog 17 #[.pointer (some ⟨g, 0, none⟩), .slice A n c] w fun e w' => ∃ z : Int, e = .returned (.int .i64 z) ∧ z ∈ zs ∧ Rd w' g (p + 1) ∧ But g w w' := by
  obtain rfl : n = zs.length := by simpa using hrd.1.symm
  have HA := hid hA
  clear hA
  go_enter Try.func17, Try.ntmps17
  go_wp2_with fail
  refine (pick_any g p _ w hr hp (by omega) (by omega)).mono ?_
  rintro e w1 ⟨i, rfl, hi0, hi1, hr1, hb1⟩
  obtain ⟨k, rfl⟩ := Int.eq_ofNat_of_zero_le hi0
  have hk : k < zs.length := by omega
  obtain ⟨ad, u, rfl, hab, hx, hcell⟩ := (hb1.reads hrd hB (fun _ => HA.out)).at_ hk
  rw [List.getElem?_map, List.getElem?_eq_getElem hk] at hx
  simp only [Option.map_some, Option.some.injEq] at hx
  subst hx
  obtain ⟨z, hz⟩ : ∃ z, z = zs[k] := ⟨_, rfl⟩
  have hzm : z ∈ zs := by rw [hz]; exact List.getElem_mem _
  unfold iv at hcell
  rw [← hz] at hcell
  clear hz
  go_wp2_with fail
  go_ret
  exact ⟨z, rfl, hzm, hr1, hb1⟩

/-- A new row of numbers as an argument. -/
theorem vwith_nums {w : World} {g p : Nat} (hr : Rd w g p) (zs : List Int) (t : TypeId) :
    Rd (w.alloc (.cells (zs.map iv).toArray t)) g p ∧ Reads (w.alloc (.cells (zs.map iv).toArray t)) (w.heap.size + 1) (some ⟨w.heap.size, 0, none⟩) zs.length (zs.map iv) ∧
      But g w (w.alloc (.cells (zs.map iv).toArray t)) ∧ w.heap.size + 1 ≤ (w.alloc (.cells (zs.map iv).toArray t)).heap.size ∧ ∀ ad : Addr, some (⟨w.heap.size, 0, none⟩ : Addr) = some ad → ad.block ≠ g := by
  have hgl := hr.lt
  have h := reads_alloc w (zs.map iv) t
  rw [List.length_map] at h
  refine ⟨hr.but ((Below.refl _ _).alloc (Nat.le_refl _) _), h, (But.refl g w).alloc _, by simp, fun ad e => ?_⟩
  injection e with e
  subst e
  show w.heap.size ≠ g
  omega

def addTexts : List Int := [7, 4294967295, 0, 2147483648, 4294967290, -1]
def stepTexts : List Int := [1, 10, 0, 2147483647, 5, 2147483648, -1]
def lessTexts : List Int := [7, 4294967295, 0, 2147483648, 1, -1]
def moreTexts : List Int := [8, 0, 4294967295, 2147483655, 2147483648, 7, 1, 4294967296]
theorem addTexts_le : ∀ z ∈ addTexts, -1 ≤ z ∧ z ≤ 4294967296 := by decide
theorem stepTexts_le : ∀ z ∈ stepTexts, -1 ≤ z ∧ z ≤ 4294967296 := by decide
theorem lessTexts_le : ∀ z ∈ lessTexts, -1 ≤ z ∧ z ≤ 4294967296 := by decide
theorem moreTexts_le : ∀ z ∈ moreTexts, -1 ≤ z ∧ z ≤ 4294967296 := by decide

set_option maxHeartbeats 2000000 in
theorem DrawSerialAdd_any (A : Option Addr) (c : Nat) (zs : List UInt8) (w : World) (hcode : Code w A c zs) :
    Calls Try.prog 6 #[.slice A zs.length c] w fun e w' => ∃ x y : Int, e = .returned (.tuple #[.int .i64 x, .int .i64 y]) ∧ -1 ≤ x ∧ x ≤ 4294967296 ∧ -1 ≤ y ∧ y ≤ 4294967296 ∧ Below w.heap.size w w' := by
  go_enter Try.func6, Try.ntmps6
  go_wp2_with fail
  refine (l13Open_any A c zs w hcode.1 hcode.2.1 hcode.2.2.1 hcode.2.2.2).mono ?_
  rintro e w1 ⟨rfl, hr1, hb1⟩
  have hgl := hr1.lt
  obtain ⟨hr2, hrd2, hb2, hB2, hA2⟩ := vwith_nums hr1 addTexts 3
  have HA2 := hid hA2
  clear hA2
  go_wp2_with fail
  refine (vnum_any _ _ _ _ 6 6 addTexts _ (by exact hr2) (by omega) (by exact hrd2) (by exact hB2) (by omega) (by omega) HA2.out).mono ?_
  rintro e w3 ⟨x, rfl, hx, hr3, hb3⟩
  obtain ⟨hx0, hx1⟩ := addTexts_le x hx
  have hbw3 := hb1.trans ((hb2.trans hb3).below (Nat.le_refl _) (by omega))
  clear hrd2 hB2 hb2 hb3 hr2 hx
  have hgl3 := hr3.lt
  obtain ⟨hr4, hrd4, hb4, hB4, hA4⟩ := vwith_nums hr3 stepTexts 3
  have HA4 := hid hA4
  clear hA4
  go_wp2_with fail
  refine (vnum_any _ _ _ _ 7 7 stepTexts _ (by exact hr4) (by omega) (by exact hrd4) (by exact hB4) (by omega) (by omega) HA4.out).mono ?_
  rintro e w5 ⟨y, rfl, hy, hr5, hb5⟩
  obtain ⟨hy0, hy1⟩ := stepTexts_le y hy
  have hbw5 := hbw3.trans ((hb4.trans hb5).below (Nat.le_refl _) (by omega))
  clear hrd4 hB4 hb4 hb5 hr4 hy
  go_wp2_with fail
  go_ret2
  exact ⟨x, y, rfl, hx0, hx1, hy0, hy1, hbw5⟩

end Go.Proofs.Ythbeecgfikcfdaa
