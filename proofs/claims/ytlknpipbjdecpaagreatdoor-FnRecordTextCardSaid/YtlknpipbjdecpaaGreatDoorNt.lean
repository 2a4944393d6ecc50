/- What the draws of texts return: one of some lines, bent. -/
import Derived.Test.YtlknpipbjdecpaaGreatDoorNa
namespace Go.Proofs.YtlknpipbjdecpaaGreatDoor
open Go.RowKit
set_option maxRecDepth 100000
set_option linter.unusedVariables false

def fileTexts : List Z.Str := [[36, 79, 82, 73, 71, 73, 78, 32, 97, 46, 98, 46], [36, 84, 84, 76, 32, 51, 48, 48], [64, 32, 51, 54, 48, 48, 32, 73, 78, 32, 83, 79, 65, 32, 110, 115, 46, 98, 46, 32, 55, 32, 49, 48, 32, 50, 48, 32, 51, 48, 32, 52, 48], [119, 119, 119, 32, 65, 32, 49, 46, 50, 46, 51, 46, 52, 32, 59, 32, 102, 105, 114, 115, 116], [32, 32, 65, 32, 49, 46, 50, 46, 51, 46, 53], [32, 32, 54, 48, 32, 73, 78, 32, 84, 88, 84, 32, 34, 120, 59, 32, 121, 34], [64, 32, 78, 83, 32, 110, 115, 46, 98, 46], [32, 77, 88, 32, 49, 48, 32, 109, 97, 105, 108], [109, 97, 105, 108, 32, 54, 48, 32, 65, 32, 50, 46, 50, 46, 50, 46, 50], [], [59, 32, 111, 110, 108, 121, 32, 97, 32, 99, 111, 109, 109, 101, 110, 116], [42, 46, 88, 32, 67, 78, 65, 77, 69, 32, 119, 119, 119], [115, 117, 98, 32, 78, 83, 32, 110, 115, 46, 115, 117, 98], [36, 79, 82, 73, 71, 73, 78, 32, 115, 117, 98], [110, 115, 32, 65, 32, 53, 46, 54, 46, 55, 46, 56], [98, 97, 100], [36, 84, 84, 76, 32, 120], [122, 46, 98, 46, 32, 80, 84, 82, 32, 64]]
theorem fileTexts_le : ∀ l ∈ fileTexts, l.length ≤ 40 := by decide
def drawParseRecordBends : List Z.Str := [[], [32], [46], [48], [65], [34], [120]]
theorem drawParseRecordBends_le : ∀ l ∈ drawParseRecordBends, l.length ≤ 12 := by decide
set_option maxHeartbeats 2000000 in
theorem DrawParseRecord_any (A : Option Addr) (c : Nat) (zs : List UInt8) (w : World) (hcode : Code w A c zs) :
    Calls Tryz.prog 15 #[.slice A zs.length c] w fun e w' => ∃ x : ByteArray, e = .returned (.string x) ∧ x.size ≤ 100 ∧ Below w.heap.size w w' := by
  go_enter Tryz.func15, Tryz.ntmps15
  go_wp2_with fail
  refine (l13Open_any A c zs w hcode.1 hcode.2.1 hcode.2.2.1 hcode.2.2.2).mono ?_
  rintro e w1 ⟨rfl, hr1, hb1⟩
  have hgl := hr1.lt
  obtain ⟨hr2, hrd2, hb2, hB2, hA2⟩ := with_row hr1 lineTexts 9
  have HA2 := hid hA2
  clear hA2
  obtain ⟨W, hW⟩ : ∃ W, W = w1.alloc (.cells (lineTexts.map sv).toArray 9) := ⟨_, rfl⟩
  have HW := hid hW
  rw [← hW] at hr2 hrd2 hb2 hB2
  clear hW
  go_wp2_with fail
  refine (l2Lines_any w1).mono ?_
  rintro e w2 ⟨rfl, hw2⟩
  rw [← HW.out] at hw2
  subst hw2
  go_wp2_with fail
  refine (of_any _ _ 40 _ _ 13 13 lineTexts _ (by exact hr2) (by omega) (by exact hrd2) (by exact hB2) (by omega) (by omega) HA2.out lineTexts_le).mono ?_
  rintro e w3 ⟨s, rfl, hs, hr3, hb3⟩
  have hbw3 := hb1.trans ((hb2.trans hb3).below (Nat.le_refl _) (by omega))
  clear hrd2 hB2 hb2 hb3 hr2
  have hgl3 := hr3.lt
  obtain ⟨hr4, hrd4, hb4, hB4, hA4⟩ := with_row hr3 drawParseRecordBends 9
  have HA4 := hid hA4
  clear hA4
  go_wp2_with fail
  refine (l1Bend_any _ _ 12 _ _ 7 7 drawParseRecordBends s _ (by exact hr4) (by omega) (by exact hrd4) (by exact hB4) (by omega) (by omega) HA4.out drawParseRecordBends_le (by omega) (by omega)).mono ?_
  rintro e w5 ⟨x, q, rfl, hx, hq, hr5, hb5⟩
  have hbw5 := hbw3.trans ((hb4.trans hb5).below (Nat.le_refl _) (by omega))
  go_wp2_with fail
  go_ret
  exact ⟨x, rfl, by omega, hbw5⟩

def drawFieldsOfBends : List Z.Str := [[], [32], [34], [32, 32]]
theorem drawFieldsOfBends_le : ∀ l ∈ drawFieldsOfBends, l.length ≤ 12 := by decide
def drawStripCommentBends : List Z.Str := [[], [59], [34], [32]]
theorem drawStripCommentBends_le : ∀ l ∈ drawStripCommentBends, l.length ≤ 12 := by decide
end Go.Proofs.YtlknpipbjdecpaaGreatDoor
