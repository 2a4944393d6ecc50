/- What the draws of chapter 1 return: the texts of a name to be read, and labels. -/
import Derived.Test.YtgieklfpdlkmjaaZ
namespace Go.Proofs.Ytgieklfpdlkmjaa
open Go.RowKit

def rnTexts : List Z.Str := [[119, 119, 119], [64], [97, 46, 98, 46], [87, 87, 87, 46, 97], [42], [120, 46, 121], [110, 115, 46, 66, 46], [46], [109, 97, 105, 108], [119, 119, 119, 46, 97]]
def rnBend1 : List Z.Str := [[], [46], [65]]
def rnBend2 : List Z.Str := [[], [42], [32], [98]]
def rnOrigins : List Z.Str := [[97, 46, 98, 46], [46], [98, 46], [97, 46, 98, 46], [98]]
theorem rnTexts_le : ∀ l ∈ rnTexts, l.length ≤ 12 := by decide
theorem rnBend1_le : ∀ l ∈ rnBend1, l.length ≤ 12 := by decide
theorem rnBend2_le : ∀ l ∈ rnBend2, l.length ≤ 12 := by decide
theorem rnOrigins_le : ∀ l ∈ rnOrigins, l.length ≤ 12 := by decide
set_option maxHeartbeats 2000000 in
theorem DrawReadName_any (A : Option Addr) (c : Nat) (zs : List UInt8) (w : World) (hcode : Code w A c zs) :
    Calls Try.prog 24 #[.slice A zs.length c] w fun e w' => ∃ x y : ByteArray, e = .returned (.tuple #[.string x, .string y]) ∧ x.size ≤ 100 ∧ y.size ≤ 100 ∧ Below w.heap.size w w' := by
  go_enter Try.func24, Try.ntmps24
  go_wp2_with fail
  refine (l13Open_any A c zs w hcode.1 hcode.2.1 hcode.2.2.1 hcode.2.2.2).mono ?_
  rintro e w1 ⟨rfl, hr1, hb1⟩
  have hgl := hr1.lt
  obtain ⟨hr2, hrd2, hb2, hB2, hA2⟩ := with_row hr1 rnTexts 9
  have HA2 := hid hA2
  clear hA2
  go_wp2_with fail
  refine (of_any _ _ 12 _ _ 10 10 rnTexts _ (by exact hr2) (by omega) (by exact hrd2) (by exact hB2) (by omega) (by omega) HA2.out rnTexts_le).mono ?_
  rintro e w3 ⟨s, rfl, hs, hr3, hb3⟩
  have hbw3 := hb1.trans ((hb2.trans hb3).below (Nat.le_refl _) (by omega))
  clear hrd2 hB2 hb2 hb3 hr2
  have hgl3 := hr3.lt
  obtain ⟨hr4, hrd4, hb4, hB4, hA4⟩ := with_row hr3 rnBend1 9
  have HA4 := hid hA4
  clear hA4
  go_wp2_with fail
  refine (l1Bend_any _ _ 12 _ _ 3 3 rnBend1 s _ (by exact hr4) (by omega) (by exact hrd4) (by exact hB4) (by omega) (by omega) HA4.out rnBend1_le (by omega) (by omega)).mono ?_
  rintro e w5 ⟨x, q, rfl, hx, hq, hr5, hb5⟩
  have hbw5 := hbw3.trans ((hb4.trans hb5).below (Nat.le_refl _) (by omega))
  clear hrd4 hB4 hb4 hb5 hr4 hbw3
  have hgl5 := hr5.lt
  obtain ⟨hr6, hrd6, hb6, hB6, hA6⟩ := with_row hr5 rnBend2 9
  have HA6 := hid hA6
  clear hA6
  go_wp2_with fail
  refine (l1Bend_any _ _ 12 _ _ 4 4 rnBend2 x _ (by exact hr6) (by omega) (by exact hrd6) (by exact hB6) (by omega) (by omega) HA6.out rnBend2_le (by omega) (by omega)).mono ?_
  rintro e w7 ⟨y, q2, rfl, hy, hq2, hr7, hb7⟩
  have hbw7 := hbw5.trans ((hb6.trans hb7).below (Nat.le_refl _) (by omega))
  clear hrd6 hB6 hb6 hb7 hr6 hbw5
  have hgl7 := hr7.lt
  obtain ⟨hr8, hrd8, hb8, hB8, hA8⟩ := with_row hr7 rnOrigins 9
  have HA8 := hid hA8
  clear hA8
  go_wp2_with fail
  refine (of_any _ _ 12 _ _ 5 5 rnOrigins _ (by exact hr8) (by omega) (by exact hrd8) (by exact hB8) (by omega) (by omega) HA8.out rnOrigins_le).mono ?_
  rintro e w9 ⟨o, rfl, ho, hr9, hb9⟩
  have hbw9 := hbw7.trans ((hb8.trans hb9).below (Nat.le_refl _) (by omega))
  go_wp2_with fail
  go_ret2
  exact ⟨y, o, rfl, by omega, by omega, hbw9⟩
end Go.Proofs.Ytgieklfpdlkmjaa
