/- What FormatRecord returns for records in a law's own blocks. -/
import Derived.Test.YtlknpipbjdecpaaGreatDoorNe
import Derived.Test.YtlknpipbjdecpaaGreatDoorFr
import Derived.Test.YtlknpipbjdecpaaGreatDoorSi
namespace Go.Proofs.YtlknpipbjdecpaaGreatDoor
open Go.RowKit
set_option maxRecDepth 100000
set_option linter.unusedVariables false

theorem iFormatRecord_eq (aN : ByteArray) (aT aK : Int) (aA : Option Addr) (aL aC : Nat) (aG aX : ByteArray) (aZ : List Int) (aB : Nat) (w : World) (hra : Reads w aB aA aL (aZ.map iv)) (hba : aB ≤ w.heap.size) (hla : aL ≤ 67108864) (hsa : aN.size ≤ 67108864) (hga : aG.size ≤ 67108864) (hxa : aX.size ≤ 67108864) (hk : KT w) (ht : PT w) (D : ByteArray) (hD : Hid (bs (Z.format (⟨lst aN, aT, aK, aZ, lst aG, lst aX⟩ : Z.Rec)) = D)) :
    Calls Tryz.prog 9 #[.agg #[.string aN, .int .i64 aT, .int .i64 aK, .slice aA aL aC, .string aG, .string aX]] w fun e w' => e = .returned (.string D) ∧ Below w.heap.size w w' := by
  have h := iFormatRecord_any aN aT aK aA aL aC aG aX aZ aB w hra hba hla hsa hga hxa hk ht
  rw [hD.out] at h
  exact h
theorem FormatRecord_eq (aN : ByteArray) (aT aK : Int) (aA : Option Addr) (aL aC : Nat) (aG aX : ByteArray) (aZ : List Int) (aB : Nat) (w : World) (hra : Reads w aB aA aL (aZ.map iv)) (hba : aB ≤ w.heap.size) (hla : aL ≤ 67108864) (hsa : aN.size ≤ 67108864) (hga : aG.size ≤ 67108864) (hxa : aX.size ≤ 67108864) (D : ByteArray) (hD : Hid (bs (Z.format (⟨lst aN, aT, aK, aZ, lst aG, lst aX⟩ : Z.Rec)) = D)) :
    Calls Tryz.prog 12 #[.agg #[.string aN, .int .i64 aT, .int .i64 aK, .slice aA aL aC, .string aG, .string aX]] w fun e w' => e = .returned (.string D) ∧ Below w.heap.size w w' := by
  have h := FormatRecord_any aN aT aK aA aL aC aG aX aZ aB w hra hba hla hsa hga hxa
  rw [hD.out] at h
  exact h
theorem io_FormatRecord {w W : World} {p : Nat} {aN : ByteArray} {aT aK : Int} {aA : Option Addr} {aL aC : Nat} {aG aX : ByteArray} {aZ : List Int} (h : One w W p aN aT aK aA aL aC aG aX aZ) (hk : KT w) (ht : PT w) (D : ByteArray) (hD : Hid (bs (Z.format (⟨lst aN, aT, aK, aZ, lst aG, lst aX⟩ : Z.Rec)) = D)) :
    Calls Tryz.prog 9 #[.agg #[.string aN, .int .i64 aT, .int .i64 aK, .slice aA aL aC, .string aG, .string aX]] W fun e W' => e = .returned (.string D) ∧ Below W.heap.size W W' :=
  iFormatRecord_eq _ _ _ _ _ _ _ _ aZ W.heap.size W h.2.2.2.1 (Nat.le_refl _) h.2.2.2.2.1 h.2.2.2.2.2.1 h.2.2.2.2.2.2.1 h.2.2.2.2.2.2.2 (hk.below h.below) (ht.below h.below) D hD
theorem so_FormatRecord {w W : World} {p : Nat} {aN : ByteArray} {aT aK : Int} {aA : Option Addr} {aL aC : Nat} {aG aX : ByteArray} {aZ : List Int} (h : One w W p aN aT aK aA aL aC aG aX aZ) (D : ByteArray) (hD : Hid (bs (Z.format (⟨lst aN, aT, aK, aZ, lst aG, lst aX⟩ : Z.Rec)) = D)) :
    Calls Tryz.prog 12 #[.agg #[.string aN, .int .i64 aT, .int .i64 aK, .slice aA aL aC, .string aG, .string aX]] W fun e W' => e = .returned (.string D) ∧ Below W.heap.size W W' :=
  FormatRecord_eq _ _ _ _ _ _ _ _ aZ W.heap.size W h.2.2.2.1 (Nat.le_refl _) h.2.2.2.2.1 h.2.2.2.2.2.1 h.2.2.2.2.2.2.1 h.2.2.2.2.2.2.2 D hD
end Go.Proofs.YtlknpipbjdecpaaGreatDoor
