/- What FormatRecord of the program returns. -/
import Derived.Test.YtpgeeeamcncpkaaGreatDoorTx
import Derived.Test.YtpgeeeamcncpkaaGreatDoorIg
namespace Go.Proofs.YtpgeeeamcncpkaaGreatDoor
open Go.RowKit
set_option maxRecDepth 100000
set_option linter.unusedVariables false

theorem own_new (w : World) (xs : List Value) (t : TypeId) (hn : xs.length ≤ maxLen) : (w.alloc (.cells xs.toArray t)).ownsRow w.heap.size t 1 (.slice (some ⟨w.heap.size, 0, none⟩) xs.length xs.length) xs.length xs :=
  ⟨by simp, .inr ⟨w.heap.size, xs.length, xs.toArray, rfl, Nat.le_refl _, heap_alloc_new w _, Nat.le_refl _, hn, by simp, by simp⟩⟩
theorem held6_alloc {w W : World} {b : Nat} {c0 c1 c2 c3 c4 c5 : Value} (h : Held w W b [c0, c1, c2, c3, c4, c5]) (o : Obj) :
    Held w (W.alloc o) b [c0, c1, c2, c3, c4, c5] ∧ (W.alloc o).cell? ⟨b, 0, none⟩ = some c0 ∧ (W.alloc o).cell? ⟨b, 1, none⟩ = some c1 ∧ (W.alloc o).cell? ⟨b, 2, none⟩ = some c2 ∧ (W.alloc o).cell? ⟨b, 3, none⟩ = some c3 ∧ (W.alloc o).cell? ⟨b, 4, none⟩ = some c4 ∧ (W.alloc o).cell? ⟨b, 5, none⟩ = some c5 :=
  ⟨h.alloc o, (h.alloc o).cells6⟩
theorem KT.held {w W : World} {b : Nat} {cs : List Value} (h : KT w) (hh : Held w W b cs) : KT W := h.below hh.1
theorem iKindName_eq (x : Int) (s : ByteArray) (hs : Hid (bs (Z.kindName x) = s)) (w : World) (hk : KT w) :
    Calls Tryz.prog 56 #[.int .i64 x] w fun e w' => e = .returned (.string s) ∧ Below w.heap.size w w' := by
  have h := iKindName_any x w hk
  rw [hs.out] at h
  exact h
theorem validData_eq (aN : ByteArray) (aT aK : Int) (aA : Option Addr) (aL aC : Nat) (aG aX : ByteArray) (aZ : List Int) (aB : Nat) (w : World) (hra : Reads w aB aA aL (aZ.map iv)) (hba : aB ≤ w.heap.size) (hla : aL ≤ 67108864) (hsa : aN.size ≤ 67108864) (hga : aG.size ≤ 67108864) (hxa : aX.size ≤ 67108864) (ok : Bool) (hok : Hid (Z.recValid (⟨lst aN, aT, aK, aZ, lst aG, lst aX⟩ : Z.Rec) = ok)) (D : Value) (hD : Hid (dataV aK aZ aG aX = D)) :
    Calls Tryz.prog 61 #[.agg #[.string aN, .int .i64 aT, .int .i64 aK, .slice aA aL aC, .string aG, .string aX]] w fun e w' => e = .returned (dataOr ok D) ∧ Below w.heap.size w w' := by
  have h := validData_any aN aT aK aA aL aC aG aX aZ aB w hra hba hla hsa hga hxa
  rw [hok.out, hD.out] at h
  exact h
/-- The four parts of a record's text, put together. -/
theorem parts_text {N T K D : Z.Str} : Lib.join [N, T, K, D] [32] = N ++ 32 :: (T ++ 32 :: (K ++ 32 :: D)) := by
  rw [join_between]
  simp [Z.between]

end Go.Proofs.YtpgeeeamcncpkaaGreatDoor
