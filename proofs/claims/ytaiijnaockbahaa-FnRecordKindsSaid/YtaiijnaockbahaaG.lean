/- What the draws of chapter 1 return. -/
import Derived.Test.YtaiijnaockbahaaF
namespace Go.Proofs.Ytaiijnaockbahaa
open Go.RowKit
set_option maxRecDepth 100000

/-- The bytes that a law is given. -/
def Code (w : World) (A : Option Addr) (c : Nat) (zs : List UInt8) : Prop := zs.length ≤ 1048576 ∧ zs.length ≤ c ∧ c ≤ maxLen ∧ Reads w w.heap.size A zs.length (zs.map bv)
theorem Code.below {w w' : World} {A : Option Addr} {c : Nat} {zs : List UInt8} (h : Code w A c zs) (hb : Below w.heap.size w w') : Code w' A c zs :=
  ⟨h.1, h.2.1, h.2.2.1, (h.2.2.2.below hb (Nat.le_refl _)).more hb.size⟩

def bendList : List Z.Str := [[], [46], [65], [42], [108, 111, 110, 103, 45, 108, 97, 98, 101, 108, 49], [32]]
theorem bendList_le : ∀ l ∈ bendList, l.length ≤ 12 := by decide
def twoList : List Z.Str := [[98, 46], [97, 46, 98, 46], [46]]
theorem twoList_le : ∀ l ∈ twoList, l.length ≤ 12 := by decide

end Go.Proofs.Ytaiijnaockbahaa
