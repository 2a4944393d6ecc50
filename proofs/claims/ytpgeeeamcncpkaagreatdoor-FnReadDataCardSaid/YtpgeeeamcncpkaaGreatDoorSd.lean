/- What SameData, RecordSame and the order of the model's chapter 2 return. What l2Order and RecordBefore of the model return. -/
import Derived.Test.YtpgeeeamcncpkaaGreatDoorSc
namespace Go.Proofs.YtpgeeeamcncpkaaGreatDoor
open Go.RowKit
set_option maxRecDepth 100000
set_option linter.unusedVariables false

/-! ### the order -/
def sameUp (xs ys : List Int) (k : Nat) : Prop := Z.ltInts xs ys = Z.ltInts (xs.drop k) (ys.drop k) ∧ sameTo xs ys k
theorem drop_get {xs : List Int} {k : Nat} (h : k < xs.length) : xs.drop k = xs.getD k 0 :: xs.drop (k + 1) := by
  rw [List.drop_eq_getElem_cons h]; simp [h]
theorem sameUp_next {xs ys : List Int} {k : Nat} (h : sameUp xs ys k) (hx : k < xs.length) (hy : k < ys.length) (e : xs.getD k 0 = ys.getD k 0) : sameUp xs ys (k + 1) := by
  refine ⟨?_, sameTo_succ h.2 e⟩
  rw [h.1, drop_get hx, drop_get hy, Z.ltInts, if_pos e]
theorem sameUp_ne {xs ys : List Int} {k : Nat} (h : sameUp xs ys k) (hx : k < xs.length) (hy : k < ys.length) (e : xs.getD k 0 ≠ ys.getD k 0) : Z.ltInts xs ys = decide (xs.getD k 0 < ys.getD k 0) := by
  rw [h.1, drop_get hx, drop_get hy, Z.ltInts, if_neg e]

/-- What the comparison of two lists of one length says. -/
def ListsSay (xs ys : List Int) (m : Int) : Prop := decide (m < 0) = Z.ltInts xs ys ∧ (m = 0 ↔ xs = ys)
/-- What the comparison of two texts says. -/
def TextsSay (s t : ByteArray) (m : Int) : Prop := decide (m < 0) = decide (lst s < lst t) ∧ (m = 0 ↔ lst s = lst t)
end Go.Proofs.YtpgeeeamcncpkaaGreatDoor

namespace Go.Proofs.YtpgeeeamcncpkaaGreatDoor
open Go.RowKit
set_option maxRecDepth 100000
set_option linter.unusedVariables false

theorem Held.more' {w W : World} {b : Nat} {cs cs' : List Value} (h : Held w W b cs) (T : TypeId) (b' : Nat) (hb : b' = W.heap.size) : Held w (W.alloc (.cells cs'.toArray T)) b' cs' := by subst hb; exact h.more T

def Goes (a b : Z.Rec) (m : Int) : Prop := decide (m < 0) = Z.ltRec a b

end Go.Proofs.YtpgeeeamcncpkaaGreatDoor
