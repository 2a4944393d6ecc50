/- What RecordBefore of the program returns. -/
import Derived.Test.YtpgeeeamcncpkaaGreatDoorIg
import Derived.Test.YtpgeeeamcncpkaaGreatDoorI
import Derived.Test.YtpgeeeamcncpkaaGreatDoorSd
namespace Go.Proofs.YtpgeeeamcncpkaaGreatDoor
open Go.RowKit
set_option maxRecDepth 100000
set_option linter.unusedVariables false

theorem Held.again {w W : World} {b : Nat} {cs cs' : List Value} (h : Held w W b cs) (T : TypeId) (b' : Nat) (hb : b' = W.heap.size) : Held w (W.alloc (.cells cs'.toArray T)) b' cs' := by subst hb; exact h.more T

def cmpInt (x y : Int) : Int := if x < y then -1 else if y < x then 1 else 0
end Go.Proofs.YtpgeeeamcncpkaaGreatDoor
