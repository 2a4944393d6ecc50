/- What ParseRecord of the model returns. What ParseRecord of the model returns. -/
import Derived.Test.YtlknpipbjdecpaaDoorSk
import Derived.Test.YtlknpipbjdecpaaDoorSi
import Derived.Test.YtlknpipbjdecpaaDoorBk
import Derived.Outline
namespace Go.Proofs.YtlknpipbjdecpaaDoor
open Go.RowKit
set_option maxRecDepth 100000
set_option linter.unusedVariables false

/-- The record that is no record. -/
def noRec : Z.Rec := ⟨[], 0, 0, [], [], []⟩
/-- What ParseRecord leaves. -/
def ParseOut (o : Option Z.Rec) (w : World) (e : Ending) (w' : World) : Prop :=
  ∃ (N : ByteArray) (T K : Int) (A : Option Addr) (L c : Nat) (x y : ByteArray) (ns : List Int), e = .returned (.tuple #[.agg #[.string N, .int .i64 T, .int .i64 K, .slice A L c, .string x, .string y], .bool o.isSome]) ∧ w'.ownsRow w.heap.size 3 1 (.slice A L c) L (ns.map iv) ∧ o.getD noRec = ⟨lst N, T, K, ns, lst x, lst y⟩ ∧ L ≤ 7 ∧ Below w.heap.size w w'

theorem size_alloc' (w : World) (o : Obj) : (w.alloc o).heap.size = w.heap.size + 1 := by simp
end Go.Proofs.YtlknpipbjdecpaaDoor

namespace Go.Proofs.YtlknpipbjdecpaaDoor
open Go.RowKit
set_option maxRecDepth 100000
set_option linter.unusedVariables false

end Go.Proofs.YtlknpipbjdecpaaDoor
