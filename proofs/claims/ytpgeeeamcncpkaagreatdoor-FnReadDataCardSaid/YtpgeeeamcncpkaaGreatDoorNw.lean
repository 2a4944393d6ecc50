/- What DrawWriteLine returns. -/
import Derived.Test.YtpgeeeamcncpkaaGreatDoorNe
import Derived.Deep.RegionWith
namespace Go.Proofs.YtpgeeeamcncpkaaGreatDoor
open Go.RowKit
set_option maxRecDepth 100000
set_option linter.unusedVariables false
set_option linter.unusedSimpArgs false

/-- Some record, an origin and an owner. -/
def LineDrawn (w : World) (e : Ending) (w' : World) : Prop :=
  ∃ (N : ByteArray) (T K : Int) (A : Option Addr) (L c : Nat) (x y : ByteArray) (ns : List Int) (o ow : ByteArray), e = .returned (.tuple #[.agg #[.string N, .int .i64 T, .int .i64 K, .slice A L c, .string x, .string y], .string o, .string ow]) ∧
    w'.ownsRow w.heap.size 3 1 (.slice A L c) L (ns.map iv) ∧ L ≤ 200 ∧ N.size ≤ 100 ∧ x.size ≤ 100 ∧ y.size ≤ 100 ∧ o.size ≤ 100 ∧ ow.size ≤ 100 ∧ Below w.heap.size w w'
def origins : List Z.Str := [[97, 46, 98, 46], [98, 46], [46], [97, 46, 98, 46]]
theorem origins_le : ∀ l ∈ origins, l.length ≤ 100 := by decide
theorem owners_eq (n : ByteArray) : ([[], [97, 46, 98, 46], lst n, [120]] : List Z.Str).map sv = [.string ⟨#[]⟩, .string ⟨#[97, 46, 98, 46]⟩, .string n, .string ⟨#[120]⟩] := by
  show [sv [], sv [97, 46, 98, 46], sv (lst n), sv [120]] = _
  rw [sv_lst]
  rfl
end Go.Proofs.YtpgeeeamcncpkaaGreatDoor
