/- What l2Put of the model returns. What l2Put of the model returns for a text, and for every kind. -/
import Derived.Test.YtlknpipbjdecpaaDoorSf
import Derived.Test.YtlknpipbjdecpaaDoorSc
import Derived.ChangeOld
import Derived.Handy
namespace Go.Proofs.YtlknpipbjdecpaaDoor
open Go.RowKit
set_option maxRecDepth 100000
set_option linter.unusedVariables false

/-- What l2Put leaves. -/
def PutOut (d N : ByteArray) (T K : Int) (o : Option (List Int × Z.Str × Z.Str)) (w : World) (e : Ending) (w' : World) : Prop :=
  ∃ (A : Option Addr) (L c : Nat) (x y : ByteArray) (ns : List Int), e = .returned (.tuple #[.agg #[.string N, .int .i64 T, .int .i64 K, .slice A L c, .string x, .string y], .bool o.isSome]) ∧ w'.ownsRow w.heap.size 3 1 (.slice A L c) L (ns.map iv) ∧ (∀ p, o = some p → p = (ns, lst x, lst y)) ∧ L ≤ 7 ∧ x.size ≤ d.size ∧ y.size ≤ d.size ∧ Below w.heap.size w w'
theorem numbers_length {c : UInt8} {s : Z.Str} {ns : List Int} (h : Z.numbers c s = some ns) : ns.length ≤ 7 := by
  have key : ∀ (l : List Z.Str) (ns : List Int), l.mapM Z.num = some ns → ns.length = l.length := by
    intro l
    induction l with
    | nil => intro ns h; simp at h; subst h; rfl
    | cons x r ih =>
      intro ns h
      rw [List.mapM_cons] at h
      cases h1 : Z.num x with
      | none => rw [h1] at h; cases h
      | some n =>
        rw [h1] at h
        cases h2 : r.mapM Z.num with
        | none => rw [h2] at h; cases h
        | some q =>
          rw [h2] at h
          injection h with h
          subst h
          simp [ih q h2]
  have := key _ _ h
  rw [this, List.length_take]
  omega




theorem fld_le (s : Z.Str) : (Z.fld s).length ≤ s.length := by unfold Z.fld; exact (List.takeWhile_sublist _).length_le
theorem tail_lst (d : ByteArray) (at_ : Nat) : lst (d.extract at_ d.size) = (lst d).drop at_ := by
  rw [lst_extract, List.take_of_length_le (by rw [List.length_drop, lst_length]; omega)]
theorem tail_size (d : ByteArray) (at_ : Nat) : (d.extract at_ d.size).size ≤ d.size := by rw [ByteArray.size_extract]; omega

end Go.Proofs.YtlknpipbjdecpaaDoor

namespace Go.Proofs.YtlknpipbjdecpaaDoor
open Go.RowKit
set_option maxRecDepth 100000
set_option linter.unusedVariables false

end Go.Proofs.YtlknpipbjdecpaaDoor
