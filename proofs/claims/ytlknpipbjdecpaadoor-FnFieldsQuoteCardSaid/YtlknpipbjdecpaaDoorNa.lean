/- What the draws of numbers return, and the draws of kinds. What the draws of records return: some record whose numbers can be read. -/
import Derived.Test.YtlknpipbjdecpaaDoorD
import Derived.Test.YtlknpipbjdecpaaDoorIa
import Derived.Test.YtlknpipbjdecpaaDoorSa
import Derived.Test.YtlknpipbjdecpaaDoorSm
import Derived.Test.YtlknpipbjdecpaaDoorBk
namespace Go.Proofs.YtlknpipbjdecpaaDoor
open Go.RowKit
set_option maxRecDepth 100000
set_option linter.unusedVariables false

/-- A new row of numbers as an argument. -/
theorem with_ints {w : World} {g p : Nat} (hr : Rd w g p) (zs : List Int) (t : TypeId) :
    Rd (w.alloc (.cells (zs.map iv).toArray t)) g p ∧ Reads (w.alloc (.cells (zs.map iv).toArray t)) (w.heap.size + 1) (some ⟨w.heap.size, 0, none⟩) zs.length (zs.map iv) ∧
      But g w (w.alloc (.cells (zs.map iv).toArray t)) ∧ w.heap.size + 1 ≤ (w.alloc (.cells (zs.map iv).toArray t)).heap.size ∧ ∀ ad : Addr, some (⟨w.heap.size, 0, none⟩ : Addr) = some ad → ad.block ≠ g := by
  have hgl := hr.lt
  have h := reads_alloc w (zs.map iv) t
  rw [List.length_map] at h
  refine ⟨hr.but ((Below.refl _ _).alloc (Nat.le_refl _) _), h, (But.refl g w).alloc _, by simp, fun ad e => ?_⟩
  injection e with e
  subst e
  show w.heap.size ≠ g
  omega

def kindNums : List Int := [1, 2, 5, 6, 12, 15, 16, 0, 3, 99]
def kindTexts : List Z.Str := [[65], [78, 83], [67, 78, 65, 77, 69], [83, 79, 65], [80, 84, 82], [77, 88], [84, 88, 84]]
theorem kindTexts_le : ∀ l ∈ kindTexts, l.length ≤ 12 := by decide
def kindBends : List Z.Str := [[], [65], [78], [120]]
theorem kindBends_le : ∀ l ∈ kindBends, l.length ≤ 12 := by decide
set_option maxHeartbeats 1000000 in
theorem l2Names_any (w : World) :
    Calls Tryd.prog 56 #[] w fun e w' => e = .returned (.slice (some ⟨w.heap.size, 0, none⟩) 7 7) ∧ w' = w.alloc (.cells (kindTexts.map sv).toArray 9) := by
  go_enter Tryd.func56, Tryd.ntmps56
  go_wp2
  go_ret
  exact ⟨rfl, rfl⟩
end Go.Proofs.YtlknpipbjdecpaaDoor

namespace Go.Proofs.YtlknpipbjdecpaaDoor
open Go.RowKit
set_option maxRecDepth 100000
set_option linter.unusedVariables false

def lineTexts : List Z.Str := [[119, 119, 119, 46, 97, 46, 98, 46, 32, 51, 48, 48, 32, 65, 32, 49, 46, 50, 46, 51, 46, 52], [97, 46, 98, 46, 32, 51, 48, 48, 32, 78, 83, 32, 110, 115, 46, 98, 46], [120, 46, 119, 119, 119, 46, 97, 46, 98, 46, 32, 54, 48, 32, 67, 78, 65, 77, 69, 32, 119, 119, 119, 46, 97, 46, 98, 46], [97, 46, 98, 46, 32, 51, 54, 48, 48, 32, 83, 79, 65, 32, 110, 115, 46, 98, 46, 32, 55, 32, 49, 48, 32, 50, 48, 32, 51, 48, 32, 52, 48], [97, 46, 98, 46, 32, 51, 48, 48, 32, 77, 88, 32, 49, 48, 32, 109, 97, 105, 108, 46, 97, 46, 98, 46], [97, 46, 98, 46, 32, 51, 48, 48, 32, 84, 88, 84, 32, 34, 104, 101, 108, 108, 111, 32, 120, 34], [122, 46, 98, 46, 32, 48, 32, 80, 84, 82, 32, 97, 46, 98, 46], [42, 46, 97, 46, 98, 46, 32, 51, 48, 48, 32, 65, 32, 57, 46, 57, 46, 57, 46, 57], [115, 117, 98, 46, 97, 46, 98, 46, 32, 51, 48, 48, 32, 78, 83, 32, 110, 115, 46, 115, 117, 98, 46, 97, 46, 98, 46], [110, 115, 46, 115, 117, 98, 46, 97, 46, 98, 46, 32, 51, 48, 48, 32, 65, 32, 53, 46, 54, 46, 55, 46, 56], [119, 119, 119, 46, 97, 46, 98, 46, 32, 51, 48, 48, 32, 65, 32, 49, 46, 50, 46, 51, 46, 53], [109, 97, 105, 108, 46, 97, 46, 98, 46, 32, 51, 48, 48, 32, 65, 32, 50, 46, 50, 46, 50, 46, 50], [119, 119, 119, 46, 97, 46, 98, 46, 32, 51, 48, 48, 32, 84, 88, 84, 32, 34, 34]]
theorem lineTexts_le : ∀ l ∈ lineTexts, l.length ≤ 40 := by decide
/-- Some record, whose numbers lie in a row of the call's own. -/
def RecOut (w : World) (e : Ending) (w' : World) : Prop :=
  ∃ (N : ByteArray) (T K : Int) (A : Option Addr) (L c : Nat) (x y : ByteArray) (ns : List Int), e = .returned (.agg #[.string N, .int .i64 T, .int .i64 K, .slice A L c, .string x, .string y]) ∧ w'.ownsRow w.heap.size 3 1 (.slice A L c) L (ns.map iv) ∧ L ≤ 90 ∧ N.size ≤ 100 ∧ x.size ≤ 100 ∧ y.size ≤ 100 ∧ Below w.heap.size w w'
theorem parse_sizes {s N x y : ByteArray} {T K : Int} {ns : List Int} (h : (Z.parse (lst s)).getD noRec = ⟨lst N, T, K, ns, lst x, lst y⟩) : N.size ≤ 100 ∧ x.size ≤ 100 ∧ y.size ≤ 100 := by
  cases hp : Z.parse (lst s) with
  | none =>
    rw [hp] at h
    unfold noRec at h
    simp only [Option.getD_none, Z.Rec.mk.injEq] at h
    have h1 := congrArg List.length h.1
    have h2 := congrArg List.length h.2.2.2.2.1
    have h3 := congrArg List.length h.2.2.2.2.2
    rw [lst_length] at h1 h2 h3
    simp at h1 h2 h3
    omega
  | some r =>
    rw [hp] at h
    simp only [Option.getD_some] at h
    subst h
    have hv := Z.valid_sizes (Z.parse_some hp).1
    obtain ⟨h1, _, h3, h4⟩ := hv
    dsimp only at h1 h3 h4
    rw [lst_length] at h1 h3 h4
    omega
end Go.Proofs.YtlknpipbjdecpaaDoor
