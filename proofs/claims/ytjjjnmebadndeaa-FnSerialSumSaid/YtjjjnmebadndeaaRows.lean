/-
  No cell of these rows narrows 'for every input' (looked for: loops, veiled, ifaces, maps, wideKeys, modest, calm, conditions, laid).
  DERIVED. THE GIVEN ROWS OF THIS SEAT. 5 by the template 'for every input the law returns true; each argument reads behind the call as it read before'; 0 by the template 'total and deterministic' (their statements: YtjjjnmebadndeaaTotals.lean).
  GIVEN WITH THE SEED: the statements are not yours to turn. If you find one false, say at which input.
  Laid BY PROGRAM, IN A SANDBOX (cutbox-rows.mjs): the forced cells as the released guide's own fill.sh prints them over the translation 9981675394a7a9c4… (all of the seat's roots in one cut). By AI agents, Wed Nov 11 2026. No macro, syntax, notation, axiom, sorry.
-/
import Derived.Test.YtjjjnmebadndeaaChecked
import GoSem.Claim
import GoSem.ClaimJoined
import GoSem.ClaimMapViews
import Derived.JoinedTies
import Derived.KernelRfl
namespace Go.Proofs.Ytjjjnmebadndeaa
/- THE CELL 'sum', in the pinned program and in every row, IS THE sha256 OF THE DUMP (.gsa) THAT YtjjjnmebadndeaaProg.lean LOADS. Nothing in Lean hashes anything: it is a label: what it is worth is what the hold of that sum in a sandbox is worth. -/
noncomputable def Try.pinned : Pinned := { name := "ytjjjnmebadndeaa", sum := "9981675394a7a9c4dfa5deefbbdf5641a1b890eef0b5a8a34ef1e175b27c22d1", checked := Try.checked }
namespace Rows
def none {H : Type} : Left H := { results := [], args := [] }

/-- 'laws.FnSerialAdd': WHATEVER THE INPUT: true; the input reads as it did. -/
def fnSerialAddSpec : ChangeSpec := { name := "fnSerialAdd", fn := fun _ => fun
  | [d] => { results := [.lit (.bool true)], args := [d] }
  | _ => none }
def fnSerialAddRow : OpenClaim := { program := "ytjjjnmebadndeaa", sum := "9981675394a7a9c4dfa5deefbbdf5641a1b890eef0b5a8a34ef1e175b27c22d1", func := "loop.example/zonefiles/laws.FnSerialAdd", spec := "fnSerialAdd", apart := false }
def FnSerialAddSaid : Prop := fnSerialAddRow.holds Try.pinned (OpenSpec.ofChange fnSerialAddSpec)

/-- ITS FALSE NEIGHBOUR: 'it returns false'. Refute it at one input. -/
def fnSerialAddWrong : ChangeSpec := { name := "fnSerialAdd", fn := fun _ => fun
  | [d] => { results := [.lit (.bool false)], args := [d] }
  | _ => none }
def FnSerialAddWrongFalsely : Prop := fnSerialAddRow.holds Try.pinned (OpenSpec.ofChange fnSerialAddWrong)

/-- 'laws.FnSerialLess': WHATEVER THE INPUT: true; the input reads as it did. -/
def fnSerialLessSpec : ChangeSpec := { name := "fnSerialLess", fn := fun _ => fun
  | [d] => { results := [.lit (.bool true)], args := [d] }
  | _ => none }
def fnSerialLessRow : OpenClaim := { program := "ytjjjnmebadndeaa", sum := "9981675394a7a9c4dfa5deefbbdf5641a1b890eef0b5a8a34ef1e175b27c22d1", func := "loop.example/zonefiles/laws.FnSerialLess", spec := "fnSerialLess", apart := false }
def FnSerialLessSaid : Prop := fnSerialLessRow.holds Try.pinned (OpenSpec.ofChange fnSerialLessSpec)

/-- ITS FALSE NEIGHBOUR: 'it returns false'. Refute it at one input. -/
def fnSerialLessWrong : ChangeSpec := { name := "fnSerialLess", fn := fun _ => fun
  | [d] => { results := [.lit (.bool false)], args := [d] }
  | _ => none }
def FnSerialLessWrongFalsely : Prop := fnSerialLessRow.holds Try.pinned (OpenSpec.ofChange fnSerialLessWrong)

/-- 'laws.FnSerialSum': WHATEVER THE INPUT: true; the input reads as it did. -/
def fnSerialSumSpec : ChangeSpec := { name := "fnSerialSum", fn := fun _ => fun
  | [d] => { results := [.lit (.bool true)], args := [d] }
  | _ => none }
def fnSerialSumRow : OpenClaim := { program := "ytjjjnmebadndeaa", sum := "9981675394a7a9c4dfa5deefbbdf5641a1b890eef0b5a8a34ef1e175b27c22d1", func := "loop.example/zonefiles/laws.FnSerialSum", spec := "fnSerialSum", apart := false }
def FnSerialSumSaid : Prop := fnSerialSumRow.holds Try.pinned (OpenSpec.ofChange fnSerialSumSpec)

/-- ITS FALSE NEIGHBOUR: 'it returns false'. Refute it at one input. -/
def fnSerialSumWrong : ChangeSpec := { name := "fnSerialSum", fn := fun _ => fun
  | [d] => { results := [.lit (.bool false)], args := [d] }
  | _ => none }
def FnSerialSumWrongFalsely : Prop := fnSerialSumRow.holds Try.pinned (OpenSpec.ofChange fnSerialSumWrong)

/-- 'laws.FnExactSerialAdd': WHATEVER THE INPUT: true; the input reads as it did. -/
def fnExactSerialAddSpec : ChangeSpec := { name := "fnExactSerialAdd", fn := fun _ => fun
  | [d1, d2] => { results := [.lit (.bool true)], args := [d1, d2] }
  | _ => none }
def fnExactSerialAddRow : OpenClaim := { program := "ytjjjnmebadndeaa", sum := "9981675394a7a9c4dfa5deefbbdf5641a1b890eef0b5a8a34ef1e175b27c22d1", func := "loop.example/zonefiles/laws.FnExactSerialAdd", spec := "fnExactSerialAdd", apart := false }
def FnExactSerialAddSaid : Prop := fnExactSerialAddRow.holds Try.pinned (OpenSpec.ofChange fnExactSerialAddSpec)

/-- ITS FALSE NEIGHBOUR: 'it returns false'. Refute it at one input. -/
def fnExactSerialAddWrong : ChangeSpec := { name := "fnExactSerialAdd", fn := fun _ => fun
  | [d1, d2] => { results := [.lit (.bool false)], args := [d1, d2] }
  | _ => none }
def FnExactSerialAddWrongFalsely : Prop := fnExactSerialAddRow.holds Try.pinned (OpenSpec.ofChange fnExactSerialAddWrong)

/-- 'laws.FnExactSerialLess': WHATEVER THE INPUT: true; the input reads as it did. -/
def fnExactSerialLessSpec : ChangeSpec := { name := "fnExactSerialLess", fn := fun _ => fun
  | [d1, d2] => { results := [.lit (.bool true)], args := [d1, d2] }
  | _ => none }
def fnExactSerialLessRow : OpenClaim := { program := "ytjjjnmebadndeaa", sum := "9981675394a7a9c4dfa5deefbbdf5641a1b890eef0b5a8a34ef1e175b27c22d1", func := "loop.example/zonefiles/laws.FnExactSerialLess", spec := "fnExactSerialLess", apart := false }
def FnExactSerialLessSaid : Prop := fnExactSerialLessRow.holds Try.pinned (OpenSpec.ofChange fnExactSerialLessSpec)

/-- ITS FALSE NEIGHBOUR: 'it returns false'. Refute it at one input. -/
def fnExactSerialLessWrong : ChangeSpec := { name := "fnExactSerialLess", fn := fun _ => fun
  | [d1, d2] => { results := [.lit (.bool false)], args := [d1, d2] }
  | _ => none }
def FnExactSerialLessWrongFalsely : Prop := fnExactSerialLessRow.holds Try.pinned (OpenSpec.ofChange fnExactSerialLessWrong)

/- THE SECOND FORM. 'bulk': how many values and letters a reading holds, each counted each time it is reached (what is shared counts as often as it is met; a slice's spare places count too). A statement '..UptoSaid' is the law's where the arguments, and the package variables that the reading takes, are together of bulk at most 1048576: NARROWER than '..Said'. Prove '..Said' where nothing that the law and all that it calls make is longer than what came in: it says more and counts as full. Else prove '..UptoSaid'. A law counts once. -/
mutual
def uptoBulk {H : Type} : DataW H → Nat
  | .lit (.string bytes) => bytes.length + 1
  | .lit _ => 1
  | .nil => 1
  | .ptr d => uptoBulk d + 1
  | .slice elems spare => uptoBulkAll elems + uptoBulkAll spare + 1
  | .agg parts => uptoBulkAll parts + 1
  | .iface _ d => uptoBulk d + 1
  | .map entries => uptoBulkEntries entries + 1
  | .held _ => 1
def uptoBulkAll {H : Type} : List (DataW H) → Nat
  | [] => 0
  | d :: r => uptoBulk d + uptoBulkAll r
def uptoBulkEntries {H : Type} : List (Lit × DataW H) → Nat
  | [] => 0
  | x :: r => uptoBulkEntry x + uptoBulkEntries r
def uptoBulkEntry {H : Type} : Lit × DataW H → Nat
  | (.string bytes, d) => bytes.length + uptoBulk d + 1
  | (_, d) => uptoBulk d + 1
 end
def uptoSmall : (H : Type) → List (DataW H) → Bool := fun _ ds => decide (uptoBulkAll ds ≤ 1048576)
def OpenSpec.upto (s : _root_.Go.ChangeSpec) : _root_.Go.OpenSpec := { _root_.Go.OpenSpec.ofChange s with cond := some uptoSmall }

/-- 'laws.FnSerialAdd', WHERE WHAT IT READS IS OF BULK AT MOST 1048576: true; the input reads as it did. -/
def fnSerialAddUptoRow : OpenClaim := { program := "ytjjjnmebadndeaa", sum := "9981675394a7a9c4dfa5deefbbdf5641a1b890eef0b5a8a34ef1e175b27c22d1", func := "loop.example/zonefiles/laws.FnSerialAdd", spec := "fnSerialAdd", apart := false, narrowed := true }
def FnSerialAddUptoSaid : Prop := fnSerialAddUptoRow.holds Try.pinned (OpenSpec.upto fnSerialAddSpec)

/-- 'laws.FnSerialLess', WHERE WHAT IT READS IS OF BULK AT MOST 1048576: true; the input reads as it did. -/
def fnSerialLessUptoRow : OpenClaim := { program := "ytjjjnmebadndeaa", sum := "9981675394a7a9c4dfa5deefbbdf5641a1b890eef0b5a8a34ef1e175b27c22d1", func := "loop.example/zonefiles/laws.FnSerialLess", spec := "fnSerialLess", apart := false, narrowed := true }
def FnSerialLessUptoSaid : Prop := fnSerialLessUptoRow.holds Try.pinned (OpenSpec.upto fnSerialLessSpec)

/-- 'laws.FnSerialSum', WHERE WHAT IT READS IS OF BULK AT MOST 1048576: true; the input reads as it did. -/
def fnSerialSumUptoRow : OpenClaim := { program := "ytjjjnmebadndeaa", sum := "9981675394a7a9c4dfa5deefbbdf5641a1b890eef0b5a8a34ef1e175b27c22d1", func := "loop.example/zonefiles/laws.FnSerialSum", spec := "fnSerialSum", apart := false, narrowed := true }
def FnSerialSumUptoSaid : Prop := fnSerialSumUptoRow.holds Try.pinned (OpenSpec.upto fnSerialSumSpec)

/-- 'laws.FnExactSerialAdd', WHERE WHAT IT READS IS OF BULK AT MOST 1048576: true; the input reads as it did. -/
def fnExactSerialAddUptoRow : OpenClaim := { program := "ytjjjnmebadndeaa", sum := "9981675394a7a9c4dfa5deefbbdf5641a1b890eef0b5a8a34ef1e175b27c22d1", func := "loop.example/zonefiles/laws.FnExactSerialAdd", spec := "fnExactSerialAdd", apart := false, narrowed := true }
def FnExactSerialAddUptoSaid : Prop := fnExactSerialAddUptoRow.holds Try.pinned (OpenSpec.upto fnExactSerialAddSpec)

/-- 'laws.FnExactSerialLess', WHERE WHAT IT READS IS OF BULK AT MOST 1048576: true; the input reads as it did. -/
def fnExactSerialLessUptoRow : OpenClaim := { program := "ytjjjnmebadndeaa", sum := "9981675394a7a9c4dfa5deefbbdf5641a1b890eef0b5a8a34ef1e175b27c22d1", func := "loop.example/zonefiles/laws.FnExactSerialLess", spec := "fnExactSerialLess", apart := false, narrowed := true }
def FnExactSerialLessUptoSaid : Prop := fnExactSerialLessUptoRow.holds Try.pinned (OpenSpec.upto fnExactSerialLessSpec)

end Rows
end Go.Proofs.Ytjjjnmebadndeaa
