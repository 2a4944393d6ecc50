/-
  No cell of these rows narrows 'for every input' (looked for: loops, veiled, ifaces, maps, wideKeys, modest, calm, conditions, laid).
  DERIVED. THE GIVEN ROWS OF THIS SEAT. 4 by the template 'for every input the law returns true; each argument reads behind the call as it read before'; 0 by the template 'total and deterministic' (their statements: YtdaekcpjkfencabTotals.lean).
  GIVEN WITH THE SEED: the statements are not yours to turn. If you find one false, say at which input.
  Laid BY PROGRAM, IN A SANDBOX (cutbox-rows.mjs): the forced cells as the released guide's own fill.sh prints them over the translation c826c0fea3c3a5e1… (all of the seat's roots in one cut). By AI agents, Wed Nov 11 2026. No macro, syntax, notation, axiom, sorry.
-/
import Derived.Test.YtdaekcpjkfencabChecked
import GoSem.Claim
import GoSem.ClaimJoined
import GoSem.ClaimMapViews
import Derived.JoinedTies
import Derived.KernelRfl
namespace Go.Proofs.Ytdaekcpjkfencab
/- THE CELL 'sum', in the pinned program and in every row, IS THE sha256 OF THE DUMP (.gsa) THAT YtdaekcpjkfencabProg.lean LOADS. Nothing in Lean hashes anything: it is a label: what it is worth is what the hold of that sum in a sandbox is worth. -/
noncomputable def Try.pinned : Pinned := { name := "ytdaekcpjkfencab", sum := "c826c0fea3c3a5e1cd0b0ff7722e10c5ff07e7e0729651a0de827874a3a3c117", checked := Try.checked }
namespace Rows
def none {H : Type} : Left H := { results := [], args := [] }

/-- 'laws.FnExactRecordValid': WHATEVER THE INPUT: true; the input reads as it did. -/
def fnExactRecordValidSpec : ChangeSpec := { name := "fnExactRecordValid", fn := fun _ => fun
  | [d] => { results := [.lit (.bool true)], args := [d] }
  | _ => none }
def fnExactRecordValidRow : OpenClaim := { program := "ytdaekcpjkfencab", sum := "c826c0fea3c3a5e1cd0b0ff7722e10c5ff07e7e0729651a0de827874a3a3c117", func := "loop.example/zonefiles/laws.FnExactRecordValid", spec := "fnExactRecordValid", unfollowed := true, recurses := true, apart := false }
def FnExactRecordValidSaid : Prop := fnExactRecordValidRow.holds Try.pinned (OpenSpec.ofChange fnExactRecordValidSpec)

/-- ITS FALSE NEIGHBOUR: 'it returns false'. Refute it at one input. -/
def fnExactRecordValidWrong : ChangeSpec := { name := "fnExactRecordValid", fn := fun _ => fun
  | [d] => { results := [.lit (.bool false)], args := [d] }
  | _ => none }
def FnExactRecordValidWrongFalsely : Prop := fnExactRecordValidRow.holds Try.pinned (OpenSpec.ofChange fnExactRecordValidWrong)

/-- 'laws.FnExactRecordSame': WHATEVER THE INPUT: true; the input reads as it did. -/
def fnExactRecordSameSpec : ChangeSpec := { name := "fnExactRecordSame", fn := fun _ => fun
  | [d1, d2] => { results := [.lit (.bool true)], args := [d1, d2] }
  | _ => none }
def fnExactRecordSameRow : OpenClaim := { program := "ytdaekcpjkfencab", sum := "c826c0fea3c3a5e1cd0b0ff7722e10c5ff07e7e0729651a0de827874a3a3c117", func := "loop.example/zonefiles/laws.FnExactRecordSame", spec := "fnExactRecordSame", apart := false }
def FnExactRecordSameSaid : Prop := fnExactRecordSameRow.holds Try.pinned (OpenSpec.ofChange fnExactRecordSameSpec)

/-- ITS FALSE NEIGHBOUR: 'it returns false'. Refute it at one input. -/
def fnExactRecordSameWrong : ChangeSpec := { name := "fnExactRecordSame", fn := fun _ => fun
  | [d1, d2] => { results := [.lit (.bool false)], args := [d1, d2] }
  | _ => none }
def FnExactRecordSameWrongFalsely : Prop := fnExactRecordSameRow.holds Try.pinned (OpenSpec.ofChange fnExactRecordSameWrong)

/-- 'laws.FnExactRecordBefore': WHATEVER THE INPUT: true; the input reads as it did. -/
def fnExactRecordBeforeSpec : ChangeSpec := { name := "fnExactRecordBefore", fn := fun _ => fun
  | [d1, d2] => { results := [.lit (.bool true)], args := [d1, d2] }
  | _ => none }
def fnExactRecordBeforeRow : OpenClaim := { program := "ytdaekcpjkfencab", sum := "c826c0fea3c3a5e1cd0b0ff7722e10c5ff07e7e0729651a0de827874a3a3c117", func := "loop.example/zonefiles/laws.FnExactRecordBefore", spec := "fnExactRecordBefore", unfollowed := true, recurses := true, apart := false }
def FnExactRecordBeforeSaid : Prop := fnExactRecordBeforeRow.holds Try.pinned (OpenSpec.ofChange fnExactRecordBeforeSpec)

/-- ITS FALSE NEIGHBOUR: 'it returns false'. Refute it at one input. -/
def fnExactRecordBeforeWrong : ChangeSpec := { name := "fnExactRecordBefore", fn := fun _ => fun
  | [d1, d2] => { results := [.lit (.bool false)], args := [d1, d2] }
  | _ => none }
def FnExactRecordBeforeWrongFalsely : Prop := fnExactRecordBeforeRow.holds Try.pinned (OpenSpec.ofChange fnExactRecordBeforeWrong)

/-- 'laws.FnExactSameData': WHATEVER THE INPUT: true; the input reads as it did. -/
def fnExactSameDataSpec : ChangeSpec := { name := "fnExactSameData", fn := fun _ => fun
  | [d1, d2] => { results := [.lit (.bool true)], args := [d1, d2] }
  | _ => none }
def fnExactSameDataRow : OpenClaim := { program := "ytdaekcpjkfencab", sum := "c826c0fea3c3a5e1cd0b0ff7722e10c5ff07e7e0729651a0de827874a3a3c117", func := "loop.example/zonefiles/laws.FnExactSameData", spec := "fnExactSameData", apart := false }
def FnExactSameDataSaid : Prop := fnExactSameDataRow.holds Try.pinned (OpenSpec.ofChange fnExactSameDataSpec)

/-- ITS FALSE NEIGHBOUR: 'it returns false'. Refute it at one input. -/
def fnExactSameDataWrong : ChangeSpec := { name := "fnExactSameData", fn := fun _ => fun
  | [d1, d2] => { results := [.lit (.bool false)], args := [d1, d2] }
  | _ => none }
def FnExactSameDataWrongFalsely : Prop := fnExactSameDataRow.holds Try.pinned (OpenSpec.ofChange fnExactSameDataWrong)

/- THE SECOND FORM. 'bulk': how many values and letters a reading holds, each counted each time it is reached (what is shared counts as often as it is met; a slice's spare places count too). A statement '..UptoSaid' is the law's where the arguments, and the package variables that the reading takes, are together of bulk at most 1048576: NARROWER than '..Said'. Prove '..Said' where nothing that the law and all that it calls make is longer than what came in: it says more and counts as full. Else prove '..UptoSaid'. A law counts once. -/
mutual
def uptoBulk {H : Type} : DataW H → Nat
  | .lit (.string bytes) => bytes.length + 1
  | .lit _ => 1
  | .nil => 1
  | .ptr d => uptoBulk d + 1
  | .slice elems spare => uptoBulkAll elems + uptoBulkAll spare + 1
  | .agg parts => uptoBulkAll parts + 1
  | .iface _ d => uptoBulk d + 1
  | .map entries => uptoBulkEntries entries + 1
  | .held _ => 1
def uptoBulkAll {H : Type} : List (DataW H) → Nat
  | [] => 0
  | d :: r => uptoBulk d + uptoBulkAll r
def uptoBulkEntries {H : Type} : List (Lit × DataW H) → Nat
  | [] => 0
  | x :: r => uptoBulkEntry x + uptoBulkEntries r
def uptoBulkEntry {H : Type} : Lit × DataW H → Nat
  | (.string bytes, d) => bytes.length + uptoBulk d + 1
  | (_, d) => uptoBulk d + 1
 end
def uptoSmall : (H : Type) → List (DataW H) → Bool := fun _ ds => decide (uptoBulkAll ds ≤ 1048576)
def OpenSpec.upto (s : _root_.Go.ChangeSpec) : _root_.Go.OpenSpec := { _root_.Go.OpenSpec.ofChange s with cond := some uptoSmall }

/-- 'laws.FnExactRecordValid', WHERE WHAT IT READS IS OF BULK AT MOST 1048576: true; the input reads as it did. -/
def fnExactRecordValidUptoRow : OpenClaim := { program := "ytdaekcpjkfencab", sum := "c826c0fea3c3a5e1cd0b0ff7722e10c5ff07e7e0729651a0de827874a3a3c117", func := "loop.example/zonefiles/laws.FnExactRecordValid", spec := "fnExactRecordValid", unfollowed := true, recurses := true, apart := false, narrowed := true }
def FnExactRecordValidUptoSaid : Prop := fnExactRecordValidUptoRow.holds Try.pinned (OpenSpec.upto fnExactRecordValidSpec)

/-- 'laws.FnExactRecordSame', WHERE WHAT IT READS IS OF BULK AT MOST 1048576: true; the input reads as it did. -/
def fnExactRecordSameUptoRow : OpenClaim := { program := "ytdaekcpjkfencab", sum := "c826c0fea3c3a5e1cd0b0ff7722e10c5ff07e7e0729651a0de827874a3a3c117", func := "loop.example/zonefiles/laws.FnExactRecordSame", spec := "fnExactRecordSame", apart := false, narrowed := true }
def FnExactRecordSameUptoSaid : Prop := fnExactRecordSameUptoRow.holds Try.pinned (OpenSpec.upto fnExactRecordSameSpec)

/-- 'laws.FnExactRecordBefore', WHERE WHAT IT READS IS OF BULK AT MOST 1048576: true; the input reads as it did. -/
def fnExactRecordBeforeUptoRow : OpenClaim := { program := "ytdaekcpjkfencab", sum := "c826c0fea3c3a5e1cd0b0ff7722e10c5ff07e7e0729651a0de827874a3a3c117", func := "loop.example/zonefiles/laws.FnExactRecordBefore", spec := "fnExactRecordBefore", unfollowed := true, recurses := true, apart := false, narrowed := true }
def FnExactRecordBeforeUptoSaid : Prop := fnExactRecordBeforeUptoRow.holds Try.pinned (OpenSpec.upto fnExactRecordBeforeSpec)

/-- 'laws.FnExactSameData', WHERE WHAT IT READS IS OF BULK AT MOST 1048576: true; the input reads as it did. -/
def fnExactSameDataUptoRow : OpenClaim := { program := "ytdaekcpjkfencab", sum := "c826c0fea3c3a5e1cd0b0ff7722e10c5ff07e7e0729651a0de827874a3a3c117", func := "loop.example/zonefiles/laws.FnExactSameData", spec := "fnExactSameData", apart := false, narrowed := true }
def FnExactSameDataUptoSaid : Prop := fnExactSameDataUptoRow.holds Try.pinned (OpenSpec.upto fnExactSameDataSpec)

end Rows
end Go.Proofs.Ytdaekcpjkfencab
