/-
  No cell of these rows narrows 'for every input' (looked for: loops, veiled, ifaces, maps, wideKeys, modest, calm, conditions, laid).
  DERIVED. THE GIVEN ROWS OF THIS SEAT. 7 by the template 'for every input the law returns true; each argument reads behind the call as it read before'; 0 by the template 'total and deterministic' (their statements: YtaiijnaockbahaaTotals.lean).
  GIVEN WITH THE SEED: the statements are not yours to turn. If you find one false, say at which input.
  Laid BY PROGRAM, IN A SANDBOX (cutbox-rows.mjs): the forced cells as the released guide's own fill.sh prints them over the translation 30baf17792999f2d… (all of the seat's roots in one cut). By AI agents, Wed Nov 11 2026. No macro, syntax, notation, axiom, sorry.
-/
import Derived.Test.YtaiijnaockbahaaChecked
import GoSem.Claim
import GoSem.ClaimJoined
import GoSem.ClaimMapViews
import Derived.JoinedTies
import Derived.KernelRfl
namespace Go.Proofs.Ytaiijnaockbahaa
/- THE CELL 'sum', in the pinned program and in every row, IS THE sha256 OF THE DUMP (.gsa) THAT YtaiijnaockbahaaProg.lean LOADS. Nothing in Lean hashes anything: it is a label: what it is worth is what the hold of that sum in a sandbox is worth. -/
noncomputable def Try.pinned : Pinned := { name := "ytaiijnaockbahaa", sum := "30baf17792999f2df20a62205f78bb540b2c3110d5d8bc4ec0f08b1580a7e230", checked := Try.checked }
namespace Rows
def none {H : Type} : Left H := { results := [], args := [] }

/-- 'laws.FnRecordBefore': WHATEVER THE INPUT: true; the input reads as it did. -/
def fnRecordBeforeSpec : ChangeSpec := { name := "fnRecordBefore", fn := fun _ => fun
  | [d] => { results := [.lit (.bool true)], args := [d] }
  | _ => none }
def fnRecordBeforeRow : OpenClaim := { program := "ytaiijnaockbahaa", sum := "30baf17792999f2df20a62205f78bb540b2c3110d5d8bc4ec0f08b1580a7e230", func := "loop.example/zonefiles/laws.FnRecordBefore", spec := "fnRecordBefore", unfollowed := true, recurses := true, apart := false }
def FnRecordBeforeSaid : Prop := fnRecordBeforeRow.holds Try.pinned (OpenSpec.ofChange fnRecordBeforeSpec)

/-- ITS FALSE NEIGHBOUR: 'it returns false'. Refute it at one input. -/
def fnRecordBeforeWrong : ChangeSpec := { name := "fnRecordBefore", fn := fun _ => fun
  | [d] => { results := [.lit (.bool false)], args := [d] }
  | _ => none }
def FnRecordBeforeWrongFalsely : Prop := fnRecordBeforeRow.holds Try.pinned (OpenSpec.ofChange fnRecordBeforeWrong)

/-- 'laws.FnRecordNames': WHATEVER THE INPUT: true; the input reads as it did. -/
def fnRecordNamesSpec : ChangeSpec := { name := "fnRecordNames", fn := fun _ => fun
  | [d] => { results := [.lit (.bool true)], args := [d] }
  | _ => none }
def fnRecordNamesRow : OpenClaim := { program := "ytaiijnaockbahaa", sum := "30baf17792999f2df20a62205f78bb540b2c3110d5d8bc4ec0f08b1580a7e230", func := "loop.example/zonefiles/laws.FnRecordNames", spec := "fnRecordNames", unfollowed := true, recurses := true, apart := false }
def FnRecordNamesSaid : Prop := fnRecordNamesRow.holds Try.pinned (OpenSpec.ofChange fnRecordNamesSpec)

/-- ITS FALSE NEIGHBOUR: 'it returns false'. Refute it at one input. -/
def fnRecordNamesWrong : ChangeSpec := { name := "fnRecordNames", fn := fun _ => fun
  | [d] => { results := [.lit (.bool false)], args := [d] }
  | _ => none }
def FnRecordNamesWrongFalsely : Prop := fnRecordNamesRow.holds Try.pinned (OpenSpec.ofChange fnRecordNamesWrong)

/-- 'laws.FnSameData': WHATEVER THE INPUT: true; the input reads as it did. -/
def fnSameDataSpec : ChangeSpec := { name := "fnSameData", fn := fun _ => fun
  | [d] => { results := [.lit (.bool true)], args := [d] }
  | _ => none }
def fnSameDataRow : OpenClaim := { program := "ytaiijnaockbahaa", sum := "30baf17792999f2df20a62205f78bb540b2c3110d5d8bc4ec0f08b1580a7e230", func := "loop.example/zonefiles/laws.FnSameData", spec := "fnSameData", recurses := true, apart := false }
def FnSameDataSaid : Prop := fnSameDataRow.holds Try.pinned (OpenSpec.ofChange fnSameDataSpec)

/-- ITS FALSE NEIGHBOUR: 'it returns false'. Refute it at one input. -/
def fnSameDataWrong : ChangeSpec := { name := "fnSameData", fn := fun _ => fun
  | [d] => { results := [.lit (.bool false)], args := [d] }
  | _ => none }
def FnSameDataWrongFalsely : Prop := fnSameDataRow.holds Try.pinned (OpenSpec.ofChange fnSameDataWrong)

/-- 'laws.FnRecordKinds': WHATEVER THE INPUT: true; the input reads as it did. -/
def fnRecordKindsSpec : ChangeSpec := { name := "fnRecordKinds", fn := fun _ => fun
  | [d] => { results := [.lit (.bool true)], args := [d] }
  | _ => none }
def fnRecordKindsRow : OpenClaim := { program := "ytaiijnaockbahaa", sum := "30baf17792999f2df20a62205f78bb540b2c3110d5d8bc4ec0f08b1580a7e230", func := "loop.example/zonefiles/laws.FnRecordKinds", spec := "fnRecordKinds", unfollowed := true, recurses := true, apart := false }
def FnRecordKindsSaid : Prop := fnRecordKindsRow.holds Try.pinned (OpenSpec.ofChange fnRecordKindsSpec)

/-- ITS FALSE NEIGHBOUR: 'it returns false'. Refute it at one input. -/
def fnRecordKindsWrong : ChangeSpec := { name := "fnRecordKinds", fn := fun _ => fun
  | [d] => { results := [.lit (.bool false)], args := [d] }
  | _ => none }
def FnRecordKindsWrongFalsely : Prop := fnRecordKindsRow.holds Try.pinned (OpenSpec.ofChange fnRecordKindsWrong)

/-- 'laws.FnRecordTrans': WHATEVER THE INPUT: true; the input reads as it did. -/
def fnRecordTransSpec : ChangeSpec := { name := "fnRecordTrans", fn := fun _ => fun
  | [d1, d2] => { results := [.lit (.bool true)], args := [d1, d2] }
  | _ => none }
def fnRecordTransRow : OpenClaim := { program := "ytaiijnaockbahaa", sum := "30baf17792999f2df20a62205f78bb540b2c3110d5d8bc4ec0f08b1580a7e230", func := "loop.example/zonefiles/laws.FnRecordTrans", spec := "fnRecordTrans", unfollowed := true, recurses := true, apart := false }
def FnRecordTransSaid : Prop := fnRecordTransRow.holds Try.pinned (OpenSpec.ofChange fnRecordTransSpec)

/-- ITS FALSE NEIGHBOUR: 'it returns false'. Refute it at one input. -/
def fnRecordTransWrong : ChangeSpec := { name := "fnRecordTrans", fn := fun _ => fun
  | [d1, d2] => { results := [.lit (.bool false)], args := [d1, d2] }
  | _ => none }
def FnRecordTransWrongFalsely : Prop := fnRecordTransRow.holds Try.pinned (OpenSpec.ofChange fnRecordTransWrong)

/-- 'laws.FnRecordMove': WHATEVER THE INPUT: true; the input reads as it did. -/
def fnRecordMoveSpec : ChangeSpec := { name := "fnRecordMove", fn := fun _ => fun
  | [d] => { results := [.lit (.bool true)], args := [d] }
  | _ => none }
def fnRecordMoveRow : OpenClaim := { program := "ytaiijnaockbahaa", sum := "30baf17792999f2df20a62205f78bb540b2c3110d5d8bc4ec0f08b1580a7e230", func := "loop.example/zonefiles/laws.FnRecordMove", spec := "fnRecordMove", unfollowed := true, recurses := true, apart := false }
def FnRecordMoveSaid : Prop := fnRecordMoveRow.holds Try.pinned (OpenSpec.ofChange fnRecordMoveSpec)

/-- ITS FALSE NEIGHBOUR: 'it returns false'. Refute it at one input. -/
def fnRecordMoveWrong : ChangeSpec := { name := "fnRecordMove", fn := fun _ => fun
  | [d] => { results := [.lit (.bool false)], args := [d] }
  | _ => none }
def FnRecordMoveWrongFalsely : Prop := fnRecordMoveRow.holds Try.pinned (OpenSpec.ofChange fnRecordMoveWrong)

/-- 'laws.FnDataNums': WHATEVER THE INPUT: true; the input reads as it did. -/
def fnDataNumsSpec : ChangeSpec := { name := "fnDataNums", fn := fun _ => fun
  | [d] => { results := [.lit (.bool true)], args := [d] }
  | _ => none }
def fnDataNumsRow : OpenClaim := { program := "ytaiijnaockbahaa", sum := "30baf17792999f2df20a62205f78bb540b2c3110d5d8bc4ec0f08b1580a7e230", func := "loop.example/zonefiles/laws.FnDataNums", spec := "fnDataNums", recurses := true, apart := false }
def FnDataNumsSaid : Prop := fnDataNumsRow.holds Try.pinned (OpenSpec.ofChange fnDataNumsSpec)

/-- ITS FALSE NEIGHBOUR: 'it returns false'. Refute it at one input. -/
def fnDataNumsWrong : ChangeSpec := { name := "fnDataNums", fn := fun _ => fun
  | [d] => { results := [.lit (.bool false)], args := [d] }
  | _ => none }
def FnDataNumsWrongFalsely : Prop := fnDataNumsRow.holds Try.pinned (OpenSpec.ofChange fnDataNumsWrong)

/- THE SECOND FORM. 'bulk': how many values and letters a reading holds, each counted each time it is reached (what is shared counts as often as it is met; a slice's spare places count too). A statement '..UptoSaid' is the law's where the arguments, and the package variables that the reading takes, are together of bulk at most 1048576: NARROWER than '..Said'. Prove '..Said' where nothing that the law and all that it calls make is longer than what came in: it says more and counts as full. Else prove '..UptoSaid'. A law counts once. -/
mutual
def uptoBulk {H : Type} : DataW H → Nat
  | .lit (.string bytes) => bytes.length + 1
  | .lit _ => 1
  | .nil => 1
  | .ptr d => uptoBulk d + 1
  | .slice elems spare => uptoBulkAll elems + uptoBulkAll spare + 1
  | .agg parts => uptoBulkAll parts + 1
  | .iface _ d => uptoBulk d + 1
  | .map entries => uptoBulkEntries entries + 1
  | .held _ => 1
def uptoBulkAll {H : Type} : List (DataW H) → Nat
  | [] => 0
  | d :: r => uptoBulk d + uptoBulkAll r
def uptoBulkEntries {H : Type} : List (Lit × DataW H) → Nat
  | [] => 0
  | x :: r => uptoBulkEntry x + uptoBulkEntries r
def uptoBulkEntry {H : Type} : Lit × DataW H → Nat
  | (.string bytes, d) => bytes.length + uptoBulk d + 1
  | (_, d) => uptoBulk d + 1
 end
def uptoSmall : (H : Type) → List (DataW H) → Bool := fun _ ds => decide (uptoBulkAll ds ≤ 1048576)
def OpenSpec.upto (s : _root_.Go.ChangeSpec) : _root_.Go.OpenSpec := { _root_.Go.OpenSpec.ofChange s with cond := some uptoSmall }

/-- 'laws.FnRecordBefore', WHERE WHAT IT READS IS OF BULK AT MOST 1048576: true; the input reads as it did. -/
def fnRecordBeforeUptoRow : OpenClaim := { program := "ytaiijnaockbahaa", sum := "30baf17792999f2df20a62205f78bb540b2c3110d5d8bc4ec0f08b1580a7e230", func := "loop.example/zonefiles/laws.FnRecordBefore", spec := "fnRecordBefore", unfollowed := true, recurses := true, apart := false, narrowed := true }
def FnRecordBeforeUptoSaid : Prop := fnRecordBeforeUptoRow.holds Try.pinned (OpenSpec.upto fnRecordBeforeSpec)

/-- 'laws.FnRecordNames', WHERE WHAT IT READS IS OF BULK AT MOST 1048576: true; the input reads as it did. -/
def fnRecordNamesUptoRow : OpenClaim := { program := "ytaiijnaockbahaa", sum := "30baf17792999f2df20a62205f78bb540b2c3110d5d8bc4ec0f08b1580a7e230", func := "loop.example/zonefiles/laws.FnRecordNames", spec := "fnRecordNames", unfollowed := true, recurses := true, apart := false, narrowed := true }
def FnRecordNamesUptoSaid : Prop := fnRecordNamesUptoRow.holds Try.pinned (OpenSpec.upto fnRecordNamesSpec)

/-- 'laws.FnSameData', WHERE WHAT IT READS IS OF BULK AT MOST 1048576: true; the input reads as it did. -/
def fnSameDataUptoRow : OpenClaim := { program := "ytaiijnaockbahaa", sum := "30baf17792999f2df20a62205f78bb540b2c3110d5d8bc4ec0f08b1580a7e230", func := "loop.example/zonefiles/laws.FnSameData", spec := "fnSameData", recurses := true, apart := false, narrowed := true }
def FnSameDataUptoSaid : Prop := fnSameDataUptoRow.holds Try.pinned (OpenSpec.upto fnSameDataSpec)

/-- 'laws.FnRecordKinds', WHERE WHAT IT READS IS OF BULK AT MOST 1048576: true; the input reads as it did. -/
def fnRecordKindsUptoRow : OpenClaim := { program := "ytaiijnaockbahaa", sum := "30baf17792999f2df20a62205f78bb540b2c3110d5d8bc4ec0f08b1580a7e230", func := "loop.example/zonefiles/laws.FnRecordKinds", spec := "fnRecordKinds", unfollowed := true, recurses := true, apart := false, narrowed := true }
def FnRecordKindsUptoSaid : Prop := fnRecordKindsUptoRow.holds Try.pinned (OpenSpec.upto fnRecordKindsSpec)

/-- 'laws.FnRecordTrans', WHERE WHAT IT READS IS OF BULK AT MOST 1048576: true; the input reads as it did. -/
def fnRecordTransUptoRow : OpenClaim := { program := "ytaiijnaockbahaa", sum := "30baf17792999f2df20a62205f78bb540b2c3110d5d8bc4ec0f08b1580a7e230", func := "loop.example/zonefiles/laws.FnRecordTrans", spec := "fnRecordTrans", unfollowed := true, recurses := true, apart := false, narrowed := true }
def FnRecordTransUptoSaid : Prop := fnRecordTransUptoRow.holds Try.pinned (OpenSpec.upto fnRecordTransSpec)

/-- 'laws.FnRecordMove', WHERE WHAT IT READS IS OF BULK AT MOST 1048576: true; the input reads as it did. -/
def fnRecordMoveUptoRow : OpenClaim := { program := "ytaiijnaockbahaa", sum := "30baf17792999f2df20a62205f78bb540b2c3110d5d8bc4ec0f08b1580a7e230", func := "loop.example/zonefiles/laws.FnRecordMove", spec := "fnRecordMove", unfollowed := true, recurses := true, apart := false, narrowed := true }
def FnRecordMoveUptoSaid : Prop := fnRecordMoveUptoRow.holds Try.pinned (OpenSpec.upto fnRecordMoveSpec)

/-- 'laws.FnDataNums', WHERE WHAT IT READS IS OF BULK AT MOST 1048576: true; the input reads as it did. -/
def fnDataNumsUptoRow : OpenClaim := { program := "ytaiijnaockbahaa", sum := "30baf17792999f2df20a62205f78bb540b2c3110d5d8bc4ec0f08b1580a7e230", func := "loop.example/zonefiles/laws.FnDataNums", spec := "fnDataNums", recurses := true, apart := false, narrowed := true }
def FnDataNumsUptoSaid : Prop := fnDataNumsUptoRow.holds Try.pinned (OpenSpec.upto fnDataNumsSpec)

end Rows
end Go.Proofs.Ytaiijnaockbahaa
