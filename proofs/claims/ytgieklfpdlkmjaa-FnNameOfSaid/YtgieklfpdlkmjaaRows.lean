/-
  No cell of these rows narrows 'for every input' (looked for: loops, veiled, ifaces, maps, wideKeys, modest, calm, conditions, laid).
  DERIVED. THE GIVEN ROWS OF THIS SEAT. 12 by the template 'for every input the law returns true; each argument reads behind the call as it read before'; 0 by the template 'total and deterministic' (their statements: YtgieklfpdlkmjaaTotals.lean).
  GIVEN WITH THE SEED: the statements are not yours to turn. If you find one false, say at which input.
  Laid BY PROGRAM, IN A SANDBOX (cutbox-rows.mjs): the forced cells as the released guide's own fill.sh prints them over the translation b3945f055eeefa18… (all of the seat's roots in one cut). By AI agents, Wed Nov 11 2026. No macro, syntax, notation, axiom, sorry.
-/
import Derived.Test.YtgieklfpdlkmjaaChecked
import GoSem.Claim
import GoSem.ClaimJoined
import GoSem.ClaimMapViews
import Derived.JoinedTies
import Derived.KernelRfl
namespace Go.Proofs.Ytgieklfpdlkmjaa
/- THE CELL 'sum', in the pinned program and in every row, IS THE sha256 OF THE DUMP (.gsa) THAT YtgieklfpdlkmjaaProg.lean LOADS. Nothing in Lean hashes anything: it is a label: what it is worth is what the hold of that sum in a sandbox is worth. -/
noncomputable def Try.pinned : Pinned := { name := "ytgieklfpdlkmjaa", sum := "b3945f055eeefa18a72ce78e1c9f48b37f36ef6e45b141c31198614c650bfb8b", checked := Try.checked }
namespace Rows
def none {H : Type} : Left H := { results := [], args := [] }

/-- 'laws.FnNameOf': WHATEVER THE INPUT: true; the input reads as it did. -/
def fnNameOfSpec : ChangeSpec := { name := "fnNameOf", fn := fun _ => fun
  | [d1, d2] => { results := [.lit (.bool true)], args := [d1, d2] }
  | _ => none }
def fnNameOfRow : OpenClaim := { program := "ytgieklfpdlkmjaa", sum := "b3945f055eeefa18a72ce78e1c9f48b37f36ef6e45b141c31198614c650bfb8b", func := "loop.example/zonefiles/laws.FnNameOf", spec := "fnNameOf", inPlace := ["internal/abi.NoEscape", "internal/bytealg.MakeNoZero"], apart := false }
def FnNameOfSaid : Prop := fnNameOfRow.holds Try.pinned (OpenSpec.ofChange fnNameOfSpec)

/-- ITS FALSE NEIGHBOUR: 'it returns false'. Refute it at one input. -/
def fnNameOfWrong : ChangeSpec := { name := "fnNameOf", fn := fun _ => fun
  | [d1, d2] => { results := [.lit (.bool false)], args := [d1, d2] }
  | _ => none }
def FnNameOfWrongFalsely : Prop := fnNameOfRow.holds Try.pinned (OpenSpec.ofChange fnNameOfWrong)

/-- 'laws.FnReadName': WHATEVER THE INPUT: true; the input reads as it did. -/
def fnReadNameSpec : ChangeSpec := { name := "fnReadName", fn := fun _ => fun
  | [d] => { results := [.lit (.bool true)], args := [d] }
  | _ => none }
def fnReadNameRow : OpenClaim := { program := "ytgieklfpdlkmjaa", sum := "b3945f055eeefa18a72ce78e1c9f48b37f36ef6e45b141c31198614c650bfb8b", func := "loop.example/zonefiles/laws.FnReadName", spec := "fnReadName", apart := false }
def FnReadNameSaid : Prop := fnReadNameRow.holds Try.pinned (OpenSpec.ofChange fnReadNameSpec)

/-- ITS FALSE NEIGHBOUR: 'it returns false'. Refute it at one input. -/
def fnReadNameWrong : ChangeSpec := { name := "fnReadName", fn := fun _ => fun
  | [d] => { results := [.lit (.bool false)], args := [d] }
  | _ => none }
def FnReadNameWrongFalsely : Prop := fnReadNameRow.holds Try.pinned (OpenSpec.ofChange fnReadNameWrong)

/-- 'laws.FnShortName': WHATEVER THE INPUT: true; the input reads as it did. -/
def fnShortNameSpec : ChangeSpec := { name := "fnShortName", fn := fun _ => fun
  | [d] => { results := [.lit (.bool true)], args := [d] }
  | _ => none }
def fnShortNameRow : OpenClaim := { program := "ytgieklfpdlkmjaa", sum := "b3945f055eeefa18a72ce78e1c9f48b37f36ef6e45b141c31198614c650bfb8b", func := "loop.example/zonefiles/laws.FnShortName", spec := "fnShortName", apart := false }
def FnShortNameSaid : Prop := fnShortNameRow.holds Try.pinned (OpenSpec.ofChange fnShortNameSpec)

/-- ITS FALSE NEIGHBOUR: 'it returns false'. Refute it at one input. -/
def fnShortNameWrong : ChangeSpec := { name := "fnShortName", fn := fun _ => fun
  | [d] => { results := [.lit (.bool false)], args := [d] }
  | _ => none }
def FnShortNameWrongFalsely : Prop := fnShortNameRow.holds Try.pinned (OpenSpec.ofChange fnShortNameWrong)

/-- 'laws.FnNameBefore': WHATEVER THE INPUT: true; the input reads as it did. -/
def fnNameBeforeSpec : ChangeSpec := { name := "fnNameBefore", fn := fun _ => fun
  | [d] => { results := [.lit (.bool true)], args := [d] }
  | _ => none }
def fnNameBeforeRow : OpenClaim := { program := "ytgieklfpdlkmjaa", sum := "b3945f055eeefa18a72ce78e1c9f48b37f36ef6e45b141c31198614c650bfb8b", func := "loop.example/zonefiles/laws.FnNameBefore", spec := "fnNameBefore", apart := false }
def FnNameBeforeSaid : Prop := fnNameBeforeRow.holds Try.pinned (OpenSpec.ofChange fnNameBeforeSpec)

/-- ITS FALSE NEIGHBOUR: 'it returns false'. Refute it at one input. -/
def fnNameBeforeWrong : ChangeSpec := { name := "fnNameBefore", fn := fun _ => fun
  | [d] => { results := [.lit (.bool false)], args := [d] }
  | _ => none }
def FnNameBeforeWrongFalsely : Prop := fnNameBeforeRow.holds Try.pinned (OpenSpec.ofChange fnNameBeforeWrong)

/-- 'laws.FnIsBelow': WHATEVER THE INPUT: true; the input reads as it did. -/
def fnIsBelowSpec : ChangeSpec := { name := "fnIsBelow", fn := fun _ => fun
  | [d] => { results := [.lit (.bool true)], args := [d] }
  | _ => none }
def fnIsBelowRow : OpenClaim := { program := "ytgieklfpdlkmjaa", sum := "b3945f055eeefa18a72ce78e1c9f48b37f36ef6e45b141c31198614c650bfb8b", func := "loop.example/zonefiles/laws.FnIsBelow", spec := "fnIsBelow", inPlace := ["internal/abi.NoEscape", "internal/bytealg.MakeNoZero"], apart := false }
def FnIsBelowSaid : Prop := fnIsBelowRow.holds Try.pinned (OpenSpec.ofChange fnIsBelowSpec)

/-- ITS FALSE NEIGHBOUR: 'it returns false'. Refute it at one input. -/
def fnIsBelowWrong : ChangeSpec := { name := "fnIsBelow", fn := fun _ => fun
  | [d] => { results := [.lit (.bool false)], args := [d] }
  | _ => none }
def FnIsBelowWrongFalsely : Prop := fnIsBelowRow.holds Try.pinned (OpenSpec.ofChange fnIsBelowWrong)

/-- 'laws.FnCommonTop': WHATEVER THE INPUT: true; the input reads as it did. -/
def fnCommonTopSpec : ChangeSpec := { name := "fnCommonTop", fn := fun _ => fun
  | [d] => { results := [.lit (.bool true)], args := [d] }
  | _ => none }
def fnCommonTopRow : OpenClaim := { program := "ytgieklfpdlkmjaa", sum := "b3945f055eeefa18a72ce78e1c9f48b37f36ef6e45b141c31198614c650bfb8b", func := "loop.example/zonefiles/laws.FnCommonTop", spec := "fnCommonTop", inPlace := ["internal/abi.NoEscape", "internal/bytealg.MakeNoZero"], apart := false }
def FnCommonTopSaid : Prop := fnCommonTopRow.holds Try.pinned (OpenSpec.ofChange fnCommonTopSpec)

/-- ITS FALSE NEIGHBOUR: 'it returns false'. Refute it at one input. -/
def fnCommonTopWrong : ChangeSpec := { name := "fnCommonTop", fn := fun _ => fun
  | [d] => { results := [.lit (.bool false)], args := [d] }
  | _ => none }
def FnCommonTopWrongFalsely : Prop := fnCommonTopRow.holds Try.pinned (OpenSpec.ofChange fnCommonTopWrong)

/-- 'laws.FnStarOf': WHATEVER THE INPUT: true; the input reads as it did. -/
def fnStarOfSpec : ChangeSpec := { name := "fnStarOf", fn := fun _ => fun
  | [d] => { results := [.lit (.bool true)], args := [d] }
  | _ => none }
def fnStarOfRow : OpenClaim := { program := "ytgieklfpdlkmjaa", sum := "b3945f055eeefa18a72ce78e1c9f48b37f36ef6e45b141c31198614c650bfb8b", func := "loop.example/zonefiles/laws.FnStarOf", spec := "fnStarOf", inPlace := ["internal/abi.NoEscape", "internal/bytealg.MakeNoZero"], apart := false }
def FnStarOfSaid : Prop := fnStarOfRow.holds Try.pinned (OpenSpec.ofChange fnStarOfSpec)

/-- ITS FALSE NEIGHBOUR: 'it returns false'. Refute it at one input. -/
def fnStarOfWrong : ChangeSpec := { name := "fnStarOf", fn := fun _ => fun
  | [d] => { results := [.lit (.bool false)], args := [d] }
  | _ => none }
def FnStarOfWrongFalsely : Prop := fnStarOfRow.holds Try.pinned (OpenSpec.ofChange fnStarOfWrong)

/-- 'laws.FnNameParent': WHATEVER THE INPUT: true; the input reads as it did. -/
def fnNameParentSpec : ChangeSpec := { name := "fnNameParent", fn := fun _ => fun
  | [d] => { results := [.lit (.bool true)], args := [d] }
  | _ => none }
def fnNameParentRow : OpenClaim := { program := "ytgieklfpdlkmjaa", sum := "b3945f055eeefa18a72ce78e1c9f48b37f36ef6e45b141c31198614c650bfb8b", func := "loop.example/zonefiles/laws.FnNameParent", spec := "fnNameParent", inPlace := ["internal/abi.NoEscape", "internal/bytealg.MakeNoZero"], apart := false }
def FnNameParentSaid : Prop := fnNameParentRow.holds Try.pinned (OpenSpec.ofChange fnNameParentSpec)

/-- ITS FALSE NEIGHBOUR: 'it returns false'. Refute it at one input. -/
def fnNameParentWrong : ChangeSpec := { name := "fnNameParent", fn := fun _ => fun
  | [d] => { results := [.lit (.bool false)], args := [d] }
  | _ => none }
def FnNameParentWrongFalsely : Prop := fnNameParentRow.holds Try.pinned (OpenSpec.ofChange fnNameParentWrong)

/-- 'laws.FnNameTrans': WHATEVER THE INPUT: true; the input reads as it did. -/
def fnNameTransSpec : ChangeSpec := { name := "fnNameTrans", fn := fun _ => fun
  | [d1, d2] => { results := [.lit (.bool true)], args := [d1, d2] }
  | _ => none }
def fnNameTransRow : OpenClaim := { program := "ytgieklfpdlkmjaa", sum := "b3945f055eeefa18a72ce78e1c9f48b37f36ef6e45b141c31198614c650bfb8b", func := "loop.example/zonefiles/laws.FnNameTrans", spec := "fnNameTrans", apart := false }
def FnNameTransSaid : Prop := fnNameTransRow.holds Try.pinned (OpenSpec.ofChange fnNameTransSpec)

/-- ITS FALSE NEIGHBOUR: 'it returns false'. Refute it at one input. -/
def fnNameTransWrong : ChangeSpec := { name := "fnNameTrans", fn := fun _ => fun
  | [d1, d2] => { results := [.lit (.bool false)], args := [d1, d2] }
  | _ => none }
def FnNameTransWrongFalsely : Prop := fnNameTransRow.holds Try.pinned (OpenSpec.ofChange fnNameTransWrong)

/-- 'laws.FnBelowTrans': WHATEVER THE INPUT: true; the input reads as it did. -/
def fnBelowTransSpec : ChangeSpec := { name := "fnBelowTrans", fn := fun _ => fun
  | [d1, d2] => { results := [.lit (.bool true)], args := [d1, d2] }
  | _ => none }
def fnBelowTransRow : OpenClaim := { program := "ytgieklfpdlkmjaa", sum := "b3945f055eeefa18a72ce78e1c9f48b37f36ef6e45b141c31198614c650bfb8b", func := "loop.example/zonefiles/laws.FnBelowTrans", spec := "fnBelowTrans", apart := false }
def FnBelowTransSaid : Prop := fnBelowTransRow.holds Try.pinned (OpenSpec.ofChange fnBelowTransSpec)

/-- ITS FALSE NEIGHBOUR: 'it returns false'. Refute it at one input. -/
def fnBelowTransWrong : ChangeSpec := { name := "fnBelowTrans", fn := fun _ => fun
  | [d1, d2] => { results := [.lit (.bool false)], args := [d1, d2] }
  | _ => none }
def FnBelowTransWrongFalsely : Prop := fnBelowTransRow.holds Try.pinned (OpenSpec.ofChange fnBelowTransWrong)

/-- 'laws.FnReadLower': WHATEVER THE INPUT: true; the input reads as it did. -/
def fnReadLowerSpec : ChangeSpec := { name := "fnReadLower", fn := fun _ => fun
  | [d] => { results := [.lit (.bool true)], args := [d] }
  | _ => none }
def fnReadLowerRow : OpenClaim := { program := "ytgieklfpdlkmjaa", sum := "b3945f055eeefa18a72ce78e1c9f48b37f36ef6e45b141c31198614c650bfb8b", func := "loop.example/zonefiles/laws.FnReadLower", spec := "fnReadLower", apart := false }
def FnReadLowerSaid : Prop := fnReadLowerRow.holds Try.pinned (OpenSpec.ofChange fnReadLowerSpec)

/-- ITS FALSE NEIGHBOUR: 'it returns false'. Refute it at one input. -/
def fnReadLowerWrong : ChangeSpec := { name := "fnReadLower", fn := fun _ => fun
  | [d] => { results := [.lit (.bool false)], args := [d] }
  | _ => none }
def FnReadLowerWrongFalsely : Prop := fnReadLowerRow.holds Try.pinned (OpenSpec.ofChange fnReadLowerWrong)

/-- 'laws.FnNameLabels': WHATEVER THE INPUT: true; the input reads as it did. -/
def fnNameLabelsSpec : ChangeSpec := { name := "fnNameLabels", fn := fun _ => fun
  | [d] => { results := [.lit (.bool true)], args := [d] }
  | _ => none }
def fnNameLabelsRow : OpenClaim := { program := "ytgieklfpdlkmjaa", sum := "b3945f055eeefa18a72ce78e1c9f48b37f36ef6e45b141c31198614c650bfb8b", func := "loop.example/zonefiles/laws.FnNameLabels", spec := "fnNameLabels", apart := false }
def FnNameLabelsSaid : Prop := fnNameLabelsRow.holds Try.pinned (OpenSpec.ofChange fnNameLabelsSpec)

/-- ITS FALSE NEIGHBOUR: 'it returns false'. Refute it at one input. -/
def fnNameLabelsWrong : ChangeSpec := { name := "fnNameLabels", fn := fun _ => fun
  | [d] => { results := [.lit (.bool false)], args := [d] }
  | _ => none }
def FnNameLabelsWrongFalsely : Prop := fnNameLabelsRow.holds Try.pinned (OpenSpec.ofChange fnNameLabelsWrong)

/- THE SECOND FORM. 'bulk': how many values and letters a reading holds, each counted each time it is reached (what is shared counts as often as it is met; a slice's spare places count too). A statement '..UptoSaid' is the law's where the arguments, and the package variables that the reading takes, are together of bulk at most 1048576: NARROWER than '..Said'. Prove '..Said' where nothing that the law and all that it calls make is longer than what came in: it says more and counts as full. Else prove '..UptoSaid'. A law counts once. -/
mutual
def uptoBulk {H : Type} : DataW H → Nat
  | .lit (.string bytes) => bytes.length + 1
  | .lit _ => 1
  | .nil => 1
  | .ptr d => uptoBulk d + 1
  | .slice elems spare => uptoBulkAll elems + uptoBulkAll spare + 1
  | .agg parts => uptoBulkAll parts + 1
  | .iface _ d => uptoBulk d + 1
  | .map entries => uptoBulkEntries entries + 1
  | .held _ => 1
def uptoBulkAll {H : Type} : List (DataW H) → Nat
  | [] => 0
  | d :: r => uptoBulk d + uptoBulkAll r
def uptoBulkEntries {H : Type} : List (Lit × DataW H) → Nat
  | [] => 0
  | x :: r => uptoBulkEntry x + uptoBulkEntries r
def uptoBulkEntry {H : Type} : Lit × DataW H → Nat
  | (.string bytes, d) => bytes.length + uptoBulk d + 1
  | (_, d) => uptoBulk d + 1
 end
def uptoSmall : (H : Type) → List (DataW H) → Bool := fun _ ds => decide (uptoBulkAll ds ≤ 1048576)
def OpenSpec.upto (s : _root_.Go.ChangeSpec) : _root_.Go.OpenSpec := { _root_.Go.OpenSpec.ofChange s with cond := some uptoSmall }

/-- 'laws.FnNameOf', WHERE WHAT IT READS IS OF BULK AT MOST 1048576: true; the input reads as it did. -/
def fnNameOfUptoRow : OpenClaim := { program := "ytgieklfpdlkmjaa", sum := "b3945f055eeefa18a72ce78e1c9f48b37f36ef6e45b141c31198614c650bfb8b", func := "loop.example/zonefiles/laws.FnNameOf", spec := "fnNameOf", inPlace := ["internal/abi.NoEscape", "internal/bytealg.MakeNoZero"], apart := false, narrowed := true }
def FnNameOfUptoSaid : Prop := fnNameOfUptoRow.holds Try.pinned (OpenSpec.upto fnNameOfSpec)

/-- 'laws.FnReadName', WHERE WHAT IT READS IS OF BULK AT MOST 1048576: true; the input reads as it did. -/
def fnReadNameUptoRow : OpenClaim := { program := "ytgieklfpdlkmjaa", sum := "b3945f055eeefa18a72ce78e1c9f48b37f36ef6e45b141c31198614c650bfb8b", func := "loop.example/zonefiles/laws.FnReadName", spec := "fnReadName", apart := false, narrowed := true }
def FnReadNameUptoSaid : Prop := fnReadNameUptoRow.holds Try.pinned (OpenSpec.upto fnReadNameSpec)

/-- 'laws.FnShortName', WHERE WHAT IT READS IS OF BULK AT MOST 1048576: true; the input reads as it did. -/
def fnShortNameUptoRow : OpenClaim := { program := "ytgieklfpdlkmjaa", sum := "b3945f055eeefa18a72ce78e1c9f48b37f36ef6e45b141c31198614c650bfb8b", func := "loop.example/zonefiles/laws.FnShortName", spec := "fnShortName", apart := false, narrowed := true }
def FnShortNameUptoSaid : Prop := fnShortNameUptoRow.holds Try.pinned (OpenSpec.upto fnShortNameSpec)

/-- 'laws.FnNameBefore', WHERE WHAT IT READS IS OF BULK AT MOST 1048576: true; the input reads as it did. -/
def fnNameBeforeUptoRow : OpenClaim := { program := "ytgieklfpdlkmjaa", sum := "b3945f055eeefa18a72ce78e1c9f48b37f36ef6e45b141c31198614c650bfb8b", func := "loop.example/zonefiles/laws.FnNameBefore", spec := "fnNameBefore", apart := false, narrowed := true }
def FnNameBeforeUptoSaid : Prop := fnNameBeforeUptoRow.holds Try.pinned (OpenSpec.upto fnNameBeforeSpec)

/-- 'laws.FnIsBelow', WHERE WHAT IT READS IS OF BULK AT MOST 1048576: true; the input reads as it did. -/
def fnIsBelowUptoRow : OpenClaim := { program := "ytgieklfpdlkmjaa", sum := "b3945f055eeefa18a72ce78e1c9f48b37f36ef6e45b141c31198614c650bfb8b", func := "loop.example/zonefiles/laws.FnIsBelow", spec := "fnIsBelow", inPlace := ["internal/abi.NoEscape", "internal/bytealg.MakeNoZero"], apart := false, narrowed := true }
def FnIsBelowUptoSaid : Prop := fnIsBelowUptoRow.holds Try.pinned (OpenSpec.upto fnIsBelowSpec)

/-- 'laws.FnCommonTop', WHERE WHAT IT READS IS OF BULK AT MOST 1048576: true; the input reads as it did. -/
def fnCommonTopUptoRow : OpenClaim := { program := "ytgieklfpdlkmjaa", sum := "b3945f055eeefa18a72ce78e1c9f48b37f36ef6e45b141c31198614c650bfb8b", func := "loop.example/zonefiles/laws.FnCommonTop", spec := "fnCommonTop", inPlace := ["internal/abi.NoEscape", "internal/bytealg.MakeNoZero"], apart := false, narrowed := true }
def FnCommonTopUptoSaid : Prop := fnCommonTopUptoRow.holds Try.pinned (OpenSpec.upto fnCommonTopSpec)

/-- 'laws.FnStarOf', WHERE WHAT IT READS IS OF BULK AT MOST 1048576: true; the input reads as it did. -/
def fnStarOfUptoRow : OpenClaim := { program := "ytgieklfpdlkmjaa", sum := "b3945f055eeefa18a72ce78e1c9f48b37f36ef6e45b141c31198614c650bfb8b", func := "loop.example/zonefiles/laws.FnStarOf", spec := "fnStarOf", inPlace := ["internal/abi.NoEscape", "internal/bytealg.MakeNoZero"], apart := false, narrowed := true }
def FnStarOfUptoSaid : Prop := fnStarOfUptoRow.holds Try.pinned (OpenSpec.upto fnStarOfSpec)

/-- 'laws.FnNameParent', WHERE WHAT IT READS IS OF BULK AT MOST 1048576: true; the input reads as it did. -/
def fnNameParentUptoRow : OpenClaim := { program := "ytgieklfpdlkmjaa", sum := "b3945f055eeefa18a72ce78e1c9f48b37f36ef6e45b141c31198614c650bfb8b", func := "loop.example/zonefiles/laws.FnNameParent", spec := "fnNameParent", inPlace := ["internal/abi.NoEscape", "internal/bytealg.MakeNoZero"], apart := false, narrowed := true }
def FnNameParentUptoSaid : Prop := fnNameParentUptoRow.holds Try.pinned (OpenSpec.upto fnNameParentSpec)

/-- 'laws.FnNameTrans', WHERE WHAT IT READS IS OF BULK AT MOST 1048576: true; the input reads as it did. -/
def fnNameTransUptoRow : OpenClaim := { program := "ytgieklfpdlkmjaa", sum := "b3945f055eeefa18a72ce78e1c9f48b37f36ef6e45b141c31198614c650bfb8b", func := "loop.example/zonefiles/laws.FnNameTrans", spec := "fnNameTrans", apart := false, narrowed := true }
def FnNameTransUptoSaid : Prop := fnNameTransUptoRow.holds Try.pinned (OpenSpec.upto fnNameTransSpec)

/-- 'laws.FnBelowTrans', WHERE WHAT IT READS IS OF BULK AT MOST 1048576: true; the input reads as it did. -/
def fnBelowTransUptoRow : OpenClaim := { program := "ytgieklfpdlkmjaa", sum := "b3945f055eeefa18a72ce78e1c9f48b37f36ef6e45b141c31198614c650bfb8b", func := "loop.example/zonefiles/laws.FnBelowTrans", spec := "fnBelowTrans", apart := false, narrowed := true }
def FnBelowTransUptoSaid : Prop := fnBelowTransUptoRow.holds Try.pinned (OpenSpec.upto fnBelowTransSpec)

/-- 'laws.FnReadLower', WHERE WHAT IT READS IS OF BULK AT MOST 1048576: true; the input reads as it did. -/
def fnReadLowerUptoRow : OpenClaim := { program := "ytgieklfpdlkmjaa", sum := "b3945f055eeefa18a72ce78e1c9f48b37f36ef6e45b141c31198614c650bfb8b", func := "loop.example/zonefiles/laws.FnReadLower", spec := "fnReadLower", apart := false, narrowed := true }
def FnReadLowerUptoSaid : Prop := fnReadLowerUptoRow.holds Try.pinned (OpenSpec.upto fnReadLowerSpec)

/-- 'laws.FnNameLabels', WHERE WHAT IT READS IS OF BULK AT MOST 1048576: true; the input reads as it did. -/
def fnNameLabelsUptoRow : OpenClaim := { program := "ytgieklfpdlkmjaa", sum := "b3945f055eeefa18a72ce78e1c9f48b37f36ef6e45b141c31198614c650bfb8b", func := "loop.example/zonefiles/laws.FnNameLabels", spec := "fnNameLabels", apart := false, narrowed := true }
def FnNameLabelsUptoSaid : Prop := fnNameLabelsUptoRow.holds Try.pinned (OpenSpec.upto fnNameLabelsSpec)

end Rows
end Go.Proofs.Ytgieklfpdlkmjaa
