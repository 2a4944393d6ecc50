/-
  No cell of these rows narrows 'for every input' (looked for: loops, veiled, ifaces, maps, wideKeys, modest, calm, conditions, laid).
  DERIVED. THE GIVEN ROWS OF THIS SEAT. 12 by the template 'for every input the law returns true; each argument reads behind the call as it read before'; 0 by the template 'total and deterministic' (their statements: YtgieklfpdlkmjabTotals.lean).
  GIVEN WITH THE SEED: the statements are not yours to turn. If you find one false, say at which input.
  Laid BY PROGRAM, IN A SANDBOX (cutbox-rows.mjs): the forced cells as the released guide's own fill.sh prints them over the translation 29d13774859cf7a8… (all of the seat's roots in one cut). By AI agents, Wed Nov 11 2026. No macro, syntax, notation, axiom, sorry.
-/
import Derived.Test.YtgieklfpdlkmjabChecked
import GoSem.Claim
import GoSem.ClaimJoined
import GoSem.ClaimMapViews
import Derived.JoinedTies
import Derived.KernelRfl
namespace Go.Proofs.Ytgieklfpdlkmjab
/- THE CELL 'sum', in the pinned program and in every row, IS THE sha256 OF THE DUMP (.gsa) THAT YtgieklfpdlkmjabProg.lean LOADS. Nothing in Lean hashes anything: it is a label: what it is worth is what the hold of that sum in a sandbox is worth. -/
noncomputable def Try.pinned : Pinned := { name := "ytgieklfpdlkmjab", sum := "29d13774859cf7a87099567e53115a8d3ba18143d2be0cf95ff6e521f6cde1ed", checked := Try.checked }
namespace Rows
def none {H : Type} : Left H := { results := [], args := [] }

/-- 'laws.FnTopStar': WHATEVER THE INPUT: true; the input reads as it did. -/
def fnTopStarSpec : ChangeSpec := { name := "fnTopStar", fn := fun _ => fun
  | [d] => { results := [.lit (.bool true)], args := [d] }
  | _ => none }
def fnTopStarRow : OpenClaim := { program := "ytgieklfpdlkmjab", sum := "29d13774859cf7a87099567e53115a8d3ba18143d2be0cf95ff6e521f6cde1ed", func := "loop.example/zonefiles/laws.FnTopStar", spec := "fnTopStar", inPlace := ["internal/abi.NoEscape", "internal/bytealg.MakeNoZero"], apart := false }
def FnTopStarSaid : Prop := fnTopStarRow.holds Try.pinned (OpenSpec.ofChange fnTopStarSpec)

/-- ITS FALSE NEIGHBOUR: 'it returns false'. Refute it at one input. -/
def fnTopStarWrong : ChangeSpec := { name := "fnTopStar", fn := fun _ => fun
  | [d] => { results := [.lit (.bool false)], args := [d] }
  | _ => none }
def FnTopStarWrongFalsely : Prop := fnTopStarRow.holds Try.pinned (OpenSpec.ofChange fnTopStarWrong)

/-- 'laws.FnShortBelow': WHATEVER THE INPUT: true; the input reads as it did. -/
def fnShortBelowSpec : ChangeSpec := { name := "fnShortBelow", fn := fun _ => fun
  | [d] => { results := [.lit (.bool true)], args := [d] }
  | _ => none }
def fnShortBelowRow : OpenClaim := { program := "ytgieklfpdlkmjab", sum := "29d13774859cf7a87099567e53115a8d3ba18143d2be0cf95ff6e521f6cde1ed", func := "loop.example/zonefiles/laws.FnShortBelow", spec := "fnShortBelow", apart := false }
def FnShortBelowSaid : Prop := fnShortBelowRow.holds Try.pinned (OpenSpec.ofChange fnShortBelowSpec)

/-- ITS FALSE NEIGHBOUR: 'it returns false'. Refute it at one input. -/
def fnShortBelowWrong : ChangeSpec := { name := "fnShortBelow", fn := fun _ => fun
  | [d] => { results := [.lit (.bool false)], args := [d] }
  | _ => none }
def FnShortBelowWrongFalsely : Prop := fnShortBelowRow.holds Try.pinned (OpenSpec.ofChange fnShortBelowWrong)

/-- 'laws.FnExactNameValid': WHATEVER THE INPUT: true; the input reads as it did. -/
def fnExactNameValidSpec : ChangeSpec := { name := "fnExactNameValid", fn := fun _ => fun
  | [d] => { results := [.lit (.bool true)], args := [d] }
  | _ => none }
def fnExactNameValidRow : OpenClaim := { program := "ytgieklfpdlkmjab", sum := "29d13774859cf7a87099567e53115a8d3ba18143d2be0cf95ff6e521f6cde1ed", func := "loop.example/zonefiles/laws.FnExactNameValid", spec := "fnExactNameValid", apart := false }
def FnExactNameValidSaid : Prop := fnExactNameValidRow.holds Try.pinned (OpenSpec.ofChange fnExactNameValidSpec)

/-- ITS FALSE NEIGHBOUR: 'it returns false'. Refute it at one input. -/
def fnExactNameValidWrong : ChangeSpec := { name := "fnExactNameValid", fn := fun _ => fun
  | [d] => { results := [.lit (.bool false)], args := [d] }
  | _ => none }
def FnExactNameValidWrongFalsely : Prop := fnExactNameValidRow.holds Try.pinned (OpenSpec.ofChange fnExactNameValidWrong)

/-- 'laws.FnExactLabelsOf': WHATEVER THE INPUT: true; the input reads as it did. -/
def fnExactLabelsOfSpec : ChangeSpec := { name := "fnExactLabelsOf", fn := fun _ => fun
  | [d] => { results := [.lit (.bool true)], args := [d] }
  | _ => none }
def fnExactLabelsOfRow : OpenClaim := { program := "ytgieklfpdlkmjab", sum := "29d13774859cf7a87099567e53115a8d3ba18143d2be0cf95ff6e521f6cde1ed", func := "loop.example/zonefiles/laws.FnExactLabelsOf", spec := "fnExactLabelsOf", apart := false }
def FnExactLabelsOfSaid : Prop := fnExactLabelsOfRow.holds Try.pinned (OpenSpec.ofChange fnExactLabelsOfSpec)

/-- ITS FALSE NEIGHBOUR: 'it returns false'. Refute it at one input. -/
def fnExactLabelsOfWrong : ChangeSpec := { name := "fnExactLabelsOf", fn := fun _ => fun
  | [d] => { results := [.lit (.bool false)], args := [d] }
  | _ => none }
def FnExactLabelsOfWrongFalsely : Prop := fnExactLabelsOfRow.holds Try.pinned (OpenSpec.ofChange fnExactLabelsOfWrong)

/-- 'laws.FnExactNameOf': WHATEVER THE INPUT: true; the input reads as it did. -/
def fnExactNameOfSpec : ChangeSpec := { name := "fnExactNameOf", fn := fun _ => fun
  | [d] => { results := [.lit (.bool true)], args := [d] }
  | _ => none }
def fnExactNameOfRow : OpenClaim := { program := "ytgieklfpdlkmjab", sum := "29d13774859cf7a87099567e53115a8d3ba18143d2be0cf95ff6e521f6cde1ed", func := "loop.example/zonefiles/laws.FnExactNameOf", spec := "fnExactNameOf", inPlace := ["internal/abi.NoEscape", "internal/bytealg.MakeNoZero"], apart := false }
def FnExactNameOfSaid : Prop := fnExactNameOfRow.holds Try.pinned (OpenSpec.ofChange fnExactNameOfSpec)

/-- ITS FALSE NEIGHBOUR: 'it returns false'. Refute it at one input. -/
def fnExactNameOfWrong : ChangeSpec := { name := "fnExactNameOf", fn := fun _ => fun
  | [d] => { results := [.lit (.bool false)], args := [d] }
  | _ => none }
def FnExactNameOfWrongFalsely : Prop := fnExactNameOfRow.holds Try.pinned (OpenSpec.ofChange fnExactNameOfWrong)

/-- 'laws.FnExactReadName': WHATEVER THE INPUT: true; the input reads as it did. -/
def fnExactReadNameSpec : ChangeSpec := { name := "fnExactReadName", fn := fun _ => fun
  | [d1, d2] => { results := [.lit (.bool true)], args := [d1, d2] }
  | _ => none }
def fnExactReadNameRow : OpenClaim := { program := "ytgieklfpdlkmjab", sum := "29d13774859cf7a87099567e53115a8d3ba18143d2be0cf95ff6e521f6cde1ed", func := "loop.example/zonefiles/laws.FnExactReadName", spec := "fnExactReadName", apart := false }
def FnExactReadNameSaid : Prop := fnExactReadNameRow.holds Try.pinned (OpenSpec.ofChange fnExactReadNameSpec)

/-- ITS FALSE NEIGHBOUR: 'it returns false'. Refute it at one input. -/
def fnExactReadNameWrong : ChangeSpec := { name := "fnExactReadName", fn := fun _ => fun
  | [d1, d2] => { results := [.lit (.bool false)], args := [d1, d2] }
  | _ => none }
def FnExactReadNameWrongFalsely : Prop := fnExactReadNameRow.holds Try.pinned (OpenSpec.ofChange fnExactReadNameWrong)

/-- 'laws.FnExactShortName': WHATEVER THE INPUT: true; the input reads as it did. -/
def fnExactShortNameSpec : ChangeSpec := { name := "fnExactShortName", fn := fun _ => fun
  | [d1, d2] => { results := [.lit (.bool true)], args := [d1, d2] }
  | _ => none }
def fnExactShortNameRow : OpenClaim := { program := "ytgieklfpdlkmjab", sum := "29d13774859cf7a87099567e53115a8d3ba18143d2be0cf95ff6e521f6cde1ed", func := "loop.example/zonefiles/laws.FnExactShortName", spec := "fnExactShortName", apart := false }
def FnExactShortNameSaid : Prop := fnExactShortNameRow.holds Try.pinned (OpenSpec.ofChange fnExactShortNameSpec)

/-- ITS FALSE NEIGHBOUR: 'it returns false'. Refute it at one input. -/
def fnExactShortNameWrong : ChangeSpec := { name := "fnExactShortName", fn := fun _ => fun
  | [d1, d2] => { results := [.lit (.bool false)], args := [d1, d2] }
  | _ => none }
def FnExactShortNameWrongFalsely : Prop := fnExactShortNameRow.holds Try.pinned (OpenSpec.ofChange fnExactShortNameWrong)

/-- 'laws.FnExactNameBefore': WHATEVER THE INPUT: true; the input reads as it did. -/
def fnExactNameBeforeSpec : ChangeSpec := { name := "fnExactNameBefore", fn := fun _ => fun
  | [d1, d2] => { results := [.lit (.bool true)], args := [d1, d2] }
  | _ => none }
def fnExactNameBeforeRow : OpenClaim := { program := "ytgieklfpdlkmjab", sum := "29d13774859cf7a87099567e53115a8d3ba18143d2be0cf95ff6e521f6cde1ed", func := "loop.example/zonefiles/laws.FnExactNameBefore", spec := "fnExactNameBefore", apart := false }
def FnExactNameBeforeSaid : Prop := fnExactNameBeforeRow.holds Try.pinned (OpenSpec.ofChange fnExactNameBeforeSpec)

/-- ITS FALSE NEIGHBOUR: 'it returns false'. Refute it at one input. -/
def fnExactNameBeforeWrong : ChangeSpec := { name := "fnExactNameBefore", fn := fun _ => fun
  | [d1, d2] => { results := [.lit (.bool false)], args := [d1, d2] }
  | _ => none }
def FnExactNameBeforeWrongFalsely : Prop := fnExactNameBeforeRow.holds Try.pinned (OpenSpec.ofChange fnExactNameBeforeWrong)

/-- 'laws.FnExactIsBelow': WHATEVER THE INPUT: true; the input reads as it did. -/
def fnExactIsBelowSpec : ChangeSpec := { name := "fnExactIsBelow", fn := fun _ => fun
  | [d1, d2] => { results := [.lit (.bool true)], args := [d1, d2] }
  | _ => none }
def fnExactIsBelowRow : OpenClaim := { program := "ytgieklfpdlkmjab", sum := "29d13774859cf7a87099567e53115a8d3ba18143d2be0cf95ff6e521f6cde1ed", func := "loop.example/zonefiles/laws.FnExactIsBelow", spec := "fnExactIsBelow", apart := false }
def FnExactIsBelowSaid : Prop := fnExactIsBelowRow.holds Try.pinned (OpenSpec.ofChange fnExactIsBelowSpec)

/-- ITS FALSE NEIGHBOUR: 'it returns false'. Refute it at one input. -/
def fnExactIsBelowWrong : ChangeSpec := { name := "fnExactIsBelow", fn := fun _ => fun
  | [d1, d2] => { results := [.lit (.bool false)], args := [d1, d2] }
  | _ => none }
def FnExactIsBelowWrongFalsely : Prop := fnExactIsBelowRow.holds Try.pinned (OpenSpec.ofChange fnExactIsBelowWrong)

/-- 'laws.FnExactParentOf': WHATEVER THE INPUT: true; the input reads as it did. -/
def fnExactParentOfSpec : ChangeSpec := { name := "fnExactParentOf", fn := fun _ => fun
  | [d] => { results := [.lit (.bool true)], args := [d] }
  | _ => none }
def fnExactParentOfRow : OpenClaim := { program := "ytgieklfpdlkmjab", sum := "29d13774859cf7a87099567e53115a8d3ba18143d2be0cf95ff6e521f6cde1ed", func := "loop.example/zonefiles/laws.FnExactParentOf", spec := "fnExactParentOf", inPlace := ["internal/abi.NoEscape", "internal/bytealg.MakeNoZero"], apart := false }
def FnExactParentOfSaid : Prop := fnExactParentOfRow.holds Try.pinned (OpenSpec.ofChange fnExactParentOfSpec)

/-- ITS FALSE NEIGHBOUR: 'it returns false'. Refute it at one input. -/
def fnExactParentOfWrong : ChangeSpec := { name := "fnExactParentOf", fn := fun _ => fun
  | [d] => { results := [.lit (.bool false)], args := [d] }
  | _ => none }
def FnExactParentOfWrongFalsely : Prop := fnExactParentOfRow.holds Try.pinned (OpenSpec.ofChange fnExactParentOfWrong)

/-- 'laws.FnExactStarOf': WHATEVER THE INPUT: true; the input reads as it did. -/
def fnExactStarOfSpec : ChangeSpec := { name := "fnExactStarOf", fn := fun _ => fun
  | [d] => { results := [.lit (.bool true)], args := [d] }
  | _ => none }
def fnExactStarOfRow : OpenClaim := { program := "ytgieklfpdlkmjab", sum := "29d13774859cf7a87099567e53115a8d3ba18143d2be0cf95ff6e521f6cde1ed", func := "loop.example/zonefiles/laws.FnExactStarOf", spec := "fnExactStarOf", inPlace := ["internal/abi.NoEscape", "internal/bytealg.MakeNoZero"], apart := false }
def FnExactStarOfSaid : Prop := fnExactStarOfRow.holds Try.pinned (OpenSpec.ofChange fnExactStarOfSpec)

/-- ITS FALSE NEIGHBOUR: 'it returns false'. Refute it at one input. -/
def fnExactStarOfWrong : ChangeSpec := { name := "fnExactStarOf", fn := fun _ => fun
  | [d] => { results := [.lit (.bool false)], args := [d] }
  | _ => none }
def FnExactStarOfWrongFalsely : Prop := fnExactStarOfRow.holds Try.pinned (OpenSpec.ofChange fnExactStarOfWrong)

/-- 'laws.FnExactCommonTop': WHATEVER THE INPUT: true; the input reads as it did. -/
def fnExactCommonTopSpec : ChangeSpec := { name := "fnExactCommonTop", fn := fun _ => fun
  | [d1, d2] => { results := [.lit (.bool true)], args := [d1, d2] }
  | _ => none }
def fnExactCommonTopRow : OpenClaim := { program := "ytgieklfpdlkmjab", sum := "29d13774859cf7a87099567e53115a8d3ba18143d2be0cf95ff6e521f6cde1ed", func := "loop.example/zonefiles/laws.FnExactCommonTop", spec := "fnExactCommonTop", inPlace := ["internal/abi.NoEscape", "internal/bytealg.MakeNoZero"], apart := false }
def FnExactCommonTopSaid : Prop := fnExactCommonTopRow.holds Try.pinned (OpenSpec.ofChange fnExactCommonTopSpec)

/-- ITS FALSE NEIGHBOUR: 'it returns false'. Refute it at one input. -/
def fnExactCommonTopWrong : ChangeSpec := { name := "fnExactCommonTop", fn := fun _ => fun
  | [d1, d2] => { results := [.lit (.bool false)], args := [d1, d2] }
  | _ => none }
def FnExactCommonTopWrongFalsely : Prop := fnExactCommonTopRow.holds Try.pinned (OpenSpec.ofChange fnExactCommonTopWrong)

/- THE SECOND FORM. 'bulk': how many values and letters a reading holds, each counted each time it is reached (what is shared counts as often as it is met; a slice's spare places count too). A statement '..UptoSaid' is the law's where the arguments, and the package variables that the reading takes, are together of bulk at most 1048576: NARROWER than '..Said'. Prove '..Said' where nothing that the law and all that it calls make is longer than what came in: it says more and counts as full. Else prove '..UptoSaid'. A law counts once. -/
mutual
def uptoBulk {H : Type} : DataW H → Nat
  | .lit (.string bytes) => bytes.length + 1
  | .lit _ => 1
  | .nil => 1
  | .ptr d => uptoBulk d + 1
  | .slice elems spare => uptoBulkAll elems + uptoBulkAll spare + 1
  | .agg parts => uptoBulkAll parts + 1
  | .iface _ d => uptoBulk d + 1
  | .map entries => uptoBulkEntries entries + 1
  | .held _ => 1
def uptoBulkAll {H : Type} : List (DataW H) → Nat
  | [] => 0
  | d :: r => uptoBulk d + uptoBulkAll r
def uptoBulkEntries {H : Type} : List (Lit × DataW H) → Nat
  | [] => 0
  | x :: r => uptoBulkEntry x + uptoBulkEntries r
def uptoBulkEntry {H : Type} : Lit × DataW H → Nat
  | (.string bytes, d) => bytes.length + uptoBulk d + 1
  | (_, d) => uptoBulk d + 1
 end
def uptoSmall : (H : Type) → List (DataW H) → Bool := fun _ ds => decide (uptoBulkAll ds ≤ 1048576)
def OpenSpec.upto (s : _root_.Go.ChangeSpec) : _root_.Go.OpenSpec := { _root_.Go.OpenSpec.ofChange s with cond := some uptoSmall }

/-- 'laws.FnTopStar', WHERE WHAT IT READS IS OF BULK AT MOST 1048576: true; the input reads as it did. -/
def fnTopStarUptoRow : OpenClaim := { program := "ytgieklfpdlkmjab", sum := "29d13774859cf7a87099567e53115a8d3ba18143d2be0cf95ff6e521f6cde1ed", func := "loop.example/zonefiles/laws.FnTopStar", spec := "fnTopStar", inPlace := ["internal/abi.NoEscape", "internal/bytealg.MakeNoZero"], apart := false, narrowed := true }
def FnTopStarUptoSaid : Prop := fnTopStarUptoRow.holds Try.pinned (OpenSpec.upto fnTopStarSpec)

/-- 'laws.FnShortBelow', WHERE WHAT IT READS IS OF BULK AT MOST 1048576: true; the input reads as it did. -/
def fnShortBelowUptoRow : OpenClaim := { program := "ytgieklfpdlkmjab", sum := "29d13774859cf7a87099567e53115a8d3ba18143d2be0cf95ff6e521f6cde1ed", func := "loop.example/zonefiles/laws.FnShortBelow", spec := "fnShortBelow", apart := false, narrowed := true }
def FnShortBelowUptoSaid : Prop := fnShortBelowUptoRow.holds Try.pinned (OpenSpec.upto fnShortBelowSpec)

/-- 'laws.FnExactNameValid', WHERE WHAT IT READS IS OF BULK AT MOST 1048576: true; the input reads as it did. -/
def fnExactNameValidUptoRow : OpenClaim := { program := "ytgieklfpdlkmjab", sum := "29d13774859cf7a87099567e53115a8d3ba18143d2be0cf95ff6e521f6cde1ed", func := "loop.example/zonefiles/laws.FnExactNameValid", spec := "fnExactNameValid", apart := false, narrowed := true }
def FnExactNameValidUptoSaid : Prop := fnExactNameValidUptoRow.holds Try.pinned (OpenSpec.upto fnExactNameValidSpec)

/-- 'laws.FnExactLabelsOf', WHERE WHAT IT READS IS OF BULK AT MOST 1048576: true; the input reads as it did. -/
def fnExactLabelsOfUptoRow : OpenClaim := { program := "ytgieklfpdlkmjab", sum := "29d13774859cf7a87099567e53115a8d3ba18143d2be0cf95ff6e521f6cde1ed", func := "loop.example/zonefiles/laws.FnExactLabelsOf", spec := "fnExactLabelsOf", apart := false, narrowed := true }
def FnExactLabelsOfUptoSaid : Prop := fnExactLabelsOfUptoRow.holds Try.pinned (OpenSpec.upto fnExactLabelsOfSpec)

/-- 'laws.FnExactNameOf', WHERE WHAT IT READS IS OF BULK AT MOST 1048576: true; the input reads as it did. -/
def fnExactNameOfUptoRow : OpenClaim := { program := "ytgieklfpdlkmjab", sum := "29d13774859cf7a87099567e53115a8d3ba18143d2be0cf95ff6e521f6cde1ed", func := "loop.example/zonefiles/laws.FnExactNameOf", spec := "fnExactNameOf", inPlace := ["internal/abi.NoEscape", "internal/bytealg.MakeNoZero"], apart := false, narrowed := true }
def FnExactNameOfUptoSaid : Prop := fnExactNameOfUptoRow.holds Try.pinned (OpenSpec.upto fnExactNameOfSpec)

/-- 'laws.FnExactReadName', WHERE WHAT IT READS IS OF BULK AT MOST 1048576: true; the input reads as it did. -/
def fnExactReadNameUptoRow : OpenClaim := { program := "ytgieklfpdlkmjab", sum := "29d13774859cf7a87099567e53115a8d3ba18143d2be0cf95ff6e521f6cde1ed", func := "loop.example/zonefiles/laws.FnExactReadName", spec := "fnExactReadName", apart := false, narrowed := true }
def FnExactReadNameUptoSaid : Prop := fnExactReadNameUptoRow.holds Try.pinned (OpenSpec.upto fnExactReadNameSpec)

/-- 'laws.FnExactShortName', WHERE WHAT IT READS IS OF BULK AT MOST 1048576: true; the input reads as it did. -/
def fnExactShortNameUptoRow : OpenClaim := { program := "ytgieklfpdlkmjab", sum := "29d13774859cf7a87099567e53115a8d3ba18143d2be0cf95ff6e521f6cde1ed", func := "loop.example/zonefiles/laws.FnExactShortName", spec := "fnExactShortName", apart := false, narrowed := true }
def FnExactShortNameUptoSaid : Prop := fnExactShortNameUptoRow.holds Try.pinned (OpenSpec.upto fnExactShortNameSpec)

/-- 'laws.FnExactNameBefore', WHERE WHAT IT READS IS OF BULK AT MOST 1048576: true; the input reads as it did. -/
def fnExactNameBeforeUptoRow : OpenClaim := { program := "ytgieklfpdlkmjab", sum := "29d13774859cf7a87099567e53115a8d3ba18143d2be0cf95ff6e521f6cde1ed", func := "loop.example/zonefiles/laws.FnExactNameBefore", spec := "fnExactNameBefore", apart := false, narrowed := true }
def FnExactNameBeforeUptoSaid : Prop := fnExactNameBeforeUptoRow.holds Try.pinned (OpenSpec.upto fnExactNameBeforeSpec)

/-- 'laws.FnExactIsBelow', WHERE WHAT IT READS IS OF BULK AT MOST 1048576: true; the input reads as it did. -/
def fnExactIsBelowUptoRow : OpenClaim := { program := "ytgieklfpdlkmjab", sum := "29d13774859cf7a87099567e53115a8d3ba18143d2be0cf95ff6e521f6cde1ed", func := "loop.example/zonefiles/laws.FnExactIsBelow", spec := "fnExactIsBelow", apart := false, narrowed := true }
def FnExactIsBelowUptoSaid : Prop := fnExactIsBelowUptoRow.holds Try.pinned (OpenSpec.upto fnExactIsBelowSpec)

/-- 'laws.FnExactParentOf', WHERE WHAT IT READS IS OF BULK AT MOST 1048576: true; the input reads as it did. -/
def fnExactParentOfUptoRow : OpenClaim := { program := "ytgieklfpdlkmjab", sum := "29d13774859cf7a87099567e53115a8d3ba18143d2be0cf95ff6e521f6cde1ed", func := "loop.example/zonefiles/laws.FnExactParentOf", spec := "fnExactParentOf", inPlace := ["internal/abi.NoEscape", "internal/bytealg.MakeNoZero"], apart := false, narrowed := true }
def FnExactParentOfUptoSaid : Prop := fnExactParentOfUptoRow.holds Try.pinned (OpenSpec.upto fnExactParentOfSpec)

/-- 'laws.FnExactStarOf', WHERE WHAT IT READS IS OF BULK AT MOST 1048576: true; the input reads as it did. -/
def fnExactStarOfUptoRow : OpenClaim := { program := "ytgieklfpdlkmjab", sum := "29d13774859cf7a87099567e53115a8d3ba18143d2be0cf95ff6e521f6cde1ed", func := "loop.example/zonefiles/laws.FnExactStarOf", spec := "fnExactStarOf", inPlace := ["internal/abi.NoEscape", "internal/bytealg.MakeNoZero"], apart := false, narrowed := true }
def FnExactStarOfUptoSaid : Prop := fnExactStarOfUptoRow.holds Try.pinned (OpenSpec.upto fnExactStarOfSpec)

/-- 'laws.FnExactCommonTop', WHERE WHAT IT READS IS OF BULK AT MOST 1048576: true; the input reads as it did. -/
def fnExactCommonTopUptoRow : OpenClaim := { program := "ytgieklfpdlkmjab", sum := "29d13774859cf7a87099567e53115a8d3ba18143d2be0cf95ff6e521f6cde1ed", func := "loop.example/zonefiles/laws.FnExactCommonTop", spec := "fnExactCommonTop", inPlace := ["internal/abi.NoEscape", "internal/bytealg.MakeNoZero"], apart := false, narrowed := true }
def FnExactCommonTopUptoSaid : Prop := fnExactCommonTopUptoRow.holds Try.pinned (OpenSpec.upto fnExactCommonTopSpec)

end Rows
end Go.Proofs.Ytgieklfpdlkmjab
