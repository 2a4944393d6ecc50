/-
  No cell of these rows narrows 'for every input' (looked for: loops, veiled, ifaces, maps, wideKeys, modest, calm, conditions, laid).
  DERIVED. THE GIVEN ROWS OF THIS SEAT. 8 by the template 'for every input the law returns true; each argument reads behind the call as it read before'; 0 by the template 'total and deterministic' (their statements: YtbbldgpoegkokaaTotals.lean).
  GIVEN WITH THE SEED: the statements are not yours to turn. If you find one false, say at which input.
  Laid BY PROGRAM, IN A SANDBOX (cutbox-rows.mjs): the forced cells as the released guide's own fill.sh prints them over the translation 6cebc9949a2fbdab… (all of the seat's roots in one cut). By AI agents, Wed Nov 11 2026. No macro, syntax, notation, axiom, sorry.
-/
import Derived.Test.YtbbldgpoegkokaaChecked
import GoSem.Claim
import GoSem.ClaimJoined
import GoSem.ClaimMapViews
import Derived.JoinedTies
import Derived.KernelRfl
namespace Go.Proofs.Ytbbldgpoegkokaa
/- THE CELL 'sum', in the pinned program and in every row, IS THE sha256 OF THE DUMP (.gsa) THAT YtbbldgpoegkokaaProg.lean LOADS. Nothing in Lean hashes anything: it is a label: what it is worth is what the hold of that sum in a sandbox is worth. -/
noncomputable def Try.pinned : Pinned := { name := "ytbbldgpoegkokaa", sum := "6cebc9949a2fbdab06edcc5352faa28aeefcb873a7d12a97f31318ce4e489d71", checked := Try.checked }
namespace Rows
def none {H : Type} : Left H := { results := [], args := [] }

/-- 'laws.FnExactSortRecords': WHATEVER THE INPUT: true; the input reads as it did. -/
def fnExactSortRecordsSpec : ChangeSpec := { name := "fnExactSortRecords", fn := fun _ => fun
  | [d] => { results := [.lit (.bool true)], args := [d] }
  | _ => none }
def fnExactSortRecordsRow : OpenClaim := { program := "ytbbldgpoegkokaa", sum := "6cebc9949a2fbdab06edcc5352faa28aeefcb873a7d12a97f31318ce4e489d71", func := "loop.example/zonefiles/laws.FnExactSortRecords", spec := "fnExactSortRecords", inPlace := ["slices.overlaps[loop.example/zonefiles/impl.Record]"], unfollowed := true, recurses := true, apart := false }
def FnExactSortRecordsSaid : Prop := fnExactSortRecordsRow.holds Try.pinned (OpenSpec.ofChange fnExactSortRecordsSpec)

/-- ITS FALSE NEIGHBOUR: 'it returns false'. Refute it at one input. -/
def fnExactSortRecordsWrong : ChangeSpec := { name := "fnExactSortRecords", fn := fun _ => fun
  | [d] => { results := [.lit (.bool false)], args := [d] }
  | _ => none }
def FnExactSortRecordsWrongFalsely : Prop := fnExactSortRecordsRow.holds Try.pinned (OpenSpec.ofChange fnExactSortRecordsWrong)

/-- 'laws.FnExactZoneFault': WHATEVER THE INPUT: true; the input reads as it did. -/
def fnExactZoneFaultSpec : ChangeSpec := { name := "fnExactZoneFault", fn := fun _ => fun
  | [d] => { results := [.lit (.bool true)], args := [d] }
  | _ => none }
def fnExactZoneFaultRow : OpenClaim := { program := "ytbbldgpoegkokaa", sum := "6cebc9949a2fbdab06edcc5352faa28aeefcb873a7d12a97f31318ce4e489d71", func := "loop.example/zonefiles/laws.FnExactZoneFault", spec := "fnExactZoneFault", unfollowed := true, recurses := true, apart := false }
def FnExactZoneFaultSaid : Prop := fnExactZoneFaultRow.holds Try.pinned (OpenSpec.ofChange fnExactZoneFaultSpec)

/-- ITS FALSE NEIGHBOUR: 'it returns false'. Refute it at one input. -/
def fnExactZoneFaultWrong : ChangeSpec := { name := "fnExactZoneFault", fn := fun _ => fun
  | [d] => { results := [.lit (.bool false)], args := [d] }
  | _ => none }
def FnExactZoneFaultWrongFalsely : Prop := fnExactZoneFaultRow.holds Try.pinned (OpenSpec.ofChange fnExactZoneFaultWrong)

/-- 'laws.FnExactZoneValid': WHATEVER THE INPUT: true; the input reads as it did. -/
def fnExactZoneValidSpec : ChangeSpec := { name := "fnExactZoneValid", fn := fun _ => fun
  | [d] => { results := [.lit (.bool true)], args := [d] }
  | _ => none }
def fnExactZoneValidRow : OpenClaim := { program := "ytbbldgpoegkokaa", sum := "6cebc9949a2fbdab06edcc5352faa28aeefcb873a7d12a97f31318ce4e489d71", func := "loop.example/zonefiles/laws.FnExactZoneValid", spec := "fnExactZoneValid", unfollowed := true, recurses := true, apart := false }
def FnExactZoneValidSaid : Prop := fnExactZoneValidRow.holds Try.pinned (OpenSpec.ofChange fnExactZoneValidSpec)

/-- ITS FALSE NEIGHBOUR: 'it returns false'. Refute it at one input. -/
def fnExactZoneValidWrong : ChangeSpec := { name := "fnExactZoneValid", fn := fun _ => fun
  | [d] => { results := [.lit (.bool false)], args := [d] }
  | _ => none }
def FnExactZoneValidWrongFalsely : Prop := fnExactZoneValidRow.holds Try.pinned (OpenSpec.ofChange fnExactZoneValidWrong)

/-- 'laws.FnExactZoneSame': WHATEVER THE INPUT: true; the input reads as it did. -/
def fnExactZoneSameSpec : ChangeSpec := { name := "fnExactZoneSame", fn := fun _ => fun
  | [d1, d2] => { results := [.lit (.bool true)], args := [d1, d2] }
  | _ => none }
def fnExactZoneSameRow : OpenClaim := { program := "ytbbldgpoegkokaa", sum := "6cebc9949a2fbdab06edcc5352faa28aeefcb873a7d12a97f31318ce4e489d71", func := "loop.example/zonefiles/laws.FnExactZoneSame", spec := "fnExactZoneSame", unfollowed := true, recurses := true, apart := false }
def FnExactZoneSameSaid : Prop := fnExactZoneSameRow.holds Try.pinned (OpenSpec.ofChange fnExactZoneSameSpec)

/-- ITS FALSE NEIGHBOUR: 'it returns false'. Refute it at one input. -/
def fnExactZoneSameWrong : ChangeSpec := { name := "fnExactZoneSame", fn := fun _ => fun
  | [d1, d2] => { results := [.lit (.bool false)], args := [d1, d2] }
  | _ => none }
def FnExactZoneSameWrongFalsely : Prop := fnExactZoneSameRow.holds Try.pinned (OpenSpec.ofChange fnExactZoneSameWrong)

/-- 'laws.FnExactRecordsAt': WHATEVER THE INPUT: true; the input reads as it did. -/
def fnExactRecordsAtSpec : ChangeSpec := { name := "fnExactRecordsAt", fn := fun _ => fun
  | [d1, d2, d3] => { results := [.lit (.bool true)], args := [d1, d2, d3] }
  | _ => none }
def fnExactRecordsAtRow : OpenClaim := { program := "ytbbldgpoegkokaa", sum := "6cebc9949a2fbdab06edcc5352faa28aeefcb873a7d12a97f31318ce4e489d71", func := "loop.example/zonefiles/laws.FnExactRecordsAt", spec := "fnExactRecordsAt", unfollowed := true, recurses := true, apart := false }
def FnExactRecordsAtSaid : Prop := fnExactRecordsAtRow.holds Try.pinned (OpenSpec.ofChange fnExactRecordsAtSpec)

/-- ITS FALSE NEIGHBOUR: 'it returns false'. Refute it at one input. -/
def fnExactRecordsAtWrong : ChangeSpec := { name := "fnExactRecordsAt", fn := fun _ => fun
  | [d1, d2, d3] => { results := [.lit (.bool false)], args := [d1, d2, d3] }
  | _ => none }
def FnExactRecordsAtWrongFalsely : Prop := fnExactRecordsAtRow.holds Try.pinned (OpenSpec.ofChange fnExactRecordsAtWrong)

/-- 'laws.FnExactSoaOf': WHATEVER THE INPUT: true; the input reads as it did. -/
def fnExactSoaOfSpec : ChangeSpec := { name := "fnExactSoaOf", fn := fun _ => fun
  | [d] => { results := [.lit (.bool true)], args := [d] }
  | _ => none }
def fnExactSoaOfRow : OpenClaim := { program := "ytbbldgpoegkokaa", sum := "6cebc9949a2fbdab06edcc5352faa28aeefcb873a7d12a97f31318ce4e489d71", func := "loop.example/zonefiles/laws.FnExactSoaOf", spec := "fnExactSoaOf", unfollowed := true, recurses := true, apart := false }
def FnExactSoaOfSaid : Prop := fnExactSoaOfRow.holds Try.pinned (OpenSpec.ofChange fnExactSoaOfSpec)

/-- ITS FALSE NEIGHBOUR: 'it returns false'. Refute it at one input. -/
def fnExactSoaOfWrong : ChangeSpec := { name := "fnExactSoaOf", fn := fun _ => fun
  | [d] => { results := [.lit (.bool false)], args := [d] }
  | _ => none }
def FnExactSoaOfWrongFalsely : Prop := fnExactSoaOfRow.holds Try.pinned (OpenSpec.ofChange fnExactSoaOfWrong)

/-- 'laws.FnExactDiffValid': WHATEVER THE INPUT: true; the input reads as it did. -/
def fnExactDiffValidSpec : ChangeSpec := { name := "fnExactDiffValid", fn := fun _ => fun
  | [d] => { results := [.lit (.bool true)], args := [d] }
  | _ => none }
def fnExactDiffValidRow : OpenClaim := { program := "ytbbldgpoegkokaa", sum := "6cebc9949a2fbdab06edcc5352faa28aeefcb873a7d12a97f31318ce4e489d71", func := "loop.example/zonefiles/laws.FnExactDiffValid", spec := "fnExactDiffValid", unfollowed := true, recurses := true, apart := false }
def FnExactDiffValidSaid : Prop := fnExactDiffValidRow.holds Try.pinned (OpenSpec.ofChange fnExactDiffValidSpec)

/-- ITS FALSE NEIGHBOUR: 'it returns false'. Refute it at one input. -/
def fnExactDiffValidWrong : ChangeSpec := { name := "fnExactDiffValid", fn := fun _ => fun
  | [d] => { results := [.lit (.bool false)], args := [d] }
  | _ => none }
def FnExactDiffValidWrongFalsely : Prop := fnExactDiffValidRow.holds Try.pinned (OpenSpec.ofChange fnExactDiffValidWrong)

/-- 'laws.FnExactDiffSame': WHATEVER THE INPUT: true; the input reads as it did. -/
def fnExactDiffSameSpec : ChangeSpec := { name := "fnExactDiffSame", fn := fun _ => fun
  | [d1, d2] => { results := [.lit (.bool true)], args := [d1, d2] }
  | _ => none }
def fnExactDiffSameRow : OpenClaim := { program := "ytbbldgpoegkokaa", sum := "6cebc9949a2fbdab06edcc5352faa28aeefcb873a7d12a97f31318ce4e489d71", func := "loop.example/zonefiles/laws.FnExactDiffSame", spec := "fnExactDiffSame", unfollowed := true, recurses := true, apart := false }
def FnExactDiffSameSaid : Prop := fnExactDiffSameRow.holds Try.pinned (OpenSpec.ofChange fnExactDiffSameSpec)

/-- ITS FALSE NEIGHBOUR: 'it returns false'. Refute it at one input. -/
def fnExactDiffSameWrong : ChangeSpec := { name := "fnExactDiffSame", fn := fun _ => fun
  | [d1, d2] => { results := [.lit (.bool false)], args := [d1, d2] }
  | _ => none }
def FnExactDiffSameWrongFalsely : Prop := fnExactDiffSameRow.holds Try.pinned (OpenSpec.ofChange fnExactDiffSameWrong)

/- THE SECOND FORM. 'bulk': how many values and letters a reading holds, each counted each time it is reached (what is shared counts as often as it is met; a slice's spare places count too). A statement '..UptoSaid' is the law's where the arguments, and the package variables that the reading takes, are together of bulk at most 1048576: NARROWER than '..Said'. Prove '..Said' where nothing that the law and all that it calls make is longer than what came in: it says more and counts as full. Else prove '..UptoSaid'. A law counts once. -/
mutual
def uptoBulk {H : Type} : DataW H → Nat
  | .lit (.string bytes) => bytes.length + 1
  | .lit _ => 1
  | .nil => 1
  | .ptr d => uptoBulk d + 1
  | .slice elems spare => uptoBulkAll elems + uptoBulkAll spare + 1
  | .agg parts => uptoBulkAll parts + 1
  | .iface _ d => uptoBulk d + 1
  | .map entries => uptoBulkEntries entries + 1
  | .held _ => 1
def uptoBulkAll {H : Type} : List (DataW H) → Nat
  | [] => 0
  | d :: r => uptoBulk d + uptoBulkAll r
def uptoBulkEntries {H : Type} : List (Lit × DataW H) → Nat
  | [] => 0
  | x :: r => uptoBulkEntry x + uptoBulkEntries r
def uptoBulkEntry {H : Type} : Lit × DataW H → Nat
  | (.string bytes, d) => bytes.length + uptoBulk d + 1
  | (_, d) => uptoBulk d + 1
 end
def uptoSmall : (H : Type) → List (DataW H) → Bool := fun _ ds => decide (uptoBulkAll ds ≤ 1048576)
def OpenSpec.upto (s : _root_.Go.ChangeSpec) : _root_.Go.OpenSpec := { _root_.Go.OpenSpec.ofChange s with cond := some uptoSmall }

/-- 'laws.FnExactSortRecords', WHERE WHAT IT READS IS OF BULK AT MOST 1048576: true; the input reads as it did. -/
def fnExactSortRecordsUptoRow : OpenClaim := { program := "ytbbldgpoegkokaa", sum := "6cebc9949a2fbdab06edcc5352faa28aeefcb873a7d12a97f31318ce4e489d71", func := "loop.example/zonefiles/laws.FnExactSortRecords", spec := "fnExactSortRecords", inPlace := ["slices.overlaps[loop.example/zonefiles/impl.Record]"], unfollowed := true, recurses := true, apart := false, narrowed := true }
def FnExactSortRecordsUptoSaid : Prop := fnExactSortRecordsUptoRow.holds Try.pinned (OpenSpec.upto fnExactSortRecordsSpec)

/-- 'laws.FnExactZoneFault', WHERE WHAT IT READS IS OF BULK AT MOST 1048576: true; the input reads as it did. -/
def fnExactZoneFaultUptoRow : OpenClaim := { program := "ytbbldgpoegkokaa", sum := "6cebc9949a2fbdab06edcc5352faa28aeefcb873a7d12a97f31318ce4e489d71", func := "loop.example/zonefiles/laws.FnExactZoneFault", spec := "fnExactZoneFault", unfollowed := true, recurses := true, apart := false, narrowed := true }
def FnExactZoneFaultUptoSaid : Prop := fnExactZoneFaultUptoRow.holds Try.pinned (OpenSpec.upto fnExactZoneFaultSpec)

/-- 'laws.FnExactZoneValid', WHERE WHAT IT READS IS OF BULK AT MOST 1048576: true; the input reads as it did. -/
def fnExactZoneValidUptoRow : OpenClaim := { program := "ytbbldgpoegkokaa", sum := "6cebc9949a2fbdab06edcc5352faa28aeefcb873a7d12a97f31318ce4e489d71", func := "loop.example/zonefiles/laws.FnExactZoneValid", spec := "fnExactZoneValid", unfollowed := true, recurses := true, apart := false, narrowed := true }
def FnExactZoneValidUptoSaid : Prop := fnExactZoneValidUptoRow.holds Try.pinned (OpenSpec.upto fnExactZoneValidSpec)

/-- 'laws.FnExactZoneSame', WHERE WHAT IT READS IS OF BULK AT MOST 1048576: true; the input reads as it did. -/
def fnExactZoneSameUptoRow : OpenClaim := { program := "ytbbldgpoegkokaa", sum := "6cebc9949a2fbdab06edcc5352faa28aeefcb873a7d12a97f31318ce4e489d71", func := "loop.example/zonefiles/laws.FnExactZoneSame", spec := "fnExactZoneSame", unfollowed := true, recurses := true, apart := false, narrowed := true }
def FnExactZoneSameUptoSaid : Prop := fnExactZoneSameUptoRow.holds Try.pinned (OpenSpec.upto fnExactZoneSameSpec)

/-- 'laws.FnExactRecordsAt', WHERE WHAT IT READS IS OF BULK AT MOST 1048576: true; the input reads as it did. -/
def fnExactRecordsAtUptoRow : OpenClaim := { program := "ytbbldgpoegkokaa", sum := "6cebc9949a2fbdab06edcc5352faa28aeefcb873a7d12a97f31318ce4e489d71", func := "loop.example/zonefiles/laws.FnExactRecordsAt", spec := "fnExactRecordsAt", unfollowed := true, recurses := true, apart := false, narrowed := true }
def FnExactRecordsAtUptoSaid : Prop := fnExactRecordsAtUptoRow.holds Try.pinned (OpenSpec.upto fnExactRecordsAtSpec)

/-- 'laws.FnExactSoaOf', WHERE WHAT IT READS IS OF BULK AT MOST 1048576: true; the input reads as it did. -/
def fnExactSoaOfUptoRow : OpenClaim := { program := "ytbbldgpoegkokaa", sum := "6cebc9949a2fbdab06edcc5352faa28aeefcb873a7d12a97f31318ce4e489d71", func := "loop.example/zonefiles/laws.FnExactSoaOf", spec := "fnExactSoaOf", unfollowed := true, recurses := true, apart := false, narrowed := true }
def FnExactSoaOfUptoSaid : Prop := fnExactSoaOfUptoRow.holds Try.pinned (OpenSpec.upto fnExactSoaOfSpec)

/-- 'laws.FnExactDiffValid', WHERE WHAT IT READS IS OF BULK AT MOST 1048576: true; the input reads as it did. -/
def fnExactDiffValidUptoRow : OpenClaim := { program := "ytbbldgpoegkokaa", sum := "6cebc9949a2fbdab06edcc5352faa28aeefcb873a7d12a97f31318ce4e489d71", func := "loop.example/zonefiles/laws.FnExactDiffValid", spec := "fnExactDiffValid", unfollowed := true, recurses := true, apart := false, narrowed := true }
def FnExactDiffValidUptoSaid : Prop := fnExactDiffValidUptoRow.holds Try.pinned (OpenSpec.upto fnExactDiffValidSpec)

/-- 'laws.FnExactDiffSame', WHERE WHAT IT READS IS OF BULK AT MOST 1048576: true; the input reads as it did. -/
def fnExactDiffSameUptoRow : OpenClaim := { program := "ytbbldgpoegkokaa", sum := "6cebc9949a2fbdab06edcc5352faa28aeefcb873a7d12a97f31318ce4e489d71", func := "loop.example/zonefiles/laws.FnExactDiffSame", spec := "fnExactDiffSame", unfollowed := true, recurses := true, apart := false, narrowed := true }
def FnExactDiffSameUptoSaid : Prop := fnExactDiffSameUptoRow.holds Try.pinned (OpenSpec.upto fnExactDiffSameSpec)

end Rows
end Go.Proofs.Ytbbldgpoegkokaa
