/-
  No cell of these rows narrows 'for every input' (looked for: loops, veiled, ifaces, maps, wideKeys, modest, calm, conditions, laid).
  DERIVED. THE GIVEN ROWS OF THIS SEAT. 5 by the template 'for every input the law returns true; each argument reads behind the call as it read before'; 0 by the template 'total and deterministic' (their statements: YtgglakonkphbgaaTotals.lean).
  GIVEN WITH THE SEED: the statements are not yours to turn. If you find one false, say at which input.
  Laid BY PROGRAM, IN A SANDBOX (cutbox-rows.mjs): the forced cells as the released guide's own fill.sh prints them over the translation ecb5ca40a9b8734c… (all of the seat's roots in one cut). By AI agents, Wed Nov 11 2026. No macro, syntax, notation, axiom, sorry.
-/
import Derived.Test.YtgglakonkphbgaaChecked
import GoSem.Claim
import GoSem.ClaimJoined
import GoSem.ClaimMapViews
import Derived.JoinedTies
import Derived.KernelRfl
namespace Go.Proofs.Ytgglakonkphbgaa
/- THE CELL 'sum', in the pinned program and in every row, IS THE sha256 OF THE DUMP (.gsa) THAT YtgglakonkphbgaaProg.lean LOADS. Nothing in Lean hashes anything: it is a label: what it is worth is what the hold of that sum in a sandbox is worth. -/
noncomputable def Try.pinned : Pinned := { name := "ytgglakonkphbgaa", sum := "ecb5ca40a9b8734ced3036308bd994912380e669c2bd3f3865f9755c799bd84c", checked := Try.checked }
namespace Rows
def none {H : Type} : Left H := { results := [], args := [] }

/-- 'laws.FnExactOwnersOf': WHATEVER THE INPUT: true; the input reads as it did. -/
def fnExactOwnersOfSpec : ChangeSpec := { name := "fnExactOwnersOf", fn := fun _ => fun
  | [d] => { results := [.lit (.bool true)], args := [d] }
  | _ => none }
def fnExactOwnersOfRow : OpenClaim := { program := "ytgglakonkphbgaa", sum := "ecb5ca40a9b8734ced3036308bd994912380e669c2bd3f3865f9755c799bd84c", func := "loop.example/zonefiles/laws.FnExactOwnersOf", spec := "fnExactOwnersOf", unfollowed := true, recurses := true, apart := false }
def FnExactOwnersOfSaid : Prop := fnExactOwnersOfRow.holds Try.pinned (OpenSpec.ofChange fnExactOwnersOfSpec)

/-- ITS FALSE NEIGHBOUR: 'it returns false'. Refute it at one input. -/
def fnExactOwnersOfWrong : ChangeSpec := { name := "fnExactOwnersOf", fn := fun _ => fun
  | [d] => { results := [.lit (.bool false)], args := [d] }
  | _ => none }
def FnExactOwnersOfWrongFalsely : Prop := fnExactOwnersOfRow.holds Try.pinned (OpenSpec.ofChange fnExactOwnersOfWrong)

/-- 'laws.FnExactNameExists': WHATEVER THE INPUT: true; the input reads as it did. -/
def fnExactNameExistsSpec : ChangeSpec := { name := "fnExactNameExists", fn := fun _ => fun
  | [d1, d2] => { results := [.lit (.bool true)], args := [d1, d2] }
  | _ => none }
def fnExactNameExistsRow : OpenClaim := { program := "ytgglakonkphbgaa", sum := "ecb5ca40a9b8734ced3036308bd994912380e669c2bd3f3865f9755c799bd84c", func := "loop.example/zonefiles/laws.FnExactNameExists", spec := "fnExactNameExists", unfollowed := true, recurses := true, apart := false }
def FnExactNameExistsSaid : Prop := fnExactNameExistsRow.holds Try.pinned (OpenSpec.ofChange fnExactNameExistsSpec)

/-- ITS FALSE NEIGHBOUR: 'it returns false'. Refute it at one input. -/
def fnExactNameExistsWrong : ChangeSpec := { name := "fnExactNameExists", fn := fun _ => fun
  | [d1, d2] => { results := [.lit (.bool false)], args := [d1, d2] }
  | _ => none }
def FnExactNameExistsWrongFalsely : Prop := fnExactNameExistsRow.holds Try.pinned (OpenSpec.ofChange fnExactNameExistsWrong)

/-- 'laws.FnExactCutOf': WHATEVER THE INPUT: true; the input reads as it did. -/
def fnExactCutOfSpec : ChangeSpec := { name := "fnExactCutOf", fn := fun _ => fun
  | [d1, d2] => { results := [.lit (.bool true)], args := [d1, d2] }
  | _ => none }
def fnExactCutOfRow : OpenClaim := { program := "ytgglakonkphbgaa", sum := "ecb5ca40a9b8734ced3036308bd994912380e669c2bd3f3865f9755c799bd84c", func := "loop.example/zonefiles/laws.FnExactCutOf", spec := "fnExactCutOf", inPlace := ["internal/abi.NoEscape", "internal/bytealg.MakeNoZero"], unfollowed := true, recurses := true, apart := false }
def FnExactCutOfSaid : Prop := fnExactCutOfRow.holds Try.pinned (OpenSpec.ofChange fnExactCutOfSpec)

/-- ITS FALSE NEIGHBOUR: 'it returns false'. Refute it at one input. -/
def fnExactCutOfWrong : ChangeSpec := { name := "fnExactCutOf", fn := fun _ => fun
  | [d1, d2] => { results := [.lit (.bool false)], args := [d1, d2] }
  | _ => none }
def FnExactCutOfWrongFalsely : Prop := fnExactCutOfRow.holds Try.pinned (OpenSpec.ofChange fnExactCutOfWrong)

/-- 'laws.FnExactClosestOf': WHATEVER THE INPUT: true; the input reads as it did. -/
def fnExactClosestOfSpec : ChangeSpec := { name := "fnExactClosestOf", fn := fun _ => fun
  | [d1, d2] => { results := [.lit (.bool true)], args := [d1, d2] }
  | _ => none }
def fnExactClosestOfRow : OpenClaim := { program := "ytgglakonkphbgaa", sum := "ecb5ca40a9b8734ced3036308bd994912380e669c2bd3f3865f9755c799bd84c", func := "loop.example/zonefiles/laws.FnExactClosestOf", spec := "fnExactClosestOf", inPlace := ["internal/abi.NoEscape", "internal/bytealg.MakeNoZero"], unfollowed := true, recurses := true, apart := false }
def FnExactClosestOfSaid : Prop := fnExactClosestOfRow.holds Try.pinned (OpenSpec.ofChange fnExactClosestOfSpec)

/-- ITS FALSE NEIGHBOUR: 'it returns false'. Refute it at one input. -/
def fnExactClosestOfWrong : ChangeSpec := { name := "fnExactClosestOf", fn := fun _ => fun
  | [d1, d2] => { results := [.lit (.bool false)], args := [d1, d2] }
  | _ => none }
def FnExactClosestOfWrongFalsely : Prop := fnExactClosestOfRow.holds Try.pinned (OpenSpec.ofChange fnExactClosestOfWrong)

/-- 'laws.FnExactAnswerSame': WHATEVER THE INPUT: true; the input reads as it did. -/
def fnExactAnswerSameSpec : ChangeSpec := { name := "fnExactAnswerSame", fn := fun _ => fun
  | [d1, d2] => { results := [.lit (.bool true)], args := [d1, d2] }
  | _ => none }
def fnExactAnswerSameRow : OpenClaim := { program := "ytgglakonkphbgaa", sum := "ecb5ca40a9b8734ced3036308bd994912380e669c2bd3f3865f9755c799bd84c", func := "loop.example/zonefiles/laws.FnExactAnswerSame", spec := "fnExactAnswerSame", unfollowed := true, recurses := true, apart := false }
def FnExactAnswerSameSaid : Prop := fnExactAnswerSameRow.holds Try.pinned (OpenSpec.ofChange fnExactAnswerSameSpec)

/-- ITS FALSE NEIGHBOUR: 'it returns false'. Refute it at one input. -/
def fnExactAnswerSameWrong : ChangeSpec := { name := "fnExactAnswerSame", fn := fun _ => fun
  | [d1, d2] => { results := [.lit (.bool false)], args := [d1, d2] }
  | _ => none }
def FnExactAnswerSameWrongFalsely : Prop := fnExactAnswerSameRow.holds Try.pinned (OpenSpec.ofChange fnExactAnswerSameWrong)

/- THE SECOND FORM. 'bulk': how many values and letters a reading holds, each counted each time it is reached (what is shared counts as often as it is met; a slice's spare places count too). A statement '..UptoSaid' is the law's where the arguments, and the package variables that the reading takes, are together of bulk at most 1048576: NARROWER than '..Said'. Prove '..Said' where nothing that the law and all that it calls make is longer than what came in: it says more and counts as full. Else prove '..UptoSaid'. A law counts once. -/
mutual
def uptoBulk {H : Type} : DataW H → Nat
  | .lit (.string bytes) => bytes.length + 1
  | .lit _ => 1
  | .nil => 1
  | .ptr d => uptoBulk d + 1
  | .slice elems spare => uptoBulkAll elems + uptoBulkAll spare + 1
  | .agg parts => uptoBulkAll parts + 1
  | .iface _ d => uptoBulk d + 1
  | .map entries => uptoBulkEntries entries + 1
  | .held _ => 1
def uptoBulkAll {H : Type} : List (DataW H) → Nat
  | [] => 0
  | d :: r => uptoBulk d + uptoBulkAll r
def uptoBulkEntries {H : Type} : List (Lit × DataW H) → Nat
  | [] => 0
  | x :: r => uptoBulkEntry x + uptoBulkEntries r
def uptoBulkEntry {H : Type} : Lit × DataW H → Nat
  | (.string bytes, d) => bytes.length + uptoBulk d + 1
  | (_, d) => uptoBulk d + 1
 end
def uptoSmall : (H : Type) → List (DataW H) → Bool := fun _ ds => decide (uptoBulkAll ds ≤ 1048576)
def OpenSpec.upto (s : _root_.Go.ChangeSpec) : _root_.Go.OpenSpec := { _root_.Go.OpenSpec.ofChange s with cond := some uptoSmall }

/-- 'laws.FnExactOwnersOf', WHERE WHAT IT READS IS OF BULK AT MOST 1048576: true; the input reads as it did. -/
def fnExactOwnersOfUptoRow : OpenClaim := { program := "ytgglakonkphbgaa", sum := "ecb5ca40a9b8734ced3036308bd994912380e669c2bd3f3865f9755c799bd84c", func := "loop.example/zonefiles/laws.FnExactOwnersOf", spec := "fnExactOwnersOf", unfollowed := true, recurses := true, apart := false, narrowed := true }
def FnExactOwnersOfUptoSaid : Prop := fnExactOwnersOfUptoRow.holds Try.pinned (OpenSpec.upto fnExactOwnersOfSpec)

/-- 'laws.FnExactNameExists', WHERE WHAT IT READS IS OF BULK AT MOST 1048576: true; the input reads as it did. -/
def fnExactNameExistsUptoRow : OpenClaim := { program := "ytgglakonkphbgaa", sum := "ecb5ca40a9b8734ced3036308bd994912380e669c2bd3f3865f9755c799bd84c", func := "loop.example/zonefiles/laws.FnExactNameExists", spec := "fnExactNameExists", unfollowed := true, recurses := true, apart := false, narrowed := true }
def FnExactNameExistsUptoSaid : Prop := fnExactNameExistsUptoRow.holds Try.pinned (OpenSpec.upto fnExactNameExistsSpec)

/-- 'laws.FnExactCutOf', WHERE WHAT IT READS IS OF BULK AT MOST 1048576: true; the input reads as it did. -/
def fnExactCutOfUptoRow : OpenClaim := { program := "ytgglakonkphbgaa", sum := "ecb5ca40a9b8734ced3036308bd994912380e669c2bd3f3865f9755c799bd84c", func := "loop.example/zonefiles/laws.FnExactCutOf", spec := "fnExactCutOf", inPlace := ["internal/abi.NoEscape", "internal/bytealg.MakeNoZero"], unfollowed := true, recurses := true, apart := false, narrowed := true }
def FnExactCutOfUptoSaid : Prop := fnExactCutOfUptoRow.holds Try.pinned (OpenSpec.upto fnExactCutOfSpec)

/-- 'laws.FnExactClosestOf', WHERE WHAT IT READS IS OF BULK AT MOST 1048576: true; the input reads as it did. -/
def fnExactClosestOfUptoRow : OpenClaim := { program := "ytgglakonkphbgaa", sum := "ecb5ca40a9b8734ced3036308bd994912380e669c2bd3f3865f9755c799bd84c", func := "loop.example/zonefiles/laws.FnExactClosestOf", spec := "fnExactClosestOf", inPlace := ["internal/abi.NoEscape", "internal/bytealg.MakeNoZero"], unfollowed := true, recurses := true, apart := false, narrowed := true }
def FnExactClosestOfUptoSaid : Prop := fnExactClosestOfUptoRow.holds Try.pinned (OpenSpec.upto fnExactClosestOfSpec)

/-- 'laws.FnExactAnswerSame', WHERE WHAT IT READS IS OF BULK AT MOST 1048576: true; the input reads as it did. -/
def fnExactAnswerSameUptoRow : OpenClaim := { program := "ytgglakonkphbgaa", sum := "ecb5ca40a9b8734ced3036308bd994912380e669c2bd3f3865f9755c799bd84c", func := "loop.example/zonefiles/laws.FnExactAnswerSame", spec := "fnExactAnswerSame", unfollowed := true, recurses := true, apart := false, narrowed := true }
def FnExactAnswerSameUptoSaid : Prop := fnExactAnswerSameUptoRow.holds Try.pinned (OpenSpec.upto fnExactAnswerSameSpec)

end Rows
end Go.Proofs.Ytgglakonkphbgaa
