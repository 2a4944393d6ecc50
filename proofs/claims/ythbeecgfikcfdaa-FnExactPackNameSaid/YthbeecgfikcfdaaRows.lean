/-
  No cell of these rows narrows 'for every input' (looked for: loops, veiled, ifaces, maps, wideKeys, modest, calm, conditions, laid).
  DERIVED. THE GIVEN ROWS OF THIS SEAT. 3 by the template 'for every input the law returns true; each argument reads behind the call as it read before'; 0 by the template 'total and deterministic' (their statements: YthbeecgfikcfdaaTotals.lean).
  GIVEN WITH THE SEED: the statements are not yours to turn. If you find one false, say at which input.
  Laid BY PROGRAM, IN A SANDBOX (cutbox-rows.mjs): the forced cells as the released guide's own fill.sh prints them over the translation 832020a3b14a774c… (all of the seat's roots in one cut). By AI agents, Wed Nov 11 2026. No macro, syntax, notation, axiom, sorry.
-/
import Derived.Test.YthbeecgfikcfdaaChecked
import GoSem.Claim
import GoSem.ClaimJoined
import GoSem.ClaimMapViews
import Derived.JoinedTies
import Derived.KernelRfl
namespace Go.Proofs.Ythbeecgfikcfdaa
/- THE CELL 'sum', in the pinned program and in every row, IS THE sha256 OF THE DUMP (.gsa) THAT YthbeecgfikcfdaaProg.lean LOADS. Nothing in Lean hashes anything: it is a label: what it is worth is what the hold of that sum in a sandbox is worth. -/
noncomputable def Try.pinned : Pinned := { name := "ythbeecgfikcfdaa", sum := "832020a3b14a774ca5dc597b85334352f14151acb2e6f97a58c133ff4fa59ad6", checked := Try.checked }
namespace Rows
def none {H : Type} : Left H := { results := [], args := [] }

/-- 'laws.FnSoaSerial': WHATEVER THE INPUT: true; the input reads as it did. -/
def fnSoaSerialSpec : ChangeSpec := { name := "fnSoaSerial", fn := fun _ => fun
  | [d] => { results := [.lit (.bool true)], args := [d] }
  | _ => none }
def fnSoaSerialRow : OpenClaim := { program := "ythbeecgfikcfdaa", sum := "832020a3b14a774ca5dc597b85334352f14151acb2e6f97a58c133ff4fa59ad6", func := "loop.example/zonefiles/laws.FnSoaSerial", spec := "fnSoaSerial", unfollowed := true, recurses := true, apart := false }
def FnSoaSerialSaid : Prop := fnSoaSerialRow.holds Try.pinned (OpenSpec.ofChange fnSoaSerialSpec)

/-- ITS FALSE NEIGHBOUR: 'it returns false'. Refute it at one input. -/
def fnSoaSerialWrong : ChangeSpec := { name := "fnSoaSerial", fn := fun _ => fun
  | [d] => { results := [.lit (.bool false)], args := [d] }
  | _ => none }
def FnSoaSerialWrongFalsely : Prop := fnSoaSerialRow.holds Try.pinned (OpenSpec.ofChange fnSoaSerialWrong)

/-- 'laws.FnNameBytes': WHATEVER THE INPUT: true; the input reads as it did. -/
def fnNameBytesSpec : ChangeSpec := { name := "fnNameBytes", fn := fun _ => fun
  | [d] => { results := [.lit (.bool true)], args := [d] }
  | _ => none }
def fnNameBytesRow : OpenClaim := { program := "ythbeecgfikcfdaa", sum := "832020a3b14a774ca5dc597b85334352f14151acb2e6f97a58c133ff4fa59ad6", func := "loop.example/zonefiles/laws.FnNameBytes", spec := "fnNameBytes", inPlace := ["internal/abi.NoEscape", "internal/bytealg.MakeNoZero"], apart := false }
def FnNameBytesSaid : Prop := fnNameBytesRow.holds Try.pinned (OpenSpec.ofChange fnNameBytesSpec)

/-- ITS FALSE NEIGHBOUR: 'it returns false'. Refute it at one input. -/
def fnNameBytesWrong : ChangeSpec := { name := "fnNameBytes", fn := fun _ => fun
  | [d] => { results := [.lit (.bool false)], args := [d] }
  | _ => none }
def FnNameBytesWrongFalsely : Prop := fnNameBytesRow.holds Try.pinned (OpenSpec.ofChange fnNameBytesWrong)

/-- 'laws.FnExactPackName': WHATEVER THE INPUT: true; the input reads as it did. -/
def fnExactPackNameSpec : ChangeSpec := { name := "fnExactPackName", fn := fun _ => fun
  | [d] => { results := [.lit (.bool true)], args := [d] }
  | _ => none }
def fnExactPackNameRow : OpenClaim := { program := "ythbeecgfikcfdaa", sum := "832020a3b14a774ca5dc597b85334352f14151acb2e6f97a58c133ff4fa59ad6", func := "loop.example/zonefiles/laws.FnExactPackName", spec := "fnExactPackName", inPlace := ["internal/abi.NoEscape", "internal/bytealg.MakeNoZero"], apart := false }
def FnExactPackNameSaid : Prop := fnExactPackNameRow.holds Try.pinned (OpenSpec.ofChange fnExactPackNameSpec)

/-- ITS FALSE NEIGHBOUR: 'it returns false'. Refute it at one input. -/
def fnExactPackNameWrong : ChangeSpec := { name := "fnExactPackName", fn := fun _ => fun
  | [d] => { results := [.lit (.bool false)], args := [d] }
  | _ => none }
def FnExactPackNameWrongFalsely : Prop := fnExactPackNameRow.holds Try.pinned (OpenSpec.ofChange fnExactPackNameWrong)

/- THE SECOND FORM. 'bulk': how many values and letters a reading holds, each counted each time it is reached (what is shared counts as often as it is met; a slice's spare places count too). A statement '..UptoSaid' is the law's where the arguments, and the package variables that the reading takes, are together of bulk at most 1048576: NARROWER than '..Said'. Prove '..Said' where nothing that the law and all that it calls make is longer than what came in: it says more and counts as full. Else prove '..UptoSaid'. A law counts once. -/
mutual
def uptoBulk {H : Type} : DataW H → Nat
  | .lit (.string bytes) => bytes.length + 1
  | .lit _ => 1
  | .nil => 1
  | .ptr d => uptoBulk d + 1
  | .slice elems spare => uptoBulkAll elems + uptoBulkAll spare + 1
  | .agg parts => uptoBulkAll parts + 1
  | .iface _ d => uptoBulk d + 1
  | .map entries => uptoBulkEntries entries + 1
  | .held _ => 1
def uptoBulkAll {H : Type} : List (DataW H) → Nat
  | [] => 0
  | d :: r => uptoBulk d + uptoBulkAll r
def uptoBulkEntries {H : Type} : List (Lit × DataW H) → Nat
  | [] => 0
  | x :: r => uptoBulkEntry x + uptoBulkEntries r
def uptoBulkEntry {H : Type} : Lit × DataW H → Nat
  | (.string bytes, d) => bytes.length + uptoBulk d + 1
  | (_, d) => uptoBulk d + 1
 end
def uptoSmall : (H : Type) → List (DataW H) → Bool := fun _ ds => decide (uptoBulkAll ds ≤ 1048576)
def OpenSpec.upto (s : _root_.Go.ChangeSpec) : _root_.Go.OpenSpec := { _root_.Go.OpenSpec.ofChange s with cond := some uptoSmall }

/-- 'laws.FnSoaSerial', WHERE WHAT IT READS IS OF BULK AT MOST 1048576: true; the input reads as it did. -/
def fnSoaSerialUptoRow : OpenClaim := { program := "ythbeecgfikcfdaa", sum := "832020a3b14a774ca5dc597b85334352f14151acb2e6f97a58c133ff4fa59ad6", func := "loop.example/zonefiles/laws.FnSoaSerial", spec := "fnSoaSerial", unfollowed := true, recurses := true, apart := false, narrowed := true }
def FnSoaSerialUptoSaid : Prop := fnSoaSerialUptoRow.holds Try.pinned (OpenSpec.upto fnSoaSerialSpec)

/-- 'laws.FnNameBytes', WHERE WHAT IT READS IS OF BULK AT MOST 1048576: true; the input reads as it did. -/
def fnNameBytesUptoRow : OpenClaim := { program := "ythbeecgfikcfdaa", sum := "832020a3b14a774ca5dc597b85334352f14151acb2e6f97a58c133ff4fa59ad6", func := "loop.example/zonefiles/laws.FnNameBytes", spec := "fnNameBytes", inPlace := ["internal/abi.NoEscape", "internal/bytealg.MakeNoZero"], apart := false, narrowed := true }
def FnNameBytesUptoSaid : Prop := fnNameBytesUptoRow.holds Try.pinned (OpenSpec.upto fnNameBytesSpec)

/-- 'laws.FnExactPackName', WHERE WHAT IT READS IS OF BULK AT MOST 1048576: true; the input reads as it did. -/
def fnExactPackNameUptoRow : OpenClaim := { program := "ythbeecgfikcfdaa", sum := "832020a3b14a774ca5dc597b85334352f14151acb2e6f97a58c133ff4fa59ad6", func := "loop.example/zonefiles/laws.FnExactPackName", spec := "fnExactPackName", inPlace := ["internal/abi.NoEscape", "internal/bytealg.MakeNoZero"], apart := false, narrowed := true }
def FnExactPackNameUptoSaid : Prop := fnExactPackNameUptoRow.holds Try.pinned (OpenSpec.upto fnExactPackNameSpec)

end Rows
end Go.Proofs.Ythbeecgfikcfdaa
