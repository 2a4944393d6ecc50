/-
  NARROWER THAN 'FOR EVERY INPUT', by the rows' own cells (each row's printed sentence says how): FnReadData: laid · FnExactReadLine: laid · FnLineClass: laid · FnDollarLine: laid · FnWriteMaster: laid · FnReadMaster: laid · FnReadLines: laid · FnMasterEmpty: laid · FnMasterParts: laid · FnWriteOrigin: laid · FnExactReadMaster: laid.
  DERIVED. THE GIVEN ROWS OF THIS SEAT. 11 by the template 'for every input the law returns true; each argument reads behind the call as it read before'; 0 by the template 'total and deterministic' (their statements: YtpgeeeamcncpkaaGreatDoorTotals.lean).
  GIVEN WITH THE SEED: the statements are not yours to turn. If you find one false, say at which input.
  Laid BY PROGRAM, IN A SANDBOX (cutbox-rows.mjs): the forced cells as the released guide's own fill.sh prints them over the translation 36ed93ebcc713409… (all of the seat's roots in one cut). By AI agents, Wed Nov 11 2026. No macro, syntax, notation, axiom, sorry.
-/
import Derived.Test.YtpgeeeamcncpkaaGreatDoorChecked
import GoSem.PinnedTables
import GoSem.Claim
import GoSem.ClaimJoined
import GoSem.ClaimMapViews
import Derived.JoinedTies
import Derived.KernelRfl
namespace Go.Proofs.YtpgeeeamcncpkaaGreatDoor
/- THE CELL 'sum', in the pinned program and in every row, IS THE sha256 OF THE DUMP (.gsa) THAT YtpgeeeamcncpkaaGreatDoorProg.lean LOADS. Nothing in Lean hashes anything: it is a label: what it is worth is what the hold of that sum in a sandbox is worth. -/
noncomputable def Tryz.pinned : Pinned := { name := "ytpgeeeamcncpkaagreatdoor", sum := "36ed93ebcc71340984589d8e8f916201663d687678c3ef631ae6988a240125da", checked := Tryz.checked }
namespace Rows
def none {H : Type} : Left H := { results := [], args := [] }

/- WHAT THE LISTED PACKAGE-LEVEL VARIABLES READ AS WHEN THE CALL BEGINS. Each datum BY PROGRAM (the guide's laid-datum.mjs) off the statement by which the dump's own 'gosem.cut.vars' lays the variable. In a bare row this is a premise. The card (YtpgeeeamcncpkaaGreatDoorCards.lean) ties it to the program's text. -/
def laid_math_bits_deBruijn32tab {H : Type} : DataW H := .agg [.lit (.int .u8 0), .lit (.int .u8 1), .lit (.int .u8 28), .lit (.int .u8 2), .lit (.int .u8 29), .lit (.int .u8 14), .lit (.int .u8 24), .lit (.int .u8 3), .lit (.int .u8 30), .lit (.int .u8 22), .lit (.int .u8 20), .lit (.int .u8 15), .lit (.int .u8 25), .lit (.int .u8 17), .lit (.int .u8 4), .lit (.int .u8 8), .lit (.int .u8 31), .lit (.int .u8 27), .lit (.int .u8 13), .lit (.int .u8 23), .lit (.int .u8 21), .lit (.int .u8 19), .lit (.int .u8 16), .lit (.int .u8 7), .lit (.int .u8 26), .lit (.int .u8 12), .lit (.int .u8 18), .lit (.int .u8 6), .lit (.int .u8 11), .lit (.int .u8 5), .lit (.int .u8 10), .lit (.int .u8 9)]
def laid_math_bits_deBruijn64tab {H : Type} : DataW H := .agg [.lit (.int .u8 0), .lit (.int .u8 1), .lit (.int .u8 56), .lit (.int .u8 2), .lit (.int .u8 57), .lit (.int .u8 49), .lit (.int .u8 28), .lit (.int .u8 3), .lit (.int .u8 61), .lit (.int .u8 58), .lit (.int .u8 42), .lit (.int .u8 50), .lit (.int .u8 38), .lit (.int .u8 29), .lit (.int .u8 17), .lit (.int .u8 4), .lit (.int .u8 62), .lit (.int .u8 47), .lit (.int .u8 59), .lit (.int .u8 36), .lit (.int .u8 45), .lit (.int .u8 43), .lit (.int .u8 51), .lit (.int .u8 22), .lit (.int .u8 53), .lit (.int .u8 39), .lit (.int .u8 33), .lit (.int .u8 30), .lit (.int .u8 24), .lit (.int .u8 18), .lit (.int .u8 12), .lit (.int .u8 5), .lit (.int .u8 63), .lit (.int .u8 55), .lit (.int .u8 48), .lit (.int .u8 27), .lit (.int .u8 60), .lit (.int .u8 41), .lit (.int .u8 37), .lit (.int .u8 16), .lit (.int .u8 46), .lit (.int .u8 35), .lit (.int .u8 44), .lit (.int .u8 21), .lit (.int .u8 52), .lit (.int .u8 32), .lit (.int .u8 23), .lit (.int .u8 11), .lit (.int .u8 54), .lit (.int .u8 26), .lit (.int .u8 40), .lit (.int .u8 15), .lit (.int .u8 34), .lit (.int .u8 20), .lit (.int .u8 31), .lit (.int .u8 10), .lit (.int .u8 25), .lit (.int .u8 14), .lit (.int .u8 19), .lit (.int .u8 9), .lit (.int .u8 13), .lit (.int .u8 8), .lit (.int .u8 7), .lit (.int .u8 6)]
def laid_internal_strconv_uint64pow10 {H : Type} : DataW H := .agg [.lit (.int .u64 1), .lit (.int .u64 10), .lit (.int .u64 100), .lit (.int .u64 1000), .lit (.int .u64 10000), .lit (.int .u64 100000), .lit (.int .u64 1000000), .lit (.int .u64 10000000), .lit (.int .u64 100000000), .lit (.int .u64 1000000000), .lit (.int .u64 10000000000), .lit (.int .u64 100000000000), .lit (.int .u64 1000000000000), .lit (.int .u64 10000000000000), .lit (.int .u64 100000000000000), .lit (.int .u64 1000000000000000), .lit (.int .u64 10000000000000000), .lit (.int .u64 100000000000000000), .lit (.int .u64 1000000000000000000), .lit (.int .u64 10000000000000000000)]
def laid_unicode_utf8_acceptRanges {H : Type} : DataW H := .agg [.agg [.lit (.int .u8 128), .lit (.int .u8 191)], .agg [.lit (.int .u8 160), .lit (.int .u8 191)], .agg [.lit (.int .u8 128), .lit (.int .u8 159)], .agg [.lit (.int .u8 144), .lit (.int .u8 191)], .agg [.lit (.int .u8 128), .lit (.int .u8 143)], .agg [.lit (.int .u8 0), .lit (.int .u8 0)], .agg [.lit (.int .u8 0), .lit (.int .u8 0)], .agg [.lit (.int .u8 0), .lit (.int .u8 0)], .agg [.lit (.int .u8 0), .lit (.int .u8 0)], .agg [.lit (.int .u8 0), .lit (.int .u8 0)], .agg [.lit (.int .u8 0), .lit (.int .u8 0)], .agg [.lit (.int .u8 0), .lit (.int .u8 0)], .agg [.lit (.int .u8 0), .lit (.int .u8 0)], .agg [.lit (.int .u8 0), .lit (.int .u8 0)], .agg [.lit (.int .u8 0), .lit (.int .u8 0)], .agg [.lit (.int .u8 0), .lit (.int .u8 0)]]
def laid_loop_example_zonefiles_impl_kindRows {H : Type} : DataW H := .agg [.agg [.lit (.int .i64 1), .lit (.string [65])], .agg [.lit (.int .i64 2), .lit (.string [78, 83])], .agg [.lit (.int .i64 5), .lit (.string [67, 78, 65, 77, 69])], .agg [.lit (.int .i64 6), .lit (.string [83, 79, 65])], .agg [.lit (.int .i64 12), .lit (.string [80, 84, 82])], .agg [.lit (.int .i64 15), .lit (.string [77, 88])], .agg [.lit (.int .i64 16), .lit (.string [84, 88, 84])]]
/-- One of Go's own tables, pinned by name: the form's constant. -/
def laid_unicode_utf8_first : DataW Unit := Go.Pinned.utf8First
def laid_errors_errorType {H : Type} : DataW H := .iface "internal/reflectlite.rtype" (.agg [.ptr (.lit (.string [101, 114, 114, 111, 114]))])

/-- 'laws.FnReadData': WHATEVER THE INPUT: true; the input reads as it did. -/
def fnReadDataSpec : ChangeSpec := { name := "fnReadData", vars := ["loop.example/zonefiles/impl.kindRows"], fn := fun _ => fun
  | [d, g1] => { results := [.lit (.bool true)], args := [d], vars := [g1] }
  | _ => none }
def fnReadDataRow : OpenClaim := { program := "ytpgeeeamcncpkaagreatdoor", sum := "36ed93ebcc71340984589d8e8f916201663d687678c3ef631ae6988a240125da", func := "loop.example/zonefiles/laws.FnReadData", spec := "fnReadData", inPlace := ["internal/bytealg.CountString", "internal/bytealg.IndexByteString", "internal/bytealg.IndexString", "internal/abi.NoEscape", "internal/bytealg.MakeNoZero"], unfollowed := true, recurses := true, named := ["unicode/utf8.first", "unicode/utf8.acceptRanges", "internal/bytealg.MaxLen", "internal/strconv.uint64pow10", "math/bits.deBruijn32tab", "math/bits.deBruijn64tab", "loop.example/zonefiles/impl.kindRows"], apart := false, laid := [("math/bits.deBruijn32tab", laid_math_bits_deBruijn32tab), ("math/bits.deBruijn64tab", laid_math_bits_deBruijn64tab), ("internal/strconv.uint64pow10", laid_internal_strconv_uint64pow10), ("unicode/utf8.acceptRanges", laid_unicode_utf8_acceptRanges), ("loop.example/zonefiles/impl.kindRows", laid_loop_example_zonefiles_impl_kindRows), ("unicode/utf8.first", laid_unicode_utf8_first)] }
def FnReadDataSaid : Prop := fnReadDataRow.holds Tryz.pinned (OpenSpec.ofChange fnReadDataSpec)

/-- ITS FALSE NEIGHBOUR: 'it returns false'. Refute it at one input. -/
def fnReadDataWrong : ChangeSpec := { name := "fnReadData", vars := ["loop.example/zonefiles/impl.kindRows"], fn := fun _ => fun
  | [d, g1] => { results := [.lit (.bool false)], args := [d], vars := [g1] }
  | _ => none }
def FnReadDataWrongFalsely : Prop := fnReadDataRow.holds Tryz.pinned (OpenSpec.ofChange fnReadDataWrong)

/-- 'laws.FnExactReadLine': WHATEVER THE INPUT: true; the input reads as it did. -/
def fnExactReadLineSpec : ChangeSpec := { name := "fnExactReadLine", vars := ["loop.example/zonefiles/impl.kindRows"], fn := fun _ => fun
  | [d1, d2, g1] => { results := [.lit (.bool true)], args := [d1, d2], vars := [g1] }
  | _ => none }
def fnExactReadLineRow : OpenClaim := { program := "ytpgeeeamcncpkaagreatdoor", sum := "36ed93ebcc71340984589d8e8f916201663d687678c3ef631ae6988a240125da", func := "loop.example/zonefiles/laws.FnExactReadLine", spec := "fnExactReadLine", inPlace := ["internal/bytealg.IndexByteString", "internal/bytealg.IndexString", "internal/bytealg.CountString"], unfollowed := true, recurses := true, named := ["unicode/utf8.first", "unicode/utf8.acceptRanges", "internal/bytealg.MaxLen", "loop.example/zonefiles/impl.kindRows"], apart := false, laid := [("unicode/utf8.acceptRanges", laid_unicode_utf8_acceptRanges), ("loop.example/zonefiles/impl.kindRows", laid_loop_example_zonefiles_impl_kindRows), ("unicode/utf8.first", laid_unicode_utf8_first)] }
def FnExactReadLineSaid : Prop := fnExactReadLineRow.holds Tryz.pinned (OpenSpec.ofChange fnExactReadLineSpec)

/-- ITS FALSE NEIGHBOUR: 'it returns false'. Refute it at one input. -/
def fnExactReadLineWrong : ChangeSpec := { name := "fnExactReadLine", vars := ["loop.example/zonefiles/impl.kindRows"], fn := fun _ => fun
  | [d1, d2, g1] => { results := [.lit (.bool false)], args := [d1, d2], vars := [g1] }
  | _ => none }
def FnExactReadLineWrongFalsely : Prop := fnExactReadLineRow.holds Tryz.pinned (OpenSpec.ofChange fnExactReadLineWrong)

/-- 'laws.FnLineClass': WHATEVER THE INPUT: true; the input reads as it did. -/
def fnLineClassSpec : ChangeSpec := { name := "fnLineClass", vars := ["loop.example/zonefiles/impl.kindRows"], fn := fun _ => fun
  | [d, g1] => { results := [.lit (.bool true)], args := [d], vars := [g1] }
  | _ => none }
def fnLineClassRow : OpenClaim := { program := "ytpgeeeamcncpkaagreatdoor", sum := "36ed93ebcc71340984589d8e8f916201663d687678c3ef631ae6988a240125da", func := "loop.example/zonefiles/laws.FnLineClass", spec := "fnLineClass", inPlace := ["internal/bytealg.IndexByteString", "internal/bytealg.IndexString", "internal/bytealg.CountString", "internal/abi.NoEscape", "internal/bytealg.MakeNoZero"], unfollowed := true, recurses := true, named := ["unicode/utf8.first", "unicode/utf8.acceptRanges", "internal/bytealg.MaxLen", "loop.example/zonefiles/impl.kindRows", "internal/strconv.uint64pow10", "math/bits.deBruijn32tab", "math/bits.deBruijn64tab"], apart := false, laid := [("math/bits.deBruijn32tab", laid_math_bits_deBruijn32tab), ("math/bits.deBruijn64tab", laid_math_bits_deBruijn64tab), ("internal/strconv.uint64pow10", laid_internal_strconv_uint64pow10), ("unicode/utf8.acceptRanges", laid_unicode_utf8_acceptRanges), ("loop.example/zonefiles/impl.kindRows", laid_loop_example_zonefiles_impl_kindRows), ("unicode/utf8.first", laid_unicode_utf8_first)] }
def FnLineClassSaid : Prop := fnLineClassRow.holds Tryz.pinned (OpenSpec.ofChange fnLineClassSpec)

/-- ITS FALSE NEIGHBOUR: 'it returns false'. Refute it at one input. -/
def fnLineClassWrong : ChangeSpec := { name := "fnLineClass", vars := ["loop.example/zonefiles/impl.kindRows"], fn := fun _ => fun
  | [d, g1] => { results := [.lit (.bool false)], args := [d], vars := [g1] }
  | _ => none }
def FnLineClassWrongFalsely : Prop := fnLineClassRow.holds Tryz.pinned (OpenSpec.ofChange fnLineClassWrong)

/-- 'laws.FnDollarLine': WHATEVER THE INPUT: true; the input reads as it did. -/
def fnDollarLineSpec : ChangeSpec := { name := "fnDollarLine", vars := ["loop.example/zonefiles/impl.kindRows"], fn := fun _ => fun
  | [d, g1] => { results := [.lit (.bool true)], args := [d], vars := [g1] }
  | _ => none }
def fnDollarLineRow : OpenClaim := { program := "ytpgeeeamcncpkaagreatdoor", sum := "36ed93ebcc71340984589d8e8f916201663d687678c3ef631ae6988a240125da", func := "loop.example/zonefiles/laws.FnDollarLine", spec := "fnDollarLine", inPlace := ["internal/bytealg.IndexByteString", "internal/bytealg.IndexString", "internal/bytealg.CountString"], unfollowed := true, recurses := true, named := ["unicode/utf8.first", "unicode/utf8.acceptRanges", "internal/bytealg.MaxLen", "loop.example/zonefiles/impl.kindRows"], apart := false, laid := [("unicode/utf8.acceptRanges", laid_unicode_utf8_acceptRanges), ("loop.example/zonefiles/impl.kindRows", laid_loop_example_zonefiles_impl_kindRows), ("unicode/utf8.first", laid_unicode_utf8_first)] }
def FnDollarLineSaid : Prop := fnDollarLineRow.holds Tryz.pinned (OpenSpec.ofChange fnDollarLineSpec)

/-- ITS FALSE NEIGHBOUR: 'it returns false'. Refute it at one input. -/
def fnDollarLineWrong : ChangeSpec := { name := "fnDollarLine", vars := ["loop.example/zonefiles/impl.kindRows"], fn := fun _ => fun
  | [d, g1] => { results := [.lit (.bool false)], args := [d], vars := [g1] }
  | _ => none }
def FnDollarLineWrongFalsely : Prop := fnDollarLineRow.holds Tryz.pinned (OpenSpec.ofChange fnDollarLineWrong)

/-- 'laws.FnWriteMaster': WHATEVER THE INPUT: true; the input reads as it did. -/
def fnWriteMasterSpec : ChangeSpec := { name := "fnWriteMaster", vars := ["loop.example/zonefiles/impl.kindRows"], fn := fun _ => fun
  | [d, g1] => { results := [.lit (.bool true)], args := [d], vars := [g1] }
  | _ => none }
def fnWriteMasterRow : OpenClaim := { program := "ytpgeeeamcncpkaagreatdoor", sum := "36ed93ebcc71340984589d8e8f916201663d687678c3ef631ae6988a240125da", func := "loop.example/zonefiles/laws.FnWriteMaster", spec := "fnWriteMaster", inPlace := ["internal/abi.NoEscape", "internal/bytealg.MakeNoZero", "internal/bytealg.CountString", "internal/bytealg.IndexByteString", "internal/bytealg.IndexString", "internal/reflectlite.ValueOf", "(internal/reflectlite.Value).Type", "(internal/reflectlite.Value).IsNil", "internal/reflectlite.TypeOf", "(internal/reflectlite.Value).Elem", "(internal/reflectlite.Value).Set"], unfollowed := true, recurses := true, named := ["internal/strconv.uint64pow10", "math/bits.deBruijn32tab", "math/bits.deBruijn64tab", "loop.example/zonefiles/impl.kindRows", "unicode/utf8.first", "unicode/utf8.acceptRanges", "internal/bytealg.MaxLen", "errors.errorType"], apart := false, laid := [("math/bits.deBruijn32tab", laid_math_bits_deBruijn32tab), ("math/bits.deBruijn64tab", laid_math_bits_deBruijn64tab), ("internal/strconv.uint64pow10", laid_internal_strconv_uint64pow10), ("unicode/utf8.acceptRanges", laid_unicode_utf8_acceptRanges), ("errors.errorType", laid_errors_errorType), ("loop.example/zonefiles/impl.kindRows", laid_loop_example_zonefiles_impl_kindRows), ("unicode/utf8.first", laid_unicode_utf8_first)] }
def FnWriteMasterSaid : Prop := fnWriteMasterRow.holds Tryz.pinned (OpenSpec.ofChange fnWriteMasterSpec)

/-- ITS FALSE NEIGHBOUR: 'it returns false'. Refute it at one input. -/
def fnWriteMasterWrong : ChangeSpec := { name := "fnWriteMaster", vars := ["loop.example/zonefiles/impl.kindRows"], fn := fun _ => fun
  | [d, g1] => { results := [.lit (.bool false)], args := [d], vars := [g1] }
  | _ => none }
def FnWriteMasterWrongFalsely : Prop := fnWriteMasterRow.holds Tryz.pinned (OpenSpec.ofChange fnWriteMasterWrong)

/-- 'laws.FnReadMaster': WHATEVER THE INPUT: true; the input reads as it did. -/
def fnReadMasterSpec : ChangeSpec := { name := "fnReadMaster", vars := ["loop.example/zonefiles/impl.kindRows"], fn := fun _ => fun
  | [d, g1] => { results := [.lit (.bool true)], args := [d], vars := [g1] }
  | _ => none }
def fnReadMasterRow : OpenClaim := { program := "ytpgeeeamcncpkaagreatdoor", sum := "36ed93ebcc71340984589d8e8f916201663d687678c3ef631ae6988a240125da", func := "loop.example/zonefiles/laws.FnReadMaster", spec := "fnReadMaster", inPlace := ["internal/bytealg.CountString", "internal/bytealg.IndexByteString", "internal/bytealg.IndexString", "internal/reflectlite.ValueOf", "(internal/reflectlite.Value).Type", "(internal/reflectlite.Value).IsNil", "internal/reflectlite.TypeOf", "(internal/reflectlite.Value).Elem", "(internal/reflectlite.Value).Set", "internal/abi.NoEscape", "internal/bytealg.MakeNoZero"], unfollowed := true, recurses := true, named := ["unicode/utf8.first", "unicode/utf8.acceptRanges", "internal/bytealg.MaxLen", "loop.example/zonefiles/impl.kindRows", "errors.errorType", "internal/strconv.uint64pow10", "math/bits.deBruijn32tab", "math/bits.deBruijn64tab"], apart := false, laid := [("math/bits.deBruijn32tab", laid_math_bits_deBruijn32tab), ("math/bits.deBruijn64tab", laid_math_bits_deBruijn64tab), ("internal/strconv.uint64pow10", laid_internal_strconv_uint64pow10), ("unicode/utf8.acceptRanges", laid_unicode_utf8_acceptRanges), ("errors.errorType", laid_errors_errorType), ("loop.example/zonefiles/impl.kindRows", laid_loop_example_zonefiles_impl_kindRows), ("unicode/utf8.first", laid_unicode_utf8_first)] }
def FnReadMasterSaid : Prop := fnReadMasterRow.holds Tryz.pinned (OpenSpec.ofChange fnReadMasterSpec)

/-- ITS FALSE NEIGHBOUR: 'it returns false'. Refute it at one input. -/
def fnReadMasterWrong : ChangeSpec := { name := "fnReadMaster", vars := ["loop.example/zonefiles/impl.kindRows"], fn := fun _ => fun
  | [d, g1] => { results := [.lit (.bool false)], args := [d], vars := [g1] }
  | _ => none }
def FnReadMasterWrongFalsely : Prop := fnReadMasterRow.holds Tryz.pinned (OpenSpec.ofChange fnReadMasterWrong)

/-- 'laws.FnReadLines': WHATEVER THE INPUT: true; the input reads as it did. -/
def fnReadLinesSpec : ChangeSpec := { name := "fnReadLines", vars := ["loop.example/zonefiles/impl.kindRows"], fn := fun _ => fun
  | [d, g1] => { results := [.lit (.bool true)], args := [d], vars := [g1] }
  | _ => none }
def fnReadLinesRow : OpenClaim := { program := "ytpgeeeamcncpkaagreatdoor", sum := "36ed93ebcc71340984589d8e8f916201663d687678c3ef631ae6988a240125da", func := "loop.example/zonefiles/laws.FnReadLines", spec := "fnReadLines", inPlace := ["internal/bytealg.CountString", "internal/bytealg.IndexByteString", "internal/bytealg.IndexString", "internal/reflectlite.ValueOf", "(internal/reflectlite.Value).Type", "(internal/reflectlite.Value).IsNil", "internal/reflectlite.TypeOf", "(internal/reflectlite.Value).Elem", "(internal/reflectlite.Value).Set"], unfollowed := true, recurses := true, named := ["unicode/utf8.first", "unicode/utf8.acceptRanges", "internal/bytealg.MaxLen", "loop.example/zonefiles/impl.kindRows", "errors.errorType"], apart := false, laid := [("unicode/utf8.acceptRanges", laid_unicode_utf8_acceptRanges), ("errors.errorType", laid_errors_errorType), ("loop.example/zonefiles/impl.kindRows", laid_loop_example_zonefiles_impl_kindRows), ("unicode/utf8.first", laid_unicode_utf8_first)] }
def FnReadLinesSaid : Prop := fnReadLinesRow.holds Tryz.pinned (OpenSpec.ofChange fnReadLinesSpec)

/-- ITS FALSE NEIGHBOUR: 'it returns false'. Refute it at one input. -/
def fnReadLinesWrong : ChangeSpec := { name := "fnReadLines", vars := ["loop.example/zonefiles/impl.kindRows"], fn := fun _ => fun
  | [d, g1] => { results := [.lit (.bool false)], args := [d], vars := [g1] }
  | _ => none }
def FnReadLinesWrongFalsely : Prop := fnReadLinesRow.holds Tryz.pinned (OpenSpec.ofChange fnReadLinesWrong)

/-- 'laws.FnMasterEmpty': WHATEVER THE INPUT: true; the input reads as it did. -/
def fnMasterEmptySpec : ChangeSpec := { name := "fnMasterEmpty", vars := ["loop.example/zonefiles/impl.kindRows"], fn := fun _ => fun
  | [d, g1] => { results := [.lit (.bool true)], args := [d], vars := [g1] }
  | _ => none }
def fnMasterEmptyRow : OpenClaim := { program := "ytpgeeeamcncpkaagreatdoor", sum := "36ed93ebcc71340984589d8e8f916201663d687678c3ef631ae6988a240125da", func := "loop.example/zonefiles/laws.FnMasterEmpty", spec := "fnMasterEmpty", inPlace := ["internal/bytealg.CountString", "internal/bytealg.IndexByteString", "internal/bytealg.IndexString", "internal/reflectlite.ValueOf", "(internal/reflectlite.Value).Type", "(internal/reflectlite.Value).IsNil", "internal/reflectlite.TypeOf", "(internal/reflectlite.Value).Elem", "(internal/reflectlite.Value).Set"], unfollowed := true, recurses := true, named := ["unicode/utf8.first", "unicode/utf8.acceptRanges", "internal/bytealg.MaxLen", "loop.example/zonefiles/impl.kindRows", "errors.errorType"], apart := false, laid := [("unicode/utf8.acceptRanges", laid_unicode_utf8_acceptRanges), ("errors.errorType", laid_errors_errorType), ("loop.example/zonefiles/impl.kindRows", laid_loop_example_zonefiles_impl_kindRows), ("unicode/utf8.first", laid_unicode_utf8_first)] }
def FnMasterEmptySaid : Prop := fnMasterEmptyRow.holds Tryz.pinned (OpenSpec.ofChange fnMasterEmptySpec)

/-- ITS FALSE NEIGHBOUR: 'it returns false'. Refute it at one input. -/
def fnMasterEmptyWrong : ChangeSpec := { name := "fnMasterEmpty", vars := ["loop.example/zonefiles/impl.kindRows"], fn := fun _ => fun
  | [d, g1] => { results := [.lit (.bool false)], args := [d], vars := [g1] }
  | _ => none }
def FnMasterEmptyWrongFalsely : Prop := fnMasterEmptyRow.holds Tryz.pinned (OpenSpec.ofChange fnMasterEmptyWrong)

/-- 'laws.FnMasterParts': WHATEVER THE INPUT: true; the input reads as it did. -/
def fnMasterPartsSpec : ChangeSpec := { name := "fnMasterParts", vars := ["loop.example/zonefiles/impl.kindRows"], fn := fun _ => fun
  | [d1, d2, g1] => { results := [.lit (.bool true)], args := [d1, d2], vars := [g1] }
  | _ => none }
def fnMasterPartsRow : OpenClaim := { program := "ytpgeeeamcncpkaagreatdoor", sum := "36ed93ebcc71340984589d8e8f916201663d687678c3ef631ae6988a240125da", func := "loop.example/zonefiles/laws.FnMasterParts", spec := "fnMasterParts", inPlace := ["internal/abi.NoEscape", "internal/bytealg.MakeNoZero", "internal/bytealg.CountString", "internal/bytealg.IndexByteString", "internal/bytealg.IndexString", "internal/reflectlite.ValueOf", "(internal/reflectlite.Value).Type", "(internal/reflectlite.Value).IsNil", "internal/reflectlite.TypeOf", "(internal/reflectlite.Value).Elem", "(internal/reflectlite.Value).Set"], unfollowed := true, recurses := true, named := ["internal/strconv.uint64pow10", "math/bits.deBruijn32tab", "math/bits.deBruijn64tab", "loop.example/zonefiles/impl.kindRows", "unicode/utf8.first", "unicode/utf8.acceptRanges", "internal/bytealg.MaxLen", "errors.errorType"], apart := false, laid := [("math/bits.deBruijn32tab", laid_math_bits_deBruijn32tab), ("math/bits.deBruijn64tab", laid_math_bits_deBruijn64tab), ("internal/strconv.uint64pow10", laid_internal_strconv_uint64pow10), ("unicode/utf8.acceptRanges", laid_unicode_utf8_acceptRanges), ("errors.errorType", laid_errors_errorType), ("loop.example/zonefiles/impl.kindRows", laid_loop_example_zonefiles_impl_kindRows), ("unicode/utf8.first", laid_unicode_utf8_first)] }
def FnMasterPartsSaid : Prop := fnMasterPartsRow.holds Tryz.pinned (OpenSpec.ofChange fnMasterPartsSpec)

/-- ITS FALSE NEIGHBOUR: 'it returns false'. Refute it at one input. -/
def fnMasterPartsWrong : ChangeSpec := { name := "fnMasterParts", vars := ["loop.example/zonefiles/impl.kindRows"], fn := fun _ => fun
  | [d1, d2, g1] => { results := [.lit (.bool false)], args := [d1, d2], vars := [g1] }
  | _ => none }
def FnMasterPartsWrongFalsely : Prop := fnMasterPartsRow.holds Tryz.pinned (OpenSpec.ofChange fnMasterPartsWrong)

/-- 'laws.FnWriteOrigin': WHATEVER THE INPUT: true; the input reads as it did. -/
def fnWriteOriginSpec : ChangeSpec := { name := "fnWriteOrigin", vars := ["loop.example/zonefiles/impl.kindRows"], fn := fun _ => fun
  | [d, g1] => { results := [.lit (.bool true)], args := [d], vars := [g1] }
  | _ => none }
def fnWriteOriginRow : OpenClaim := { program := "ytpgeeeamcncpkaagreatdoor", sum := "36ed93ebcc71340984589d8e8f916201663d687678c3ef631ae6988a240125da", func := "loop.example/zonefiles/laws.FnWriteOrigin", spec := "fnWriteOrigin", inPlace := ["internal/abi.NoEscape", "internal/bytealg.MakeNoZero", "internal/bytealg.CountString", "internal/bytealg.IndexByteString", "internal/bytealg.IndexString", "internal/reflectlite.ValueOf", "(internal/reflectlite.Value).Type", "(internal/reflectlite.Value).IsNil", "internal/reflectlite.TypeOf", "(internal/reflectlite.Value).Elem", "(internal/reflectlite.Value).Set"], unfollowed := true, recurses := true, named := ["internal/strconv.uint64pow10", "math/bits.deBruijn32tab", "math/bits.deBruijn64tab", "loop.example/zonefiles/impl.kindRows", "unicode/utf8.first", "unicode/utf8.acceptRanges", "internal/bytealg.MaxLen", "errors.errorType"], apart := false, laid := [("math/bits.deBruijn32tab", laid_math_bits_deBruijn32tab), ("math/bits.deBruijn64tab", laid_math_bits_deBruijn64tab), ("internal/strconv.uint64pow10", laid_internal_strconv_uint64pow10), ("unicode/utf8.acceptRanges", laid_unicode_utf8_acceptRanges), ("errors.errorType", laid_errors_errorType), ("loop.example/zonefiles/impl.kindRows", laid_loop_example_zonefiles_impl_kindRows), ("unicode/utf8.first", laid_unicode_utf8_first)] }
def FnWriteOriginSaid : Prop := fnWriteOriginRow.holds Tryz.pinned (OpenSpec.ofChange fnWriteOriginSpec)

/-- ITS FALSE NEIGHBOUR: 'it returns false'. Refute it at one input. -/
def fnWriteOriginWrong : ChangeSpec := { name := "fnWriteOrigin", vars := ["loop.example/zonefiles/impl.kindRows"], fn := fun _ => fun
  | [d, g1] => { results := [.lit (.bool false)], args := [d], vars := [g1] }
  | _ => none }
def FnWriteOriginWrongFalsely : Prop := fnWriteOriginRow.holds Tryz.pinned (OpenSpec.ofChange fnWriteOriginWrong)

/-- 'laws.FnExactReadMaster': WHATEVER THE INPUT: true; the input reads as it did. -/
def fnExactReadMasterSpec : ChangeSpec := { name := "fnExactReadMaster", vars := ["loop.example/zonefiles/impl.kindRows"], fn := fun _ => fun
  | [d1, d2, g1] => { results := [.lit (.bool true)], args := [d1, d2], vars := [g1] }
  | _ => none }
def fnExactReadMasterRow : OpenClaim := { program := "ytpgeeeamcncpkaagreatdoor", sum := "36ed93ebcc71340984589d8e8f916201663d687678c3ef631ae6988a240125da", func := "loop.example/zonefiles/laws.FnExactReadMaster", spec := "fnExactReadMaster", inPlace := ["internal/bytealg.CountString", "internal/bytealg.IndexByteString", "internal/bytealg.IndexString", "internal/reflectlite.ValueOf", "(internal/reflectlite.Value).Type", "(internal/reflectlite.Value).IsNil", "internal/reflectlite.TypeOf", "(internal/reflectlite.Value).Elem", "(internal/reflectlite.Value).Set"], unfollowed := true, recurses := true, named := ["unicode/utf8.first", "unicode/utf8.acceptRanges", "internal/bytealg.MaxLen", "loop.example/zonefiles/impl.kindRows", "errors.errorType"], apart := false, laid := [("unicode/utf8.acceptRanges", laid_unicode_utf8_acceptRanges), ("errors.errorType", laid_errors_errorType), ("loop.example/zonefiles/impl.kindRows", laid_loop_example_zonefiles_impl_kindRows), ("unicode/utf8.first", laid_unicode_utf8_first)] }
def FnExactReadMasterSaid : Prop := fnExactReadMasterRow.holds Tryz.pinned (OpenSpec.ofChange fnExactReadMasterSpec)

/-- ITS FALSE NEIGHBOUR: 'it returns false'. Refute it at one input. -/
def fnExactReadMasterWrong : ChangeSpec := { name := "fnExactReadMaster", vars := ["loop.example/zonefiles/impl.kindRows"], fn := fun _ => fun
  | [d1, d2, g1] => { results := [.lit (.bool false)], args := [d1, d2], vars := [g1] }
  | _ => none }
def FnExactReadMasterWrongFalsely : Prop := fnExactReadMasterRow.holds Tryz.pinned (OpenSpec.ofChange fnExactReadMasterWrong)

/- THE SECOND FORM. 'bulk': how many values and letters a reading holds, each counted each time it is reached (what is shared counts as often as it is met; a slice's spare places count too). A statement '..UptoSaid' is the law's where the arguments, and the package variables that the reading takes, are together of bulk at most 1048576: NARROWER than '..Said'. Prove '..Said' where nothing that the law and all that it calls make is longer than what came in: it says more and counts as full. Else prove '..UptoSaid'. A law counts once. -/
mutual
def uptoBulk {H : Type} : DataW H → Nat
  | .lit (.string bytes) => bytes.length + 1
  | .lit _ => 1
  | .nil => 1
  | .ptr d => uptoBulk d + 1
  | .slice elems spare => uptoBulkAll elems + uptoBulkAll spare + 1
  | .agg parts => uptoBulkAll parts + 1
  | .iface _ d => uptoBulk d + 1
  | .map entries => uptoBulkEntries entries + 1
  | .held _ => 1
def uptoBulkAll {H : Type} : List (DataW H) → Nat
  | [] => 0
  | d :: r => uptoBulk d + uptoBulkAll r
def uptoBulkEntries {H : Type} : List (Lit × DataW H) → Nat
  | [] => 0
  | x :: r => uptoBulkEntry x + uptoBulkEntries r
def uptoBulkEntry {H : Type} : Lit × DataW H → Nat
  | (.string bytes, d) => bytes.length + uptoBulk d + 1
  | (_, d) => uptoBulk d + 1
 end
def uptoSmall : (H : Type) → List (DataW H) → Bool := fun _ ds => decide (uptoBulkAll ds ≤ 1048576)
def OpenSpec.upto (s : _root_.Go.ChangeSpec) : _root_.Go.OpenSpec := { _root_.Go.OpenSpec.ofChange s with cond := some uptoSmall }

/-- 'laws.FnReadData', WHERE WHAT IT READS IS OF BULK AT MOST 1048576: true; the input reads as it did. -/
def fnReadDataUptoRow : OpenClaim := { program := "ytpgeeeamcncpkaagreatdoor", sum := "36ed93ebcc71340984589d8e8f916201663d687678c3ef631ae6988a240125da", func := "loop.example/zonefiles/laws.FnReadData", spec := "fnReadData", inPlace := ["internal/bytealg.CountString", "internal/bytealg.IndexByteString", "internal/bytealg.IndexString", "internal/abi.NoEscape", "internal/bytealg.MakeNoZero"], unfollowed := true, recurses := true, named := ["unicode/utf8.first", "unicode/utf8.acceptRanges", "internal/bytealg.MaxLen", "internal/strconv.uint64pow10", "math/bits.deBruijn32tab", "math/bits.deBruijn64tab", "loop.example/zonefiles/impl.kindRows"], apart := false, laid := [("math/bits.deBruijn32tab", laid_math_bits_deBruijn32tab), ("math/bits.deBruijn64tab", laid_math_bits_deBruijn64tab), ("internal/strconv.uint64pow10", laid_internal_strconv_uint64pow10), ("unicode/utf8.acceptRanges", laid_unicode_utf8_acceptRanges), ("loop.example/zonefiles/impl.kindRows", laid_loop_example_zonefiles_impl_kindRows), ("unicode/utf8.first", laid_unicode_utf8_first)], narrowed := true }
def FnReadDataUptoSaid : Prop := fnReadDataUptoRow.holds Tryz.pinned (OpenSpec.upto fnReadDataSpec)

/-- 'laws.FnExactReadLine', WHERE WHAT IT READS IS OF BULK AT MOST 1048576: true; the input reads as it did. -/
def fnExactReadLineUptoRow : OpenClaim := { program := "ytpgeeeamcncpkaagreatdoor", sum := "36ed93ebcc71340984589d8e8f916201663d687678c3ef631ae6988a240125da", func := "loop.example/zonefiles/laws.FnExactReadLine", spec := "fnExactReadLine", inPlace := ["internal/bytealg.IndexByteString", "internal/bytealg.IndexString", "internal/bytealg.CountString"], unfollowed := true, recurses := true, named := ["unicode/utf8.first", "unicode/utf8.acceptRanges", "internal/bytealg.MaxLen", "loop.example/zonefiles/impl.kindRows"], apart := false, laid := [("unicode/utf8.acceptRanges", laid_unicode_utf8_acceptRanges), ("loop.example/zonefiles/impl.kindRows", laid_loop_example_zonefiles_impl_kindRows), ("unicode/utf8.first", laid_unicode_utf8_first)], narrowed := true }
def FnExactReadLineUptoSaid : Prop := fnExactReadLineUptoRow.holds Tryz.pinned (OpenSpec.upto fnExactReadLineSpec)

/-- 'laws.FnLineClass', WHERE WHAT IT READS IS OF BULK AT MOST 1048576: true; the input reads as it did. -/
def fnLineClassUptoRow : OpenClaim := { program := "ytpgeeeamcncpkaagreatdoor", sum := "36ed93ebcc71340984589d8e8f916201663d687678c3ef631ae6988a240125da", func := "loop.example/zonefiles/laws.FnLineClass", spec := "fnLineClass", inPlace := ["internal/bytealg.IndexByteString", "internal/bytealg.IndexString", "internal/bytealg.CountString", "internal/abi.NoEscape", "internal/bytealg.MakeNoZero"], unfollowed := true, recurses := true, named := ["unicode/utf8.first", "unicode/utf8.acceptRanges", "internal/bytealg.MaxLen", "loop.example/zonefiles/impl.kindRows", "internal/strconv.uint64pow10", "math/bits.deBruijn32tab", "math/bits.deBruijn64tab"], apart := false, laid := [("math/bits.deBruijn32tab", laid_math_bits_deBruijn32tab), ("math/bits.deBruijn64tab", laid_math_bits_deBruijn64tab), ("internal/strconv.uint64pow10", laid_internal_strconv_uint64pow10), ("unicode/utf8.acceptRanges", laid_unicode_utf8_acceptRanges), ("loop.example/zonefiles/impl.kindRows", laid_loop_example_zonefiles_impl_kindRows), ("unicode/utf8.first", laid_unicode_utf8_first)], narrowed := true }
def FnLineClassUptoSaid : Prop := fnLineClassUptoRow.holds Tryz.pinned (OpenSpec.upto fnLineClassSpec)

/-- 'laws.FnDollarLine', WHERE WHAT IT READS IS OF BULK AT MOST 1048576: true; the input reads as it did. -/
def fnDollarLineUptoRow : OpenClaim := { program := "ytpgeeeamcncpkaagreatdoor", sum := "36ed93ebcc71340984589d8e8f916201663d687678c3ef631ae6988a240125da", func := "loop.example/zonefiles/laws.FnDollarLine", spec := "fnDollarLine", inPlace := ["internal/bytealg.IndexByteString", "internal/bytealg.IndexString", "internal/bytealg.CountString"], unfollowed := true, recurses := true, named := ["unicode/utf8.first", "unicode/utf8.acceptRanges", "internal/bytealg.MaxLen", "loop.example/zonefiles/impl.kindRows"], apart := false, laid := [("unicode/utf8.acceptRanges", laid_unicode_utf8_acceptRanges), ("loop.example/zonefiles/impl.kindRows", laid_loop_example_zonefiles_impl_kindRows), ("unicode/utf8.first", laid_unicode_utf8_first)], narrowed := true }
def FnDollarLineUptoSaid : Prop := fnDollarLineUptoRow.holds Tryz.pinned (OpenSpec.upto fnDollarLineSpec)

/-- 'laws.FnWriteMaster', WHERE WHAT IT READS IS OF BULK AT MOST 1048576: true; the input reads as it did. -/
def fnWriteMasterUptoRow : OpenClaim := { program := "ytpgeeeamcncpkaagreatdoor", sum := "36ed93ebcc71340984589d8e8f916201663d687678c3ef631ae6988a240125da", func := "loop.example/zonefiles/laws.FnWriteMaster", spec := "fnWriteMaster", inPlace := ["internal/abi.NoEscape", "internal/bytealg.MakeNoZero", "internal/bytealg.CountString", "internal/bytealg.IndexByteString", "internal/bytealg.IndexString", "internal/reflectlite.ValueOf", "(internal/reflectlite.Value).Type", "(internal/reflectlite.Value).IsNil", "internal/reflectlite.TypeOf", "(internal/reflectlite.Value).Elem", "(internal/reflectlite.Value).Set"], unfollowed := true, recurses := true, named := ["internal/strconv.uint64pow10", "math/bits.deBruijn32tab", "math/bits.deBruijn64tab", "loop.example/zonefiles/impl.kindRows", "unicode/utf8.first", "unicode/utf8.acceptRanges", "internal/bytealg.MaxLen", "errors.errorType"], apart := false, laid := [("math/bits.deBruijn32tab", laid_math_bits_deBruijn32tab), ("math/bits.deBruijn64tab", laid_math_bits_deBruijn64tab), ("internal/strconv.uint64pow10", laid_internal_strconv_uint64pow10), ("unicode/utf8.acceptRanges", laid_unicode_utf8_acceptRanges), ("errors.errorType", laid_errors_errorType), ("loop.example/zonefiles/impl.kindRows", laid_loop_example_zonefiles_impl_kindRows), ("unicode/utf8.first", laid_unicode_utf8_first)], narrowed := true }
def FnWriteMasterUptoSaid : Prop := fnWriteMasterUptoRow.holds Tryz.pinned (OpenSpec.upto fnWriteMasterSpec)

/-- 'laws.FnReadMaster', WHERE WHAT IT READS IS OF BULK AT MOST 1048576: true; the input reads as it did. -/
def fnReadMasterUptoRow : OpenClaim := { program := "ytpgeeeamcncpkaagreatdoor", sum := "36ed93ebcc71340984589d8e8f916201663d687678c3ef631ae6988a240125da", func := "loop.example/zonefiles/laws.FnReadMaster", spec := "fnReadMaster", inPlace := ["internal/bytealg.CountString", "internal/bytealg.IndexByteString", "internal/bytealg.IndexString", "internal/reflectlite.ValueOf", "(internal/reflectlite.Value).Type", "(internal/reflectlite.Value).IsNil", "internal/reflectlite.TypeOf", "(internal/reflectlite.Value).Elem", "(internal/reflectlite.Value).Set", "internal/abi.NoEscape", "internal/bytealg.MakeNoZero"], unfollowed := true, recurses := true, named := ["unicode/utf8.first", "unicode/utf8.acceptRanges", "internal/bytealg.MaxLen", "loop.example/zonefiles/impl.kindRows", "errors.errorType", "internal/strconv.uint64pow10", "math/bits.deBruijn32tab", "math/bits.deBruijn64tab"], apart := false, laid := [("math/bits.deBruijn32tab", laid_math_bits_deBruijn32tab), ("math/bits.deBruijn64tab", laid_math_bits_deBruijn64tab), ("internal/strconv.uint64pow10", laid_internal_strconv_uint64pow10), ("unicode/utf8.acceptRanges", laid_unicode_utf8_acceptRanges), ("errors.errorType", laid_errors_errorType), ("loop.example/zonefiles/impl.kindRows", laid_loop_example_zonefiles_impl_kindRows), ("unicode/utf8.first", laid_unicode_utf8_first)], narrowed := true }
def FnReadMasterUptoSaid : Prop := fnReadMasterUptoRow.holds Tryz.pinned (OpenSpec.upto fnReadMasterSpec)

/-- 'laws.FnReadLines', WHERE WHAT IT READS IS OF BULK AT MOST 1048576: true; the input reads as it did. -/
def fnReadLinesUptoRow : OpenClaim := { program := "ytpgeeeamcncpkaagreatdoor", sum := "36ed93ebcc71340984589d8e8f916201663d687678c3ef631ae6988a240125da", func := "loop.example/zonefiles/laws.FnReadLines", spec := "fnReadLines", inPlace := ["internal/bytealg.CountString", "internal/bytealg.IndexByteString", "internal/bytealg.IndexString", "internal/reflectlite.ValueOf", "(internal/reflectlite.Value).Type", "(internal/reflectlite.Value).IsNil", "internal/reflectlite.TypeOf", "(internal/reflectlite.Value).Elem", "(internal/reflectlite.Value).Set"], unfollowed := true, recurses := true, named := ["unicode/utf8.first", "unicode/utf8.acceptRanges", "internal/bytealg.MaxLen", "loop.example/zonefiles/impl.kindRows", "errors.errorType"], apart := false, laid := [("unicode/utf8.acceptRanges", laid_unicode_utf8_acceptRanges), ("errors.errorType", laid_errors_errorType), ("loop.example/zonefiles/impl.kindRows", laid_loop_example_zonefiles_impl_kindRows), ("unicode/utf8.first", laid_unicode_utf8_first)], narrowed := true }
def FnReadLinesUptoSaid : Prop := fnReadLinesUptoRow.holds Tryz.pinned (OpenSpec.upto fnReadLinesSpec)

/-- 'laws.FnMasterEmpty', WHERE WHAT IT READS IS OF BULK AT MOST 1048576: true; the input reads as it did. -/
def fnMasterEmptyUptoRow : OpenClaim := { program := "ytpgeeeamcncpkaagreatdoor", sum := "36ed93ebcc71340984589d8e8f916201663d687678c3ef631ae6988a240125da", func := "loop.example/zonefiles/laws.FnMasterEmpty", spec := "fnMasterEmpty", inPlace := ["internal/bytealg.CountString", "internal/bytealg.IndexByteString", "internal/bytealg.IndexString", "internal/reflectlite.ValueOf", "(internal/reflectlite.Value).Type", "(internal/reflectlite.Value).IsNil", "internal/reflectlite.TypeOf", "(internal/reflectlite.Value).Elem", "(internal/reflectlite.Value).Set"], unfollowed := true, recurses := true, named := ["unicode/utf8.first", "unicode/utf8.acceptRanges", "internal/bytealg.MaxLen", "loop.example/zonefiles/impl.kindRows", "errors.errorType"], apart := false, laid := [("unicode/utf8.acceptRanges", laid_unicode_utf8_acceptRanges), ("errors.errorType", laid_errors_errorType), ("loop.example/zonefiles/impl.kindRows", laid_loop_example_zonefiles_impl_kindRows), ("unicode/utf8.first", laid_unicode_utf8_first)], narrowed := true }
def FnMasterEmptyUptoSaid : Prop := fnMasterEmptyUptoRow.holds Tryz.pinned (OpenSpec.upto fnMasterEmptySpec)

/-- 'laws.FnMasterParts', WHERE WHAT IT READS IS OF BULK AT MOST 1048576: true; the input reads as it did. -/
def fnMasterPartsUptoRow : OpenClaim := { program := "ytpgeeeamcncpkaagreatdoor", sum := "36ed93ebcc71340984589d8e8f916201663d687678c3ef631ae6988a240125da", func := "loop.example/zonefiles/laws.FnMasterParts", spec := "fnMasterParts", inPlace := ["internal/abi.NoEscape", "internal/bytealg.MakeNoZero", "internal/bytealg.CountString", "internal/bytealg.IndexByteString", "internal/bytealg.IndexString", "internal/reflectlite.ValueOf", "(internal/reflectlite.Value).Type", "(internal/reflectlite.Value).IsNil", "internal/reflectlite.TypeOf", "(internal/reflectlite.Value).Elem", "(internal/reflectlite.Value).Set"], unfollowed := true, recurses := true, named := ["internal/strconv.uint64pow10", "math/bits.deBruijn32tab", "math/bits.deBruijn64tab", "loop.example/zonefiles/impl.kindRows", "unicode/utf8.first", "unicode/utf8.acceptRanges", "internal/bytealg.MaxLen", "errors.errorType"], apart := false, laid := [("math/bits.deBruijn32tab", laid_math_bits_deBruijn32tab), ("math/bits.deBruijn64tab", laid_math_bits_deBruijn64tab), ("internal/strconv.uint64pow10", laid_internal_strconv_uint64pow10), ("unicode/utf8.acceptRanges", laid_unicode_utf8_acceptRanges), ("errors.errorType", laid_errors_errorType), ("loop.example/zonefiles/impl.kindRows", laid_loop_example_zonefiles_impl_kindRows), ("unicode/utf8.first", laid_unicode_utf8_first)], narrowed := true }
def FnMasterPartsUptoSaid : Prop := fnMasterPartsUptoRow.holds Tryz.pinned (OpenSpec.upto fnMasterPartsSpec)

/-- 'laws.FnWriteOrigin', WHERE WHAT IT READS IS OF BULK AT MOST 1048576: true; the input reads as it did. -/
def fnWriteOriginUptoRow : OpenClaim := { program := "ytpgeeeamcncpkaagreatdoor", sum := "36ed93ebcc71340984589d8e8f916201663d687678c3ef631ae6988a240125da", func := "loop.example/zonefiles/laws.FnWriteOrigin", spec := "fnWriteOrigin", inPlace := ["internal/abi.NoEscape", "internal/bytealg.MakeNoZero", "internal/bytealg.CountString", "internal/bytealg.IndexByteString", "internal/bytealg.IndexString", "internal/reflectlite.ValueOf", "(internal/reflectlite.Value).Type", "(internal/reflectlite.Value).IsNil", "internal/reflectlite.TypeOf", "(internal/reflectlite.Value).Elem", "(internal/reflectlite.Value).Set"], unfollowed := true, recurses := true, named := ["internal/strconv.uint64pow10", "math/bits.deBruijn32tab", "math/bits.deBruijn64tab", "loop.example/zonefiles/impl.kindRows", "unicode/utf8.first", "unicode/utf8.acceptRanges", "internal/bytealg.MaxLen", "errors.errorType"], apart := false, laid := [("math/bits.deBruijn32tab", laid_math_bits_deBruijn32tab), ("math/bits.deBruijn64tab", laid_math_bits_deBruijn64tab), ("internal/strconv.uint64pow10", laid_internal_strconv_uint64pow10), ("unicode/utf8.acceptRanges", laid_unicode_utf8_acceptRanges), ("errors.errorType", laid_errors_errorType), ("loop.example/zonefiles/impl.kindRows", laid_loop_example_zonefiles_impl_kindRows), ("unicode/utf8.first", laid_unicode_utf8_first)], narrowed := true }
def FnWriteOriginUptoSaid : Prop := fnWriteOriginUptoRow.holds Tryz.pinned (OpenSpec.upto fnWriteOriginSpec)

/-- 'laws.FnExactReadMaster', WHERE WHAT IT READS IS OF BULK AT MOST 1048576: true; the input reads as it did. -/
def fnExactReadMasterUptoRow : OpenClaim := { program := "ytpgeeeamcncpkaagreatdoor", sum := "36ed93ebcc71340984589d8e8f916201663d687678c3ef631ae6988a240125da", func := "loop.example/zonefiles/laws.FnExactReadMaster", spec := "fnExactReadMaster", inPlace := ["internal/bytealg.CountString", "internal/bytealg.IndexByteString", "internal/bytealg.IndexString", "internal/reflectlite.ValueOf", "(internal/reflectlite.Value).Type", "(internal/reflectlite.Value).IsNil", "internal/reflectlite.TypeOf", "(internal/reflectlite.Value).Elem", "(internal/reflectlite.Value).Set"], unfollowed := true, recurses := true, named := ["unicode/utf8.first", "unicode/utf8.acceptRanges", "internal/bytealg.MaxLen", "loop.example/zonefiles/impl.kindRows", "errors.errorType"], apart := false, laid := [("unicode/utf8.acceptRanges", laid_unicode_utf8_acceptRanges), ("errors.errorType", laid_errors_errorType), ("loop.example/zonefiles/impl.kindRows", laid_loop_example_zonefiles_impl_kindRows), ("unicode/utf8.first", laid_unicode_utf8_first)], narrowed := true }
def FnExactReadMasterUptoSaid : Prop := fnExactReadMasterUptoRow.holds Tryz.pinned (OpenSpec.upto fnExactReadMasterSpec)

end Rows
end Go.Proofs.YtpgeeeamcncpkaaGreatDoor
