/-
  DERIVED. GIVEN WITH THE SEED: THE CARDS: each row of YtgmmaehdpongcaaDoorRows.lean that lists a variable, with what it lists TIED to the program's text (the seventh form; the later family's looks); each row that meets fmt, with fmt's text TOLD by the authors' own Lean function (tested against real Go, not proved from fmt's source: count such statements apart). THE CARD IS WHAT COUNTS. Prove the row's statement (the work); the ties are given (YtgmmaehdpongcaaDoorTie.lean); close each card by the builder's one call (the guide's Derived/Test/ToyasCard.lean, 'card_holds'). Laid BY PROGRAM, IN A SANDBOX (cutbox-door.mjs). By AI agents, Wed Nov 11 2026. No macro, syntax, notation, axiom, sorry.
-/
import Derived.Test.YtgmmaehdpongcaaDoorRows
import GoSem.ClaimSeven
namespace Go.Proofs.YtgmmaehdpongcaaDoor
namespace Rows

/-- THE TIED CARD OF 'laws.FnRecordTtl'. -/
def fnRecordTtlCard : Claim7 := { stood := { row := fnRecordTtlRow, standIns := [], harness := (true, "fedccedac822d90a2a0aad532641127a99a3e79694b7978f8b319353a0145562"), looks := true }, kinds := [], alts := [], laidByText := true, laidKinds := [.data, .data, .data, .data], laidTests := true, laidLooks := .later }
def FnRecordTtlCardSaid : Prop := Claim7.holds Tryd.pinned (.plain (OpenSpec.ofChange fnRecordTtlSpec)) fnRecordTtlCard

/-- THE TIED CARD OF 'laws.FnParsePrefix'. -/
def fnParsePrefixCard : Claim7 := { stood := { row := fnParsePrefixRow, standIns := [], harness := (true, "fedccedac822d90a2a0aad532641127a99a3e79694b7978f8b319353a0145562"), looks := true }, kinds := [], alts := [], laidByText := true, laidKinds := [.data, .data, .pinned], laidTests := true, laidLooks := .later }
def FnParsePrefixCardSaid : Prop := Claim7.holds Tryd.pinned (.plain (OpenSpec.ofChange fnParsePrefixSpec)) fnParsePrefixCard

/-- THE TIED CARD OF 'laws.FnFieldsOf'. -/
def fnFieldsOfCard : Claim7 := { stood := { row := fnFieldsOfRow, standIns := [], harness := (true, "fedccedac822d90a2a0aad532641127a99a3e79694b7978f8b319353a0145562"), looks := true }, kinds := [], alts := [], laidByText := true, laidKinds := [.data, .pinned], laidTests := true, laidLooks := .later }
def FnFieldsOfCardSaid : Prop := Claim7.holds Tryd.pinned (.plain (OpenSpec.ofChange fnFieldsOfSpec)) fnFieldsOfCard

/-- THE TIED CARD OF 'laws.FnExactFormatRecord'. -/
def fnExactFormatRecordCard : Claim7 := { stood := { row := fnExactFormatRecordRow, standIns := [], harness := (true, "fedccedac822d90a2a0aad532641127a99a3e79694b7978f8b319353a0145562"), looks := true }, kinds := [], alts := [], laidByText := true, laidKinds := [.data, .data, .data, .data], laidTests := true, laidLooks := .later }
def FnExactFormatRecordCardSaid : Prop := Claim7.holds Tryd.pinned (.plain (OpenSpec.ofChange fnExactFormatRecordSpec)) fnExactFormatRecordCard

/-- THE TIED CARD OF 'laws.FnExactParseRecord'. -/
def fnExactParseRecordCard : Claim7 := { stood := { row := fnExactParseRecordRow, standIns := [], harness := (true, "fedccedac822d90a2a0aad532641127a99a3e79694b7978f8b319353a0145562"), looks := true }, kinds := [], alts := [], laidByText := true, laidKinds := [.data, .data, .pinned], laidTests := true, laidLooks := .later }
def FnExactParseRecordCardSaid : Prop := Claim7.holds Tryd.pinned (.plain (OpenSpec.ofChange fnExactParseRecordSpec)) fnExactParseRecordCard

/-- THE TIED CARD OF 'laws.FnExactFieldsOf'. -/
def fnExactFieldsOfCard : Claim7 := { stood := { row := fnExactFieldsOfRow, standIns := [], harness := (true, "fedccedac822d90a2a0aad532641127a99a3e79694b7978f8b319353a0145562"), looks := true }, kinds := [], alts := [], laidByText := true, laidKinds := [.data, .pinned], laidTests := true, laidLooks := .later }
def FnExactFieldsOfCardSaid : Prop := Claim7.holds Tryd.pinned (.plain (OpenSpec.ofChange fnExactFieldsOfSpec)) fnExactFieldsOfCard

/-- THE TIED CARD OF 'laws.FnExactReadData'. -/
def fnExactReadDataCard : Claim7 := { stood := { row := fnExactReadDataRow, standIns := [], harness := (true, "fedccedac822d90a2a0aad532641127a99a3e79694b7978f8b319353a0145562"), looks := true }, kinds := [], alts := [], laidByText := true, laidKinds := [.data, .pinned], laidTests := true, laidLooks := .later }
def FnExactReadDataCardSaid : Prop := Claim7.holds Tryd.pinned (.plain (OpenSpec.ofChange fnExactReadDataSpec)) fnExactReadDataCard

/-- THE TIED CARD OF 'laws.FnExactWriteLine'. -/
def fnExactWriteLineCard : Claim7 := { stood := { row := fnExactWriteLineRow, standIns := [], harness := (true, "fedccedac822d90a2a0aad532641127a99a3e79694b7978f8b319353a0145562"), looks := true }, kinds := [], alts := [], laidByText := true, laidKinds := [.data, .data, .data, .data], laidTests := true, laidLooks := .later }
def FnExactWriteLineCardSaid : Prop := Claim7.holds Tryd.pinned (.plain (OpenSpec.ofChange fnExactWriteLineSpec)) fnExactWriteLineCard

/-- THE TIED CARD OF 'laws.FnExactWriteMaster'. -/
def fnExactWriteMasterCard : Claim7 := { stood := { row := fnExactWriteMasterRow, standIns := [], harness := (true, "fedccedac822d90a2a0aad532641127a99a3e79694b7978f8b319353a0145562"), looks := true }, kinds := [], alts := [], laidByText := true, laidKinds := [.data, .data, .data, .data], laidTests := true, laidLooks := .later }
def FnExactWriteMasterCardSaid : Prop := Claim7.holds Tryd.pinned (.plain (OpenSpec.ofChange fnExactWriteMasterSpec)) fnExactWriteMasterCard

/-- THE SECOND FORM's CARD OF 'laws.FnRecordTtl'. -/
def fnRecordTtlUptoCard : Claim7 := { stood := { row := fnRecordTtlUptoRow, standIns := [], harness := (true, "fedccedac822d90a2a0aad532641127a99a3e79694b7978f8b319353a0145562"), looks := true }, kinds := [], alts := [], laidByText := true, laidKinds := [.data, .data, .data, .data], laidTests := true, laidLooks := .later }
def FnRecordTtlUptoCardSaid : Prop := Claim7.holds Tryd.pinned (.plain (OpenSpec.upto fnRecordTtlSpec)) fnRecordTtlUptoCard

/-- THE SECOND FORM's CARD OF 'laws.FnParsePrefix'. -/
def fnParsePrefixUptoCard : Claim7 := { stood := { row := fnParsePrefixUptoRow, standIns := [], harness := (true, "fedccedac822d90a2a0aad532641127a99a3e79694b7978f8b319353a0145562"), looks := true }, kinds := [], alts := [], laidByText := true, laidKinds := [.data, .data, .pinned], laidTests := true, laidLooks := .later }
def FnParsePrefixUptoCardSaid : Prop := Claim7.holds Tryd.pinned (.plain (OpenSpec.upto fnParsePrefixSpec)) fnParsePrefixUptoCard

/-- THE SECOND FORM's CARD OF 'laws.FnFieldsOf'. -/
def fnFieldsOfUptoCard : Claim7 := { stood := { row := fnFieldsOfUptoRow, standIns := [], harness := (true, "fedccedac822d90a2a0aad532641127a99a3e79694b7978f8b319353a0145562"), looks := true }, kinds := [], alts := [], laidByText := true, laidKinds := [.data, .pinned], laidTests := true, laidLooks := .later }
def FnFieldsOfUptoCardSaid : Prop := Claim7.holds Tryd.pinned (.plain (OpenSpec.upto fnFieldsOfSpec)) fnFieldsOfUptoCard

/-- THE SECOND FORM's CARD OF 'laws.FnExactFormatRecord'. -/
def fnExactFormatRecordUptoCard : Claim7 := { stood := { row := fnExactFormatRecordUptoRow, standIns := [], harness := (true, "fedccedac822d90a2a0aad532641127a99a3e79694b7978f8b319353a0145562"), looks := true }, kinds := [], alts := [], laidByText := true, laidKinds := [.data, .data, .data, .data], laidTests := true, laidLooks := .later }
def FnExactFormatRecordUptoCardSaid : Prop := Claim7.holds Tryd.pinned (.plain (OpenSpec.upto fnExactFormatRecordSpec)) fnExactFormatRecordUptoCard

/-- THE SECOND FORM's CARD OF 'laws.FnExactParseRecord'. -/
def fnExactParseRecordUptoCard : Claim7 := { stood := { row := fnExactParseRecordUptoRow, standIns := [], harness := (true, "fedccedac822d90a2a0aad532641127a99a3e79694b7978f8b319353a0145562"), looks := true }, kinds := [], alts := [], laidByText := true, laidKinds := [.data, .data, .pinned], laidTests := true, laidLooks := .later }
def FnExactParseRecordUptoCardSaid : Prop := Claim7.holds Tryd.pinned (.plain (OpenSpec.upto fnExactParseRecordSpec)) fnExactParseRecordUptoCard

/-- THE SECOND FORM's CARD OF 'laws.FnExactFieldsOf'. -/
def fnExactFieldsOfUptoCard : Claim7 := { stood := { row := fnExactFieldsOfUptoRow, standIns := [], harness := (true, "fedccedac822d90a2a0aad532641127a99a3e79694b7978f8b319353a0145562"), looks := true }, kinds := [], alts := [], laidByText := true, laidKinds := [.data, .pinned], laidTests := true, laidLooks := .later }
def FnExactFieldsOfUptoCardSaid : Prop := Claim7.holds Tryd.pinned (.plain (OpenSpec.upto fnExactFieldsOfSpec)) fnExactFieldsOfUptoCard

/-- THE SECOND FORM's CARD OF 'laws.FnExactReadData'. -/
def fnExactReadDataUptoCard : Claim7 := { stood := { row := fnExactReadDataUptoRow, standIns := [], harness := (true, "fedccedac822d90a2a0aad532641127a99a3e79694b7978f8b319353a0145562"), looks := true }, kinds := [], alts := [], laidByText := true, laidKinds := [.data, .pinned], laidTests := true, laidLooks := .later }
def FnExactReadDataUptoCardSaid : Prop := Claim7.holds Tryd.pinned (.plain (OpenSpec.upto fnExactReadDataSpec)) fnExactReadDataUptoCard

/-- THE SECOND FORM's CARD OF 'laws.FnExactWriteLine'. -/
def fnExactWriteLineUptoCard : Claim7 := { stood := { row := fnExactWriteLineUptoRow, standIns := [], harness := (true, "fedccedac822d90a2a0aad532641127a99a3e79694b7978f8b319353a0145562"), looks := true }, kinds := [], alts := [], laidByText := true, laidKinds := [.data, .data, .data, .data], laidTests := true, laidLooks := .later }
def FnExactWriteLineUptoCardSaid : Prop := Claim7.holds Tryd.pinned (.plain (OpenSpec.upto fnExactWriteLineSpec)) fnExactWriteLineUptoCard

/-- THE SECOND FORM's CARD OF 'laws.FnExactWriteMaster'. -/
def fnExactWriteMasterUptoCard : Claim7 := { stood := { row := fnExactWriteMasterUptoRow, standIns := [], harness := (true, "fedccedac822d90a2a0aad532641127a99a3e79694b7978f8b319353a0145562"), looks := true }, kinds := [], alts := [], laidByText := true, laidKinds := [.data, .data, .data, .data], laidTests := true, laidLooks := .later }
def FnExactWriteMasterUptoCardSaid : Prop := Claim7.holds Tryd.pinned (.plain (OpenSpec.upto fnExactWriteMasterSpec)) fnExactWriteMasterUptoCard
end Rows
end Go.Proofs.YtgmmaehdpongcaaDoor
