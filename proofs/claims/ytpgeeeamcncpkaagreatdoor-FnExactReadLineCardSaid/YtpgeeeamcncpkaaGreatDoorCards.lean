/-
  DERIVED. GIVEN WITH THE SEED: THE CARDS: each row of YtpgeeeamcncpkaaGreatDoorRows.lean that lists a variable, with what it lists TIED to the program's text (the seventh form; the later family's looks); each row that meets fmt, with fmt's text TOLD by the authors' own Lean function (tested against real Go, not proved from fmt's source: count such statements apart). THE CARD IS WHAT COUNTS. Prove the row's statement (the work); the ties are given (YtpgeeeamcncpkaaGreatDoorTie.lean); close each card by the builder's one call (the guide's Derived/Test/ToyasCard.lean, 'card_holds'). Laid BY PROGRAM, IN A SANDBOX (cutbox-door.mjs). By AI agents, Wed Nov 11 2026. No macro, syntax, notation, axiom, sorry.
-/
import Derived.Test.YtpgeeeamcncpkaaGreatDoorRows
import GoSem.ClaimSeven
namespace Go.Proofs.YtpgeeeamcncpkaaGreatDoor
namespace Rows

/-- THE TIED CARD OF 'laws.FnReadData'. -/
def fnReadDataCard : Claim7 := { stood := { row := fnReadDataRow, standIns := [], harness := (true, "6cf49d429d421785e3aba5c95da42b30304efedd1d67bfc3a44f2b1578782e2a"), looks := true }, kinds := [], alts := [], laidByText := true, laidKinds := [.data, .data, .data, .data, .data, .pinned], laidTests := true, laidLooks := .later }
def FnReadDataCardSaid : Prop := Claim7.holds Tryz.pinned (.plain (OpenSpec.ofChange fnReadDataSpec)) fnReadDataCard

/-- THE TIED CARD OF 'laws.FnExactReadLine'. -/
def fnExactReadLineCard : Claim7 := { stood := { row := fnExactReadLineRow, standIns := [], harness := (true, "6cf49d429d421785e3aba5c95da42b30304efedd1d67bfc3a44f2b1578782e2a"), looks := true }, kinds := [], alts := [], laidByText := true, laidKinds := [.data, .data, .pinned], laidTests := true, laidLooks := .later }
def FnExactReadLineCardSaid : Prop := Claim7.holds Tryz.pinned (.plain (OpenSpec.ofChange fnExactReadLineSpec)) fnExactReadLineCard

/-- THE TIED CARD OF 'laws.FnLineClass'. -/
def fnLineClassCard : Claim7 := { stood := { row := fnLineClassRow, standIns := [], harness := (true, "6cf49d429d421785e3aba5c95da42b30304efedd1d67bfc3a44f2b1578782e2a"), looks := true }, kinds := [], alts := [], laidByText := true, laidKinds := [.data, .data, .data, .data, .data, .pinned], laidTests := true, laidLooks := .later }
def FnLineClassCardSaid : Prop := Claim7.holds Tryz.pinned (.plain (OpenSpec.ofChange fnLineClassSpec)) fnLineClassCard

/-- THE TIED CARD OF 'laws.FnDollarLine'. -/
def fnDollarLineCard : Claim7 := { stood := { row := fnDollarLineRow, standIns := [], harness := (true, "6cf49d429d421785e3aba5c95da42b30304efedd1d67bfc3a44f2b1578782e2a"), looks := true }, kinds := [], alts := [], laidByText := true, laidKinds := [.data, .data, .pinned], laidTests := true, laidLooks := .later }
def FnDollarLineCardSaid : Prop := Claim7.holds Tryz.pinned (.plain (OpenSpec.ofChange fnDollarLineSpec)) fnDollarLineCard

/-- THE TIED CARD OF 'laws.FnWriteMaster'. -/
def fnWriteMasterCard : Claim7 := { stood := { row := fnWriteMasterRow, standIns := [], harness := (true, "6cf49d429d421785e3aba5c95da42b30304efedd1d67bfc3a44f2b1578782e2a"), looks := true }, kinds := [], alts := [], laidByText := true, laidKinds := [.data, .data, .data, .data, .handle, .data, .pinned], laidTests := true, laidLooks := .later }
def FnWriteMasterCardSaid : Prop := Claim7.holds Tryz.pinned (.plain (OpenSpec.ofChange fnWriteMasterSpec)) fnWriteMasterCard

/-- THE TIED CARD OF 'laws.FnReadMaster'. -/
def fnReadMasterCard : Claim7 := { stood := { row := fnReadMasterRow, standIns := [], harness := (true, "6cf49d429d421785e3aba5c95da42b30304efedd1d67bfc3a44f2b1578782e2a"), looks := true }, kinds := [], alts := [], laidByText := true, laidKinds := [.data, .data, .data, .data, .handle, .data, .pinned], laidTests := true, laidLooks := .later }
def FnReadMasterCardSaid : Prop := Claim7.holds Tryz.pinned (.plain (OpenSpec.ofChange fnReadMasterSpec)) fnReadMasterCard

/-- THE TIED CARD OF 'laws.FnReadLines'. -/
def fnReadLinesCard : Claim7 := { stood := { row := fnReadLinesRow, standIns := [], harness := (true, "6cf49d429d421785e3aba5c95da42b30304efedd1d67bfc3a44f2b1578782e2a"), looks := true }, kinds := [], alts := [], laidByText := true, laidKinds := [.data, .handle, .data, .pinned], laidTests := true, laidLooks := .later }
def FnReadLinesCardSaid : Prop := Claim7.holds Tryz.pinned (.plain (OpenSpec.ofChange fnReadLinesSpec)) fnReadLinesCard

/-- THE TIED CARD OF 'laws.FnMasterEmpty'. -/
def fnMasterEmptyCard : Claim7 := { stood := { row := fnMasterEmptyRow, standIns := [], harness := (true, "6cf49d429d421785e3aba5c95da42b30304efedd1d67bfc3a44f2b1578782e2a"), looks := true }, kinds := [], alts := [], laidByText := true, laidKinds := [.data, .handle, .data, .pinned], laidTests := true, laidLooks := .later }
def FnMasterEmptyCardSaid : Prop := Claim7.holds Tryz.pinned (.plain (OpenSpec.ofChange fnMasterEmptySpec)) fnMasterEmptyCard

/-- THE TIED CARD OF 'laws.FnMasterParts'. -/
def fnMasterPartsCard : Claim7 := { stood := { row := fnMasterPartsRow, standIns := [], harness := (true, "6cf49d429d421785e3aba5c95da42b30304efedd1d67bfc3a44f2b1578782e2a"), looks := true }, kinds := [], alts := [], laidByText := true, laidKinds := [.data, .data, .data, .data, .handle, .data, .pinned], laidTests := true, laidLooks := .later }
def FnMasterPartsCardSaid : Prop := Claim7.holds Tryz.pinned (.plain (OpenSpec.ofChange fnMasterPartsSpec)) fnMasterPartsCard

/-- THE TIED CARD OF 'laws.FnWriteOrigin'. -/
def fnWriteOriginCard : Claim7 := { stood := { row := fnWriteOriginRow, standIns := [], harness := (true, "6cf49d429d421785e3aba5c95da42b30304efedd1d67bfc3a44f2b1578782e2a"), looks := true }, kinds := [], alts := [], laidByText := true, laidKinds := [.data, .data, .data, .data, .handle, .data, .pinned], laidTests := true, laidLooks := .later }
def FnWriteOriginCardSaid : Prop := Claim7.holds Tryz.pinned (.plain (OpenSpec.ofChange fnWriteOriginSpec)) fnWriteOriginCard

/-- THE TIED CARD OF 'laws.FnExactReadMaster'. -/
def fnExactReadMasterCard : Claim7 := { stood := { row := fnExactReadMasterRow, standIns := [], harness := (true, "6cf49d429d421785e3aba5c95da42b30304efedd1d67bfc3a44f2b1578782e2a"), looks := true }, kinds := [], alts := [], laidByText := true, laidKinds := [.data, .handle, .data, .pinned], laidTests := true, laidLooks := .later }
def FnExactReadMasterCardSaid : Prop := Claim7.holds Tryz.pinned (.plain (OpenSpec.ofChange fnExactReadMasterSpec)) fnExactReadMasterCard

/-- THE SECOND FORM's CARD OF 'laws.FnReadData'. -/
def fnReadDataUptoCard : Claim7 := { stood := { row := fnReadDataUptoRow, standIns := [], harness := (true, "6cf49d429d421785e3aba5c95da42b30304efedd1d67bfc3a44f2b1578782e2a"), looks := true }, kinds := [], alts := [], laidByText := true, laidKinds := [.data, .data, .data, .data, .data, .pinned], laidTests := true, laidLooks := .later }
def FnReadDataUptoCardSaid : Prop := Claim7.holds Tryz.pinned (.plain (OpenSpec.upto fnReadDataSpec)) fnReadDataUptoCard

/-- THE SECOND FORM's CARD OF 'laws.FnExactReadLine'. -/
def fnExactReadLineUptoCard : Claim7 := { stood := { row := fnExactReadLineUptoRow, standIns := [], harness := (true, "6cf49d429d421785e3aba5c95da42b30304efedd1d67bfc3a44f2b1578782e2a"), looks := true }, kinds := [], alts := [], laidByText := true, laidKinds := [.data, .data, .pinned], laidTests := true, laidLooks := .later }
def FnExactReadLineUptoCardSaid : Prop := Claim7.holds Tryz.pinned (.plain (OpenSpec.upto fnExactReadLineSpec)) fnExactReadLineUptoCard

/-- THE SECOND FORM's CARD OF 'laws.FnLineClass'. -/
def fnLineClassUptoCard : Claim7 := { stood := { row := fnLineClassUptoRow, standIns := [], harness := (true, "6cf49d429d421785e3aba5c95da42b30304efedd1d67bfc3a44f2b1578782e2a"), looks := true }, kinds := [], alts := [], laidByText := true, laidKinds := [.data, .data, .data, .data, .data, .pinned], laidTests := true, laidLooks := .later }
def FnLineClassUptoCardSaid : Prop := Claim7.holds Tryz.pinned (.plain (OpenSpec.upto fnLineClassSpec)) fnLineClassUptoCard

/-- THE SECOND FORM's CARD OF 'laws.FnDollarLine'. -/
def fnDollarLineUptoCard : Claim7 := { stood := { row := fnDollarLineUptoRow, standIns := [], harness := (true, "6cf49d429d421785e3aba5c95da42b30304efedd1d67bfc3a44f2b1578782e2a"), looks := true }, kinds := [], alts := [], laidByText := true, laidKinds := [.data, .data, .pinned], laidTests := true, laidLooks := .later }
def FnDollarLineUptoCardSaid : Prop := Claim7.holds Tryz.pinned (.plain (OpenSpec.upto fnDollarLineSpec)) fnDollarLineUptoCard

/-- THE SECOND FORM's CARD OF 'laws.FnWriteMaster'. -/
def fnWriteMasterUptoCard : Claim7 := { stood := { row := fnWriteMasterUptoRow, standIns := [], harness := (true, "6cf49d429d421785e3aba5c95da42b30304efedd1d67bfc3a44f2b1578782e2a"), looks := true }, kinds := [], alts := [], laidByText := true, laidKinds := [.data, .data, .data, .data, .handle, .data, .pinned], laidTests := true, laidLooks := .later }
def FnWriteMasterUptoCardSaid : Prop := Claim7.holds Tryz.pinned (.plain (OpenSpec.upto fnWriteMasterSpec)) fnWriteMasterUptoCard

/-- THE SECOND FORM's CARD OF 'laws.FnReadMaster'. -/
def fnReadMasterUptoCard : Claim7 := { stood := { row := fnReadMasterUptoRow, standIns := [], harness := (true, "6cf49d429d421785e3aba5c95da42b30304efedd1d67bfc3a44f2b1578782e2a"), looks := true }, kinds := [], alts := [], laidByText := true, laidKinds := [.data, .data, .data, .data, .handle, .data, .pinned], laidTests := true, laidLooks := .later }
def FnReadMasterUptoCardSaid : Prop := Claim7.holds Tryz.pinned (.plain (OpenSpec.upto fnReadMasterSpec)) fnReadMasterUptoCard

/-- THE SECOND FORM's CARD OF 'laws.FnReadLines'. -/
def fnReadLinesUptoCard : Claim7 := { stood := { row := fnReadLinesUptoRow, standIns := [], harness := (true, "6cf49d429d421785e3aba5c95da42b30304efedd1d67bfc3a44f2b1578782e2a"), looks := true }, kinds := [], alts := [], laidByText := true, laidKinds := [.data, .handle, .data, .pinned], laidTests := true, laidLooks := .later }
def FnReadLinesUptoCardSaid : Prop := Claim7.holds Tryz.pinned (.plain (OpenSpec.upto fnReadLinesSpec)) fnReadLinesUptoCard

/-- THE SECOND FORM's CARD OF 'laws.FnMasterEmpty'. -/
def fnMasterEmptyUptoCard : Claim7 := { stood := { row := fnMasterEmptyUptoRow, standIns := [], harness := (true, "6cf49d429d421785e3aba5c95da42b30304efedd1d67bfc3a44f2b1578782e2a"), looks := true }, kinds := [], alts := [], laidByText := true, laidKinds := [.data, .handle, .data, .pinned], laidTests := true, laidLooks := .later }
def FnMasterEmptyUptoCardSaid : Prop := Claim7.holds Tryz.pinned (.plain (OpenSpec.upto fnMasterEmptySpec)) fnMasterEmptyUptoCard

/-- THE SECOND FORM's CARD OF 'laws.FnMasterParts'. -/
def fnMasterPartsUptoCard : Claim7 := { stood := { row := fnMasterPartsUptoRow, standIns := [], harness := (true, "6cf49d429d421785e3aba5c95da42b30304efedd1d67bfc3a44f2b1578782e2a"), looks := true }, kinds := [], alts := [], laidByText := true, laidKinds := [.data, .data, .data, .data, .handle, .data, .pinned], laidTests := true, laidLooks := .later }
def FnMasterPartsUptoCardSaid : Prop := Claim7.holds Tryz.pinned (.plain (OpenSpec.upto fnMasterPartsSpec)) fnMasterPartsUptoCard

/-- THE SECOND FORM's CARD OF 'laws.FnWriteOrigin'. -/
def fnWriteOriginUptoCard : Claim7 := { stood := { row := fnWriteOriginUptoRow, standIns := [], harness := (true, "6cf49d429d421785e3aba5c95da42b30304efedd1d67bfc3a44f2b1578782e2a"), looks := true }, kinds := [], alts := [], laidByText := true, laidKinds := [.data, .data, .data, .data, .handle, .data, .pinned], laidTests := true, laidLooks := .later }
def FnWriteOriginUptoCardSaid : Prop := Claim7.holds Tryz.pinned (.plain (OpenSpec.upto fnWriteOriginSpec)) fnWriteOriginUptoCard

/-- THE SECOND FORM's CARD OF 'laws.FnExactReadMaster'. -/
def fnExactReadMasterUptoCard : Claim7 := { stood := { row := fnExactReadMasterUptoRow, standIns := [], harness := (true, "6cf49d429d421785e3aba5c95da42b30304efedd1d67bfc3a44f2b1578782e2a"), looks := true }, kinds := [], alts := [], laidByText := true, laidKinds := [.data, .handle, .data, .pinned], laidTests := true, laidLooks := .later }
def FnExactReadMasterUptoCardSaid : Prop := Claim7.holds Tryz.pinned (.plain (OpenSpec.upto fnExactReadMasterSpec)) fnExactReadMasterUptoCard
end Rows
end Go.Proofs.YtpgeeeamcncpkaaGreatDoor
