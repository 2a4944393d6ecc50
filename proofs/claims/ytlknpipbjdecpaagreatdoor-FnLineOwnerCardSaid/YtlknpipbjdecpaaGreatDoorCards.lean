/-
  DERIVED. GIVEN WITH THE SEED: THE CARDS: each row of YtlknpipbjdecpaaGreatDoorRows.lean that lists a variable, with what it lists TIED to the program's text (the seventh form; the later family's looks); each row that meets fmt, with fmt's text TOLD by the authors' own Lean function (tested against real Go, not proved from fmt's source: count such statements apart). THE CARD IS WHAT COUNTS. Prove the row's statement (the work); the ties are given (YtlknpipbjdecpaaGreatDoorTie.lean); close each card by the builder's one call (the guide's Derived/Test/ToyasCard.lean, 'card_holds'). Laid BY PROGRAM, IN A SANDBOX (cutbox-door.mjs). By AI agents, Wed Nov 11 2026. No macro, syntax, notation, axiom, sorry.
-/
import Derived.Test.YtlknpipbjdecpaaGreatDoorRows
import GoSem.ClaimSeven
namespace Go.Proofs.YtlknpipbjdecpaaGreatDoor
namespace Rows

/-- THE TIED CARD OF 'laws.FnRecordText'. -/
def fnRecordTextCard : Claim7 := { stood := { row := fnRecordTextRow, standIns := [], harness := (true, "0d21dc787af3e05ac654a6e5a4dee672a1b5db9686d7007c513d93a9f07c4000"), looks := true }, kinds := [], alts := [], laidByText := true, laidKinds := [.data, .data, .data, .data, .data, .pinned], laidTests := true, laidLooks := .later }
def FnRecordTextCardSaid : Prop := Claim7.holds Tryz.pinned (.plain (OpenSpec.ofChange fnRecordTextSpec)) fnRecordTextCard

/-- THE TIED CARD OF 'laws.FnReadData'. -/
def fnReadDataCard : Claim7 := { stood := { row := fnReadDataRow, standIns := [], harness := (true, "0d21dc787af3e05ac654a6e5a4dee672a1b5db9686d7007c513d93a9f07c4000"), looks := true }, kinds := [], alts := [], laidByText := true, laidKinds := [.data, .data, .data, .data, .data, .pinned], laidTests := true, laidLooks := .later }
def FnReadDataCardSaid : Prop := Claim7.holds Tryz.pinned (.plain (OpenSpec.ofChange fnReadDataSpec)) fnReadDataCard

/-- THE TIED CARD OF 'laws.FnExactReadLine'. -/
def fnExactReadLineCard : Claim7 := { stood := { row := fnExactReadLineRow, standIns := [], harness := (true, "0d21dc787af3e05ac654a6e5a4dee672a1b5db9686d7007c513d93a9f07c4000"), looks := true }, kinds := [], alts := [], laidByText := true, laidKinds := [.data, .data, .pinned], laidTests := true, laidLooks := .later }
def FnExactReadLineCardSaid : Prop := Claim7.holds Tryz.pinned (.plain (OpenSpec.ofChange fnExactReadLineSpec)) fnExactReadLineCard

/-- THE TIED CARD OF 'laws.FnWriteLine'. -/
def fnWriteLineCard : Claim7 := { stood := { row := fnWriteLineRow, standIns := [], harness := (true, "0d21dc787af3e05ac654a6e5a4dee672a1b5db9686d7007c513d93a9f07c4000"), looks := true }, kinds := [], alts := [], laidByText := true, laidKinds := [.data, .data, .data, .data, .data, .pinned], laidTests := true, laidLooks := .later }
def FnWriteLineCardSaid : Prop := Claim7.holds Tryz.pinned (.plain (OpenSpec.ofChange fnWriteLineSpec)) fnWriteLineCard

/-- THE TIED CARD OF 'laws.FnLineOwner'. -/
def fnLineOwnerCard : Claim7 := { stood := { row := fnLineOwnerRow, standIns := [], harness := (true, "0d21dc787af3e05ac654a6e5a4dee672a1b5db9686d7007c513d93a9f07c4000"), looks := true }, kinds := [], alts := [], laidByText := true, laidKinds := [.data, .data, .data, .data, .data, .pinned], laidTests := true, laidLooks := .later }
def FnLineOwnerCardSaid : Prop := Claim7.holds Tryz.pinned (.plain (OpenSpec.ofChange fnLineOwnerSpec)) fnLineOwnerCard

/-- THE SECOND FORM's CARD OF 'laws.FnRecordText'. -/
def fnRecordTextUptoCard : Claim7 := { stood := { row := fnRecordTextUptoRow, standIns := [], harness := (true, "0d21dc787af3e05ac654a6e5a4dee672a1b5db9686d7007c513d93a9f07c4000"), looks := true }, kinds := [], alts := [], laidByText := true, laidKinds := [.data, .data, .data, .data, .data, .pinned], laidTests := true, laidLooks := .later }
def FnRecordTextUptoCardSaid : Prop := Claim7.holds Tryz.pinned (.plain (OpenSpec.upto fnRecordTextSpec)) fnRecordTextUptoCard

/-- THE SECOND FORM's CARD OF 'laws.FnReadData'. -/
def fnReadDataUptoCard : Claim7 := { stood := { row := fnReadDataUptoRow, standIns := [], harness := (true, "0d21dc787af3e05ac654a6e5a4dee672a1b5db9686d7007c513d93a9f07c4000"), looks := true }, kinds := [], alts := [], laidByText := true, laidKinds := [.data, .data, .data, .data, .data, .pinned], laidTests := true, laidLooks := .later }
def FnReadDataUptoCardSaid : Prop := Claim7.holds Tryz.pinned (.plain (OpenSpec.upto fnReadDataSpec)) fnReadDataUptoCard

/-- THE SECOND FORM's CARD OF 'laws.FnExactReadLine'. -/
def fnExactReadLineUptoCard : Claim7 := { stood := { row := fnExactReadLineUptoRow, standIns := [], harness := (true, "0d21dc787af3e05ac654a6e5a4dee672a1b5db9686d7007c513d93a9f07c4000"), looks := true }, kinds := [], alts := [], laidByText := true, laidKinds := [.data, .data, .pinned], laidTests := true, laidLooks := .later }
def FnExactReadLineUptoCardSaid : Prop := Claim7.holds Tryz.pinned (.plain (OpenSpec.upto fnExactReadLineSpec)) fnExactReadLineUptoCard

/-- THE SECOND FORM's CARD OF 'laws.FnWriteLine'. -/
def fnWriteLineUptoCard : Claim7 := { stood := { row := fnWriteLineUptoRow, standIns := [], harness := (true, "0d21dc787af3e05ac654a6e5a4dee672a1b5db9686d7007c513d93a9f07c4000"), looks := true }, kinds := [], alts := [], laidByText := true, laidKinds := [.data, .data, .data, .data, .data, .pinned], laidTests := true, laidLooks := .later }
def FnWriteLineUptoCardSaid : Prop := Claim7.holds Tryz.pinned (.plain (OpenSpec.upto fnWriteLineSpec)) fnWriteLineUptoCard

/-- THE SECOND FORM's CARD OF 'laws.FnLineOwner'. -/
def fnLineOwnerUptoCard : Claim7 := { stood := { row := fnLineOwnerUptoRow, standIns := [], harness := (true, "0d21dc787af3e05ac654a6e5a4dee672a1b5db9686d7007c513d93a9f07c4000"), looks := true }, kinds := [], alts := [], laidByText := true, laidKinds := [.data, .data, .data, .data, .data, .pinned], laidTests := true, laidLooks := .later }
def FnLineOwnerUptoCardSaid : Prop := Claim7.holds Tryz.pinned (.plain (OpenSpec.upto fnLineOwnerSpec)) fnLineOwnerUptoCard
end Rows
end Go.Proofs.YtlknpipbjdecpaaGreatDoor
