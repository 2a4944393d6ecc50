/-
  DERIVED. GIVEN WITH THE SEED: THE CARDS: each row of YtdaekcpjkfencaaDoorRows.lean that lists a variable, with what it lists TIED to the program's text (the seventh form; the later family's looks); each row that meets fmt, with fmt's text TOLD by the authors' own Lean function (tested against real Go, not proved from fmt's source: count such statements apart). THE CARD IS WHAT COUNTS. Prove the row's statement (the work); the ties are given (YtdaekcpjkfencaaDoorTie.lean); close each card by the builder's one call (the guide's Derived/Test/ToyasCard.lean, 'card_holds'). Laid BY PROGRAM, IN A SANDBOX (cutbox-door.mjs). By AI agents, Wed Nov 11 2026. No macro, syntax, notation, axiom, sorry.
-/
import Derived.Test.YtdaekcpjkfencaaDoorRows
import GoSem.ClaimSeven
namespace Go.Proofs.YtdaekcpjkfencaaDoor
namespace Rows

/-- THE TIED CARD OF 'laws.FnKindName'. -/
def fnKindNameCard : Claim7 := { stood := { row := fnKindNameRow, standIns := [], harness := (true, "6efbfde653c6c64d50aef1e36ef589175806e09bcd9806039276fd53c994e60c"), looks := true }, kinds := [], alts := [], laidByText := true, laidKinds := [.data], laidTests := true, laidLooks := .later }
def FnKindNameCardSaid : Prop := Claim7.holds Tryd.pinned (.plain (OpenSpec.ofChange fnKindNameSpec)) fnKindNameCard

/-- THE TIED CARD OF 'laws.FnRecordTtl'. -/
def fnRecordTtlCard : Claim7 := { stood := { row := fnRecordTtlRow, standIns := [], harness := (true, "6efbfde653c6c64d50aef1e36ef589175806e09bcd9806039276fd53c994e60c"), looks := true }, kinds := [], alts := [], laidByText := true, laidKinds := [.data, .data, .data, .data], laidTests := true, laidLooks := .later }
def FnRecordTtlCardSaid : Prop := Claim7.holds Tryd.pinned (.plain (OpenSpec.ofChange fnRecordTtlSpec)) fnRecordTtlCard

/-- THE TIED CARD OF 'laws.FnParsePrefix'. -/
def fnParsePrefixCard : Claim7 := { stood := { row := fnParsePrefixRow, standIns := [], harness := (true, "6efbfde653c6c64d50aef1e36ef589175806e09bcd9806039276fd53c994e60c"), looks := true }, kinds := [], alts := [], laidByText := true, laidKinds := [.data, .data, .pinned], laidTests := true, laidLooks := .later }
def FnParsePrefixCardSaid : Prop := Claim7.holds Tryd.pinned (.plain (OpenSpec.ofChange fnParsePrefixSpec)) fnParsePrefixCard

/-- THE TIED CARD OF 'laws.FnKindCase'. -/
def fnKindCaseCard : Claim7 := { stood := { row := fnKindCaseRow, standIns := [], harness := (true, "6efbfde653c6c64d50aef1e36ef589175806e09bcd9806039276fd53c994e60c"), looks := true }, kinds := [], alts := [], laidByText := true, laidKinds := [.data], laidTests := true, laidLooks := .later }
def FnKindCaseCardSaid : Prop := Claim7.holds Tryd.pinned (.plain (OpenSpec.ofChange fnKindCaseSpec)) fnKindCaseCard

/-- THE SECOND FORM's CARD OF 'laws.FnKindName'. -/
def fnKindNameUptoCard : Claim7 := { stood := { row := fnKindNameUptoRow, standIns := [], harness := (true, "6efbfde653c6c64d50aef1e36ef589175806e09bcd9806039276fd53c994e60c"), looks := true }, kinds := [], alts := [], laidByText := true, laidKinds := [.data], laidTests := true, laidLooks := .later }
def FnKindNameUptoCardSaid : Prop := Claim7.holds Tryd.pinned (.plain (OpenSpec.upto fnKindNameSpec)) fnKindNameUptoCard

/-- THE SECOND FORM's CARD OF 'laws.FnRecordTtl'. -/
def fnRecordTtlUptoCard : Claim7 := { stood := { row := fnRecordTtlUptoRow, standIns := [], harness := (true, "6efbfde653c6c64d50aef1e36ef589175806e09bcd9806039276fd53c994e60c"), looks := true }, kinds := [], alts := [], laidByText := true, laidKinds := [.data, .data, .data, .data], laidTests := true, laidLooks := .later }
def FnRecordTtlUptoCardSaid : Prop := Claim7.holds Tryd.pinned (.plain (OpenSpec.upto fnRecordTtlSpec)) fnRecordTtlUptoCard

/-- THE SECOND FORM's CARD OF 'laws.FnParsePrefix'. -/
def fnParsePrefixUptoCard : Claim7 := { stood := { row := fnParsePrefixUptoRow, standIns := [], harness := (true, "6efbfde653c6c64d50aef1e36ef589175806e09bcd9806039276fd53c994e60c"), looks := true }, kinds := [], alts := [], laidByText := true, laidKinds := [.data, .data, .pinned], laidTests := true, laidLooks := .later }
def FnParsePrefixUptoCardSaid : Prop := Claim7.holds Tryd.pinned (.plain (OpenSpec.upto fnParsePrefixSpec)) fnParsePrefixUptoCard

/-- THE SECOND FORM's CARD OF 'laws.FnKindCase'. -/
def fnKindCaseUptoCard : Claim7 := { stood := { row := fnKindCaseUptoRow, standIns := [], harness := (true, "6efbfde653c6c64d50aef1e36ef589175806e09bcd9806039276fd53c994e60c"), looks := true }, kinds := [], alts := [], laidByText := true, laidKinds := [.data], laidTests := true, laidLooks := .later }
def FnKindCaseUptoCardSaid : Prop := Claim7.holds Tryd.pinned (.plain (OpenSpec.upto fnKindCaseSpec)) fnKindCaseUptoCard
end Rows
end Go.Proofs.YtdaekcpjkfencaaDoor
