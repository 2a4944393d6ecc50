/-
  DERIVED. GIVEN WITH THE SEED: THE CARDS: each row of YtlknpipbjdecpaaDoorRows.lean that lists a variable, with what it lists TIED to the program's text (the seventh form; the later family's looks); each row that meets fmt, with fmt's text TOLD by the authors' own Lean function (tested against real Go, not proved from fmt's source: count such statements apart). THE CARD IS WHAT COUNTS. Prove the row's statement (the work); the ties are given (YtlknpipbjdecpaaDoorTie.lean); close each card by the builder's one call (the guide's Derived/Test/ToyasCard.lean, 'card_holds'). Laid BY PROGRAM, IN A SANDBOX (cutbox-door.mjs). By AI agents, Wed Nov 11 2026. No macro, syntax, notation, axiom, sorry.
-/
import Derived.Test.YtlknpipbjdecpaaDoorRows
import GoSem.ClaimSeven
namespace Go.Proofs.YtlknpipbjdecpaaDoor
namespace Rows

/-- THE TIED CARD OF 'laws.FnExactWriteMaster'. -/
def fnExactWriteMasterCard : Claim7 := { stood := { row := fnExactWriteMasterRow, standIns := [], harness := (true, "6da953c78a288e3ff8980937564e0ef55620fe8f1f8a3197faf907ed9acf984e"), looks := true }, kinds := [], alts := [], laidByText := true, laidKinds := [.data, .data, .data, .data], laidTests := true, laidLooks := .later }
def FnExactWriteMasterCardSaid : Prop := Claim7.holds Tryd.pinned (.plain (OpenSpec.ofChange fnExactWriteMasterSpec)) fnExactWriteMasterCard

/-- THE TIED CARD OF 'laws.FnFieldsQuote'. -/
def fnFieldsQuoteCard : Claim7 := { stood := { row := fnFieldsQuoteRow, standIns := [], harness := (true, "6da953c78a288e3ff8980937564e0ef55620fe8f1f8a3197faf907ed9acf984e"), looks := true }, kinds := [], alts := [], laidByText := true, laidKinds := [.data, .pinned], laidTests := true, laidLooks := .later }
def FnFieldsQuoteCardSaid : Prop := Claim7.holds Tryd.pinned (.plain (OpenSpec.ofChange fnFieldsQuoteSpec)) fnFieldsQuoteCard

/-- THE SECOND FORM's CARD OF 'laws.FnExactWriteMaster'. -/
def fnExactWriteMasterUptoCard : Claim7 := { stood := { row := fnExactWriteMasterUptoRow, standIns := [], harness := (true, "6da953c78a288e3ff8980937564e0ef55620fe8f1f8a3197faf907ed9acf984e"), looks := true }, kinds := [], alts := [], laidByText := true, laidKinds := [.data, .data, .data, .data], laidTests := true, laidLooks := .later }
def FnExactWriteMasterUptoCardSaid : Prop := Claim7.holds Tryd.pinned (.plain (OpenSpec.upto fnExactWriteMasterSpec)) fnExactWriteMasterUptoCard

/-- THE SECOND FORM's CARD OF 'laws.FnFieldsQuote'. -/
def fnFieldsQuoteUptoCard : Claim7 := { stood := { row := fnFieldsQuoteUptoRow, standIns := [], harness := (true, "6da953c78a288e3ff8980937564e0ef55620fe8f1f8a3197faf907ed9acf984e"), looks := true }, kinds := [], alts := [], laidByText := true, laidKinds := [.data, .pinned], laidTests := true, laidLooks := .later }
def FnFieldsQuoteUptoCardSaid : Prop := Claim7.holds Tryd.pinned (.plain (OpenSpec.upto fnFieldsQuoteSpec)) fnFieldsQuoteUptoCard
end Rows
end Go.Proofs.YtlknpipbjdecpaaDoor
