/-
  DERIVED. GIVEN WITH THE SEED: THE CARDS: each row of YtfjealhigckegaaDoorRows.lean that lists a variable, with what it lists TIED to the program's text (the seventh form; the later family's looks); each row that meets fmt, with fmt's text TOLD by the authors' own Lean function (tested against real Go, not proved from fmt's source: count such statements apart). THE CARD IS WHAT COUNTS. Prove the row's statement (the work); the ties are given (YtfjealhigckegaaDoorTie.lean); close each card by the builder's one call (the guide's Derived/Test/ToyasCard.lean, 'card_holds'). Laid BY PROGRAM, IN A SANDBOX (cutbox-door.mjs). By AI agents, Wed Nov 11 2026. No macro, syntax, notation, axiom, sorry.
-/
import Derived.Test.YtfjealhigckegaaDoorRows
import GoSem.ClaimSeven
namespace Go.Proofs.YtfjealhigckegaaDoor
namespace Rows

/-- THE TIED CARD OF 'laws.FnExactFormatKnown'. -/
def fnExactFormatKnownCard : Claim7 := { stood := { row := fnExactFormatKnownRow, standIns := [], harness := (true, "6a6de1a4bc3e37ed3be78ff0224dd0ef2122bf7d4a57a9ec162aae2e586565e5"), looks := false }, kinds := [], alts := [], laidByText := true, laidKinds := [.data, .data, .data], laidTests := true, laidLooks := .later }
def FnExactFormatKnownCardSaid : Prop := Claim7.holds Tryd.pinned (.plain (OpenSpec.ofChange fnExactFormatKnownSpec)) fnExactFormatKnownCard

/-- THE TIED CARD OF 'laws.FnExactFormatReader'. -/
def fnExactFormatReaderCard : Claim7 := { stood := { row := fnExactFormatReaderRow, standIns := [], harness := (true, "6a6de1a4bc3e37ed3be78ff0224dd0ef2122bf7d4a57a9ec162aae2e586565e5"), looks := false }, kinds := [], alts := [], laidByText := true, laidKinds := [.data, .data, .data], laidTests := true, laidLooks := .later }
def FnExactFormatReaderCardSaid : Prop := Claim7.holds Tryd.pinned (.plain (OpenSpec.ofChange fnExactFormatReaderSpec)) fnExactFormatReaderCard

/-- THE SECOND FORM's CARD OF 'laws.FnExactFormatKnown'. -/
def fnExactFormatKnownUptoCard : Claim7 := { stood := { row := fnExactFormatKnownUptoRow, standIns := [], harness := (true, "6a6de1a4bc3e37ed3be78ff0224dd0ef2122bf7d4a57a9ec162aae2e586565e5"), looks := false }, kinds := [], alts := [], laidByText := true, laidKinds := [.data, .data, .data], laidTests := true, laidLooks := .later }
def FnExactFormatKnownUptoCardSaid : Prop := Claim7.holds Tryd.pinned (.plain (OpenSpec.upto fnExactFormatKnownSpec)) fnExactFormatKnownUptoCard

/-- THE SECOND FORM's CARD OF 'laws.FnExactFormatReader'. -/
def fnExactFormatReaderUptoCard : Claim7 := { stood := { row := fnExactFormatReaderUptoRow, standIns := [], harness := (true, "6a6de1a4bc3e37ed3be78ff0224dd0ef2122bf7d4a57a9ec162aae2e586565e5"), looks := false }, kinds := [], alts := [], laidByText := true, laidKinds := [.data, .data, .data], laidTests := true, laidLooks := .later }
def FnExactFormatReaderUptoCardSaid : Prop := Claim7.holds Tryd.pinned (.plain (OpenSpec.upto fnExactFormatReaderSpec)) fnExactFormatReaderUptoCard
end Rows
end Go.Proofs.YtfjealhigckegaaDoor
