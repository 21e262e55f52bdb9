/-
  DERIVED. GIVEN WITH THE SEED: THE CARDS: each row of YtmfnfheahehpcaaGreatDoorRows.lean that lists a variable, with what it lists TIED to the program's text (the seventh form; the later family's looks); each row that meets fmt, with fmt's text TOLD by the authors' own Lean function (tested against real Go, not proved from fmt's source: count such statements apart). THE CARD IS WHAT COUNTS. Prove the row's statement (the work); the ties are given (YtmfnfheahehpcaaGreatDoorTie.lean); close each card by the builder's one call (the guide's Derived/Test/ToyasCard.lean, 'card_holds'). Laid BY PROGRAM, IN A SANDBOX (cutbox-door.mjs). By AI agents, Wed Nov 11 2026. No macro, syntax, notation, axiom, sorry.
-/
import Derived.Test.YtmfnfheahehpcaaGreatDoorRows
import GoSem.ClaimSeven
namespace Go.Proofs.YtmfnfheahehpcaaGreatDoor
namespace Rows

/-- THE TIED CARD OF 'laws.FnKnownText'. -/
def fnKnownTextCard : Claim7 := { stood := { row := fnKnownTextRow, standIns := [], harness := (true, "f13eeda1c506d2278ba081e6e6a3bce8fdb9dda1d351ad23357c70e81e145d5a"), looks := true }, kinds := [], alts := [], laidByText := true, laidKinds := [.data, .data, .data, .data, .sentinel, .sentinel, .pinned], laidTests := true, laidLooks := .later }
def FnKnownTextCardSaid : Prop := Claim7.holds Tryz.pinned (.plain (OpenSpec.ofChange fnKnownTextSpec)) fnKnownTextCard

/-- THE TIED CARD OF 'laws.FnExactParseKnown'. -/
def fnExactParseKnownCard : Claim7 := { stood := { row := fnExactParseKnownRow, standIns := [], harness := (true, "f13eeda1c506d2278ba081e6e6a3bce8fdb9dda1d351ad23357c70e81e145d5a"), looks := true }, kinds := [], alts := [], laidByText := true, laidKinds := [.data, .data, .data, .data, .sentinel, .sentinel, .pinned], laidTests := true, laidLooks := .later }
def FnExactParseKnownCardSaid : Prop := Claim7.holds Tryz.pinned (.plain (OpenSpec.ofChange fnExactParseKnownSpec)) fnExactParseKnownCard

/-- THE TIED CARD OF 'laws.FnExactParseReader'. -/
def fnExactParseReaderCard : Claim7 := { stood := { row := fnExactParseReaderRow, standIns := [], harness := (true, "f13eeda1c506d2278ba081e6e6a3bce8fdb9dda1d351ad23357c70e81e145d5a"), looks := true }, kinds := [], alts := [], laidByText := true, laidKinds := [.data, .data, .data, .data, .sentinel, .sentinel, .pinned], laidTests := true, laidLooks := .later }
def FnExactParseReaderCardSaid : Prop := Claim7.holds Tryz.pinned (.plain (OpenSpec.ofChange fnExactParseReaderSpec)) fnExactParseReaderCard

/-- THE SECOND FORM's CARD OF 'laws.FnKnownText'. -/
def fnKnownTextUptoCard : Claim7 := { stood := { row := fnKnownTextUptoRow, standIns := [], harness := (true, "f13eeda1c506d2278ba081e6e6a3bce8fdb9dda1d351ad23357c70e81e145d5a"), looks := true }, kinds := [], alts := [], laidByText := true, laidKinds := [.data, .data, .data, .data, .sentinel, .sentinel, .pinned], laidTests := true, laidLooks := .later }
def FnKnownTextUptoCardSaid : Prop := Claim7.holds Tryz.pinned (.plain (OpenSpec.upto fnKnownTextSpec)) fnKnownTextUptoCard

/-- THE SECOND FORM's CARD OF 'laws.FnExactParseKnown'. -/
def fnExactParseKnownUptoCard : Claim7 := { stood := { row := fnExactParseKnownUptoRow, standIns := [], harness := (true, "f13eeda1c506d2278ba081e6e6a3bce8fdb9dda1d351ad23357c70e81e145d5a"), looks := true }, kinds := [], alts := [], laidByText := true, laidKinds := [.data, .data, .data, .data, .sentinel, .sentinel, .pinned], laidTests := true, laidLooks := .later }
def FnExactParseKnownUptoCardSaid : Prop := Claim7.holds Tryz.pinned (.plain (OpenSpec.upto fnExactParseKnownSpec)) fnExactParseKnownUptoCard

/-- THE SECOND FORM's CARD OF 'laws.FnExactParseReader'. -/
def fnExactParseReaderUptoCard : Claim7 := { stood := { row := fnExactParseReaderUptoRow, standIns := [], harness := (true, "f13eeda1c506d2278ba081e6e6a3bce8fdb9dda1d351ad23357c70e81e145d5a"), looks := true }, kinds := [], alts := [], laidByText := true, laidKinds := [.data, .data, .data, .data, .sentinel, .sentinel, .pinned], laidTests := true, laidLooks := .later }
def FnExactParseReaderUptoCardSaid : Prop := Claim7.holds Tryz.pinned (.plain (OpenSpec.upto fnExactParseReaderSpec)) fnExactParseReaderUptoCard
end Rows
end Go.Proofs.YtmfnfheahehpcaaGreatDoor
