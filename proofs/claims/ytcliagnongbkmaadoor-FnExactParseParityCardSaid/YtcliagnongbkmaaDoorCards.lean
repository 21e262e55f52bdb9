/-
  DERIVED. GIVEN WITH THE SEED: THE CARDS: each row of YtcliagnongbkmaaDoorRows.lean that lists a variable, with what it lists TIED to the program's text (the seventh form; the later family's looks); each row that meets fmt, with fmt's text TOLD by the authors' own Lean function (tested against real Go, not proved from fmt's source: count such statements apart). THE CARD IS WHAT COUNTS. Prove the row's statement (the work); the ties are given (YtcliagnongbkmaaDoorTie.lean); close each card by the builder's one call (the guide's Derived/Test/ToyasCard.lean, 'card_holds'). Laid BY PROGRAM, IN A SANDBOX (cutbox-door.mjs). By AI agents, Wed Nov 11 2026. No macro, syntax, notation, axiom, sorry.
-/
import Derived.Test.YtcliagnongbkmaaDoorRows
import GoSem.ClaimSeven
namespace Go.Proofs.YtcliagnongbkmaaDoor
namespace Rows

/-- THE TIED CARD OF 'laws.FnExactParsePatch'. -/
def fnExactParsePatchCard : Claim7 := { stood := { row := fnExactParsePatchRow, standIns := [], harness := (true, "d2363a016ae52f22577d5807dc829195a5bb9071d9a7a37ed9b978a0b9431d03"), looks := true }, kinds := [], alts := [], laidByText := true, laidKinds := [.data, .data, .data, .data, .sentinel, .sentinel, .pinned], laidTests := true, laidLooks := .later }
def FnExactParsePatchCardSaid : Prop := Claim7.holds Tryd.pinned (.plain (OpenSpec.ofChange fnExactParsePatchSpec)) fnExactParsePatchCard

/-- THE TIED CARD OF 'laws.FnExactParseIndex'. -/
def fnExactParseIndexCard : Claim7 := { stood := { row := fnExactParseIndexRow, standIns := [], harness := (true, "d2363a016ae52f22577d5807dc829195a5bb9071d9a7a37ed9b978a0b9431d03"), looks := true }, kinds := [], alts := [], laidByText := true, laidKinds := [.data, .data, .data, .data, .sentinel, .sentinel, .pinned], laidTests := true, laidLooks := .later }
def FnExactParseIndexCardSaid : Prop := Claim7.holds Tryd.pinned (.plain (OpenSpec.ofChange fnExactParseIndexSpec)) fnExactParseIndexCard

/-- THE TIED CARD OF 'laws.FnExactParseParity'. -/
def fnExactParseParityCard : Claim7 := { stood := { row := fnExactParseParityRow, standIns := [], harness := (true, "d2363a016ae52f22577d5807dc829195a5bb9071d9a7a37ed9b978a0b9431d03"), looks := true }, kinds := [], alts := [], laidByText := true, laidKinds := [.data, .pinned], laidTests := true, laidLooks := .later }
def FnExactParseParityCardSaid : Prop := Claim7.holds Tryd.pinned (.plain (OpenSpec.ofChange fnExactParseParitySpec)) fnExactParseParityCard

/-- THE SECOND FORM's CARD OF 'laws.FnExactParsePatch'. -/
def fnExactParsePatchUptoCard : Claim7 := { stood := { row := fnExactParsePatchUptoRow, standIns := [], harness := (true, "d2363a016ae52f22577d5807dc829195a5bb9071d9a7a37ed9b978a0b9431d03"), looks := true }, kinds := [], alts := [], laidByText := true, laidKinds := [.data, .data, .data, .data, .sentinel, .sentinel, .pinned], laidTests := true, laidLooks := .later }
def FnExactParsePatchUptoCardSaid : Prop := Claim7.holds Tryd.pinned (.plain (OpenSpec.upto fnExactParsePatchSpec)) fnExactParsePatchUptoCard

/-- THE SECOND FORM's CARD OF 'laws.FnExactParseIndex'. -/
def fnExactParseIndexUptoCard : Claim7 := { stood := { row := fnExactParseIndexUptoRow, standIns := [], harness := (true, "d2363a016ae52f22577d5807dc829195a5bb9071d9a7a37ed9b978a0b9431d03"), looks := true }, kinds := [], alts := [], laidByText := true, laidKinds := [.data, .data, .data, .data, .sentinel, .sentinel, .pinned], laidTests := true, laidLooks := .later }
def FnExactParseIndexUptoCardSaid : Prop := Claim7.holds Tryd.pinned (.plain (OpenSpec.upto fnExactParseIndexSpec)) fnExactParseIndexUptoCard

/-- THE SECOND FORM's CARD OF 'laws.FnExactParseParity'. -/
def fnExactParseParityUptoCard : Claim7 := { stood := { row := fnExactParseParityUptoRow, standIns := [], harness := (true, "d2363a016ae52f22577d5807dc829195a5bb9071d9a7a37ed9b978a0b9431d03"), looks := true }, kinds := [], alts := [], laidByText := true, laidKinds := [.data, .pinned], laidTests := true, laidLooks := .later }
def FnExactParseParityUptoCardSaid : Prop := Claim7.holds Tryd.pinned (.plain (OpenSpec.upto fnExactParseParitySpec)) fnExactParseParityUptoCard
end Rows
end Go.Proofs.YtcliagnongbkmaaDoor
