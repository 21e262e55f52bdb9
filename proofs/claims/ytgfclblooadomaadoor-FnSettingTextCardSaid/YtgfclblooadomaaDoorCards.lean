/-
  DERIVED. GIVEN WITH THE SEED: THE CARDS: each row of YtgfclblooadomaaDoorRows.lean that lists a variable, with what it lists TIED to the program's text (the seventh form; the later family's looks); each row that meets fmt, with fmt's text TOLD by the authors' own Lean function (tested against real Go, not proved from fmt's source: count such statements apart). THE CARD IS WHAT COUNTS. Prove the row's statement (the work); the ties are given (YtgfclblooadomaaDoorTie.lean); close each card by the builder's one call (the guide's Derived/Test/ToyasCard.lean, 'card_holds'). Laid BY PROGRAM, IN A SANDBOX (cutbox-door.mjs). By AI agents, Wed Nov 11 2026. No macro, syntax, notation, axiom, sorry.
-/
import Derived.Test.YtgfclblooadomaaDoorRows
import GoSem.ClaimSeven
namespace Go.Proofs.YtgfclblooadomaaDoor
namespace Rows

/-- THE TIED CARD OF 'laws.FnSettingText'. -/
def fnSettingTextCard : Claim7 := { stood := { row := fnSettingTextRow, standIns := [], harness := (true, "5d4c76d0a141a33feee3a19482503d1804d964d60ae03ebed6e92c4852917357"), looks := true }, kinds := [], alts := [], laidByText := true, laidKinds := [.data, .data, .data, .data, .sentinel, .sentinel, .pinned], laidTests := true, laidLooks := .later }
def FnSettingTextCardSaid : Prop := Claim7.holds Tryd.pinned (.plain (OpenSpec.ofChange fnSettingTextSpec)) fnSettingTextCard

/-- THE SECOND FORM's CARD OF 'laws.FnSettingText'. -/
def fnSettingTextUptoCard : Claim7 := { stood := { row := fnSettingTextUptoRow, standIns := [], harness := (true, "5d4c76d0a141a33feee3a19482503d1804d964d60ae03ebed6e92c4852917357"), looks := true }, kinds := [], alts := [], laidByText := true, laidKinds := [.data, .data, .data, .data, .sentinel, .sentinel, .pinned], laidTests := true, laidLooks := .later }
def FnSettingTextUptoCardSaid : Prop := Claim7.holds Tryd.pinned (.plain (OpenSpec.upto fnSettingTextSpec)) fnSettingTextUptoCard
end Rows
end Go.Proofs.YtgfclblooadomaaDoor
