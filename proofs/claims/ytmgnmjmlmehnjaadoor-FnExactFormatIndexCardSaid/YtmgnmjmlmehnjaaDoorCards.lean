/-
  DERIVED. GIVEN WITH THE SEED: THE CARDS: each row of YtmgnmjmlmehnjaaDoorRows.lean that lists a variable, with what it lists TIED to the program's text (the seventh form; the later family's looks); each row that meets fmt, with fmt's text TOLD by the authors' own Lean function (tested against real Go, not proved from fmt's source: count such statements apart). THE CARD IS WHAT COUNTS. Prove the row's statement (the work); the ties are given (YtmgnmjmlmehnjaaDoorTie.lean); close each card by the builder's one call (the guide's Derived/Test/ToyasCard.lean, 'card_holds'). Laid BY PROGRAM, IN A SANDBOX (cutbox-door.mjs). By AI agents, Wed Nov 11 2026. No macro, syntax, notation, axiom, sorry.
-/
import Derived.Test.YtmgnmjmlmehnjaaDoorRows
import GoSem.ClaimSeven
namespace Go.Proofs.YtmgnmjmlmehnjaaDoor
namespace Rows

/-- THE TIED CARD OF 'laws.FnExactFormatIndex'. -/
def fnExactFormatIndexCard : Claim7 := { stood := { row := fnExactFormatIndexRow, standIns := [], harness := (true, "dc242e679e5b7d9c971d244cd9b5648c51e9d052cbad6ea008bcbf8f8a9ca366"), looks := false }, kinds := [], alts := [], laidByText := true, laidKinds := [.data, .data, .data], laidTests := true, laidLooks := .later }
def FnExactFormatIndexCardSaid : Prop := Claim7.holds Tryd.pinned (.plain (OpenSpec.ofChange fnExactFormatIndexSpec)) fnExactFormatIndexCard

/-- THE TIED CARD OF 'laws.FnExactFormatPatch'. -/
def fnExactFormatPatchCard : Claim7 := { stood := { row := fnExactFormatPatchRow, standIns := [], harness := (true, "dc242e679e5b7d9c971d244cd9b5648c51e9d052cbad6ea008bcbf8f8a9ca366"), looks := false }, kinds := [], alts := [], laidByText := true, laidKinds := [.data, .data, .data], laidTests := true, laidLooks := .later }
def FnExactFormatPatchCardSaid : Prop := Claim7.holds Tryd.pinned (.plain (OpenSpec.ofChange fnExactFormatPatchSpec)) fnExactFormatPatchCard

/-- THE SECOND FORM's CARD OF 'laws.FnExactFormatIndex'. -/
def fnExactFormatIndexUptoCard : Claim7 := { stood := { row := fnExactFormatIndexUptoRow, standIns := [], harness := (true, "dc242e679e5b7d9c971d244cd9b5648c51e9d052cbad6ea008bcbf8f8a9ca366"), looks := false }, kinds := [], alts := [], laidByText := true, laidKinds := [.data, .data, .data], laidTests := true, laidLooks := .later }
def FnExactFormatIndexUptoCardSaid : Prop := Claim7.holds Tryd.pinned (.plain (OpenSpec.upto fnExactFormatIndexSpec)) fnExactFormatIndexUptoCard

/-- THE SECOND FORM's CARD OF 'laws.FnExactFormatPatch'. -/
def fnExactFormatPatchUptoCard : Claim7 := { stood := { row := fnExactFormatPatchUptoRow, standIns := [], harness := (true, "dc242e679e5b7d9c971d244cd9b5648c51e9d052cbad6ea008bcbf8f8a9ca366"), looks := false }, kinds := [], alts := [], laidByText := true, laidKinds := [.data, .data, .data], laidTests := true, laidLooks := .later }
def FnExactFormatPatchUptoCardSaid : Prop := Claim7.holds Tryd.pinned (.plain (OpenSpec.upto fnExactFormatPatchSpec)) fnExactFormatPatchUptoCard
end Rows
end Go.Proofs.YtmgnmjmlmehnjaaDoor
