/-
  DERIVED. GIVEN WITH THE SEED: THE CARDS: each row of YtbmkagngbmfcbaaDoorRows.lean that lists a variable, with what it lists TIED to the program's text (the seventh form; the later family's looks); each row that meets fmt, with fmt's text TOLD by the authors' own Lean function (tested against real Go, not proved from fmt's source: count such statements apart). THE CARD IS WHAT COUNTS. Prove the row's statement (the work); the ties are given (YtbmkagngbmfcbaaDoorTie.lean); close each card by the builder's one call (the guide's Derived/Test/ToyasCard.lean, 'card_holds'). Laid BY PROGRAM, IN A SANDBOX (cutbox-door.mjs). By AI agents, Wed Nov 11 2026. No macro, syntax, notation, axiom, sorry.
-/
import Derived.Test.YtbmkagngbmfcbaaDoorRows
import GoSem.ClaimSeven
namespace Go.Proofs.YtbmkagngbmfcbaaDoor
namespace Rows

/-- THE TIED CARD OF 'laws.FnExactOpValid'. -/
def fnExactOpValidCard : Claim7 := { stood := { row := fnExactOpValidRow, standIns := [], harness := (true, "7c545f646c7af97c77e1747175f232082bd107d870b3f611c24d6155cfc2ac6d"), looks := false }, kinds := [], alts := [], laidByText := true, laidKinds := [.wider, .wider], laidTests := true, laidLooks := .later }
def FnExactOpValidCardSaid : Prop := Claim7.holds Tryd.pinned (.plain (OpenSpec.ofChange fnExactOpValidSpec)) fnExactOpValidCard

/-- THE SECOND FORM's CARD OF 'laws.FnExactOpValid'. -/
def fnExactOpValidUptoCard : Claim7 := { stood := { row := fnExactOpValidUptoRow, standIns := [], harness := (true, "7c545f646c7af97c77e1747175f232082bd107d870b3f611c24d6155cfc2ac6d"), looks := false }, kinds := [], alts := [], laidByText := true, laidKinds := [.wider, .wider], laidTests := true, laidLooks := .later }
def FnExactOpValidUptoCardSaid : Prop := Claim7.holds Tryd.pinned (.plain (OpenSpec.upto fnExactOpValidSpec)) fnExactOpValidUptoCard
end Rows
end Go.Proofs.YtbmkagngbmfcbaaDoor
