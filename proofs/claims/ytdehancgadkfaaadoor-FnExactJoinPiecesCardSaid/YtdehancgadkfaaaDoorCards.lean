/-
  DERIVED. GIVEN WITH THE SEED: THE CARDS: each row of YtdehancgadkfaaaDoorRows.lean that lists a variable, with what it lists TIED to the program's text (the seventh form; the later family's looks); each row that meets fmt, with fmt's text TOLD by the authors' own Lean function (tested against real Go, not proved from fmt's source: count such statements apart). THE CARD IS WHAT COUNTS. Prove the row's statement (the work); the ties are given (YtdehancgadkfaaaDoorTie.lean); close each card by the builder's one call (the guide's Derived/Test/ToyasCard.lean, 'card_holds'). Laid BY PROGRAM, IN A SANDBOX (cutbox-door.mjs). By AI agents, Wed Nov 11 2026. No macro, syntax, notation, axiom, sorry.
-/
import Derived.Test.YtdehancgadkfaaaDoorRows
import GoSem.ClaimSeven
namespace Go.Proofs.YtdehancgadkfaaaDoor
namespace Rows

/-- THE TIED CARD OF 'laws.FnExactLostNumbers'. -/
def fnExactLostNumbersCard : Claim7 := { stood := { row := fnExactLostNumbersRow, standIns := [], harness := (true, "7324b9b7336c8080293c6aa1ab0feda92d9b22ae9b9830684dc65859d5013fdb"), looks := false }, kinds := [], alts := [], laidByText := true, laidKinds := [.wider], laidTests := true, laidLooks := .later }
def FnExactLostNumbersCardSaid : Prop := Claim7.holds Tryd.pinned (.plain (OpenSpec.ofChange fnExactLostNumbersSpec)) fnExactLostNumbersCard

/-- THE TIED CARD OF 'laws.FnExactJoinPieces'. -/
def fnExactJoinPiecesCard : Claim7 := { stood := { row := fnExactJoinPiecesRow, standIns := [], harness := (true, "7324b9b7336c8080293c6aa1ab0feda92d9b22ae9b9830684dc65859d5013fdb"), looks := false }, kinds := [], alts := [], laidByText := true, laidKinds := [.wider], laidTests := true, laidLooks := .later }
def FnExactJoinPiecesCardSaid : Prop := Claim7.holds Tryd.pinned (.plain (OpenSpec.ofChange fnExactJoinPiecesSpec)) fnExactJoinPiecesCard

/-- THE TIED CARD OF 'laws.FnExactParityOf'. -/
def fnExactParityOfCard : Claim7 := { stood := { row := fnExactParityOfRow, standIns := [], harness := (true, "7324b9b7336c8080293c6aa1ab0feda92d9b22ae9b9830684dc65859d5013fdb"), looks := false }, kinds := [], alts := [], laidByText := true, laidKinds := [.sentinel, .sentinel, .sentinel, .wider], laidTests := true, laidLooks := .later }
def FnExactParityOfCardSaid : Prop := Claim7.holds Tryd.pinned (.plain (OpenSpec.ofChange fnExactParityOfSpec)) fnExactParityOfCard

/-- THE SECOND FORM's CARD OF 'laws.FnExactLostNumbers'. -/
def fnExactLostNumbersUptoCard : Claim7 := { stood := { row := fnExactLostNumbersUptoRow, standIns := [], harness := (true, "7324b9b7336c8080293c6aa1ab0feda92d9b22ae9b9830684dc65859d5013fdb"), looks := false }, kinds := [], alts := [], laidByText := true, laidKinds := [.wider], laidTests := true, laidLooks := .later }
def FnExactLostNumbersUptoCardSaid : Prop := Claim7.holds Tryd.pinned (.plain (OpenSpec.upto fnExactLostNumbersSpec)) fnExactLostNumbersUptoCard

/-- THE SECOND FORM's CARD OF 'laws.FnExactJoinPieces'. -/
def fnExactJoinPiecesUptoCard : Claim7 := { stood := { row := fnExactJoinPiecesUptoRow, standIns := [], harness := (true, "7324b9b7336c8080293c6aa1ab0feda92d9b22ae9b9830684dc65859d5013fdb"), looks := false }, kinds := [], alts := [], laidByText := true, laidKinds := [.wider], laidTests := true, laidLooks := .later }
def FnExactJoinPiecesUptoCardSaid : Prop := Claim7.holds Tryd.pinned (.plain (OpenSpec.upto fnExactJoinPiecesSpec)) fnExactJoinPiecesUptoCard

/-- THE SECOND FORM's CARD OF 'laws.FnExactParityOf'. -/
def fnExactParityOfUptoCard : Claim7 := { stood := { row := fnExactParityOfUptoRow, standIns := [], harness := (true, "7324b9b7336c8080293c6aa1ab0feda92d9b22ae9b9830684dc65859d5013fdb"), looks := false }, kinds := [], alts := [], laidByText := true, laidKinds := [.sentinel, .sentinel, .sentinel, .wider], laidTests := true, laidLooks := .later }
def FnExactParityOfUptoCardSaid : Prop := Claim7.holds Tryd.pinned (.plain (OpenSpec.upto fnExactParityOfSpec)) fnExactParityOfUptoCard
end Rows
end Go.Proofs.YtdehancgadkfaaaDoor
