/-
  DERIVED. GIVEN WITH THE SEED: THE CARDS: each row of YtmlaaammfnboiaaGreatDoorRows.lean that lists a variable, with what it lists TIED to the program's text (the seventh form; the later family's looks); each row that meets fmt, with fmt's text TOLD by the authors' own Lean function (tested against real Go, not proved from fmt's source: count such statements apart). THE CARD IS WHAT COUNTS. Prove the row's statement (the work); the ties are given (YtmlaaammfnboiaaGreatDoorTie.lean); close each card by the builder's one call (the guide's Derived/Test/ToyasCard.lean, 'card_holds'). Laid BY PROGRAM, IN A SANDBOX (cutbox-door.mjs). By AI agents, Wed Nov 11 2026. No macro, syntax, notation, axiom, sorry.
-/
import Derived.Test.YtmlaaammfnboiaaGreatDoorRows
import GoSem.ClaimSeven
namespace Go.Proofs.YtmlaaammfnboiaaGreatDoor
namespace Rows

/-- THE TIED CARD OF 'laws.FnExactBlockOf'. -/
def fnExactBlockOfCard : Claim7 := { stood := { row := fnExactBlockOfRow, standIns := [], harness := (true, "6ed74eb78d3fdc2215364d1e62b065505f575f2de644090d338fc56c771deb14"), looks := true }, kinds := [], alts := [], laidByText := true, laidKinds := [.wider], laidTests := true, laidLooks := .later }
def FnExactBlockOfCardSaid : Prop := Claim7.holds Tryz.pinned (.plain (OpenSpec.ofChange fnExactBlockOfSpec)) fnExactBlockOfCard

/-- THE TIED CARD OF 'laws.FnExactBlockData'. -/
def fnExactBlockDataCard : Claim7 := { stood := { row := fnExactBlockDataRow, standIns := [], harness := (true, "6ed74eb78d3fdc2215364d1e62b065505f575f2de644090d338fc56c771deb14"), looks := true }, kinds := [], alts := [], laidByText := true, laidKinds := [.wider], laidTests := true, laidLooks := .later }
def FnExactBlockDataCardSaid : Prop := Claim7.holds Tryz.pinned (.plain (OpenSpec.ofChange fnExactBlockDataSpec)) fnExactBlockDataCard

/-- THE TIED CARD OF 'laws.FnExactMakeContainer'. -/
def fnExactMakeContainerCard : Claim7 := { stood := { row := fnExactMakeContainerRow, standIns := [], harness := (true, "6ed74eb78d3fdc2215364d1e62b065505f575f2de644090d338fc56c771deb14"), looks := true }, kinds := [], alts := [], laidByText := true, laidKinds := [.wider], laidTests := true, laidLooks := .later }
def FnExactMakeContainerCardSaid : Prop := Claim7.holds Tryz.pinned (.plain (OpenSpec.ofChange fnExactMakeContainerSpec)) fnExactMakeContainerCard

/-- THE TIED CARD OF 'laws.FnExactContainerData'. -/
def fnExactContainerDataCard : Claim7 := { stood := { row := fnExactContainerDataRow, standIns := [], harness := (true, "6ed74eb78d3fdc2215364d1e62b065505f575f2de644090d338fc56c771deb14"), looks := true }, kinds := [], alts := [], laidByText := true, laidKinds := [.sentinel, .sentinel, .sentinel, .wider], laidTests := true, laidLooks := .later }
def FnExactContainerDataCardSaid : Prop := Claim7.holds Tryz.pinned (.plain (OpenSpec.ofChange fnExactContainerDataSpec)) fnExactContainerDataCard

/-- THE TIED CARD OF 'laws.FnExactReadRange'. -/
def fnExactReadRangeCard : Claim7 := { stood := { row := fnExactReadRangeRow, standIns := [], harness := (true, "6ed74eb78d3fdc2215364d1e62b065505f575f2de644090d338fc56c771deb14"), looks := true }, kinds := [], alts := [], laidByText := true, laidKinds := [.sentinel, .sentinel, .sentinel, .wider], laidTests := true, laidLooks := .later }
def FnExactReadRangeCardSaid : Prop := Claim7.holds Tryz.pinned (.plain (OpenSpec.ofChange fnExactReadRangeSpec)) fnExactReadRangeCard

/-- THE TIED CARD OF 'laws.FnExactResizeBlocks'. -/
def fnExactResizeBlocksCard : Claim7 := { stood := { row := fnExactResizeBlocksRow, standIns := [], harness := (true, "6ed74eb78d3fdc2215364d1e62b065505f575f2de644090d338fc56c771deb14"), looks := true }, kinds := [], alts := [], laidByText := true, laidKinds := [.sentinel, .sentinel, .sentinel, .wider], laidTests := true, laidLooks := .later }
def FnExactResizeBlocksCardSaid : Prop := Claim7.holds Tryz.pinned (.plain (OpenSpec.ofChange fnExactResizeBlocksSpec)) fnExactResizeBlocksCard

/-- THE TIED CARD OF 'laws.FnExactAppendData'. -/
def fnExactAppendDataCard : Claim7 := { stood := { row := fnExactAppendDataRow, standIns := [], harness := (true, "6ed74eb78d3fdc2215364d1e62b065505f575f2de644090d338fc56c771deb14"), looks := true }, kinds := [], alts := [], laidByText := true, laidKinds := [.sentinel, .sentinel, .sentinel, .wider], laidTests := true, laidLooks := .later }
def FnExactAppendDataCardSaid : Prop := Claim7.holds Tryz.pinned (.plain (OpenSpec.ofChange fnExactAppendDataSpec)) fnExactAppendDataCard

/-- THE TIED CARD OF 'laws.FnExactTurnContainer'. -/
def fnExactTurnContainerCard : Claim7 := { stood := { row := fnExactTurnContainerRow, standIns := [], harness := (true, "6ed74eb78d3fdc2215364d1e62b065505f575f2de644090d338fc56c771deb14"), looks := true }, kinds := [], alts := [], laidByText := true, laidKinds := [.sentinel, .sentinel, .sentinel, .wider], laidTests := true, laidLooks := .later }
def FnExactTurnContainerCardSaid : Prop := Claim7.holds Tryz.pinned (.plain (OpenSpec.ofChange fnExactTurnContainerSpec)) fnExactTurnContainerCard

/-- THE SECOND FORM's CARD OF 'laws.FnExactBlockOf'. -/
def fnExactBlockOfUptoCard : Claim7 := { stood := { row := fnExactBlockOfUptoRow, standIns := [], harness := (true, "6ed74eb78d3fdc2215364d1e62b065505f575f2de644090d338fc56c771deb14"), looks := true }, kinds := [], alts := [], laidByText := true, laidKinds := [.wider], laidTests := true, laidLooks := .later }
def FnExactBlockOfUptoCardSaid : Prop := Claim7.holds Tryz.pinned (.plain (OpenSpec.upto fnExactBlockOfSpec)) fnExactBlockOfUptoCard

/-- THE SECOND FORM's CARD OF 'laws.FnExactBlockData'. -/
def fnExactBlockDataUptoCard : Claim7 := { stood := { row := fnExactBlockDataUptoRow, standIns := [], harness := (true, "6ed74eb78d3fdc2215364d1e62b065505f575f2de644090d338fc56c771deb14"), looks := true }, kinds := [], alts := [], laidByText := true, laidKinds := [.wider], laidTests := true, laidLooks := .later }
def FnExactBlockDataUptoCardSaid : Prop := Claim7.holds Tryz.pinned (.plain (OpenSpec.upto fnExactBlockDataSpec)) fnExactBlockDataUptoCard

/-- THE SECOND FORM's CARD OF 'laws.FnExactMakeContainer'. -/
def fnExactMakeContainerUptoCard : Claim7 := { stood := { row := fnExactMakeContainerUptoRow, standIns := [], harness := (true, "6ed74eb78d3fdc2215364d1e62b065505f575f2de644090d338fc56c771deb14"), looks := true }, kinds := [], alts := [], laidByText := true, laidKinds := [.wider], laidTests := true, laidLooks := .later }
def FnExactMakeContainerUptoCardSaid : Prop := Claim7.holds Tryz.pinned (.plain (OpenSpec.upto fnExactMakeContainerSpec)) fnExactMakeContainerUptoCard

/-- THE SECOND FORM's CARD OF 'laws.FnExactContainerData'. -/
def fnExactContainerDataUptoCard : Claim7 := { stood := { row := fnExactContainerDataUptoRow, standIns := [], harness := (true, "6ed74eb78d3fdc2215364d1e62b065505f575f2de644090d338fc56c771deb14"), looks := true }, kinds := [], alts := [], laidByText := true, laidKinds := [.sentinel, .sentinel, .sentinel, .wider], laidTests := true, laidLooks := .later }
def FnExactContainerDataUptoCardSaid : Prop := Claim7.holds Tryz.pinned (.plain (OpenSpec.upto fnExactContainerDataSpec)) fnExactContainerDataUptoCard

/-- THE SECOND FORM's CARD OF 'laws.FnExactReadRange'. -/
def fnExactReadRangeUptoCard : Claim7 := { stood := { row := fnExactReadRangeUptoRow, standIns := [], harness := (true, "6ed74eb78d3fdc2215364d1e62b065505f575f2de644090d338fc56c771deb14"), looks := true }, kinds := [], alts := [], laidByText := true, laidKinds := [.sentinel, .sentinel, .sentinel, .wider], laidTests := true, laidLooks := .later }
def FnExactReadRangeUptoCardSaid : Prop := Claim7.holds Tryz.pinned (.plain (OpenSpec.upto fnExactReadRangeSpec)) fnExactReadRangeUptoCard

/-- THE SECOND FORM's CARD OF 'laws.FnExactResizeBlocks'. -/
def fnExactResizeBlocksUptoCard : Claim7 := { stood := { row := fnExactResizeBlocksUptoRow, standIns := [], harness := (true, "6ed74eb78d3fdc2215364d1e62b065505f575f2de644090d338fc56c771deb14"), looks := true }, kinds := [], alts := [], laidByText := true, laidKinds := [.sentinel, .sentinel, .sentinel, .wider], laidTests := true, laidLooks := .later }
def FnExactResizeBlocksUptoCardSaid : Prop := Claim7.holds Tryz.pinned (.plain (OpenSpec.upto fnExactResizeBlocksSpec)) fnExactResizeBlocksUptoCard

/-- THE SECOND FORM's CARD OF 'laws.FnExactAppendData'. -/
def fnExactAppendDataUptoCard : Claim7 := { stood := { row := fnExactAppendDataUptoRow, standIns := [], harness := (true, "6ed74eb78d3fdc2215364d1e62b065505f575f2de644090d338fc56c771deb14"), looks := true }, kinds := [], alts := [], laidByText := true, laidKinds := [.sentinel, .sentinel, .sentinel, .wider], laidTests := true, laidLooks := .later }
def FnExactAppendDataUptoCardSaid : Prop := Claim7.holds Tryz.pinned (.plain (OpenSpec.upto fnExactAppendDataSpec)) fnExactAppendDataUptoCard

/-- THE SECOND FORM's CARD OF 'laws.FnExactTurnContainer'. -/
def fnExactTurnContainerUptoCard : Claim7 := { stood := { row := fnExactTurnContainerUptoRow, standIns := [], harness := (true, "6ed74eb78d3fdc2215364d1e62b065505f575f2de644090d338fc56c771deb14"), looks := true }, kinds := [], alts := [], laidByText := true, laidKinds := [.sentinel, .sentinel, .sentinel, .wider], laidTests := true, laidLooks := .later }
def FnExactTurnContainerUptoCardSaid : Prop := Claim7.holds Tryz.pinned (.plain (OpenSpec.upto fnExactTurnContainerSpec)) fnExactTurnContainerUptoCard
end Rows
end Go.Proofs.YtmlaaammfnboiaaGreatDoor
