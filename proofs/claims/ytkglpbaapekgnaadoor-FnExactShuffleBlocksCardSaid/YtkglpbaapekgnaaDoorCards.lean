/-
  DERIVED. GIVEN WITH THE SEED: THE CARDS: each row of YtkglpbaapekgnaaDoorRows.lean that lists a variable, with what it lists TIED to the program's text (the seventh form; the later family's looks); each row that meets fmt, with fmt's text TOLD by the authors' own Lean function (tested against real Go, not proved from fmt's source: count such statements apart). THE CARD IS WHAT COUNTS. Prove the row's statement (the work); the ties are given (YtkglpbaapekgnaaDoorTie.lean); close each card by the builder's one call (the guide's Derived/Test/ToyasCard.lean, 'card_holds'). Laid BY PROGRAM, IN A SANDBOX (cutbox-door.mjs). By AI agents, Wed Nov 11 2026. No macro, syntax, notation, axiom, sorry.
-/
import Derived.Test.YtkglpbaapekgnaaDoorRows
import GoSem.ClaimSeven
namespace Go.Proofs.YtkglpbaapekgnaaDoor
namespace Rows

/-- THE TIED CARD OF 'laws.FnExactFormatBlock'. -/
def fnExactFormatBlockCard : Claim7 := { stood := { row := fnExactFormatBlockRow, standIns := [], harness := (true, "a8ba43e27692fd86dc74ace12e1e85e7ecc67be9d5870a86e474db6ec16e65c2"), looks := false }, kinds := [], alts := [], laidByText := true, laidKinds := [.wider], laidTests := true, laidLooks := .later }
def FnExactFormatBlockCardSaid : Prop := Claim7.holds Tryd.pinned (.plain (OpenSpec.ofChange fnExactFormatBlockSpec)) fnExactFormatBlockCard

/-- THE TIED CARD OF 'laws.FnExactContainerSize'. -/
def fnExactContainerSizeCard : Claim7 := { stood := { row := fnExactContainerSizeRow, standIns := [], harness := (true, "a8ba43e27692fd86dc74ace12e1e85e7ecc67be9d5870a86e474db6ec16e65c2"), looks := false }, kinds := [], alts := [], laidByText := true, laidKinds := [.sentinel, .sentinel, .sentinel, .wider], laidTests := true, laidLooks := .later }
def FnExactContainerSizeCardSaid : Prop := Claim7.holds Tryd.pinned (.plain (OpenSpec.ofChange fnExactContainerSizeSpec)) fnExactContainerSizeCard

/-- THE TIED CARD OF 'laws.FnExactCountRaw'. -/
def fnExactCountRawCard : Claim7 := { stood := { row := fnExactCountRawRow, standIns := [], harness := (true, "a8ba43e27692fd86dc74ace12e1e85e7ecc67be9d5870a86e474db6ec16e65c2"), looks := false }, kinds := [], alts := [], laidByText := true, laidKinds := [.sentinel, .sentinel, .sentinel, .wider], laidTests := true, laidLooks := .later }
def FnExactCountRawCardSaid : Prop := Claim7.holds Tryd.pinned (.plain (OpenSpec.ofChange fnExactCountRawSpec)) fnExactCountRawCard

/-- THE TIED CARD OF 'laws.FnExactIndexOf'. -/
def fnExactIndexOfCard : Claim7 := { stood := { row := fnExactIndexOfRow, standIns := [], harness := (true, "a8ba43e27692fd86dc74ace12e1e85e7ecc67be9d5870a86e474db6ec16e65c2"), looks := false }, kinds := [], alts := [], laidByText := true, laidKinds := [.sentinel, .sentinel, .sentinel, .wider], laidTests := true, laidLooks := .later }
def FnExactIndexOfCardSaid : Prop := Claim7.holds Tryd.pinned (.plain (OpenSpec.ofChange fnExactIndexOfSpec)) fnExactIndexOfCard

/-- THE TIED CARD OF 'laws.FnExactContainerBlocks'. -/
def fnExactContainerBlocksCard : Claim7 := { stood := { row := fnExactContainerBlocksRow, standIns := [], harness := (true, "a8ba43e27692fd86dc74ace12e1e85e7ecc67be9d5870a86e474db6ec16e65c2"), looks := false }, kinds := [], alts := [], laidByText := true, laidKinds := [.sentinel, .sentinel, .sentinel, .wider], laidTests := true, laidLooks := .later }
def FnExactContainerBlocksCardSaid : Prop := Claim7.holds Tryd.pinned (.plain (OpenSpec.ofChange fnExactContainerBlocksSpec)) fnExactContainerBlocksCard

/-- THE TIED CARD OF 'laws.FnExactTouchedBlocks'. -/
def fnExactTouchedBlocksCard : Claim7 := { stood := { row := fnExactTouchedBlocksRow, standIns := [], harness := (true, "a8ba43e27692fd86dc74ace12e1e85e7ecc67be9d5870a86e474db6ec16e65c2"), looks := false }, kinds := [], alts := [], laidByText := true, laidKinds := [.sentinel, .sentinel, .sentinel, .wider], laidTests := true, laidLooks := .later }
def FnExactTouchedBlocksCardSaid : Prop := Claim7.holds Tryd.pinned (.plain (OpenSpec.ofChange fnExactTouchedBlocksSpec)) fnExactTouchedBlocksCard

/-- THE TIED CARD OF 'laws.FnExactJoinContainers'. -/
def fnExactJoinContainersCard : Claim7 := { stood := { row := fnExactJoinContainersRow, standIns := [], harness := (true, "a8ba43e27692fd86dc74ace12e1e85e7ecc67be9d5870a86e474db6ec16e65c2"), looks := false }, kinds := [], alts := [], laidByText := true, laidKinds := [.sentinel, .sentinel, .sentinel, .wider], laidTests := true, laidLooks := .later }
def FnExactJoinContainersCardSaid : Prop := Claim7.holds Tryd.pinned (.plain (OpenSpec.ofChange fnExactJoinContainersSpec)) fnExactJoinContainersCard

/-- THE TIED CARD OF 'laws.FnExactTakeBlocks'. -/
def fnExactTakeBlocksCard : Claim7 := { stood := { row := fnExactTakeBlocksRow, standIns := [], harness := (true, "a8ba43e27692fd86dc74ace12e1e85e7ecc67be9d5870a86e474db6ec16e65c2"), looks := false }, kinds := [], alts := [], laidByText := true, laidKinds := [.sentinel, .sentinel, .sentinel, .wider], laidTests := true, laidLooks := .later }
def FnExactTakeBlocksCardSaid : Prop := Claim7.holds Tryd.pinned (.plain (OpenSpec.ofChange fnExactTakeBlocksSpec)) fnExactTakeBlocksCard

/-- THE TIED CARD OF 'laws.FnExactSameBlocks'. -/
def fnExactSameBlocksCard : Claim7 := { stood := { row := fnExactSameBlocksRow, standIns := [], harness := (true, "a8ba43e27692fd86dc74ace12e1e85e7ecc67be9d5870a86e474db6ec16e65c2"), looks := false }, kinds := [], alts := [], laidByText := true, laidKinds := [.sentinel, .sentinel, .sentinel, .wider], laidTests := true, laidLooks := .later }
def FnExactSameBlocksCardSaid : Prop := Claim7.holds Tryd.pinned (.plain (OpenSpec.ofChange fnExactSameBlocksSpec)) fnExactSameBlocksCard

/-- THE TIED CARD OF 'laws.FnExactShuffleBlocks'. -/
def fnExactShuffleBlocksCard : Claim7 := { stood := { row := fnExactShuffleBlocksRow, standIns := [], harness := (true, "a8ba43e27692fd86dc74ace12e1e85e7ecc67be9d5870a86e474db6ec16e65c2"), looks := false }, kinds := [], alts := [], laidByText := true, laidKinds := [.sentinel, .sentinel, .sentinel, .wider], laidTests := true, laidLooks := .later }
def FnExactShuffleBlocksCardSaid : Prop := Claim7.holds Tryd.pinned (.plain (OpenSpec.ofChange fnExactShuffleBlocksSpec)) fnExactShuffleBlocksCard

/-- THE SECOND FORM's CARD OF 'laws.FnExactFormatBlock'. -/
def fnExactFormatBlockUptoCard : Claim7 := { stood := { row := fnExactFormatBlockUptoRow, standIns := [], harness := (true, "a8ba43e27692fd86dc74ace12e1e85e7ecc67be9d5870a86e474db6ec16e65c2"), looks := false }, kinds := [], alts := [], laidByText := true, laidKinds := [.wider], laidTests := true, laidLooks := .later }
def FnExactFormatBlockUptoCardSaid : Prop := Claim7.holds Tryd.pinned (.plain (OpenSpec.upto fnExactFormatBlockSpec)) fnExactFormatBlockUptoCard

/-- THE SECOND FORM's CARD OF 'laws.FnExactContainerSize'. -/
def fnExactContainerSizeUptoCard : Claim7 := { stood := { row := fnExactContainerSizeUptoRow, standIns := [], harness := (true, "a8ba43e27692fd86dc74ace12e1e85e7ecc67be9d5870a86e474db6ec16e65c2"), looks := false }, kinds := [], alts := [], laidByText := true, laidKinds := [.sentinel, .sentinel, .sentinel, .wider], laidTests := true, laidLooks := .later }
def FnExactContainerSizeUptoCardSaid : Prop := Claim7.holds Tryd.pinned (.plain (OpenSpec.upto fnExactContainerSizeSpec)) fnExactContainerSizeUptoCard

/-- THE SECOND FORM's CARD OF 'laws.FnExactCountRaw'. -/
def fnExactCountRawUptoCard : Claim7 := { stood := { row := fnExactCountRawUptoRow, standIns := [], harness := (true, "a8ba43e27692fd86dc74ace12e1e85e7ecc67be9d5870a86e474db6ec16e65c2"), looks := false }, kinds := [], alts := [], laidByText := true, laidKinds := [.sentinel, .sentinel, .sentinel, .wider], laidTests := true, laidLooks := .later }
def FnExactCountRawUptoCardSaid : Prop := Claim7.holds Tryd.pinned (.plain (OpenSpec.upto fnExactCountRawSpec)) fnExactCountRawUptoCard

/-- THE SECOND FORM's CARD OF 'laws.FnExactIndexOf'. -/
def fnExactIndexOfUptoCard : Claim7 := { stood := { row := fnExactIndexOfUptoRow, standIns := [], harness := (true, "a8ba43e27692fd86dc74ace12e1e85e7ecc67be9d5870a86e474db6ec16e65c2"), looks := false }, kinds := [], alts := [], laidByText := true, laidKinds := [.sentinel, .sentinel, .sentinel, .wider], laidTests := true, laidLooks := .later }
def FnExactIndexOfUptoCardSaid : Prop := Claim7.holds Tryd.pinned (.plain (OpenSpec.upto fnExactIndexOfSpec)) fnExactIndexOfUptoCard

/-- THE SECOND FORM's CARD OF 'laws.FnExactContainerBlocks'. -/
def fnExactContainerBlocksUptoCard : Claim7 := { stood := { row := fnExactContainerBlocksUptoRow, standIns := [], harness := (true, "a8ba43e27692fd86dc74ace12e1e85e7ecc67be9d5870a86e474db6ec16e65c2"), looks := false }, kinds := [], alts := [], laidByText := true, laidKinds := [.sentinel, .sentinel, .sentinel, .wider], laidTests := true, laidLooks := .later }
def FnExactContainerBlocksUptoCardSaid : Prop := Claim7.holds Tryd.pinned (.plain (OpenSpec.upto fnExactContainerBlocksSpec)) fnExactContainerBlocksUptoCard

/-- THE SECOND FORM's CARD OF 'laws.FnExactTouchedBlocks'. -/
def fnExactTouchedBlocksUptoCard : Claim7 := { stood := { row := fnExactTouchedBlocksUptoRow, standIns := [], harness := (true, "a8ba43e27692fd86dc74ace12e1e85e7ecc67be9d5870a86e474db6ec16e65c2"), looks := false }, kinds := [], alts := [], laidByText := true, laidKinds := [.sentinel, .sentinel, .sentinel, .wider], laidTests := true, laidLooks := .later }
def FnExactTouchedBlocksUptoCardSaid : Prop := Claim7.holds Tryd.pinned (.plain (OpenSpec.upto fnExactTouchedBlocksSpec)) fnExactTouchedBlocksUptoCard

/-- THE SECOND FORM's CARD OF 'laws.FnExactJoinContainers'. -/
def fnExactJoinContainersUptoCard : Claim7 := { stood := { row := fnExactJoinContainersUptoRow, standIns := [], harness := (true, "a8ba43e27692fd86dc74ace12e1e85e7ecc67be9d5870a86e474db6ec16e65c2"), looks := false }, kinds := [], alts := [], laidByText := true, laidKinds := [.sentinel, .sentinel, .sentinel, .wider], laidTests := true, laidLooks := .later }
def FnExactJoinContainersUptoCardSaid : Prop := Claim7.holds Tryd.pinned (.plain (OpenSpec.upto fnExactJoinContainersSpec)) fnExactJoinContainersUptoCard

/-- THE SECOND FORM's CARD OF 'laws.FnExactTakeBlocks'. -/
def fnExactTakeBlocksUptoCard : Claim7 := { stood := { row := fnExactTakeBlocksUptoRow, standIns := [], harness := (true, "a8ba43e27692fd86dc74ace12e1e85e7ecc67be9d5870a86e474db6ec16e65c2"), looks := false }, kinds := [], alts := [], laidByText := true, laidKinds := [.sentinel, .sentinel, .sentinel, .wider], laidTests := true, laidLooks := .later }
def FnExactTakeBlocksUptoCardSaid : Prop := Claim7.holds Tryd.pinned (.plain (OpenSpec.upto fnExactTakeBlocksSpec)) fnExactTakeBlocksUptoCard

/-- THE SECOND FORM's CARD OF 'laws.FnExactSameBlocks'. -/
def fnExactSameBlocksUptoCard : Claim7 := { stood := { row := fnExactSameBlocksUptoRow, standIns := [], harness := (true, "a8ba43e27692fd86dc74ace12e1e85e7ecc67be9d5870a86e474db6ec16e65c2"), looks := false }, kinds := [], alts := [], laidByText := true, laidKinds := [.sentinel, .sentinel, .sentinel, .wider], laidTests := true, laidLooks := .later }
def FnExactSameBlocksUptoCardSaid : Prop := Claim7.holds Tryd.pinned (.plain (OpenSpec.upto fnExactSameBlocksSpec)) fnExactSameBlocksUptoCard

/-- THE SECOND FORM's CARD OF 'laws.FnExactShuffleBlocks'. -/
def fnExactShuffleBlocksUptoCard : Claim7 := { stood := { row := fnExactShuffleBlocksUptoRow, standIns := [], harness := (true, "a8ba43e27692fd86dc74ace12e1e85e7ecc67be9d5870a86e474db6ec16e65c2"), looks := false }, kinds := [], alts := [], laidByText := true, laidKinds := [.sentinel, .sentinel, .sentinel, .wider], laidTests := true, laidLooks := .later }
def FnExactShuffleBlocksUptoCardSaid : Prop := Claim7.holds Tryd.pinned (.plain (OpenSpec.upto fnExactShuffleBlocksSpec)) fnExactShuffleBlocksUptoCard
end Rows
end Go.Proofs.YtkglpbaapekgnaaDoor
