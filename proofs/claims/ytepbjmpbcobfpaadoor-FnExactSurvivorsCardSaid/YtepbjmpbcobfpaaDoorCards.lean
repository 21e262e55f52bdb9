/-
  DERIVED. GIVEN WITH THE SEED: THE CARDS: each row of YtepbjmpbcobfpaaDoorRows.lean that lists a variable, with what it lists TIED to the program's text (the seventh form; the later family's looks); each row that meets fmt, with fmt's text TOLD by the authors' own Lean function (tested against real Go, not proved from fmt's source: count such statements apart). THE CARD IS WHAT COUNTS. Prove the row's statement (the work); the ties are given (YtepbjmpbcobfpaaDoorTie.lean); close each card by the builder's one call (the guide's Derived/Test/ToyasCard.lean, 'card_holds'). Laid BY PROGRAM, IN A SANDBOX (cutbox-door.mjs). By AI agents, Wed Nov 11 2026. No macro, syntax, notation, axiom, sorry.
-/
import Derived.Test.YtepbjmpbcobfpaaDoorRows
import GoSem.ClaimSeven
namespace Go.Proofs.YtepbjmpbcobfpaaDoor
namespace Rows

/-- THE TIED CARD OF 'laws.FnExactNextBlock'. -/
def fnExactNextBlockCard : Claim7 := { stood := { row := fnExactNextBlockRow, standIns := [], harness := (true, "aac545f392b075e9f89e54acebff402d7b67c0817168ad2d1b54a2a366f28243"), looks := false }, kinds := [], alts := [], laidByText := true, laidKinds := [.sentinel, .wider], laidTests := true, laidLooks := .later }
def FnExactNextBlockCardSaid : Prop := Claim7.holds Tryd.pinned (.plain (OpenSpec.ofChange fnExactNextBlockSpec)) fnExactNextBlockCard

/-- THE TIED CARD OF 'laws.FnExactFindBlocks'. -/
def fnExactFindBlocksCard : Claim7 := { stood := { row := fnExactFindBlocksRow, standIns := [], harness := (true, "aac545f392b075e9f89e54acebff402d7b67c0817168ad2d1b54a2a366f28243"), looks := false }, kinds := [], alts := [], laidByText := true, laidKinds := [.sentinel, .wider], laidTests := true, laidLooks := .later }
def FnExactFindBlocksCardSaid : Prop := Claim7.holds Tryd.pinned (.plain (OpenSpec.ofChange fnExactFindBlocksSpec)) fnExactFindBlocksCard

/-- THE TIED CARD OF 'laws.FnExactSurvivors'. -/
def fnExactSurvivorsCard : Claim7 := { stood := { row := fnExactSurvivorsRow, standIns := [], harness := (true, "aac545f392b075e9f89e54acebff402d7b67c0817168ad2d1b54a2a366f28243"), looks := false }, kinds := [], alts := [], laidByText := true, laidKinds := [.sentinel, .sentinel, .sentinel, .wider], laidTests := true, laidLooks := .later }
def FnExactSurvivorsCardSaid : Prop := Claim7.holds Tryd.pinned (.plain (OpenSpec.ofChange fnExactSurvivorsSpec)) fnExactSurvivorsCard

/-- THE SECOND FORM's CARD OF 'laws.FnExactNextBlock'. -/
def fnExactNextBlockUptoCard : Claim7 := { stood := { row := fnExactNextBlockUptoRow, standIns := [], harness := (true, "aac545f392b075e9f89e54acebff402d7b67c0817168ad2d1b54a2a366f28243"), looks := false }, kinds := [], alts := [], laidByText := true, laidKinds := [.sentinel, .wider], laidTests := true, laidLooks := .later }
def FnExactNextBlockUptoCardSaid : Prop := Claim7.holds Tryd.pinned (.plain (OpenSpec.upto fnExactNextBlockSpec)) fnExactNextBlockUptoCard

/-- THE SECOND FORM's CARD OF 'laws.FnExactFindBlocks'. -/
def fnExactFindBlocksUptoCard : Claim7 := { stood := { row := fnExactFindBlocksUptoRow, standIns := [], harness := (true, "aac545f392b075e9f89e54acebff402d7b67c0817168ad2d1b54a2a366f28243"), looks := false }, kinds := [], alts := [], laidByText := true, laidKinds := [.sentinel, .wider], laidTests := true, laidLooks := .later }
def FnExactFindBlocksUptoCardSaid : Prop := Claim7.holds Tryd.pinned (.plain (OpenSpec.upto fnExactFindBlocksSpec)) fnExactFindBlocksUptoCard

/-- THE SECOND FORM's CARD OF 'laws.FnExactSurvivors'. -/
def fnExactSurvivorsUptoCard : Claim7 := { stood := { row := fnExactSurvivorsUptoRow, standIns := [], harness := (true, "aac545f392b075e9f89e54acebff402d7b67c0817168ad2d1b54a2a366f28243"), looks := false }, kinds := [], alts := [], laidByText := true, laidKinds := [.sentinel, .sentinel, .sentinel, .wider], laidTests := true, laidLooks := .later }
def FnExactSurvivorsUptoCardSaid : Prop := Claim7.holds Tryd.pinned (.plain (OpenSpec.upto fnExactSurvivorsSpec)) fnExactSurvivorsUptoCard
end Rows
end Go.Proofs.YtepbjmpbcobfpaaDoor
