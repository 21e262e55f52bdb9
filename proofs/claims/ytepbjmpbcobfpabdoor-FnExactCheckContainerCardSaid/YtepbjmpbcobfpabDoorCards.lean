/-
  DERIVED. GIVEN WITH THE SEED: THE CARDS: each row of YtepbjmpbcobfpabDoorRows.lean that lists a variable, with what it lists TIED to the program's text (the seventh form; the later family's looks); each row that meets fmt, with fmt's text TOLD by the authors' own Lean function (tested against real Go, not proved from fmt's source: count such statements apart). THE CARD IS WHAT COUNTS. Prove the row's statement (the work); the ties are given (YtepbjmpbcobfpabDoorTie.lean); close each card by the builder's one call (the guide's Derived/Test/ToyasCard.lean, 'card_holds'). Laid BY PROGRAM, IN A SANDBOX (cutbox-door.mjs). By AI agents, Wed Nov 11 2026. No macro, syntax, notation, axiom, sorry.
-/
import Derived.Test.YtepbjmpbcobfpabDoorRows
import GoSem.ClaimSeven
namespace Go.Proofs.YtepbjmpbcobfpabDoor
namespace Rows

/-- THE TIED CARD OF 'laws.FnExactParseBlock'. -/
def fnExactParseBlockCard : Claim7 := { stood := { row := fnExactParseBlockRow, standIns := [], harness := (true, "80f7753ef1a2daa02b305b9f3402434b2bc63372c694d4c08919f4148c85a005"), looks := true }, kinds := [], alts := [], laidByText := true, laidKinds := [.sentinel, .wider], laidTests := true, laidLooks := .later }
def FnExactParseBlockCardSaid : Prop := Claim7.holds Tryd.pinned (.plain (OpenSpec.ofChange fnExactParseBlockSpec)) fnExactParseBlockCard

/-- THE TIED CARD OF 'laws.FnExactCheckContainer'. -/
def fnExactCheckContainerCard : Claim7 := { stood := { row := fnExactCheckContainerRow, standIns := [], harness := (true, "80f7753ef1a2daa02b305b9f3402434b2bc63372c694d4c08919f4148c85a005"), looks := true }, kinds := [], alts := [], laidByText := true, laidKinds := [.sentinel, .sentinel, .sentinel, .wider], laidTests := true, laidLooks := .later }
def FnExactCheckContainerCardSaid : Prop := Claim7.holds Tryd.pinned (.plain (OpenSpec.ofChange fnExactCheckContainerSpec)) fnExactCheckContainerCard

/-- THE SECOND FORM's CARD OF 'laws.FnExactParseBlock'. -/
def fnExactParseBlockUptoCard : Claim7 := { stood := { row := fnExactParseBlockUptoRow, standIns := [], harness := (true, "80f7753ef1a2daa02b305b9f3402434b2bc63372c694d4c08919f4148c85a005"), looks := true }, kinds := [], alts := [], laidByText := true, laidKinds := [.sentinel, .wider], laidTests := true, laidLooks := .later }
def FnExactParseBlockUptoCardSaid : Prop := Claim7.holds Tryd.pinned (.plain (OpenSpec.upto fnExactParseBlockSpec)) fnExactParseBlockUptoCard

/-- THE SECOND FORM's CARD OF 'laws.FnExactCheckContainer'. -/
def fnExactCheckContainerUptoCard : Claim7 := { stood := { row := fnExactCheckContainerUptoRow, standIns := [], harness := (true, "80f7753ef1a2daa02b305b9f3402434b2bc63372c694d4c08919f4148c85a005"), looks := true }, kinds := [], alts := [], laidByText := true, laidKinds := [.sentinel, .sentinel, .sentinel, .wider], laidTests := true, laidLooks := .later }
def FnExactCheckContainerUptoCardSaid : Prop := Claim7.holds Tryd.pinned (.plain (OpenSpec.upto fnExactCheckContainerSpec)) fnExactCheckContainerUptoCard
end Rows
end Go.Proofs.YtepbjmpbcobfpabDoor
