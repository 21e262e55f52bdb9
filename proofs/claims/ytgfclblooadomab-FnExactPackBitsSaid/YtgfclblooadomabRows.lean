/-
  No cell of these rows narrows 'for every input' (looked for: loops, veiled, ifaces, maps, wideKeys, modest, calm, conditions, laid).
  DERIVED. THE GIVEN ROWS OF THIS SEAT. 10 by the template 'for every input the law returns true; each argument reads behind the call as it read before'; 0 by the template 'total and deterministic' (their statements: YtgfclblooadomabTotals.lean).
  GIVEN WITH THE SEED: the statements are not yours to turn. If you find one false, say at which input.
  Laid BY PROGRAM, IN A SANDBOX (cutbox-rows.mjs): the forced cells as the released guide's own fill.sh prints them over the translation 4769aa9dc3eae502… (all of the seat's roots in one cut). By AI agents, Wed Nov 11 2026. No macro, syntax, notation, axiom, sorry.
-/
import Derived.Test.YtgfclblooadomabChecked
import GoSem.Claim
import GoSem.ClaimJoined
import GoSem.ClaimMapViews
import Derived.JoinedTies
import Derived.KernelRfl
namespace Go.Proofs.Ytgfclblooadomab
/- THE CELL 'sum', in the pinned program and in every row, IS THE sha256 OF THE DUMP (.gsa) THAT YtgfclblooadomabProg.lean LOADS. Nothing in Lean hashes anything: it is a label: what it is worth is what the hold of that sum in a sandbox is worth. -/
noncomputable def Try.pinned : Pinned := { name := "ytgfclblooadomab", sum := "4769aa9dc3eae502cbcc3c0f627cad3c58453da9a99780b9a7af704414c7febb", checked := Try.checked }
namespace Rows
def none {H : Type} : Left H := { results := [], args := [] }

/-- 'laws.FnExactClearCode': WHATEVER THE INPUT: true; the input reads as it did. -/
def fnExactClearCodeSpec : ChangeSpec := { name := "fnExactClearCode", fn := fun _ => fun
  | [d] => { results := [.lit (.bool true)], args := [d] }
  | _ => none }
def fnExactClearCodeRow : OpenClaim := { program := "ytgfclblooadomab", sum := "4769aa9dc3eae502cbcc3c0f627cad3c58453da9a99780b9a7af704414c7febb", func := "loop.example/soughtstreams/laws.FnExactClearCode", spec := "fnExactClearCode", apart := false }
def FnExactClearCodeSaid : Prop := fnExactClearCodeRow.holds Try.pinned (OpenSpec.ofChange fnExactClearCodeSpec)

/-- ITS FALSE NEIGHBOUR: 'it returns false'. Refute it at one input. -/
def fnExactClearCodeWrong : ChangeSpec := { name := "fnExactClearCode", fn := fun _ => fun
  | [d] => { results := [.lit (.bool false)], args := [d] }
  | _ => none }
def FnExactClearCodeWrongFalsely : Prop := fnExactClearCodeRow.holds Try.pinned (OpenSpec.ofChange fnExactClearCodeWrong)

/-- 'laws.FnExactEndCode': WHATEVER THE INPUT: true; the input reads as it did. -/
def fnExactEndCodeSpec : ChangeSpec := { name := "fnExactEndCode", fn := fun _ => fun
  | [d] => { results := [.lit (.bool true)], args := [d] }
  | _ => none }
def fnExactEndCodeRow : OpenClaim := { program := "ytgfclblooadomab", sum := "4769aa9dc3eae502cbcc3c0f627cad3c58453da9a99780b9a7af704414c7febb", func := "loop.example/soughtstreams/laws.FnExactEndCode", spec := "fnExactEndCode", apart := false }
def FnExactEndCodeSaid : Prop := fnExactEndCodeRow.holds Try.pinned (OpenSpec.ofChange fnExactEndCodeSpec)

/-- ITS FALSE NEIGHBOUR: 'it returns false'. Refute it at one input. -/
def fnExactEndCodeWrong : ChangeSpec := { name := "fnExactEndCode", fn := fun _ => fun
  | [d] => { results := [.lit (.bool false)], args := [d] }
  | _ => none }
def FnExactEndCodeWrongFalsely : Prop := fnExactEndCodeRow.holds Try.pinned (OpenSpec.ofChange fnExactEndCodeWrong)

/-- 'laws.FnExactLastCode': WHATEVER THE INPUT: true; the input reads as it did. -/
def fnExactLastCodeSpec : ChangeSpec := { name := "fnExactLastCode", fn := fun _ => fun
  | [d] => { results := [.lit (.bool true)], args := [d] }
  | _ => none }
def fnExactLastCodeRow : OpenClaim := { program := "ytgfclblooadomab", sum := "4769aa9dc3eae502cbcc3c0f627cad3c58453da9a99780b9a7af704414c7febb", func := "loop.example/soughtstreams/laws.FnExactLastCode", spec := "fnExactLastCode", apart := false }
def FnExactLastCodeSaid : Prop := fnExactLastCodeRow.holds Try.pinned (OpenSpec.ofChange fnExactLastCodeSpec)

/-- ITS FALSE NEIGHBOUR: 'it returns false'. Refute it at one input. -/
def fnExactLastCodeWrong : ChangeSpec := { name := "fnExactLastCode", fn := fun _ => fun
  | [d] => { results := [.lit (.bool false)], args := [d] }
  | _ => none }
def FnExactLastCodeWrongFalsely : Prop := fnExactLastCodeRow.holds Try.pinned (OpenSpec.ofChange fnExactLastCodeWrong)

/-- 'laws.FnExactDataFits': WHATEVER THE INPUT: true; the input reads as it did. -/
def fnExactDataFitsSpec : ChangeSpec := { name := "fnExactDataFits", fn := fun _ => fun
  | [d1, d2] => { results := [.lit (.bool true)], args := [d1, d2] }
  | _ => none }
def fnExactDataFitsRow : OpenClaim := { program := "ytgfclblooadomab", sum := "4769aa9dc3eae502cbcc3c0f627cad3c58453da9a99780b9a7af704414c7febb", func := "loop.example/soughtstreams/laws.FnExactDataFits", spec := "fnExactDataFits", apart := false }
def FnExactDataFitsSaid : Prop := fnExactDataFitsRow.holds Try.pinned (OpenSpec.ofChange fnExactDataFitsSpec)

/-- ITS FALSE NEIGHBOUR: 'it returns false'. Refute it at one input. -/
def fnExactDataFitsWrong : ChangeSpec := { name := "fnExactDataFits", fn := fun _ => fun
  | [d1, d2] => { results := [.lit (.bool false)], args := [d1, d2] }
  | _ => none }
def FnExactDataFitsWrongFalsely : Prop := fnExactDataFitsRow.holds Try.pinned (OpenSpec.ofChange fnExactDataFitsWrong)

/-- 'laws.FnExactBitsNeeded': WHATEVER THE INPUT: true; the input reads as it did. -/
def fnExactBitsNeededSpec : ChangeSpec := { name := "fnExactBitsNeeded", fn := fun _ => fun
  | [d] => { results := [.lit (.bool true)], args := [d] }
  | _ => none }
def fnExactBitsNeededRow : OpenClaim := { program := "ytgfclblooadomab", sum := "4769aa9dc3eae502cbcc3c0f627cad3c58453da9a99780b9a7af704414c7febb", func := "loop.example/soughtstreams/laws.FnExactBitsNeeded", spec := "fnExactBitsNeeded", apart := false }
def FnExactBitsNeededSaid : Prop := fnExactBitsNeededRow.holds Try.pinned (OpenSpec.ofChange fnExactBitsNeededSpec)

/-- ITS FALSE NEIGHBOUR: 'it returns false'. Refute it at one input. -/
def fnExactBitsNeededWrong : ChangeSpec := { name := "fnExactBitsNeeded", fn := fun _ => fun
  | [d] => { results := [.lit (.bool false)], args := [d] }
  | _ => none }
def FnExactBitsNeededWrongFalsely : Prop := fnExactBitsNeededRow.holds Try.pinned (OpenSpec.ofChange fnExactBitsNeededWrong)

/-- 'laws.FnExactBitsValid': WHATEVER THE INPUT: true; the input reads as it did. -/
def fnExactBitsValidSpec : ChangeSpec := { name := "fnExactBitsValid", fn := fun _ => fun
  | [d] => { results := [.lit (.bool true)], args := [d] }
  | _ => none }
def fnExactBitsValidRow : OpenClaim := { program := "ytgfclblooadomab", sum := "4769aa9dc3eae502cbcc3c0f627cad3c58453da9a99780b9a7af704414c7febb", func := "loop.example/soughtstreams/laws.FnExactBitsValid", spec := "fnExactBitsValid", apart := false }
def FnExactBitsValidSaid : Prop := fnExactBitsValidRow.holds Try.pinned (OpenSpec.ofChange fnExactBitsValidSpec)

/-- ITS FALSE NEIGHBOUR: 'it returns false'. Refute it at one input. -/
def fnExactBitsValidWrong : ChangeSpec := { name := "fnExactBitsValid", fn := fun _ => fun
  | [d] => { results := [.lit (.bool false)], args := [d] }
  | _ => none }
def FnExactBitsValidWrongFalsely : Prop := fnExactBitsValidRow.holds Try.pinned (OpenSpec.ofChange fnExactBitsValidWrong)

/-- 'laws.FnExactCodeBits': WHATEVER THE INPUT: true; the input reads as it did. -/
def fnExactCodeBitsSpec : ChangeSpec := { name := "fnExactCodeBits", fn := fun _ => fun
  | [d1, d2, d3] => { results := [.lit (.bool true)], args := [d1, d2, d3] }
  | _ => none }
def fnExactCodeBitsRow : OpenClaim := { program := "ytgfclblooadomab", sum := "4769aa9dc3eae502cbcc3c0f627cad3c58453da9a99780b9a7af704414c7febb", func := "loop.example/soughtstreams/laws.FnExactCodeBits", spec := "fnExactCodeBits", apart := false }
def FnExactCodeBitsSaid : Prop := fnExactCodeBitsRow.holds Try.pinned (OpenSpec.ofChange fnExactCodeBitsSpec)

/-- ITS FALSE NEIGHBOUR: 'it returns false'. Refute it at one input. -/
def fnExactCodeBitsWrong : ChangeSpec := { name := "fnExactCodeBits", fn := fun _ => fun
  | [d1, d2, d3] => { results := [.lit (.bool false)], args := [d1, d2, d3] }
  | _ => none }
def FnExactCodeBitsWrongFalsely : Prop := fnExactCodeBitsRow.holds Try.pinned (OpenSpec.ofChange fnExactCodeBitsWrong)

/-- 'laws.FnExactBitsCode': WHATEVER THE INPUT: true; the input reads as it did. -/
def fnExactBitsCodeSpec : ChangeSpec := { name := "fnExactBitsCode", fn := fun _ => fun
  | [d1, d2] => { results := [.lit (.bool true)], args := [d1, d2] }
  | _ => none }
def fnExactBitsCodeRow : OpenClaim := { program := "ytgfclblooadomab", sum := "4769aa9dc3eae502cbcc3c0f627cad3c58453da9a99780b9a7af704414c7febb", func := "loop.example/soughtstreams/laws.FnExactBitsCode", spec := "fnExactBitsCode", apart := false }
def FnExactBitsCodeSaid : Prop := fnExactBitsCodeRow.holds Try.pinned (OpenSpec.ofChange fnExactBitsCodeSpec)

/-- ITS FALSE NEIGHBOUR: 'it returns false'. Refute it at one input. -/
def fnExactBitsCodeWrong : ChangeSpec := { name := "fnExactBitsCode", fn := fun _ => fun
  | [d1, d2] => { results := [.lit (.bool false)], args := [d1, d2] }
  | _ => none }
def FnExactBitsCodeWrongFalsely : Prop := fnExactBitsCodeRow.holds Try.pinned (OpenSpec.ofChange fnExactBitsCodeWrong)

/-- 'laws.FnExactReverseBits': WHATEVER THE INPUT: true; the input reads as it did. -/
def fnExactReverseBitsSpec : ChangeSpec := { name := "fnExactReverseBits", fn := fun _ => fun
  | [d1, d2] => { results := [.lit (.bool true)], args := [d1, d2] }
  | _ => none }
def fnExactReverseBitsRow : OpenClaim := { program := "ytgfclblooadomab", sum := "4769aa9dc3eae502cbcc3c0f627cad3c58453da9a99780b9a7af704414c7febb", func := "loop.example/soughtstreams/laws.FnExactReverseBits", spec := "fnExactReverseBits", apart := false }
def FnExactReverseBitsSaid : Prop := fnExactReverseBitsRow.holds Try.pinned (OpenSpec.ofChange fnExactReverseBitsSpec)

/-- ITS FALSE NEIGHBOUR: 'it returns false'. Refute it at one input. -/
def fnExactReverseBitsWrong : ChangeSpec := { name := "fnExactReverseBits", fn := fun _ => fun
  | [d1, d2] => { results := [.lit (.bool false)], args := [d1, d2] }
  | _ => none }
def FnExactReverseBitsWrongFalsely : Prop := fnExactReverseBitsRow.holds Try.pinned (OpenSpec.ofChange fnExactReverseBitsWrong)

/-- 'laws.FnExactPackBits': WHATEVER THE INPUT: true; the input reads as it did. -/
def fnExactPackBitsSpec : ChangeSpec := { name := "fnExactPackBits", fn := fun _ => fun
  | [d1, d2] => { results := [.lit (.bool true)], args := [d1, d2] }
  | _ => none }
def fnExactPackBitsRow : OpenClaim := { program := "ytgfclblooadomab", sum := "4769aa9dc3eae502cbcc3c0f627cad3c58453da9a99780b9a7af704414c7febb", func := "loop.example/soughtstreams/laws.FnExactPackBits", spec := "fnExactPackBits", apart := false }
def FnExactPackBitsSaid : Prop := fnExactPackBitsRow.holds Try.pinned (OpenSpec.ofChange fnExactPackBitsSpec)

/-- ITS FALSE NEIGHBOUR: 'it returns false'. Refute it at one input. -/
def fnExactPackBitsWrong : ChangeSpec := { name := "fnExactPackBits", fn := fun _ => fun
  | [d1, d2] => { results := [.lit (.bool false)], args := [d1, d2] }
  | _ => none }
def FnExactPackBitsWrongFalsely : Prop := fnExactPackBitsRow.holds Try.pinned (OpenSpec.ofChange fnExactPackBitsWrong)

/- THE SECOND FORM. 'bulk': how many values and letters a reading holds, each counted each time it is reached (what is shared counts as often as it is met; a slice's spare places count too). A statement '..UptoSaid' is the law's where the arguments, and the package variables that the reading takes, are together of bulk at most 1048576: NARROWER than '..Said'. Prove '..Said' where nothing that the law and all that it calls make is longer than what came in: it says more and counts as full. Else prove '..UptoSaid'. A law counts once. -/
mutual
def uptoBulk {H : Type} : DataW H → Nat
  | .lit (.string bytes) => bytes.length + 1
  | .lit _ => 1
  | .nil => 1
  | .ptr d => uptoBulk d + 1
  | .slice elems spare => uptoBulkAll elems + uptoBulkAll spare + 1
  | .agg parts => uptoBulkAll parts + 1
  | .iface _ d => uptoBulk d + 1
  | .map entries => uptoBulkEntries entries + 1
  | .held _ => 1
def uptoBulkAll {H : Type} : List (DataW H) → Nat
  | [] => 0
  | d :: r => uptoBulk d + uptoBulkAll r
def uptoBulkEntries {H : Type} : List (Lit × DataW H) → Nat
  | [] => 0
  | x :: r => uptoBulkEntry x + uptoBulkEntries r
def uptoBulkEntry {H : Type} : Lit × DataW H → Nat
  | (.string bytes, d) => bytes.length + uptoBulk d + 1
  | (_, d) => uptoBulk d + 1
 end
def uptoSmall : (H : Type) → List (DataW H) → Bool := fun _ ds => decide (uptoBulkAll ds ≤ 1048576)
def OpenSpec.upto (s : _root_.Go.ChangeSpec) : _root_.Go.OpenSpec := { _root_.Go.OpenSpec.ofChange s with cond := some uptoSmall }

/-- 'laws.FnExactClearCode', WHERE WHAT IT READS IS OF BULK AT MOST 1048576: true; the input reads as it did. -/
def fnExactClearCodeUptoRow : OpenClaim := { program := "ytgfclblooadomab", sum := "4769aa9dc3eae502cbcc3c0f627cad3c58453da9a99780b9a7af704414c7febb", func := "loop.example/soughtstreams/laws.FnExactClearCode", spec := "fnExactClearCode", apart := false, narrowed := true }
def FnExactClearCodeUptoSaid : Prop := fnExactClearCodeUptoRow.holds Try.pinned (OpenSpec.upto fnExactClearCodeSpec)

/-- 'laws.FnExactEndCode', WHERE WHAT IT READS IS OF BULK AT MOST 1048576: true; the input reads as it did. -/
def fnExactEndCodeUptoRow : OpenClaim := { program := "ytgfclblooadomab", sum := "4769aa9dc3eae502cbcc3c0f627cad3c58453da9a99780b9a7af704414c7febb", func := "loop.example/soughtstreams/laws.FnExactEndCode", spec := "fnExactEndCode", apart := false, narrowed := true }
def FnExactEndCodeUptoSaid : Prop := fnExactEndCodeUptoRow.holds Try.pinned (OpenSpec.upto fnExactEndCodeSpec)

/-- 'laws.FnExactLastCode', WHERE WHAT IT READS IS OF BULK AT MOST 1048576: true; the input reads as it did. -/
def fnExactLastCodeUptoRow : OpenClaim := { program := "ytgfclblooadomab", sum := "4769aa9dc3eae502cbcc3c0f627cad3c58453da9a99780b9a7af704414c7febb", func := "loop.example/soughtstreams/laws.FnExactLastCode", spec := "fnExactLastCode", apart := false, narrowed := true }
def FnExactLastCodeUptoSaid : Prop := fnExactLastCodeUptoRow.holds Try.pinned (OpenSpec.upto fnExactLastCodeSpec)

/-- 'laws.FnExactDataFits', WHERE WHAT IT READS IS OF BULK AT MOST 1048576: true; the input reads as it did. -/
def fnExactDataFitsUptoRow : OpenClaim := { program := "ytgfclblooadomab", sum := "4769aa9dc3eae502cbcc3c0f627cad3c58453da9a99780b9a7af704414c7febb", func := "loop.example/soughtstreams/laws.FnExactDataFits", spec := "fnExactDataFits", apart := false, narrowed := true }
def FnExactDataFitsUptoSaid : Prop := fnExactDataFitsUptoRow.holds Try.pinned (OpenSpec.upto fnExactDataFitsSpec)

/-- 'laws.FnExactBitsNeeded', WHERE WHAT IT READS IS OF BULK AT MOST 1048576: true; the input reads as it did. -/
def fnExactBitsNeededUptoRow : OpenClaim := { program := "ytgfclblooadomab", sum := "4769aa9dc3eae502cbcc3c0f627cad3c58453da9a99780b9a7af704414c7febb", func := "loop.example/soughtstreams/laws.FnExactBitsNeeded", spec := "fnExactBitsNeeded", apart := false, narrowed := true }
def FnExactBitsNeededUptoSaid : Prop := fnExactBitsNeededUptoRow.holds Try.pinned (OpenSpec.upto fnExactBitsNeededSpec)

/-- 'laws.FnExactBitsValid', WHERE WHAT IT READS IS OF BULK AT MOST 1048576: true; the input reads as it did. -/
def fnExactBitsValidUptoRow : OpenClaim := { program := "ytgfclblooadomab", sum := "4769aa9dc3eae502cbcc3c0f627cad3c58453da9a99780b9a7af704414c7febb", func := "loop.example/soughtstreams/laws.FnExactBitsValid", spec := "fnExactBitsValid", apart := false, narrowed := true }
def FnExactBitsValidUptoSaid : Prop := fnExactBitsValidUptoRow.holds Try.pinned (OpenSpec.upto fnExactBitsValidSpec)

/-- 'laws.FnExactCodeBits', WHERE WHAT IT READS IS OF BULK AT MOST 1048576: true; the input reads as it did. -/
def fnExactCodeBitsUptoRow : OpenClaim := { program := "ytgfclblooadomab", sum := "4769aa9dc3eae502cbcc3c0f627cad3c58453da9a99780b9a7af704414c7febb", func := "loop.example/soughtstreams/laws.FnExactCodeBits", spec := "fnExactCodeBits", apart := false, narrowed := true }
def FnExactCodeBitsUptoSaid : Prop := fnExactCodeBitsUptoRow.holds Try.pinned (OpenSpec.upto fnExactCodeBitsSpec)

/-- 'laws.FnExactBitsCode', WHERE WHAT IT READS IS OF BULK AT MOST 1048576: true; the input reads as it did. -/
def fnExactBitsCodeUptoRow : OpenClaim := { program := "ytgfclblooadomab", sum := "4769aa9dc3eae502cbcc3c0f627cad3c58453da9a99780b9a7af704414c7febb", func := "loop.example/soughtstreams/laws.FnExactBitsCode", spec := "fnExactBitsCode", apart := false, narrowed := true }
def FnExactBitsCodeUptoSaid : Prop := fnExactBitsCodeUptoRow.holds Try.pinned (OpenSpec.upto fnExactBitsCodeSpec)

/-- 'laws.FnExactReverseBits', WHERE WHAT IT READS IS OF BULK AT MOST 1048576: true; the input reads as it did. -/
def fnExactReverseBitsUptoRow : OpenClaim := { program := "ytgfclblooadomab", sum := "4769aa9dc3eae502cbcc3c0f627cad3c58453da9a99780b9a7af704414c7febb", func := "loop.example/soughtstreams/laws.FnExactReverseBits", spec := "fnExactReverseBits", apart := false, narrowed := true }
def FnExactReverseBitsUptoSaid : Prop := fnExactReverseBitsUptoRow.holds Try.pinned (OpenSpec.upto fnExactReverseBitsSpec)

/-- 'laws.FnExactPackBits', WHERE WHAT IT READS IS OF BULK AT MOST 1048576: true; the input reads as it did. -/
def fnExactPackBitsUptoRow : OpenClaim := { program := "ytgfclblooadomab", sum := "4769aa9dc3eae502cbcc3c0f627cad3c58453da9a99780b9a7af704414c7febb", func := "loop.example/soughtstreams/laws.FnExactPackBits", spec := "fnExactPackBits", apart := false, narrowed := true }
def FnExactPackBitsUptoSaid : Prop := fnExactPackBitsUptoRow.holds Try.pinned (OpenSpec.upto fnExactPackBitsSpec)

end Rows
end Go.Proofs.Ytgfclblooadomab
