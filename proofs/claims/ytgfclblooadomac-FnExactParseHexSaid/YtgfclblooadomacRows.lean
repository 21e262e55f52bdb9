/-
  No cell of these rows narrows 'for every input' (looked for: loops, veiled, ifaces, maps, wideKeys, modest, calm, conditions, laid).
  DERIVED. THE GIVEN ROWS OF THIS SEAT. 7 by the template 'for every input the law returns true; each argument reads behind the call as it read before'; 0 by the template 'total and deterministic' (their statements: YtgfclblooadomacTotals.lean).
  GIVEN WITH THE SEED: the statements are not yours to turn. If you find one false, say at which input.
  Laid BY PROGRAM, IN A SANDBOX (cutbox-rows.mjs): the forced cells as the released guide's own fill.sh prints them over the translation 824fe9ec77b6a89a… (all of the seat's roots in one cut). By AI agents, Wed Nov 11 2026. No macro, syntax, notation, axiom, sorry.
-/
import Derived.Test.YtgfclblooadomacChecked
import GoSem.Claim
import GoSem.ClaimJoined
import GoSem.ClaimMapViews
import Derived.JoinedTies
import Derived.KernelRfl
namespace Go.Proofs.Ytgfclblooadomac
/- THE CELL 'sum', in the pinned program and in every row, IS THE sha256 OF THE DUMP (.gsa) THAT YtgfclblooadomacProg.lean LOADS. Nothing in Lean hashes anything: it is a label: what it is worth is what the hold of that sum in a sandbox is worth. -/
noncomputable def Try.pinned : Pinned := { name := "ytgfclblooadomac", sum := "824fe9ec77b6a89ae84f870693b3745a0b7dcd8eee881872e23f0c5c1905b398", checked := Try.checked }
namespace Rows
def none {H : Type} : Left H := { results := [], args := [] }

/-- 'laws.FnExactUnpackBits': WHATEVER THE INPUT: true; the input reads as it did. -/
def fnExactUnpackBitsSpec : ChangeSpec := { name := "fnExactUnpackBits", fn := fun _ => fun
  | [d1, d2] => { results := [.lit (.bool true)], args := [d1, d2] }
  | _ => none }
def fnExactUnpackBitsRow : OpenClaim := { program := "ytgfclblooadomac", sum := "824fe9ec77b6a89ae84f870693b3745a0b7dcd8eee881872e23f0c5c1905b398", func := "loop.example/soughtstreams/laws.FnExactUnpackBits", spec := "fnExactUnpackBits", apart := false }
def FnExactUnpackBitsSaid : Prop := fnExactUnpackBitsRow.holds Try.pinned (OpenSpec.ofChange fnExactUnpackBitsSpec)

/-- ITS FALSE NEIGHBOUR: 'it returns false'. Refute it at one input. -/
def fnExactUnpackBitsWrong : ChangeSpec := { name := "fnExactUnpackBits", fn := fun _ => fun
  | [d1, d2] => { results := [.lit (.bool false)], args := [d1, d2] }
  | _ => none }
def FnExactUnpackBitsWrongFalsely : Prop := fnExactUnpackBitsRow.holds Try.pinned (OpenSpec.ofChange fnExactUnpackBitsWrong)

/-- 'laws.FnExactTurnBytes': WHATEVER THE INPUT: true; the input reads as it did. -/
def fnExactTurnBytesSpec : ChangeSpec := { name := "fnExactTurnBytes", fn := fun _ => fun
  | [d] => { results := [.lit (.bool true)], args := [d] }
  | _ => none }
def fnExactTurnBytesRow : OpenClaim := { program := "ytgfclblooadomac", sum := "824fe9ec77b6a89ae84f870693b3745a0b7dcd8eee881872e23f0c5c1905b398", func := "loop.example/soughtstreams/laws.FnExactTurnBytes", spec := "fnExactTurnBytes", apart := false }
def FnExactTurnBytesSaid : Prop := fnExactTurnBytesRow.holds Try.pinned (OpenSpec.ofChange fnExactTurnBytesSpec)

/-- ITS FALSE NEIGHBOUR: 'it returns false'. Refute it at one input. -/
def fnExactTurnBytesWrong : ChangeSpec := { name := "fnExactTurnBytes", fn := fun _ => fun
  | [d] => { results := [.lit (.bool false)], args := [d] }
  | _ => none }
def FnExactTurnBytesWrongFalsely : Prop := fnExactTurnBytesRow.holds Try.pinned (OpenSpec.ofChange fnExactTurnBytesWrong)

/-- 'laws.FnExactBitAt': WHATEVER THE INPUT: true; the input reads as it did. -/
def fnExactBitAtSpec : ChangeSpec := { name := "fnExactBitAt", fn := fun _ => fun
  | [d1, d2, d3] => { results := [.lit (.bool true)], args := [d1, d2, d3] }
  | _ => none }
def fnExactBitAtRow : OpenClaim := { program := "ytgfclblooadomac", sum := "824fe9ec77b6a89ae84f870693b3745a0b7dcd8eee881872e23f0c5c1905b398", func := "loop.example/soughtstreams/laws.FnExactBitAt", spec := "fnExactBitAt", apart := false }
def FnExactBitAtSaid : Prop := fnExactBitAtRow.holds Try.pinned (OpenSpec.ofChange fnExactBitAtSpec)

/-- ITS FALSE NEIGHBOUR: 'it returns false'. Refute it at one input. -/
def fnExactBitAtWrong : ChangeSpec := { name := "fnExactBitAt", fn := fun _ => fun
  | [d1, d2, d3] => { results := [.lit (.bool false)], args := [d1, d2, d3] }
  | _ => none }
def FnExactBitAtWrongFalsely : Prop := fnExactBitAtRow.holds Try.pinned (OpenSpec.ofChange fnExactBitAtWrong)

/-- 'laws.FnExactSpanBits': WHATEVER THE INPUT: true; the input reads as it did. -/
def fnExactSpanBitsSpec : ChangeSpec := { name := "fnExactSpanBits", fn := fun _ => fun
  | [d1, d2, d3, d4] => { results := [.lit (.bool true)], args := [d1, d2, d3, d4] }
  | _ => none }
def fnExactSpanBitsRow : OpenClaim := { program := "ytgfclblooadomac", sum := "824fe9ec77b6a89ae84f870693b3745a0b7dcd8eee881872e23f0c5c1905b398", func := "loop.example/soughtstreams/laws.FnExactSpanBits", spec := "fnExactSpanBits", apart := false }
def FnExactSpanBitsSaid : Prop := fnExactSpanBitsRow.holds Try.pinned (OpenSpec.ofChange fnExactSpanBitsSpec)

/-- ITS FALSE NEIGHBOUR: 'it returns false'. Refute it at one input. -/
def fnExactSpanBitsWrong : ChangeSpec := { name := "fnExactSpanBits", fn := fun _ => fun
  | [d1, d2, d3, d4] => { results := [.lit (.bool false)], args := [d1, d2, d3, d4] }
  | _ => none }
def FnExactSpanBitsWrongFalsely : Prop := fnExactSpanBitsRow.holds Try.pinned (OpenSpec.ofChange fnExactSpanBitsWrong)

/-- 'laws.FnExactPadBits': WHATEVER THE INPUT: true; the input reads as it did. -/
def fnExactPadBitsSpec : ChangeSpec := { name := "fnExactPadBits", fn := fun _ => fun
  | [d] => { results := [.lit (.bool true)], args := [d] }
  | _ => none }
def fnExactPadBitsRow : OpenClaim := { program := "ytgfclblooadomac", sum := "824fe9ec77b6a89ae84f870693b3745a0b7dcd8eee881872e23f0c5c1905b398", func := "loop.example/soughtstreams/laws.FnExactPadBits", spec := "fnExactPadBits", inPlace := ["internal/abi.NoEscape", "internal/bytealg.MakeNoZero"], apart := false }
def FnExactPadBitsSaid : Prop := fnExactPadBitsRow.holds Try.pinned (OpenSpec.ofChange fnExactPadBitsSpec)

/-- ITS FALSE NEIGHBOUR: 'it returns false'. Refute it at one input. -/
def fnExactPadBitsWrong : ChangeSpec := { name := "fnExactPadBits", fn := fun _ => fun
  | [d] => { results := [.lit (.bool false)], args := [d] }
  | _ => none }
def FnExactPadBitsWrongFalsely : Prop := fnExactPadBitsRow.holds Try.pinned (OpenSpec.ofChange fnExactPadBitsWrong)

/-- 'laws.FnExactFormatHex': WHATEVER THE INPUT: true; the input reads as it did. -/
def fnExactFormatHexSpec : ChangeSpec := { name := "fnExactFormatHex", fn := fun _ => fun
  | [d] => { results := [.lit (.bool true)], args := [d] }
  | _ => none }
def fnExactFormatHexRow : OpenClaim := { program := "ytgfclblooadomac", sum := "824fe9ec77b6a89ae84f870693b3745a0b7dcd8eee881872e23f0c5c1905b398", func := "loop.example/soughtstreams/laws.FnExactFormatHex", spec := "fnExactFormatHex", apart := false }
def FnExactFormatHexSaid : Prop := fnExactFormatHexRow.holds Try.pinned (OpenSpec.ofChange fnExactFormatHexSpec)

/-- ITS FALSE NEIGHBOUR: 'it returns false'. Refute it at one input. -/
def fnExactFormatHexWrong : ChangeSpec := { name := "fnExactFormatHex", fn := fun _ => fun
  | [d] => { results := [.lit (.bool false)], args := [d] }
  | _ => none }
def FnExactFormatHexWrongFalsely : Prop := fnExactFormatHexRow.holds Try.pinned (OpenSpec.ofChange fnExactFormatHexWrong)

/-- 'laws.FnExactParseHex': WHATEVER THE INPUT: true; the input reads as it did. -/
def fnExactParseHexSpec : ChangeSpec := { name := "fnExactParseHex", fn := fun _ => fun
  | [d] => { results := [.lit (.bool true)], args := [d] }
  | _ => none }
def fnExactParseHexRow : OpenClaim := { program := "ytgfclblooadomac", sum := "824fe9ec77b6a89ae84f870693b3745a0b7dcd8eee881872e23f0c5c1905b398", func := "loop.example/soughtstreams/laws.FnExactParseHex", spec := "fnExactParseHex", inPlace := ["internal/bytealg.IndexByteString"], apart := false }
def FnExactParseHexSaid : Prop := fnExactParseHexRow.holds Try.pinned (OpenSpec.ofChange fnExactParseHexSpec)

/-- ITS FALSE NEIGHBOUR: 'it returns false'. Refute it at one input. -/
def fnExactParseHexWrong : ChangeSpec := { name := "fnExactParseHex", fn := fun _ => fun
  | [d] => { results := [.lit (.bool false)], args := [d] }
  | _ => none }
def FnExactParseHexWrongFalsely : Prop := fnExactParseHexRow.holds Try.pinned (OpenSpec.ofChange fnExactParseHexWrong)

/- THE SECOND FORM. 'bulk': how many values and letters a reading holds, each counted each time it is reached (what is shared counts as often as it is met; a slice's spare places count too). A statement '..UptoSaid' is the law's where the arguments, and the package variables that the reading takes, are together of bulk at most 1048576: NARROWER than '..Said'. Prove '..Said' where nothing that the law and all that it calls make is longer than what came in: it says more and counts as full. Else prove '..UptoSaid'. A law counts once. -/
mutual
def uptoBulk {H : Type} : DataW H → Nat
  | .lit (.string bytes) => bytes.length + 1
  | .lit _ => 1
  | .nil => 1
  | .ptr d => uptoBulk d + 1
  | .slice elems spare => uptoBulkAll elems + uptoBulkAll spare + 1
  | .agg parts => uptoBulkAll parts + 1
  | .iface _ d => uptoBulk d + 1
  | .map entries => uptoBulkEntries entries + 1
  | .held _ => 1
def uptoBulkAll {H : Type} : List (DataW H) → Nat
  | [] => 0
  | d :: r => uptoBulk d + uptoBulkAll r
def uptoBulkEntries {H : Type} : List (Lit × DataW H) → Nat
  | [] => 0
  | x :: r => uptoBulkEntry x + uptoBulkEntries r
def uptoBulkEntry {H : Type} : Lit × DataW H → Nat
  | (.string bytes, d) => bytes.length + uptoBulk d + 1
  | (_, d) => uptoBulk d + 1
 end
def uptoSmall : (H : Type) → List (DataW H) → Bool := fun _ ds => decide (uptoBulkAll ds ≤ 1048576)
def OpenSpec.upto (s : _root_.Go.ChangeSpec) : _root_.Go.OpenSpec := { _root_.Go.OpenSpec.ofChange s with cond := some uptoSmall }

/-- 'laws.FnExactUnpackBits', WHERE WHAT IT READS IS OF BULK AT MOST 1048576: true; the input reads as it did. -/
def fnExactUnpackBitsUptoRow : OpenClaim := { program := "ytgfclblooadomac", sum := "824fe9ec77b6a89ae84f870693b3745a0b7dcd8eee881872e23f0c5c1905b398", func := "loop.example/soughtstreams/laws.FnExactUnpackBits", spec := "fnExactUnpackBits", apart := false, narrowed := true }
def FnExactUnpackBitsUptoSaid : Prop := fnExactUnpackBitsUptoRow.holds Try.pinned (OpenSpec.upto fnExactUnpackBitsSpec)

/-- 'laws.FnExactTurnBytes', WHERE WHAT IT READS IS OF BULK AT MOST 1048576: true; the input reads as it did. -/
def fnExactTurnBytesUptoRow : OpenClaim := { program := "ytgfclblooadomac", sum := "824fe9ec77b6a89ae84f870693b3745a0b7dcd8eee881872e23f0c5c1905b398", func := "loop.example/soughtstreams/laws.FnExactTurnBytes", spec := "fnExactTurnBytes", apart := false, narrowed := true }
def FnExactTurnBytesUptoSaid : Prop := fnExactTurnBytesUptoRow.holds Try.pinned (OpenSpec.upto fnExactTurnBytesSpec)

/-- 'laws.FnExactBitAt', WHERE WHAT IT READS IS OF BULK AT MOST 1048576: true; the input reads as it did. -/
def fnExactBitAtUptoRow : OpenClaim := { program := "ytgfclblooadomac", sum := "824fe9ec77b6a89ae84f870693b3745a0b7dcd8eee881872e23f0c5c1905b398", func := "loop.example/soughtstreams/laws.FnExactBitAt", spec := "fnExactBitAt", apart := false, narrowed := true }
def FnExactBitAtUptoSaid : Prop := fnExactBitAtUptoRow.holds Try.pinned (OpenSpec.upto fnExactBitAtSpec)

/-- 'laws.FnExactSpanBits', WHERE WHAT IT READS IS OF BULK AT MOST 1048576: true; the input reads as it did. -/
def fnExactSpanBitsUptoRow : OpenClaim := { program := "ytgfclblooadomac", sum := "824fe9ec77b6a89ae84f870693b3745a0b7dcd8eee881872e23f0c5c1905b398", func := "loop.example/soughtstreams/laws.FnExactSpanBits", spec := "fnExactSpanBits", apart := false, narrowed := true }
def FnExactSpanBitsUptoSaid : Prop := fnExactSpanBitsUptoRow.holds Try.pinned (OpenSpec.upto fnExactSpanBitsSpec)

/-- 'laws.FnExactPadBits', WHERE WHAT IT READS IS OF BULK AT MOST 1048576: true; the input reads as it did. -/
def fnExactPadBitsUptoRow : OpenClaim := { program := "ytgfclblooadomac", sum := "824fe9ec77b6a89ae84f870693b3745a0b7dcd8eee881872e23f0c5c1905b398", func := "loop.example/soughtstreams/laws.FnExactPadBits", spec := "fnExactPadBits", inPlace := ["internal/abi.NoEscape", "internal/bytealg.MakeNoZero"], apart := false, narrowed := true }
def FnExactPadBitsUptoSaid : Prop := fnExactPadBitsUptoRow.holds Try.pinned (OpenSpec.upto fnExactPadBitsSpec)

/-- 'laws.FnExactFormatHex', WHERE WHAT IT READS IS OF BULK AT MOST 1048576: true; the input reads as it did. -/
def fnExactFormatHexUptoRow : OpenClaim := { program := "ytgfclblooadomac", sum := "824fe9ec77b6a89ae84f870693b3745a0b7dcd8eee881872e23f0c5c1905b398", func := "loop.example/soughtstreams/laws.FnExactFormatHex", spec := "fnExactFormatHex", apart := false, narrowed := true }
def FnExactFormatHexUptoSaid : Prop := fnExactFormatHexUptoRow.holds Try.pinned (OpenSpec.upto fnExactFormatHexSpec)

/-- 'laws.FnExactParseHex', WHERE WHAT IT READS IS OF BULK AT MOST 1048576: true; the input reads as it did. -/
def fnExactParseHexUptoRow : OpenClaim := { program := "ytgfclblooadomac", sum := "824fe9ec77b6a89ae84f870693b3745a0b7dcd8eee881872e23f0c5c1905b398", func := "loop.example/soughtstreams/laws.FnExactParseHex", spec := "fnExactParseHex", inPlace := ["internal/bytealg.IndexByteString"], apart := false, narrowed := true }
def FnExactParseHexUptoSaid : Prop := fnExactParseHexUptoRow.holds Try.pinned (OpenSpec.upto fnExactParseHexSpec)

end Rows
end Go.Proofs.Ytgfclblooadomac
