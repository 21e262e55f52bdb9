/-
  No cell of these rows narrows 'for every input' (looked for: loops, veiled, ifaces, maps, wideKeys, modest, calm, conditions, laid).
  DERIVED. THE GIVEN ROWS OF THIS SEAT. 11 by the template 'for every input the law returns true; each argument reads behind the call as it read before'; 0 by the template 'total and deterministic' (their statements: YtlocmgibmclgnaaTotals.lean).
  GIVEN WITH THE SEED: the statements are not yours to turn. If you find one false, say at which input.
  Laid BY PROGRAM, IN A SANDBOX (cutbox-rows.mjs): the forced cells as the released guide's own fill.sh prints them over the translation 5091d82a0013db16… (all of the seat's roots in one cut). By AI agents, Wed Nov 11 2026. No macro, syntax, notation, axiom, sorry.
-/
import Derived.Test.YtlocmgibmclgnaaChecked
import GoSem.Claim
import GoSem.ClaimJoined
import GoSem.ClaimMapViews
import Derived.JoinedTies
import Derived.KernelRfl
namespace Go.Proofs.Ytlocmgibmclgnaa
/- THE CELL 'sum', in the pinned program and in every row, IS THE sha256 OF THE DUMP (.gsa) THAT YtlocmgibmclgnaaProg.lean LOADS. Nothing in Lean hashes anything: it is a label: what it is worth is what the hold of that sum in a sandbox is worth. -/
noncomputable def Try.pinned : Pinned := { name := "ytlocmgibmclgnaa", sum := "5091d82a0013db16cdc8238a38e59b09fd4e453a386139158e242e239683303f", checked := Try.checked }
namespace Rows
def none {H : Type} : Left H := { results := [], args := [] }

/-- 'laws.FnXor': WHATEVER THE INPUT: true; the input reads as it did. -/
def fnXorSpec : ChangeSpec := { name := "fnXor", fn := fun _ => fun
  | [d] => { results := [.lit (.bool true)], args := [d] }
  | _ => none }
def fnXorRow : OpenClaim := { program := "ytlocmgibmclgnaa", sum := "5091d82a0013db16cdc8238a38e59b09fd4e453a386139158e242e239683303f", func := "loop.example/soughtstreams/laws.FnXor", spec := "fnXor", apart := false }
def FnXorSaid : Prop := fnXorRow.holds Try.pinned (OpenSpec.ofChange fnXorSpec)

/-- ITS FALSE NEIGHBOUR: 'it returns false'. Refute it at one input. -/
def fnXorWrong : ChangeSpec := { name := "fnXor", fn := fun _ => fun
  | [d] => { results := [.lit (.bool false)], args := [d] }
  | _ => none }
def FnXorWrongFalsely : Prop := fnXorRow.holds Try.pinned (OpenSpec.ofChange fnXorWrong)

/-- 'laws.FnRebuildRule': WHATEVER THE INPUT: true; the input reads as it did. -/
def fnRebuildRuleSpec : ChangeSpec := { name := "fnRebuildRule", fn := fun _ => fun
  | [d] => { results := [.lit (.bool true)], args := [d] }
  | _ => none }
def fnRebuildRuleRow : OpenClaim := { program := "ytlocmgibmclgnaa", sum := "5091d82a0013db16cdc8238a38e59b09fd4e453a386139158e242e239683303f", func := "loop.example/soughtstreams/laws.FnRebuildRule", spec := "fnRebuildRule", apart := false }
def FnRebuildRuleSaid : Prop := fnRebuildRuleRow.holds Try.pinned (OpenSpec.ofChange fnRebuildRuleSpec)

/-- ITS FALSE NEIGHBOUR: 'it returns false'. Refute it at one input. -/
def fnRebuildRuleWrong : ChangeSpec := { name := "fnRebuildRule", fn := fun _ => fun
  | [d] => { results := [.lit (.bool false)], args := [d] }
  | _ => none }
def FnRebuildRuleWrongFalsely : Prop := fnRebuildRuleRow.holds Try.pinned (OpenSpec.ofChange fnRebuildRuleWrong)

/-- 'laws.FnPatchLeast': WHATEVER THE INPUT: true; the input reads as it did. -/
def fnPatchLeastSpec : ChangeSpec := { name := "fnPatchLeast", fn := fun _ => fun
  | [d] => { results := [.lit (.bool true)], args := [d] }
  | _ => none }
def fnPatchLeastRow : OpenClaim := { program := "ytlocmgibmclgnaa", sum := "5091d82a0013db16cdc8238a38e59b09fd4e453a386139158e242e239683303f", func := "loop.example/soughtstreams/laws.FnPatchLeast", spec := "fnPatchLeast", unfollowed := true, recurses := true, apart := false }
def FnPatchLeastSaid : Prop := fnPatchLeastRow.holds Try.pinned (OpenSpec.ofChange fnPatchLeastSpec)

/-- ITS FALSE NEIGHBOUR: 'it returns false'. Refute it at one input. -/
def fnPatchLeastWrong : ChangeSpec := { name := "fnPatchLeast", fn := fun _ => fun
  | [d] => { results := [.lit (.bool false)], args := [d] }
  | _ => none }
def FnPatchLeastWrongFalsely : Prop := fnPatchLeastRow.holds Try.pinned (OpenSpec.ofChange fnPatchLeastWrong)

/-- 'laws.FnExactFormatParity': WHATEVER THE INPUT: true; the input reads as it did. -/
def fnExactFormatParitySpec : ChangeSpec := { name := "fnExactFormatParity", fn := fun _ => fun
  | [d] => { results := [.lit (.bool true)], args := [d] }
  | _ => none }
def fnExactFormatParityRow : OpenClaim := { program := "ytlocmgibmclgnaa", sum := "5091d82a0013db16cdc8238a38e59b09fd4e453a386139158e242e239683303f", func := "loop.example/soughtstreams/laws.FnExactFormatParity", spec := "fnExactFormatParity", inPlace := ["internal/abi.NoEscape", "internal/bytealg.MakeNoZero"], apart := false }
def FnExactFormatParitySaid : Prop := fnExactFormatParityRow.holds Try.pinned (OpenSpec.ofChange fnExactFormatParitySpec)

/-- ITS FALSE NEIGHBOUR: 'it returns false'. Refute it at one input. -/
def fnExactFormatParityWrong : ChangeSpec := { name := "fnExactFormatParity", fn := fun _ => fun
  | [d] => { results := [.lit (.bool false)], args := [d] }
  | _ => none }
def FnExactFormatParityWrongFalsely : Prop := fnExactFormatParityRow.holds Try.pinned (OpenSpec.ofChange fnExactFormatParityWrong)

/-- 'laws.FnCodeBits': WHATEVER THE INPUT: true; the input reads as it did. -/
def fnCodeBitsSpec : ChangeSpec := { name := "fnCodeBits", fn := fun _ => fun
  | [d] => { results := [.lit (.bool true)], args := [d] }
  | _ => none }
def fnCodeBitsRow : OpenClaim := { program := "ytlocmgibmclgnaa", sum := "5091d82a0013db16cdc8238a38e59b09fd4e453a386139158e242e239683303f", func := "loop.example/soughtstreams/laws.FnCodeBits", spec := "fnCodeBits", apart := false }
def FnCodeBitsSaid : Prop := fnCodeBitsRow.holds Try.pinned (OpenSpec.ofChange fnCodeBitsSpec)

/-- ITS FALSE NEIGHBOUR: 'it returns false'. Refute it at one input. -/
def fnCodeBitsWrong : ChangeSpec := { name := "fnCodeBits", fn := fun _ => fun
  | [d] => { results := [.lit (.bool false)], args := [d] }
  | _ => none }
def FnCodeBitsWrongFalsely : Prop := fnCodeBitsRow.holds Try.pinned (OpenSpec.ofChange fnCodeBitsWrong)

/-- 'laws.FnExactEmptyStore': WHATEVER THE INPUT: true; the input reads as it did. -/
def fnExactEmptyStoreSpec : ChangeSpec := { name := "fnExactEmptyStore", fn := fun _ => fun
  | [d1, d2] => { results := [.lit (.bool true)], args := [d1, d2] }
  | _ => none }
def fnExactEmptyStoreRow : OpenClaim := { program := "ytlocmgibmclgnaa", sum := "5091d82a0013db16cdc8238a38e59b09fd4e453a386139158e242e239683303f", func := "loop.example/soughtstreams/laws.FnExactEmptyStore", spec := "fnExactEmptyStore", apart := false }
def FnExactEmptyStoreSaid : Prop := fnExactEmptyStoreRow.holds Try.pinned (OpenSpec.ofChange fnExactEmptyStoreSpec)

/-- ITS FALSE NEIGHBOUR: 'it returns false'. Refute it at one input. -/
def fnExactEmptyStoreWrong : ChangeSpec := { name := "fnExactEmptyStore", fn := fun _ => fun
  | [d1, d2] => { results := [.lit (.bool false)], args := [d1, d2] }
  | _ => none }
def FnExactEmptyStoreWrongFalsely : Prop := fnExactEmptyStoreRow.holds Try.pinned (OpenSpec.ofChange fnExactEmptyStoreWrong)

/-- 'laws.FnPadBits': WHATEVER THE INPUT: true; the input reads as it did. -/
def fnPadBitsSpec : ChangeSpec := { name := "fnPadBits", fn := fun _ => fun
  | [d] => { results := [.lit (.bool true)], args := [d] }
  | _ => none }
def fnPadBitsRow : OpenClaim := { program := "ytlocmgibmclgnaa", sum := "5091d82a0013db16cdc8238a38e59b09fd4e453a386139158e242e239683303f", func := "loop.example/soughtstreams/laws.FnPadBits", spec := "fnPadBits", inPlace := ["internal/abi.NoEscape", "internal/bytealg.MakeNoZero"], apart := false }
def FnPadBitsSaid : Prop := fnPadBitsRow.holds Try.pinned (OpenSpec.ofChange fnPadBitsSpec)

/-- ITS FALSE NEIGHBOUR: 'it returns false'. Refute it at one input. -/
def fnPadBitsWrong : ChangeSpec := { name := "fnPadBits", fn := fun _ => fun
  | [d] => { results := [.lit (.bool false)], args := [d] }
  | _ => none }
def FnPadBitsWrongFalsely : Prop := fnPadBitsRow.holds Try.pinned (OpenSpec.ofChange fnPadBitsWrong)

/-- 'laws.FnPackJoin': WHATEVER THE INPUT: true; the input reads as it did. -/
def fnPackJoinSpec : ChangeSpec := { name := "fnPackJoin", fn := fun _ => fun
  | [d1, d2] => { results := [.lit (.bool true)], args := [d1, d2] }
  | _ => none }
def fnPackJoinRow : OpenClaim := { program := "ytlocmgibmclgnaa", sum := "5091d82a0013db16cdc8238a38e59b09fd4e453a386139158e242e239683303f", func := "loop.example/soughtstreams/laws.FnPackJoin", spec := "fnPackJoin", inPlace := ["internal/abi.NoEscape", "internal/bytealg.MakeNoZero"], apart := false }
def FnPackJoinSaid : Prop := fnPackJoinRow.holds Try.pinned (OpenSpec.ofChange fnPackJoinSpec)

/-- ITS FALSE NEIGHBOUR: 'it returns false'. Refute it at one input. -/
def fnPackJoinWrong : ChangeSpec := { name := "fnPackJoin", fn := fun _ => fun
  | [d1, d2] => { results := [.lit (.bool false)], args := [d1, d2] }
  | _ => none }
def FnPackJoinWrongFalsely : Prop := fnPackJoinRow.holds Try.pinned (OpenSpec.ofChange fnPackJoinWrong)

/-- 'laws.FnPackUnpack': WHATEVER THE INPUT: true; the input reads as it did. -/
def fnPackUnpackSpec : ChangeSpec := { name := "fnPackUnpack", fn := fun _ => fun
  | [d] => { results := [.lit (.bool true)], args := [d] }
  | _ => none }
def fnPackUnpackRow : OpenClaim := { program := "ytlocmgibmclgnaa", sum := "5091d82a0013db16cdc8238a38e59b09fd4e453a386139158e242e239683303f", func := "loop.example/soughtstreams/laws.FnPackUnpack", spec := "fnPackUnpack", inPlace := ["internal/abi.NoEscape", "internal/bytealg.MakeNoZero"], apart := false }
def FnPackUnpackSaid : Prop := fnPackUnpackRow.holds Try.pinned (OpenSpec.ofChange fnPackUnpackSpec)

/-- ITS FALSE NEIGHBOUR: 'it returns false'. Refute it at one input. -/
def fnPackUnpackWrong : ChangeSpec := { name := "fnPackUnpack", fn := fun _ => fun
  | [d] => { results := [.lit (.bool false)], args := [d] }
  | _ => none }
def FnPackUnpackWrongFalsely : Prop := fnPackUnpackRow.holds Try.pinned (OpenSpec.ofChange fnPackUnpackWrong)

/-- 'laws.FnExactRebuildText': WHATEVER THE INPUT: true; the input reads as it did. -/
def fnExactRebuildTextSpec : ChangeSpec := { name := "fnExactRebuildText", fn := fun _ => fun
  | [d1, d2] => { results := [.lit (.bool true)], args := [d1, d2] }
  | _ => none }
def fnExactRebuildTextRow : OpenClaim := { program := "ytlocmgibmclgnaa", sum := "5091d82a0013db16cdc8238a38e59b09fd4e453a386139158e242e239683303f", func := "loop.example/soughtstreams/laws.FnExactRebuildText", spec := "fnExactRebuildText", apart := false }
def FnExactRebuildTextSaid : Prop := fnExactRebuildTextRow.holds Try.pinned (OpenSpec.ofChange fnExactRebuildTextSpec)

/-- ITS FALSE NEIGHBOUR: 'it returns false'. Refute it at one input. -/
def fnExactRebuildTextWrong : ChangeSpec := { name := "fnExactRebuildText", fn := fun _ => fun
  | [d1, d2] => { results := [.lit (.bool false)], args := [d1, d2] }
  | _ => none }
def FnExactRebuildTextWrongFalsely : Prop := fnExactRebuildTextRow.holds Try.pinned (OpenSpec.ofChange fnExactRebuildTextWrong)

/-- 'laws.FnExactSeekBlock': WHATEVER THE INPUT: true; the input reads as it did. -/
def fnExactSeekBlockSpec : ChangeSpec := { name := "fnExactSeekBlock", fn := fun _ => fun
  | [d1, d2] => { results := [.lit (.bool true)], args := [d1, d2] }
  | _ => none }
def fnExactSeekBlockRow : OpenClaim := { program := "ytlocmgibmclgnaa", sum := "5091d82a0013db16cdc8238a38e59b09fd4e453a386139158e242e239683303f", func := "loop.example/soughtstreams/laws.FnExactSeekBlock", spec := "fnExactSeekBlock", apart := false }
def FnExactSeekBlockSaid : Prop := fnExactSeekBlockRow.holds Try.pinned (OpenSpec.ofChange fnExactSeekBlockSpec)

/-- ITS FALSE NEIGHBOUR: 'it returns false'. Refute it at one input. -/
def fnExactSeekBlockWrong : ChangeSpec := { name := "fnExactSeekBlock", fn := fun _ => fun
  | [d1, d2] => { results := [.lit (.bool false)], args := [d1, d2] }
  | _ => none }
def FnExactSeekBlockWrongFalsely : Prop := fnExactSeekBlockRow.holds Try.pinned (OpenSpec.ofChange fnExactSeekBlockWrong)

/- THE SECOND FORM. 'bulk': how many values and letters a reading holds, each counted each time it is reached (what is shared counts as often as it is met; a slice's spare places count too). A statement '..UptoSaid' is the law's where the arguments, and the package variables that the reading takes, are together of bulk at most 1048576: NARROWER than '..Said'. Prove '..Said' where nothing that the law and all that it calls make is longer than what came in: it says more and counts as full. Else prove '..UptoSaid'. A law counts once. -/
mutual
def uptoBulk {H : Type} : DataW H → Nat
  | .lit (.string bytes) => bytes.length + 1
  | .lit _ => 1
  | .nil => 1
  | .ptr d => uptoBulk d + 1
  | .slice elems spare => uptoBulkAll elems + uptoBulkAll spare + 1
  | .agg parts => uptoBulkAll parts + 1
  | .iface _ d => uptoBulk d + 1
  | .map entries => uptoBulkEntries entries + 1
  | .held _ => 1
def uptoBulkAll {H : Type} : List (DataW H) → Nat
  | [] => 0
  | d :: r => uptoBulk d + uptoBulkAll r
def uptoBulkEntries {H : Type} : List (Lit × DataW H) → Nat
  | [] => 0
  | x :: r => uptoBulkEntry x + uptoBulkEntries r
def uptoBulkEntry {H : Type} : Lit × DataW H → Nat
  | (.string bytes, d) => bytes.length + uptoBulk d + 1
  | (_, d) => uptoBulk d + 1
 end
def uptoSmall : (H : Type) → List (DataW H) → Bool := fun _ ds => decide (uptoBulkAll ds ≤ 1048576)
def OpenSpec.upto (s : _root_.Go.ChangeSpec) : _root_.Go.OpenSpec := { _root_.Go.OpenSpec.ofChange s with cond := some uptoSmall }

/-- 'laws.FnXor', WHERE WHAT IT READS IS OF BULK AT MOST 1048576: true; the input reads as it did. -/
def fnXorUptoRow : OpenClaim := { program := "ytlocmgibmclgnaa", sum := "5091d82a0013db16cdc8238a38e59b09fd4e453a386139158e242e239683303f", func := "loop.example/soughtstreams/laws.FnXor", spec := "fnXor", apart := false, narrowed := true }
def FnXorUptoSaid : Prop := fnXorUptoRow.holds Try.pinned (OpenSpec.upto fnXorSpec)

/-- 'laws.FnRebuildRule', WHERE WHAT IT READS IS OF BULK AT MOST 1048576: true; the input reads as it did. -/
def fnRebuildRuleUptoRow : OpenClaim := { program := "ytlocmgibmclgnaa", sum := "5091d82a0013db16cdc8238a38e59b09fd4e453a386139158e242e239683303f", func := "loop.example/soughtstreams/laws.FnRebuildRule", spec := "fnRebuildRule", apart := false, narrowed := true }
def FnRebuildRuleUptoSaid : Prop := fnRebuildRuleUptoRow.holds Try.pinned (OpenSpec.upto fnRebuildRuleSpec)

/-- 'laws.FnPatchLeast', WHERE WHAT IT READS IS OF BULK AT MOST 1048576: true; the input reads as it did. -/
def fnPatchLeastUptoRow : OpenClaim := { program := "ytlocmgibmclgnaa", sum := "5091d82a0013db16cdc8238a38e59b09fd4e453a386139158e242e239683303f", func := "loop.example/soughtstreams/laws.FnPatchLeast", spec := "fnPatchLeast", unfollowed := true, recurses := true, apart := false, narrowed := true }
def FnPatchLeastUptoSaid : Prop := fnPatchLeastUptoRow.holds Try.pinned (OpenSpec.upto fnPatchLeastSpec)

/-- 'laws.FnExactFormatParity', WHERE WHAT IT READS IS OF BULK AT MOST 1048576: true; the input reads as it did. -/
def fnExactFormatParityUptoRow : OpenClaim := { program := "ytlocmgibmclgnaa", sum := "5091d82a0013db16cdc8238a38e59b09fd4e453a386139158e242e239683303f", func := "loop.example/soughtstreams/laws.FnExactFormatParity", spec := "fnExactFormatParity", inPlace := ["internal/abi.NoEscape", "internal/bytealg.MakeNoZero"], apart := false, narrowed := true }
def FnExactFormatParityUptoSaid : Prop := fnExactFormatParityUptoRow.holds Try.pinned (OpenSpec.upto fnExactFormatParitySpec)

/-- 'laws.FnCodeBits', WHERE WHAT IT READS IS OF BULK AT MOST 1048576: true; the input reads as it did. -/
def fnCodeBitsUptoRow : OpenClaim := { program := "ytlocmgibmclgnaa", sum := "5091d82a0013db16cdc8238a38e59b09fd4e453a386139158e242e239683303f", func := "loop.example/soughtstreams/laws.FnCodeBits", spec := "fnCodeBits", apart := false, narrowed := true }
def FnCodeBitsUptoSaid : Prop := fnCodeBitsUptoRow.holds Try.pinned (OpenSpec.upto fnCodeBitsSpec)

/-- 'laws.FnExactEmptyStore', WHERE WHAT IT READS IS OF BULK AT MOST 1048576: true; the input reads as it did. -/
def fnExactEmptyStoreUptoRow : OpenClaim := { program := "ytlocmgibmclgnaa", sum := "5091d82a0013db16cdc8238a38e59b09fd4e453a386139158e242e239683303f", func := "loop.example/soughtstreams/laws.FnExactEmptyStore", spec := "fnExactEmptyStore", apart := false, narrowed := true }
def FnExactEmptyStoreUptoSaid : Prop := fnExactEmptyStoreUptoRow.holds Try.pinned (OpenSpec.upto fnExactEmptyStoreSpec)

/-- 'laws.FnPadBits', WHERE WHAT IT READS IS OF BULK AT MOST 1048576: true; the input reads as it did. -/
def fnPadBitsUptoRow : OpenClaim := { program := "ytlocmgibmclgnaa", sum := "5091d82a0013db16cdc8238a38e59b09fd4e453a386139158e242e239683303f", func := "loop.example/soughtstreams/laws.FnPadBits", spec := "fnPadBits", inPlace := ["internal/abi.NoEscape", "internal/bytealg.MakeNoZero"], apart := false, narrowed := true }
def FnPadBitsUptoSaid : Prop := fnPadBitsUptoRow.holds Try.pinned (OpenSpec.upto fnPadBitsSpec)

/-- 'laws.FnPackJoin', WHERE WHAT IT READS IS OF BULK AT MOST 1048576: true; the input reads as it did. -/
def fnPackJoinUptoRow : OpenClaim := { program := "ytlocmgibmclgnaa", sum := "5091d82a0013db16cdc8238a38e59b09fd4e453a386139158e242e239683303f", func := "loop.example/soughtstreams/laws.FnPackJoin", spec := "fnPackJoin", inPlace := ["internal/abi.NoEscape", "internal/bytealg.MakeNoZero"], apart := false, narrowed := true }
def FnPackJoinUptoSaid : Prop := fnPackJoinUptoRow.holds Try.pinned (OpenSpec.upto fnPackJoinSpec)

/-- 'laws.FnPackUnpack', WHERE WHAT IT READS IS OF BULK AT MOST 1048576: true; the input reads as it did. -/
def fnPackUnpackUptoRow : OpenClaim := { program := "ytlocmgibmclgnaa", sum := "5091d82a0013db16cdc8238a38e59b09fd4e453a386139158e242e239683303f", func := "loop.example/soughtstreams/laws.FnPackUnpack", spec := "fnPackUnpack", inPlace := ["internal/abi.NoEscape", "internal/bytealg.MakeNoZero"], apart := false, narrowed := true }
def FnPackUnpackUptoSaid : Prop := fnPackUnpackUptoRow.holds Try.pinned (OpenSpec.upto fnPackUnpackSpec)

/-- 'laws.FnExactRebuildText', WHERE WHAT IT READS IS OF BULK AT MOST 1048576: true; the input reads as it did. -/
def fnExactRebuildTextUptoRow : OpenClaim := { program := "ytlocmgibmclgnaa", sum := "5091d82a0013db16cdc8238a38e59b09fd4e453a386139158e242e239683303f", func := "loop.example/soughtstreams/laws.FnExactRebuildText", spec := "fnExactRebuildText", apart := false, narrowed := true }
def FnExactRebuildTextUptoSaid : Prop := fnExactRebuildTextUptoRow.holds Try.pinned (OpenSpec.upto fnExactRebuildTextSpec)

/-- 'laws.FnExactSeekBlock', WHERE WHAT IT READS IS OF BULK AT MOST 1048576: true; the input reads as it did. -/
def fnExactSeekBlockUptoRow : OpenClaim := { program := "ytlocmgibmclgnaa", sum := "5091d82a0013db16cdc8238a38e59b09fd4e453a386139158e242e239683303f", func := "loop.example/soughtstreams/laws.FnExactSeekBlock", spec := "fnExactSeekBlock", apart := false, narrowed := true }
def FnExactSeekBlockUptoSaid : Prop := fnExactSeekBlockUptoRow.holds Try.pinned (OpenSpec.upto fnExactSeekBlockSpec)

end Rows
end Go.Proofs.Ytlocmgibmclgnaa
