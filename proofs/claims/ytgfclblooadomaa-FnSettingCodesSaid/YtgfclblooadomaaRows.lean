/-
  No cell of these rows narrows 'for every input' (looked for: loops, veiled, ifaces, maps, wideKeys, modest, calm, conditions, laid).
  DERIVED. THE GIVEN ROWS OF THIS SEAT. 11 by the template 'for every input the law returns true; each argument reads behind the call as it read before'; 0 by the template 'total and deterministic' (their statements: YtgfclblooadomaaTotals.lean).
  GIVEN WITH THE SEED: the statements are not yours to turn. If you find one false, say at which input.
  Laid BY PROGRAM, IN A SANDBOX (cutbox-rows.mjs): the forced cells as the released guide's own fill.sh prints them over the translation a10bfd665fa2ebbc… (all of the seat's roots in one cut). By AI agents, Wed Nov 11 2026. No macro, syntax, notation, axiom, sorry.
-/
import Derived.Test.YtgfclblooadomaaChecked
import GoSem.Claim
import GoSem.ClaimJoined
import GoSem.ClaimMapViews
import Derived.JoinedTies
import Derived.KernelRfl
namespace Go.Proofs.Ytgfclblooadomaa
/- THE CELL 'sum', in the pinned program and in every row, IS THE sha256 OF THE DUMP (.gsa) THAT YtgfclblooadomaaProg.lean LOADS. Nothing in Lean hashes anything: it is a label: what it is worth is what the hold of that sum in a sandbox is worth. -/
noncomputable def Try.pinned : Pinned := { name := "ytgfclblooadomaa", sum := "a10bfd665fa2ebbc2c90ae958c39fa37f93d6606ac3c46575d1d369244473353", checked := Try.checked }
namespace Rows
def none {H : Type} : Left H := { results := [], args := [] }

/-- 'laws.FnSettingCodes': WHATEVER THE INPUT: true; the input reads as it did. -/
def fnSettingCodesSpec : ChangeSpec := { name := "fnSettingCodes", fn := fun _ => fun
  | [d] => { results := [.lit (.bool true)], args := [d] }
  | _ => none }
def fnSettingCodesRow : OpenClaim := { program := "ytgfclblooadomaa", sum := "a10bfd665fa2ebbc2c90ae958c39fa37f93d6606ac3c46575d1d369244473353", func := "loop.example/soughtstreams/laws.FnSettingCodes", spec := "fnSettingCodes", apart := false }
def FnSettingCodesSaid : Prop := fnSettingCodesRow.holds Try.pinned (OpenSpec.ofChange fnSettingCodesSpec)

/-- ITS FALSE NEIGHBOUR: 'it returns false'. Refute it at one input. -/
def fnSettingCodesWrong : ChangeSpec := { name := "fnSettingCodes", fn := fun _ => fun
  | [d] => { results := [.lit (.bool false)], args := [d] }
  | _ => none }
def FnSettingCodesWrongFalsely : Prop := fnSettingCodesRow.holds Try.pinned (OpenSpec.ofChange fnSettingCodesWrong)

/-- 'laws.FnDataFits': WHATEVER THE INPUT: true; the input reads as it did. -/
def fnDataFitsSpec : ChangeSpec := { name := "fnDataFits", fn := fun _ => fun
  | [d] => { results := [.lit (.bool true)], args := [d] }
  | _ => none }
def fnDataFitsRow : OpenClaim := { program := "ytgfclblooadomaa", sum := "a10bfd665fa2ebbc2c90ae958c39fa37f93d6606ac3c46575d1d369244473353", func := "loop.example/soughtstreams/laws.FnDataFits", spec := "fnDataFits", apart := false }
def FnDataFitsSaid : Prop := fnDataFitsRow.holds Try.pinned (OpenSpec.ofChange fnDataFitsSpec)

/-- ITS FALSE NEIGHBOUR: 'it returns false'. Refute it at one input. -/
def fnDataFitsWrong : ChangeSpec := { name := "fnDataFits", fn := fun _ => fun
  | [d] => { results := [.lit (.bool false)], args := [d] }
  | _ => none }
def FnDataFitsWrongFalsely : Prop := fnDataFitsRow.holds Try.pinned (OpenSpec.ofChange fnDataFitsWrong)

/-- 'laws.FnBitsNeeded': WHATEVER THE INPUT: true; the input reads as it did. -/
def fnBitsNeededSpec : ChangeSpec := { name := "fnBitsNeeded", fn := fun _ => fun
  | [d] => { results := [.lit (.bool true)], args := [d] }
  | _ => none }
def fnBitsNeededRow : OpenClaim := { program := "ytgfclblooadomaa", sum := "a10bfd665fa2ebbc2c90ae958c39fa37f93d6606ac3c46575d1d369244473353", func := "loop.example/soughtstreams/laws.FnBitsNeeded", spec := "fnBitsNeeded", apart := false }
def FnBitsNeededSaid : Prop := fnBitsNeededRow.holds Try.pinned (OpenSpec.ofChange fnBitsNeededSpec)

/-- ITS FALSE NEIGHBOUR: 'it returns false'. Refute it at one input. -/
def fnBitsNeededWrong : ChangeSpec := { name := "fnBitsNeeded", fn := fun _ => fun
  | [d] => { results := [.lit (.bool false)], args := [d] }
  | _ => none }
def FnBitsNeededWrongFalsely : Prop := fnBitsNeededRow.holds Try.pinned (OpenSpec.ofChange fnBitsNeededWrong)

/-- 'laws.FnBitsCode': WHATEVER THE INPUT: true; the input reads as it did. -/
def fnBitsCodeSpec : ChangeSpec := { name := "fnBitsCode", fn := fun _ => fun
  | [d] => { results := [.lit (.bool true)], args := [d] }
  | _ => none }
def fnBitsCodeRow : OpenClaim := { program := "ytgfclblooadomaa", sum := "a10bfd665fa2ebbc2c90ae958c39fa37f93d6606ac3c46575d1d369244473353", func := "loop.example/soughtstreams/laws.FnBitsCode", spec := "fnBitsCode", apart := false }
def FnBitsCodeSaid : Prop := fnBitsCodeRow.holds Try.pinned (OpenSpec.ofChange fnBitsCodeSpec)

/-- ITS FALSE NEIGHBOUR: 'it returns false'. Refute it at one input. -/
def fnBitsCodeWrong : ChangeSpec := { name := "fnBitsCode", fn := fun _ => fun
  | [d] => { results := [.lit (.bool false)], args := [d] }
  | _ => none }
def FnBitsCodeWrongFalsely : Prop := fnBitsCodeRow.holds Try.pinned (OpenSpec.ofChange fnBitsCodeWrong)

/-- 'laws.FnReverseBits': WHATEVER THE INPUT: true; the input reads as it did. -/
def fnReverseBitsSpec : ChangeSpec := { name := "fnReverseBits", fn := fun _ => fun
  | [d] => { results := [.lit (.bool true)], args := [d] }
  | _ => none }
def fnReverseBitsRow : OpenClaim := { program := "ytgfclblooadomaa", sum := "a10bfd665fa2ebbc2c90ae958c39fa37f93d6606ac3c46575d1d369244473353", func := "loop.example/soughtstreams/laws.FnReverseBits", spec := "fnReverseBits", apart := false }
def FnReverseBitsSaid : Prop := fnReverseBitsRow.holds Try.pinned (OpenSpec.ofChange fnReverseBitsSpec)

/-- ITS FALSE NEIGHBOUR: 'it returns false'. Refute it at one input. -/
def fnReverseBitsWrong : ChangeSpec := { name := "fnReverseBits", fn := fun _ => fun
  | [d] => { results := [.lit (.bool false)], args := [d] }
  | _ => none }
def FnReverseBitsWrongFalsely : Prop := fnReverseBitsRow.holds Try.pinned (OpenSpec.ofChange fnReverseBitsWrong)

/-- 'laws.FnUnpackPack': WHATEVER THE INPUT: true; the input reads as it did. -/
def fnUnpackPackSpec : ChangeSpec := { name := "fnUnpackPack", fn := fun _ => fun
  | [d] => { results := [.lit (.bool true)], args := [d] }
  | _ => none }
def fnUnpackPackRow : OpenClaim := { program := "ytgfclblooadomaa", sum := "a10bfd665fa2ebbc2c90ae958c39fa37f93d6606ac3c46575d1d369244473353", func := "loop.example/soughtstreams/laws.FnUnpackPack", spec := "fnUnpackPack", apart := false }
def FnUnpackPackSaid : Prop := fnUnpackPackRow.holds Try.pinned (OpenSpec.ofChange fnUnpackPackSpec)

/-- ITS FALSE NEIGHBOUR: 'it returns false'. Refute it at one input. -/
def fnUnpackPackWrong : ChangeSpec := { name := "fnUnpackPack", fn := fun _ => fun
  | [d] => { results := [.lit (.bool false)], args := [d] }
  | _ => none }
def FnUnpackPackWrongFalsely : Prop := fnUnpackPackRow.holds Try.pinned (OpenSpec.ofChange fnUnpackPackWrong)

/-- 'laws.FnTurnBytes': WHATEVER THE INPUT: true; the input reads as it did. -/
def fnTurnBytesSpec : ChangeSpec := { name := "fnTurnBytes", fn := fun _ => fun
  | [d] => { results := [.lit (.bool true)], args := [d] }
  | _ => none }
def fnTurnBytesRow : OpenClaim := { program := "ytgfclblooadomaa", sum := "a10bfd665fa2ebbc2c90ae958c39fa37f93d6606ac3c46575d1d369244473353", func := "loop.example/soughtstreams/laws.FnTurnBytes", spec := "fnTurnBytes", apart := false }
def FnTurnBytesSaid : Prop := fnTurnBytesRow.holds Try.pinned (OpenSpec.ofChange fnTurnBytesSpec)

/-- ITS FALSE NEIGHBOUR: 'it returns false'. Refute it at one input. -/
def fnTurnBytesWrong : ChangeSpec := { name := "fnTurnBytes", fn := fun _ => fun
  | [d] => { results := [.lit (.bool false)], args := [d] }
  | _ => none }
def FnTurnBytesWrongFalsely : Prop := fnTurnBytesRow.holds Try.pinned (OpenSpec.ofChange fnTurnBytesWrong)

/-- 'laws.FnBitAt': WHATEVER THE INPUT: true; the input reads as it did. -/
def fnBitAtSpec : ChangeSpec := { name := "fnBitAt", fn := fun _ => fun
  | [d] => { results := [.lit (.bool true)], args := [d] }
  | _ => none }
def fnBitAtRow : OpenClaim := { program := "ytgfclblooadomaa", sum := "a10bfd665fa2ebbc2c90ae958c39fa37f93d6606ac3c46575d1d369244473353", func := "loop.example/soughtstreams/laws.FnBitAt", spec := "fnBitAt", apart := false }
def FnBitAtSaid : Prop := fnBitAtRow.holds Try.pinned (OpenSpec.ofChange fnBitAtSpec)

/-- ITS FALSE NEIGHBOUR: 'it returns false'. Refute it at one input. -/
def fnBitAtWrong : ChangeSpec := { name := "fnBitAt", fn := fun _ => fun
  | [d] => { results := [.lit (.bool false)], args := [d] }
  | _ => none }
def FnBitAtWrongFalsely : Prop := fnBitAtRow.holds Try.pinned (OpenSpec.ofChange fnBitAtWrong)

/-- 'laws.FnSpanBits': WHATEVER THE INPUT: true; the input reads as it did. -/
def fnSpanBitsSpec : ChangeSpec := { name := "fnSpanBits", fn := fun _ => fun
  | [d] => { results := [.lit (.bool true)], args := [d] }
  | _ => none }
def fnSpanBitsRow : OpenClaim := { program := "ytgfclblooadomaa", sum := "a10bfd665fa2ebbc2c90ae958c39fa37f93d6606ac3c46575d1d369244473353", func := "loop.example/soughtstreams/laws.FnSpanBits", spec := "fnSpanBits", apart := false }
def FnSpanBitsSaid : Prop := fnSpanBitsRow.holds Try.pinned (OpenSpec.ofChange fnSpanBitsSpec)

/-- ITS FALSE NEIGHBOUR: 'it returns false'. Refute it at one input. -/
def fnSpanBitsWrong : ChangeSpec := { name := "fnSpanBits", fn := fun _ => fun
  | [d] => { results := [.lit (.bool false)], args := [d] }
  | _ => none }
def FnSpanBitsWrongFalsely : Prop := fnSpanBitsRow.holds Try.pinned (OpenSpec.ofChange fnSpanBitsWrong)

/-- 'laws.FnHexText': WHATEVER THE INPUT: true; the input reads as it did. -/
def fnHexTextSpec : ChangeSpec := { name := "fnHexText", fn := fun _ => fun
  | [d1, d2] => { results := [.lit (.bool true)], args := [d1, d2] }
  | _ => none }
def fnHexTextRow : OpenClaim := { program := "ytgfclblooadomaa", sum := "a10bfd665fa2ebbc2c90ae958c39fa37f93d6606ac3c46575d1d369244473353", func := "loop.example/soughtstreams/laws.FnHexText", spec := "fnHexText", inPlace := ["internal/bytealg.IndexByteString"], apart := false }
def FnHexTextSaid : Prop := fnHexTextRow.holds Try.pinned (OpenSpec.ofChange fnHexTextSpec)

/-- ITS FALSE NEIGHBOUR: 'it returns false'. Refute it at one input. -/
def fnHexTextWrong : ChangeSpec := { name := "fnHexText", fn := fun _ => fun
  | [d1, d2] => { results := [.lit (.bool false)], args := [d1, d2] }
  | _ => none }
def FnHexTextWrongFalsely : Prop := fnHexTextRow.holds Try.pinned (OpenSpec.ofChange fnHexTextWrong)

/-- 'laws.FnExactSettingValid': WHATEVER THE INPUT: true; the input reads as it did. -/
def fnExactSettingValidSpec : ChangeSpec := { name := "fnExactSettingValid", fn := fun _ => fun
  | [d] => { results := [.lit (.bool true)], args := [d] }
  | _ => none }
def fnExactSettingValidRow : OpenClaim := { program := "ytgfclblooadomaa", sum := "a10bfd665fa2ebbc2c90ae958c39fa37f93d6606ac3c46575d1d369244473353", func := "loop.example/soughtstreams/laws.FnExactSettingValid", spec := "fnExactSettingValid", apart := false }
def FnExactSettingValidSaid : Prop := fnExactSettingValidRow.holds Try.pinned (OpenSpec.ofChange fnExactSettingValidSpec)

/-- ITS FALSE NEIGHBOUR: 'it returns false'. Refute it at one input. -/
def fnExactSettingValidWrong : ChangeSpec := { name := "fnExactSettingValid", fn := fun _ => fun
  | [d] => { results := [.lit (.bool false)], args := [d] }
  | _ => none }
def FnExactSettingValidWrongFalsely : Prop := fnExactSettingValidRow.holds Try.pinned (OpenSpec.ofChange fnExactSettingValidWrong)

/- THE SECOND FORM. 'bulk': how many values and letters a reading holds, each counted each time it is reached (what is shared counts as often as it is met; a slice's spare places count too). A statement '..UptoSaid' is the law's where the arguments, and the package variables that the reading takes, are together of bulk at most 1048576: NARROWER than '..Said'. Prove '..Said' where nothing that the law and all that it calls make is longer than what came in: it says more and counts as full. Else prove '..UptoSaid'. A law counts once. -/
mutual
def uptoBulk {H : Type} : DataW H → Nat
  | .lit (.string bytes) => bytes.length + 1
  | .lit _ => 1
  | .nil => 1
  | .ptr d => uptoBulk d + 1
  | .slice elems spare => uptoBulkAll elems + uptoBulkAll spare + 1
  | .agg parts => uptoBulkAll parts + 1
  | .iface _ d => uptoBulk d + 1
  | .map entries => uptoBulkEntries entries + 1
  | .held _ => 1
def uptoBulkAll {H : Type} : List (DataW H) → Nat
  | [] => 0
  | d :: r => uptoBulk d + uptoBulkAll r
def uptoBulkEntries {H : Type} : List (Lit × DataW H) → Nat
  | [] => 0
  | x :: r => uptoBulkEntry x + uptoBulkEntries r
def uptoBulkEntry {H : Type} : Lit × DataW H → Nat
  | (.string bytes, d) => bytes.length + uptoBulk d + 1
  | (_, d) => uptoBulk d + 1
 end
def uptoSmall : (H : Type) → List (DataW H) → Bool := fun _ ds => decide (uptoBulkAll ds ≤ 1048576)
def OpenSpec.upto (s : _root_.Go.ChangeSpec) : _root_.Go.OpenSpec := { _root_.Go.OpenSpec.ofChange s with cond := some uptoSmall }

/-- 'laws.FnSettingCodes', WHERE WHAT IT READS IS OF BULK AT MOST 1048576: true; the input reads as it did. -/
def fnSettingCodesUptoRow : OpenClaim := { program := "ytgfclblooadomaa", sum := "a10bfd665fa2ebbc2c90ae958c39fa37f93d6606ac3c46575d1d369244473353", func := "loop.example/soughtstreams/laws.FnSettingCodes", spec := "fnSettingCodes", apart := false, narrowed := true }
def FnSettingCodesUptoSaid : Prop := fnSettingCodesUptoRow.holds Try.pinned (OpenSpec.upto fnSettingCodesSpec)

/-- 'laws.FnDataFits', WHERE WHAT IT READS IS OF BULK AT MOST 1048576: true; the input reads as it did. -/
def fnDataFitsUptoRow : OpenClaim := { program := "ytgfclblooadomaa", sum := "a10bfd665fa2ebbc2c90ae958c39fa37f93d6606ac3c46575d1d369244473353", func := "loop.example/soughtstreams/laws.FnDataFits", spec := "fnDataFits", apart := false, narrowed := true }
def FnDataFitsUptoSaid : Prop := fnDataFitsUptoRow.holds Try.pinned (OpenSpec.upto fnDataFitsSpec)

/-- 'laws.FnBitsNeeded', WHERE WHAT IT READS IS OF BULK AT MOST 1048576: true; the input reads as it did. -/
def fnBitsNeededUptoRow : OpenClaim := { program := "ytgfclblooadomaa", sum := "a10bfd665fa2ebbc2c90ae958c39fa37f93d6606ac3c46575d1d369244473353", func := "loop.example/soughtstreams/laws.FnBitsNeeded", spec := "fnBitsNeeded", apart := false, narrowed := true }
def FnBitsNeededUptoSaid : Prop := fnBitsNeededUptoRow.holds Try.pinned (OpenSpec.upto fnBitsNeededSpec)

/-- 'laws.FnBitsCode', WHERE WHAT IT READS IS OF BULK AT MOST 1048576: true; the input reads as it did. -/
def fnBitsCodeUptoRow : OpenClaim := { program := "ytgfclblooadomaa", sum := "a10bfd665fa2ebbc2c90ae958c39fa37f93d6606ac3c46575d1d369244473353", func := "loop.example/soughtstreams/laws.FnBitsCode", spec := "fnBitsCode", apart := false, narrowed := true }
def FnBitsCodeUptoSaid : Prop := fnBitsCodeUptoRow.holds Try.pinned (OpenSpec.upto fnBitsCodeSpec)

/-- 'laws.FnReverseBits', WHERE WHAT IT READS IS OF BULK AT MOST 1048576: true; the input reads as it did. -/
def fnReverseBitsUptoRow : OpenClaim := { program := "ytgfclblooadomaa", sum := "a10bfd665fa2ebbc2c90ae958c39fa37f93d6606ac3c46575d1d369244473353", func := "loop.example/soughtstreams/laws.FnReverseBits", spec := "fnReverseBits", apart := false, narrowed := true }
def FnReverseBitsUptoSaid : Prop := fnReverseBitsUptoRow.holds Try.pinned (OpenSpec.upto fnReverseBitsSpec)

/-- 'laws.FnUnpackPack', WHERE WHAT IT READS IS OF BULK AT MOST 1048576: true; the input reads as it did. -/
def fnUnpackPackUptoRow : OpenClaim := { program := "ytgfclblooadomaa", sum := "a10bfd665fa2ebbc2c90ae958c39fa37f93d6606ac3c46575d1d369244473353", func := "loop.example/soughtstreams/laws.FnUnpackPack", spec := "fnUnpackPack", apart := false, narrowed := true }
def FnUnpackPackUptoSaid : Prop := fnUnpackPackUptoRow.holds Try.pinned (OpenSpec.upto fnUnpackPackSpec)

/-- 'laws.FnTurnBytes', WHERE WHAT IT READS IS OF BULK AT MOST 1048576: true; the input reads as it did. -/
def fnTurnBytesUptoRow : OpenClaim := { program := "ytgfclblooadomaa", sum := "a10bfd665fa2ebbc2c90ae958c39fa37f93d6606ac3c46575d1d369244473353", func := "loop.example/soughtstreams/laws.FnTurnBytes", spec := "fnTurnBytes", apart := false, narrowed := true }
def FnTurnBytesUptoSaid : Prop := fnTurnBytesUptoRow.holds Try.pinned (OpenSpec.upto fnTurnBytesSpec)

/-- 'laws.FnBitAt', WHERE WHAT IT READS IS OF BULK AT MOST 1048576: true; the input reads as it did. -/
def fnBitAtUptoRow : OpenClaim := { program := "ytgfclblooadomaa", sum := "a10bfd665fa2ebbc2c90ae958c39fa37f93d6606ac3c46575d1d369244473353", func := "loop.example/soughtstreams/laws.FnBitAt", spec := "fnBitAt", apart := false, narrowed := true }
def FnBitAtUptoSaid : Prop := fnBitAtUptoRow.holds Try.pinned (OpenSpec.upto fnBitAtSpec)

/-- 'laws.FnSpanBits', WHERE WHAT IT READS IS OF BULK AT MOST 1048576: true; the input reads as it did. -/
def fnSpanBitsUptoRow : OpenClaim := { program := "ytgfclblooadomaa", sum := "a10bfd665fa2ebbc2c90ae958c39fa37f93d6606ac3c46575d1d369244473353", func := "loop.example/soughtstreams/laws.FnSpanBits", spec := "fnSpanBits", apart := false, narrowed := true }
def FnSpanBitsUptoSaid : Prop := fnSpanBitsUptoRow.holds Try.pinned (OpenSpec.upto fnSpanBitsSpec)

/-- 'laws.FnHexText', WHERE WHAT IT READS IS OF BULK AT MOST 1048576: true; the input reads as it did. -/
def fnHexTextUptoRow : OpenClaim := { program := "ytgfclblooadomaa", sum := "a10bfd665fa2ebbc2c90ae958c39fa37f93d6606ac3c46575d1d369244473353", func := "loop.example/soughtstreams/laws.FnHexText", spec := "fnHexText", inPlace := ["internal/bytealg.IndexByteString"], apart := false, narrowed := true }
def FnHexTextUptoSaid : Prop := fnHexTextUptoRow.holds Try.pinned (OpenSpec.upto fnHexTextSpec)

/-- 'laws.FnExactSettingValid', WHERE WHAT IT READS IS OF BULK AT MOST 1048576: true; the input reads as it did. -/
def fnExactSettingValidUptoRow : OpenClaim := { program := "ytgfclblooadomaa", sum := "a10bfd665fa2ebbc2c90ae958c39fa37f93d6606ac3c46575d1d369244473353", func := "loop.example/soughtstreams/laws.FnExactSettingValid", spec := "fnExactSettingValid", apart := false, narrowed := true }
def FnExactSettingValidUptoSaid : Prop := fnExactSettingValidUptoRow.holds Try.pinned (OpenSpec.upto fnExactSettingValidSpec)

end Rows
end Go.Proofs.Ytgfclblooadomaa
