/-
  No cell of these rows narrows 'for every input' (looked for: loops, veiled, ifaces, maps, wideKeys, modest, calm, conditions, laid).
  DERIVED. THE GIVEN ROWS OF THIS SEAT. 19 by the template 'for every input the law returns true; each argument reads behind the call as it read before'; 0 by the template 'total and deterministic' (their statements: YtophlgnmfhoeiaaTotals.lean).
  GIVEN WITH THE SEED: the statements are not yours to turn. If you find one false, say at which input.
  Laid BY PROGRAM, IN A SANDBOX (cutbox-rows.mjs): the forced cells as the released guide's own fill.sh prints them over the translation af3e65f094e7ddd7… (all of the seat's roots in one cut). By AI agents, Wed Nov 11 2026. No macro, syntax, notation, axiom, sorry.
-/
import Derived.Test.YtophlgnmfhoeiaaChecked
import GoSem.Claim
import GoSem.ClaimJoined
import GoSem.ClaimMapViews
import Derived.JoinedTies
import Derived.KernelRfl
namespace Go.Proofs.Ytophlgnmfhoeiaa
/- THE CELL 'sum', in the pinned program and in every row, IS THE sha256 OF THE DUMP (.gsa) THAT YtophlgnmfhoeiaaProg.lean LOADS. Nothing in Lean hashes anything: it is a label: what it is worth is what the hold of that sum in a sandbox is worth. -/
noncomputable def Try.pinned : Pinned := { name := "ytophlgnmfhoeiaa", sum := "af3e65f094e7ddd71418d5ce31d7dae9e54505809053300501fddd9063962bf0", checked := Try.checked }
namespace Rows
def none {H : Type} : Left H := { results := [], args := [] }

/-- 'laws.FnUnpackPack': WHATEVER THE INPUT: true; the input reads as it did. -/
def fnUnpackPackSpec : ChangeSpec := { name := "fnUnpackPack", fn := fun _ => fun
  | [d] => { results := [.lit (.bool true)], args := [d] }
  | _ => none }
def fnUnpackPackRow : OpenClaim := { program := "ytophlgnmfhoeiaa", sum := "af3e65f094e7ddd71418d5ce31d7dae9e54505809053300501fddd9063962bf0", func := "loop.example/soughtstreams/laws.FnUnpackPack", spec := "fnUnpackPack", plainKeys := false, apart := false }
def FnUnpackPackSaid : Prop := fnUnpackPackRow.holds Try.pinned (OpenSpec.ofChange fnUnpackPackSpec)

/-- ITS FALSE NEIGHBOUR: 'it returns false'. Refute it at one input. -/
def fnUnpackPackWrong : ChangeSpec := { name := "fnUnpackPack", fn := fun _ => fun
  | [d] => { results := [.lit (.bool false)], args := [d] }
  | _ => none }
def FnUnpackPackWrongFalsely : Prop := fnUnpackPackRow.holds Try.pinned (OpenSpec.ofChange fnUnpackPackWrong)

/-- 'laws.FnCodeOfWord': WHATEVER THE INPUT: true; the input reads as it did. -/
def fnCodeOfWordSpec : ChangeSpec := { name := "fnCodeOfWord", fn := fun _ => fun
  | [d] => { results := [.lit (.bool true)], args := [d] }
  | _ => none }
def fnCodeOfWordRow : OpenClaim := { program := "ytophlgnmfhoeiaa", sum := "af3e65f094e7ddd71418d5ce31d7dae9e54505809053300501fddd9063962bf0", func := "loop.example/soughtstreams/laws.FnCodeOfWord", spec := "fnCodeOfWord", recurses := true, plainKeys := false, apart := false }
def FnCodeOfWordSaid : Prop := fnCodeOfWordRow.holds Try.pinned (OpenSpec.ofChange fnCodeOfWordSpec)

/-- ITS FALSE NEIGHBOUR: 'it returns false'. Refute it at one input. -/
def fnCodeOfWordWrong : ChangeSpec := { name := "fnCodeOfWord", fn := fun _ => fun
  | [d] => { results := [.lit (.bool false)], args := [d] }
  | _ => none }
def FnCodeOfWordWrongFalsely : Prop := fnCodeOfWordRow.holds Try.pinned (OpenSpec.ofChange fnCodeOfWordWrong)

/-- 'laws.FnLongestWord': WHATEVER THE INPUT: true; the input reads as it did. -/
def fnLongestWordSpec : ChangeSpec := { name := "fnLongestWord", fn := fun _ => fun
  | [d] => { results := [.lit (.bool true)], args := [d] }
  | _ => none }
def fnLongestWordRow : OpenClaim := { program := "ytophlgnmfhoeiaa", sum := "af3e65f094e7ddd71418d5ce31d7dae9e54505809053300501fddd9063962bf0", func := "loop.example/soughtstreams/laws.FnLongestWord", spec := "fnLongestWord", plainKeys := false, apart := false }
def FnLongestWordSaid : Prop := fnLongestWordRow.holds Try.pinned (OpenSpec.ofChange fnLongestWordSpec)

/-- ITS FALSE NEIGHBOUR: 'it returns false'. Refute it at one input. -/
def fnLongestWordWrong : ChangeSpec := { name := "fnLongestWord", fn := fun _ => fun
  | [d] => { results := [.lit (.bool false)], args := [d] }
  | _ => none }
def FnLongestWordWrongFalsely : Prop := fnLongestWordRow.holds Try.pinned (OpenSpec.ofChange fnLongestWordWrong)

/-- 'laws.FnCodesPrefix': WHATEVER THE INPUT: true; the input reads as it did. -/
def fnCodesPrefixSpec : ChangeSpec := { name := "fnCodesPrefix", fn := fun _ => fun
  | [d] => { results := [.lit (.bool true)], args := [d] }
  | _ => none }
def fnCodesPrefixRow : OpenClaim := { program := "ytophlgnmfhoeiaa", sum := "af3e65f094e7ddd71418d5ce31d7dae9e54505809053300501fddd9063962bf0", func := "loop.example/soughtstreams/laws.FnCodesPrefix", spec := "fnCodesPrefix", recurses := true, plainKeys := false, apart := false }
def FnCodesPrefixSaid : Prop := fnCodesPrefixRow.holds Try.pinned (OpenSpec.ofChange fnCodesPrefixSpec)

/-- ITS FALSE NEIGHBOUR: 'it returns false'. Refute it at one input. -/
def fnCodesPrefixWrong : ChangeSpec := { name := "fnCodesPrefix", fn := fun _ => fun
  | [d] => { results := [.lit (.bool false)], args := [d] }
  | _ => none }
def FnCodesPrefixWrongFalsely : Prop := fnCodesPrefixRow.holds Try.pinned (OpenSpec.ofChange fnCodesPrefixWrong)

/-- 'laws.FnCodesPackUnpack': WHATEVER THE INPUT: true; the input reads as it did. -/
def fnCodesPackUnpackSpec : ChangeSpec := { name := "fnCodesPackUnpack", fn := fun _ => fun
  | [d] => { results := [.lit (.bool true)], args := [d] }
  | _ => none }
def fnCodesPackUnpackRow : OpenClaim := { program := "ytophlgnmfhoeiaa", sum := "af3e65f094e7ddd71418d5ce31d7dae9e54505809053300501fddd9063962bf0", func := "loop.example/soughtstreams/laws.FnCodesPackUnpack", spec := "fnCodesPackUnpack", recurses := true, plainKeys := false, apart := false }
def FnCodesPackUnpackSaid : Prop := fnCodesPackUnpackRow.holds Try.pinned (OpenSpec.ofChange fnCodesPackUnpackSpec)

/-- ITS FALSE NEIGHBOUR: 'it returns false'. Refute it at one input. -/
def fnCodesPackUnpackWrong : ChangeSpec := { name := "fnCodesPackUnpack", fn := fun _ => fun
  | [d] => { results := [.lit (.bool false)], args := [d] }
  | _ => none }
def FnCodesPackUnpackWrongFalsely : Prop := fnCodesPackUnpackRow.holds Try.pinned (OpenSpec.ofChange fnCodesPackUnpackWrong)

/-- 'laws.FnCodesUnpackPack': WHATEVER THE INPUT: true; the input reads as it did. -/
def fnCodesUnpackPackSpec : ChangeSpec := { name := "fnCodesUnpackPack", fn := fun _ => fun
  | [d] => { results := [.lit (.bool true)], args := [d] }
  | _ => none }
def fnCodesUnpackPackRow : OpenClaim := { program := "ytophlgnmfhoeiaa", sum := "af3e65f094e7ddd71418d5ce31d7dae9e54505809053300501fddd9063962bf0", func := "loop.example/soughtstreams/laws.FnCodesUnpackPack", spec := "fnCodesUnpackPack", recurses := true, plainKeys := false, apart := false }
def FnCodesUnpackPackSaid : Prop := fnCodesUnpackPackRow.holds Try.pinned (OpenSpec.ofChange fnCodesUnpackPackSpec)

/-- ITS FALSE NEIGHBOUR: 'it returns false'. Refute it at one input. -/
def fnCodesUnpackPackWrong : ChangeSpec := { name := "fnCodesUnpackPack", fn := fun _ => fun
  | [d] => { results := [.lit (.bool false)], args := [d] }
  | _ => none }
def FnCodesUnpackPackWrongFalsely : Prop := fnCodesUnpackPackRow.holds Try.pinned (OpenSpec.ofChange fnCodesUnpackPackWrong)

/-- 'laws.FnUnpackBehind': WHATEVER THE INPUT: true; the input reads as it did. -/
def fnUnpackBehindSpec : ChangeSpec := { name := "fnUnpackBehind", fn := fun _ => fun
  | [d1, d2] => { results := [.lit (.bool true)], args := [d1, d2] }
  | _ => none }
def fnUnpackBehindRow : OpenClaim := { program := "ytophlgnmfhoeiaa", sum := "af3e65f094e7ddd71418d5ce31d7dae9e54505809053300501fddd9063962bf0", func := "loop.example/soughtstreams/laws.FnUnpackBehind", spec := "fnUnpackBehind", recurses := true, plainKeys := false, apart := false }
def FnUnpackBehindSaid : Prop := fnUnpackBehindRow.holds Try.pinned (OpenSpec.ofChange fnUnpackBehindSpec)

/-- ITS FALSE NEIGHBOUR: 'it returns false'. Refute it at one input. -/
def fnUnpackBehindWrong : ChangeSpec := { name := "fnUnpackBehind", fn := fun _ => fun
  | [d1, d2] => { results := [.lit (.bool false)], args := [d1, d2] }
  | _ => none }
def FnUnpackBehindWrongFalsely : Prop := fnUnpackBehindRow.holds Try.pinned (OpenSpec.ofChange fnUnpackBehindWrong)

/-- 'laws.FnGreedy': WHATEVER THE INPUT: true; the input reads as it did. -/
def fnGreedySpec : ChangeSpec := { name := "fnGreedy", fn := fun _ => fun
  | [d] => { results := [.lit (.bool true)], args := [d] }
  | _ => none }
def fnGreedyRow : OpenClaim := { program := "ytophlgnmfhoeiaa", sum := "af3e65f094e7ddd71418d5ce31d7dae9e54505809053300501fddd9063962bf0", func := "loop.example/soughtstreams/laws.FnGreedy", spec := "fnGreedy", unfollowed := true, recurses := true, plainKeys := false, apart := false }
def FnGreedySaid : Prop := fnGreedyRow.holds Try.pinned (OpenSpec.ofChange fnGreedySpec)

/-- ITS FALSE NEIGHBOUR: 'it returns false'. Refute it at one input. -/
def fnGreedyWrong : ChangeSpec := { name := "fnGreedy", fn := fun _ => fun
  | [d] => { results := [.lit (.bool false)], args := [d] }
  | _ => none }
def FnGreedyWrongFalsely : Prop := fnGreedyRow.holds Try.pinned (OpenSpec.ofChange fnGreedyWrong)

/-- 'laws.FnGreedyLongest': WHATEVER THE INPUT: true; the input reads as it did. -/
def fnGreedyLongestSpec : ChangeSpec := { name := "fnGreedyLongest", fn := fun _ => fun
  | [d] => { results := [.lit (.bool true)], args := [d] }
  | _ => none }
def fnGreedyLongestRow : OpenClaim := { program := "ytophlgnmfhoeiaa", sum := "af3e65f094e7ddd71418d5ce31d7dae9e54505809053300501fddd9063962bf0", func := "loop.example/soughtstreams/laws.FnGreedyLongest", spec := "fnGreedyLongest", unfollowed := true, recurses := true, plainKeys := false, apart := false }
def FnGreedyLongestSaid : Prop := fnGreedyLongestRow.holds Try.pinned (OpenSpec.ofChange fnGreedyLongestSpec)

/-- ITS FALSE NEIGHBOUR: 'it returns false'. Refute it at one input. -/
def fnGreedyLongestWrong : ChangeSpec := { name := "fnGreedyLongest", fn := fun _ => fun
  | [d] => { results := [.lit (.bool false)], args := [d] }
  | _ => none }
def FnGreedyLongestWrongFalsely : Prop := fnGreedyLongestRow.holds Try.pinned (OpenSpec.ofChange fnGreedyLongestWrong)

/-- 'laws.FnDecompressCodes': WHATEVER THE INPUT: true; the input reads as it did. -/
def fnDecompressCodesSpec : ChangeSpec := { name := "fnDecompressCodes", fn := fun _ => fun
  | [d] => { results := [.lit (.bool true)], args := [d] }
  | _ => none }
def fnDecompressCodesRow : OpenClaim := { program := "ytophlgnmfhoeiaa", sum := "af3e65f094e7ddd71418d5ce31d7dae9e54505809053300501fddd9063962bf0", func := "loop.example/soughtstreams/laws.FnDecompressCodes", spec := "fnDecompressCodes", recurses := true, plainKeys := false, apart := false }
def FnDecompressCodesSaid : Prop := fnDecompressCodesRow.holds Try.pinned (OpenSpec.ofChange fnDecompressCodesSpec)

/-- ITS FALSE NEIGHBOUR: 'it returns false'. Refute it at one input. -/
def fnDecompressCodesWrong : ChangeSpec := { name := "fnDecompressCodes", fn := fun _ => fun
  | [d] => { results := [.lit (.bool false)], args := [d] }
  | _ => none }
def FnDecompressCodesWrongFalsely : Prop := fnDecompressCodesRow.holds Try.pinned (OpenSpec.ofChange fnDecompressCodesWrong)

/-- 'laws.FnRepack': WHATEVER THE INPUT: true; the input reads as it did. -/
def fnRepackSpec : ChangeSpec := { name := "fnRepack", fn := fun _ => fun
  | [d] => { results := [.lit (.bool true)], args := [d] }
  | _ => none }
def fnRepackRow : OpenClaim := { program := "ytophlgnmfhoeiaa", sum := "af3e65f094e7ddd71418d5ce31d7dae9e54505809053300501fddd9063962bf0", func := "loop.example/soughtstreams/laws.FnRepack", spec := "fnRepack", recurses := true, plainKeys := false, apart := false }
def FnRepackSaid : Prop := fnRepackRow.holds Try.pinned (OpenSpec.ofChange fnRepackSpec)

/-- ITS FALSE NEIGHBOUR: 'it returns false'. Refute it at one input. -/
def fnRepackWrong : ChangeSpec := { name := "fnRepack", fn := fun _ => fun
  | [d] => { results := [.lit (.bool false)], args := [d] }
  | _ => none }
def FnRepackWrongFalsely : Prop := fnRepackRow.holds Try.pinned (OpenSpec.ofChange fnRepackWrong)

/-- 'laws.FnSumCut': WHATEVER THE INPUT: true; the input reads as it did. -/
def fnSumCutSpec : ChangeSpec := { name := "fnSumCut", fn := fun _ => fun
  | [d1, d2] => { results := [.lit (.bool true)], args := [d1, d2] }
  | _ => none }
def fnSumCutRow : OpenClaim := { program := "ytophlgnmfhoeiaa", sum := "af3e65f094e7ddd71418d5ce31d7dae9e54505809053300501fddd9063962bf0", func := "loop.example/soughtstreams/laws.FnSumCut", spec := "fnSumCut", plainKeys := false, apart := false }
def FnSumCutSaid : Prop := fnSumCutRow.holds Try.pinned (OpenSpec.ofChange fnSumCutSpec)

/-- ITS FALSE NEIGHBOUR: 'it returns false'. Refute it at one input. -/
def fnSumCutWrong : ChangeSpec := { name := "fnSumCut", fn := fun _ => fun
  | [d1, d2] => { results := [.lit (.bool false)], args := [d1, d2] }
  | _ => none }
def FnSumCutWrongFalsely : Prop := fnSumCutRow.holds Try.pinned (OpenSpec.ofChange fnSumCutWrong)

/-- 'laws.FnSumChange': WHATEVER THE INPUT: true; the input reads as it did. -/
def fnSumChangeSpec : ChangeSpec := { name := "fnSumChange", fn := fun _ => fun
  | [d1, d2] => { results := [.lit (.bool true)], args := [d1, d2] }
  | _ => none }
def fnSumChangeRow : OpenClaim := { program := "ytophlgnmfhoeiaa", sum := "af3e65f094e7ddd71418d5ce31d7dae9e54505809053300501fddd9063962bf0", func := "loop.example/soughtstreams/laws.FnSumChange", spec := "fnSumChange", plainKeys := false, apart := false }
def FnSumChangeSaid : Prop := fnSumChangeRow.holds Try.pinned (OpenSpec.ofChange fnSumChangeSpec)

/-- ITS FALSE NEIGHBOUR: 'it returns false'. Refute it at one input. -/
def fnSumChangeWrong : ChangeSpec := { name := "fnSumChange", fn := fun _ => fun
  | [d1, d2] => { results := [.lit (.bool false)], args := [d1, d2] }
  | _ => none }
def FnSumChangeWrongFalsely : Prop := fnSumChangeRow.holds Try.pinned (OpenSpec.ofChange fnSumChangeWrong)

/-- 'laws.FnExactPackBits': WHATEVER THE INPUT: true; the input reads as it did. -/
def fnExactPackBitsSpec : ChangeSpec := { name := "fnExactPackBits", fn := fun _ => fun
  | [d1, d2] => { results := [.lit (.bool true)], args := [d1, d2] }
  | _ => none }
def fnExactPackBitsRow : OpenClaim := { program := "ytophlgnmfhoeiaa", sum := "af3e65f094e7ddd71418d5ce31d7dae9e54505809053300501fddd9063962bf0", func := "loop.example/soughtstreams/laws.FnExactPackBits", spec := "fnExactPackBits", plainKeys := false, apart := false }
def FnExactPackBitsSaid : Prop := fnExactPackBitsRow.holds Try.pinned (OpenSpec.ofChange fnExactPackBitsSpec)

/-- ITS FALSE NEIGHBOUR: 'it returns false'. Refute it at one input. -/
def fnExactPackBitsWrong : ChangeSpec := { name := "fnExactPackBits", fn := fun _ => fun
  | [d1, d2] => { results := [.lit (.bool false)], args := [d1, d2] }
  | _ => none }
def FnExactPackBitsWrongFalsely : Prop := fnExactPackBitsRow.holds Try.pinned (OpenSpec.ofChange fnExactPackBitsWrong)

/-- 'laws.FnExactCodeOfWord': WHATEVER THE INPUT: true; the input reads as it did. -/
def fnExactCodeOfWordSpec : ChangeSpec := { name := "fnExactCodeOfWord", fn := fun _ => fun
  | [d1, d2] => { results := [.lit (.bool true)], args := [d1, d2] }
  | _ => none }
def fnExactCodeOfWordRow : OpenClaim := { program := "ytophlgnmfhoeiaa", sum := "af3e65f094e7ddd71418d5ce31d7dae9e54505809053300501fddd9063962bf0", func := "loop.example/soughtstreams/laws.FnExactCodeOfWord", spec := "fnExactCodeOfWord", plainKeys := false, apart := false }
def FnExactCodeOfWordSaid : Prop := fnExactCodeOfWordRow.holds Try.pinned (OpenSpec.ofChange fnExactCodeOfWordSpec)

/-- ITS FALSE NEIGHBOUR: 'it returns false'. Refute it at one input. -/
def fnExactCodeOfWordWrong : ChangeSpec := { name := "fnExactCodeOfWord", fn := fun _ => fun
  | [d1, d2] => { results := [.lit (.bool false)], args := [d1, d2] }
  | _ => none }
def FnExactCodeOfWordWrongFalsely : Prop := fnExactCodeOfWordRow.holds Try.pinned (OpenSpec.ofChange fnExactCodeOfWordWrong)

/-- 'laws.FnExactLongestWord': WHATEVER THE INPUT: true; the input reads as it did. -/
def fnExactLongestWordSpec : ChangeSpec := { name := "fnExactLongestWord", fn := fun _ => fun
  | [d1, d2] => { results := [.lit (.bool true)], args := [d1, d2] }
  | _ => none }
def fnExactLongestWordRow : OpenClaim := { program := "ytophlgnmfhoeiaa", sum := "af3e65f094e7ddd71418d5ce31d7dae9e54505809053300501fddd9063962bf0", func := "loop.example/soughtstreams/laws.FnExactLongestWord", spec := "fnExactLongestWord", plainKeys := false, apart := false }
def FnExactLongestWordSaid : Prop := fnExactLongestWordRow.holds Try.pinned (OpenSpec.ofChange fnExactLongestWordSpec)

/-- ITS FALSE NEIGHBOUR: 'it returns false'. Refute it at one input. -/
def fnExactLongestWordWrong : ChangeSpec := { name := "fnExactLongestWord", fn := fun _ => fun
  | [d1, d2] => { results := [.lit (.bool false)], args := [d1, d2] }
  | _ => none }
def FnExactLongestWordWrongFalsely : Prop := fnExactLongestWordRow.holds Try.pinned (OpenSpec.ofChange fnExactLongestWordWrong)

/-- 'laws.FnExactGreedyCodes': WHATEVER THE INPUT: true; the input reads as it did. -/
def fnExactGreedyCodesSpec : ChangeSpec := { name := "fnExactGreedyCodes", fn := fun _ => fun
  | [d1, d2] => { results := [.lit (.bool true)], args := [d1, d2] }
  | _ => none }
def fnExactGreedyCodesRow : OpenClaim := { program := "ytophlgnmfhoeiaa", sum := "af3e65f094e7ddd71418d5ce31d7dae9e54505809053300501fddd9063962bf0", func := "loop.example/soughtstreams/laws.FnExactGreedyCodes", spec := "fnExactGreedyCodes", unfollowed := true, recurses := true, plainKeys := false, apart := false }
def FnExactGreedyCodesSaid : Prop := fnExactGreedyCodesRow.holds Try.pinned (OpenSpec.ofChange fnExactGreedyCodesSpec)

/-- ITS FALSE NEIGHBOUR: 'it returns false'. Refute it at one input. -/
def fnExactGreedyCodesWrong : ChangeSpec := { name := "fnExactGreedyCodes", fn := fun _ => fun
  | [d1, d2] => { results := [.lit (.bool false)], args := [d1, d2] }
  | _ => none }
def FnExactGreedyCodesWrongFalsely : Prop := fnExactGreedyCodesRow.holds Try.pinned (OpenSpec.ofChange fnExactGreedyCodesWrong)

/-- 'laws.FnExactCompress': WHATEVER THE INPUT: true; the input reads as it did. -/
def fnExactCompressSpec : ChangeSpec := { name := "fnExactCompress", fn := fun _ => fun
  | [d1, d2] => { results := [.lit (.bool true)], args := [d1, d2] }
  | _ => none }
def fnExactCompressRow : OpenClaim := { program := "ytophlgnmfhoeiaa", sum := "af3e65f094e7ddd71418d5ce31d7dae9e54505809053300501fddd9063962bf0", func := "loop.example/soughtstreams/laws.FnExactCompress", spec := "fnExactCompress", unfollowed := true, recurses := true, plainKeys := false, apart := false }
def FnExactCompressSaid : Prop := fnExactCompressRow.holds Try.pinned (OpenSpec.ofChange fnExactCompressSpec)

/-- ITS FALSE NEIGHBOUR: 'it returns false'. Refute it at one input. -/
def fnExactCompressWrong : ChangeSpec := { name := "fnExactCompress", fn := fun _ => fun
  | [d1, d2] => { results := [.lit (.bool false)], args := [d1, d2] }
  | _ => none }
def FnExactCompressWrongFalsely : Prop := fnExactCompressRow.holds Try.pinned (OpenSpec.ofChange fnExactCompressWrong)

/-- 'laws.FnExactSumOf': WHATEVER THE INPUT: true; the input reads as it did. -/
def fnExactSumOfSpec : ChangeSpec := { name := "fnExactSumOf", fn := fun _ => fun
  | [d] => { results := [.lit (.bool true)], args := [d] }
  | _ => none }
def fnExactSumOfRow : OpenClaim := { program := "ytophlgnmfhoeiaa", sum := "af3e65f094e7ddd71418d5ce31d7dae9e54505809053300501fddd9063962bf0", func := "loop.example/soughtstreams/laws.FnExactSumOf", spec := "fnExactSumOf", plainKeys := false, apart := false }
def FnExactSumOfSaid : Prop := fnExactSumOfRow.holds Try.pinned (OpenSpec.ofChange fnExactSumOfSpec)

/-- ITS FALSE NEIGHBOUR: 'it returns false'. Refute it at one input. -/
def fnExactSumOfWrong : ChangeSpec := { name := "fnExactSumOf", fn := fun _ => fun
  | [d] => { results := [.lit (.bool false)], args := [d] }
  | _ => none }
def FnExactSumOfWrongFalsely : Prop := fnExactSumOfRow.holds Try.pinned (OpenSpec.ofChange fnExactSumOfWrong)

/- THE SECOND FORM. 'bulk': how many values and letters a reading holds, each counted each time it is reached (what is shared counts as often as it is met; a slice's spare places count too). A statement '..UptoSaid' is the law's where the arguments, and the package variables that the reading takes, are together of bulk at most 1048576: NARROWER than '..Said'. Prove '..Said' where nothing that the law and all that it calls make is longer than what came in: it says more and counts as full. Else prove '..UptoSaid'. A law counts once. -/
mutual
def uptoBulk {H : Type} : DataW H → Nat
  | .lit (.string bytes) => bytes.length + 1
  | .lit _ => 1
  | .nil => 1
  | .ptr d => uptoBulk d + 1
  | .slice elems spare => uptoBulkAll elems + uptoBulkAll spare + 1
  | .agg parts => uptoBulkAll parts + 1
  | .iface _ d => uptoBulk d + 1
  | .map entries => uptoBulkEntries entries + 1
  | .held _ => 1
def uptoBulkAll {H : Type} : List (DataW H) → Nat
  | [] => 0
  | d :: r => uptoBulk d + uptoBulkAll r
def uptoBulkEntries {H : Type} : List (Lit × DataW H) → Nat
  | [] => 0
  | x :: r => uptoBulkEntry x + uptoBulkEntries r
def uptoBulkEntry {H : Type} : Lit × DataW H → Nat
  | (.string bytes, d) => bytes.length + uptoBulk d + 1
  | (_, d) => uptoBulk d + 1
 end
def uptoSmall : (H : Type) → List (DataW H) → Bool := fun _ ds => decide (uptoBulkAll ds ≤ 1048576)
def OpenSpec.upto (s : _root_.Go.ChangeSpec) : _root_.Go.OpenSpec := { _root_.Go.OpenSpec.ofChange s with cond := some uptoSmall }

/-- 'laws.FnUnpackPack', WHERE WHAT IT READS IS OF BULK AT MOST 1048576: true; the input reads as it did. -/
def fnUnpackPackUptoRow : OpenClaim := { program := "ytophlgnmfhoeiaa", sum := "af3e65f094e7ddd71418d5ce31d7dae9e54505809053300501fddd9063962bf0", func := "loop.example/soughtstreams/laws.FnUnpackPack", spec := "fnUnpackPack", plainKeys := false, apart := false, narrowed := true }
def FnUnpackPackUptoSaid : Prop := fnUnpackPackUptoRow.holds Try.pinned (OpenSpec.upto fnUnpackPackSpec)

/-- 'laws.FnCodeOfWord', WHERE WHAT IT READS IS OF BULK AT MOST 1048576: true; the input reads as it did. -/
def fnCodeOfWordUptoRow : OpenClaim := { program := "ytophlgnmfhoeiaa", sum := "af3e65f094e7ddd71418d5ce31d7dae9e54505809053300501fddd9063962bf0", func := "loop.example/soughtstreams/laws.FnCodeOfWord", spec := "fnCodeOfWord", recurses := true, plainKeys := false, apart := false, narrowed := true }
def FnCodeOfWordUptoSaid : Prop := fnCodeOfWordUptoRow.holds Try.pinned (OpenSpec.upto fnCodeOfWordSpec)

/-- 'laws.FnLongestWord', WHERE WHAT IT READS IS OF BULK AT MOST 1048576: true; the input reads as it did. -/
def fnLongestWordUptoRow : OpenClaim := { program := "ytophlgnmfhoeiaa", sum := "af3e65f094e7ddd71418d5ce31d7dae9e54505809053300501fddd9063962bf0", func := "loop.example/soughtstreams/laws.FnLongestWord", spec := "fnLongestWord", plainKeys := false, apart := false, narrowed := true }
def FnLongestWordUptoSaid : Prop := fnLongestWordUptoRow.holds Try.pinned (OpenSpec.upto fnLongestWordSpec)

/-- 'laws.FnCodesPrefix', WHERE WHAT IT READS IS OF BULK AT MOST 1048576: true; the input reads as it did. -/
def fnCodesPrefixUptoRow : OpenClaim := { program := "ytophlgnmfhoeiaa", sum := "af3e65f094e7ddd71418d5ce31d7dae9e54505809053300501fddd9063962bf0", func := "loop.example/soughtstreams/laws.FnCodesPrefix", spec := "fnCodesPrefix", recurses := true, plainKeys := false, apart := false, narrowed := true }
def FnCodesPrefixUptoSaid : Prop := fnCodesPrefixUptoRow.holds Try.pinned (OpenSpec.upto fnCodesPrefixSpec)

/-- 'laws.FnCodesPackUnpack', WHERE WHAT IT READS IS OF BULK AT MOST 1048576: true; the input reads as it did. -/
def fnCodesPackUnpackUptoRow : OpenClaim := { program := "ytophlgnmfhoeiaa", sum := "af3e65f094e7ddd71418d5ce31d7dae9e54505809053300501fddd9063962bf0", func := "loop.example/soughtstreams/laws.FnCodesPackUnpack", spec := "fnCodesPackUnpack", recurses := true, plainKeys := false, apart := false, narrowed := true }
def FnCodesPackUnpackUptoSaid : Prop := fnCodesPackUnpackUptoRow.holds Try.pinned (OpenSpec.upto fnCodesPackUnpackSpec)

/-- 'laws.FnCodesUnpackPack', WHERE WHAT IT READS IS OF BULK AT MOST 1048576: true; the input reads as it did. -/
def fnCodesUnpackPackUptoRow : OpenClaim := { program := "ytophlgnmfhoeiaa", sum := "af3e65f094e7ddd71418d5ce31d7dae9e54505809053300501fddd9063962bf0", func := "loop.example/soughtstreams/laws.FnCodesUnpackPack", spec := "fnCodesUnpackPack", recurses := true, plainKeys := false, apart := false, narrowed := true }
def FnCodesUnpackPackUptoSaid : Prop := fnCodesUnpackPackUptoRow.holds Try.pinned (OpenSpec.upto fnCodesUnpackPackSpec)

/-- 'laws.FnUnpackBehind', WHERE WHAT IT READS IS OF BULK AT MOST 1048576: true; the input reads as it did. -/
def fnUnpackBehindUptoRow : OpenClaim := { program := "ytophlgnmfhoeiaa", sum := "af3e65f094e7ddd71418d5ce31d7dae9e54505809053300501fddd9063962bf0", func := "loop.example/soughtstreams/laws.FnUnpackBehind", spec := "fnUnpackBehind", recurses := true, plainKeys := false, apart := false, narrowed := true }
def FnUnpackBehindUptoSaid : Prop := fnUnpackBehindUptoRow.holds Try.pinned (OpenSpec.upto fnUnpackBehindSpec)

/-- 'laws.FnGreedy', WHERE WHAT IT READS IS OF BULK AT MOST 1048576: true; the input reads as it did. -/
def fnGreedyUptoRow : OpenClaim := { program := "ytophlgnmfhoeiaa", sum := "af3e65f094e7ddd71418d5ce31d7dae9e54505809053300501fddd9063962bf0", func := "loop.example/soughtstreams/laws.FnGreedy", spec := "fnGreedy", unfollowed := true, recurses := true, plainKeys := false, apart := false, narrowed := true }
def FnGreedyUptoSaid : Prop := fnGreedyUptoRow.holds Try.pinned (OpenSpec.upto fnGreedySpec)

/-- 'laws.FnGreedyLongest', WHERE WHAT IT READS IS OF BULK AT MOST 1048576: true; the input reads as it did. -/
def fnGreedyLongestUptoRow : OpenClaim := { program := "ytophlgnmfhoeiaa", sum := "af3e65f094e7ddd71418d5ce31d7dae9e54505809053300501fddd9063962bf0", func := "loop.example/soughtstreams/laws.FnGreedyLongest", spec := "fnGreedyLongest", unfollowed := true, recurses := true, plainKeys := false, apart := false, narrowed := true }
def FnGreedyLongestUptoSaid : Prop := fnGreedyLongestUptoRow.holds Try.pinned (OpenSpec.upto fnGreedyLongestSpec)

/-- 'laws.FnDecompressCodes', WHERE WHAT IT READS IS OF BULK AT MOST 1048576: true; the input reads as it did. -/
def fnDecompressCodesUptoRow : OpenClaim := { program := "ytophlgnmfhoeiaa", sum := "af3e65f094e7ddd71418d5ce31d7dae9e54505809053300501fddd9063962bf0", func := "loop.example/soughtstreams/laws.FnDecompressCodes", spec := "fnDecompressCodes", recurses := true, plainKeys := false, apart := false, narrowed := true }
def FnDecompressCodesUptoSaid : Prop := fnDecompressCodesUptoRow.holds Try.pinned (OpenSpec.upto fnDecompressCodesSpec)

/-- 'laws.FnRepack', WHERE WHAT IT READS IS OF BULK AT MOST 1048576: true; the input reads as it did. -/
def fnRepackUptoRow : OpenClaim := { program := "ytophlgnmfhoeiaa", sum := "af3e65f094e7ddd71418d5ce31d7dae9e54505809053300501fddd9063962bf0", func := "loop.example/soughtstreams/laws.FnRepack", spec := "fnRepack", recurses := true, plainKeys := false, apart := false, narrowed := true }
def FnRepackUptoSaid : Prop := fnRepackUptoRow.holds Try.pinned (OpenSpec.upto fnRepackSpec)

/-- 'laws.FnSumCut', WHERE WHAT IT READS IS OF BULK AT MOST 1048576: true; the input reads as it did. -/
def fnSumCutUptoRow : OpenClaim := { program := "ytophlgnmfhoeiaa", sum := "af3e65f094e7ddd71418d5ce31d7dae9e54505809053300501fddd9063962bf0", func := "loop.example/soughtstreams/laws.FnSumCut", spec := "fnSumCut", plainKeys := false, apart := false, narrowed := true }
def FnSumCutUptoSaid : Prop := fnSumCutUptoRow.holds Try.pinned (OpenSpec.upto fnSumCutSpec)

/-- 'laws.FnSumChange', WHERE WHAT IT READS IS OF BULK AT MOST 1048576: true; the input reads as it did. -/
def fnSumChangeUptoRow : OpenClaim := { program := "ytophlgnmfhoeiaa", sum := "af3e65f094e7ddd71418d5ce31d7dae9e54505809053300501fddd9063962bf0", func := "loop.example/soughtstreams/laws.FnSumChange", spec := "fnSumChange", plainKeys := false, apart := false, narrowed := true }
def FnSumChangeUptoSaid : Prop := fnSumChangeUptoRow.holds Try.pinned (OpenSpec.upto fnSumChangeSpec)

/-- 'laws.FnExactPackBits', WHERE WHAT IT READS IS OF BULK AT MOST 1048576: true; the input reads as it did. -/
def fnExactPackBitsUptoRow : OpenClaim := { program := "ytophlgnmfhoeiaa", sum := "af3e65f094e7ddd71418d5ce31d7dae9e54505809053300501fddd9063962bf0", func := "loop.example/soughtstreams/laws.FnExactPackBits", spec := "fnExactPackBits", plainKeys := false, apart := false, narrowed := true }
def FnExactPackBitsUptoSaid : Prop := fnExactPackBitsUptoRow.holds Try.pinned (OpenSpec.upto fnExactPackBitsSpec)

/-- 'laws.FnExactCodeOfWord', WHERE WHAT IT READS IS OF BULK AT MOST 1048576: true; the input reads as it did. -/
def fnExactCodeOfWordUptoRow : OpenClaim := { program := "ytophlgnmfhoeiaa", sum := "af3e65f094e7ddd71418d5ce31d7dae9e54505809053300501fddd9063962bf0", func := "loop.example/soughtstreams/laws.FnExactCodeOfWord", spec := "fnExactCodeOfWord", plainKeys := false, apart := false, narrowed := true }
def FnExactCodeOfWordUptoSaid : Prop := fnExactCodeOfWordUptoRow.holds Try.pinned (OpenSpec.upto fnExactCodeOfWordSpec)

/-- 'laws.FnExactLongestWord', WHERE WHAT IT READS IS OF BULK AT MOST 1048576: true; the input reads as it did. -/
def fnExactLongestWordUptoRow : OpenClaim := { program := "ytophlgnmfhoeiaa", sum := "af3e65f094e7ddd71418d5ce31d7dae9e54505809053300501fddd9063962bf0", func := "loop.example/soughtstreams/laws.FnExactLongestWord", spec := "fnExactLongestWord", plainKeys := false, apart := false, narrowed := true }
def FnExactLongestWordUptoSaid : Prop := fnExactLongestWordUptoRow.holds Try.pinned (OpenSpec.upto fnExactLongestWordSpec)

/-- 'laws.FnExactGreedyCodes', WHERE WHAT IT READS IS OF BULK AT MOST 1048576: true; the input reads as it did. -/
def fnExactGreedyCodesUptoRow : OpenClaim := { program := "ytophlgnmfhoeiaa", sum := "af3e65f094e7ddd71418d5ce31d7dae9e54505809053300501fddd9063962bf0", func := "loop.example/soughtstreams/laws.FnExactGreedyCodes", spec := "fnExactGreedyCodes", unfollowed := true, recurses := true, plainKeys := false, apart := false, narrowed := true }
def FnExactGreedyCodesUptoSaid : Prop := fnExactGreedyCodesUptoRow.holds Try.pinned (OpenSpec.upto fnExactGreedyCodesSpec)

/-- 'laws.FnExactCompress', WHERE WHAT IT READS IS OF BULK AT MOST 1048576: true; the input reads as it did. -/
def fnExactCompressUptoRow : OpenClaim := { program := "ytophlgnmfhoeiaa", sum := "af3e65f094e7ddd71418d5ce31d7dae9e54505809053300501fddd9063962bf0", func := "loop.example/soughtstreams/laws.FnExactCompress", spec := "fnExactCompress", unfollowed := true, recurses := true, plainKeys := false, apart := false, narrowed := true }
def FnExactCompressUptoSaid : Prop := fnExactCompressUptoRow.holds Try.pinned (OpenSpec.upto fnExactCompressSpec)

/-- 'laws.FnExactSumOf', WHERE WHAT IT READS IS OF BULK AT MOST 1048576: true; the input reads as it did. -/
def fnExactSumOfUptoRow : OpenClaim := { program := "ytophlgnmfhoeiaa", sum := "af3e65f094e7ddd71418d5ce31d7dae9e54505809053300501fddd9063962bf0", func := "loop.example/soughtstreams/laws.FnExactSumOf", spec := "fnExactSumOf", plainKeys := false, apart := false, narrowed := true }
def FnExactSumOfUptoSaid : Prop := fnExactSumOfUptoRow.holds Try.pinned (OpenSpec.upto fnExactSumOfSpec)

end Rows
end Go.Proofs.Ytophlgnmfhoeiaa
