/-
  No cell of these rows narrows 'for every input' (looked for: loops, veiled, ifaces, maps, wideKeys, modest, calm, conditions, laid).
  DERIVED. THE GIVEN ROWS OF THIS SEAT. 28 by the template 'for every input the law returns true; each argument reads behind the call as it read before'; 0 by the template 'total and deterministic' (their statements: YtoiifopjipfjhaaTotals.lean).
  GIVEN WITH THE SEED: the statements are not yours to turn. If you find one false, say at which input.
  Laid BY PROGRAM, IN A SANDBOX (cutbox-rows.mjs): the forced cells as the released guide's own fill.sh prints them over the translation 26fd3662c58d5c5f… (all of the seat's roots in one cut). By AI agents, Wed Nov 11 2026. No macro, syntax, notation, axiom, sorry.
-/
import Derived.Test.YtoiifopjipfjhaaChecked
import GoSem.Claim
import GoSem.ClaimJoined
import GoSem.ClaimMapViews
import Derived.JoinedTies
import Derived.KernelRfl
namespace Go.Proofs.Ytoiifopjipfjhaa
/- THE CELL 'sum', in the pinned program and in every row, IS THE sha256 OF THE DUMP (.gsa) THAT YtoiifopjipfjhaaProg.lean LOADS. Nothing in Lean hashes anything: it is a label: what it is worth is what the hold of that sum in a sandbox is worth. -/
noncomputable def Try.pinned : Pinned := { name := "ytoiifopjipfjhaa", sum := "26fd3662c58d5c5f26c710266f15a0cf33dc8eec6008b24cc89dd22fac3b668b", checked := Try.checked }
namespace Rows
def none {H : Type} : Left H := { results := [], args := [] }

/-- 'laws.FnStart': WHATEVER THE INPUT: true; the input reads as it did. -/
def fnStartSpec : ChangeSpec := { name := "fnStart", fn := fun _ => fun
  | [d] => { results := [.lit (.bool true)], args := [d] }
  | _ => none }
def fnStartRow : OpenClaim := { program := "ytoiifopjipfjhaa", sum := "26fd3662c58d5c5f26c710266f15a0cf33dc8eec6008b24cc89dd22fac3b668b", func := "loop.example/soughtstreams/laws.FnStart", spec := "fnStart", plainKeys := false, apart := false }
def FnStartSaid : Prop := fnStartRow.holds Try.pinned (OpenSpec.ofChange fnStartSpec)

/-- ITS FALSE NEIGHBOUR: 'it returns false'. Refute it at one input. -/
def fnStartWrong : ChangeSpec := { name := "fnStart", fn := fun _ => fun
  | [d] => { results := [.lit (.bool false)], args := [d] }
  | _ => none }
def FnStartWrongFalsely : Prop := fnStartRow.holds Try.pinned (OpenSpec.ofChange fnStartWrong)

/-- 'laws.FnAfter': WHATEVER THE INPUT: true; the input reads as it did. -/
def fnAfterSpec : ChangeSpec := { name := "fnAfter", fn := fun _ => fun
  | [d] => { results := [.lit (.bool true)], args := [d] }
  | _ => none }
def fnAfterRow : OpenClaim := { program := "ytoiifopjipfjhaa", sum := "26fd3662c58d5c5f26c710266f15a0cf33dc8eec6008b24cc89dd22fac3b668b", func := "loop.example/soughtstreams/laws.FnAfter", spec := "fnAfter", plainKeys := false, apart := false }
def FnAfterSaid : Prop := fnAfterRow.holds Try.pinned (OpenSpec.ofChange fnAfterSpec)

/-- ITS FALSE NEIGHBOUR: 'it returns false'. Refute it at one input. -/
def fnAfterWrong : ChangeSpec := { name := "fnAfter", fn := fun _ => fun
  | [d] => { results := [.lit (.bool false)], args := [d] }
  | _ => none }
def FnAfterWrongFalsely : Prop := fnAfterRow.holds Try.pinned (OpenSpec.ofChange fnAfterWrong)

/-- 'laws.FnAfterWord': WHATEVER THE INPUT: true; the input reads as it did. -/
def fnAfterWordSpec : ChangeSpec := { name := "fnAfterWord", fn := fun _ => fun
  | [d] => { results := [.lit (.bool true)], args := [d] }
  | _ => none }
def fnAfterWordRow : OpenClaim := { program := "ytoiifopjipfjhaa", sum := "26fd3662c58d5c5f26c710266f15a0cf33dc8eec6008b24cc89dd22fac3b668b", func := "loop.example/soughtstreams/laws.FnAfterWord", spec := "fnAfterWord", recurses := true, plainKeys := false, apart := false }
def FnAfterWordSaid : Prop := fnAfterWordRow.holds Try.pinned (OpenSpec.ofChange fnAfterWordSpec)

/-- ITS FALSE NEIGHBOUR: 'it returns false'. Refute it at one input. -/
def fnAfterWordWrong : ChangeSpec := { name := "fnAfterWord", fn := fun _ => fun
  | [d] => { results := [.lit (.bool false)], args := [d] }
  | _ => none }
def FnAfterWordWrongFalsely : Prop := fnAfterWordRow.holds Try.pinned (OpenSpec.ofChange fnAfterWordWrong)

/-- 'laws.FnWidth': WHATEVER THE INPUT: true; the input reads as it did. -/
def fnWidthSpec : ChangeSpec := { name := "fnWidth", fn := fun _ => fun
  | [d] => { results := [.lit (.bool true)], args := [d] }
  | _ => none }
def fnWidthRow : OpenClaim := { program := "ytoiifopjipfjhaa", sum := "26fd3662c58d5c5f26c710266f15a0cf33dc8eec6008b24cc89dd22fac3b668b", func := "loop.example/soughtstreams/laws.FnWidth", spec := "fnWidth", plainKeys := false, apart := false }
def FnWidthSaid : Prop := fnWidthRow.holds Try.pinned (OpenSpec.ofChange fnWidthSpec)

/-- ITS FALSE NEIGHBOUR: 'it returns false'. Refute it at one input. -/
def fnWidthWrong : ChangeSpec := { name := "fnWidth", fn := fun _ => fun
  | [d] => { results := [.lit (.bool false)], args := [d] }
  | _ => none }
def FnWidthWrongFalsely : Prop := fnWidthRow.holds Try.pinned (OpenSpec.ofChange fnWidthWrong)

/-- 'laws.FnGreatest': WHATEVER THE INPUT: true; the input reads as it did. -/
def fnGreatestSpec : ChangeSpec := { name := "fnGreatest", fn := fun _ => fun
  | [d] => { results := [.lit (.bool true)], args := [d] }
  | _ => none }
def fnGreatestRow : OpenClaim := { program := "ytoiifopjipfjhaa", sum := "26fd3662c58d5c5f26c710266f15a0cf33dc8eec6008b24cc89dd22fac3b668b", func := "loop.example/soughtstreams/laws.FnGreatest", spec := "fnGreatest", recurses := true, plainKeys := false, apart := false }
def FnGreatestSaid : Prop := fnGreatestRow.holds Try.pinned (OpenSpec.ofChange fnGreatestSpec)

/-- ITS FALSE NEIGHBOUR: 'it returns false'. Refute it at one input. -/
def fnGreatestWrong : ChangeSpec := { name := "fnGreatest", fn := fun _ => fun
  | [d] => { results := [.lit (.bool false)], args := [d] }
  | _ => none }
def FnGreatestWrongFalsely : Prop := fnGreatestRow.holds Try.pinned (OpenSpec.ofChange fnGreatestWrong)

/-- 'laws.FnWordPrefix': WHATEVER THE INPUT: true; the input reads as it did. -/
def fnWordPrefixSpec : ChangeSpec := { name := "fnWordPrefix", fn := fun _ => fun
  | [d] => { results := [.lit (.bool true)], args := [d] }
  | _ => none }
def fnWordPrefixRow : OpenClaim := { program := "ytoiifopjipfjhaa", sum := "26fd3662c58d5c5f26c710266f15a0cf33dc8eec6008b24cc89dd22fac3b668b", func := "loop.example/soughtstreams/laws.FnWordPrefix", spec := "fnWordPrefix", recurses := true, plainKeys := false, apart := false }
def FnWordPrefixSaid : Prop := fnWordPrefixRow.holds Try.pinned (OpenSpec.ofChange fnWordPrefixSpec)

/-- ITS FALSE NEIGHBOUR: 'it returns false'. Refute it at one input. -/
def fnWordPrefixWrong : ChangeSpec := { name := "fnWordPrefix", fn := fun _ => fun
  | [d] => { results := [.lit (.bool false)], args := [d] }
  | _ => none }
def FnWordPrefixWrongFalsely : Prop := fnWordPrefixRow.holds Try.pinned (OpenSpec.ofChange fnWordPrefixWrong)

/-- 'laws.FnCodeOfWord': WHATEVER THE INPUT: true; the input reads as it did. -/
def fnCodeOfWordSpec : ChangeSpec := { name := "fnCodeOfWord", fn := fun _ => fun
  | [d] => { results := [.lit (.bool true)], args := [d] }
  | _ => none }
def fnCodeOfWordRow : OpenClaim := { program := "ytoiifopjipfjhaa", sum := "26fd3662c58d5c5f26c710266f15a0cf33dc8eec6008b24cc89dd22fac3b668b", func := "loop.example/soughtstreams/laws.FnCodeOfWord", spec := "fnCodeOfWord", recurses := true, plainKeys := false, apart := false }
def FnCodeOfWordSaid : Prop := fnCodeOfWordRow.holds Try.pinned (OpenSpec.ofChange fnCodeOfWordSpec)

/-- ITS FALSE NEIGHBOUR: 'it returns false'. Refute it at one input. -/
def fnCodeOfWordWrong : ChangeSpec := { name := "fnCodeOfWord", fn := fun _ => fun
  | [d] => { results := [.lit (.bool false)], args := [d] }
  | _ => none }
def FnCodeOfWordWrongFalsely : Prop := fnCodeOfWordRow.holds Try.pinned (OpenSpec.ofChange fnCodeOfWordWrong)

/-- 'laws.FnLongestWord': WHATEVER THE INPUT: true; the input reads as it did. -/
def fnLongestWordSpec : ChangeSpec := { name := "fnLongestWord", fn := fun _ => fun
  | [d] => { results := [.lit (.bool true)], args := [d] }
  | _ => none }
def fnLongestWordRow : OpenClaim := { program := "ytoiifopjipfjhaa", sum := "26fd3662c58d5c5f26c710266f15a0cf33dc8eec6008b24cc89dd22fac3b668b", func := "loop.example/soughtstreams/laws.FnLongestWord", spec := "fnLongestWord", plainKeys := false, apart := false }
def FnLongestWordSaid : Prop := fnLongestWordRow.holds Try.pinned (OpenSpec.ofChange fnLongestWordSpec)

/-- ITS FALSE NEIGHBOUR: 'it returns false'. Refute it at one input. -/
def fnLongestWordWrong : ChangeSpec := { name := "fnLongestWord", fn := fun _ => fun
  | [d] => { results := [.lit (.bool false)], args := [d] }
  | _ => none }
def FnLongestWordWrongFalsely : Prop := fnLongestWordRow.holds Try.pinned (OpenSpec.ofChange fnLongestWordWrong)

/-- 'laws.FnCodesPrefix': WHATEVER THE INPUT: true; the input reads as it did. -/
def fnCodesPrefixSpec : ChangeSpec := { name := "fnCodesPrefix", fn := fun _ => fun
  | [d] => { results := [.lit (.bool true)], args := [d] }
  | _ => none }
def fnCodesPrefixRow : OpenClaim := { program := "ytoiifopjipfjhaa", sum := "26fd3662c58d5c5f26c710266f15a0cf33dc8eec6008b24cc89dd22fac3b668b", func := "loop.example/soughtstreams/laws.FnCodesPrefix", spec := "fnCodesPrefix", recurses := true, plainKeys := false, apart := false }
def FnCodesPrefixSaid : Prop := fnCodesPrefixRow.holds Try.pinned (OpenSpec.ofChange fnCodesPrefixSpec)

/-- ITS FALSE NEIGHBOUR: 'it returns false'. Refute it at one input. -/
def fnCodesPrefixWrong : ChangeSpec := { name := "fnCodesPrefix", fn := fun _ => fun
  | [d] => { results := [.lit (.bool false)], args := [d] }
  | _ => none }
def FnCodesPrefixWrongFalsely : Prop := fnCodesPrefixRow.holds Try.pinned (OpenSpec.ofChange fnCodesPrefixWrong)

/-- 'laws.FnCodesPackUnpack': WHATEVER THE INPUT: true; the input reads as it did. -/
def fnCodesPackUnpackSpec : ChangeSpec := { name := "fnCodesPackUnpack", fn := fun _ => fun
  | [d] => { results := [.lit (.bool true)], args := [d] }
  | _ => none }
def fnCodesPackUnpackRow : OpenClaim := { program := "ytoiifopjipfjhaa", sum := "26fd3662c58d5c5f26c710266f15a0cf33dc8eec6008b24cc89dd22fac3b668b", func := "loop.example/soughtstreams/laws.FnCodesPackUnpack", spec := "fnCodesPackUnpack", recurses := true, plainKeys := false, apart := false }
def FnCodesPackUnpackSaid : Prop := fnCodesPackUnpackRow.holds Try.pinned (OpenSpec.ofChange fnCodesPackUnpackSpec)

/-- ITS FALSE NEIGHBOUR: 'it returns false'. Refute it at one input. -/
def fnCodesPackUnpackWrong : ChangeSpec := { name := "fnCodesPackUnpack", fn := fun _ => fun
  | [d] => { results := [.lit (.bool false)], args := [d] }
  | _ => none }
def FnCodesPackUnpackWrongFalsely : Prop := fnCodesPackUnpackRow.holds Try.pinned (OpenSpec.ofChange fnCodesPackUnpackWrong)

/-- 'laws.FnCodesUnpackPack': WHATEVER THE INPUT: true; the input reads as it did. -/
def fnCodesUnpackPackSpec : ChangeSpec := { name := "fnCodesUnpackPack", fn := fun _ => fun
  | [d] => { results := [.lit (.bool true)], args := [d] }
  | _ => none }
def fnCodesUnpackPackRow : OpenClaim := { program := "ytoiifopjipfjhaa", sum := "26fd3662c58d5c5f26c710266f15a0cf33dc8eec6008b24cc89dd22fac3b668b", func := "loop.example/soughtstreams/laws.FnCodesUnpackPack", spec := "fnCodesUnpackPack", recurses := true, plainKeys := false, apart := false }
def FnCodesUnpackPackSaid : Prop := fnCodesUnpackPackRow.holds Try.pinned (OpenSpec.ofChange fnCodesUnpackPackSpec)

/-- ITS FALSE NEIGHBOUR: 'it returns false'. Refute it at one input. -/
def fnCodesUnpackPackWrong : ChangeSpec := { name := "fnCodesUnpackPack", fn := fun _ => fun
  | [d] => { results := [.lit (.bool false)], args := [d] }
  | _ => none }
def FnCodesUnpackPackWrongFalsely : Prop := fnCodesUnpackPackRow.holds Try.pinned (OpenSpec.ofChange fnCodesUnpackPackWrong)

/-- 'laws.FnUnpackBehind': WHATEVER THE INPUT: true; the input reads as it did. -/
def fnUnpackBehindSpec : ChangeSpec := { name := "fnUnpackBehind", fn := fun _ => fun
  | [d1, d2] => { results := [.lit (.bool true)], args := [d1, d2] }
  | _ => none }
def fnUnpackBehindRow : OpenClaim := { program := "ytoiifopjipfjhaa", sum := "26fd3662c58d5c5f26c710266f15a0cf33dc8eec6008b24cc89dd22fac3b668b", func := "loop.example/soughtstreams/laws.FnUnpackBehind", spec := "fnUnpackBehind", recurses := true, plainKeys := false, apart := false }
def FnUnpackBehindSaid : Prop := fnUnpackBehindRow.holds Try.pinned (OpenSpec.ofChange fnUnpackBehindSpec)

/-- ITS FALSE NEIGHBOUR: 'it returns false'. Refute it at one input. -/
def fnUnpackBehindWrong : ChangeSpec := { name := "fnUnpackBehind", fn := fun _ => fun
  | [d1, d2] => { results := [.lit (.bool false)], args := [d1, d2] }
  | _ => none }
def FnUnpackBehindWrongFalsely : Prop := fnUnpackBehindRow.holds Try.pinned (OpenSpec.ofChange fnUnpackBehindWrong)

/-- 'laws.FnGreedy': WHATEVER THE INPUT: true; the input reads as it did. -/
def fnGreedySpec : ChangeSpec := { name := "fnGreedy", fn := fun _ => fun
  | [d] => { results := [.lit (.bool true)], args := [d] }
  | _ => none }
def fnGreedyRow : OpenClaim := { program := "ytoiifopjipfjhaa", sum := "26fd3662c58d5c5f26c710266f15a0cf33dc8eec6008b24cc89dd22fac3b668b", func := "loop.example/soughtstreams/laws.FnGreedy", spec := "fnGreedy", unfollowed := true, recurses := true, plainKeys := false, apart := false }
def FnGreedySaid : Prop := fnGreedyRow.holds Try.pinned (OpenSpec.ofChange fnGreedySpec)

/-- ITS FALSE NEIGHBOUR: 'it returns false'. Refute it at one input. -/
def fnGreedyWrong : ChangeSpec := { name := "fnGreedy", fn := fun _ => fun
  | [d] => { results := [.lit (.bool false)], args := [d] }
  | _ => none }
def FnGreedyWrongFalsely : Prop := fnGreedyRow.holds Try.pinned (OpenSpec.ofChange fnGreedyWrong)

/-- 'laws.FnGreedyLongest': WHATEVER THE INPUT: true; the input reads as it did. -/
def fnGreedyLongestSpec : ChangeSpec := { name := "fnGreedyLongest", fn := fun _ => fun
  | [d] => { results := [.lit (.bool true)], args := [d] }
  | _ => none }
def fnGreedyLongestRow : OpenClaim := { program := "ytoiifopjipfjhaa", sum := "26fd3662c58d5c5f26c710266f15a0cf33dc8eec6008b24cc89dd22fac3b668b", func := "loop.example/soughtstreams/laws.FnGreedyLongest", spec := "fnGreedyLongest", unfollowed := true, recurses := true, plainKeys := false, apart := false }
def FnGreedyLongestSaid : Prop := fnGreedyLongestRow.holds Try.pinned (OpenSpec.ofChange fnGreedyLongestSpec)

/-- ITS FALSE NEIGHBOUR: 'it returns false'. Refute it at one input. -/
def fnGreedyLongestWrong : ChangeSpec := { name := "fnGreedyLongest", fn := fun _ => fun
  | [d] => { results := [.lit (.bool false)], args := [d] }
  | _ => none }
def FnGreedyLongestWrongFalsely : Prop := fnGreedyLongestRow.holds Try.pinned (OpenSpec.ofChange fnGreedyLongestWrong)

/-- 'laws.FnDecompressCodes': WHATEVER THE INPUT: true; the input reads as it did. -/
def fnDecompressCodesSpec : ChangeSpec := { name := "fnDecompressCodes", fn := fun _ => fun
  | [d] => { results := [.lit (.bool true)], args := [d] }
  | _ => none }
def fnDecompressCodesRow : OpenClaim := { program := "ytoiifopjipfjhaa", sum := "26fd3662c58d5c5f26c710266f15a0cf33dc8eec6008b24cc89dd22fac3b668b", func := "loop.example/soughtstreams/laws.FnDecompressCodes", spec := "fnDecompressCodes", recurses := true, plainKeys := false, apart := false }
def FnDecompressCodesSaid : Prop := fnDecompressCodesRow.holds Try.pinned (OpenSpec.ofChange fnDecompressCodesSpec)

/-- ITS FALSE NEIGHBOUR: 'it returns false'. Refute it at one input. -/
def fnDecompressCodesWrong : ChangeSpec := { name := "fnDecompressCodes", fn := fun _ => fun
  | [d] => { results := [.lit (.bool false)], args := [d] }
  | _ => none }
def FnDecompressCodesWrongFalsely : Prop := fnDecompressCodesRow.holds Try.pinned (OpenSpec.ofChange fnDecompressCodesWrong)

/-- 'laws.FnRepack': WHATEVER THE INPUT: true; the input reads as it did. -/
def fnRepackSpec : ChangeSpec := { name := "fnRepack", fn := fun _ => fun
  | [d] => { results := [.lit (.bool true)], args := [d] }
  | _ => none }
def fnRepackRow : OpenClaim := { program := "ytoiifopjipfjhaa", sum := "26fd3662c58d5c5f26c710266f15a0cf33dc8eec6008b24cc89dd22fac3b668b", func := "loop.example/soughtstreams/laws.FnRepack", spec := "fnRepack", recurses := true, plainKeys := false, apart := false }
def FnRepackSaid : Prop := fnRepackRow.holds Try.pinned (OpenSpec.ofChange fnRepackSpec)

/-- ITS FALSE NEIGHBOUR: 'it returns false'. Refute it at one input. -/
def fnRepackWrong : ChangeSpec := { name := "fnRepack", fn := fun _ => fun
  | [d] => { results := [.lit (.bool false)], args := [d] }
  | _ => none }
def FnRepackWrongFalsely : Prop := fnRepackRow.holds Try.pinned (OpenSpec.ofChange fnRepackWrong)

/-- 'laws.FnExactCodeOfWord': WHATEVER THE INPUT: true; the input reads as it did. -/
def fnExactCodeOfWordSpec : ChangeSpec := { name := "fnExactCodeOfWord", fn := fun _ => fun
  | [d1, d2] => { results := [.lit (.bool true)], args := [d1, d2] }
  | _ => none }
def fnExactCodeOfWordRow : OpenClaim := { program := "ytoiifopjipfjhaa", sum := "26fd3662c58d5c5f26c710266f15a0cf33dc8eec6008b24cc89dd22fac3b668b", func := "loop.example/soughtstreams/laws.FnExactCodeOfWord", spec := "fnExactCodeOfWord", plainKeys := false, apart := false }
def FnExactCodeOfWordSaid : Prop := fnExactCodeOfWordRow.holds Try.pinned (OpenSpec.ofChange fnExactCodeOfWordSpec)

/-- ITS FALSE NEIGHBOUR: 'it returns false'. Refute it at one input. -/
def fnExactCodeOfWordWrong : ChangeSpec := { name := "fnExactCodeOfWord", fn := fun _ => fun
  | [d1, d2] => { results := [.lit (.bool false)], args := [d1, d2] }
  | _ => none }
def FnExactCodeOfWordWrongFalsely : Prop := fnExactCodeOfWordRow.holds Try.pinned (OpenSpec.ofChange fnExactCodeOfWordWrong)

/-- 'laws.FnExactAfter': WHATEVER THE INPUT: true; the input reads as it did. -/
def fnExactAfterSpec : ChangeSpec := { name := "fnExactAfter", fn := fun _ => fun
  | [d1, d2] => { results := [.lit (.bool true)], args := [d1, d2] }
  | _ => none }
def fnExactAfterRow : OpenClaim := { program := "ytoiifopjipfjhaa", sum := "26fd3662c58d5c5f26c710266f15a0cf33dc8eec6008b24cc89dd22fac3b668b", func := "loop.example/soughtstreams/laws.FnExactAfter", spec := "fnExactAfter", plainKeys := false, apart := false }
def FnExactAfterSaid : Prop := fnExactAfterRow.holds Try.pinned (OpenSpec.ofChange fnExactAfterSpec)

/-- ITS FALSE NEIGHBOUR: 'it returns false'. Refute it at one input. -/
def fnExactAfterWrong : ChangeSpec := { name := "fnExactAfter", fn := fun _ => fun
  | [d1, d2] => { results := [.lit (.bool false)], args := [d1, d2] }
  | _ => none }
def FnExactAfterWrongFalsely : Prop := fnExactAfterRow.holds Try.pinned (OpenSpec.ofChange fnExactAfterWrong)

/-- 'laws.FnExactLongestWord': WHATEVER THE INPUT: true; the input reads as it did. -/
def fnExactLongestWordSpec : ChangeSpec := { name := "fnExactLongestWord", fn := fun _ => fun
  | [d1, d2] => { results := [.lit (.bool true)], args := [d1, d2] }
  | _ => none }
def fnExactLongestWordRow : OpenClaim := { program := "ytoiifopjipfjhaa", sum := "26fd3662c58d5c5f26c710266f15a0cf33dc8eec6008b24cc89dd22fac3b668b", func := "loop.example/soughtstreams/laws.FnExactLongestWord", spec := "fnExactLongestWord", plainKeys := false, apart := false }
def FnExactLongestWordSaid : Prop := fnExactLongestWordRow.holds Try.pinned (OpenSpec.ofChange fnExactLongestWordSpec)

/-- ITS FALSE NEIGHBOUR: 'it returns false'. Refute it at one input. -/
def fnExactLongestWordWrong : ChangeSpec := { name := "fnExactLongestWord", fn := fun _ => fun
  | [d1, d2] => { results := [.lit (.bool false)], args := [d1, d2] }
  | _ => none }
def FnExactLongestWordWrongFalsely : Prop := fnExactLongestWordRow.holds Try.pinned (OpenSpec.ofChange fnExactLongestWordWrong)

/-- 'laws.FnExactCodesValid': WHATEVER THE INPUT: true; the input reads as it did. -/
def fnExactCodesValidSpec : ChangeSpec := { name := "fnExactCodesValid", fn := fun _ => fun
  | [d1, d2] => { results := [.lit (.bool true)], args := [d1, d2] }
  | _ => none }
def fnExactCodesValidRow : OpenClaim := { program := "ytoiifopjipfjhaa", sum := "26fd3662c58d5c5f26c710266f15a0cf33dc8eec6008b24cc89dd22fac3b668b", func := "loop.example/soughtstreams/laws.FnExactCodesValid", spec := "fnExactCodesValid", recurses := true, plainKeys := false, apart := false }
def FnExactCodesValidSaid : Prop := fnExactCodesValidRow.holds Try.pinned (OpenSpec.ofChange fnExactCodesValidSpec)

/-- ITS FALSE NEIGHBOUR: 'it returns false'. Refute it at one input. -/
def fnExactCodesValidWrong : ChangeSpec := { name := "fnExactCodesValid", fn := fun _ => fun
  | [d1, d2] => { results := [.lit (.bool false)], args := [d1, d2] }
  | _ => none }
def FnExactCodesValidWrongFalsely : Prop := fnExactCodesValidRow.holds Try.pinned (OpenSpec.ofChange fnExactCodesValidWrong)

/-- 'laws.FnExactCodesWidths': WHATEVER THE INPUT: true; the input reads as it did. -/
def fnExactCodesWidthsSpec : ChangeSpec := { name := "fnExactCodesWidths", fn := fun _ => fun
  | [d1, d2] => { results := [.lit (.bool true)], args := [d1, d2] }
  | _ => none }
def fnExactCodesWidthsRow : OpenClaim := { program := "ytoiifopjipfjhaa", sum := "26fd3662c58d5c5f26c710266f15a0cf33dc8eec6008b24cc89dd22fac3b668b", func := "loop.example/soughtstreams/laws.FnExactCodesWidths", spec := "fnExactCodesWidths", recurses := true, plainKeys := false, apart := false }
def FnExactCodesWidthsSaid : Prop := fnExactCodesWidthsRow.holds Try.pinned (OpenSpec.ofChange fnExactCodesWidthsSpec)

/-- ITS FALSE NEIGHBOUR: 'it returns false'. Refute it at one input. -/
def fnExactCodesWidthsWrong : ChangeSpec := { name := "fnExactCodesWidths", fn := fun _ => fun
  | [d1, d2] => { results := [.lit (.bool false)], args := [d1, d2] }
  | _ => none }
def FnExactCodesWidthsWrongFalsely : Prop := fnExactCodesWidthsRow.holds Try.pinned (OpenSpec.ofChange fnExactCodesWidthsWrong)

/-- 'laws.FnExactCodesData': WHATEVER THE INPUT: true; the input reads as it did. -/
def fnExactCodesDataSpec : ChangeSpec := { name := "fnExactCodesData", fn := fun _ => fun
  | [d1, d2] => { results := [.lit (.bool true)], args := [d1, d2] }
  | _ => none }
def fnExactCodesDataRow : OpenClaim := { program := "ytoiifopjipfjhaa", sum := "26fd3662c58d5c5f26c710266f15a0cf33dc8eec6008b24cc89dd22fac3b668b", func := "loop.example/soughtstreams/laws.FnExactCodesData", spec := "fnExactCodesData", recurses := true, plainKeys := false, apart := false }
def FnExactCodesDataSaid : Prop := fnExactCodesDataRow.holds Try.pinned (OpenSpec.ofChange fnExactCodesDataSpec)

/-- ITS FALSE NEIGHBOUR: 'it returns false'. Refute it at one input. -/
def fnExactCodesDataWrong : ChangeSpec := { name := "fnExactCodesData", fn := fun _ => fun
  | [d1, d2] => { results := [.lit (.bool false)], args := [d1, d2] }
  | _ => none }
def FnExactCodesDataWrongFalsely : Prop := fnExactCodesDataRow.holds Try.pinned (OpenSpec.ofChange fnExactCodesDataWrong)

/-- 'laws.FnExactPackCodes': WHATEVER THE INPUT: true; the input reads as it did. -/
def fnExactPackCodesSpec : ChangeSpec := { name := "fnExactPackCodes", fn := fun _ => fun
  | [d1, d2] => { results := [.lit (.bool true)], args := [d1, d2] }
  | _ => none }
def fnExactPackCodesRow : OpenClaim := { program := "ytoiifopjipfjhaa", sum := "26fd3662c58d5c5f26c710266f15a0cf33dc8eec6008b24cc89dd22fac3b668b", func := "loop.example/soughtstreams/laws.FnExactPackCodes", spec := "fnExactPackCodes", recurses := true, plainKeys := false, apart := false }
def FnExactPackCodesSaid : Prop := fnExactPackCodesRow.holds Try.pinned (OpenSpec.ofChange fnExactPackCodesSpec)

/-- ITS FALSE NEIGHBOUR: 'it returns false'. Refute it at one input. -/
def fnExactPackCodesWrong : ChangeSpec := { name := "fnExactPackCodes", fn := fun _ => fun
  | [d1, d2] => { results := [.lit (.bool false)], args := [d1, d2] }
  | _ => none }
def FnExactPackCodesWrongFalsely : Prop := fnExactPackCodesRow.holds Try.pinned (OpenSpec.ofChange fnExactPackCodesWrong)

/-- 'laws.FnExactUnpackCodes': WHATEVER THE INPUT: true; the input reads as it did. -/
def fnExactUnpackCodesSpec : ChangeSpec := { name := "fnExactUnpackCodes", fn := fun _ => fun
  | [d1, d2] => { results := [.lit (.bool true)], args := [d1, d2] }
  | _ => none }
def fnExactUnpackCodesRow : OpenClaim := { program := "ytoiifopjipfjhaa", sum := "26fd3662c58d5c5f26c710266f15a0cf33dc8eec6008b24cc89dd22fac3b668b", func := "loop.example/soughtstreams/laws.FnExactUnpackCodes", spec := "fnExactUnpackCodes", recurses := true, plainKeys := false, apart := false }
def FnExactUnpackCodesSaid : Prop := fnExactUnpackCodesRow.holds Try.pinned (OpenSpec.ofChange fnExactUnpackCodesSpec)

/-- ITS FALSE NEIGHBOUR: 'it returns false'. Refute it at one input. -/
def fnExactUnpackCodesWrong : ChangeSpec := { name := "fnExactUnpackCodes", fn := fun _ => fun
  | [d1, d2] => { results := [.lit (.bool false)], args := [d1, d2] }
  | _ => none }
def FnExactUnpackCodesWrongFalsely : Prop := fnExactUnpackCodesRow.holds Try.pinned (OpenSpec.ofChange fnExactUnpackCodesWrong)

/-- 'laws.FnExactGreedyCodes': WHATEVER THE INPUT: true; the input reads as it did. -/
def fnExactGreedyCodesSpec : ChangeSpec := { name := "fnExactGreedyCodes", fn := fun _ => fun
  | [d1, d2] => { results := [.lit (.bool true)], args := [d1, d2] }
  | _ => none }
def fnExactGreedyCodesRow : OpenClaim := { program := "ytoiifopjipfjhaa", sum := "26fd3662c58d5c5f26c710266f15a0cf33dc8eec6008b24cc89dd22fac3b668b", func := "loop.example/soughtstreams/laws.FnExactGreedyCodes", spec := "fnExactGreedyCodes", unfollowed := true, recurses := true, plainKeys := false, apart := false }
def FnExactGreedyCodesSaid : Prop := fnExactGreedyCodesRow.holds Try.pinned (OpenSpec.ofChange fnExactGreedyCodesSpec)

/-- ITS FALSE NEIGHBOUR: 'it returns false'. Refute it at one input. -/
def fnExactGreedyCodesWrong : ChangeSpec := { name := "fnExactGreedyCodes", fn := fun _ => fun
  | [d1, d2] => { results := [.lit (.bool false)], args := [d1, d2] }
  | _ => none }
def FnExactGreedyCodesWrongFalsely : Prop := fnExactGreedyCodesRow.holds Try.pinned (OpenSpec.ofChange fnExactGreedyCodesWrong)

/-- 'laws.FnExactCompress': WHATEVER THE INPUT: true; the input reads as it did. -/
def fnExactCompressSpec : ChangeSpec := { name := "fnExactCompress", fn := fun _ => fun
  | [d1, d2] => { results := [.lit (.bool true)], args := [d1, d2] }
  | _ => none }
def fnExactCompressRow : OpenClaim := { program := "ytoiifopjipfjhaa", sum := "26fd3662c58d5c5f26c710266f15a0cf33dc8eec6008b24cc89dd22fac3b668b", func := "loop.example/soughtstreams/laws.FnExactCompress", spec := "fnExactCompress", unfollowed := true, recurses := true, plainKeys := false, apart := false }
def FnExactCompressSaid : Prop := fnExactCompressRow.holds Try.pinned (OpenSpec.ofChange fnExactCompressSpec)

/-- ITS FALSE NEIGHBOUR: 'it returns false'. Refute it at one input. -/
def fnExactCompressWrong : ChangeSpec := { name := "fnExactCompress", fn := fun _ => fun
  | [d1, d2] => { results := [.lit (.bool false)], args := [d1, d2] }
  | _ => none }
def FnExactCompressWrongFalsely : Prop := fnExactCompressRow.holds Try.pinned (OpenSpec.ofChange fnExactCompressWrong)

/-- 'laws.FnExactDecompress': WHATEVER THE INPUT: true; the input reads as it did. -/
def fnExactDecompressSpec : ChangeSpec := { name := "fnExactDecompress", fn := fun _ => fun
  | [d1, d2] => { results := [.lit (.bool true)], args := [d1, d2] }
  | _ => none }
def fnExactDecompressRow : OpenClaim := { program := "ytoiifopjipfjhaa", sum := "26fd3662c58d5c5f26c710266f15a0cf33dc8eec6008b24cc89dd22fac3b668b", func := "loop.example/soughtstreams/laws.FnExactDecompress", spec := "fnExactDecompress", recurses := true, plainKeys := false, apart := false }
def FnExactDecompressSaid : Prop := fnExactDecompressRow.holds Try.pinned (OpenSpec.ofChange fnExactDecompressSpec)

/-- ITS FALSE NEIGHBOUR: 'it returns false'. Refute it at one input. -/
def fnExactDecompressWrong : ChangeSpec := { name := "fnExactDecompress", fn := fun _ => fun
  | [d1, d2] => { results := [.lit (.bool false)], args := [d1, d2] }
  | _ => none }
def FnExactDecompressWrongFalsely : Prop := fnExactDecompressRow.holds Try.pinned (OpenSpec.ofChange fnExactDecompressWrong)

/-- 'laws.FnExactRepackStream': WHATEVER THE INPUT: true; the input reads as it did. -/
def fnExactRepackStreamSpec : ChangeSpec := { name := "fnExactRepackStream", fn := fun _ => fun
  | [d1, d2] => { results := [.lit (.bool true)], args := [d1, d2] }
  | _ => none }
def fnExactRepackStreamRow : OpenClaim := { program := "ytoiifopjipfjhaa", sum := "26fd3662c58d5c5f26c710266f15a0cf33dc8eec6008b24cc89dd22fac3b668b", func := "loop.example/soughtstreams/laws.FnExactRepackStream", spec := "fnExactRepackStream", recurses := true, plainKeys := false, apart := false }
def FnExactRepackStreamSaid : Prop := fnExactRepackStreamRow.holds Try.pinned (OpenSpec.ofChange fnExactRepackStreamSpec)

/-- ITS FALSE NEIGHBOUR: 'it returns false'. Refute it at one input. -/
def fnExactRepackStreamWrong : ChangeSpec := { name := "fnExactRepackStream", fn := fun _ => fun
  | [d1, d2] => { results := [.lit (.bool false)], args := [d1, d2] }
  | _ => none }
def FnExactRepackStreamWrongFalsely : Prop := fnExactRepackStreamRow.holds Try.pinned (OpenSpec.ofChange fnExactRepackStreamWrong)

/- THE SECOND FORM. 'bulk': how many values and letters a reading holds, each counted each time it is reached (what is shared counts as often as it is met; a slice's spare places count too). A statement '..UptoSaid' is the law's where the arguments, and the package variables that the reading takes, are together of bulk at most 1048576: NARROWER than '..Said'. Prove '..Said' where nothing that the law and all that it calls make is longer than what came in: it says more and counts as full. Else prove '..UptoSaid'. A law counts once. -/
mutual
def uptoBulk {H : Type} : DataW H → Nat
  | .lit (.string bytes) => bytes.length + 1
  | .lit _ => 1
  | .nil => 1
  | .ptr d => uptoBulk d + 1
  | .slice elems spare => uptoBulkAll elems + uptoBulkAll spare + 1
  | .agg parts => uptoBulkAll parts + 1
  | .iface _ d => uptoBulk d + 1
  | .map entries => uptoBulkEntries entries + 1
  | .held _ => 1
def uptoBulkAll {H : Type} : List (DataW H) → Nat
  | [] => 0
  | d :: r => uptoBulk d + uptoBulkAll r
def uptoBulkEntries {H : Type} : List (Lit × DataW H) → Nat
  | [] => 0
  | x :: r => uptoBulkEntry x + uptoBulkEntries r
def uptoBulkEntry {H : Type} : Lit × DataW H → Nat
  | (.string bytes, d) => bytes.length + uptoBulk d + 1
  | (_, d) => uptoBulk d + 1
 end
def uptoSmall : (H : Type) → List (DataW H) → Bool := fun _ ds => decide (uptoBulkAll ds ≤ 1048576)
def OpenSpec.upto (s : _root_.Go.ChangeSpec) : _root_.Go.OpenSpec := { _root_.Go.OpenSpec.ofChange s with cond := some uptoSmall }

/-- 'laws.FnStart', WHERE WHAT IT READS IS OF BULK AT MOST 1048576: true; the input reads as it did. -/
def fnStartUptoRow : OpenClaim := { program := "ytoiifopjipfjhaa", sum := "26fd3662c58d5c5f26c710266f15a0cf33dc8eec6008b24cc89dd22fac3b668b", func := "loop.example/soughtstreams/laws.FnStart", spec := "fnStart", plainKeys := false, apart := false, narrowed := true }
def FnStartUptoSaid : Prop := fnStartUptoRow.holds Try.pinned (OpenSpec.upto fnStartSpec)

/-- 'laws.FnAfter', WHERE WHAT IT READS IS OF BULK AT MOST 1048576: true; the input reads as it did. -/
def fnAfterUptoRow : OpenClaim := { program := "ytoiifopjipfjhaa", sum := "26fd3662c58d5c5f26c710266f15a0cf33dc8eec6008b24cc89dd22fac3b668b", func := "loop.example/soughtstreams/laws.FnAfter", spec := "fnAfter", plainKeys := false, apart := false, narrowed := true }
def FnAfterUptoSaid : Prop := fnAfterUptoRow.holds Try.pinned (OpenSpec.upto fnAfterSpec)

/-- 'laws.FnAfterWord', WHERE WHAT IT READS IS OF BULK AT MOST 1048576: true; the input reads as it did. -/
def fnAfterWordUptoRow : OpenClaim := { program := "ytoiifopjipfjhaa", sum := "26fd3662c58d5c5f26c710266f15a0cf33dc8eec6008b24cc89dd22fac3b668b", func := "loop.example/soughtstreams/laws.FnAfterWord", spec := "fnAfterWord", recurses := true, plainKeys := false, apart := false, narrowed := true }
def FnAfterWordUptoSaid : Prop := fnAfterWordUptoRow.holds Try.pinned (OpenSpec.upto fnAfterWordSpec)

/-- 'laws.FnWidth', WHERE WHAT IT READS IS OF BULK AT MOST 1048576: true; the input reads as it did. -/
def fnWidthUptoRow : OpenClaim := { program := "ytoiifopjipfjhaa", sum := "26fd3662c58d5c5f26c710266f15a0cf33dc8eec6008b24cc89dd22fac3b668b", func := "loop.example/soughtstreams/laws.FnWidth", spec := "fnWidth", plainKeys := false, apart := false, narrowed := true }
def FnWidthUptoSaid : Prop := fnWidthUptoRow.holds Try.pinned (OpenSpec.upto fnWidthSpec)

/-- 'laws.FnGreatest', WHERE WHAT IT READS IS OF BULK AT MOST 1048576: true; the input reads as it did. -/
def fnGreatestUptoRow : OpenClaim := { program := "ytoiifopjipfjhaa", sum := "26fd3662c58d5c5f26c710266f15a0cf33dc8eec6008b24cc89dd22fac3b668b", func := "loop.example/soughtstreams/laws.FnGreatest", spec := "fnGreatest", recurses := true, plainKeys := false, apart := false, narrowed := true }
def FnGreatestUptoSaid : Prop := fnGreatestUptoRow.holds Try.pinned (OpenSpec.upto fnGreatestSpec)

/-- 'laws.FnWordPrefix', WHERE WHAT IT READS IS OF BULK AT MOST 1048576: true; the input reads as it did. -/
def fnWordPrefixUptoRow : OpenClaim := { program := "ytoiifopjipfjhaa", sum := "26fd3662c58d5c5f26c710266f15a0cf33dc8eec6008b24cc89dd22fac3b668b", func := "loop.example/soughtstreams/laws.FnWordPrefix", spec := "fnWordPrefix", recurses := true, plainKeys := false, apart := false, narrowed := true }
def FnWordPrefixUptoSaid : Prop := fnWordPrefixUptoRow.holds Try.pinned (OpenSpec.upto fnWordPrefixSpec)

/-- 'laws.FnCodeOfWord', WHERE WHAT IT READS IS OF BULK AT MOST 1048576: true; the input reads as it did. -/
def fnCodeOfWordUptoRow : OpenClaim := { program := "ytoiifopjipfjhaa", sum := "26fd3662c58d5c5f26c710266f15a0cf33dc8eec6008b24cc89dd22fac3b668b", func := "loop.example/soughtstreams/laws.FnCodeOfWord", spec := "fnCodeOfWord", recurses := true, plainKeys := false, apart := false, narrowed := true }
def FnCodeOfWordUptoSaid : Prop := fnCodeOfWordUptoRow.holds Try.pinned (OpenSpec.upto fnCodeOfWordSpec)

/-- 'laws.FnLongestWord', WHERE WHAT IT READS IS OF BULK AT MOST 1048576: true; the input reads as it did. -/
def fnLongestWordUptoRow : OpenClaim := { program := "ytoiifopjipfjhaa", sum := "26fd3662c58d5c5f26c710266f15a0cf33dc8eec6008b24cc89dd22fac3b668b", func := "loop.example/soughtstreams/laws.FnLongestWord", spec := "fnLongestWord", plainKeys := false, apart := false, narrowed := true }
def FnLongestWordUptoSaid : Prop := fnLongestWordUptoRow.holds Try.pinned (OpenSpec.upto fnLongestWordSpec)

/-- 'laws.FnCodesPrefix', WHERE WHAT IT READS IS OF BULK AT MOST 1048576: true; the input reads as it did. -/
def fnCodesPrefixUptoRow : OpenClaim := { program := "ytoiifopjipfjhaa", sum := "26fd3662c58d5c5f26c710266f15a0cf33dc8eec6008b24cc89dd22fac3b668b", func := "loop.example/soughtstreams/laws.FnCodesPrefix", spec := "fnCodesPrefix", recurses := true, plainKeys := false, apart := false, narrowed := true }
def FnCodesPrefixUptoSaid : Prop := fnCodesPrefixUptoRow.holds Try.pinned (OpenSpec.upto fnCodesPrefixSpec)

/-- 'laws.FnCodesPackUnpack', WHERE WHAT IT READS IS OF BULK AT MOST 1048576: true; the input reads as it did. -/
def fnCodesPackUnpackUptoRow : OpenClaim := { program := "ytoiifopjipfjhaa", sum := "26fd3662c58d5c5f26c710266f15a0cf33dc8eec6008b24cc89dd22fac3b668b", func := "loop.example/soughtstreams/laws.FnCodesPackUnpack", spec := "fnCodesPackUnpack", recurses := true, plainKeys := false, apart := false, narrowed := true }
def FnCodesPackUnpackUptoSaid : Prop := fnCodesPackUnpackUptoRow.holds Try.pinned (OpenSpec.upto fnCodesPackUnpackSpec)

/-- 'laws.FnCodesUnpackPack', WHERE WHAT IT READS IS OF BULK AT MOST 1048576: true; the input reads as it did. -/
def fnCodesUnpackPackUptoRow : OpenClaim := { program := "ytoiifopjipfjhaa", sum := "26fd3662c58d5c5f26c710266f15a0cf33dc8eec6008b24cc89dd22fac3b668b", func := "loop.example/soughtstreams/laws.FnCodesUnpackPack", spec := "fnCodesUnpackPack", recurses := true, plainKeys := false, apart := false, narrowed := true }
def FnCodesUnpackPackUptoSaid : Prop := fnCodesUnpackPackUptoRow.holds Try.pinned (OpenSpec.upto fnCodesUnpackPackSpec)

/-- 'laws.FnUnpackBehind', WHERE WHAT IT READS IS OF BULK AT MOST 1048576: true; the input reads as it did. -/
def fnUnpackBehindUptoRow : OpenClaim := { program := "ytoiifopjipfjhaa", sum := "26fd3662c58d5c5f26c710266f15a0cf33dc8eec6008b24cc89dd22fac3b668b", func := "loop.example/soughtstreams/laws.FnUnpackBehind", spec := "fnUnpackBehind", recurses := true, plainKeys := false, apart := false, narrowed := true }
def FnUnpackBehindUptoSaid : Prop := fnUnpackBehindUptoRow.holds Try.pinned (OpenSpec.upto fnUnpackBehindSpec)

/-- 'laws.FnGreedy', WHERE WHAT IT READS IS OF BULK AT MOST 1048576: true; the input reads as it did. -/
def fnGreedyUptoRow : OpenClaim := { program := "ytoiifopjipfjhaa", sum := "26fd3662c58d5c5f26c710266f15a0cf33dc8eec6008b24cc89dd22fac3b668b", func := "loop.example/soughtstreams/laws.FnGreedy", spec := "fnGreedy", unfollowed := true, recurses := true, plainKeys := false, apart := false, narrowed := true }
def FnGreedyUptoSaid : Prop := fnGreedyUptoRow.holds Try.pinned (OpenSpec.upto fnGreedySpec)

/-- 'laws.FnGreedyLongest', WHERE WHAT IT READS IS OF BULK AT MOST 1048576: true; the input reads as it did. -/
def fnGreedyLongestUptoRow : OpenClaim := { program := "ytoiifopjipfjhaa", sum := "26fd3662c58d5c5f26c710266f15a0cf33dc8eec6008b24cc89dd22fac3b668b", func := "loop.example/soughtstreams/laws.FnGreedyLongest", spec := "fnGreedyLongest", unfollowed := true, recurses := true, plainKeys := false, apart := false, narrowed := true }
def FnGreedyLongestUptoSaid : Prop := fnGreedyLongestUptoRow.holds Try.pinned (OpenSpec.upto fnGreedyLongestSpec)

/-- 'laws.FnDecompressCodes', WHERE WHAT IT READS IS OF BULK AT MOST 1048576: true; the input reads as it did. -/
def fnDecompressCodesUptoRow : OpenClaim := { program := "ytoiifopjipfjhaa", sum := "26fd3662c58d5c5f26c710266f15a0cf33dc8eec6008b24cc89dd22fac3b668b", func := "loop.example/soughtstreams/laws.FnDecompressCodes", spec := "fnDecompressCodes", recurses := true, plainKeys := false, apart := false, narrowed := true }
def FnDecompressCodesUptoSaid : Prop := fnDecompressCodesUptoRow.holds Try.pinned (OpenSpec.upto fnDecompressCodesSpec)

/-- 'laws.FnRepack', WHERE WHAT IT READS IS OF BULK AT MOST 1048576: true; the input reads as it did. -/
def fnRepackUptoRow : OpenClaim := { program := "ytoiifopjipfjhaa", sum := "26fd3662c58d5c5f26c710266f15a0cf33dc8eec6008b24cc89dd22fac3b668b", func := "loop.example/soughtstreams/laws.FnRepack", spec := "fnRepack", recurses := true, plainKeys := false, apart := false, narrowed := true }
def FnRepackUptoSaid : Prop := fnRepackUptoRow.holds Try.pinned (OpenSpec.upto fnRepackSpec)

/-- 'laws.FnExactCodeOfWord', WHERE WHAT IT READS IS OF BULK AT MOST 1048576: true; the input reads as it did. -/
def fnExactCodeOfWordUptoRow : OpenClaim := { program := "ytoiifopjipfjhaa", sum := "26fd3662c58d5c5f26c710266f15a0cf33dc8eec6008b24cc89dd22fac3b668b", func := "loop.example/soughtstreams/laws.FnExactCodeOfWord", spec := "fnExactCodeOfWord", plainKeys := false, apart := false, narrowed := true }
def FnExactCodeOfWordUptoSaid : Prop := fnExactCodeOfWordUptoRow.holds Try.pinned (OpenSpec.upto fnExactCodeOfWordSpec)

/-- 'laws.FnExactAfter', WHERE WHAT IT READS IS OF BULK AT MOST 1048576: true; the input reads as it did. -/
def fnExactAfterUptoRow : OpenClaim := { program := "ytoiifopjipfjhaa", sum := "26fd3662c58d5c5f26c710266f15a0cf33dc8eec6008b24cc89dd22fac3b668b", func := "loop.example/soughtstreams/laws.FnExactAfter", spec := "fnExactAfter", plainKeys := false, apart := false, narrowed := true }
def FnExactAfterUptoSaid : Prop := fnExactAfterUptoRow.holds Try.pinned (OpenSpec.upto fnExactAfterSpec)

/-- 'laws.FnExactLongestWord', WHERE WHAT IT READS IS OF BULK AT MOST 1048576: true; the input reads as it did. -/
def fnExactLongestWordUptoRow : OpenClaim := { program := "ytoiifopjipfjhaa", sum := "26fd3662c58d5c5f26c710266f15a0cf33dc8eec6008b24cc89dd22fac3b668b", func := "loop.example/soughtstreams/laws.FnExactLongestWord", spec := "fnExactLongestWord", plainKeys := false, apart := false, narrowed := true }
def FnExactLongestWordUptoSaid : Prop := fnExactLongestWordUptoRow.holds Try.pinned (OpenSpec.upto fnExactLongestWordSpec)

/-- 'laws.FnExactCodesValid', WHERE WHAT IT READS IS OF BULK AT MOST 1048576: true; the input reads as it did. -/
def fnExactCodesValidUptoRow : OpenClaim := { program := "ytoiifopjipfjhaa", sum := "26fd3662c58d5c5f26c710266f15a0cf33dc8eec6008b24cc89dd22fac3b668b", func := "loop.example/soughtstreams/laws.FnExactCodesValid", spec := "fnExactCodesValid", recurses := true, plainKeys := false, apart := false, narrowed := true }
def FnExactCodesValidUptoSaid : Prop := fnExactCodesValidUptoRow.holds Try.pinned (OpenSpec.upto fnExactCodesValidSpec)

/-- 'laws.FnExactCodesWidths', WHERE WHAT IT READS IS OF BULK AT MOST 1048576: true; the input reads as it did. -/
def fnExactCodesWidthsUptoRow : OpenClaim := { program := "ytoiifopjipfjhaa", sum := "26fd3662c58d5c5f26c710266f15a0cf33dc8eec6008b24cc89dd22fac3b668b", func := "loop.example/soughtstreams/laws.FnExactCodesWidths", spec := "fnExactCodesWidths", recurses := true, plainKeys := false, apart := false, narrowed := true }
def FnExactCodesWidthsUptoSaid : Prop := fnExactCodesWidthsUptoRow.holds Try.pinned (OpenSpec.upto fnExactCodesWidthsSpec)

/-- 'laws.FnExactCodesData', WHERE WHAT IT READS IS OF BULK AT MOST 1048576: true; the input reads as it did. -/
def fnExactCodesDataUptoRow : OpenClaim := { program := "ytoiifopjipfjhaa", sum := "26fd3662c58d5c5f26c710266f15a0cf33dc8eec6008b24cc89dd22fac3b668b", func := "loop.example/soughtstreams/laws.FnExactCodesData", spec := "fnExactCodesData", recurses := true, plainKeys := false, apart := false, narrowed := true }
def FnExactCodesDataUptoSaid : Prop := fnExactCodesDataUptoRow.holds Try.pinned (OpenSpec.upto fnExactCodesDataSpec)

/-- 'laws.FnExactPackCodes', WHERE WHAT IT READS IS OF BULK AT MOST 1048576: true; the input reads as it did. -/
def fnExactPackCodesUptoRow : OpenClaim := { program := "ytoiifopjipfjhaa", sum := "26fd3662c58d5c5f26c710266f15a0cf33dc8eec6008b24cc89dd22fac3b668b", func := "loop.example/soughtstreams/laws.FnExactPackCodes", spec := "fnExactPackCodes", recurses := true, plainKeys := false, apart := false, narrowed := true }
def FnExactPackCodesUptoSaid : Prop := fnExactPackCodesUptoRow.holds Try.pinned (OpenSpec.upto fnExactPackCodesSpec)

/-- 'laws.FnExactUnpackCodes', WHERE WHAT IT READS IS OF BULK AT MOST 1048576: true; the input reads as it did. -/
def fnExactUnpackCodesUptoRow : OpenClaim := { program := "ytoiifopjipfjhaa", sum := "26fd3662c58d5c5f26c710266f15a0cf33dc8eec6008b24cc89dd22fac3b668b", func := "loop.example/soughtstreams/laws.FnExactUnpackCodes", spec := "fnExactUnpackCodes", recurses := true, plainKeys := false, apart := false, narrowed := true }
def FnExactUnpackCodesUptoSaid : Prop := fnExactUnpackCodesUptoRow.holds Try.pinned (OpenSpec.upto fnExactUnpackCodesSpec)

/-- 'laws.FnExactGreedyCodes', WHERE WHAT IT READS IS OF BULK AT MOST 1048576: true; the input reads as it did. -/
def fnExactGreedyCodesUptoRow : OpenClaim := { program := "ytoiifopjipfjhaa", sum := "26fd3662c58d5c5f26c710266f15a0cf33dc8eec6008b24cc89dd22fac3b668b", func := "loop.example/soughtstreams/laws.FnExactGreedyCodes", spec := "fnExactGreedyCodes", unfollowed := true, recurses := true, plainKeys := false, apart := false, narrowed := true }
def FnExactGreedyCodesUptoSaid : Prop := fnExactGreedyCodesUptoRow.holds Try.pinned (OpenSpec.upto fnExactGreedyCodesSpec)

/-- 'laws.FnExactCompress', WHERE WHAT IT READS IS OF BULK AT MOST 1048576: true; the input reads as it did. -/
def fnExactCompressUptoRow : OpenClaim := { program := "ytoiifopjipfjhaa", sum := "26fd3662c58d5c5f26c710266f15a0cf33dc8eec6008b24cc89dd22fac3b668b", func := "loop.example/soughtstreams/laws.FnExactCompress", spec := "fnExactCompress", unfollowed := true, recurses := true, plainKeys := false, apart := false, narrowed := true }
def FnExactCompressUptoSaid : Prop := fnExactCompressUptoRow.holds Try.pinned (OpenSpec.upto fnExactCompressSpec)

/-- 'laws.FnExactDecompress', WHERE WHAT IT READS IS OF BULK AT MOST 1048576: true; the input reads as it did. -/
def fnExactDecompressUptoRow : OpenClaim := { program := "ytoiifopjipfjhaa", sum := "26fd3662c58d5c5f26c710266f15a0cf33dc8eec6008b24cc89dd22fac3b668b", func := "loop.example/soughtstreams/laws.FnExactDecompress", spec := "fnExactDecompress", recurses := true, plainKeys := false, apart := false, narrowed := true }
def FnExactDecompressUptoSaid : Prop := fnExactDecompressUptoRow.holds Try.pinned (OpenSpec.upto fnExactDecompressSpec)

/-- 'laws.FnExactRepackStream', WHERE WHAT IT READS IS OF BULK AT MOST 1048576: true; the input reads as it did. -/
def fnExactRepackStreamUptoRow : OpenClaim := { program := "ytoiifopjipfjhaa", sum := "26fd3662c58d5c5f26c710266f15a0cf33dc8eec6008b24cc89dd22fac3b668b", func := "loop.example/soughtstreams/laws.FnExactRepackStream", spec := "fnExactRepackStream", recurses := true, plainKeys := false, apart := false, narrowed := true }
def FnExactRepackStreamUptoSaid : Prop := fnExactRepackStreamUptoRow.holds Try.pinned (OpenSpec.upto fnExactRepackStreamSpec)

end Rows
end Go.Proofs.Ytoiifopjipfjhaa
