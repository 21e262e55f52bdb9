/-
  No cell of these rows narrows 'for every input' (looked for: loops, veiled, ifaces, maps, wideKeys, modest, calm, conditions, laid).
  DERIVED. THE GIVEN ROWS OF THIS SEAT. 20 by the template 'for every input the law returns true; each argument reads behind the call as it read before'; 0 by the template 'total and deterministic' (their statements: YtblmifbpoopbdaaTotals.lean).
  GIVEN WITH THE SEED: the statements are not yours to turn. If you find one false, say at which input.
  Laid BY PROGRAM, IN A SANDBOX (cutbox-rows.mjs): the forced cells as the released guide's own fill.sh prints them over the translation 16d0d772d39168e7… (all of the seat's roots in one cut). By AI agents, Wed Nov 11 2026. No macro, syntax, notation, axiom, sorry.
-/
import Derived.Test.YtblmifbpoopbdaaChecked
import GoSem.Claim
import GoSem.ClaimJoined
import GoSem.ClaimMapViews
import Derived.JoinedTies
import Derived.KernelRfl
namespace Go.Proofs.Ytblmifbpoopbdaa
/- THE CELL 'sum', in the pinned program and in every row, IS THE sha256 OF THE DUMP (.gsa) THAT YtblmifbpoopbdaaProg.lean LOADS. Nothing in Lean hashes anything: it is a label: what it is worth is what the hold of that sum in a sandbox is worth. -/
noncomputable def Try.pinned : Pinned := { name := "ytblmifbpoopbdaa", sum := "16d0d772d39168e7405a602d91f64828969642b91ce556a852637936a93844db", checked := Try.checked }
namespace Rows
def none {H : Type} : Left H := { results := [], args := [] }

/-- 'laws.FnCodesPrefix': WHATEVER THE INPUT: true; the input reads as it did. -/
def fnCodesPrefixSpec : ChangeSpec := { name := "fnCodesPrefix", fn := fun _ => fun
  | [d] => { results := [.lit (.bool true)], args := [d] }
  | _ => none }
def fnCodesPrefixRow : OpenClaim := { program := "ytblmifbpoopbdaa", sum := "16d0d772d39168e7405a602d91f64828969642b91ce556a852637936a93844db", func := "loop.example/soughtstreams/laws.FnCodesPrefix", spec := "fnCodesPrefix", recurses := true, plainKeys := false, apart := false }
def FnCodesPrefixSaid : Prop := fnCodesPrefixRow.holds Try.pinned (OpenSpec.ofChange fnCodesPrefixSpec)

/-- ITS FALSE NEIGHBOUR: 'it returns false'. Refute it at one input. -/
def fnCodesPrefixWrong : ChangeSpec := { name := "fnCodesPrefix", fn := fun _ => fun
  | [d] => { results := [.lit (.bool false)], args := [d] }
  | _ => none }
def FnCodesPrefixWrongFalsely : Prop := fnCodesPrefixRow.holds Try.pinned (OpenSpec.ofChange fnCodesPrefixWrong)

/-- 'laws.FnExactCodeOfWord': WHATEVER THE INPUT: true; the input reads as it did. -/
def fnExactCodeOfWordSpec : ChangeSpec := { name := "fnExactCodeOfWord", fn := fun _ => fun
  | [d1, d2] => { results := [.lit (.bool true)], args := [d1, d2] }
  | _ => none }
def fnExactCodeOfWordRow : OpenClaim := { program := "ytblmifbpoopbdaa", sum := "16d0d772d39168e7405a602d91f64828969642b91ce556a852637936a93844db", func := "loop.example/soughtstreams/laws.FnExactCodeOfWord", spec := "fnExactCodeOfWord", plainKeys := false, apart := false }
def FnExactCodeOfWordSaid : Prop := fnExactCodeOfWordRow.holds Try.pinned (OpenSpec.ofChange fnExactCodeOfWordSpec)

/-- ITS FALSE NEIGHBOUR: 'it returns false'. Refute it at one input. -/
def fnExactCodeOfWordWrong : ChangeSpec := { name := "fnExactCodeOfWord", fn := fun _ => fun
  | [d1, d2] => { results := [.lit (.bool false)], args := [d1, d2] }
  | _ => none }
def FnExactCodeOfWordWrongFalsely : Prop := fnExactCodeOfWordRow.holds Try.pinned (OpenSpec.ofChange fnExactCodeOfWordWrong)

/-- 'laws.FnCodeOfWord': WHATEVER THE INPUT: true; the input reads as it did. -/
def fnCodeOfWordSpec : ChangeSpec := { name := "fnCodeOfWord", fn := fun _ => fun
  | [d] => { results := [.lit (.bool true)], args := [d] }
  | _ => none }
def fnCodeOfWordRow : OpenClaim := { program := "ytblmifbpoopbdaa", sum := "16d0d772d39168e7405a602d91f64828969642b91ce556a852637936a93844db", func := "loop.example/soughtstreams/laws.FnCodeOfWord", spec := "fnCodeOfWord", recurses := true, plainKeys := false, apart := false }
def FnCodeOfWordSaid : Prop := fnCodeOfWordRow.holds Try.pinned (OpenSpec.ofChange fnCodeOfWordSpec)

/-- ITS FALSE NEIGHBOUR: 'it returns false'. Refute it at one input. -/
def fnCodeOfWordWrong : ChangeSpec := { name := "fnCodeOfWord", fn := fun _ => fun
  | [d] => { results := [.lit (.bool false)], args := [d] }
  | _ => none }
def FnCodeOfWordWrongFalsely : Prop := fnCodeOfWordRow.holds Try.pinned (OpenSpec.ofChange fnCodeOfWordWrong)

/-- 'laws.FnExactLongestWord': WHATEVER THE INPUT: true; the input reads as it did. -/
def fnExactLongestWordSpec : ChangeSpec := { name := "fnExactLongestWord", fn := fun _ => fun
  | [d1, d2] => { results := [.lit (.bool true)], args := [d1, d2] }
  | _ => none }
def fnExactLongestWordRow : OpenClaim := { program := "ytblmifbpoopbdaa", sum := "16d0d772d39168e7405a602d91f64828969642b91ce556a852637936a93844db", func := "loop.example/soughtstreams/laws.FnExactLongestWord", spec := "fnExactLongestWord", plainKeys := false, apart := false }
def FnExactLongestWordSaid : Prop := fnExactLongestWordRow.holds Try.pinned (OpenSpec.ofChange fnExactLongestWordSpec)

/-- ITS FALSE NEIGHBOUR: 'it returns false'. Refute it at one input. -/
def fnExactLongestWordWrong : ChangeSpec := { name := "fnExactLongestWord", fn := fun _ => fun
  | [d1, d2] => { results := [.lit (.bool false)], args := [d1, d2] }
  | _ => none }
def FnExactLongestWordWrongFalsely : Prop := fnExactLongestWordRow.holds Try.pinned (OpenSpec.ofChange fnExactLongestWordWrong)

/-- 'laws.FnLongestWord': WHATEVER THE INPUT: true; the input reads as it did. -/
def fnLongestWordSpec : ChangeSpec := { name := "fnLongestWord", fn := fun _ => fun
  | [d] => { results := [.lit (.bool true)], args := [d] }
  | _ => none }
def fnLongestWordRow : OpenClaim := { program := "ytblmifbpoopbdaa", sum := "16d0d772d39168e7405a602d91f64828969642b91ce556a852637936a93844db", func := "loop.example/soughtstreams/laws.FnLongestWord", spec := "fnLongestWord", plainKeys := false, apart := false }
def FnLongestWordSaid : Prop := fnLongestWordRow.holds Try.pinned (OpenSpec.ofChange fnLongestWordSpec)

/-- ITS FALSE NEIGHBOUR: 'it returns false'. Refute it at one input. -/
def fnLongestWordWrong : ChangeSpec := { name := "fnLongestWord", fn := fun _ => fun
  | [d] => { results := [.lit (.bool false)], args := [d] }
  | _ => none }
def FnLongestWordWrongFalsely : Prop := fnLongestWordRow.holds Try.pinned (OpenSpec.ofChange fnLongestWordWrong)

/-- 'laws.FnExactGreedyCodes': WHATEVER THE INPUT: true; the input reads as it did. -/
def fnExactGreedyCodesSpec : ChangeSpec := { name := "fnExactGreedyCodes", fn := fun _ => fun
  | [d1, d2] => { results := [.lit (.bool true)], args := [d1, d2] }
  | _ => none }
def fnExactGreedyCodesRow : OpenClaim := { program := "ytblmifbpoopbdaa", sum := "16d0d772d39168e7405a602d91f64828969642b91ce556a852637936a93844db", func := "loop.example/soughtstreams/laws.FnExactGreedyCodes", spec := "fnExactGreedyCodes", unfollowed := true, recurses := true, plainKeys := false, apart := false }
def FnExactGreedyCodesSaid : Prop := fnExactGreedyCodesRow.holds Try.pinned (OpenSpec.ofChange fnExactGreedyCodesSpec)

/-- ITS FALSE NEIGHBOUR: 'it returns false'. Refute it at one input. -/
def fnExactGreedyCodesWrong : ChangeSpec := { name := "fnExactGreedyCodes", fn := fun _ => fun
  | [d1, d2] => { results := [.lit (.bool false)], args := [d1, d2] }
  | _ => none }
def FnExactGreedyCodesWrongFalsely : Prop := fnExactGreedyCodesRow.holds Try.pinned (OpenSpec.ofChange fnExactGreedyCodesWrong)

/-- 'laws.FnExactCompress': WHATEVER THE INPUT: true; the input reads as it did. -/
def fnExactCompressSpec : ChangeSpec := { name := "fnExactCompress", fn := fun _ => fun
  | [d1, d2] => { results := [.lit (.bool true)], args := [d1, d2] }
  | _ => none }
def fnExactCompressRow : OpenClaim := { program := "ytblmifbpoopbdaa", sum := "16d0d772d39168e7405a602d91f64828969642b91ce556a852637936a93844db", func := "loop.example/soughtstreams/laws.FnExactCompress", spec := "fnExactCompress", unfollowed := true, recurses := true, plainKeys := false, apart := false }
def FnExactCompressSaid : Prop := fnExactCompressRow.holds Try.pinned (OpenSpec.ofChange fnExactCompressSpec)

/-- ITS FALSE NEIGHBOUR: 'it returns false'. Refute it at one input. -/
def fnExactCompressWrong : ChangeSpec := { name := "fnExactCompress", fn := fun _ => fun
  | [d1, d2] => { results := [.lit (.bool false)], args := [d1, d2] }
  | _ => none }
def FnExactCompressWrongFalsely : Prop := fnExactCompressRow.holds Try.pinned (OpenSpec.ofChange fnExactCompressWrong)

/-- 'laws.FnGreedy': WHATEVER THE INPUT: true; the input reads as it did. -/
def fnGreedySpec : ChangeSpec := { name := "fnGreedy", fn := fun _ => fun
  | [d] => { results := [.lit (.bool true)], args := [d] }
  | _ => none }
def fnGreedyRow : OpenClaim := { program := "ytblmifbpoopbdaa", sum := "16d0d772d39168e7405a602d91f64828969642b91ce556a852637936a93844db", func := "loop.example/soughtstreams/laws.FnGreedy", spec := "fnGreedy", unfollowed := true, recurses := true, plainKeys := false, apart := false }
def FnGreedySaid : Prop := fnGreedyRow.holds Try.pinned (OpenSpec.ofChange fnGreedySpec)

/-- ITS FALSE NEIGHBOUR: 'it returns false'. Refute it at one input. -/
def fnGreedyWrong : ChangeSpec := { name := "fnGreedy", fn := fun _ => fun
  | [d] => { results := [.lit (.bool false)], args := [d] }
  | _ => none }
def FnGreedyWrongFalsely : Prop := fnGreedyRow.holds Try.pinned (OpenSpec.ofChange fnGreedyWrong)

/-- 'laws.FnGreedyLongest': WHATEVER THE INPUT: true; the input reads as it did. -/
def fnGreedyLongestSpec : ChangeSpec := { name := "fnGreedyLongest", fn := fun _ => fun
  | [d] => { results := [.lit (.bool true)], args := [d] }
  | _ => none }
def fnGreedyLongestRow : OpenClaim := { program := "ytblmifbpoopbdaa", sum := "16d0d772d39168e7405a602d91f64828969642b91ce556a852637936a93844db", func := "loop.example/soughtstreams/laws.FnGreedyLongest", spec := "fnGreedyLongest", unfollowed := true, recurses := true, plainKeys := false, apart := false }
def FnGreedyLongestSaid : Prop := fnGreedyLongestRow.holds Try.pinned (OpenSpec.ofChange fnGreedyLongestSpec)

/-- ITS FALSE NEIGHBOUR: 'it returns false'. Refute it at one input. -/
def fnGreedyLongestWrong : ChangeSpec := { name := "fnGreedyLongest", fn := fun _ => fun
  | [d] => { results := [.lit (.bool false)], args := [d] }
  | _ => none }
def FnGreedyLongestWrongFalsely : Prop := fnGreedyLongestRow.holds Try.pinned (OpenSpec.ofChange fnGreedyLongestWrong)

/-- 'laws.FnExactNewWriter': WHATEVER THE INPUT: true; the input reads as it did. -/
def fnExactNewWriterSpec : ChangeSpec := { name := "fnExactNewWriter", fn := fun _ => fun
  | [d] => { results := [.lit (.bool true)], args := [d] }
  | _ => none }
def fnExactNewWriterRow : OpenClaim := { program := "ytblmifbpoopbdaa", sum := "16d0d772d39168e7405a602d91f64828969642b91ce556a852637936a93844db", func := "loop.example/soughtstreams/laws.FnExactNewWriter", spec := "fnExactNewWriter", plainKeys := false, apart := false }
def FnExactNewWriterSaid : Prop := fnExactNewWriterRow.holds Try.pinned (OpenSpec.ofChange fnExactNewWriterSpec)

/-- ITS FALSE NEIGHBOUR: 'it returns false'. Refute it at one input. -/
def fnExactNewWriterWrong : ChangeSpec := { name := "fnExactNewWriter", fn := fun _ => fun
  | [d] => { results := [.lit (.bool false)], args := [d] }
  | _ => none }
def FnExactNewWriterWrongFalsely : Prop := fnExactNewWriterRow.holds Try.pinned (OpenSpec.ofChange fnExactNewWriterWrong)

/-- 'laws.FnExactNewReader': WHATEVER THE INPUT: true; the input reads as it did. -/
def fnExactNewReaderSpec : ChangeSpec := { name := "fnExactNewReader", fn := fun _ => fun
  | [d] => { results := [.lit (.bool true)], args := [d] }
  | _ => none }
def fnExactNewReaderRow : OpenClaim := { program := "ytblmifbpoopbdaa", sum := "16d0d772d39168e7405a602d91f64828969642b91ce556a852637936a93844db", func := "loop.example/soughtstreams/laws.FnExactNewReader", spec := "fnExactNewReader", plainKeys := false, apart := false }
def FnExactNewReaderSaid : Prop := fnExactNewReaderRow.holds Try.pinned (OpenSpec.ofChange fnExactNewReaderSpec)

/-- ITS FALSE NEIGHBOUR: 'it returns false'. Refute it at one input. -/
def fnExactNewReaderWrong : ChangeSpec := { name := "fnExactNewReader", fn := fun _ => fun
  | [d] => { results := [.lit (.bool false)], args := [d] }
  | _ => none }
def FnExactNewReaderWrongFalsely : Prop := fnExactNewReaderRow.holds Try.pinned (OpenSpec.ofChange fnExactNewReaderWrong)

/-- 'laws.FnExactReaderValid': WHATEVER THE INPUT: true; the input reads as it did. -/
def fnExactReaderValidSpec : ChangeSpec := { name := "fnExactReaderValid", fn := fun _ => fun
  | [d] => { results := [.lit (.bool true)], args := [d] }
  | _ => none }
def fnExactReaderValidRow : OpenClaim := { program := "ytblmifbpoopbdaa", sum := "16d0d772d39168e7405a602d91f64828969642b91ce556a852637936a93844db", func := "loop.example/soughtstreams/laws.FnExactReaderValid", spec := "fnExactReaderValid", plainKeys := false, apart := false }
def FnExactReaderValidSaid : Prop := fnExactReaderValidRow.holds Try.pinned (OpenSpec.ofChange fnExactReaderValidSpec)

/-- ITS FALSE NEIGHBOUR: 'it returns false'. Refute it at one input. -/
def fnExactReaderValidWrong : ChangeSpec := { name := "fnExactReaderValid", fn := fun _ => fun
  | [d] => { results := [.lit (.bool false)], args := [d] }
  | _ => none }
def FnExactReaderValidWrongFalsely : Prop := fnExactReaderValidRow.holds Try.pinned (OpenSpec.ofChange fnExactReaderValidWrong)

/-- 'laws.FnExactReaderNeeds': WHATEVER THE INPUT: true; the input reads as it did. -/
def fnExactReaderNeedsSpec : ChangeSpec := { name := "fnExactReaderNeeds", fn := fun _ => fun
  | [d] => { results := [.lit (.bool true)], args := [d] }
  | _ => none }
def fnExactReaderNeedsRow : OpenClaim := { program := "ytblmifbpoopbdaa", sum := "16d0d772d39168e7405a602d91f64828969642b91ce556a852637936a93844db", func := "loop.example/soughtstreams/laws.FnExactReaderNeeds", spec := "fnExactReaderNeeds", plainKeys := false, apart := false }
def FnExactReaderNeedsSaid : Prop := fnExactReaderNeedsRow.holds Try.pinned (OpenSpec.ofChange fnExactReaderNeedsSpec)

/-- ITS FALSE NEIGHBOUR: 'it returns false'. Refute it at one input. -/
def fnExactReaderNeedsWrong : ChangeSpec := { name := "fnExactReaderNeeds", fn := fun _ => fun
  | [d] => { results := [.lit (.bool false)], args := [d] }
  | _ => none }
def FnExactReaderNeedsWrongFalsely : Prop := fnExactReaderNeedsRow.holds Try.pinned (OpenSpec.ofChange fnExactReaderNeedsWrong)

/-- 'laws.FnExactKnownWords': WHATEVER THE INPUT: true; the input reads as it did. -/
def fnExactKnownWordsSpec : ChangeSpec := { name := "fnExactKnownWords", fn := fun _ => fun
  | [d] => { results := [.lit (.bool true)], args := [d] }
  | _ => none }
def fnExactKnownWordsRow : OpenClaim := { program := "ytblmifbpoopbdaa", sum := "16d0d772d39168e7405a602d91f64828969642b91ce556a852637936a93844db", func := "loop.example/soughtstreams/laws.FnExactKnownWords", spec := "fnExactKnownWords", recurses := true, plainKeys := false, apart := false }
def FnExactKnownWordsSaid : Prop := fnExactKnownWordsRow.holds Try.pinned (OpenSpec.ofChange fnExactKnownWordsSpec)

/-- ITS FALSE NEIGHBOUR: 'it returns false'. Refute it at one input. -/
def fnExactKnownWordsWrong : ChangeSpec := { name := "fnExactKnownWords", fn := fun _ => fun
  | [d] => { results := [.lit (.bool false)], args := [d] }
  | _ => none }
def FnExactKnownWordsWrongFalsely : Prop := fnExactKnownWordsRow.holds Try.pinned (OpenSpec.ofChange fnExactKnownWordsWrong)

/-- 'laws.FnExactLearnKnown': WHATEVER THE INPUT: true; the input reads as it did. -/
def fnExactLearnKnownSpec : ChangeSpec := { name := "fnExactLearnKnown", fn := fun _ => fun
  | [d1, d2] => { results := [.lit (.bool true)], args := [d1, d2] }
  | _ => none }
def fnExactLearnKnownRow : OpenClaim := { program := "ytblmifbpoopbdaa", sum := "16d0d772d39168e7405a602d91f64828969642b91ce556a852637936a93844db", func := "loop.example/soughtstreams/laws.FnExactLearnKnown", spec := "fnExactLearnKnown", plainKeys := false, apart := false }
def FnExactLearnKnownSaid : Prop := fnExactLearnKnownRow.holds Try.pinned (OpenSpec.ofChange fnExactLearnKnownSpec)

/-- ITS FALSE NEIGHBOUR: 'it returns false'. Refute it at one input. -/
def fnExactLearnKnownWrong : ChangeSpec := { name := "fnExactLearnKnown", fn := fun _ => fun
  | [d1, d2] => { results := [.lit (.bool false)], args := [d1, d2] }
  | _ => none }
def FnExactLearnKnownWrongFalsely : Prop := fnExactLearnKnownRow.holds Try.pinned (OpenSpec.ofChange fnExactLearnKnownWrong)

/-- 'laws.FnExactStartWith': WHATEVER THE INPUT: true; the input reads as it did. -/
def fnExactStartWithSpec : ChangeSpec := { name := "fnExactStartWith", fn := fun _ => fun
  | [d1, d2] => { results := [.lit (.bool true)], args := [d1, d2] }
  | _ => none }
def fnExactStartWithRow : OpenClaim := { program := "ytblmifbpoopbdaa", sum := "16d0d772d39168e7405a602d91f64828969642b91ce556a852637936a93844db", func := "loop.example/soughtstreams/laws.FnExactStartWith", spec := "fnExactStartWith", plainKeys := false, apart := false }
def FnExactStartWithSaid : Prop := fnExactStartWithRow.holds Try.pinned (OpenSpec.ofChange fnExactStartWithSpec)

/-- ITS FALSE NEIGHBOUR: 'it returns false'. Refute it at one input. -/
def fnExactStartWithWrong : ChangeSpec := { name := "fnExactStartWith", fn := fun _ => fun
  | [d1, d2] => { results := [.lit (.bool false)], args := [d1, d2] }
  | _ => none }
def FnExactStartWithWrongFalsely : Prop := fnExactStartWithRow.holds Try.pinned (OpenSpec.ofChange fnExactStartWithWrong)

/-- 'laws.FnExactDecompressWith': WHATEVER THE INPUT: true; the input reads as it did. -/
def fnExactDecompressWithSpec : ChangeSpec := { name := "fnExactDecompressWith", fn := fun _ => fun
  | [d1, d2, d3] => { results := [.lit (.bool true)], args := [d1, d2, d3] }
  | _ => none }
def fnExactDecompressWithRow : OpenClaim := { program := "ytblmifbpoopbdaa", sum := "16d0d772d39168e7405a602d91f64828969642b91ce556a852637936a93844db", func := "loop.example/soughtstreams/laws.FnExactDecompressWith", spec := "fnExactDecompressWith", recurses := true, plainKeys := false, apart := false }
def FnExactDecompressWithSaid : Prop := fnExactDecompressWithRow.holds Try.pinned (OpenSpec.ofChange fnExactDecompressWithSpec)

/-- ITS FALSE NEIGHBOUR: 'it returns false'. Refute it at one input. -/
def fnExactDecompressWithWrong : ChangeSpec := { name := "fnExactDecompressWith", fn := fun _ => fun
  | [d1, d2, d3] => { results := [.lit (.bool false)], args := [d1, d2, d3] }
  | _ => none }
def FnExactDecompressWithWrongFalsely : Prop := fnExactDecompressWithRow.holds Try.pinned (OpenSpec.ofChange fnExactDecompressWithWrong)

/-- 'laws.FnExactWriterValid': WHATEVER THE INPUT: true; the input reads as it did. -/
def fnExactWriterValidSpec : ChangeSpec := { name := "fnExactWriterValid", fn := fun _ => fun
  | [d] => { results := [.lit (.bool true)], args := [d] }
  | _ => none }
def fnExactWriterValidRow : OpenClaim := { program := "ytblmifbpoopbdaa", sum := "16d0d772d39168e7405a602d91f64828969642b91ce556a852637936a93844db", func := "loop.example/soughtstreams/laws.FnExactWriterValid", spec := "fnExactWriterValid", plainKeys := false, apart := false }
def FnExactWriterValidSaid : Prop := fnExactWriterValidRow.holds Try.pinned (OpenSpec.ofChange fnExactWriterValidSpec)

/-- ITS FALSE NEIGHBOUR: 'it returns false'. Refute it at one input. -/
def fnExactWriterValidWrong : ChangeSpec := { name := "fnExactWriterValid", fn := fun _ => fun
  | [d] => { results := [.lit (.bool false)], args := [d] }
  | _ => none }
def FnExactWriterValidWrongFalsely : Prop := fnExactWriterValidRow.holds Try.pinned (OpenSpec.ofChange fnExactWriterValidWrong)

/-- 'laws.FnExactReadStream': WHATEVER THE INPUT: true; the input reads as it did. -/
def fnExactReadStreamSpec : ChangeSpec := { name := "fnExactReadStream", fn := fun _ => fun
  | [d1, d2] => { results := [.lit (.bool true)], args := [d1, d2] }
  | _ => none }
def fnExactReadStreamRow : OpenClaim := { program := "ytblmifbpoopbdaa", sum := "16d0d772d39168e7405a602d91f64828969642b91ce556a852637936a93844db", func := "loop.example/soughtstreams/laws.FnExactReadStream", spec := "fnExactReadStream", recurses := true, plainKeys := false, apart := false }
def FnExactReadStreamSaid : Prop := fnExactReadStreamRow.holds Try.pinned (OpenSpec.ofChange fnExactReadStreamSpec)

/-- ITS FALSE NEIGHBOUR: 'it returns false'. Refute it at one input. -/
def fnExactReadStreamWrong : ChangeSpec := { name := "fnExactReadStream", fn := fun _ => fun
  | [d1, d2] => { results := [.lit (.bool false)], args := [d1, d2] }
  | _ => none }
def FnExactReadStreamWrongFalsely : Prop := fnExactReadStreamRow.holds Try.pinned (OpenSpec.ofChange fnExactReadStreamWrong)

/-- 'laws.FnExactSeekBlock': WHATEVER THE INPUT: true; the input reads as it did. -/
def fnExactSeekBlockSpec : ChangeSpec := { name := "fnExactSeekBlock", fn := fun _ => fun
  | [d1, d2] => { results := [.lit (.bool true)], args := [d1, d2] }
  | _ => none }
def fnExactSeekBlockRow : OpenClaim := { program := "ytblmifbpoopbdaa", sum := "16d0d772d39168e7405a602d91f64828969642b91ce556a852637936a93844db", func := "loop.example/soughtstreams/laws.FnExactSeekBlock", spec := "fnExactSeekBlock", plainKeys := false, apart := false }
def FnExactSeekBlockSaid : Prop := fnExactSeekBlockRow.holds Try.pinned (OpenSpec.ofChange fnExactSeekBlockSpec)

/-- ITS FALSE NEIGHBOUR: 'it returns false'. Refute it at one input. -/
def fnExactSeekBlockWrong : ChangeSpec := { name := "fnExactSeekBlock", fn := fun _ => fun
  | [d1, d2] => { results := [.lit (.bool false)], args := [d1, d2] }
  | _ => none }
def FnExactSeekBlockWrongFalsely : Prop := fnExactSeekBlockRow.holds Try.pinned (OpenSpec.ofChange fnExactSeekBlockWrong)

/- THE SECOND FORM. 'bulk': how many values and letters a reading holds, each counted each time it is reached (what is shared counts as often as it is met; a slice's spare places count too). A statement '..UptoSaid' is the law's where the arguments, and the package variables that the reading takes, are together of bulk at most 1048576: NARROWER than '..Said'. Prove '..Said' where nothing that the law and all that it calls make is longer than what came in: it says more and counts as full. Else prove '..UptoSaid'. A law counts once. -/
mutual
def uptoBulk {H : Type} : DataW H → Nat
  | .lit (.string bytes) => bytes.length + 1
  | .lit _ => 1
  | .nil => 1
  | .ptr d => uptoBulk d + 1
  | .slice elems spare => uptoBulkAll elems + uptoBulkAll spare + 1
  | .agg parts => uptoBulkAll parts + 1
  | .iface _ d => uptoBulk d + 1
  | .map entries => uptoBulkEntries entries + 1
  | .held _ => 1
def uptoBulkAll {H : Type} : List (DataW H) → Nat
  | [] => 0
  | d :: r => uptoBulk d + uptoBulkAll r
def uptoBulkEntries {H : Type} : List (Lit × DataW H) → Nat
  | [] => 0
  | x :: r => uptoBulkEntry x + uptoBulkEntries r
def uptoBulkEntry {H : Type} : Lit × DataW H → Nat
  | (.string bytes, d) => bytes.length + uptoBulk d + 1
  | (_, d) => uptoBulk d + 1
 end
def uptoSmall : (H : Type) → List (DataW H) → Bool := fun _ ds => decide (uptoBulkAll ds ≤ 1048576)
def OpenSpec.upto (s : _root_.Go.ChangeSpec) : _root_.Go.OpenSpec := { _root_.Go.OpenSpec.ofChange s with cond := some uptoSmall }

/-- 'laws.FnCodesPrefix', WHERE WHAT IT READS IS OF BULK AT MOST 1048576: true; the input reads as it did. -/
def fnCodesPrefixUptoRow : OpenClaim := { program := "ytblmifbpoopbdaa", sum := "16d0d772d39168e7405a602d91f64828969642b91ce556a852637936a93844db", func := "loop.example/soughtstreams/laws.FnCodesPrefix", spec := "fnCodesPrefix", recurses := true, plainKeys := false, apart := false, narrowed := true }
def FnCodesPrefixUptoSaid : Prop := fnCodesPrefixUptoRow.holds Try.pinned (OpenSpec.upto fnCodesPrefixSpec)

/-- 'laws.FnExactCodeOfWord', WHERE WHAT IT READS IS OF BULK AT MOST 1048576: true; the input reads as it did. -/
def fnExactCodeOfWordUptoRow : OpenClaim := { program := "ytblmifbpoopbdaa", sum := "16d0d772d39168e7405a602d91f64828969642b91ce556a852637936a93844db", func := "loop.example/soughtstreams/laws.FnExactCodeOfWord", spec := "fnExactCodeOfWord", plainKeys := false, apart := false, narrowed := true }
def FnExactCodeOfWordUptoSaid : Prop := fnExactCodeOfWordUptoRow.holds Try.pinned (OpenSpec.upto fnExactCodeOfWordSpec)

/-- 'laws.FnCodeOfWord', WHERE WHAT IT READS IS OF BULK AT MOST 1048576: true; the input reads as it did. -/
def fnCodeOfWordUptoRow : OpenClaim := { program := "ytblmifbpoopbdaa", sum := "16d0d772d39168e7405a602d91f64828969642b91ce556a852637936a93844db", func := "loop.example/soughtstreams/laws.FnCodeOfWord", spec := "fnCodeOfWord", recurses := true, plainKeys := false, apart := false, narrowed := true }
def FnCodeOfWordUptoSaid : Prop := fnCodeOfWordUptoRow.holds Try.pinned (OpenSpec.upto fnCodeOfWordSpec)

/-- 'laws.FnExactLongestWord', WHERE WHAT IT READS IS OF BULK AT MOST 1048576: true; the input reads as it did. -/
def fnExactLongestWordUptoRow : OpenClaim := { program := "ytblmifbpoopbdaa", sum := "16d0d772d39168e7405a602d91f64828969642b91ce556a852637936a93844db", func := "loop.example/soughtstreams/laws.FnExactLongestWord", spec := "fnExactLongestWord", plainKeys := false, apart := false, narrowed := true }
def FnExactLongestWordUptoSaid : Prop := fnExactLongestWordUptoRow.holds Try.pinned (OpenSpec.upto fnExactLongestWordSpec)

/-- 'laws.FnLongestWord', WHERE WHAT IT READS IS OF BULK AT MOST 1048576: true; the input reads as it did. -/
def fnLongestWordUptoRow : OpenClaim := { program := "ytblmifbpoopbdaa", sum := "16d0d772d39168e7405a602d91f64828969642b91ce556a852637936a93844db", func := "loop.example/soughtstreams/laws.FnLongestWord", spec := "fnLongestWord", plainKeys := false, apart := false, narrowed := true }
def FnLongestWordUptoSaid : Prop := fnLongestWordUptoRow.holds Try.pinned (OpenSpec.upto fnLongestWordSpec)

/-- 'laws.FnExactGreedyCodes', WHERE WHAT IT READS IS OF BULK AT MOST 1048576: true; the input reads as it did. -/
def fnExactGreedyCodesUptoRow : OpenClaim := { program := "ytblmifbpoopbdaa", sum := "16d0d772d39168e7405a602d91f64828969642b91ce556a852637936a93844db", func := "loop.example/soughtstreams/laws.FnExactGreedyCodes", spec := "fnExactGreedyCodes", unfollowed := true, recurses := true, plainKeys := false, apart := false, narrowed := true }
def FnExactGreedyCodesUptoSaid : Prop := fnExactGreedyCodesUptoRow.holds Try.pinned (OpenSpec.upto fnExactGreedyCodesSpec)

/-- 'laws.FnExactCompress', WHERE WHAT IT READS IS OF BULK AT MOST 1048576: true; the input reads as it did. -/
def fnExactCompressUptoRow : OpenClaim := { program := "ytblmifbpoopbdaa", sum := "16d0d772d39168e7405a602d91f64828969642b91ce556a852637936a93844db", func := "loop.example/soughtstreams/laws.FnExactCompress", spec := "fnExactCompress", unfollowed := true, recurses := true, plainKeys := false, apart := false, narrowed := true }
def FnExactCompressUptoSaid : Prop := fnExactCompressUptoRow.holds Try.pinned (OpenSpec.upto fnExactCompressSpec)

/-- 'laws.FnGreedy', WHERE WHAT IT READS IS OF BULK AT MOST 1048576: true; the input reads as it did. -/
def fnGreedyUptoRow : OpenClaim := { program := "ytblmifbpoopbdaa", sum := "16d0d772d39168e7405a602d91f64828969642b91ce556a852637936a93844db", func := "loop.example/soughtstreams/laws.FnGreedy", spec := "fnGreedy", unfollowed := true, recurses := true, plainKeys := false, apart := false, narrowed := true }
def FnGreedyUptoSaid : Prop := fnGreedyUptoRow.holds Try.pinned (OpenSpec.upto fnGreedySpec)

/-- 'laws.FnGreedyLongest', WHERE WHAT IT READS IS OF BULK AT MOST 1048576: true; the input reads as it did. -/
def fnGreedyLongestUptoRow : OpenClaim := { program := "ytblmifbpoopbdaa", sum := "16d0d772d39168e7405a602d91f64828969642b91ce556a852637936a93844db", func := "loop.example/soughtstreams/laws.FnGreedyLongest", spec := "fnGreedyLongest", unfollowed := true, recurses := true, plainKeys := false, apart := false, narrowed := true }
def FnGreedyLongestUptoSaid : Prop := fnGreedyLongestUptoRow.holds Try.pinned (OpenSpec.upto fnGreedyLongestSpec)

/-- 'laws.FnExactNewWriter', WHERE WHAT IT READS IS OF BULK AT MOST 1048576: true; the input reads as it did. -/
def fnExactNewWriterUptoRow : OpenClaim := { program := "ytblmifbpoopbdaa", sum := "16d0d772d39168e7405a602d91f64828969642b91ce556a852637936a93844db", func := "loop.example/soughtstreams/laws.FnExactNewWriter", spec := "fnExactNewWriter", plainKeys := false, apart := false, narrowed := true }
def FnExactNewWriterUptoSaid : Prop := fnExactNewWriterUptoRow.holds Try.pinned (OpenSpec.upto fnExactNewWriterSpec)

/-- 'laws.FnExactNewReader', WHERE WHAT IT READS IS OF BULK AT MOST 1048576: true; the input reads as it did. -/
def fnExactNewReaderUptoRow : OpenClaim := { program := "ytblmifbpoopbdaa", sum := "16d0d772d39168e7405a602d91f64828969642b91ce556a852637936a93844db", func := "loop.example/soughtstreams/laws.FnExactNewReader", spec := "fnExactNewReader", plainKeys := false, apart := false, narrowed := true }
def FnExactNewReaderUptoSaid : Prop := fnExactNewReaderUptoRow.holds Try.pinned (OpenSpec.upto fnExactNewReaderSpec)

/-- 'laws.FnExactReaderValid', WHERE WHAT IT READS IS OF BULK AT MOST 1048576: true; the input reads as it did. -/
def fnExactReaderValidUptoRow : OpenClaim := { program := "ytblmifbpoopbdaa", sum := "16d0d772d39168e7405a602d91f64828969642b91ce556a852637936a93844db", func := "loop.example/soughtstreams/laws.FnExactReaderValid", spec := "fnExactReaderValid", plainKeys := false, apart := false, narrowed := true }
def FnExactReaderValidUptoSaid : Prop := fnExactReaderValidUptoRow.holds Try.pinned (OpenSpec.upto fnExactReaderValidSpec)

/-- 'laws.FnExactReaderNeeds', WHERE WHAT IT READS IS OF BULK AT MOST 1048576: true; the input reads as it did. -/
def fnExactReaderNeedsUptoRow : OpenClaim := { program := "ytblmifbpoopbdaa", sum := "16d0d772d39168e7405a602d91f64828969642b91ce556a852637936a93844db", func := "loop.example/soughtstreams/laws.FnExactReaderNeeds", spec := "fnExactReaderNeeds", plainKeys := false, apart := false, narrowed := true }
def FnExactReaderNeedsUptoSaid : Prop := fnExactReaderNeedsUptoRow.holds Try.pinned (OpenSpec.upto fnExactReaderNeedsSpec)

/-- 'laws.FnExactKnownWords', WHERE WHAT IT READS IS OF BULK AT MOST 1048576: true; the input reads as it did. -/
def fnExactKnownWordsUptoRow : OpenClaim := { program := "ytblmifbpoopbdaa", sum := "16d0d772d39168e7405a602d91f64828969642b91ce556a852637936a93844db", func := "loop.example/soughtstreams/laws.FnExactKnownWords", spec := "fnExactKnownWords", recurses := true, plainKeys := false, apart := false, narrowed := true }
def FnExactKnownWordsUptoSaid : Prop := fnExactKnownWordsUptoRow.holds Try.pinned (OpenSpec.upto fnExactKnownWordsSpec)

/-- 'laws.FnExactLearnKnown', WHERE WHAT IT READS IS OF BULK AT MOST 1048576: true; the input reads as it did. -/
def fnExactLearnKnownUptoRow : OpenClaim := { program := "ytblmifbpoopbdaa", sum := "16d0d772d39168e7405a602d91f64828969642b91ce556a852637936a93844db", func := "loop.example/soughtstreams/laws.FnExactLearnKnown", spec := "fnExactLearnKnown", plainKeys := false, apart := false, narrowed := true }
def FnExactLearnKnownUptoSaid : Prop := fnExactLearnKnownUptoRow.holds Try.pinned (OpenSpec.upto fnExactLearnKnownSpec)

/-- 'laws.FnExactStartWith', WHERE WHAT IT READS IS OF BULK AT MOST 1048576: true; the input reads as it did. -/
def fnExactStartWithUptoRow : OpenClaim := { program := "ytblmifbpoopbdaa", sum := "16d0d772d39168e7405a602d91f64828969642b91ce556a852637936a93844db", func := "loop.example/soughtstreams/laws.FnExactStartWith", spec := "fnExactStartWith", plainKeys := false, apart := false, narrowed := true }
def FnExactStartWithUptoSaid : Prop := fnExactStartWithUptoRow.holds Try.pinned (OpenSpec.upto fnExactStartWithSpec)

/-- 'laws.FnExactDecompressWith', WHERE WHAT IT READS IS OF BULK AT MOST 1048576: true; the input reads as it did. -/
def fnExactDecompressWithUptoRow : OpenClaim := { program := "ytblmifbpoopbdaa", sum := "16d0d772d39168e7405a602d91f64828969642b91ce556a852637936a93844db", func := "loop.example/soughtstreams/laws.FnExactDecompressWith", spec := "fnExactDecompressWith", recurses := true, plainKeys := false, apart := false, narrowed := true }
def FnExactDecompressWithUptoSaid : Prop := fnExactDecompressWithUptoRow.holds Try.pinned (OpenSpec.upto fnExactDecompressWithSpec)

/-- 'laws.FnExactWriterValid', WHERE WHAT IT READS IS OF BULK AT MOST 1048576: true; the input reads as it did. -/
def fnExactWriterValidUptoRow : OpenClaim := { program := "ytblmifbpoopbdaa", sum := "16d0d772d39168e7405a602d91f64828969642b91ce556a852637936a93844db", func := "loop.example/soughtstreams/laws.FnExactWriterValid", spec := "fnExactWriterValid", plainKeys := false, apart := false, narrowed := true }
def FnExactWriterValidUptoSaid : Prop := fnExactWriterValidUptoRow.holds Try.pinned (OpenSpec.upto fnExactWriterValidSpec)

/-- 'laws.FnExactReadStream', WHERE WHAT IT READS IS OF BULK AT MOST 1048576: true; the input reads as it did. -/
def fnExactReadStreamUptoRow : OpenClaim := { program := "ytblmifbpoopbdaa", sum := "16d0d772d39168e7405a602d91f64828969642b91ce556a852637936a93844db", func := "loop.example/soughtstreams/laws.FnExactReadStream", spec := "fnExactReadStream", recurses := true, plainKeys := false, apart := false, narrowed := true }
def FnExactReadStreamUptoSaid : Prop := fnExactReadStreamUptoRow.holds Try.pinned (OpenSpec.upto fnExactReadStreamSpec)

/-- 'laws.FnExactSeekBlock', WHERE WHAT IT READS IS OF BULK AT MOST 1048576: true; the input reads as it did. -/
def fnExactSeekBlockUptoRow : OpenClaim := { program := "ytblmifbpoopbdaa", sum := "16d0d772d39168e7405a602d91f64828969642b91ce556a852637936a93844db", func := "loop.example/soughtstreams/laws.FnExactSeekBlock", spec := "fnExactSeekBlock", plainKeys := false, apart := false, narrowed := true }
def FnExactSeekBlockUptoSaid : Prop := fnExactSeekBlockUptoRow.holds Try.pinned (OpenSpec.upto fnExactSeekBlockSpec)

end Rows
end Go.Proofs.Ytblmifbpoopbdaa
