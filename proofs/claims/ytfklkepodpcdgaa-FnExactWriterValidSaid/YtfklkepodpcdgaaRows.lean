/-
  No cell of these rows narrows 'for every input' (looked for: loops, veiled, ifaces, maps, wideKeys, modest, calm, conditions, laid).
  DERIVED. THE GIVEN ROWS OF THIS SEAT. 18 by the template 'for every input the law returns true; each argument reads behind the call as it read before'; 0 by the template 'total and deterministic' (their statements: YtfklkepodpcdgaaTotals.lean).
  GIVEN WITH THE SEED: the statements are not yours to turn. If you find one false, say at which input.
  Laid BY PROGRAM, IN A SANDBOX (cutbox-rows.mjs): the forced cells as the released guide's own fill.sh prints them over the translation f13154d9e6013510… (all of the seat's roots in one cut). By AI agents, Wed Nov 11 2026. No macro, syntax, notation, axiom, sorry.
-/
import Derived.Test.YtfklkepodpcdgaaChecked
import GoSem.Claim
import GoSem.ClaimJoined
import GoSem.ClaimMapViews
import Derived.JoinedTies
import Derived.KernelRfl
namespace Go.Proofs.Ytfklkepodpcdgaa
/- THE CELL 'sum', in the pinned program and in every row, IS THE sha256 OF THE DUMP (.gsa) THAT YtfklkepodpcdgaaProg.lean LOADS. Nothing in Lean hashes anything: it is a label: what it is worth is what the hold of that sum in a sandbox is worth. -/
noncomputable def Try.pinned : Pinned := { name := "ytfklkepodpcdgaa", sum := "f13154d9e6013510cba5db18581b9f483dbf27081f9e5ee9ae991cec315244bc", checked := Try.checked }
namespace Rows
def none {H : Type} : Left H := { results := [], args := [] }

/-- 'laws.FnExactSharedStart': WHATEVER THE INPUT: true; the input reads as it did. -/
def fnExactSharedStartSpec : ChangeSpec := { name := "fnExactSharedStart", fn := fun _ => fun
  | [d1, d2] => { results := [.lit (.bool true)], args := [d1, d2] }
  | _ => none }
def fnExactSharedStartRow : OpenClaim := { program := "ytfklkepodpcdgaa", sum := "f13154d9e6013510cba5db18581b9f483dbf27081f9e5ee9ae991cec315244bc", func := "loop.example/soughtstreams/laws.FnExactSharedStart", spec := "fnExactSharedStart", unfollowed := true, recurses := true, plainKeys := false, apart := false }
def FnExactSharedStartSaid : Prop := fnExactSharedStartRow.holds Try.pinned (OpenSpec.ofChange fnExactSharedStartSpec)

/-- ITS FALSE NEIGHBOUR: 'it returns false'. Refute it at one input. -/
def fnExactSharedStartWrong : ChangeSpec := { name := "fnExactSharedStart", fn := fun _ => fun
  | [d1, d2] => { results := [.lit (.bool false)], args := [d1, d2] }
  | _ => none }
def FnExactSharedStartWrongFalsely : Prop := fnExactSharedStartRow.holds Try.pinned (OpenSpec.ofChange fnExactSharedStartWrong)

/-- 'laws.FnExactSharedEnd': WHATEVER THE INPUT: true; the input reads as it did. -/
def fnExactSharedEndSpec : ChangeSpec := { name := "fnExactSharedEnd", fn := fun _ => fun
  | [d1, d2] => { results := [.lit (.bool true)], args := [d1, d2] }
  | _ => none }
def fnExactSharedEndRow : OpenClaim := { program := "ytfklkepodpcdgaa", sum := "f13154d9e6013510cba5db18581b9f483dbf27081f9e5ee9ae991cec315244bc", func := "loop.example/soughtstreams/laws.FnExactSharedEnd", spec := "fnExactSharedEnd", unfollowed := true, recurses := true, plainKeys := false, apart := false }
def FnExactSharedEndSaid : Prop := fnExactSharedEndRow.holds Try.pinned (OpenSpec.ofChange fnExactSharedEndSpec)

/-- ITS FALSE NEIGHBOUR: 'it returns false'. Refute it at one input. -/
def fnExactSharedEndWrong : ChangeSpec := { name := "fnExactSharedEnd", fn := fun _ => fun
  | [d1, d2] => { results := [.lit (.bool false)], args := [d1, d2] }
  | _ => none }
def FnExactSharedEndWrongFalsely : Prop := fnExactSharedEndRow.holds Try.pinned (OpenSpec.ofChange fnExactSharedEndWrong)

/-- 'laws.FnExactPatchOf': WHATEVER THE INPUT: true; the input reads as it did. -/
def fnExactPatchOfSpec : ChangeSpec := { name := "fnExactPatchOf", fn := fun _ => fun
  | [d1, d2] => { results := [.lit (.bool true)], args := [d1, d2] }
  | _ => none }
def fnExactPatchOfRow : OpenClaim := { program := "ytfklkepodpcdgaa", sum := "f13154d9e6013510cba5db18581b9f483dbf27081f9e5ee9ae991cec315244bc", func := "loop.example/soughtstreams/laws.FnExactPatchOf", spec := "fnExactPatchOf", unfollowed := true, recurses := true, plainKeys := false, apart := false }
def FnExactPatchOfSaid : Prop := fnExactPatchOfRow.holds Try.pinned (OpenSpec.ofChange fnExactPatchOfSpec)

/-- ITS FALSE NEIGHBOUR: 'it returns false'. Refute it at one input. -/
def fnExactPatchOfWrong : ChangeSpec := { name := "fnExactPatchOf", fn := fun _ => fun
  | [d1, d2] => { results := [.lit (.bool false)], args := [d1, d2] }
  | _ => none }
def FnExactPatchOfWrongFalsely : Prop := fnExactPatchOfRow.holds Try.pinned (OpenSpec.ofChange fnExactPatchOfWrong)

/-- 'laws.FnExactApplyPatch': WHATEVER THE INPUT: true; the input reads as it did. -/
def fnExactApplyPatchSpec : ChangeSpec := { name := "fnExactApplyPatch", fn := fun _ => fun
  | [d1, d2] => { results := [.lit (.bool true)], args := [d1, d2] }
  | _ => none }
def fnExactApplyPatchRow : OpenClaim := { program := "ytfklkepodpcdgaa", sum := "f13154d9e6013510cba5db18581b9f483dbf27081f9e5ee9ae991cec315244bc", func := "loop.example/soughtstreams/laws.FnExactApplyPatch", spec := "fnExactApplyPatch", plainKeys := false, apart := false }
def FnExactApplyPatchSaid : Prop := fnExactApplyPatchRow.holds Try.pinned (OpenSpec.ofChange fnExactApplyPatchSpec)

/-- ITS FALSE NEIGHBOUR: 'it returns false'. Refute it at one input. -/
def fnExactApplyPatchWrong : ChangeSpec := { name := "fnExactApplyPatch", fn := fun _ => fun
  | [d1, d2] => { results := [.lit (.bool false)], args := [d1, d2] }
  | _ => none }
def FnExactApplyPatchWrongFalsely : Prop := fnExactApplyPatchRow.holds Try.pinned (OpenSpec.ofChange fnExactApplyPatchWrong)

/-- 'laws.FnExactInvertPatch': WHATEVER THE INPUT: true; the input reads as it did. -/
def fnExactInvertPatchSpec : ChangeSpec := { name := "fnExactInvertPatch", fn := fun _ => fun
  | [d1, d2] => { results := [.lit (.bool true)], args := [d1, d2] }
  | _ => none }
def fnExactInvertPatchRow : OpenClaim := { program := "ytfklkepodpcdgaa", sum := "f13154d9e6013510cba5db18581b9f483dbf27081f9e5ee9ae991cec315244bc", func := "loop.example/soughtstreams/laws.FnExactInvertPatch", spec := "fnExactInvertPatch", plainKeys := false, apart := false }
def FnExactInvertPatchSaid : Prop := fnExactInvertPatchRow.holds Try.pinned (OpenSpec.ofChange fnExactInvertPatchSpec)

/-- ITS FALSE NEIGHBOUR: 'it returns false'. Refute it at one input. -/
def fnExactInvertPatchWrong : ChangeSpec := { name := "fnExactInvertPatch", fn := fun _ => fun
  | [d1, d2] => { results := [.lit (.bool false)], args := [d1, d2] }
  | _ => none }
def FnExactInvertPatchWrongFalsely : Prop := fnExactInvertPatchRow.holds Try.pinned (OpenSpec.ofChange fnExactInvertPatchWrong)

/-- 'laws.FnExactSeekBlock': WHATEVER THE INPUT: true; the input reads as it did. -/
def fnExactSeekBlockSpec : ChangeSpec := { name := "fnExactSeekBlock", fn := fun _ => fun
  | [d1, d2] => { results := [.lit (.bool true)], args := [d1, d2] }
  | _ => none }
def fnExactSeekBlockRow : OpenClaim := { program := "ytfklkepodpcdgaa", sum := "f13154d9e6013510cba5db18581b9f483dbf27081f9e5ee9ae991cec315244bc", func := "loop.example/soughtstreams/laws.FnExactSeekBlock", spec := "fnExactSeekBlock", plainKeys := false, apart := false }
def FnExactSeekBlockSaid : Prop := fnExactSeekBlockRow.holds Try.pinned (OpenSpec.ofChange fnExactSeekBlockSpec)

/-- ITS FALSE NEIGHBOUR: 'it returns false'. Refute it at one input. -/
def fnExactSeekBlockWrong : ChangeSpec := { name := "fnExactSeekBlock", fn := fun _ => fun
  | [d1, d2] => { results := [.lit (.bool false)], args := [d1, d2] }
  | _ => none }
def FnExactSeekBlockWrongFalsely : Prop := fnExactSeekBlockRow.holds Try.pinned (OpenSpec.ofChange fnExactSeekBlockWrong)

/-- 'laws.FnExactWordUses': WHATEVER THE INPUT: true; the input reads as it did. -/
def fnExactWordUsesSpec : ChangeSpec := { name := "fnExactWordUses", fn := fun _ => fun
  | [d1, d2] => { results := [.lit (.bool true)], args := [d1, d2] }
  | _ => none }
def fnExactWordUsesRow : OpenClaim := { program := "ytfklkepodpcdgaa", sum := "f13154d9e6013510cba5db18581b9f483dbf27081f9e5ee9ae991cec315244bc", func := "loop.example/soughtstreams/laws.FnExactWordUses", spec := "fnExactWordUses", unfollowed := true, recurses := true, plainKeys := false, apart := false }
def FnExactWordUsesSaid : Prop := fnExactWordUsesRow.holds Try.pinned (OpenSpec.ofChange fnExactWordUsesSpec)

/-- ITS FALSE NEIGHBOUR: 'it returns false'. Refute it at one input. -/
def fnExactWordUsesWrong : ChangeSpec := { name := "fnExactWordUses", fn := fun _ => fun
  | [d1, d2] => { results := [.lit (.bool false)], args := [d1, d2] }
  | _ => none }
def FnExactWordUsesWrongFalsely : Prop := fnExactWordUsesRow.holds Try.pinned (OpenSpec.ofChange fnExactWordUsesWrong)

/-- 'laws.FnExactCompressWith': WHATEVER THE INPUT: true; the input reads as it did. -/
def fnExactCompressWithSpec : ChangeSpec := { name := "fnExactCompressWith", fn := fun _ => fun
  | [d1, d2, d3] => { results := [.lit (.bool true)], args := [d1, d2, d3] }
  | _ => none }
def fnExactCompressWithRow : OpenClaim := { program := "ytfklkepodpcdgaa", sum := "f13154d9e6013510cba5db18581b9f483dbf27081f9e5ee9ae991cec315244bc", func := "loop.example/soughtstreams/laws.FnExactCompressWith", spec := "fnExactCompressWith", unfollowed := true, recurses := true, plainKeys := false, apart := false }
def FnExactCompressWithSaid : Prop := fnExactCompressWithRow.holds Try.pinned (OpenSpec.ofChange fnExactCompressWithSpec)

/-- ITS FALSE NEIGHBOUR: 'it returns false'. Refute it at one input. -/
def fnExactCompressWithWrong : ChangeSpec := { name := "fnExactCompressWith", fn := fun _ => fun
  | [d1, d2, d3] => { results := [.lit (.bool false)], args := [d1, d2, d3] }
  | _ => none }
def FnExactCompressWithWrongFalsely : Prop := fnExactCompressWithRow.holds Try.pinned (OpenSpec.ofChange fnExactCompressWithWrong)

/-- 'laws.FnExactTrimDict': WHATEVER THE INPUT: true; the input reads as it did. -/
def fnExactTrimDictSpec : ChangeSpec := { name := "fnExactTrimDict", fn := fun _ => fun
  | [d1, d2] => { results := [.lit (.bool true)], args := [d1, d2] }
  | _ => none }
def fnExactTrimDictRow : OpenClaim := { program := "ytfklkepodpcdgaa", sum := "f13154d9e6013510cba5db18581b9f483dbf27081f9e5ee9ae991cec315244bc", func := "loop.example/soughtstreams/laws.FnExactTrimDict", spec := "fnExactTrimDict", plainKeys := false, apart := false }
def FnExactTrimDictSaid : Prop := fnExactTrimDictRow.holds Try.pinned (OpenSpec.ofChange fnExactTrimDictSpec)

/-- ITS FALSE NEIGHBOUR: 'it returns false'. Refute it at one input. -/
def fnExactTrimDictWrong : ChangeSpec := { name := "fnExactTrimDict", fn := fun _ => fun
  | [d1, d2] => { results := [.lit (.bool false)], args := [d1, d2] }
  | _ => none }
def FnExactTrimDictWrongFalsely : Prop := fnExactTrimDictRow.holds Try.pinned (OpenSpec.ofChange fnExactTrimDictWrong)

/-- 'laws.FnExactDictGain': WHATEVER THE INPUT: true; the input reads as it did. -/
def fnExactDictGainSpec : ChangeSpec := { name := "fnExactDictGain", fn := fun _ => fun
  | [d1, d2, d3] => { results := [.lit (.bool true)], args := [d1, d2, d3] }
  | _ => none }
def fnExactDictGainRow : OpenClaim := { program := "ytfklkepodpcdgaa", sum := "f13154d9e6013510cba5db18581b9f483dbf27081f9e5ee9ae991cec315244bc", func := "loop.example/soughtstreams/laws.FnExactDictGain", spec := "fnExactDictGain", unfollowed := true, recurses := true, plainKeys := false, apart := false }
def FnExactDictGainSaid : Prop := fnExactDictGainRow.holds Try.pinned (OpenSpec.ofChange fnExactDictGainSpec)

/-- ITS FALSE NEIGHBOUR: 'it returns false'. Refute it at one input. -/
def fnExactDictGainWrong : ChangeSpec := { name := "fnExactDictGain", fn := fun _ => fun
  | [d1, d2, d3] => { results := [.lit (.bool false)], args := [d1, d2, d3] }
  | _ => none }
def FnExactDictGainWrongFalsely : Prop := fnExactDictGainRow.holds Try.pinned (OpenSpec.ofChange fnExactDictGainWrong)

/-- 'laws.FnExactKnownWords': WHATEVER THE INPUT: true; the input reads as it did. -/
def fnExactKnownWordsSpec : ChangeSpec := { name := "fnExactKnownWords", fn := fun _ => fun
  | [d] => { results := [.lit (.bool true)], args := [d] }
  | _ => none }
def fnExactKnownWordsRow : OpenClaim := { program := "ytfklkepodpcdgaa", sum := "f13154d9e6013510cba5db18581b9f483dbf27081f9e5ee9ae991cec315244bc", func := "loop.example/soughtstreams/laws.FnExactKnownWords", spec := "fnExactKnownWords", recurses := true, plainKeys := false, apart := false }
def FnExactKnownWordsSaid : Prop := fnExactKnownWordsRow.holds Try.pinned (OpenSpec.ofChange fnExactKnownWordsSpec)

/-- ITS FALSE NEIGHBOUR: 'it returns false'. Refute it at one input. -/
def fnExactKnownWordsWrong : ChangeSpec := { name := "fnExactKnownWords", fn := fun _ => fun
  | [d] => { results := [.lit (.bool false)], args := [d] }
  | _ => none }
def FnExactKnownWordsWrongFalsely : Prop := fnExactKnownWordsRow.holds Try.pinned (OpenSpec.ofChange fnExactKnownWordsWrong)

/-- 'laws.FnExactSharedWords': WHATEVER THE INPUT: true; the input reads as it did. -/
def fnExactSharedWordsSpec : ChangeSpec := { name := "fnExactSharedWords", fn := fun _ => fun
  | [d1, d2] => { results := [.lit (.bool true)], args := [d1, d2] }
  | _ => none }
def fnExactSharedWordsRow : OpenClaim := { program := "ytfklkepodpcdgaa", sum := "f13154d9e6013510cba5db18581b9f483dbf27081f9e5ee9ae991cec315244bc", func := "loop.example/soughtstreams/laws.FnExactSharedWords", spec := "fnExactSharedWords", recurses := true, plainKeys := false, apart := false }
def FnExactSharedWordsSaid : Prop := fnExactSharedWordsRow.holds Try.pinned (OpenSpec.ofChange fnExactSharedWordsSpec)

/-- ITS FALSE NEIGHBOUR: 'it returns false'. Refute it at one input. -/
def fnExactSharedWordsWrong : ChangeSpec := { name := "fnExactSharedWords", fn := fun _ => fun
  | [d1, d2] => { results := [.lit (.bool false)], args := [d1, d2] }
  | _ => none }
def FnExactSharedWordsWrongFalsely : Prop := fnExactSharedWordsRow.holds Try.pinned (OpenSpec.ofChange fnExactSharedWordsWrong)

/-- 'laws.FnExactReaderValid': WHATEVER THE INPUT: true; the input reads as it did. -/
def fnExactReaderValidSpec : ChangeSpec := { name := "fnExactReaderValid", fn := fun _ => fun
  | [d] => { results := [.lit (.bool true)], args := [d] }
  | _ => none }
def fnExactReaderValidRow : OpenClaim := { program := "ytfklkepodpcdgaa", sum := "f13154d9e6013510cba5db18581b9f483dbf27081f9e5ee9ae991cec315244bc", func := "loop.example/soughtstreams/laws.FnExactReaderValid", spec := "fnExactReaderValid", plainKeys := false, apart := false }
def FnExactReaderValidSaid : Prop := fnExactReaderValidRow.holds Try.pinned (OpenSpec.ofChange fnExactReaderValidSpec)

/-- ITS FALSE NEIGHBOUR: 'it returns false'. Refute it at one input. -/
def fnExactReaderValidWrong : ChangeSpec := { name := "fnExactReaderValid", fn := fun _ => fun
  | [d] => { results := [.lit (.bool false)], args := [d] }
  | _ => none }
def FnExactReaderValidWrongFalsely : Prop := fnExactReaderValidRow.holds Try.pinned (OpenSpec.ofChange fnExactReaderValidWrong)

/-- 'laws.FnExactReaderNeeds': WHATEVER THE INPUT: true; the input reads as it did. -/
def fnExactReaderNeedsSpec : ChangeSpec := { name := "fnExactReaderNeeds", fn := fun _ => fun
  | [d] => { results := [.lit (.bool true)], args := [d] }
  | _ => none }
def fnExactReaderNeedsRow : OpenClaim := { program := "ytfklkepodpcdgaa", sum := "f13154d9e6013510cba5db18581b9f483dbf27081f9e5ee9ae991cec315244bc", func := "loop.example/soughtstreams/laws.FnExactReaderNeeds", spec := "fnExactReaderNeeds", plainKeys := false, apart := false }
def FnExactReaderNeedsSaid : Prop := fnExactReaderNeedsRow.holds Try.pinned (OpenSpec.ofChange fnExactReaderNeedsSpec)

/-- ITS FALSE NEIGHBOUR: 'it returns false'. Refute it at one input. -/
def fnExactReaderNeedsWrong : ChangeSpec := { name := "fnExactReaderNeeds", fn := fun _ => fun
  | [d] => { results := [.lit (.bool false)], args := [d] }
  | _ => none }
def FnExactReaderNeedsWrongFalsely : Prop := fnExactReaderNeedsRow.holds Try.pinned (OpenSpec.ofChange fnExactReaderNeedsWrong)

/-- 'laws.FnExactReadStream': WHATEVER THE INPUT: true; the input reads as it did. -/
def fnExactReadStreamSpec : ChangeSpec := { name := "fnExactReadStream", fn := fun _ => fun
  | [d1, d2] => { results := [.lit (.bool true)], args := [d1, d2] }
  | _ => none }
def fnExactReadStreamRow : OpenClaim := { program := "ytfklkepodpcdgaa", sum := "f13154d9e6013510cba5db18581b9f483dbf27081f9e5ee9ae991cec315244bc", func := "loop.example/soughtstreams/laws.FnExactReadStream", spec := "fnExactReadStream", recurses := true, plainKeys := false, apart := false }
def FnExactReadStreamSaid : Prop := fnExactReadStreamRow.holds Try.pinned (OpenSpec.ofChange fnExactReadStreamSpec)

/-- ITS FALSE NEIGHBOUR: 'it returns false'. Refute it at one input. -/
def fnExactReadStreamWrong : ChangeSpec := { name := "fnExactReadStream", fn := fun _ => fun
  | [d1, d2] => { results := [.lit (.bool false)], args := [d1, d2] }
  | _ => none }
def FnExactReadStreamWrongFalsely : Prop := fnExactReadStreamRow.holds Try.pinned (OpenSpec.ofChange fnExactReadStreamWrong)

/-- 'laws.FnExactReadAll': WHATEVER THE INPUT: true; the input reads as it did. -/
def fnExactReadAllSpec : ChangeSpec := { name := "fnExactReadAll", fn := fun _ => fun
  | [d1, d2] => { results := [.lit (.bool true)], args := [d1, d2] }
  | _ => none }
def fnExactReadAllRow : OpenClaim := { program := "ytfklkepodpcdgaa", sum := "f13154d9e6013510cba5db18581b9f483dbf27081f9e5ee9ae991cec315244bc", func := "loop.example/soughtstreams/laws.FnExactReadAll", spec := "fnExactReadAll", unfollowed := true, recurses := true, plainKeys := false, apart := false }
def FnExactReadAllSaid : Prop := fnExactReadAllRow.holds Try.pinned (OpenSpec.ofChange fnExactReadAllSpec)

/-- ITS FALSE NEIGHBOUR: 'it returns false'. Refute it at one input. -/
def fnExactReadAllWrong : ChangeSpec := { name := "fnExactReadAll", fn := fun _ => fun
  | [d1, d2] => { results := [.lit (.bool false)], args := [d1, d2] }
  | _ => none }
def FnExactReadAllWrongFalsely : Prop := fnExactReadAllRow.holds Try.pinned (OpenSpec.ofChange fnExactReadAllWrong)

/-- 'laws.FnExactWriterValid': WHATEVER THE INPUT: true; the input reads as it did. -/
def fnExactWriterValidSpec : ChangeSpec := { name := "fnExactWriterValid", fn := fun _ => fun
  | [d] => { results := [.lit (.bool true)], args := [d] }
  | _ => none }
def fnExactWriterValidRow : OpenClaim := { program := "ytfklkepodpcdgaa", sum := "f13154d9e6013510cba5db18581b9f483dbf27081f9e5ee9ae991cec315244bc", func := "loop.example/soughtstreams/laws.FnExactWriterValid", spec := "fnExactWriterValid", plainKeys := false, apart := false }
def FnExactWriterValidSaid : Prop := fnExactWriterValidRow.holds Try.pinned (OpenSpec.ofChange fnExactWriterValidSpec)

/-- ITS FALSE NEIGHBOUR: 'it returns false'. Refute it at one input. -/
def fnExactWriterValidWrong : ChangeSpec := { name := "fnExactWriterValid", fn := fun _ => fun
  | [d] => { results := [.lit (.bool false)], args := [d] }
  | _ => none }
def FnExactWriterValidWrongFalsely : Prop := fnExactWriterValidRow.holds Try.pinned (OpenSpec.ofChange fnExactWriterValidWrong)

/-- 'laws.FnExactCloseWriter': WHATEVER THE INPUT: true; the input reads as it did. -/
def fnExactCloseWriterSpec : ChangeSpec := { name := "fnExactCloseWriter", fn := fun _ => fun
  | [d] => { results := [.lit (.bool true)], args := [d] }
  | _ => none }
def fnExactCloseWriterRow : OpenClaim := { program := "ytfklkepodpcdgaa", sum := "f13154d9e6013510cba5db18581b9f483dbf27081f9e5ee9ae991cec315244bc", func := "loop.example/soughtstreams/laws.FnExactCloseWriter", spec := "fnExactCloseWriter", plainKeys := false, apart := false }
def FnExactCloseWriterSaid : Prop := fnExactCloseWriterRow.holds Try.pinned (OpenSpec.ofChange fnExactCloseWriterSpec)

/-- ITS FALSE NEIGHBOUR: 'it returns false'. Refute it at one input. -/
def fnExactCloseWriterWrong : ChangeSpec := { name := "fnExactCloseWriter", fn := fun _ => fun
  | [d] => { results := [.lit (.bool false)], args := [d] }
  | _ => none }
def FnExactCloseWriterWrongFalsely : Prop := fnExactCloseWriterRow.holds Try.pinned (OpenSpec.ofChange fnExactCloseWriterWrong)

/- THE SECOND FORM. 'bulk': how many values and letters a reading holds, each counted each time it is reached (what is shared counts as often as it is met; a slice's spare places count too). A statement '..UptoSaid' is the law's where the arguments, and the package variables that the reading takes, are together of bulk at most 1048576: NARROWER than '..Said'. Prove '..Said' where nothing that the law and all that it calls make is longer than what came in: it says more and counts as full. Else prove '..UptoSaid'. A law counts once. -/
mutual
def uptoBulk {H : Type} : DataW H → Nat
  | .lit (.string bytes) => bytes.length + 1
  | .lit _ => 1
  | .nil => 1
  | .ptr d => uptoBulk d + 1
  | .slice elems spare => uptoBulkAll elems + uptoBulkAll spare + 1
  | .agg parts => uptoBulkAll parts + 1
  | .iface _ d => uptoBulk d + 1
  | .map entries => uptoBulkEntries entries + 1
  | .held _ => 1
def uptoBulkAll {H : Type} : List (DataW H) → Nat
  | [] => 0
  | d :: r => uptoBulk d + uptoBulkAll r
def uptoBulkEntries {H : Type} : List (Lit × DataW H) → Nat
  | [] => 0
  | x :: r => uptoBulkEntry x + uptoBulkEntries r
def uptoBulkEntry {H : Type} : Lit × DataW H → Nat
  | (.string bytes, d) => bytes.length + uptoBulk d + 1
  | (_, d) => uptoBulk d + 1
 end
def uptoSmall : (H : Type) → List (DataW H) → Bool := fun _ ds => decide (uptoBulkAll ds ≤ 1048576)
def OpenSpec.upto (s : _root_.Go.ChangeSpec) : _root_.Go.OpenSpec := { _root_.Go.OpenSpec.ofChange s with cond := some uptoSmall }

/-- 'laws.FnExactSharedStart', WHERE WHAT IT READS IS OF BULK AT MOST 1048576: true; the input reads as it did. -/
def fnExactSharedStartUptoRow : OpenClaim := { program := "ytfklkepodpcdgaa", sum := "f13154d9e6013510cba5db18581b9f483dbf27081f9e5ee9ae991cec315244bc", func := "loop.example/soughtstreams/laws.FnExactSharedStart", spec := "fnExactSharedStart", unfollowed := true, recurses := true, plainKeys := false, apart := false, narrowed := true }
def FnExactSharedStartUptoSaid : Prop := fnExactSharedStartUptoRow.holds Try.pinned (OpenSpec.upto fnExactSharedStartSpec)

/-- 'laws.FnExactSharedEnd', WHERE WHAT IT READS IS OF BULK AT MOST 1048576: true; the input reads as it did. -/
def fnExactSharedEndUptoRow : OpenClaim := { program := "ytfklkepodpcdgaa", sum := "f13154d9e6013510cba5db18581b9f483dbf27081f9e5ee9ae991cec315244bc", func := "loop.example/soughtstreams/laws.FnExactSharedEnd", spec := "fnExactSharedEnd", unfollowed := true, recurses := true, plainKeys := false, apart := false, narrowed := true }
def FnExactSharedEndUptoSaid : Prop := fnExactSharedEndUptoRow.holds Try.pinned (OpenSpec.upto fnExactSharedEndSpec)

/-- 'laws.FnExactPatchOf', WHERE WHAT IT READS IS OF BULK AT MOST 1048576: true; the input reads as it did. -/
def fnExactPatchOfUptoRow : OpenClaim := { program := "ytfklkepodpcdgaa", sum := "f13154d9e6013510cba5db18581b9f483dbf27081f9e5ee9ae991cec315244bc", func := "loop.example/soughtstreams/laws.FnExactPatchOf", spec := "fnExactPatchOf", unfollowed := true, recurses := true, plainKeys := false, apart := false, narrowed := true }
def FnExactPatchOfUptoSaid : Prop := fnExactPatchOfUptoRow.holds Try.pinned (OpenSpec.upto fnExactPatchOfSpec)

/-- 'laws.FnExactApplyPatch', WHERE WHAT IT READS IS OF BULK AT MOST 1048576: true; the input reads as it did. -/
def fnExactApplyPatchUptoRow : OpenClaim := { program := "ytfklkepodpcdgaa", sum := "f13154d9e6013510cba5db18581b9f483dbf27081f9e5ee9ae991cec315244bc", func := "loop.example/soughtstreams/laws.FnExactApplyPatch", spec := "fnExactApplyPatch", plainKeys := false, apart := false, narrowed := true }
def FnExactApplyPatchUptoSaid : Prop := fnExactApplyPatchUptoRow.holds Try.pinned (OpenSpec.upto fnExactApplyPatchSpec)

/-- 'laws.FnExactInvertPatch', WHERE WHAT IT READS IS OF BULK AT MOST 1048576: true; the input reads as it did. -/
def fnExactInvertPatchUptoRow : OpenClaim := { program := "ytfklkepodpcdgaa", sum := "f13154d9e6013510cba5db18581b9f483dbf27081f9e5ee9ae991cec315244bc", func := "loop.example/soughtstreams/laws.FnExactInvertPatch", spec := "fnExactInvertPatch", plainKeys := false, apart := false, narrowed := true }
def FnExactInvertPatchUptoSaid : Prop := fnExactInvertPatchUptoRow.holds Try.pinned (OpenSpec.upto fnExactInvertPatchSpec)

/-- 'laws.FnExactSeekBlock', WHERE WHAT IT READS IS OF BULK AT MOST 1048576: true; the input reads as it did. -/
def fnExactSeekBlockUptoRow : OpenClaim := { program := "ytfklkepodpcdgaa", sum := "f13154d9e6013510cba5db18581b9f483dbf27081f9e5ee9ae991cec315244bc", func := "loop.example/soughtstreams/laws.FnExactSeekBlock", spec := "fnExactSeekBlock", plainKeys := false, apart := false, narrowed := true }
def FnExactSeekBlockUptoSaid : Prop := fnExactSeekBlockUptoRow.holds Try.pinned (OpenSpec.upto fnExactSeekBlockSpec)

/-- 'laws.FnExactWordUses', WHERE WHAT IT READS IS OF BULK AT MOST 1048576: true; the input reads as it did. -/
def fnExactWordUsesUptoRow : OpenClaim := { program := "ytfklkepodpcdgaa", sum := "f13154d9e6013510cba5db18581b9f483dbf27081f9e5ee9ae991cec315244bc", func := "loop.example/soughtstreams/laws.FnExactWordUses", spec := "fnExactWordUses", unfollowed := true, recurses := true, plainKeys := false, apart := false, narrowed := true }
def FnExactWordUsesUptoSaid : Prop := fnExactWordUsesUptoRow.holds Try.pinned (OpenSpec.upto fnExactWordUsesSpec)

/-- 'laws.FnExactCompressWith', WHERE WHAT IT READS IS OF BULK AT MOST 1048576: true; the input reads as it did. -/
def fnExactCompressWithUptoRow : OpenClaim := { program := "ytfklkepodpcdgaa", sum := "f13154d9e6013510cba5db18581b9f483dbf27081f9e5ee9ae991cec315244bc", func := "loop.example/soughtstreams/laws.FnExactCompressWith", spec := "fnExactCompressWith", unfollowed := true, recurses := true, plainKeys := false, apart := false, narrowed := true }
def FnExactCompressWithUptoSaid : Prop := fnExactCompressWithUptoRow.holds Try.pinned (OpenSpec.upto fnExactCompressWithSpec)

/-- 'laws.FnExactTrimDict', WHERE WHAT IT READS IS OF BULK AT MOST 1048576: true; the input reads as it did. -/
def fnExactTrimDictUptoRow : OpenClaim := { program := "ytfklkepodpcdgaa", sum := "f13154d9e6013510cba5db18581b9f483dbf27081f9e5ee9ae991cec315244bc", func := "loop.example/soughtstreams/laws.FnExactTrimDict", spec := "fnExactTrimDict", plainKeys := false, apart := false, narrowed := true }
def FnExactTrimDictUptoSaid : Prop := fnExactTrimDictUptoRow.holds Try.pinned (OpenSpec.upto fnExactTrimDictSpec)

/-- 'laws.FnExactDictGain', WHERE WHAT IT READS IS OF BULK AT MOST 1048576: true; the input reads as it did. -/
def fnExactDictGainUptoRow : OpenClaim := { program := "ytfklkepodpcdgaa", sum := "f13154d9e6013510cba5db18581b9f483dbf27081f9e5ee9ae991cec315244bc", func := "loop.example/soughtstreams/laws.FnExactDictGain", spec := "fnExactDictGain", unfollowed := true, recurses := true, plainKeys := false, apart := false, narrowed := true }
def FnExactDictGainUptoSaid : Prop := fnExactDictGainUptoRow.holds Try.pinned (OpenSpec.upto fnExactDictGainSpec)

/-- 'laws.FnExactKnownWords', WHERE WHAT IT READS IS OF BULK AT MOST 1048576: true; the input reads as it did. -/
def fnExactKnownWordsUptoRow : OpenClaim := { program := "ytfklkepodpcdgaa", sum := "f13154d9e6013510cba5db18581b9f483dbf27081f9e5ee9ae991cec315244bc", func := "loop.example/soughtstreams/laws.FnExactKnownWords", spec := "fnExactKnownWords", recurses := true, plainKeys := false, apart := false, narrowed := true }
def FnExactKnownWordsUptoSaid : Prop := fnExactKnownWordsUptoRow.holds Try.pinned (OpenSpec.upto fnExactKnownWordsSpec)

/-- 'laws.FnExactSharedWords', WHERE WHAT IT READS IS OF BULK AT MOST 1048576: true; the input reads as it did. -/
def fnExactSharedWordsUptoRow : OpenClaim := { program := "ytfklkepodpcdgaa", sum := "f13154d9e6013510cba5db18581b9f483dbf27081f9e5ee9ae991cec315244bc", func := "loop.example/soughtstreams/laws.FnExactSharedWords", spec := "fnExactSharedWords", recurses := true, plainKeys := false, apart := false, narrowed := true }
def FnExactSharedWordsUptoSaid : Prop := fnExactSharedWordsUptoRow.holds Try.pinned (OpenSpec.upto fnExactSharedWordsSpec)

/-- 'laws.FnExactReaderValid', WHERE WHAT IT READS IS OF BULK AT MOST 1048576: true; the input reads as it did. -/
def fnExactReaderValidUptoRow : OpenClaim := { program := "ytfklkepodpcdgaa", sum := "f13154d9e6013510cba5db18581b9f483dbf27081f9e5ee9ae991cec315244bc", func := "loop.example/soughtstreams/laws.FnExactReaderValid", spec := "fnExactReaderValid", plainKeys := false, apart := false, narrowed := true }
def FnExactReaderValidUptoSaid : Prop := fnExactReaderValidUptoRow.holds Try.pinned (OpenSpec.upto fnExactReaderValidSpec)

/-- 'laws.FnExactReaderNeeds', WHERE WHAT IT READS IS OF BULK AT MOST 1048576: true; the input reads as it did. -/
def fnExactReaderNeedsUptoRow : OpenClaim := { program := "ytfklkepodpcdgaa", sum := "f13154d9e6013510cba5db18581b9f483dbf27081f9e5ee9ae991cec315244bc", func := "loop.example/soughtstreams/laws.FnExactReaderNeeds", spec := "fnExactReaderNeeds", plainKeys := false, apart := false, narrowed := true }
def FnExactReaderNeedsUptoSaid : Prop := fnExactReaderNeedsUptoRow.holds Try.pinned (OpenSpec.upto fnExactReaderNeedsSpec)

/-- 'laws.FnExactReadStream', WHERE WHAT IT READS IS OF BULK AT MOST 1048576: true; the input reads as it did. -/
def fnExactReadStreamUptoRow : OpenClaim := { program := "ytfklkepodpcdgaa", sum := "f13154d9e6013510cba5db18581b9f483dbf27081f9e5ee9ae991cec315244bc", func := "loop.example/soughtstreams/laws.FnExactReadStream", spec := "fnExactReadStream", recurses := true, plainKeys := false, apart := false, narrowed := true }
def FnExactReadStreamUptoSaid : Prop := fnExactReadStreamUptoRow.holds Try.pinned (OpenSpec.upto fnExactReadStreamSpec)

/-- 'laws.FnExactReadAll', WHERE WHAT IT READS IS OF BULK AT MOST 1048576: true; the input reads as it did. -/
def fnExactReadAllUptoRow : OpenClaim := { program := "ytfklkepodpcdgaa", sum := "f13154d9e6013510cba5db18581b9f483dbf27081f9e5ee9ae991cec315244bc", func := "loop.example/soughtstreams/laws.FnExactReadAll", spec := "fnExactReadAll", unfollowed := true, recurses := true, plainKeys := false, apart := false, narrowed := true }
def FnExactReadAllUptoSaid : Prop := fnExactReadAllUptoRow.holds Try.pinned (OpenSpec.upto fnExactReadAllSpec)

/-- 'laws.FnExactWriterValid', WHERE WHAT IT READS IS OF BULK AT MOST 1048576: true; the input reads as it did. -/
def fnExactWriterValidUptoRow : OpenClaim := { program := "ytfklkepodpcdgaa", sum := "f13154d9e6013510cba5db18581b9f483dbf27081f9e5ee9ae991cec315244bc", func := "loop.example/soughtstreams/laws.FnExactWriterValid", spec := "fnExactWriterValid", plainKeys := false, apart := false, narrowed := true }
def FnExactWriterValidUptoSaid : Prop := fnExactWriterValidUptoRow.holds Try.pinned (OpenSpec.upto fnExactWriterValidSpec)

/-- 'laws.FnExactCloseWriter', WHERE WHAT IT READS IS OF BULK AT MOST 1048576: true; the input reads as it did. -/
def fnExactCloseWriterUptoRow : OpenClaim := { program := "ytfklkepodpcdgaa", sum := "f13154d9e6013510cba5db18581b9f483dbf27081f9e5ee9ae991cec315244bc", func := "loop.example/soughtstreams/laws.FnExactCloseWriter", spec := "fnExactCloseWriter", plainKeys := false, apart := false, narrowed := true }
def FnExactCloseWriterUptoSaid : Prop := fnExactCloseWriterUptoRow.holds Try.pinned (OpenSpec.upto fnExactCloseWriterSpec)

end Rows
end Go.Proofs.Ytfklkepodpcdgaa
