/-
  No cell of these rows narrows 'for every input' (looked for: loops, veiled, ifaces, maps, wideKeys, modest, calm, conditions, laid).
  DERIVED. THE GIVEN ROWS OF THIS SEAT. 6 by the template 'for every input the law returns true; each argument reads behind the call as it read before'; 0 by the template 'total and deterministic' (their statements: YthjjlphepakmcaaTotals.lean).
  GIVEN WITH THE SEED: the statements are not yours to turn. If you find one false, say at which input.
  Laid BY PROGRAM, IN A SANDBOX (cutbox-rows.mjs): the forced cells as the released guide's own fill.sh prints them over the translation 7f1fc585a83f09fd… (all of the seat's roots in one cut). By AI agents, Wed Nov 11 2026. No macro, syntax, notation, axiom, sorry.
-/
import Derived.Test.YthjjlphepakmcaaChecked
import GoSem.Claim
import GoSem.ClaimJoined
import GoSem.ClaimMapViews
import Derived.JoinedTies
import Derived.KernelRfl
namespace Go.Proofs.Ythjjlphepakmcaa
/- THE CELL 'sum', in the pinned program and in every row, IS THE sha256 OF THE DUMP (.gsa) THAT YthjjlphepakmcaaProg.lean LOADS. Nothing in Lean hashes anything: it is a label: what it is worth is what the hold of that sum in a sandbox is worth. -/
noncomputable def Try.pinned : Pinned := { name := "ythjjlphepakmcaa", sum := "7f1fc585a83f09fda7cd8a9e601414e1e8c690ee8e0944b623f389b16a37da02", checked := Try.checked }
namespace Rows
def none {H : Type} : Left H := { results := [], args := [] }

/-- 'laws.FnExactChangeByte': WHATEVER THE INPUT: true; the input reads as it did. -/
def fnExactChangeByteSpec : ChangeSpec := { name := "fnExactChangeByte", fn := fun _ => fun
  | [d1, d2, d3] => { results := [.lit (.bool true)], args := [d1, d2, d3] }
  | _ => none }
def fnExactChangeByteRow : OpenClaim := { program := "ythjjlphepakmcaa", sum := "7f1fc585a83f09fda7cd8a9e601414e1e8c690ee8e0944b623f389b16a37da02", func := "loop.example/soughtstreams/laws.FnExactChangeByte", spec := "fnExactChangeByte", apart := false }
def FnExactChangeByteSaid : Prop := fnExactChangeByteRow.holds Try.pinned (OpenSpec.ofChange fnExactChangeByteSpec)

/-- ITS FALSE NEIGHBOUR: 'it returns false'. Refute it at one input. -/
def fnExactChangeByteWrong : ChangeSpec := { name := "fnExactChangeByte", fn := fun _ => fun
  | [d1, d2, d3] => { results := [.lit (.bool false)], args := [d1, d2, d3] }
  | _ => none }
def FnExactChangeByteWrongFalsely : Prop := fnExactChangeByteRow.holds Try.pinned (OpenSpec.ofChange fnExactChangeByteWrong)

/-- 'laws.FnExactDropBytes': WHATEVER THE INPUT: true; the input reads as it did. -/
def fnExactDropBytesSpec : ChangeSpec := { name := "fnExactDropBytes", fn := fun _ => fun
  | [d1, d2, d3] => { results := [.lit (.bool true)], args := [d1, d2, d3] }
  | _ => none }
def fnExactDropBytesRow : OpenClaim := { program := "ythjjlphepakmcaa", sum := "7f1fc585a83f09fda7cd8a9e601414e1e8c690ee8e0944b623f389b16a37da02", func := "loop.example/soughtstreams/laws.FnExactDropBytes", spec := "fnExactDropBytes", apart := false }
def FnExactDropBytesSaid : Prop := fnExactDropBytesRow.holds Try.pinned (OpenSpec.ofChange fnExactDropBytesSpec)

/-- ITS FALSE NEIGHBOUR: 'it returns false'. Refute it at one input. -/
def fnExactDropBytesWrong : ChangeSpec := { name := "fnExactDropBytes", fn := fun _ => fun
  | [d1, d2, d3] => { results := [.lit (.bool false)], args := [d1, d2, d3] }
  | _ => none }
def FnExactDropBytesWrongFalsely : Prop := fnExactDropBytesRow.holds Try.pinned (OpenSpec.ofChange fnExactDropBytesWrong)

/-- 'laws.FnExactRepeatBytes': WHATEVER THE INPUT: true; the input reads as it did. -/
def fnExactRepeatBytesSpec : ChangeSpec := { name := "fnExactRepeatBytes", fn := fun _ => fun
  | [d1, d2, d3] => { results := [.lit (.bool true)], args := [d1, d2, d3] }
  | _ => none }
def fnExactRepeatBytesRow : OpenClaim := { program := "ythjjlphepakmcaa", sum := "7f1fc585a83f09fda7cd8a9e601414e1e8c690ee8e0944b623f389b16a37da02", func := "loop.example/soughtstreams/laws.FnExactRepeatBytes", spec := "fnExactRepeatBytes", apart := false }
def FnExactRepeatBytesSaid : Prop := fnExactRepeatBytesRow.holds Try.pinned (OpenSpec.ofChange fnExactRepeatBytesSpec)

/-- ITS FALSE NEIGHBOUR: 'it returns false'. Refute it at one input. -/
def fnExactRepeatBytesWrong : ChangeSpec := { name := "fnExactRepeatBytes", fn := fun _ => fun
  | [d1, d2, d3] => { results := [.lit (.bool false)], args := [d1, d2, d3] }
  | _ => none }
def FnExactRepeatBytesWrongFalsely : Prop := fnExactRepeatBytesRow.holds Try.pinned (OpenSpec.ofChange fnExactRepeatBytesWrong)

/-- 'laws.FnExactXorTexts': WHATEVER THE INPUT: true; the input reads as it did. -/
def fnExactXorTextsSpec : ChangeSpec := { name := "fnExactXorTexts", fn := fun _ => fun
  | [d] => { results := [.lit (.bool true)], args := [d] }
  | _ => none }
def fnExactXorTextsRow : OpenClaim := { program := "ythjjlphepakmcaa", sum := "7f1fc585a83f09fda7cd8a9e601414e1e8c690ee8e0944b623f389b16a37da02", func := "loop.example/soughtstreams/laws.FnExactXorTexts", spec := "fnExactXorTexts", apart := false }
def FnExactXorTextsSaid : Prop := fnExactXorTextsRow.holds Try.pinned (OpenSpec.ofChange fnExactXorTextsSpec)

/-- ITS FALSE NEIGHBOUR: 'it returns false'. Refute it at one input. -/
def fnExactXorTextsWrong : ChangeSpec := { name := "fnExactXorTexts", fn := fun _ => fun
  | [d] => { results := [.lit (.bool false)], args := [d] }
  | _ => none }
def FnExactXorTextsWrongFalsely : Prop := fnExactXorTextsRow.holds Try.pinned (OpenSpec.ofChange fnExactXorTextsWrong)

/-- 'laws.FnExactRebuildText': WHATEVER THE INPUT: true; the input reads as it did. -/
def fnExactRebuildTextSpec : ChangeSpec := { name := "fnExactRebuildText", fn := fun _ => fun
  | [d1, d2] => { results := [.lit (.bool true)], args := [d1, d2] }
  | _ => none }
def fnExactRebuildTextRow : OpenClaim := { program := "ythjjlphepakmcaa", sum := "7f1fc585a83f09fda7cd8a9e601414e1e8c690ee8e0944b623f389b16a37da02", func := "loop.example/soughtstreams/laws.FnExactRebuildText", spec := "fnExactRebuildText", apart := false }
def FnExactRebuildTextSaid : Prop := fnExactRebuildTextRow.holds Try.pinned (OpenSpec.ofChange fnExactRebuildTextSpec)

/-- ITS FALSE NEIGHBOUR: 'it returns false'. Refute it at one input. -/
def fnExactRebuildTextWrong : ChangeSpec := { name := "fnExactRebuildText", fn := fun _ => fun
  | [d1, d2] => { results := [.lit (.bool false)], args := [d1, d2] }
  | _ => none }
def FnExactRebuildTextWrongFalsely : Prop := fnExactRebuildTextRow.holds Try.pinned (OpenSpec.ofChange fnExactRebuildTextWrong)

/-- 'laws.FnExactSeekBlock': WHATEVER THE INPUT: true; the input reads as it did. -/
def fnExactSeekBlockSpec : ChangeSpec := { name := "fnExactSeekBlock", fn := fun _ => fun
  | [d1, d2] => { results := [.lit (.bool true)], args := [d1, d2] }
  | _ => none }
def fnExactSeekBlockRow : OpenClaim := { program := "ythjjlphepakmcaa", sum := "7f1fc585a83f09fda7cd8a9e601414e1e8c690ee8e0944b623f389b16a37da02", func := "loop.example/soughtstreams/laws.FnExactSeekBlock", spec := "fnExactSeekBlock", apart := false }
def FnExactSeekBlockSaid : Prop := fnExactSeekBlockRow.holds Try.pinned (OpenSpec.ofChange fnExactSeekBlockSpec)

/-- ITS FALSE NEIGHBOUR: 'it returns false'. Refute it at one input. -/
def fnExactSeekBlockWrong : ChangeSpec := { name := "fnExactSeekBlock", fn := fun _ => fun
  | [d1, d2] => { results := [.lit (.bool false)], args := [d1, d2] }
  | _ => none }
def FnExactSeekBlockWrongFalsely : Prop := fnExactSeekBlockRow.holds Try.pinned (OpenSpec.ofChange fnExactSeekBlockWrong)

/- THE SECOND FORM. 'bulk': how many values and letters a reading holds, each counted each time it is reached (what is shared counts as often as it is met; a slice's spare places count too). A statement '..UptoSaid' is the law's where the arguments, and the package variables that the reading takes, are together of bulk at most 1048576: NARROWER than '..Said'. Prove '..Said' where nothing that the law and all that it calls make is longer than what came in: it says more and counts as full. Else prove '..UptoSaid'. A law counts once. -/
mutual
def uptoBulk {H : Type} : DataW H → Nat
  | .lit (.string bytes) => bytes.length + 1
  | .lit _ => 1
  | .nil => 1
  | .ptr d => uptoBulk d + 1
  | .slice elems spare => uptoBulkAll elems + uptoBulkAll spare + 1
  | .agg parts => uptoBulkAll parts + 1
  | .iface _ d => uptoBulk d + 1
  | .map entries => uptoBulkEntries entries + 1
  | .held _ => 1
def uptoBulkAll {H : Type} : List (DataW H) → Nat
  | [] => 0
  | d :: r => uptoBulk d + uptoBulkAll r
def uptoBulkEntries {H : Type} : List (Lit × DataW H) → Nat
  | [] => 0
  | x :: r => uptoBulkEntry x + uptoBulkEntries r
def uptoBulkEntry {H : Type} : Lit × DataW H → Nat
  | (.string bytes, d) => bytes.length + uptoBulk d + 1
  | (_, d) => uptoBulk d + 1
 end
def uptoSmall : (H : Type) → List (DataW H) → Bool := fun _ ds => decide (uptoBulkAll ds ≤ 1048576)
def OpenSpec.upto (s : _root_.Go.ChangeSpec) : _root_.Go.OpenSpec := { _root_.Go.OpenSpec.ofChange s with cond := some uptoSmall }

/-- 'laws.FnExactChangeByte', WHERE WHAT IT READS IS OF BULK AT MOST 1048576: true; the input reads as it did. -/
def fnExactChangeByteUptoRow : OpenClaim := { program := "ythjjlphepakmcaa", sum := "7f1fc585a83f09fda7cd8a9e601414e1e8c690ee8e0944b623f389b16a37da02", func := "loop.example/soughtstreams/laws.FnExactChangeByte", spec := "fnExactChangeByte", apart := false, narrowed := true }
def FnExactChangeByteUptoSaid : Prop := fnExactChangeByteUptoRow.holds Try.pinned (OpenSpec.upto fnExactChangeByteSpec)

/-- 'laws.FnExactDropBytes', WHERE WHAT IT READS IS OF BULK AT MOST 1048576: true; the input reads as it did. -/
def fnExactDropBytesUptoRow : OpenClaim := { program := "ythjjlphepakmcaa", sum := "7f1fc585a83f09fda7cd8a9e601414e1e8c690ee8e0944b623f389b16a37da02", func := "loop.example/soughtstreams/laws.FnExactDropBytes", spec := "fnExactDropBytes", apart := false, narrowed := true }
def FnExactDropBytesUptoSaid : Prop := fnExactDropBytesUptoRow.holds Try.pinned (OpenSpec.upto fnExactDropBytesSpec)

/-- 'laws.FnExactRepeatBytes', WHERE WHAT IT READS IS OF BULK AT MOST 1048576: true; the input reads as it did. -/
def fnExactRepeatBytesUptoRow : OpenClaim := { program := "ythjjlphepakmcaa", sum := "7f1fc585a83f09fda7cd8a9e601414e1e8c690ee8e0944b623f389b16a37da02", func := "loop.example/soughtstreams/laws.FnExactRepeatBytes", spec := "fnExactRepeatBytes", apart := false, narrowed := true }
def FnExactRepeatBytesUptoSaid : Prop := fnExactRepeatBytesUptoRow.holds Try.pinned (OpenSpec.upto fnExactRepeatBytesSpec)

/-- 'laws.FnExactXorTexts', WHERE WHAT IT READS IS OF BULK AT MOST 1048576: true; the input reads as it did. -/
def fnExactXorTextsUptoRow : OpenClaim := { program := "ythjjlphepakmcaa", sum := "7f1fc585a83f09fda7cd8a9e601414e1e8c690ee8e0944b623f389b16a37da02", func := "loop.example/soughtstreams/laws.FnExactXorTexts", spec := "fnExactXorTexts", apart := false, narrowed := true }
def FnExactXorTextsUptoSaid : Prop := fnExactXorTextsUptoRow.holds Try.pinned (OpenSpec.upto fnExactXorTextsSpec)

/-- 'laws.FnExactRebuildText', WHERE WHAT IT READS IS OF BULK AT MOST 1048576: true; the input reads as it did. -/
def fnExactRebuildTextUptoRow : OpenClaim := { program := "ythjjlphepakmcaa", sum := "7f1fc585a83f09fda7cd8a9e601414e1e8c690ee8e0944b623f389b16a37da02", func := "loop.example/soughtstreams/laws.FnExactRebuildText", spec := "fnExactRebuildText", apart := false, narrowed := true }
def FnExactRebuildTextUptoSaid : Prop := fnExactRebuildTextUptoRow.holds Try.pinned (OpenSpec.upto fnExactRebuildTextSpec)

/-- 'laws.FnExactSeekBlock', WHERE WHAT IT READS IS OF BULK AT MOST 1048576: true; the input reads as it did. -/
def fnExactSeekBlockUptoRow : OpenClaim := { program := "ythjjlphepakmcaa", sum := "7f1fc585a83f09fda7cd8a9e601414e1e8c690ee8e0944b623f389b16a37da02", func := "loop.example/soughtstreams/laws.FnExactSeekBlock", spec := "fnExactSeekBlock", apart := false, narrowed := true }
def FnExactSeekBlockUptoSaid : Prop := fnExactSeekBlockUptoRow.holds Try.pinned (OpenSpec.upto fnExactSeekBlockSpec)

end Rows
end Go.Proofs.Ythjjlphepakmcaa
