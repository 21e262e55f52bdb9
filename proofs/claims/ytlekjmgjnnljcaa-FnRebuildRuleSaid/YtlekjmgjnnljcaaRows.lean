/-
  No cell of these rows narrows 'for every input' (looked for: loops, veiled, ifaces, maps, wideKeys, modest, calm, conditions, laid).
  DERIVED. THE GIVEN ROWS OF THIS SEAT. 3 by the template 'for every input the law returns true; each argument reads behind the call as it read before'; 0 by the template 'total and deterministic' (their statements: YtlekjmgjnnljcaaTotals.lean).
  GIVEN WITH THE SEED: the statements are not yours to turn. If you find one false, say at which input.
  Laid BY PROGRAM, IN A SANDBOX (cutbox-rows.mjs): the forced cells as the released guide's own fill.sh prints them over the translation 271ea0f7918fb76d… (all of the seat's roots in one cut). By AI agents, Wed Nov 11 2026. No macro, syntax, notation, axiom, sorry.
-/
import Derived.Test.YtlekjmgjnnljcaaChecked
import GoSem.Claim
import GoSem.ClaimJoined
import GoSem.ClaimMapViews
import Derived.JoinedTies
import Derived.KernelRfl
namespace Go.Proofs.Ytlekjmgjnnljcaa
/- THE CELL 'sum', in the pinned program and in every row, IS THE sha256 OF THE DUMP (.gsa) THAT YtlekjmgjnnljcaaProg.lean LOADS. Nothing in Lean hashes anything: it is a label: what it is worth is what the hold of that sum in a sandbox is worth. -/
noncomputable def Try.pinned : Pinned := { name := "ytlekjmgjnnljcaa", sum := "271ea0f7918fb76d363d3592ba3e95a07d485e2d9ba3239144a1646d167e8030", checked := Try.checked }
namespace Rows
def none {H : Type} : Left H := { results := [], args := [] }

/-- 'laws.FnRebuildRule': WHATEVER THE INPUT: true; the input reads as it did. -/
def fnRebuildRuleSpec : ChangeSpec := { name := "fnRebuildRule", fn := fun _ => fun
  | [d] => { results := [.lit (.bool true)], args := [d] }
  | _ => none }
def fnRebuildRuleRow : OpenClaim := { program := "ytlekjmgjnnljcaa", sum := "271ea0f7918fb76d363d3592ba3e95a07d485e2d9ba3239144a1646d167e8030", func := "loop.example/soughtstreams/laws.FnRebuildRule", spec := "fnRebuildRule", apart := false }
def FnRebuildRuleSaid : Prop := fnRebuildRuleRow.holds Try.pinned (OpenSpec.ofChange fnRebuildRuleSpec)

/-- ITS FALSE NEIGHBOUR: 'it returns false'. Refute it at one input. -/
def fnRebuildRuleWrong : ChangeSpec := { name := "fnRebuildRule", fn := fun _ => fun
  | [d] => { results := [.lit (.bool false)], args := [d] }
  | _ => none }
def FnRebuildRuleWrongFalsely : Prop := fnRebuildRuleRow.holds Try.pinned (OpenSpec.ofChange fnRebuildRuleWrong)

/-- 'laws.FnChangeByte': WHATEVER THE INPUT: true; the input reads as it did. -/
def fnChangeByteSpec : ChangeSpec := { name := "fnChangeByte", fn := fun _ => fun
  | [d] => { results := [.lit (.bool true)], args := [d] }
  | _ => none }
def fnChangeByteRow : OpenClaim := { program := "ytlekjmgjnnljcaa", sum := "271ea0f7918fb76d363d3592ba3e95a07d485e2d9ba3239144a1646d167e8030", func := "loop.example/soughtstreams/laws.FnChangeByte", spec := "fnChangeByte", apart := false }
def FnChangeByteSaid : Prop := fnChangeByteRow.holds Try.pinned (OpenSpec.ofChange fnChangeByteSpec)

/-- ITS FALSE NEIGHBOUR: 'it returns false'. Refute it at one input. -/
def fnChangeByteWrong : ChangeSpec := { name := "fnChangeByte", fn := fun _ => fun
  | [d] => { results := [.lit (.bool false)], args := [d] }
  | _ => none }
def FnChangeByteWrongFalsely : Prop := fnChangeByteRow.holds Try.pinned (OpenSpec.ofChange fnChangeByteWrong)

/-- 'laws.FnDropRepeat': WHATEVER THE INPUT: true; the input reads as it did. -/
def fnDropRepeatSpec : ChangeSpec := { name := "fnDropRepeat", fn := fun _ => fun
  | [d] => { results := [.lit (.bool true)], args := [d] }
  | _ => none }
def fnDropRepeatRow : OpenClaim := { program := "ytlekjmgjnnljcaa", sum := "271ea0f7918fb76d363d3592ba3e95a07d485e2d9ba3239144a1646d167e8030", func := "loop.example/soughtstreams/laws.FnDropRepeat", spec := "fnDropRepeat", apart := false }
def FnDropRepeatSaid : Prop := fnDropRepeatRow.holds Try.pinned (OpenSpec.ofChange fnDropRepeatSpec)

/-- ITS FALSE NEIGHBOUR: 'it returns false'. Refute it at one input. -/
def fnDropRepeatWrong : ChangeSpec := { name := "fnDropRepeat", fn := fun _ => fun
  | [d] => { results := [.lit (.bool false)], args := [d] }
  | _ => none }
def FnDropRepeatWrongFalsely : Prop := fnDropRepeatRow.holds Try.pinned (OpenSpec.ofChange fnDropRepeatWrong)

/- THE SECOND FORM. 'bulk': how many values and letters a reading holds, each counted each time it is reached (what is shared counts as often as it is met; a slice's spare places count too). A statement '..UptoSaid' is the law's where the arguments, and the package variables that the reading takes, are together of bulk at most 1048576: NARROWER than '..Said'. Prove '..Said' where nothing that the law and all that it calls make is longer than what came in: it says more and counts as full. Else prove '..UptoSaid'. A law counts once. -/
mutual
def uptoBulk {H : Type} : DataW H → Nat
  | .lit (.string bytes) => bytes.length + 1
  | .lit _ => 1
  | .nil => 1
  | .ptr d => uptoBulk d + 1
  | .slice elems spare => uptoBulkAll elems + uptoBulkAll spare + 1
  | .agg parts => uptoBulkAll parts + 1
  | .iface _ d => uptoBulk d + 1
  | .map entries => uptoBulkEntries entries + 1
  | .held _ => 1
def uptoBulkAll {H : Type} : List (DataW H) → Nat
  | [] => 0
  | d :: r => uptoBulk d + uptoBulkAll r
def uptoBulkEntries {H : Type} : List (Lit × DataW H) → Nat
  | [] => 0
  | x :: r => uptoBulkEntry x + uptoBulkEntries r
def uptoBulkEntry {H : Type} : Lit × DataW H → Nat
  | (.string bytes, d) => bytes.length + uptoBulk d + 1
  | (_, d) => uptoBulk d + 1
 end
def uptoSmall : (H : Type) → List (DataW H) → Bool := fun _ ds => decide (uptoBulkAll ds ≤ 1048576)
def OpenSpec.upto (s : _root_.Go.ChangeSpec) : _root_.Go.OpenSpec := { _root_.Go.OpenSpec.ofChange s with cond := some uptoSmall }

/-- 'laws.FnRebuildRule', WHERE WHAT IT READS IS OF BULK AT MOST 1048576: true; the input reads as it did. -/
def fnRebuildRuleUptoRow : OpenClaim := { program := "ytlekjmgjnnljcaa", sum := "271ea0f7918fb76d363d3592ba3e95a07d485e2d9ba3239144a1646d167e8030", func := "loop.example/soughtstreams/laws.FnRebuildRule", spec := "fnRebuildRule", apart := false, narrowed := true }
def FnRebuildRuleUptoSaid : Prop := fnRebuildRuleUptoRow.holds Try.pinned (OpenSpec.upto fnRebuildRuleSpec)

/-- 'laws.FnChangeByte', WHERE WHAT IT READS IS OF BULK AT MOST 1048576: true; the input reads as it did. -/
def fnChangeByteUptoRow : OpenClaim := { program := "ytlekjmgjnnljcaa", sum := "271ea0f7918fb76d363d3592ba3e95a07d485e2d9ba3239144a1646d167e8030", func := "loop.example/soughtstreams/laws.FnChangeByte", spec := "fnChangeByte", apart := false, narrowed := true }
def FnChangeByteUptoSaid : Prop := fnChangeByteUptoRow.holds Try.pinned (OpenSpec.upto fnChangeByteSpec)

/-- 'laws.FnDropRepeat', WHERE WHAT IT READS IS OF BULK AT MOST 1048576: true; the input reads as it did. -/
def fnDropRepeatUptoRow : OpenClaim := { program := "ytlekjmgjnnljcaa", sum := "271ea0f7918fb76d363d3592ba3e95a07d485e2d9ba3239144a1646d167e8030", func := "loop.example/soughtstreams/laws.FnDropRepeat", spec := "fnDropRepeat", apart := false, narrowed := true }
def FnDropRepeatUptoSaid : Prop := fnDropRepeatUptoRow.holds Try.pinned (OpenSpec.upto fnDropRepeatSpec)

end Rows
end Go.Proofs.Ytlekjmgjnnljcaa
