/-
  NARROWER THAN 'FOR EVERY INPUT', by the rows' own cells (each row's printed sentence says how): FnExactBlockOf: laid · FnExactBlockData: laid · FnExactMakeContainer: laid · FnExactContainerData: ifaces, laid · FnExactReadRange: ifaces, laid · FnExactResizeBlocks: ifaces, laid · FnExactAppendData: ifaces, laid · FnExactTurnContainer: ifaces, laid.
  DERIVED. THE GIVEN ROWS OF THIS SEAT. 8 by the template 'for every input the law returns true; each argument reads behind the call as it read before'; 0 by the template 'total and deterministic' (their statements: YtmlaaammfnboiaaGreatDoorTotals.lean).
  GIVEN WITH THE SEED: the statements are not yours to turn. If you find one false, say at which input.
  Laid BY PROGRAM, IN A SANDBOX (cutbox-rows.mjs): the forced cells as the released guide's own fill.sh prints them over the translation 4f6a0218ef7129c9… (all of the seat's roots in one cut). By AI agents, Wed Nov 11 2026. No macro, syntax, notation, axiom, sorry.
-/
import Derived.Test.YtmlaaammfnboiaaGreatDoorChecked
import GoSem.Claim
import GoSem.ClaimJoined
import GoSem.ClaimMapViews
import Derived.JoinedTies
import Derived.KernelRfl
namespace Go.Proofs.YtmlaaammfnboiaaGreatDoor
/- THE CELL 'sum', in the pinned program and in every row, IS THE sha256 OF THE DUMP (.gsa) THAT YtmlaaammfnboiaaGreatDoorProg.lean LOADS. Nothing in Lean hashes anything: it is a label: what it is worth is what the hold of that sum in a sandbox is worth. -/
noncomputable def Tryz.pinned : Pinned := { name := "ytmlaaammfnboiaagreatdoor", sum := "4f6a0218ef7129c97952d613eef7ba8f9314fb24ee4194e8fc8642574ea95e8e", checked := Tryz.checked }
namespace Rows
def none {H : Type} : Left H := { results := [], args := [] }

/- WHAT THE LISTED PACKAGE-LEVEL VARIABLES READ AS WHEN THE CALL BEGINS. Each datum BY PROGRAM (the guide's laid-datum.mjs) off the statement by which the dump's own 'gosem.cut.vars' lays the variable. In a bare row this is a premise. The card (YtmlaaammfnboiaaGreatDoorCards.lean) ties it to the program's text. -/
def laid_loop_example_soughtstreams_impl_layout {H : Type} : DataW H := .agg [.agg [.lit (.int .i64 1), .lit (.int .i64 181), .lit (.int .i64 181)], .agg [.lit (.int .i64 1), .lit (.int .i64 0), .lit (.int .i64 1)], .agg [.lit (.int .i64 2), .lit (.int .i64 0), .lit (.int .i64 39)], .agg [.lit (.int .i64 2), .lit (.int .i64 1), .lit (.int .i64 64)], .agg [.lit (.int .i64 2), .lit (.int .i64 1), .lit (.int .i64 64)]]
def laid_loop_example_soughtstreams_impl_errBroken {H : Type} : DataW H := .iface "*errors.errorString" (.ptr (.agg [.lit (.string [116, 104, 101, 114, 101, 32, 105, 115, 32, 110, 111, 32, 98, 108, 111, 99, 107])]))
def laid_loop_example_soughtstreams_impl_errNumber {H : Type} : DataW H := .iface "*errors.errorString" (.ptr (.agg [.lit (.string [97, 32, 98, 108, 111, 99, 107, 32, 104, 97, 115, 32, 97, 32, 119, 114, 111, 110, 103, 32, 110, 117, 109, 98, 101, 114])]))
def laid_loop_example_soughtstreams_impl_errLong {H : Type} : DataW H := .iface "*errors.errorString" (.ptr (.agg [.lit (.string [116, 104, 101, 32, 98, 108, 111, 99, 107, 115, 32, 104, 97, 118, 101, 32, 116, 111, 111, 32, 109, 117, 99, 104, 32, 100, 97, 116, 97])]))

/-- 'laws.FnExactBlockOf': WHATEVER THE INPUT: true; the input reads as it did. -/
def fnExactBlockOfSpec : ChangeSpec := { name := "fnExactBlockOf", vars := ["loop.example/soughtstreams/impl.layout"], fn := fun _ => fun
  | [d1, d2, d3, d4, g1] => { results := [.lit (.bool true)], args := [d1, d2, d3, d4], vars := [g1] }
  | _ => none }
def fnExactBlockOfRow : OpenClaim := { program := "ytmlaaammfnboiaagreatdoor", sum := "4f6a0218ef7129c97952d613eef7ba8f9314fb24ee4194e8fc8642574ea95e8e", func := "loop.example/soughtstreams/laws.FnExactBlockOf", spec := "fnExactBlockOf", unfollowed := true, recurses := true, named := ["loop.example/soughtstreams/impl.layout"], plainKeys := false, apart := false, laid := [("loop.example/soughtstreams/impl.layout", laid_loop_example_soughtstreams_impl_layout)] }
def FnExactBlockOfSaid : Prop := fnExactBlockOfRow.holds Tryz.pinned (OpenSpec.ofChange fnExactBlockOfSpec)

/-- ITS FALSE NEIGHBOUR: 'it returns false'. Refute it at one input. -/
def fnExactBlockOfWrong : ChangeSpec := { name := "fnExactBlockOf", vars := ["loop.example/soughtstreams/impl.layout"], fn := fun _ => fun
  | [d1, d2, d3, d4, g1] => { results := [.lit (.bool false)], args := [d1, d2, d3, d4], vars := [g1] }
  | _ => none }
def FnExactBlockOfWrongFalsely : Prop := fnExactBlockOfRow.holds Tryz.pinned (OpenSpec.ofChange fnExactBlockOfWrong)

/-- 'laws.FnExactBlockData': WHATEVER THE INPUT: true; the input reads as it did. -/
def fnExactBlockDataSpec : ChangeSpec := { name := "fnExactBlockData", vars := ["loop.example/soughtstreams/impl.layout"], fn := fun _ => fun
  | [d1, d2, d3, g1] => { results := [.lit (.bool true)], args := [d1, d2, d3], vars := [g1] }
  | _ => none }
def fnExactBlockDataRow : OpenClaim := { program := "ytmlaaammfnboiaagreatdoor", sum := "4f6a0218ef7129c97952d613eef7ba8f9314fb24ee4194e8fc8642574ea95e8e", func := "loop.example/soughtstreams/laws.FnExactBlockData", spec := "fnExactBlockData", recurses := true, named := ["loop.example/soughtstreams/impl.layout"], plainKeys := false, apart := false, laid := [("loop.example/soughtstreams/impl.layout", laid_loop_example_soughtstreams_impl_layout)] }
def FnExactBlockDataSaid : Prop := fnExactBlockDataRow.holds Tryz.pinned (OpenSpec.ofChange fnExactBlockDataSpec)

/-- ITS FALSE NEIGHBOUR: 'it returns false'. Refute it at one input. -/
def fnExactBlockDataWrong : ChangeSpec := { name := "fnExactBlockData", vars := ["loop.example/soughtstreams/impl.layout"], fn := fun _ => fun
  | [d1, d2, d3, g1] => { results := [.lit (.bool false)], args := [d1, d2, d3], vars := [g1] }
  | _ => none }
def FnExactBlockDataWrongFalsely : Prop := fnExactBlockDataRow.holds Tryz.pinned (OpenSpec.ofChange fnExactBlockDataWrong)

/-- 'laws.FnExactMakeContainer': WHATEVER THE INPUT: true; the input reads as it did. -/
def fnExactMakeContainerSpec : ChangeSpec := { name := "fnExactMakeContainer", vars := ["loop.example/soughtstreams/impl.layout"], fn := fun _ => fun
  | [d1, d2, d3, d4, g1] => { results := [.lit (.bool true)], args := [d1, d2, d3, d4], vars := [g1] }
  | _ => none }
def fnExactMakeContainerRow : OpenClaim := { program := "ytmlaaammfnboiaagreatdoor", sum := "4f6a0218ef7129c97952d613eef7ba8f9314fb24ee4194e8fc8642574ea95e8e", func := "loop.example/soughtstreams/laws.FnExactMakeContainer", spec := "fnExactMakeContainer", unfollowed := true, recurses := true, named := ["loop.example/soughtstreams/impl.layout"], plainKeys := false, apart := false, laid := [("loop.example/soughtstreams/impl.layout", laid_loop_example_soughtstreams_impl_layout)] }
def FnExactMakeContainerSaid : Prop := fnExactMakeContainerRow.holds Tryz.pinned (OpenSpec.ofChange fnExactMakeContainerSpec)

/-- ITS FALSE NEIGHBOUR: 'it returns false'. Refute it at one input. -/
def fnExactMakeContainerWrong : ChangeSpec := { name := "fnExactMakeContainer", vars := ["loop.example/soughtstreams/impl.layout"], fn := fun _ => fun
  | [d1, d2, d3, d4, g1] => { results := [.lit (.bool false)], args := [d1, d2, d3, d4], vars := [g1] }
  | _ => none }
def FnExactMakeContainerWrongFalsely : Prop := fnExactMakeContainerRow.holds Tryz.pinned (OpenSpec.ofChange fnExactMakeContainerWrong)

/-- 'laws.FnExactContainerData': WHATEVER THE INPUT: true; the input reads as it did. -/
def fnExactContainerDataSpec : ChangeSpec := { name := "fnExactContainerData", vars := ["loop.example/soughtstreams/impl.errNumber", "loop.example/soughtstreams/impl.errLong", "loop.example/soughtstreams/impl.errBroken", "loop.example/soughtstreams/impl.layout"], fn := fun _ => fun
  | [d1, d2, d3, g1, g2, g3, g4] => { results := [.lit (.bool true)], args := [d1, d2, d3], vars := [g1, g2, g3, g4] }
  | _ => none }
def fnExactContainerDataRow : OpenClaim := { program := "ytmlaaammfnboiaagreatdoor", sum := "4f6a0218ef7129c97952d613eef7ba8f9314fb24ee4194e8fc8642574ea95e8e", func := "loop.example/soughtstreams/laws.FnExactContainerData", spec := "fnExactContainerData", recurses := true, named := ["loop.example/soughtstreams/impl.errNumber", "loop.example/soughtstreams/impl.errLong", "loop.example/soughtstreams/impl.errBroken", "loop.example/soughtstreams/impl.layout"], ifaces := true, plainKeys := false, apart := false, laid := [("loop.example/soughtstreams/impl.errBroken", laid_loop_example_soughtstreams_impl_errBroken), ("loop.example/soughtstreams/impl.errNumber", laid_loop_example_soughtstreams_impl_errNumber), ("loop.example/soughtstreams/impl.errLong", laid_loop_example_soughtstreams_impl_errLong), ("loop.example/soughtstreams/impl.layout", laid_loop_example_soughtstreams_impl_layout)] }
def FnExactContainerDataSaid : Prop := fnExactContainerDataRow.holds Tryz.pinned (OpenSpec.ofChange fnExactContainerDataSpec)

/-- ITS FALSE NEIGHBOUR: 'it returns false'. Refute it at one input. -/
def fnExactContainerDataWrong : ChangeSpec := { name := "fnExactContainerData", vars := ["loop.example/soughtstreams/impl.errNumber", "loop.example/soughtstreams/impl.errLong", "loop.example/soughtstreams/impl.errBroken", "loop.example/soughtstreams/impl.layout"], fn := fun _ => fun
  | [d1, d2, d3, g1, g2, g3, g4] => { results := [.lit (.bool false)], args := [d1, d2, d3], vars := [g1, g2, g3, g4] }
  | _ => none }
def FnExactContainerDataWrongFalsely : Prop := fnExactContainerDataRow.holds Tryz.pinned (OpenSpec.ofChange fnExactContainerDataWrong)

/-- 'laws.FnExactReadRange': WHATEVER THE INPUT: true; the input reads as it did. -/
def fnExactReadRangeSpec : ChangeSpec := { name := "fnExactReadRange", vars := ["loop.example/soughtstreams/impl.errNumber", "loop.example/soughtstreams/impl.errLong", "loop.example/soughtstreams/impl.errBroken", "loop.example/soughtstreams/impl.layout"], fn := fun _ => fun
  | [d1, d2, d3, d4, d5, g1, g2, g3, g4] => { results := [.lit (.bool true)], args := [d1, d2, d3, d4, d5], vars := [g1, g2, g3, g4] }
  | _ => none }
def fnExactReadRangeRow : OpenClaim := { program := "ytmlaaammfnboiaagreatdoor", sum := "4f6a0218ef7129c97952d613eef7ba8f9314fb24ee4194e8fc8642574ea95e8e", func := "loop.example/soughtstreams/laws.FnExactReadRange", spec := "fnExactReadRange", recurses := true, named := ["loop.example/soughtstreams/impl.errNumber", "loop.example/soughtstreams/impl.errLong", "loop.example/soughtstreams/impl.errBroken", "loop.example/soughtstreams/impl.layout"], ifaces := true, plainKeys := false, apart := false, laid := [("loop.example/soughtstreams/impl.errBroken", laid_loop_example_soughtstreams_impl_errBroken), ("loop.example/soughtstreams/impl.errNumber", laid_loop_example_soughtstreams_impl_errNumber), ("loop.example/soughtstreams/impl.errLong", laid_loop_example_soughtstreams_impl_errLong), ("loop.example/soughtstreams/impl.layout", laid_loop_example_soughtstreams_impl_layout)] }
def FnExactReadRangeSaid : Prop := fnExactReadRangeRow.holds Tryz.pinned (OpenSpec.ofChange fnExactReadRangeSpec)

/-- ITS FALSE NEIGHBOUR: 'it returns false'. Refute it at one input. -/
def fnExactReadRangeWrong : ChangeSpec := { name := "fnExactReadRange", vars := ["loop.example/soughtstreams/impl.errNumber", "loop.example/soughtstreams/impl.errLong", "loop.example/soughtstreams/impl.errBroken", "loop.example/soughtstreams/impl.layout"], fn := fun _ => fun
  | [d1, d2, d3, d4, d5, g1, g2, g3, g4] => { results := [.lit (.bool false)], args := [d1, d2, d3, d4, d5], vars := [g1, g2, g3, g4] }
  | _ => none }
def FnExactReadRangeWrongFalsely : Prop := fnExactReadRangeRow.holds Tryz.pinned (OpenSpec.ofChange fnExactReadRangeWrong)

/-- 'laws.FnExactResizeBlocks': WHATEVER THE INPUT: true; the input reads as it did. -/
def fnExactResizeBlocksSpec : ChangeSpec := { name := "fnExactResizeBlocks", vars := ["loop.example/soughtstreams/impl.errNumber", "loop.example/soughtstreams/impl.errLong", "loop.example/soughtstreams/impl.errBroken", "loop.example/soughtstreams/impl.layout"], fn := fun _ => fun
  | [d1, d2, d3, d4, g1, g2, g3, g4] => { results := [.lit (.bool true)], args := [d1, d2, d3, d4], vars := [g1, g2, g3, g4] }
  | _ => none }
def fnExactResizeBlocksRow : OpenClaim := { program := "ytmlaaammfnboiaagreatdoor", sum := "4f6a0218ef7129c97952d613eef7ba8f9314fb24ee4194e8fc8642574ea95e8e", func := "loop.example/soughtstreams/laws.FnExactResizeBlocks", spec := "fnExactResizeBlocks", unfollowed := true, recurses := true, named := ["loop.example/soughtstreams/impl.errNumber", "loop.example/soughtstreams/impl.errLong", "loop.example/soughtstreams/impl.errBroken", "loop.example/soughtstreams/impl.layout"], ifaces := true, plainKeys := false, apart := false, laid := [("loop.example/soughtstreams/impl.errBroken", laid_loop_example_soughtstreams_impl_errBroken), ("loop.example/soughtstreams/impl.errNumber", laid_loop_example_soughtstreams_impl_errNumber), ("loop.example/soughtstreams/impl.errLong", laid_loop_example_soughtstreams_impl_errLong), ("loop.example/soughtstreams/impl.layout", laid_loop_example_soughtstreams_impl_layout)] }
def FnExactResizeBlocksSaid : Prop := fnExactResizeBlocksRow.holds Tryz.pinned (OpenSpec.ofChange fnExactResizeBlocksSpec)

/-- ITS FALSE NEIGHBOUR: 'it returns false'. Refute it at one input. -/
def fnExactResizeBlocksWrong : ChangeSpec := { name := "fnExactResizeBlocks", vars := ["loop.example/soughtstreams/impl.errNumber", "loop.example/soughtstreams/impl.errLong", "loop.example/soughtstreams/impl.errBroken", "loop.example/soughtstreams/impl.layout"], fn := fun _ => fun
  | [d1, d2, d3, d4, g1, g2, g3, g4] => { results := [.lit (.bool false)], args := [d1, d2, d3, d4], vars := [g1, g2, g3, g4] }
  | _ => none }
def FnExactResizeBlocksWrongFalsely : Prop := fnExactResizeBlocksRow.holds Tryz.pinned (OpenSpec.ofChange fnExactResizeBlocksWrong)

/-- 'laws.FnExactAppendData': WHATEVER THE INPUT: true; the input reads as it did. -/
def fnExactAppendDataSpec : ChangeSpec := { name := "fnExactAppendData", vars := ["loop.example/soughtstreams/impl.errNumber", "loop.example/soughtstreams/impl.errLong", "loop.example/soughtstreams/impl.errBroken", "loop.example/soughtstreams/impl.layout"], fn := fun _ => fun
  | [d1, d2, d3, d4, d5, g1, g2, g3, g4] => { results := [.lit (.bool true)], args := [d1, d2, d3, d4, d5], vars := [g1, g2, g3, g4] }
  | _ => none }
def fnExactAppendDataRow : OpenClaim := { program := "ytmlaaammfnboiaagreatdoor", sum := "4f6a0218ef7129c97952d613eef7ba8f9314fb24ee4194e8fc8642574ea95e8e", func := "loop.example/soughtstreams/laws.FnExactAppendData", spec := "fnExactAppendData", unfollowed := true, recurses := true, named := ["loop.example/soughtstreams/impl.errNumber", "loop.example/soughtstreams/impl.errLong", "loop.example/soughtstreams/impl.errBroken", "loop.example/soughtstreams/impl.layout"], ifaces := true, plainKeys := false, apart := false, laid := [("loop.example/soughtstreams/impl.errBroken", laid_loop_example_soughtstreams_impl_errBroken), ("loop.example/soughtstreams/impl.errNumber", laid_loop_example_soughtstreams_impl_errNumber), ("loop.example/soughtstreams/impl.errLong", laid_loop_example_soughtstreams_impl_errLong), ("loop.example/soughtstreams/impl.layout", laid_loop_example_soughtstreams_impl_layout)] }
def FnExactAppendDataSaid : Prop := fnExactAppendDataRow.holds Tryz.pinned (OpenSpec.ofChange fnExactAppendDataSpec)

/-- ITS FALSE NEIGHBOUR: 'it returns false'. Refute it at one input. -/
def fnExactAppendDataWrong : ChangeSpec := { name := "fnExactAppendData", vars := ["loop.example/soughtstreams/impl.errNumber", "loop.example/soughtstreams/impl.errLong", "loop.example/soughtstreams/impl.errBroken", "loop.example/soughtstreams/impl.layout"], fn := fun _ => fun
  | [d1, d2, d3, d4, d5, g1, g2, g3, g4] => { results := [.lit (.bool false)], args := [d1, d2, d3, d4, d5], vars := [g1, g2, g3, g4] }
  | _ => none }
def FnExactAppendDataWrongFalsely : Prop := fnExactAppendDataRow.holds Tryz.pinned (OpenSpec.ofChange fnExactAppendDataWrong)

/-- 'laws.FnExactTurnContainer': WHATEVER THE INPUT: true; the input reads as it did. -/
def fnExactTurnContainerSpec : ChangeSpec := { name := "fnExactTurnContainer", vars := ["loop.example/soughtstreams/impl.errNumber", "loop.example/soughtstreams/impl.errLong", "loop.example/soughtstreams/impl.errBroken", "loop.example/soughtstreams/impl.layout"], fn := fun _ => fun
  | [d1, d2, d3, g1, g2, g3, g4] => { results := [.lit (.bool true)], args := [d1, d2, d3], vars := [g1, g2, g3, g4] }
  | _ => none }
def fnExactTurnContainerRow : OpenClaim := { program := "ytmlaaammfnboiaagreatdoor", sum := "4f6a0218ef7129c97952d613eef7ba8f9314fb24ee4194e8fc8642574ea95e8e", func := "loop.example/soughtstreams/laws.FnExactTurnContainer", spec := "fnExactTurnContainer", unfollowed := true, recurses := true, named := ["loop.example/soughtstreams/impl.errNumber", "loop.example/soughtstreams/impl.errLong", "loop.example/soughtstreams/impl.errBroken", "loop.example/soughtstreams/impl.layout"], ifaces := true, plainKeys := false, apart := false, laid := [("loop.example/soughtstreams/impl.errBroken", laid_loop_example_soughtstreams_impl_errBroken), ("loop.example/soughtstreams/impl.errNumber", laid_loop_example_soughtstreams_impl_errNumber), ("loop.example/soughtstreams/impl.errLong", laid_loop_example_soughtstreams_impl_errLong), ("loop.example/soughtstreams/impl.layout", laid_loop_example_soughtstreams_impl_layout)] }
def FnExactTurnContainerSaid : Prop := fnExactTurnContainerRow.holds Tryz.pinned (OpenSpec.ofChange fnExactTurnContainerSpec)

/-- ITS FALSE NEIGHBOUR: 'it returns false'. Refute it at one input. -/
def fnExactTurnContainerWrong : ChangeSpec := { name := "fnExactTurnContainer", vars := ["loop.example/soughtstreams/impl.errNumber", "loop.example/soughtstreams/impl.errLong", "loop.example/soughtstreams/impl.errBroken", "loop.example/soughtstreams/impl.layout"], fn := fun _ => fun
  | [d1, d2, d3, g1, g2, g3, g4] => { results := [.lit (.bool false)], args := [d1, d2, d3], vars := [g1, g2, g3, g4] }
  | _ => none }
def FnExactTurnContainerWrongFalsely : Prop := fnExactTurnContainerRow.holds Tryz.pinned (OpenSpec.ofChange fnExactTurnContainerWrong)

/- THE SECOND FORM. 'bulk': how many values and letters a reading holds, each counted each time it is reached (what is shared counts as often as it is met; a slice's spare places count too). A statement '..UptoSaid' is the law's where the arguments, and the package variables that the reading takes, are together of bulk at most 1048576: NARROWER than '..Said'. Prove '..Said' where nothing that the law and all that it calls make is longer than what came in: it says more and counts as full. Else prove '..UptoSaid'. A law counts once. -/
mutual
def uptoBulk {H : Type} : DataW H → Nat
  | .lit (.string bytes) => bytes.length + 1
  | .lit _ => 1
  | .nil => 1
  | .ptr d => uptoBulk d + 1
  | .slice elems spare => uptoBulkAll elems + uptoBulkAll spare + 1
  | .agg parts => uptoBulkAll parts + 1
  | .iface _ d => uptoBulk d + 1
  | .map entries => uptoBulkEntries entries + 1
  | .held _ => 1
def uptoBulkAll {H : Type} : List (DataW H) → Nat
  | [] => 0
  | d :: r => uptoBulk d + uptoBulkAll r
def uptoBulkEntries {H : Type} : List (Lit × DataW H) → Nat
  | [] => 0
  | x :: r => uptoBulkEntry x + uptoBulkEntries r
def uptoBulkEntry {H : Type} : Lit × DataW H → Nat
  | (.string bytes, d) => bytes.length + uptoBulk d + 1
  | (_, d) => uptoBulk d + 1
 end
def uptoSmall : (H : Type) → List (DataW H) → Bool := fun _ ds => decide (uptoBulkAll ds ≤ 1048576)
def OpenSpec.upto (s : _root_.Go.ChangeSpec) : _root_.Go.OpenSpec := { _root_.Go.OpenSpec.ofChange s with cond := some uptoSmall }

/-- 'laws.FnExactBlockOf', WHERE WHAT IT READS IS OF BULK AT MOST 1048576: true; the input reads as it did. -/
def fnExactBlockOfUptoRow : OpenClaim := { program := "ytmlaaammfnboiaagreatdoor", sum := "4f6a0218ef7129c97952d613eef7ba8f9314fb24ee4194e8fc8642574ea95e8e", func := "loop.example/soughtstreams/laws.FnExactBlockOf", spec := "fnExactBlockOf", unfollowed := true, recurses := true, named := ["loop.example/soughtstreams/impl.layout"], plainKeys := false, apart := false, laid := [("loop.example/soughtstreams/impl.layout", laid_loop_example_soughtstreams_impl_layout)], narrowed := true }
def FnExactBlockOfUptoSaid : Prop := fnExactBlockOfUptoRow.holds Tryz.pinned (OpenSpec.upto fnExactBlockOfSpec)

/-- 'laws.FnExactBlockData', WHERE WHAT IT READS IS OF BULK AT MOST 1048576: true; the input reads as it did. -/
def fnExactBlockDataUptoRow : OpenClaim := { program := "ytmlaaammfnboiaagreatdoor", sum := "4f6a0218ef7129c97952d613eef7ba8f9314fb24ee4194e8fc8642574ea95e8e", func := "loop.example/soughtstreams/laws.FnExactBlockData", spec := "fnExactBlockData", recurses := true, named := ["loop.example/soughtstreams/impl.layout"], plainKeys := false, apart := false, laid := [("loop.example/soughtstreams/impl.layout", laid_loop_example_soughtstreams_impl_layout)], narrowed := true }
def FnExactBlockDataUptoSaid : Prop := fnExactBlockDataUptoRow.holds Tryz.pinned (OpenSpec.upto fnExactBlockDataSpec)

/-- 'laws.FnExactMakeContainer', WHERE WHAT IT READS IS OF BULK AT MOST 1048576: true; the input reads as it did. -/
def fnExactMakeContainerUptoRow : OpenClaim := { program := "ytmlaaammfnboiaagreatdoor", sum := "4f6a0218ef7129c97952d613eef7ba8f9314fb24ee4194e8fc8642574ea95e8e", func := "loop.example/soughtstreams/laws.FnExactMakeContainer", spec := "fnExactMakeContainer", unfollowed := true, recurses := true, named := ["loop.example/soughtstreams/impl.layout"], plainKeys := false, apart := false, laid := [("loop.example/soughtstreams/impl.layout", laid_loop_example_soughtstreams_impl_layout)], narrowed := true }
def FnExactMakeContainerUptoSaid : Prop := fnExactMakeContainerUptoRow.holds Tryz.pinned (OpenSpec.upto fnExactMakeContainerSpec)

/-- 'laws.FnExactContainerData', WHERE WHAT IT READS IS OF BULK AT MOST 1048576: true; the input reads as it did. -/
def fnExactContainerDataUptoRow : OpenClaim := { program := "ytmlaaammfnboiaagreatdoor", sum := "4f6a0218ef7129c97952d613eef7ba8f9314fb24ee4194e8fc8642574ea95e8e", func := "loop.example/soughtstreams/laws.FnExactContainerData", spec := "fnExactContainerData", recurses := true, named := ["loop.example/soughtstreams/impl.errNumber", "loop.example/soughtstreams/impl.errLong", "loop.example/soughtstreams/impl.errBroken", "loop.example/soughtstreams/impl.layout"], ifaces := true, plainKeys := false, apart := false, laid := [("loop.example/soughtstreams/impl.errBroken", laid_loop_example_soughtstreams_impl_errBroken), ("loop.example/soughtstreams/impl.errNumber", laid_loop_example_soughtstreams_impl_errNumber), ("loop.example/soughtstreams/impl.errLong", laid_loop_example_soughtstreams_impl_errLong), ("loop.example/soughtstreams/impl.layout", laid_loop_example_soughtstreams_impl_layout)], narrowed := true }
def FnExactContainerDataUptoSaid : Prop := fnExactContainerDataUptoRow.holds Tryz.pinned (OpenSpec.upto fnExactContainerDataSpec)

/-- 'laws.FnExactReadRange', WHERE WHAT IT READS IS OF BULK AT MOST 1048576: true; the input reads as it did. -/
def fnExactReadRangeUptoRow : OpenClaim := { program := "ytmlaaammfnboiaagreatdoor", sum := "4f6a0218ef7129c97952d613eef7ba8f9314fb24ee4194e8fc8642574ea95e8e", func := "loop.example/soughtstreams/laws.FnExactReadRange", spec := "fnExactReadRange", recurses := true, named := ["loop.example/soughtstreams/impl.errNumber", "loop.example/soughtstreams/impl.errLong", "loop.example/soughtstreams/impl.errBroken", "loop.example/soughtstreams/impl.layout"], ifaces := true, plainKeys := false, apart := false, laid := [("loop.example/soughtstreams/impl.errBroken", laid_loop_example_soughtstreams_impl_errBroken), ("loop.example/soughtstreams/impl.errNumber", laid_loop_example_soughtstreams_impl_errNumber), ("loop.example/soughtstreams/impl.errLong", laid_loop_example_soughtstreams_impl_errLong), ("loop.example/soughtstreams/impl.layout", laid_loop_example_soughtstreams_impl_layout)], narrowed := true }
def FnExactReadRangeUptoSaid : Prop := fnExactReadRangeUptoRow.holds Tryz.pinned (OpenSpec.upto fnExactReadRangeSpec)

/-- 'laws.FnExactResizeBlocks', WHERE WHAT IT READS IS OF BULK AT MOST 1048576: true; the input reads as it did. -/
def fnExactResizeBlocksUptoRow : OpenClaim := { program := "ytmlaaammfnboiaagreatdoor", sum := "4f6a0218ef7129c97952d613eef7ba8f9314fb24ee4194e8fc8642574ea95e8e", func := "loop.example/soughtstreams/laws.FnExactResizeBlocks", spec := "fnExactResizeBlocks", unfollowed := true, recurses := true, named := ["loop.example/soughtstreams/impl.errNumber", "loop.example/soughtstreams/impl.errLong", "loop.example/soughtstreams/impl.errBroken", "loop.example/soughtstreams/impl.layout"], ifaces := true, plainKeys := false, apart := false, laid := [("loop.example/soughtstreams/impl.errBroken", laid_loop_example_soughtstreams_impl_errBroken), ("loop.example/soughtstreams/impl.errNumber", laid_loop_example_soughtstreams_impl_errNumber), ("loop.example/soughtstreams/impl.errLong", laid_loop_example_soughtstreams_impl_errLong), ("loop.example/soughtstreams/impl.layout", laid_loop_example_soughtstreams_impl_layout)], narrowed := true }
def FnExactResizeBlocksUptoSaid : Prop := fnExactResizeBlocksUptoRow.holds Tryz.pinned (OpenSpec.upto fnExactResizeBlocksSpec)

/-- 'laws.FnExactAppendData', WHERE WHAT IT READS IS OF BULK AT MOST 1048576: true; the input reads as it did. -/
def fnExactAppendDataUptoRow : OpenClaim := { program := "ytmlaaammfnboiaagreatdoor", sum := "4f6a0218ef7129c97952d613eef7ba8f9314fb24ee4194e8fc8642574ea95e8e", func := "loop.example/soughtstreams/laws.FnExactAppendData", spec := "fnExactAppendData", unfollowed := true, recurses := true, named := ["loop.example/soughtstreams/impl.errNumber", "loop.example/soughtstreams/impl.errLong", "loop.example/soughtstreams/impl.errBroken", "loop.example/soughtstreams/impl.layout"], ifaces := true, plainKeys := false, apart := false, laid := [("loop.example/soughtstreams/impl.errBroken", laid_loop_example_soughtstreams_impl_errBroken), ("loop.example/soughtstreams/impl.errNumber", laid_loop_example_soughtstreams_impl_errNumber), ("loop.example/soughtstreams/impl.errLong", laid_loop_example_soughtstreams_impl_errLong), ("loop.example/soughtstreams/impl.layout", laid_loop_example_soughtstreams_impl_layout)], narrowed := true }
def FnExactAppendDataUptoSaid : Prop := fnExactAppendDataUptoRow.holds Tryz.pinned (OpenSpec.upto fnExactAppendDataSpec)

/-- 'laws.FnExactTurnContainer', WHERE WHAT IT READS IS OF BULK AT MOST 1048576: true; the input reads as it did. -/
def fnExactTurnContainerUptoRow : OpenClaim := { program := "ytmlaaammfnboiaagreatdoor", sum := "4f6a0218ef7129c97952d613eef7ba8f9314fb24ee4194e8fc8642574ea95e8e", func := "loop.example/soughtstreams/laws.FnExactTurnContainer", spec := "fnExactTurnContainer", unfollowed := true, recurses := true, named := ["loop.example/soughtstreams/impl.errNumber", "loop.example/soughtstreams/impl.errLong", "loop.example/soughtstreams/impl.errBroken", "loop.example/soughtstreams/impl.layout"], ifaces := true, plainKeys := false, apart := false, laid := [("loop.example/soughtstreams/impl.errBroken", laid_loop_example_soughtstreams_impl_errBroken), ("loop.example/soughtstreams/impl.errNumber", laid_loop_example_soughtstreams_impl_errNumber), ("loop.example/soughtstreams/impl.errLong", laid_loop_example_soughtstreams_impl_errLong), ("loop.example/soughtstreams/impl.layout", laid_loop_example_soughtstreams_impl_layout)], narrowed := true }
def FnExactTurnContainerUptoSaid : Prop := fnExactTurnContainerUptoRow.holds Tryz.pinned (OpenSpec.upto fnExactTurnContainerSpec)

end Rows
end Go.Proofs.YtmlaaammfnboiaaGreatDoor
