/-
  NARROWER THAN 'FOR EVERY INPUT', by the rows' own cells (each row's printed sentence says how): FnExactFormatBlock: laid · FnExactContainerSize: ifaces, laid · FnExactCountRaw: ifaces, laid · FnExactIndexOf: ifaces, laid · FnExactContainerBlocks: ifaces, laid · FnExactTouchedBlocks: ifaces, laid · FnExactJoinContainers: ifaces, laid · FnExactTakeBlocks: ifaces, laid · FnExactSameBlocks: ifaces, laid · FnExactShuffleBlocks: ifaces, laid.
  DERIVED. THE GIVEN ROWS OF THIS SEAT. 10 by the template 'for every input the law returns true; each argument reads behind the call as it read before'; 0 by the template 'total and deterministic' (their statements: YtkglpbaapekgnaaDoorTotals.lean).
  GIVEN WITH THE SEED: the statements are not yours to turn. If you find one false, say at which input.
  Laid BY PROGRAM, IN A SANDBOX (cutbox-rows.mjs): the forced cells as the released guide's own fill.sh prints them over the translation 397e49a132693846… (all of the seat's roots in one cut). By AI agents, Wed Nov 11 2026. No macro, syntax, notation, axiom, sorry.
-/
import Derived.Test.YtkglpbaapekgnaaDoorChecked
import GoSem.Claim
import GoSem.ClaimJoined
import GoSem.ClaimMapViews
import Derived.JoinedTies
import Derived.KernelRfl
namespace Go.Proofs.YtkglpbaapekgnaaDoor
/- THE CELL 'sum', in the pinned program and in every row, IS THE sha256 OF THE DUMP (.gsa) THAT YtkglpbaapekgnaaDoorProg.lean LOADS. Nothing in Lean hashes anything: it is a label: what it is worth is what the hold of that sum in a sandbox is worth. -/
noncomputable def Tryd.pinned : Pinned := { name := "ytkglpbaapekgnaadoor", sum := "397e49a13269384668175248f51dfd535512feef90faf067fe5ecdbd553c03d8", checked := Tryd.checked }
namespace Rows
def none {H : Type} : Left H := { results := [], args := [] }

/- WHAT THE LISTED PACKAGE-LEVEL VARIABLES READ AS WHEN THE CALL BEGINS. Each datum BY PROGRAM (the guide's laid-datum.mjs) off the statement by which the dump's own 'gosem.cut.vars' lays the variable. In a bare row this is a premise. The card (YtkglpbaapekgnaaDoorCards.lean) ties it to the program's text. -/
def laid_loop_example_soughtstreams_impl_layout {H : Type} : DataW H := .agg [.agg [.lit (.int .i64 1), .lit (.int .i64 181), .lit (.int .i64 181)], .agg [.lit (.int .i64 1), .lit (.int .i64 0), .lit (.int .i64 1)], .agg [.lit (.int .i64 2), .lit (.int .i64 0), .lit (.int .i64 39)], .agg [.lit (.int .i64 2), .lit (.int .i64 1), .lit (.int .i64 64)], .agg [.lit (.int .i64 2), .lit (.int .i64 1), .lit (.int .i64 64)]]
def laid_loop_example_soughtstreams_impl_errBroken {H : Type} : DataW H := .iface "*errors.errorString" (.ptr (.agg [.lit (.string [116, 104, 101, 114, 101, 32, 105, 115, 32, 110, 111, 32, 98, 108, 111, 99, 107])]))
def laid_loop_example_soughtstreams_impl_errNumber {H : Type} : DataW H := .iface "*errors.errorString" (.ptr (.agg [.lit (.string [97, 32, 98, 108, 111, 99, 107, 32, 104, 97, 115, 32, 97, 32, 119, 114, 111, 110, 103, 32, 110, 117, 109, 98, 101, 114])]))
def laid_loop_example_soughtstreams_impl_errLong {H : Type} : DataW H := .iface "*errors.errorString" (.ptr (.agg [.lit (.string [116, 104, 101, 32, 98, 108, 111, 99, 107, 115, 32, 104, 97, 118, 101, 32, 116, 111, 111, 32, 109, 117, 99, 104, 32, 100, 97, 116, 97])]))

/-- 'laws.FnExactFormatBlock': WHATEVER THE INPUT: true; the input reads as it did. -/
def fnExactFormatBlockSpec : ChangeSpec := { name := "fnExactFormatBlock", vars := ["loop.example/soughtstreams/impl.layout"], fn := fun _ => fun
  | [d, g1] => { results := [.lit (.bool true)], args := [d], vars := [g1] }
  | _ => none }
def fnExactFormatBlockRow : OpenClaim := { program := "ytkglpbaapekgnaadoor", sum := "397e49a13269384668175248f51dfd535512feef90faf067fe5ecdbd553c03d8", func := "loop.example/soughtstreams/laws.FnExactFormatBlock", spec := "fnExactFormatBlock", named := ["loop.example/soughtstreams/impl.layout"], apart := false, laid := [("loop.example/soughtstreams/impl.layout", laid_loop_example_soughtstreams_impl_layout)] }
def FnExactFormatBlockSaid : Prop := fnExactFormatBlockRow.holds Tryd.pinned (OpenSpec.ofChange fnExactFormatBlockSpec)

/-- ITS FALSE NEIGHBOUR: 'it returns false'. Refute it at one input. -/
def fnExactFormatBlockWrong : ChangeSpec := { name := "fnExactFormatBlock", vars := ["loop.example/soughtstreams/impl.layout"], fn := fun _ => fun
  | [d, g1] => { results := [.lit (.bool false)], args := [d], vars := [g1] }
  | _ => none }
def FnExactFormatBlockWrongFalsely : Prop := fnExactFormatBlockRow.holds Tryd.pinned (OpenSpec.ofChange fnExactFormatBlockWrong)

/-- 'laws.FnExactContainerSize': WHATEVER THE INPUT: true; the input reads as it did. -/
def fnExactContainerSizeSpec : ChangeSpec := { name := "fnExactContainerSize", vars := ["loop.example/soughtstreams/impl.errNumber", "loop.example/soughtstreams/impl.errLong", "loop.example/soughtstreams/impl.errBroken", "loop.example/soughtstreams/impl.layout"], fn := fun _ => fun
  | [d, g1, g2, g3, g4] => { results := [.lit (.bool true)], args := [d], vars := [g1, g2, g3, g4] }
  | _ => none }
def fnExactContainerSizeRow : OpenClaim := { program := "ytkglpbaapekgnaadoor", sum := "397e49a13269384668175248f51dfd535512feef90faf067fe5ecdbd553c03d8", func := "loop.example/soughtstreams/laws.FnExactContainerSize", spec := "fnExactContainerSize", named := ["loop.example/soughtstreams/impl.errNumber", "loop.example/soughtstreams/impl.errLong", "loop.example/soughtstreams/impl.errBroken", "loop.example/soughtstreams/impl.layout"], ifaces := true, apart := false, laid := [("loop.example/soughtstreams/impl.errBroken", laid_loop_example_soughtstreams_impl_errBroken), ("loop.example/soughtstreams/impl.errNumber", laid_loop_example_soughtstreams_impl_errNumber), ("loop.example/soughtstreams/impl.errLong", laid_loop_example_soughtstreams_impl_errLong), ("loop.example/soughtstreams/impl.layout", laid_loop_example_soughtstreams_impl_layout)] }
def FnExactContainerSizeSaid : Prop := fnExactContainerSizeRow.holds Tryd.pinned (OpenSpec.ofChange fnExactContainerSizeSpec)

/-- ITS FALSE NEIGHBOUR: 'it returns false'. Refute it at one input. -/
def fnExactContainerSizeWrong : ChangeSpec := { name := "fnExactContainerSize", vars := ["loop.example/soughtstreams/impl.errNumber", "loop.example/soughtstreams/impl.errLong", "loop.example/soughtstreams/impl.errBroken", "loop.example/soughtstreams/impl.layout"], fn := fun _ => fun
  | [d, g1, g2, g3, g4] => { results := [.lit (.bool false)], args := [d], vars := [g1, g2, g3, g4] }
  | _ => none }
def FnExactContainerSizeWrongFalsely : Prop := fnExactContainerSizeRow.holds Tryd.pinned (OpenSpec.ofChange fnExactContainerSizeWrong)

/-- 'laws.FnExactCountRaw': WHATEVER THE INPUT: true; the input reads as it did. -/
def fnExactCountRawSpec : ChangeSpec := { name := "fnExactCountRaw", vars := ["loop.example/soughtstreams/impl.errNumber", "loop.example/soughtstreams/impl.errLong", "loop.example/soughtstreams/impl.errBroken", "loop.example/soughtstreams/impl.layout"], fn := fun _ => fun
  | [d, g1, g2, g3, g4] => { results := [.lit (.bool true)], args := [d], vars := [g1, g2, g3, g4] }
  | _ => none }
def fnExactCountRawRow : OpenClaim := { program := "ytkglpbaapekgnaadoor", sum := "397e49a13269384668175248f51dfd535512feef90faf067fe5ecdbd553c03d8", func := "loop.example/soughtstreams/laws.FnExactCountRaw", spec := "fnExactCountRaw", named := ["loop.example/soughtstreams/impl.errNumber", "loop.example/soughtstreams/impl.errLong", "loop.example/soughtstreams/impl.errBroken", "loop.example/soughtstreams/impl.layout"], ifaces := true, apart := false, laid := [("loop.example/soughtstreams/impl.errBroken", laid_loop_example_soughtstreams_impl_errBroken), ("loop.example/soughtstreams/impl.errNumber", laid_loop_example_soughtstreams_impl_errNumber), ("loop.example/soughtstreams/impl.errLong", laid_loop_example_soughtstreams_impl_errLong), ("loop.example/soughtstreams/impl.layout", laid_loop_example_soughtstreams_impl_layout)] }
def FnExactCountRawSaid : Prop := fnExactCountRawRow.holds Tryd.pinned (OpenSpec.ofChange fnExactCountRawSpec)

/-- ITS FALSE NEIGHBOUR: 'it returns false'. Refute it at one input. -/
def fnExactCountRawWrong : ChangeSpec := { name := "fnExactCountRaw", vars := ["loop.example/soughtstreams/impl.errNumber", "loop.example/soughtstreams/impl.errLong", "loop.example/soughtstreams/impl.errBroken", "loop.example/soughtstreams/impl.layout"], fn := fun _ => fun
  | [d, g1, g2, g3, g4] => { results := [.lit (.bool false)], args := [d], vars := [g1, g2, g3, g4] }
  | _ => none }
def FnExactCountRawWrongFalsely : Prop := fnExactCountRawRow.holds Tryd.pinned (OpenSpec.ofChange fnExactCountRawWrong)

/-- 'laws.FnExactIndexOf': WHATEVER THE INPUT: true; the input reads as it did. -/
def fnExactIndexOfSpec : ChangeSpec := { name := "fnExactIndexOf", vars := ["loop.example/soughtstreams/impl.errNumber", "loop.example/soughtstreams/impl.errLong", "loop.example/soughtstreams/impl.errBroken", "loop.example/soughtstreams/impl.layout"], fn := fun _ => fun
  | [d, g1, g2, g3, g4] => { results := [.lit (.bool true)], args := [d], vars := [g1, g2, g3, g4] }
  | _ => none }
def fnExactIndexOfRow : OpenClaim := { program := "ytkglpbaapekgnaadoor", sum := "397e49a13269384668175248f51dfd535512feef90faf067fe5ecdbd553c03d8", func := "loop.example/soughtstreams/laws.FnExactIndexOf", spec := "fnExactIndexOf", named := ["loop.example/soughtstreams/impl.errNumber", "loop.example/soughtstreams/impl.errLong", "loop.example/soughtstreams/impl.errBroken", "loop.example/soughtstreams/impl.layout"], ifaces := true, apart := false, laid := [("loop.example/soughtstreams/impl.errBroken", laid_loop_example_soughtstreams_impl_errBroken), ("loop.example/soughtstreams/impl.errNumber", laid_loop_example_soughtstreams_impl_errNumber), ("loop.example/soughtstreams/impl.errLong", laid_loop_example_soughtstreams_impl_errLong), ("loop.example/soughtstreams/impl.layout", laid_loop_example_soughtstreams_impl_layout)] }
def FnExactIndexOfSaid : Prop := fnExactIndexOfRow.holds Tryd.pinned (OpenSpec.ofChange fnExactIndexOfSpec)

/-- ITS FALSE NEIGHBOUR: 'it returns false'. Refute it at one input. -/
def fnExactIndexOfWrong : ChangeSpec := { name := "fnExactIndexOf", vars := ["loop.example/soughtstreams/impl.errNumber", "loop.example/soughtstreams/impl.errLong", "loop.example/soughtstreams/impl.errBroken", "loop.example/soughtstreams/impl.layout"], fn := fun _ => fun
  | [d, g1, g2, g3, g4] => { results := [.lit (.bool false)], args := [d], vars := [g1, g2, g3, g4] }
  | _ => none }
def FnExactIndexOfWrongFalsely : Prop := fnExactIndexOfRow.holds Tryd.pinned (OpenSpec.ofChange fnExactIndexOfWrong)

/-- 'laws.FnExactContainerBlocks': WHATEVER THE INPUT: true; the input reads as it did. -/
def fnExactContainerBlocksSpec : ChangeSpec := { name := "fnExactContainerBlocks", vars := ["loop.example/soughtstreams/impl.errNumber", "loop.example/soughtstreams/impl.errLong", "loop.example/soughtstreams/impl.errBroken", "loop.example/soughtstreams/impl.layout"], fn := fun _ => fun
  | [d, g1, g2, g3, g4] => { results := [.lit (.bool true)], args := [d], vars := [g1, g2, g3, g4] }
  | _ => none }
def fnExactContainerBlocksRow : OpenClaim := { program := "ytkglpbaapekgnaadoor", sum := "397e49a13269384668175248f51dfd535512feef90faf067fe5ecdbd553c03d8", func := "loop.example/soughtstreams/laws.FnExactContainerBlocks", spec := "fnExactContainerBlocks", named := ["loop.example/soughtstreams/impl.errNumber", "loop.example/soughtstreams/impl.errLong", "loop.example/soughtstreams/impl.errBroken", "loop.example/soughtstreams/impl.layout"], ifaces := true, apart := false, laid := [("loop.example/soughtstreams/impl.errBroken", laid_loop_example_soughtstreams_impl_errBroken), ("loop.example/soughtstreams/impl.errNumber", laid_loop_example_soughtstreams_impl_errNumber), ("loop.example/soughtstreams/impl.errLong", laid_loop_example_soughtstreams_impl_errLong), ("loop.example/soughtstreams/impl.layout", laid_loop_example_soughtstreams_impl_layout)] }
def FnExactContainerBlocksSaid : Prop := fnExactContainerBlocksRow.holds Tryd.pinned (OpenSpec.ofChange fnExactContainerBlocksSpec)

/-- ITS FALSE NEIGHBOUR: 'it returns false'. Refute it at one input. -/
def fnExactContainerBlocksWrong : ChangeSpec := { name := "fnExactContainerBlocks", vars := ["loop.example/soughtstreams/impl.errNumber", "loop.example/soughtstreams/impl.errLong", "loop.example/soughtstreams/impl.errBroken", "loop.example/soughtstreams/impl.layout"], fn := fun _ => fun
  | [d, g1, g2, g3, g4] => { results := [.lit (.bool false)], args := [d], vars := [g1, g2, g3, g4] }
  | _ => none }
def FnExactContainerBlocksWrongFalsely : Prop := fnExactContainerBlocksRow.holds Tryd.pinned (OpenSpec.ofChange fnExactContainerBlocksWrong)

/-- 'laws.FnExactTouchedBlocks': WHATEVER THE INPUT: true; the input reads as it did. -/
def fnExactTouchedBlocksSpec : ChangeSpec := { name := "fnExactTouchedBlocks", vars := ["loop.example/soughtstreams/impl.errNumber", "loop.example/soughtstreams/impl.errLong", "loop.example/soughtstreams/impl.errBroken", "loop.example/soughtstreams/impl.layout"], fn := fun _ => fun
  | [d1, d2, d3, g1, g2, g3, g4] => { results := [.lit (.bool true)], args := [d1, d2, d3], vars := [g1, g2, g3, g4] }
  | _ => none }
def fnExactTouchedBlocksRow : OpenClaim := { program := "ytkglpbaapekgnaadoor", sum := "397e49a13269384668175248f51dfd535512feef90faf067fe5ecdbd553c03d8", func := "loop.example/soughtstreams/laws.FnExactTouchedBlocks", spec := "fnExactTouchedBlocks", named := ["loop.example/soughtstreams/impl.errNumber", "loop.example/soughtstreams/impl.errLong", "loop.example/soughtstreams/impl.errBroken", "loop.example/soughtstreams/impl.layout"], ifaces := true, apart := false, laid := [("loop.example/soughtstreams/impl.errBroken", laid_loop_example_soughtstreams_impl_errBroken), ("loop.example/soughtstreams/impl.errNumber", laid_loop_example_soughtstreams_impl_errNumber), ("loop.example/soughtstreams/impl.errLong", laid_loop_example_soughtstreams_impl_errLong), ("loop.example/soughtstreams/impl.layout", laid_loop_example_soughtstreams_impl_layout)] }
def FnExactTouchedBlocksSaid : Prop := fnExactTouchedBlocksRow.holds Tryd.pinned (OpenSpec.ofChange fnExactTouchedBlocksSpec)

/-- ITS FALSE NEIGHBOUR: 'it returns false'. Refute it at one input. -/
def fnExactTouchedBlocksWrong : ChangeSpec := { name := "fnExactTouchedBlocks", vars := ["loop.example/soughtstreams/impl.errNumber", "loop.example/soughtstreams/impl.errLong", "loop.example/soughtstreams/impl.errBroken", "loop.example/soughtstreams/impl.layout"], fn := fun _ => fun
  | [d1, d2, d3, g1, g2, g3, g4] => { results := [.lit (.bool false)], args := [d1, d2, d3], vars := [g1, g2, g3, g4] }
  | _ => none }
def FnExactTouchedBlocksWrongFalsely : Prop := fnExactTouchedBlocksRow.holds Tryd.pinned (OpenSpec.ofChange fnExactTouchedBlocksWrong)

/-- 'laws.FnExactJoinContainers': WHATEVER THE INPUT: true; the input reads as it did. -/
def fnExactJoinContainersSpec : ChangeSpec := { name := "fnExactJoinContainers", vars := ["loop.example/soughtstreams/impl.errNumber", "loop.example/soughtstreams/impl.errLong", "loop.example/soughtstreams/impl.errBroken", "loop.example/soughtstreams/impl.layout"], fn := fun _ => fun
  | [d1, d2, g1, g2, g3, g4] => { results := [.lit (.bool true)], args := [d1, d2], vars := [g1, g2, g3, g4] }
  | _ => none }
def fnExactJoinContainersRow : OpenClaim := { program := "ytkglpbaapekgnaadoor", sum := "397e49a13269384668175248f51dfd535512feef90faf067fe5ecdbd553c03d8", func := "loop.example/soughtstreams/laws.FnExactJoinContainers", spec := "fnExactJoinContainers", unfollowed := true, recurses := true, named := ["loop.example/soughtstreams/impl.errNumber", "loop.example/soughtstreams/impl.errLong", "loop.example/soughtstreams/impl.errBroken", "loop.example/soughtstreams/impl.layout"], ifaces := true, apart := false, laid := [("loop.example/soughtstreams/impl.errBroken", laid_loop_example_soughtstreams_impl_errBroken), ("loop.example/soughtstreams/impl.errNumber", laid_loop_example_soughtstreams_impl_errNumber), ("loop.example/soughtstreams/impl.errLong", laid_loop_example_soughtstreams_impl_errLong), ("loop.example/soughtstreams/impl.layout", laid_loop_example_soughtstreams_impl_layout)] }
def FnExactJoinContainersSaid : Prop := fnExactJoinContainersRow.holds Tryd.pinned (OpenSpec.ofChange fnExactJoinContainersSpec)

/-- ITS FALSE NEIGHBOUR: 'it returns false'. Refute it at one input. -/
def fnExactJoinContainersWrong : ChangeSpec := { name := "fnExactJoinContainers", vars := ["loop.example/soughtstreams/impl.errNumber", "loop.example/soughtstreams/impl.errLong", "loop.example/soughtstreams/impl.errBroken", "loop.example/soughtstreams/impl.layout"], fn := fun _ => fun
  | [d1, d2, g1, g2, g3, g4] => { results := [.lit (.bool false)], args := [d1, d2], vars := [g1, g2, g3, g4] }
  | _ => none }
def FnExactJoinContainersWrongFalsely : Prop := fnExactJoinContainersRow.holds Tryd.pinned (OpenSpec.ofChange fnExactJoinContainersWrong)

/-- 'laws.FnExactTakeBlocks': WHATEVER THE INPUT: true; the input reads as it did. -/
def fnExactTakeBlocksSpec : ChangeSpec := { name := "fnExactTakeBlocks", vars := ["loop.example/soughtstreams/impl.errNumber", "loop.example/soughtstreams/impl.errLong", "loop.example/soughtstreams/impl.errBroken", "loop.example/soughtstreams/impl.layout"], fn := fun _ => fun
  | [d1, d2, d3, g1, g2, g3, g4] => { results := [.lit (.bool true)], args := [d1, d2, d3], vars := [g1, g2, g3, g4] }
  | _ => none }
def fnExactTakeBlocksRow : OpenClaim := { program := "ytkglpbaapekgnaadoor", sum := "397e49a13269384668175248f51dfd535512feef90faf067fe5ecdbd553c03d8", func := "loop.example/soughtstreams/laws.FnExactTakeBlocks", spec := "fnExactTakeBlocks", unfollowed := true, recurses := true, named := ["loop.example/soughtstreams/impl.errNumber", "loop.example/soughtstreams/impl.errLong", "loop.example/soughtstreams/impl.errBroken", "loop.example/soughtstreams/impl.layout"], ifaces := true, apart := false, laid := [("loop.example/soughtstreams/impl.errBroken", laid_loop_example_soughtstreams_impl_errBroken), ("loop.example/soughtstreams/impl.errNumber", laid_loop_example_soughtstreams_impl_errNumber), ("loop.example/soughtstreams/impl.errLong", laid_loop_example_soughtstreams_impl_errLong), ("loop.example/soughtstreams/impl.layout", laid_loop_example_soughtstreams_impl_layout)] }
def FnExactTakeBlocksSaid : Prop := fnExactTakeBlocksRow.holds Tryd.pinned (OpenSpec.ofChange fnExactTakeBlocksSpec)

/-- ITS FALSE NEIGHBOUR: 'it returns false'. Refute it at one input. -/
def fnExactTakeBlocksWrong : ChangeSpec := { name := "fnExactTakeBlocks", vars := ["loop.example/soughtstreams/impl.errNumber", "loop.example/soughtstreams/impl.errLong", "loop.example/soughtstreams/impl.errBroken", "loop.example/soughtstreams/impl.layout"], fn := fun _ => fun
  | [d1, d2, d3, g1, g2, g3, g4] => { results := [.lit (.bool false)], args := [d1, d2, d3], vars := [g1, g2, g3, g4] }
  | _ => none }
def FnExactTakeBlocksWrongFalsely : Prop := fnExactTakeBlocksRow.holds Tryd.pinned (OpenSpec.ofChange fnExactTakeBlocksWrong)

/-- 'laws.FnExactSameBlocks': WHATEVER THE INPUT: true; the input reads as it did. -/
def fnExactSameBlocksSpec : ChangeSpec := { name := "fnExactSameBlocks", vars := ["loop.example/soughtstreams/impl.errNumber", "loop.example/soughtstreams/impl.errLong", "loop.example/soughtstreams/impl.errBroken", "loop.example/soughtstreams/impl.layout"], fn := fun _ => fun
  | [d1, d2, g1, g2, g3, g4] => { results := [.lit (.bool true)], args := [d1, d2], vars := [g1, g2, g3, g4] }
  | _ => none }
def fnExactSameBlocksRow : OpenClaim := { program := "ytkglpbaapekgnaadoor", sum := "397e49a13269384668175248f51dfd535512feef90faf067fe5ecdbd553c03d8", func := "loop.example/soughtstreams/laws.FnExactSameBlocks", spec := "fnExactSameBlocks", unfollowed := true, recurses := true, named := ["loop.example/soughtstreams/impl.errNumber", "loop.example/soughtstreams/impl.errLong", "loop.example/soughtstreams/impl.errBroken", "loop.example/soughtstreams/impl.layout"], ifaces := true, apart := false, laid := [("loop.example/soughtstreams/impl.errBroken", laid_loop_example_soughtstreams_impl_errBroken), ("loop.example/soughtstreams/impl.errNumber", laid_loop_example_soughtstreams_impl_errNumber), ("loop.example/soughtstreams/impl.errLong", laid_loop_example_soughtstreams_impl_errLong), ("loop.example/soughtstreams/impl.layout", laid_loop_example_soughtstreams_impl_layout)] }
def FnExactSameBlocksSaid : Prop := fnExactSameBlocksRow.holds Tryd.pinned (OpenSpec.ofChange fnExactSameBlocksSpec)

/-- ITS FALSE NEIGHBOUR: 'it returns false'. Refute it at one input. -/
def fnExactSameBlocksWrong : ChangeSpec := { name := "fnExactSameBlocks", vars := ["loop.example/soughtstreams/impl.errNumber", "loop.example/soughtstreams/impl.errLong", "loop.example/soughtstreams/impl.errBroken", "loop.example/soughtstreams/impl.layout"], fn := fun _ => fun
  | [d1, d2, g1, g2, g3, g4] => { results := [.lit (.bool false)], args := [d1, d2], vars := [g1, g2, g3, g4] }
  | _ => none }
def FnExactSameBlocksWrongFalsely : Prop := fnExactSameBlocksRow.holds Tryd.pinned (OpenSpec.ofChange fnExactSameBlocksWrong)

/-- 'laws.FnExactShuffleBlocks': WHATEVER THE INPUT: true; the input reads as it did. -/
def fnExactShuffleBlocksSpec : ChangeSpec := { name := "fnExactShuffleBlocks", vars := ["loop.example/soughtstreams/impl.errNumber", "loop.example/soughtstreams/impl.errLong", "loop.example/soughtstreams/impl.errBroken", "loop.example/soughtstreams/impl.layout"], fn := fun _ => fun
  | [d1, d2, g1, g2, g3, g4] => { results := [.lit (.bool true)], args := [d1, d2], vars := [g1, g2, g3, g4] }
  | _ => none }
def fnExactShuffleBlocksRow : OpenClaim := { program := "ytkglpbaapekgnaadoor", sum := "397e49a13269384668175248f51dfd535512feef90faf067fe5ecdbd553c03d8", func := "loop.example/soughtstreams/laws.FnExactShuffleBlocks", spec := "fnExactShuffleBlocks", named := ["loop.example/soughtstreams/impl.errNumber", "loop.example/soughtstreams/impl.errLong", "loop.example/soughtstreams/impl.errBroken", "loop.example/soughtstreams/impl.layout"], ifaces := true, apart := false, laid := [("loop.example/soughtstreams/impl.errBroken", laid_loop_example_soughtstreams_impl_errBroken), ("loop.example/soughtstreams/impl.errNumber", laid_loop_example_soughtstreams_impl_errNumber), ("loop.example/soughtstreams/impl.errLong", laid_loop_example_soughtstreams_impl_errLong), ("loop.example/soughtstreams/impl.layout", laid_loop_example_soughtstreams_impl_layout)] }
def FnExactShuffleBlocksSaid : Prop := fnExactShuffleBlocksRow.holds Tryd.pinned (OpenSpec.ofChange fnExactShuffleBlocksSpec)

/-- ITS FALSE NEIGHBOUR: 'it returns false'. Refute it at one input. -/
def fnExactShuffleBlocksWrong : ChangeSpec := { name := "fnExactShuffleBlocks", vars := ["loop.example/soughtstreams/impl.errNumber", "loop.example/soughtstreams/impl.errLong", "loop.example/soughtstreams/impl.errBroken", "loop.example/soughtstreams/impl.layout"], fn := fun _ => fun
  | [d1, d2, g1, g2, g3, g4] => { results := [.lit (.bool false)], args := [d1, d2], vars := [g1, g2, g3, g4] }
  | _ => none }
def FnExactShuffleBlocksWrongFalsely : Prop := fnExactShuffleBlocksRow.holds Tryd.pinned (OpenSpec.ofChange fnExactShuffleBlocksWrong)

/- THE SECOND FORM. 'bulk': how many values and letters a reading holds, each counted each time it is reached (what is shared counts as often as it is met; a slice's spare places count too). A statement '..UptoSaid' is the law's where the arguments, and the package variables that the reading takes, are together of bulk at most 1048576: NARROWER than '..Said'. Prove '..Said' where nothing that the law and all that it calls make is longer than what came in: it says more and counts as full. Else prove '..UptoSaid'. A law counts once. -/
mutual
def uptoBulk {H : Type} : DataW H → Nat
  | .lit (.string bytes) => bytes.length + 1
  | .lit _ => 1
  | .nil => 1
  | .ptr d => uptoBulk d + 1
  | .slice elems spare => uptoBulkAll elems + uptoBulkAll spare + 1
  | .agg parts => uptoBulkAll parts + 1
  | .iface _ d => uptoBulk d + 1
  | .map entries => uptoBulkEntries entries + 1
  | .held _ => 1
def uptoBulkAll {H : Type} : List (DataW H) → Nat
  | [] => 0
  | d :: r => uptoBulk d + uptoBulkAll r
def uptoBulkEntries {H : Type} : List (Lit × DataW H) → Nat
  | [] => 0
  | x :: r => uptoBulkEntry x + uptoBulkEntries r
def uptoBulkEntry {H : Type} : Lit × DataW H → Nat
  | (.string bytes, d) => bytes.length + uptoBulk d + 1
  | (_, d) => uptoBulk d + 1
 end
def uptoSmall : (H : Type) → List (DataW H) → Bool := fun _ ds => decide (uptoBulkAll ds ≤ 1048576)
def OpenSpec.upto (s : _root_.Go.ChangeSpec) : _root_.Go.OpenSpec := { _root_.Go.OpenSpec.ofChange s with cond := some uptoSmall }

/-- 'laws.FnExactFormatBlock', WHERE WHAT IT READS IS OF BULK AT MOST 1048576: true; the input reads as it did. -/
def fnExactFormatBlockUptoRow : OpenClaim := { program := "ytkglpbaapekgnaadoor", sum := "397e49a13269384668175248f51dfd535512feef90faf067fe5ecdbd553c03d8", func := "loop.example/soughtstreams/laws.FnExactFormatBlock", spec := "fnExactFormatBlock", named := ["loop.example/soughtstreams/impl.layout"], apart := false, laid := [("loop.example/soughtstreams/impl.layout", laid_loop_example_soughtstreams_impl_layout)], narrowed := true }
def FnExactFormatBlockUptoSaid : Prop := fnExactFormatBlockUptoRow.holds Tryd.pinned (OpenSpec.upto fnExactFormatBlockSpec)

/-- 'laws.FnExactContainerSize', WHERE WHAT IT READS IS OF BULK AT MOST 1048576: true; the input reads as it did. -/
def fnExactContainerSizeUptoRow : OpenClaim := { program := "ytkglpbaapekgnaadoor", sum := "397e49a13269384668175248f51dfd535512feef90faf067fe5ecdbd553c03d8", func := "loop.example/soughtstreams/laws.FnExactContainerSize", spec := "fnExactContainerSize", named := ["loop.example/soughtstreams/impl.errNumber", "loop.example/soughtstreams/impl.errLong", "loop.example/soughtstreams/impl.errBroken", "loop.example/soughtstreams/impl.layout"], ifaces := true, apart := false, laid := [("loop.example/soughtstreams/impl.errBroken", laid_loop_example_soughtstreams_impl_errBroken), ("loop.example/soughtstreams/impl.errNumber", laid_loop_example_soughtstreams_impl_errNumber), ("loop.example/soughtstreams/impl.errLong", laid_loop_example_soughtstreams_impl_errLong), ("loop.example/soughtstreams/impl.layout", laid_loop_example_soughtstreams_impl_layout)], narrowed := true }
def FnExactContainerSizeUptoSaid : Prop := fnExactContainerSizeUptoRow.holds Tryd.pinned (OpenSpec.upto fnExactContainerSizeSpec)

/-- 'laws.FnExactCountRaw', WHERE WHAT IT READS IS OF BULK AT MOST 1048576: true; the input reads as it did. -/
def fnExactCountRawUptoRow : OpenClaim := { program := "ytkglpbaapekgnaadoor", sum := "397e49a13269384668175248f51dfd535512feef90faf067fe5ecdbd553c03d8", func := "loop.example/soughtstreams/laws.FnExactCountRaw", spec := "fnExactCountRaw", named := ["loop.example/soughtstreams/impl.errNumber", "loop.example/soughtstreams/impl.errLong", "loop.example/soughtstreams/impl.errBroken", "loop.example/soughtstreams/impl.layout"], ifaces := true, apart := false, laid := [("loop.example/soughtstreams/impl.errBroken", laid_loop_example_soughtstreams_impl_errBroken), ("loop.example/soughtstreams/impl.errNumber", laid_loop_example_soughtstreams_impl_errNumber), ("loop.example/soughtstreams/impl.errLong", laid_loop_example_soughtstreams_impl_errLong), ("loop.example/soughtstreams/impl.layout", laid_loop_example_soughtstreams_impl_layout)], narrowed := true }
def FnExactCountRawUptoSaid : Prop := fnExactCountRawUptoRow.holds Tryd.pinned (OpenSpec.upto fnExactCountRawSpec)

/-- 'laws.FnExactIndexOf', WHERE WHAT IT READS IS OF BULK AT MOST 1048576: true; the input reads as it did. -/
def fnExactIndexOfUptoRow : OpenClaim := { program := "ytkglpbaapekgnaadoor", sum := "397e49a13269384668175248f51dfd535512feef90faf067fe5ecdbd553c03d8", func := "loop.example/soughtstreams/laws.FnExactIndexOf", spec := "fnExactIndexOf", named := ["loop.example/soughtstreams/impl.errNumber", "loop.example/soughtstreams/impl.errLong", "loop.example/soughtstreams/impl.errBroken", "loop.example/soughtstreams/impl.layout"], ifaces := true, apart := false, laid := [("loop.example/soughtstreams/impl.errBroken", laid_loop_example_soughtstreams_impl_errBroken), ("loop.example/soughtstreams/impl.errNumber", laid_loop_example_soughtstreams_impl_errNumber), ("loop.example/soughtstreams/impl.errLong", laid_loop_example_soughtstreams_impl_errLong), ("loop.example/soughtstreams/impl.layout", laid_loop_example_soughtstreams_impl_layout)], narrowed := true }
def FnExactIndexOfUptoSaid : Prop := fnExactIndexOfUptoRow.holds Tryd.pinned (OpenSpec.upto fnExactIndexOfSpec)

/-- 'laws.FnExactContainerBlocks', WHERE WHAT IT READS IS OF BULK AT MOST 1048576: true; the input reads as it did. -/
def fnExactContainerBlocksUptoRow : OpenClaim := { program := "ytkglpbaapekgnaadoor", sum := "397e49a13269384668175248f51dfd535512feef90faf067fe5ecdbd553c03d8", func := "loop.example/soughtstreams/laws.FnExactContainerBlocks", spec := "fnExactContainerBlocks", named := ["loop.example/soughtstreams/impl.errNumber", "loop.example/soughtstreams/impl.errLong", "loop.example/soughtstreams/impl.errBroken", "loop.example/soughtstreams/impl.layout"], ifaces := true, apart := false, laid := [("loop.example/soughtstreams/impl.errBroken", laid_loop_example_soughtstreams_impl_errBroken), ("loop.example/soughtstreams/impl.errNumber", laid_loop_example_soughtstreams_impl_errNumber), ("loop.example/soughtstreams/impl.errLong", laid_loop_example_soughtstreams_impl_errLong), ("loop.example/soughtstreams/impl.layout", laid_loop_example_soughtstreams_impl_layout)], narrowed := true }
def FnExactContainerBlocksUptoSaid : Prop := fnExactContainerBlocksUptoRow.holds Tryd.pinned (OpenSpec.upto fnExactContainerBlocksSpec)

/-- 'laws.FnExactTouchedBlocks', WHERE WHAT IT READS IS OF BULK AT MOST 1048576: true; the input reads as it did. -/
def fnExactTouchedBlocksUptoRow : OpenClaim := { program := "ytkglpbaapekgnaadoor", sum := "397e49a13269384668175248f51dfd535512feef90faf067fe5ecdbd553c03d8", func := "loop.example/soughtstreams/laws.FnExactTouchedBlocks", spec := "fnExactTouchedBlocks", named := ["loop.example/soughtstreams/impl.errNumber", "loop.example/soughtstreams/impl.errLong", "loop.example/soughtstreams/impl.errBroken", "loop.example/soughtstreams/impl.layout"], ifaces := true, apart := false, laid := [("loop.example/soughtstreams/impl.errBroken", laid_loop_example_soughtstreams_impl_errBroken), ("loop.example/soughtstreams/impl.errNumber", laid_loop_example_soughtstreams_impl_errNumber), ("loop.example/soughtstreams/impl.errLong", laid_loop_example_soughtstreams_impl_errLong), ("loop.example/soughtstreams/impl.layout", laid_loop_example_soughtstreams_impl_layout)], narrowed := true }
def FnExactTouchedBlocksUptoSaid : Prop := fnExactTouchedBlocksUptoRow.holds Tryd.pinned (OpenSpec.upto fnExactTouchedBlocksSpec)

/-- 'laws.FnExactJoinContainers', WHERE WHAT IT READS IS OF BULK AT MOST 1048576: true; the input reads as it did. -/
def fnExactJoinContainersUptoRow : OpenClaim := { program := "ytkglpbaapekgnaadoor", sum := "397e49a13269384668175248f51dfd535512feef90faf067fe5ecdbd553c03d8", func := "loop.example/soughtstreams/laws.FnExactJoinContainers", spec := "fnExactJoinContainers", unfollowed := true, recurses := true, named := ["loop.example/soughtstreams/impl.errNumber", "loop.example/soughtstreams/impl.errLong", "loop.example/soughtstreams/impl.errBroken", "loop.example/soughtstreams/impl.layout"], ifaces := true, apart := false, laid := [("loop.example/soughtstreams/impl.errBroken", laid_loop_example_soughtstreams_impl_errBroken), ("loop.example/soughtstreams/impl.errNumber", laid_loop_example_soughtstreams_impl_errNumber), ("loop.example/soughtstreams/impl.errLong", laid_loop_example_soughtstreams_impl_errLong), ("loop.example/soughtstreams/impl.layout", laid_loop_example_soughtstreams_impl_layout)], narrowed := true }
def FnExactJoinContainersUptoSaid : Prop := fnExactJoinContainersUptoRow.holds Tryd.pinned (OpenSpec.upto fnExactJoinContainersSpec)

/-- 'laws.FnExactTakeBlocks', WHERE WHAT IT READS IS OF BULK AT MOST 1048576: true; the input reads as it did. -/
def fnExactTakeBlocksUptoRow : OpenClaim := { program := "ytkglpbaapekgnaadoor", sum := "397e49a13269384668175248f51dfd535512feef90faf067fe5ecdbd553c03d8", func := "loop.example/soughtstreams/laws.FnExactTakeBlocks", spec := "fnExactTakeBlocks", unfollowed := true, recurses := true, named := ["loop.example/soughtstreams/impl.errNumber", "loop.example/soughtstreams/impl.errLong", "loop.example/soughtstreams/impl.errBroken", "loop.example/soughtstreams/impl.layout"], ifaces := true, apart := false, laid := [("loop.example/soughtstreams/impl.errBroken", laid_loop_example_soughtstreams_impl_errBroken), ("loop.example/soughtstreams/impl.errNumber", laid_loop_example_soughtstreams_impl_errNumber), ("loop.example/soughtstreams/impl.errLong", laid_loop_example_soughtstreams_impl_errLong), ("loop.example/soughtstreams/impl.layout", laid_loop_example_soughtstreams_impl_layout)], narrowed := true }
def FnExactTakeBlocksUptoSaid : Prop := fnExactTakeBlocksUptoRow.holds Tryd.pinned (OpenSpec.upto fnExactTakeBlocksSpec)

/-- 'laws.FnExactSameBlocks', WHERE WHAT IT READS IS OF BULK AT MOST 1048576: true; the input reads as it did. -/
def fnExactSameBlocksUptoRow : OpenClaim := { program := "ytkglpbaapekgnaadoor", sum := "397e49a13269384668175248f51dfd535512feef90faf067fe5ecdbd553c03d8", func := "loop.example/soughtstreams/laws.FnExactSameBlocks", spec := "fnExactSameBlocks", unfollowed := true, recurses := true, named := ["loop.example/soughtstreams/impl.errNumber", "loop.example/soughtstreams/impl.errLong", "loop.example/soughtstreams/impl.errBroken", "loop.example/soughtstreams/impl.layout"], ifaces := true, apart := false, laid := [("loop.example/soughtstreams/impl.errBroken", laid_loop_example_soughtstreams_impl_errBroken), ("loop.example/soughtstreams/impl.errNumber", laid_loop_example_soughtstreams_impl_errNumber), ("loop.example/soughtstreams/impl.errLong", laid_loop_example_soughtstreams_impl_errLong), ("loop.example/soughtstreams/impl.layout", laid_loop_example_soughtstreams_impl_layout)], narrowed := true }
def FnExactSameBlocksUptoSaid : Prop := fnExactSameBlocksUptoRow.holds Tryd.pinned (OpenSpec.upto fnExactSameBlocksSpec)

/-- 'laws.FnExactShuffleBlocks', WHERE WHAT IT READS IS OF BULK AT MOST 1048576: true; the input reads as it did. -/
def fnExactShuffleBlocksUptoRow : OpenClaim := { program := "ytkglpbaapekgnaadoor", sum := "397e49a13269384668175248f51dfd535512feef90faf067fe5ecdbd553c03d8", func := "loop.example/soughtstreams/laws.FnExactShuffleBlocks", spec := "fnExactShuffleBlocks", named := ["loop.example/soughtstreams/impl.errNumber", "loop.example/soughtstreams/impl.errLong", "loop.example/soughtstreams/impl.errBroken", "loop.example/soughtstreams/impl.layout"], ifaces := true, apart := false, laid := [("loop.example/soughtstreams/impl.errBroken", laid_loop_example_soughtstreams_impl_errBroken), ("loop.example/soughtstreams/impl.errNumber", laid_loop_example_soughtstreams_impl_errNumber), ("loop.example/soughtstreams/impl.errLong", laid_loop_example_soughtstreams_impl_errLong), ("loop.example/soughtstreams/impl.layout", laid_loop_example_soughtstreams_impl_layout)], narrowed := true }
def FnExactShuffleBlocksUptoSaid : Prop := fnExactShuffleBlocksUptoRow.holds Tryd.pinned (OpenSpec.upto fnExactShuffleBlocksSpec)

end Rows
end Go.Proofs.YtkglpbaapekgnaaDoor
