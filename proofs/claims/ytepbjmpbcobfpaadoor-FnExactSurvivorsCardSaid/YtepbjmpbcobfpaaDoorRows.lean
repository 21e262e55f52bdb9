/-
  NARROWER THAN 'FOR EVERY INPUT', by the rows' own cells (each row's printed sentence says how): FnExactNextBlock: ifaces, laid · FnExactFindBlocks: ifaces, laid · FnExactSurvivors: ifaces, laid.
  DERIVED. THE GIVEN ROWS OF THIS SEAT. 3 by the template 'for every input the law returns true; each argument reads behind the call as it read before'; 0 by the template 'total and deterministic' (their statements: YtepbjmpbcobfpaaDoorTotals.lean).
  GIVEN WITH THE SEED: the statements are not yours to turn. If you find one false, say at which input.
  Laid BY PROGRAM, IN A SANDBOX (cutbox-rows.mjs): the forced cells as the released guide's own fill.sh prints them over the translation efee7ad9ea7ab42e… (all of the seat's roots in one cut). By AI agents, Wed Nov 11 2026. No macro, syntax, notation, axiom, sorry.
-/
import Derived.Test.YtepbjmpbcobfpaaDoorChecked
import GoSem.Claim
import GoSem.ClaimJoined
import GoSem.ClaimMapViews
import Derived.JoinedTies
import Derived.KernelRfl
namespace Go.Proofs.YtepbjmpbcobfpaaDoor
/- THE CELL 'sum', in the pinned program and in every row, IS THE sha256 OF THE DUMP (.gsa) THAT YtepbjmpbcobfpaaDoorProg.lean LOADS. Nothing in Lean hashes anything: it is a label: what it is worth is what the hold of that sum in a sandbox is worth. -/
noncomputable def Tryd.pinned : Pinned := { name := "ytepbjmpbcobfpaadoor", sum := "efee7ad9ea7ab42efedcf71c039bad3779ad36757949e260f92f2dd71d7a8bc7", checked := Tryd.checked }
namespace Rows
def none {H : Type} : Left H := { results := [], args := [] }

/- WHAT THE LISTED PACKAGE-LEVEL VARIABLES READ AS WHEN THE CALL BEGINS. Each datum BY PROGRAM (the guide's laid-datum.mjs) off the statement by which the dump's own 'gosem.cut.vars' lays the variable. In a bare row this is a premise. The card (YtepbjmpbcobfpaaDoorCards.lean) ties it to the program's text. -/
def laid_loop_example_soughtstreams_impl_errBroken {H : Type} : DataW H := .iface "*errors.errorString" (.ptr (.agg [.lit (.string [116, 104, 101, 114, 101, 32, 105, 115, 32, 110, 111, 32, 98, 108, 111, 99, 107])]))
def laid_loop_example_soughtstreams_impl_layout {H : Type} : DataW H := .agg [.agg [.lit (.int .i64 1), .lit (.int .i64 181), .lit (.int .i64 181)], .agg [.lit (.int .i64 1), .lit (.int .i64 0), .lit (.int .i64 1)], .agg [.lit (.int .i64 2), .lit (.int .i64 0), .lit (.int .i64 39)], .agg [.lit (.int .i64 2), .lit (.int .i64 1), .lit (.int .i64 64)], .agg [.lit (.int .i64 2), .lit (.int .i64 1), .lit (.int .i64 64)]]
def laid_loop_example_soughtstreams_impl_errNumber {H : Type} : DataW H := .iface "*errors.errorString" (.ptr (.agg [.lit (.string [97, 32, 98, 108, 111, 99, 107, 32, 104, 97, 115, 32, 97, 32, 119, 114, 111, 110, 103, 32, 110, 117, 109, 98, 101, 114])]))
def laid_loop_example_soughtstreams_impl_errLong {H : Type} : DataW H := .iface "*errors.errorString" (.ptr (.agg [.lit (.string [116, 104, 101, 32, 98, 108, 111, 99, 107, 115, 32, 104, 97, 118, 101, 32, 116, 111, 111, 32, 109, 117, 99, 104, 32, 100, 97, 116, 97])]))

/-- 'laws.FnExactNextBlock': WHATEVER THE INPUT: true; the input reads as it did. -/
def fnExactNextBlockSpec : ChangeSpec := { name := "fnExactNextBlock", vars := ["loop.example/soughtstreams/impl.errBroken", "loop.example/soughtstreams/impl.layout"], fn := fun _ => fun
  | [d1, d2, g1, g2] => { results := [.lit (.bool true)], args := [d1, d2], vars := [g1, g2] }
  | _ => none }
def fnExactNextBlockRow : OpenClaim := { program := "ytepbjmpbcobfpaadoor", sum := "efee7ad9ea7ab42efedcf71c039bad3779ad36757949e260f92f2dd71d7a8bc7", func := "loop.example/soughtstreams/laws.FnExactNextBlock", spec := "fnExactNextBlock", inPlace := ["internal/bytealg.IndexByteString"], named := ["loop.example/soughtstreams/impl.errBroken", "loop.example/soughtstreams/impl.layout"], ifaces := true, apart := false, laid := [("loop.example/soughtstreams/impl.errBroken", laid_loop_example_soughtstreams_impl_errBroken), ("loop.example/soughtstreams/impl.layout", laid_loop_example_soughtstreams_impl_layout)] }
def FnExactNextBlockSaid : Prop := fnExactNextBlockRow.holds Tryd.pinned (OpenSpec.ofChange fnExactNextBlockSpec)

/-- ITS FALSE NEIGHBOUR: 'it returns false'. Refute it at one input. -/
def fnExactNextBlockWrong : ChangeSpec := { name := "fnExactNextBlock", vars := ["loop.example/soughtstreams/impl.errBroken", "loop.example/soughtstreams/impl.layout"], fn := fun _ => fun
  | [d1, d2, g1, g2] => { results := [.lit (.bool false)], args := [d1, d2], vars := [g1, g2] }
  | _ => none }
def FnExactNextBlockWrongFalsely : Prop := fnExactNextBlockRow.holds Tryd.pinned (OpenSpec.ofChange fnExactNextBlockWrong)

/-- 'laws.FnExactFindBlocks': WHATEVER THE INPUT: true; the input reads as it did. -/
def fnExactFindBlocksSpec : ChangeSpec := { name := "fnExactFindBlocks", vars := ["loop.example/soughtstreams/impl.errBroken", "loop.example/soughtstreams/impl.layout"], fn := fun _ => fun
  | [d, g1, g2] => { results := [.lit (.bool true)], args := [d], vars := [g1, g2] }
  | _ => none }
def fnExactFindBlocksRow : OpenClaim := { program := "ytepbjmpbcobfpaadoor", sum := "efee7ad9ea7ab42efedcf71c039bad3779ad36757949e260f92f2dd71d7a8bc7", func := "loop.example/soughtstreams/laws.FnExactFindBlocks", spec := "fnExactFindBlocks", inPlace := ["internal/bytealg.IndexByteString"], named := ["loop.example/soughtstreams/impl.errBroken", "loop.example/soughtstreams/impl.layout"], ifaces := true, apart := false, laid := [("loop.example/soughtstreams/impl.errBroken", laid_loop_example_soughtstreams_impl_errBroken), ("loop.example/soughtstreams/impl.layout", laid_loop_example_soughtstreams_impl_layout)] }
def FnExactFindBlocksSaid : Prop := fnExactFindBlocksRow.holds Tryd.pinned (OpenSpec.ofChange fnExactFindBlocksSpec)

/-- ITS FALSE NEIGHBOUR: 'it returns false'. Refute it at one input. -/
def fnExactFindBlocksWrong : ChangeSpec := { name := "fnExactFindBlocks", vars := ["loop.example/soughtstreams/impl.errBroken", "loop.example/soughtstreams/impl.layout"], fn := fun _ => fun
  | [d, g1, g2] => { results := [.lit (.bool false)], args := [d], vars := [g1, g2] }
  | _ => none }
def FnExactFindBlocksWrongFalsely : Prop := fnExactFindBlocksRow.holds Tryd.pinned (OpenSpec.ofChange fnExactFindBlocksWrong)

/-- 'laws.FnExactSurvivors': WHATEVER THE INPUT: true; the input reads as it did. -/
def fnExactSurvivorsSpec : ChangeSpec := { name := "fnExactSurvivors", vars := ["loop.example/soughtstreams/impl.errNumber", "loop.example/soughtstreams/impl.errLong", "loop.example/soughtstreams/impl.errBroken", "loop.example/soughtstreams/impl.layout"], fn := fun _ => fun
  | [d1, d2, g1, g2, g3, g4] => { results := [.lit (.bool true)], args := [d1, d2], vars := [g1, g2, g3, g4] }
  | _ => none }
def fnExactSurvivorsRow : OpenClaim := { program := "ytepbjmpbcobfpaadoor", sum := "efee7ad9ea7ab42efedcf71c039bad3779ad36757949e260f92f2dd71d7a8bc7", func := "loop.example/soughtstreams/laws.FnExactSurvivors", spec := "fnExactSurvivors", inPlace := ["internal/bytealg.IndexByteString"], named := ["loop.example/soughtstreams/impl.errNumber", "loop.example/soughtstreams/impl.errLong", "loop.example/soughtstreams/impl.errBroken", "loop.example/soughtstreams/impl.layout"], ifaces := true, apart := false, laid := [("loop.example/soughtstreams/impl.errBroken", laid_loop_example_soughtstreams_impl_errBroken), ("loop.example/soughtstreams/impl.errNumber", laid_loop_example_soughtstreams_impl_errNumber), ("loop.example/soughtstreams/impl.errLong", laid_loop_example_soughtstreams_impl_errLong), ("loop.example/soughtstreams/impl.layout", laid_loop_example_soughtstreams_impl_layout)] }
def FnExactSurvivorsSaid : Prop := fnExactSurvivorsRow.holds Tryd.pinned (OpenSpec.ofChange fnExactSurvivorsSpec)

/-- ITS FALSE NEIGHBOUR: 'it returns false'. Refute it at one input. -/
def fnExactSurvivorsWrong : ChangeSpec := { name := "fnExactSurvivors", vars := ["loop.example/soughtstreams/impl.errNumber", "loop.example/soughtstreams/impl.errLong", "loop.example/soughtstreams/impl.errBroken", "loop.example/soughtstreams/impl.layout"], fn := fun _ => fun
  | [d1, d2, g1, g2, g3, g4] => { results := [.lit (.bool false)], args := [d1, d2], vars := [g1, g2, g3, g4] }
  | _ => none }
def FnExactSurvivorsWrongFalsely : Prop := fnExactSurvivorsRow.holds Tryd.pinned (OpenSpec.ofChange fnExactSurvivorsWrong)

/- THE SECOND FORM. 'bulk': how many values and letters a reading holds, each counted each time it is reached (what is shared counts as often as it is met; a slice's spare places count too). A statement '..UptoSaid' is the law's where the arguments, and the package variables that the reading takes, are together of bulk at most 1048576: NARROWER than '..Said'. Prove '..Said' where nothing that the law and all that it calls make is longer than what came in: it says more and counts as full. Else prove '..UptoSaid'. A law counts once. -/
mutual
def uptoBulk {H : Type} : DataW H → Nat
  | .lit (.string bytes) => bytes.length + 1
  | .lit _ => 1
  | .nil => 1
  | .ptr d => uptoBulk d + 1
  | .slice elems spare => uptoBulkAll elems + uptoBulkAll spare + 1
  | .agg parts => uptoBulkAll parts + 1
  | .iface _ d => uptoBulk d + 1
  | .map entries => uptoBulkEntries entries + 1
  | .held _ => 1
def uptoBulkAll {H : Type} : List (DataW H) → Nat
  | [] => 0
  | d :: r => uptoBulk d + uptoBulkAll r
def uptoBulkEntries {H : Type} : List (Lit × DataW H) → Nat
  | [] => 0
  | x :: r => uptoBulkEntry x + uptoBulkEntries r
def uptoBulkEntry {H : Type} : Lit × DataW H → Nat
  | (.string bytes, d) => bytes.length + uptoBulk d + 1
  | (_, d) => uptoBulk d + 1
 end
def uptoSmall : (H : Type) → List (DataW H) → Bool := fun _ ds => decide (uptoBulkAll ds ≤ 1048576)
def OpenSpec.upto (s : _root_.Go.ChangeSpec) : _root_.Go.OpenSpec := { _root_.Go.OpenSpec.ofChange s with cond := some uptoSmall }

/-- 'laws.FnExactNextBlock', WHERE WHAT IT READS IS OF BULK AT MOST 1048576: true; the input reads as it did. -/
def fnExactNextBlockUptoRow : OpenClaim := { program := "ytepbjmpbcobfpaadoor", sum := "efee7ad9ea7ab42efedcf71c039bad3779ad36757949e260f92f2dd71d7a8bc7", func := "loop.example/soughtstreams/laws.FnExactNextBlock", spec := "fnExactNextBlock", inPlace := ["internal/bytealg.IndexByteString"], named := ["loop.example/soughtstreams/impl.errBroken", "loop.example/soughtstreams/impl.layout"], ifaces := true, apart := false, laid := [("loop.example/soughtstreams/impl.errBroken", laid_loop_example_soughtstreams_impl_errBroken), ("loop.example/soughtstreams/impl.layout", laid_loop_example_soughtstreams_impl_layout)], narrowed := true }
def FnExactNextBlockUptoSaid : Prop := fnExactNextBlockUptoRow.holds Tryd.pinned (OpenSpec.upto fnExactNextBlockSpec)

/-- 'laws.FnExactFindBlocks', WHERE WHAT IT READS IS OF BULK AT MOST 1048576: true; the input reads as it did. -/
def fnExactFindBlocksUptoRow : OpenClaim := { program := "ytepbjmpbcobfpaadoor", sum := "efee7ad9ea7ab42efedcf71c039bad3779ad36757949e260f92f2dd71d7a8bc7", func := "loop.example/soughtstreams/laws.FnExactFindBlocks", spec := "fnExactFindBlocks", inPlace := ["internal/bytealg.IndexByteString"], named := ["loop.example/soughtstreams/impl.errBroken", "loop.example/soughtstreams/impl.layout"], ifaces := true, apart := false, laid := [("loop.example/soughtstreams/impl.errBroken", laid_loop_example_soughtstreams_impl_errBroken), ("loop.example/soughtstreams/impl.layout", laid_loop_example_soughtstreams_impl_layout)], narrowed := true }
def FnExactFindBlocksUptoSaid : Prop := fnExactFindBlocksUptoRow.holds Tryd.pinned (OpenSpec.upto fnExactFindBlocksSpec)

/-- 'laws.FnExactSurvivors', WHERE WHAT IT READS IS OF BULK AT MOST 1048576: true; the input reads as it did. -/
def fnExactSurvivorsUptoRow : OpenClaim := { program := "ytepbjmpbcobfpaadoor", sum := "efee7ad9ea7ab42efedcf71c039bad3779ad36757949e260f92f2dd71d7a8bc7", func := "loop.example/soughtstreams/laws.FnExactSurvivors", spec := "fnExactSurvivors", inPlace := ["internal/bytealg.IndexByteString"], named := ["loop.example/soughtstreams/impl.errNumber", "loop.example/soughtstreams/impl.errLong", "loop.example/soughtstreams/impl.errBroken", "loop.example/soughtstreams/impl.layout"], ifaces := true, apart := false, laid := [("loop.example/soughtstreams/impl.errBroken", laid_loop_example_soughtstreams_impl_errBroken), ("loop.example/soughtstreams/impl.errNumber", laid_loop_example_soughtstreams_impl_errNumber), ("loop.example/soughtstreams/impl.errLong", laid_loop_example_soughtstreams_impl_errLong), ("loop.example/soughtstreams/impl.layout", laid_loop_example_soughtstreams_impl_layout)], narrowed := true }
def FnExactSurvivorsUptoSaid : Prop := fnExactSurvivorsUptoRow.holds Tryd.pinned (OpenSpec.upto fnExactSurvivorsSpec)

end Rows
end Go.Proofs.YtepbjmpbcobfpaaDoor
