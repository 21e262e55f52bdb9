/-
  NARROWER THAN 'FOR EVERY INPUT', by the rows' own cells (each row's printed sentence says how): FnExactParseBlock: ifaces, laid · FnExactCheckContainer: ifaces, laid.
  DERIVED. THE GIVEN ROWS OF THIS SEAT. 2 by the template 'for every input the law returns true; each argument reads behind the call as it read before'; 0 by the template 'total and deterministic' (their statements: YtepbjmpbcobfpabDoorTotals.lean).
  GIVEN WITH THE SEED: the statements are not yours to turn. If you find one false, say at which input.
  Laid BY PROGRAM, IN A SANDBOX (cutbox-rows.mjs): the forced cells as the released guide's own fill.sh prints them over the translation 82b3b97d01f8d042… (all of the seat's roots in one cut). By AI agents, Wed Nov 11 2026. No macro, syntax, notation, axiom, sorry.
-/
import Derived.Test.YtepbjmpbcobfpabDoorChecked
import GoSem.Claim
import GoSem.ClaimJoined
import GoSem.ClaimMapViews
import Derived.JoinedTies
import Derived.KernelRfl
namespace Go.Proofs.YtepbjmpbcobfpabDoor
/- THE CELL 'sum', in the pinned program and in every row, IS THE sha256 OF THE DUMP (.gsa) THAT YtepbjmpbcobfpabDoorProg.lean LOADS. Nothing in Lean hashes anything: it is a label: what it is worth is what the hold of that sum in a sandbox is worth. -/
noncomputable def Tryd.pinned : Pinned := { name := "ytepbjmpbcobfpabdoor", sum := "82b3b97d01f8d0423be38869f4b0f05879c2b0115b730a506eb3d54b2f426ca1", checked := Tryd.checked }
namespace Rows
def none {H : Type} : Left H := { results := [], args := [] }

/- WHAT THE LISTED PACKAGE-LEVEL VARIABLES READ AS WHEN THE CALL BEGINS. Each datum BY PROGRAM (the guide's laid-datum.mjs) off the statement by which the dump's own 'gosem.cut.vars' lays the variable. In a bare row this is a premise. The card (YtepbjmpbcobfpabDoorCards.lean) ties it to the program's text. -/
def laid_loop_example_soughtstreams_impl_errBroken {H : Type} : DataW H := .iface "*errors.errorString" (.ptr (.agg [.lit (.string [116, 104, 101, 114, 101, 32, 105, 115, 32, 110, 111, 32, 98, 108, 111, 99, 107])]))
def laid_loop_example_soughtstreams_impl_layout {H : Type} : DataW H := .agg [.agg [.lit (.int .i64 1), .lit (.int .i64 181), .lit (.int .i64 181)], .agg [.lit (.int .i64 1), .lit (.int .i64 0), .lit (.int .i64 1)], .agg [.lit (.int .i64 2), .lit (.int .i64 0), .lit (.int .i64 39)], .agg [.lit (.int .i64 2), .lit (.int .i64 1), .lit (.int .i64 64)], .agg [.lit (.int .i64 2), .lit (.int .i64 1), .lit (.int .i64 64)]]
def laid_loop_example_soughtstreams_impl_errNumber {H : Type} : DataW H := .iface "*errors.errorString" (.ptr (.agg [.lit (.string [97, 32, 98, 108, 111, 99, 107, 32, 104, 97, 115, 32, 97, 32, 119, 114, 111, 110, 103, 32, 110, 117, 109, 98, 101, 114])]))
def laid_loop_example_soughtstreams_impl_errLong {H : Type} : DataW H := .iface "*errors.errorString" (.ptr (.agg [.lit (.string [116, 104, 101, 32, 98, 108, 111, 99, 107, 115, 32, 104, 97, 118, 101, 32, 116, 111, 111, 32, 109, 117, 99, 104, 32, 100, 97, 116, 97])]))

/-- 'laws.FnExactParseBlock': WHATEVER THE INPUT: true; the input reads as it did. -/
def fnExactParseBlockSpec : ChangeSpec := { name := "fnExactParseBlock", vars := ["loop.example/soughtstreams/impl.errBroken", "loop.example/soughtstreams/impl.layout"], fn := fun _ => fun
  | [d1, d2, g1, g2] => { results := [.lit (.bool true)], args := [d1, d2], vars := [g1, g2] }
  | _ => none }
def fnExactParseBlockRow : OpenClaim := { program := "ytepbjmpbcobfpabdoor", sum := "82b3b97d01f8d0423be38869f4b0f05879c2b0115b730a506eb3d54b2f426ca1", func := "loop.example/soughtstreams/laws.FnExactParseBlock", spec := "fnExactParseBlock", inPlace := ["internal/reflectlite.TypeOf"], unfollowed := true, recurses := true, named := ["loop.example/soughtstreams/impl.errBroken", "loop.example/soughtstreams/impl.layout"], ifaces := true, apart := false, laid := [("loop.example/soughtstreams/impl.errBroken", laid_loop_example_soughtstreams_impl_errBroken), ("loop.example/soughtstreams/impl.layout", laid_loop_example_soughtstreams_impl_layout)] }
def FnExactParseBlockSaid : Prop := fnExactParseBlockRow.holds Tryd.pinned (OpenSpec.ofChange fnExactParseBlockSpec)

/-- ITS FALSE NEIGHBOUR: 'it returns false'. Refute it at one input. -/
def fnExactParseBlockWrong : ChangeSpec := { name := "fnExactParseBlock", vars := ["loop.example/soughtstreams/impl.errBroken", "loop.example/soughtstreams/impl.layout"], fn := fun _ => fun
  | [d1, d2, g1, g2] => { results := [.lit (.bool false)], args := [d1, d2], vars := [g1, g2] }
  | _ => none }
def FnExactParseBlockWrongFalsely : Prop := fnExactParseBlockRow.holds Tryd.pinned (OpenSpec.ofChange fnExactParseBlockWrong)

/-- 'laws.FnExactCheckContainer': WHATEVER THE INPUT: true; the input reads as it did. -/
def fnExactCheckContainerSpec : ChangeSpec := { name := "fnExactCheckContainer", vars := ["loop.example/soughtstreams/impl.errNumber", "loop.example/soughtstreams/impl.errLong", "loop.example/soughtstreams/impl.errBroken", "loop.example/soughtstreams/impl.layout"], fn := fun _ => fun
  | [d, g1, g2, g3, g4] => { results := [.lit (.bool true)], args := [d], vars := [g1, g2, g3, g4] }
  | _ => none }
def fnExactCheckContainerRow : OpenClaim := { program := "ytepbjmpbcobfpabdoor", sum := "82b3b97d01f8d0423be38869f4b0f05879c2b0115b730a506eb3d54b2f426ca1", func := "loop.example/soughtstreams/laws.FnExactCheckContainer", spec := "fnExactCheckContainer", inPlace := ["internal/reflectlite.TypeOf"], unfollowed := true, recurses := true, named := ["loop.example/soughtstreams/impl.errNumber", "loop.example/soughtstreams/impl.errLong", "loop.example/soughtstreams/impl.errBroken", "loop.example/soughtstreams/impl.layout"], ifaces := true, apart := false, laid := [("loop.example/soughtstreams/impl.errBroken", laid_loop_example_soughtstreams_impl_errBroken), ("loop.example/soughtstreams/impl.errNumber", laid_loop_example_soughtstreams_impl_errNumber), ("loop.example/soughtstreams/impl.errLong", laid_loop_example_soughtstreams_impl_errLong), ("loop.example/soughtstreams/impl.layout", laid_loop_example_soughtstreams_impl_layout)] }
def FnExactCheckContainerSaid : Prop := fnExactCheckContainerRow.holds Tryd.pinned (OpenSpec.ofChange fnExactCheckContainerSpec)

/-- ITS FALSE NEIGHBOUR: 'it returns false'. Refute it at one input. -/
def fnExactCheckContainerWrong : ChangeSpec := { name := "fnExactCheckContainer", vars := ["loop.example/soughtstreams/impl.errNumber", "loop.example/soughtstreams/impl.errLong", "loop.example/soughtstreams/impl.errBroken", "loop.example/soughtstreams/impl.layout"], fn := fun _ => fun
  | [d, g1, g2, g3, g4] => { results := [.lit (.bool false)], args := [d], vars := [g1, g2, g3, g4] }
  | _ => none }
def FnExactCheckContainerWrongFalsely : Prop := fnExactCheckContainerRow.holds Tryd.pinned (OpenSpec.ofChange fnExactCheckContainerWrong)

/- THE SECOND FORM. 'bulk': how many values and letters a reading holds, each counted each time it is reached (what is shared counts as often as it is met; a slice's spare places count too). A statement '..UptoSaid' is the law's where the arguments, and the package variables that the reading takes, are together of bulk at most 1048576: NARROWER than '..Said'. Prove '..Said' where nothing that the law and all that it calls make is longer than what came in: it says more and counts as full. Else prove '..UptoSaid'. A law counts once. -/
mutual
def uptoBulk {H : Type} : DataW H → Nat
  | .lit (.string bytes) => bytes.length + 1
  | .lit _ => 1
  | .nil => 1
  | .ptr d => uptoBulk d + 1
  | .slice elems spare => uptoBulkAll elems + uptoBulkAll spare + 1
  | .agg parts => uptoBulkAll parts + 1
  | .iface _ d => uptoBulk d + 1
  | .map entries => uptoBulkEntries entries + 1
  | .held _ => 1
def uptoBulkAll {H : Type} : List (DataW H) → Nat
  | [] => 0
  | d :: r => uptoBulk d + uptoBulkAll r
def uptoBulkEntries {H : Type} : List (Lit × DataW H) → Nat
  | [] => 0
  | x :: r => uptoBulkEntry x + uptoBulkEntries r
def uptoBulkEntry {H : Type} : Lit × DataW H → Nat
  | (.string bytes, d) => bytes.length + uptoBulk d + 1
  | (_, d) => uptoBulk d + 1
 end
def uptoSmall : (H : Type) → List (DataW H) → Bool := fun _ ds => decide (uptoBulkAll ds ≤ 1048576)
def OpenSpec.upto (s : _root_.Go.ChangeSpec) : _root_.Go.OpenSpec := { _root_.Go.OpenSpec.ofChange s with cond := some uptoSmall }

/-- 'laws.FnExactParseBlock', WHERE WHAT IT READS IS OF BULK AT MOST 1048576: true; the input reads as it did. -/
def fnExactParseBlockUptoRow : OpenClaim := { program := "ytepbjmpbcobfpabdoor", sum := "82b3b97d01f8d0423be38869f4b0f05879c2b0115b730a506eb3d54b2f426ca1", func := "loop.example/soughtstreams/laws.FnExactParseBlock", spec := "fnExactParseBlock", inPlace := ["internal/reflectlite.TypeOf"], unfollowed := true, recurses := true, named := ["loop.example/soughtstreams/impl.errBroken", "loop.example/soughtstreams/impl.layout"], ifaces := true, apart := false, laid := [("loop.example/soughtstreams/impl.errBroken", laid_loop_example_soughtstreams_impl_errBroken), ("loop.example/soughtstreams/impl.layout", laid_loop_example_soughtstreams_impl_layout)], narrowed := true }
def FnExactParseBlockUptoSaid : Prop := fnExactParseBlockUptoRow.holds Tryd.pinned (OpenSpec.upto fnExactParseBlockSpec)

/-- 'laws.FnExactCheckContainer', WHERE WHAT IT READS IS OF BULK AT MOST 1048576: true; the input reads as it did. -/
def fnExactCheckContainerUptoRow : OpenClaim := { program := "ytepbjmpbcobfpabdoor", sum := "82b3b97d01f8d0423be38869f4b0f05879c2b0115b730a506eb3d54b2f426ca1", func := "loop.example/soughtstreams/laws.FnExactCheckContainer", spec := "fnExactCheckContainer", inPlace := ["internal/reflectlite.TypeOf"], unfollowed := true, recurses := true, named := ["loop.example/soughtstreams/impl.errNumber", "loop.example/soughtstreams/impl.errLong", "loop.example/soughtstreams/impl.errBroken", "loop.example/soughtstreams/impl.layout"], ifaces := true, apart := false, laid := [("loop.example/soughtstreams/impl.errBroken", laid_loop_example_soughtstreams_impl_errBroken), ("loop.example/soughtstreams/impl.errNumber", laid_loop_example_soughtstreams_impl_errNumber), ("loop.example/soughtstreams/impl.errLong", laid_loop_example_soughtstreams_impl_errLong), ("loop.example/soughtstreams/impl.layout", laid_loop_example_soughtstreams_impl_layout)], narrowed := true }
def FnExactCheckContainerUptoSaid : Prop := fnExactCheckContainerUptoRow.holds Tryd.pinned (OpenSpec.upto fnExactCheckContainerSpec)

end Rows
end Go.Proofs.YtepbjmpbcobfpabDoor
