/-
  NARROWER THAN 'FOR EVERY INPUT', by the rows' own cells (each row's printed sentence says how): FnExactLostNumbers: laid · FnExactJoinPieces: laid · FnExactParityOf: ifaces, laid.
  DERIVED. THE GIVEN ROWS OF THIS SEAT. 3 by the template 'for every input the law returns true; each argument reads behind the call as it read before'; 0 by the template 'total and deterministic' (their statements: YtdehancgadkfaaaDoorTotals.lean).
  GIVEN WITH THE SEED: the statements are not yours to turn. If you find one false, say at which input.
  Laid BY PROGRAM, IN A SANDBOX (cutbox-rows.mjs): the forced cells as the released guide's own fill.sh prints them over the translation 165246fe8374f4dd… (all of the seat's roots in one cut). By AI agents, Wed Nov 11 2026. No macro, syntax, notation, axiom, sorry.
-/
import Derived.Test.YtdehancgadkfaaaDoorChecked
import GoSem.Claim
import GoSem.ClaimJoined
import GoSem.ClaimMapViews
import Derived.JoinedTies
import Derived.KernelRfl
namespace Go.Proofs.YtdehancgadkfaaaDoor
/- THE CELL 'sum', in the pinned program and in every row, IS THE sha256 OF THE DUMP (.gsa) THAT YtdehancgadkfaaaDoorProg.lean LOADS. Nothing in Lean hashes anything: it is a label: what it is worth is what the hold of that sum in a sandbox is worth. -/
noncomputable def Tryd.pinned : Pinned := { name := "ytdehancgadkfaaadoor", sum := "165246fe8374f4dd5b4ed3c1589fe34f65665d3132064bafcf44ff4e56dfbe33", checked := Tryd.checked }
namespace Rows
def none {H : Type} : Left H := { results := [], args := [] }

/- WHAT THE LISTED PACKAGE-LEVEL VARIABLES READ AS WHEN THE CALL BEGINS. Each datum BY PROGRAM (the guide's laid-datum.mjs) off the statement by which the dump's own 'gosem.cut.vars' lays the variable. In a bare row this is a premise. The card (YtdehancgadkfaaaDoorCards.lean) ties it to the program's text. -/
def laid_loop_example_soughtstreams_impl_layout {H : Type} : DataW H := .agg [.agg [.lit (.int .i64 1), .lit (.int .i64 181), .lit (.int .i64 181)], .agg [.lit (.int .i64 1), .lit (.int .i64 0), .lit (.int .i64 1)], .agg [.lit (.int .i64 2), .lit (.int .i64 0), .lit (.int .i64 39)], .agg [.lit (.int .i64 2), .lit (.int .i64 1), .lit (.int .i64 64)], .agg [.lit (.int .i64 2), .lit (.int .i64 1), .lit (.int .i64 64)]]
def laid_loop_example_soughtstreams_impl_errBroken {H : Type} : DataW H := .iface "*errors.errorString" (.ptr (.agg [.lit (.string [116, 104, 101, 114, 101, 32, 105, 115, 32, 110, 111, 32, 98, 108, 111, 99, 107])]))
def laid_loop_example_soughtstreams_impl_errNumber {H : Type} : DataW H := .iface "*errors.errorString" (.ptr (.agg [.lit (.string [97, 32, 98, 108, 111, 99, 107, 32, 104, 97, 115, 32, 97, 32, 119, 114, 111, 110, 103, 32, 110, 117, 109, 98, 101, 114])]))
def laid_loop_example_soughtstreams_impl_errLong {H : Type} : DataW H := .iface "*errors.errorString" (.ptr (.agg [.lit (.string [116, 104, 101, 32, 98, 108, 111, 99, 107, 115, 32, 104, 97, 118, 101, 32, 116, 111, 111, 32, 109, 117, 99, 104, 32, 100, 97, 116, 97])]))

/-- 'laws.FnExactLostNumbers': WHATEVER THE INPUT: true; the input reads as it did. -/
def fnExactLostNumbersSpec : ChangeSpec := { name := "fnExactLostNumbers", vars := ["loop.example/soughtstreams/impl.layout"], fn := fun _ => fun
  | [d1, d2, g1] => { results := [.lit (.bool true)], args := [d1, d2], vars := [g1] }
  | _ => none }
def fnExactLostNumbersRow : OpenClaim := { program := "ytdehancgadkfaaadoor", sum := "165246fe8374f4dd5b4ed3c1589fe34f65665d3132064bafcf44ff4e56dfbe33", func := "loop.example/soughtstreams/laws.FnExactLostNumbers", spec := "fnExactLostNumbers", named := ["loop.example/soughtstreams/impl.layout"], apart := false, laid := [("loop.example/soughtstreams/impl.layout", laid_loop_example_soughtstreams_impl_layout)] }
def FnExactLostNumbersSaid : Prop := fnExactLostNumbersRow.holds Tryd.pinned (OpenSpec.ofChange fnExactLostNumbersSpec)

/-- ITS FALSE NEIGHBOUR: 'it returns false'. Refute it at one input. -/
def fnExactLostNumbersWrong : ChangeSpec := { name := "fnExactLostNumbers", vars := ["loop.example/soughtstreams/impl.layout"], fn := fun _ => fun
  | [d1, d2, g1] => { results := [.lit (.bool false)], args := [d1, d2], vars := [g1] }
  | _ => none }
def FnExactLostNumbersWrongFalsely : Prop := fnExactLostNumbersRow.holds Tryd.pinned (OpenSpec.ofChange fnExactLostNumbersWrong)

/-- 'laws.FnExactJoinPieces': WHATEVER THE INPUT: true; the input reads as it did. -/
def fnExactJoinPiecesSpec : ChangeSpec := { name := "fnExactJoinPieces", vars := ["loop.example/soughtstreams/impl.layout"], fn := fun _ => fun
  | [d1, d2, d3, d4, g1] => { results := [.lit (.bool true)], args := [d1, d2, d3, d4], vars := [g1] }
  | _ => none }
def fnExactJoinPiecesRow : OpenClaim := { program := "ytdehancgadkfaaadoor", sum := "165246fe8374f4dd5b4ed3c1589fe34f65665d3132064bafcf44ff4e56dfbe33", func := "loop.example/soughtstreams/laws.FnExactJoinPieces", spec := "fnExactJoinPieces", inPlace := ["internal/abi.NoEscape", "internal/bytealg.MakeNoZero"], named := ["loop.example/soughtstreams/impl.layout"], apart := false, laid := [("loop.example/soughtstreams/impl.layout", laid_loop_example_soughtstreams_impl_layout)] }
def FnExactJoinPiecesSaid : Prop := fnExactJoinPiecesRow.holds Tryd.pinned (OpenSpec.ofChange fnExactJoinPiecesSpec)

/-- ITS FALSE NEIGHBOUR: 'it returns false'. Refute it at one input. -/
def fnExactJoinPiecesWrong : ChangeSpec := { name := "fnExactJoinPieces", vars := ["loop.example/soughtstreams/impl.layout"], fn := fun _ => fun
  | [d1, d2, d3, d4, g1] => { results := [.lit (.bool false)], args := [d1, d2, d3, d4], vars := [g1] }
  | _ => none }
def FnExactJoinPiecesWrongFalsely : Prop := fnExactJoinPiecesRow.holds Tryd.pinned (OpenSpec.ofChange fnExactJoinPiecesWrong)

/-- 'laws.FnExactParityOf': WHATEVER THE INPUT: true; the input reads as it did. -/
def fnExactParityOfSpec : ChangeSpec := { name := "fnExactParityOf", vars := ["loop.example/soughtstreams/impl.errNumber", "loop.example/soughtstreams/impl.errLong", "loop.example/soughtstreams/impl.errBroken", "loop.example/soughtstreams/impl.layout"], fn := fun _ => fun
  | [d1, d2, g1, g2, g3, g4] => { results := [.lit (.bool true)], args := [d1, d2], vars := [g1, g2, g3, g4] }
  | _ => none }
def fnExactParityOfRow : OpenClaim := { program := "ytdehancgadkfaaadoor", sum := "165246fe8374f4dd5b4ed3c1589fe34f65665d3132064bafcf44ff4e56dfbe33", func := "loop.example/soughtstreams/laws.FnExactParityOf", spec := "fnExactParityOf", unfollowed := true, recurses := true, named := ["loop.example/soughtstreams/impl.errNumber", "loop.example/soughtstreams/impl.errLong", "loop.example/soughtstreams/impl.errBroken", "loop.example/soughtstreams/impl.layout"], ifaces := true, apart := false, laid := [("loop.example/soughtstreams/impl.errBroken", laid_loop_example_soughtstreams_impl_errBroken), ("loop.example/soughtstreams/impl.errNumber", laid_loop_example_soughtstreams_impl_errNumber), ("loop.example/soughtstreams/impl.errLong", laid_loop_example_soughtstreams_impl_errLong), ("loop.example/soughtstreams/impl.layout", laid_loop_example_soughtstreams_impl_layout)] }
def FnExactParityOfSaid : Prop := fnExactParityOfRow.holds Tryd.pinned (OpenSpec.ofChange fnExactParityOfSpec)

/-- ITS FALSE NEIGHBOUR: 'it returns false'. Refute it at one input. -/
def fnExactParityOfWrong : ChangeSpec := { name := "fnExactParityOf", vars := ["loop.example/soughtstreams/impl.errNumber", "loop.example/soughtstreams/impl.errLong", "loop.example/soughtstreams/impl.errBroken", "loop.example/soughtstreams/impl.layout"], fn := fun _ => fun
  | [d1, d2, g1, g2, g3, g4] => { results := [.lit (.bool false)], args := [d1, d2], vars := [g1, g2, g3, g4] }
  | _ => none }
def FnExactParityOfWrongFalsely : Prop := fnExactParityOfRow.holds Tryd.pinned (OpenSpec.ofChange fnExactParityOfWrong)

/- THE SECOND FORM. 'bulk': how many values and letters a reading holds, each counted each time it is reached (what is shared counts as often as it is met; a slice's spare places count too). A statement '..UptoSaid' is the law's where the arguments, and the package variables that the reading takes, are together of bulk at most 1048576: NARROWER than '..Said'. Prove '..Said' where nothing that the law and all that it calls make is longer than what came in: it says more and counts as full. Else prove '..UptoSaid'. A law counts once. -/
mutual
def uptoBulk {H : Type} : DataW H → Nat
  | .lit (.string bytes) => bytes.length + 1
  | .lit _ => 1
  | .nil => 1
  | .ptr d => uptoBulk d + 1
  | .slice elems spare => uptoBulkAll elems + uptoBulkAll spare + 1
  | .agg parts => uptoBulkAll parts + 1
  | .iface _ d => uptoBulk d + 1
  | .map entries => uptoBulkEntries entries + 1
  | .held _ => 1
def uptoBulkAll {H : Type} : List (DataW H) → Nat
  | [] => 0
  | d :: r => uptoBulk d + uptoBulkAll r
def uptoBulkEntries {H : Type} : List (Lit × DataW H) → Nat
  | [] => 0
  | x :: r => uptoBulkEntry x + uptoBulkEntries r
def uptoBulkEntry {H : Type} : Lit × DataW H → Nat
  | (.string bytes, d) => bytes.length + uptoBulk d + 1
  | (_, d) => uptoBulk d + 1
 end
def uptoSmall : (H : Type) → List (DataW H) → Bool := fun _ ds => decide (uptoBulkAll ds ≤ 1048576)
def OpenSpec.upto (s : _root_.Go.ChangeSpec) : _root_.Go.OpenSpec := { _root_.Go.OpenSpec.ofChange s with cond := some uptoSmall }

/-- 'laws.FnExactLostNumbers', WHERE WHAT IT READS IS OF BULK AT MOST 1048576: true; the input reads as it did. -/
def fnExactLostNumbersUptoRow : OpenClaim := { program := "ytdehancgadkfaaadoor", sum := "165246fe8374f4dd5b4ed3c1589fe34f65665d3132064bafcf44ff4e56dfbe33", func := "loop.example/soughtstreams/laws.FnExactLostNumbers", spec := "fnExactLostNumbers", named := ["loop.example/soughtstreams/impl.layout"], apart := false, laid := [("loop.example/soughtstreams/impl.layout", laid_loop_example_soughtstreams_impl_layout)], narrowed := true }
def FnExactLostNumbersUptoSaid : Prop := fnExactLostNumbersUptoRow.holds Tryd.pinned (OpenSpec.upto fnExactLostNumbersSpec)

/-- 'laws.FnExactJoinPieces', WHERE WHAT IT READS IS OF BULK AT MOST 1048576: true; the input reads as it did. -/
def fnExactJoinPiecesUptoRow : OpenClaim := { program := "ytdehancgadkfaaadoor", sum := "165246fe8374f4dd5b4ed3c1589fe34f65665d3132064bafcf44ff4e56dfbe33", func := "loop.example/soughtstreams/laws.FnExactJoinPieces", spec := "fnExactJoinPieces", inPlace := ["internal/abi.NoEscape", "internal/bytealg.MakeNoZero"], named := ["loop.example/soughtstreams/impl.layout"], apart := false, laid := [("loop.example/soughtstreams/impl.layout", laid_loop_example_soughtstreams_impl_layout)], narrowed := true }
def FnExactJoinPiecesUptoSaid : Prop := fnExactJoinPiecesUptoRow.holds Tryd.pinned (OpenSpec.upto fnExactJoinPiecesSpec)

/-- 'laws.FnExactParityOf', WHERE WHAT IT READS IS OF BULK AT MOST 1048576: true; the input reads as it did. -/
def fnExactParityOfUptoRow : OpenClaim := { program := "ytdehancgadkfaaadoor", sum := "165246fe8374f4dd5b4ed3c1589fe34f65665d3132064bafcf44ff4e56dfbe33", func := "loop.example/soughtstreams/laws.FnExactParityOf", spec := "fnExactParityOf", unfollowed := true, recurses := true, named := ["loop.example/soughtstreams/impl.errNumber", "loop.example/soughtstreams/impl.errLong", "loop.example/soughtstreams/impl.errBroken", "loop.example/soughtstreams/impl.layout"], ifaces := true, apart := false, laid := [("loop.example/soughtstreams/impl.errBroken", laid_loop_example_soughtstreams_impl_errBroken), ("loop.example/soughtstreams/impl.errNumber", laid_loop_example_soughtstreams_impl_errNumber), ("loop.example/soughtstreams/impl.errLong", laid_loop_example_soughtstreams_impl_errLong), ("loop.example/soughtstreams/impl.layout", laid_loop_example_soughtstreams_impl_layout)], narrowed := true }
def FnExactParityOfUptoSaid : Prop := fnExactParityOfUptoRow.holds Tryd.pinned (OpenSpec.upto fnExactParityOfSpec)

end Rows
end Go.Proofs.YtdehancgadkfaaaDoor
