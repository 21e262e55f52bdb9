/-
  NARROWER THAN 'FOR EVERY INPUT', by the rows' own cells (each row's printed sentence says how): FnExactOpValid: laid.
  DERIVED. THE GIVEN ROWS OF THIS SEAT. 1 by the template 'for every input the law returns true; each argument reads behind the call as it read before'; 0 by the template 'total and deterministic' (their statements: YtbmkagngbmfcbaaDoorTotals.lean).
  GIVEN WITH THE SEED: the statements are not yours to turn. If you find one false, say at which input.
  Laid BY PROGRAM, IN A SANDBOX (cutbox-rows.mjs): the forced cells as the released guide's own fill.sh prints them over the translation d4467fcf95dbb28d… (all of the seat's roots in one cut). By AI agents, Wed Nov 11 2026. No macro, syntax, notation, axiom, sorry.
-/
import Derived.Test.YtbmkagngbmfcbaaDoorChecked
import GoSem.Claim
import GoSem.ClaimJoined
import GoSem.ClaimMapViews
import Derived.JoinedTies
import Derived.KernelRfl
namespace Go.Proofs.YtbmkagngbmfcbaaDoor
/- THE CELL 'sum', in the pinned program and in every row, IS THE sha256 OF THE DUMP (.gsa) THAT YtbmkagngbmfcbaaDoorProg.lean LOADS. Nothing in Lean hashes anything: it is a label: what it is worth is what the hold of that sum in a sandbox is worth. -/
noncomputable def Tryd.pinned : Pinned := { name := "ytbmkagngbmfcbaadoor", sum := "d4467fcf95dbb28d7288893433a3bd10038bf2607d86bcc6edb0b4cb09d6175b", checked := Tryd.checked }
namespace Rows
def none {H : Type} : Left H := { results := [], args := [] }

/- WHAT THE LISTED PACKAGE-LEVEL VARIABLES READ AS WHEN THE CALL BEGINS. Each datum BY PROGRAM (the guide's laid-datum.mjs) off the statement by which the dump's own 'gosem.cut.vars' lays the variable. In a bare row this is a premise. The card (YtbmkagngbmfcbaaDoorCards.lean) ties it to the program's text. -/
def laid_loop_example_soughtstreams_impl_layout {H : Type} : DataW H := .agg [.agg [.lit (.int .i64 1), .lit (.int .i64 181), .lit (.int .i64 181)], .agg [.lit (.int .i64 1), .lit (.int .i64 0), .lit (.int .i64 1)], .agg [.lit (.int .i64 2), .lit (.int .i64 0), .lit (.int .i64 39)], .agg [.lit (.int .i64 2), .lit (.int .i64 1), .lit (.int .i64 64)], .agg [.lit (.int .i64 2), .lit (.int .i64 1), .lit (.int .i64 64)]]
def laid_loop_example_soughtstreams_impl_forms {H : Type} : DataW H := .agg [.agg [.lit (.string [112, 117, 116]), .lit (.bool false), .lit (.bool true), .lit (.bool true)], .agg [.lit (.string [97, 112, 112, 101, 110, 100]), .lit (.bool false), .lit (.bool true), .lit (.bool true)], .agg [.lit (.string [114, 101, 112, 108, 97, 99, 101]), .lit (.bool true), .lit (.bool true), .lit (.bool true)], .agg [.lit (.string [109, 101, 114, 103, 101]), .lit (.bool false), .lit (.bool true), .lit (.bool false)], .agg [.lit (.string [100, 101, 108, 101, 116, 101]), .lit (.bool false), .lit (.bool false), .lit (.bool false)]]

/-- 'laws.FnExactOpValid': WHATEVER THE INPUT: true; the input reads as it did. -/
def fnExactOpValidSpec : ChangeSpec := { name := "fnExactOpValid", vars := ["loop.example/soughtstreams/impl.forms", "loop.example/soughtstreams/impl.layout"], fn := fun _ => fun
  | [d, g1, g2] => { results := [.lit (.bool true)], args := [d], vars := [g1, g2] }
  | _ => none }
def fnExactOpValidRow : OpenClaim := { program := "ytbmkagngbmfcbaadoor", sum := "d4467fcf95dbb28d7288893433a3bd10038bf2607d86bcc6edb0b4cb09d6175b", func := "loop.example/soughtstreams/laws.FnExactOpValid", spec := "fnExactOpValid", named := ["loop.example/soughtstreams/impl.forms", "loop.example/soughtstreams/impl.layout"], apart := false, laid := [("loop.example/soughtstreams/impl.layout", laid_loop_example_soughtstreams_impl_layout), ("loop.example/soughtstreams/impl.forms", laid_loop_example_soughtstreams_impl_forms)] }
def FnExactOpValidSaid : Prop := fnExactOpValidRow.holds Tryd.pinned (OpenSpec.ofChange fnExactOpValidSpec)

/-- ITS FALSE NEIGHBOUR: 'it returns false'. Refute it at one input. -/
def fnExactOpValidWrong : ChangeSpec := { name := "fnExactOpValid", vars := ["loop.example/soughtstreams/impl.forms", "loop.example/soughtstreams/impl.layout"], fn := fun _ => fun
  | [d, g1, g2] => { results := [.lit (.bool false)], args := [d], vars := [g1, g2] }
  | _ => none }
def FnExactOpValidWrongFalsely : Prop := fnExactOpValidRow.holds Tryd.pinned (OpenSpec.ofChange fnExactOpValidWrong)

/- THE SECOND FORM. 'bulk': how many values and letters a reading holds, each counted each time it is reached (what is shared counts as often as it is met; a slice's spare places count too). A statement '..UptoSaid' is the law's where the arguments, and the package variables that the reading takes, are together of bulk at most 1048576: NARROWER than '..Said'. Prove '..Said' where nothing that the law and all that it calls make is longer than what came in: it says more and counts as full. Else prove '..UptoSaid'. A law counts once. -/
mutual
def uptoBulk {H : Type} : DataW H → Nat
  | .lit (.string bytes) => bytes.length + 1
  | .lit _ => 1
  | .nil => 1
  | .ptr d => uptoBulk d + 1
  | .slice elems spare => uptoBulkAll elems + uptoBulkAll spare + 1
  | .agg parts => uptoBulkAll parts + 1
  | .iface _ d => uptoBulk d + 1
  | .map entries => uptoBulkEntries entries + 1
  | .held _ => 1
def uptoBulkAll {H : Type} : List (DataW H) → Nat
  | [] => 0
  | d :: r => uptoBulk d + uptoBulkAll r
def uptoBulkEntries {H : Type} : List (Lit × DataW H) → Nat
  | [] => 0
  | x :: r => uptoBulkEntry x + uptoBulkEntries r
def uptoBulkEntry {H : Type} : Lit × DataW H → Nat
  | (.string bytes, d) => bytes.length + uptoBulk d + 1
  | (_, d) => uptoBulk d + 1
 end
def uptoSmall : (H : Type) → List (DataW H) → Bool := fun _ ds => decide (uptoBulkAll ds ≤ 1048576)
def OpenSpec.upto (s : _root_.Go.ChangeSpec) : _root_.Go.OpenSpec := { _root_.Go.OpenSpec.ofChange s with cond := some uptoSmall }

/-- 'laws.FnExactOpValid', WHERE WHAT IT READS IS OF BULK AT MOST 1048576: true; the input reads as it did. -/
def fnExactOpValidUptoRow : OpenClaim := { program := "ytbmkagngbmfcbaadoor", sum := "d4467fcf95dbb28d7288893433a3bd10038bf2607d86bcc6edb0b4cb09d6175b", func := "loop.example/soughtstreams/laws.FnExactOpValid", spec := "fnExactOpValid", named := ["loop.example/soughtstreams/impl.forms", "loop.example/soughtstreams/impl.layout"], apart := false, laid := [("loop.example/soughtstreams/impl.layout", laid_loop_example_soughtstreams_impl_layout), ("loop.example/soughtstreams/impl.forms", laid_loop_example_soughtstreams_impl_forms)], narrowed := true }
def FnExactOpValidUptoSaid : Prop := fnExactOpValidUptoRow.holds Tryd.pinned (OpenSpec.upto fnExactOpValidSpec)

end Rows
end Go.Proofs.YtbmkagngbmfcbaaDoor
