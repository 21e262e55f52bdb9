/- Contracts of the model's own drawing of arguments: what is known. -/
import Derived.Test.YtophlgnmfhoeiaaDm
namespace Go.Proofs.Ytophlgnmfhoeiaa
open Go.ChangeShapes Go.WideShapes Go.ChangeAt Go.RowKit Go.Joins
set_option linter.unusedVariables false

def OpenOut (w : World) (L B q : Nat) (e : Ending) (w' : World) : Prop := ∃ (k : Kn) (A : Option Addr) (cap : Nat), e = .returned (.agg #[.int .i64 k.o, .int .i64 k.l, .int .i64 k.m, .slice A k.ps.length cap, .int .i64 k.base, .int .i64 k.last]) ∧ k.Wf ∧ k.ps.length ≤ 1000 ∧ w'.ownsRow w.heap.size 139 2 (.slice A k.ps.length cap) k.ps.length (prs k.ps) ∧ Rd 131 w' L B (q + 260) ∧ w.grownBy w' (some B)
/-- what is known, drawn -/
def AKnown (w : World) (e : Ending) (w' : World) : Prop := ∃ (k : Kn) (A : Option Addr) (cap : Nat), e = .returned (.agg #[.int .i64 k.o, .int .i64 k.l, .int .i64 k.m, .slice A k.ps.length cap, .int .i64 k.base, .int .i64 k.last]) ∧ k.Wf ∧ k.ps.length ≤ 1000 ∧ w'.ownsRow w.heap.size 139 2 (.slice A k.ps.length cap) k.ps.length (prs k.ps) ∧ Below w.heap.size w w'
/-- the same and a number -/
def AKnownInt (w : World) (e : Ending) (w' : World) : Prop := ∃ (k : Kn) (A : Option Addr) (cap : Nat) (n : Int), e = .returned (.tuple #[.agg #[.int .i64 k.o, .int .i64 k.l, .int .i64 k.m, .slice A k.ps.length cap, .int .i64 k.base, .int .i64 k.last], .int .i64 n]) ∧ k.Wf ∧ k.ps.length ≤ 1000 ∧ (-9223372036854775808 ≤ n ∧ n ≤ 9223372036854775807) ∧ w'.ownsRow w.heap.size 139 2 (.slice A k.ps.length cap) k.ps.length (prs k.ps) ∧ Below w.heap.size w w'
end Go.Proofs.Ytophlgnmfhoeiaa
