/- The contract of PackCodes in the program. No condition but that the numbers are int's. -/
import Derived.Test.YtfklkepodpcdgaaBk
import Derived.Test.YtfklkepodpcdgaaBj
namespace Go.Proofs.Ytfklkepodpcdgaa
open Go.ChangeShapes Go.WideShapes Go.ChangeAt Go.RowKit Go.Joins
set_option linter.unusedVariables false
set_option linter.unusedSectionVars false

theorem s3_mk {v v0 : World} {a0 a1 a2 : Addr} {x0 x1 x2 : Value} (h0 : v.cell? a0 = some x0) (h1 : v.cell? a1 = some x1) (h2 : v.cell? a2 = some x2) (hb : Below v0.heap.size v0 v) : v.cell? a0 = some x0 ∧ v.cell? a1 = some x1 ∧ v.cell? a2 = some x2 ∧ Below v0.heap.size v0 v := ⟨h0, h1, h2, hb⟩
section
variable (k : Kn) (A : Option Addr) (cap L : Nat) (w : World) (h : PsAt w L A cap k.ps) (hL : L ≤ w.heap.size) (hw : k.Wf) (A2 : Option Addr) (cap2 L2 : Nat) (codes : List Int) (hc : NumsAt w L2 A2 cap2 codes) (hL2 : L2 ≤ w.heap.size)

include h hL hw hc hL2

end
end Go.Proofs.Ytfklkepodpcdgaa
