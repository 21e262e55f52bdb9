/- Contracts of ReverseBits in both programs. -/
import Derived.Test.YtgfclblooadomaaDoorRev
namespace Go.Proofs.YtgfclblooadomaaDoor
open Go.ChangeShapes Go.WideShapes Go.ChangeAt Go.RowKit Go.Joins
set_option linter.unusedVariables false

theorem all_asc (l : List Bool) : (M.asc l).all isBit = true := M.isBits_asc l
theorem bitsL_asc (l : List Bool) : bitsL (str (M.asc l)) = l := by rw [bitsL, str_list, M.bits_asc]
end Go.Proofs.YtgfclblooadomaaDoor
