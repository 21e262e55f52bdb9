/- Contracts of the loops that append bits. -/
import Derived.Test.YtgfclblooadomaaDoorBits
import Derived.Test.YtgfclblooadomaaDoorOwn
namespace Go.Proofs.YtgfclblooadomaaDoor
open Go.ChangeShapes Go.WideShapes Go.ChangeAt Go.RowKit Go.Joins
set_option linter.unusedVariables false

theorem Tryd.info_u8 : (Tryd.prog.info? 5).map (fun i => (i.zero, i.size, i.bytes)) = some (some (.int .u8 0), 1, 1) := by kernel_rfl
end Go.Proofs.YtgfclblooadomaaDoor
