/- The law's own conversion of a setting. No condition. -/
import Derived.Test.YtgfclblooadomaaDoorChecked
import Derived.Test.YtgfclblooadomaaDoorOpen
namespace Go.Proofs.YtgfclblooadomaaDoor
open Go.ChangeShapes Go.WideShapes Go.ChangeAt Go.RowKit Go.Joins
set_option linter.unusedVariables false
end Go.Proofs.YtgfclblooadomaaDoor
