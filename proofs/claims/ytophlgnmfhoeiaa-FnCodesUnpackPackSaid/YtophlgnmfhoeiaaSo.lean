/- The laws' own comparison of what is known, and their look-up of a word. No condition but that the numbers are int's. -/
import Derived.Test.YtophlgnmfhoeiaaBc
import Derived.Test.YtophlgnmfhoeiaaBf
namespace Go.Proofs.Ytophlgnmfhoeiaa
open Go.ChangeShapes Go.WideShapes Go.ChangeAt Go.RowKit Go.Joins
set_option linter.unusedVariables false
end Go.Proofs.Ytophlgnmfhoeiaa
