/- Contracts of the model's own drawing of arguments: an order and bits. -/
import Derived.Test.YtlocmgibmclgnaaDraw3
namespace Go.Proofs.Ytlocmgibmclgnaa
open Go.ChangeShapes Go.WideShapes Go.ChangeAt Go.RowKit Go.Joins
set_option linter.unusedVariables false
end Go.Proofs.Ytlocmgibmclgnaa
