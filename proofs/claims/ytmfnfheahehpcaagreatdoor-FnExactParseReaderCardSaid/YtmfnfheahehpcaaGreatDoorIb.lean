/- Ranges and patches that are valid, in both programs. No condition but that the numbers are ints. -/
import Derived.Test.YtmfnfheahehpcaaGreatDoorBa
import Derived.Test.YtmfnfheahehpcaaGreatDoorBb
namespace Go.Proofs.YtmfnfheahehpcaaGreatDoor
open Go.ChangeShapes Go.WideShapes Go.ChangeAt Go.RowKit Go.Joins
set_option linter.unusedVariables false
set_option linter.unusedSimpArgs false
end Go.Proofs.YtmfnfheahehpcaaGreatDoor
