/- The walk of the exact law on ParseOp. -/
import Derived.Test.YtaiemogcboidhaaGreatDoorLo
namespace Go.Proofs.YtaiemogcboidhaaGreatDoor
open Go.ChangeShapes Go.WideShapes Go.ChangeAt Go.RowKit Go.Joins
set_option linter.unusedVariables false
set_option linter.unusedSimpArgs false
end Go.Proofs.YtaiemogcboidhaaGreatDoor
