/- CountRaw in the program, and its law's walk. The layout of the header and the errors are as the program's text lays them. -/
import Derived.Test.YtepbjmpbcobfpaaDoorRz
namespace Go.Proofs.YtepbjmpbcobfpaaDoor
open Go.ChangeShapes Go.WideShapes Go.ChangeAt Go.RowKit Go.Joins
set_option linter.unusedVariables false
set_option linter.unusedSimpArgs false
end Go.Proofs.YtepbjmpbcobfpaaDoor
