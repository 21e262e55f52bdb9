/- Plain mathematics: streams of codes. No condition. -/
import Derived.Test.YtmlaaammfnboiaaGreatDoorBr
import Derived.Test.YtmlaaammfnboiaaGreatDoorRq
import Derived.Test.YtmlaaammfnboiaaGreatDoorBk
import Derived.Test.YtmlaaammfnboiaaGreatDoorBj
import Derived.Test.YtmlaaammfnboiaaGreatDoorGm
namespace Go.Proofs.YtmlaaammfnboiaaGreatDoor
set_option linter.unusedVariables false

end Go.Proofs.YtmlaaammfnboiaaGreatDoor
