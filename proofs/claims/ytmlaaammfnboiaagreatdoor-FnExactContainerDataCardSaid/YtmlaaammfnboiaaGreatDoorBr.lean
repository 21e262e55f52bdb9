/- Plain mathematics: codes that are written and read back. No condition. -/
import Derived.Test.YtmlaaammfnboiaaGreatDoorBb
import Derived.Test.YtmlaaammfnboiaaGreatDoorFm
namespace Go.Proofs.YtmlaaammfnboiaaGreatDoor
set_option linter.unusedVariables false

namespace Kn
/-- the bits of a code -/
def cb (k : Kn) (code : Int) : List Bool := M.dir (k.o == 1) (M.bitsOf k.width.toNat code.toNat)
def bl : Kn → List Int → List Bool
 | _, [] => []
 | k, code :: t => k.cb code ++ bl (k.step code) t
end Kn
theorem Kn.cb_len (k : Kn) (code : Int) : (k.cb code).length = k.width.toNat := by simp [Kn.cb, M.dir_length, M.bitsOf_length]
end Go.Proofs.YtmlaaammfnboiaaGreatDoor
