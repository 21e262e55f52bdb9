/- Contracts of SharedStart, SharedEnd, PatchOf, ApplyPatch, InvertPatch in both programs. No condition but that the numbers are int's. -/
import Derived.Test.YtmlaaammfnboiaaGreatDoorBa
import Derived.Test.YtmlaaammfnboiaaGreatDoorBb
import Derived.Deep.QuietTactic
import Derived.BigQuiet
namespace Go.Proofs.YtmlaaammfnboiaaGreatDoor
open Go.ChangeShapes Go.WideShapes Go.ChangeAt Go.RowKit Go.Joins
set_option linter.unusedVariables false

theorem idx_st {P : Program} {t : TypeId} (ht : P.underlying t = some .string) (s : ByteArray) (n : Nat) (h : n < s.size) (k : IntKind) (X : Int) (hX : X = (n : Int)) (w : World) :
  (Instr.index t (.string s) (.int k X)).run P w = .ok (.int .u8 ((s[n]).toNat : Int)) w := by
 subst hX
 have e := run_index_string (P := P) (w := w) t s k (n : Int) ht
 rw [dif_pos (by omega)] at e
 exact e
end Go.Proofs.YtmlaaammfnboiaaGreatDoor
