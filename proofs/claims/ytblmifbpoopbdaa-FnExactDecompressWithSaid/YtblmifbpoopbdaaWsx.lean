/- The byte of a string at an index. No condition. -/
import Derived.Test.YtblmifbpoopbdaaBa
namespace Go.Proofs.Ytblmifbpoopbdaa
open Go.ChangeShapes Go.WideShapes Go.ChangeAt Go.RowKit Go.Joins
set_option linter.unusedVariables false

theorem idx_str {P : Program} {t : TypeId} (ht : P.underlying t = some .string) (s : ByteArray) (n : Nat) (h : n < s.size) (k : IntKind) (X : Int) (hX : X = (n : Int)) (w : World) :
    (Instr.index t (.string s) (.int k X)).run P w = .ok (.int .u8 ((s[n]).toNat : Int)) w := by
  subst hX
  have e := run_index_string (P := P) (w := w) t s k (n : Int) ht
  rw [dif_pos (by omega)] at e
  exact e
end Go.Proofs.Ytblmifbpoopbdaa
