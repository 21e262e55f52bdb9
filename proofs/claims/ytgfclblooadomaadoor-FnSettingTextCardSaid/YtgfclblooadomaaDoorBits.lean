/- Contracts of CodeBits, BitsCode, ReverseBits in both programs, and of what they call. -/
import Derived.Test.YtgfclblooadomaaDoorFit
import Derived.Test.YtgfclblooadomaaDoorMath
namespace Go.Proofs.YtgfclblooadomaaDoor
open Go.ChangeShapes Go.WideShapes Go.ChangeAt Go.RowKit Go.Joins
set_option linter.unusedVariables false

def place (o i width : Int) : Int := if o = 1 then width - 1 - i else i

/-- a binary digit -/
def dgI (n p : Int) : Int := ((n / 2 ^ p.toNat) % 2)
theorem dgI_bd (n p : Int) : 0 ≤ dgI n p ∧ dgI n p ≤ 1 := by unfold dgI; omega
theorem and_one {x : Int} (h0 : 0 ≤ x) (h1 : x ≤ 9223372036854775807) : bits .and .i64 x 1 = x % 2 := by
  have := (bits_nat .i64 63 (by decide) (fun n h0 h1 => IntWalk.i64_in n (by omega)) x.toNat 1 (by omega) (by omega)).1
  rw [show ((x.toNat : Nat) : Int) = x from by omega, Nat.and_one_is_mod] at this
  exact this.trans (by omega)
theorem div_pow_bd {n : Int} (k : Nat) (h0 : 0 ≤ n) (h1 : n ≤ 9223372036854775807) : 0 ≤ n / 2 ^ k ∧ n / 2 ^ k ≤ 9223372036854775807 := by
  have hp : (0 : Int) < 2 ^ k := by exact_mod_cast Nat.pow_pos (n := k) (by omega : 0 < 2)
  exact ⟨Int.ediv_nonneg h0 (by omega), Int.le_trans (Int.ediv_le_self _ h0) h1⟩
/-- the first k digits, as letters -/
def dl (o n width : Int) (k : Nat) : List UInt8 := (List.range k).map fun (i : Nat) => M.chr (dgI n (place o i width) == 1)
theorem dl_succ (o n width : Int) (k : Nat) : dl o n width (k + 1) = dl o n width k ++ [M.chr (dgI n (place o k width) == 1)] := by simp [dl, List.range_succ]
theorem chr_dg (n p : Int) : (48 + dgI n p) = ((M.chr (dgI n p == 1)).toNat : Int) := by
  have := dgI_bd n p
  rcases (show dgI n p = 0 ∨ dgI n p = 1 from by omega) with h | h <;> rw [h] <;> rfl
end Go.Proofs.YtgfclblooadomaaDoor
