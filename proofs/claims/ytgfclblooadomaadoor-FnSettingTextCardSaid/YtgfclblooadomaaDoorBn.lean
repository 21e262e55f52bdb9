/- Contracts of BitsNeeded in both programs. No condition. -/
import Derived.Test.YtgfclblooadomaaDoorSet
import Derived.Test.YtgfclblooadomaaDoorShelf
namespace Go.Proofs.YtgfclblooadomaaDoor
open Go.ChangeShapes Go.WideShapes Go.ChangeAt Go.RowKit Go.Joins
set_option linter.unusedVariables false

def nd (x : Nat) : Nat := max 1 (Lib.bitLen x)
def bitsNeeded (n : Int) : Int := if n < 0 then -1 else (nd n.toNat : Int)
theorem bitLen_zero : Lib.bitLen 0 = 0 := by decide
theorem nd_small {x : Nat} (h : x ≤ 1) : nd x = 1 := by
  have : x = 0 ∨ x = 1 := by omega
  rcases this with rfl | rfl <;> decide
theorem nd_half {x : Nat} (h : 2 ≤ x) (h2 : x < 2 ^ 64) : nd x = nd (x / 2) + 1 := by
  have h1 := Lib.bitLen_half x (by omega) h2
  have h3 := Lib.bitLen_half (x / 2) (by omega) (by omega)
  unfold nd; omega
theorem nd_pos (x : Nat) : 1 ≤ nd x := by unfold nd; omega
theorem nd_le {x : Nat} (h2 : x < 2 ^ 64) : nd x ≤ 64 := by
  have : ∀ k x : Nat, 1 ≤ k → x < 2 ^ k → k ≤ 64 → nd x ≤ k := by
    intro k
    induction k with
    | zero => intro x h; omega
    | succ k ih =>
      intro x _ hx hk
      by_cases h : 2 ≤ x
      · have hp : (2 : Nat) ^ (k + 1) ≤ 2 ^ 64 := Nat.pow_le_pow_right (by omega) (by omega)
        rw [nd_half h (by omega)]
        rw [Nat.pow_succ] at hx
        have hk1 : 1 ≤ k := by
          rcases Nat.eq_zero_or_pos k with e | e
          · subst e; simp at hx; omega
          · exact e
        have := ih (x / 2) hk1 (by omega) (by omega)
        omega
      · rw [nd_small (by omega)]; omega
  exact this 64 x (by omega) h2 (by omega)
end Go.Proofs.YtgfclblooadomaaDoor
