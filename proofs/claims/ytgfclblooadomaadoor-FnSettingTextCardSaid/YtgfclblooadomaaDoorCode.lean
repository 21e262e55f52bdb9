/- Contracts of ClearCode, EndCode, LastCode in both programs. No condition. -/
import Derived.Test.YtgfclblooadomaaDoorSet
namespace Go.Proofs.YtgfclblooadomaaDoor
open Go.ChangeShapes Go.WideShapes Go.ChangeAt Go.RowKit Go.Joins
set_option linter.unusedVariables false

def pow2 (n : Int) : Int := 2 ^ n.toNat
def clearCode (o l m : Int) : Int := if setOk o l m = true then pow2 l else -1
def endCode (o l m : Int) : Int := if setOk o l m = true then pow2 l + 1 else -1
def lastCode (o l m : Int) : Int := if setOk o l m = true then pow2 m - 1 else -1

theorem pow2_bd {n : Int} (h1 : n ≤ 30) : 1 ≤ pow2 n ∧ pow2 n ≤ 1073741824 := by
  have h : (2 : Int) ^ n.toNat = ((2 ^ n.toNat : Nat) : Int) := by simp
  have h2 : 2 ^ n.toNat ≤ 2 ^ 30 := Nat.pow_le_pow_right (by omega) (by omega)
  have h3 : 0 < 2 ^ n.toNat := Nat.pow_pos (by omega)
  unfold pow2; rw [h]; omega

theorem wrap_pow {n : Int} (h1 : n ≤ 30) : wrap64 (2 ^ n.toNat) = pow2 n := by
  have := pow2_bd h1
  exact IntWalk.wrap64_in _ (by unfold pow2 at this; omega)
theorem wrap_pow1 {n : Int} (h1 : n ≤ 30) : wrap64 (wrap64 (2 ^ n.toNat) + 1) = pow2 n + 1 := by
  rw [wrap_pow h1]; have := pow2_bd h1
  exact IntWalk.wrap64_in _ (by omega)
theorem wrap_pow0 {n : Int} (h1 : n ≤ 30) : wrap64 (wrap64 (2 ^ n.toNat) - 1) = pow2 n - 1 := by
  rw [wrap_pow h1]; have := pow2_bd h1
  exact IntWalk.wrap64_in _ (by omega)
end Go.Proofs.YtgfclblooadomaaDoor
