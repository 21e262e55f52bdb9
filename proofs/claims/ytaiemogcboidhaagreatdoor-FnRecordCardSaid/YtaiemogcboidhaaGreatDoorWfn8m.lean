/- Plain facts on powers of two and their digits. -/
import Derived.Test.YtaiemogcboidhaaGreatDoorBa
namespace Go.Proofs.YtaiemogcboidhaaGreatDoor
open Go.ChangeShapes Go.WideShapes Go.ChangeAt Go.RowKit Go.Joins
set_option linter.unusedVariables false

theorem bits_pow_all : ∀ k : Fin 11, 1 ≤ k.val → bitsNeeded (pow2 (k.val : Int) - 1) = (k.val : Int) ∧ bitsNeeded (pow2 (k.val : Int)) = (k.val : Int) + 1 := by decide +kernel
theorem bits_pow {m : Int} (h1 : 1 ≤ m) (h2 : m ≤ 10) : bitsNeeded (pow2 m - 1) = m ∧ bitsNeeded (pow2 m) = m + 1 := by
  obtain ⟨k, rfl⟩ := Int.eq_ofNat_of_zero_le (show 0 ≤ m by omega)
  exact bits_pow_all ⟨k, by omega⟩ (by show 1 ≤ k; omega)
theorem pow_gap_all : ∀ k : Fin 9, 1 ≤ k.val → 2 ≤ pow2 (k.val : Int) ∧ pow2 (k.val : Int) ≤ 256 := by decide +kernel
theorem pow_lo {l : Int} (h1 : 1 ≤ l) (h2 : l ≤ 8) : 2 ≤ pow2 l ∧ pow2 l ≤ 256 := by
  obtain ⟨k, rfl⟩ := Int.eq_ofNat_of_zero_le (show 0 ≤ l by omega)
  exact pow_gap_all ⟨k, by omega⟩ (by show 1 ≤ k; omega)
theorem pow_two_more {l m : Int} (h1 : 1 ≤ l) (h2 : l + 2 ≤ m) (h3 : m ≤ 10) : 4 * pow2 l ≤ pow2 m ∧ pow2 m ≤ 1024 := by
  have e : (4 : Nat) * 2 ^ l.toNat ≤ 2 ^ m.toNat := by
    rw [show (4 : Nat) = 2 ^ 2 from rfl, ← Nat.pow_add]; exact Nat.pow_le_pow_right (by omega) (by omega)
  have e2 : 2 ^ m.toNat ≤ 2 ^ 10 := Nat.pow_le_pow_right (by omega) (by omega)
  have h : ∀ n : Int, pow2 n = ((2 ^ n.toNat : Nat) : Int) := fun n => by simp [pow2]
  rw [h l, h m]; omega
end Go.Proofs.YtaiemogcboidhaaGreatDoor
