/- Contracts of BitsNeeded in both programs. No condition. -/
import Derived.Test.YtoiifopjipfjhaaSet
import Derived.Test.YtoiifopjipfjhaaShelf
namespace Go.Proofs.Ytoiifopjipfjhaa
open Go.ChangeShapes Go.WideShapes Go.ChangeAt Go.RowKit Go.Joins
set_option linter.unusedVariables false

def nd (x : Nat) : Nat := max 1 (Lib.bitLen x)
def bitsNeeded (n : Int) : Int := if n < 0 then -1 else (nd n.toNat : Int)
theorem bitLen_zero : Lib.bitLen 0 = 0 := by decide
theorem nd_small {x : Nat} (h : x ≤ 1) : nd x = 1 := by
  have : x = 0 ∨ x = 1 := by omega
  rcases this with rfl | rfl <;> decide
theorem nd_half {x : Nat} (h : 2 ≤ x) (h2 : x < 2 ^ 64) : nd x = nd (x / 2) + 1 := by
  have h1 := Lib.bitLen_half x (by omega) h2
  have h3 := Lib.bitLen_half (x / 2) (by omega) (by omega)
  unfold nd; omega
theorem nd_pos (x : Nat) : 1 ≤ nd x := by unfold nd; omega
theorem nd_le {x : Nat} (h2 : x < 2 ^ 64) : nd x ≤ 64 := by
  have : ∀ k x : Nat, 1 ≤ k → x < 2 ^ k → k ≤ 64 → nd x ≤ k := by
    intro k
    induction k with
    | zero => intro x h; omega
    | succ k ih =>
      intro x _ hx hk
      by_cases h : 2 ≤ x
      · have hp : (2 : Nat) ^ (k + 1) ≤ 2 ^ 64 := Nat.pow_le_pow_right (by omega) (by omega)
        rw [nd_half h (by omega)]
        rw [Nat.pow_succ] at hx
        have hk1 : 1 ≤ k := by
          rcases Nat.eq_zero_or_pos k with e | e
          · subst e; simp at hx; omega
          · exact e
        have := ih (x / 2) hk1 (by omega) (by omega)
        omega
      · rw [nd_small (by omega)]; omega
  exact this 64 x (by omega) h2 (by omega)

theorem c_BitsNeeded (n : Int) (w : World) (hn : -9223372036854775808 ≤ n ∧ n ≤ 9223372036854775807) : Calls Try.prog 49 #[.int .i64 n] w (Same (.int .i64 (bitsNeeded n)) w) := by
  by_cases h : n < 0
  · go_enter Try.func49, Try.ntmps49
    go_wp2
    go_ret
    exact ⟨ret_int (by simp [bitsNeeded, h]), rfl⟩
  · have h0 : 0 ≤ n := by omega
    obtain ⟨h1, h2⟩ := hn
    clear h1
    go_enter Try.func49, Try.ntmps49
    go_wp2_with (go_at_call 118; refine (Try.bits_Len _ _ (by omega) (by omega)).mono ?_; rintro e w' ⟨rfl, rfl⟩)
    go_ret
    exact ⟨ret_int (by rw [bitsNeeded, if_neg (by omega), nd]; omega), rfl⟩

theorem c_l1Needed (n : Int) (w : World) (h0 : 0 ≤ n) (h1 : n ≤ 9223372036854775807) : Calls Try.prog 180 #[.int .i64 n] w (Same (.int .i64 (nd n.toNat)) w) := by
  have hnd := nd_le (x := n.toNat) (by omega)
  go_enter Try.func180, Try.ntmps180
  go_wp2
  go_loop [0, 3] (fun a b => ∃ (x r : Nat), x < 2 ^ 63 ∧ a = .int .i64 x ∧ b = .int .i64 r ∧ r + nd x = nd n.toNat + 1) (fun a _ => (intOf a).toNat)
  case atStart => exact ⟨n.toNat, 1, by omega, by rw [Int.toNat_of_nonneg h0], rfl, by omega⟩
  case round =>
    obtain ⟨x, r, hx, rfl, rfl, hr⟩ := hrel
    have hx1 := nd_pos x
    by_cases h2 : 2 ≤ x
    · have HR := hid hr
      have hr2 : r ≤ 64 := by omega
      clear hr hx1
      go_wp2
      go_round
      case rel => exact ⟨x / 2, r + 1, by omega, by go_num, by go_num, by have := HR.out; rw [nd_half h2 (by omega)] at this; omega⟩
      case measure => simp [intOf]; omega
    · have hs := nd_small (x := x) (by omega)
      have HR := hid hr
      have HS := hid hs
      clear hr hx1 hs
      go_wp2
      go_ret
      exact ⟨ret_int (by have := HR.out; have := HS.out; omega), rfl⟩
end Go.Proofs.Ytoiifopjipfjhaa
