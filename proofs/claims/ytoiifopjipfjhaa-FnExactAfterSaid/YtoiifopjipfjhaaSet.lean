/- Contracts of the functions on settings: both programs' SettingValid and what it calls. No condition but that the numbers are int's. -/
import Derived.Test.YtoiifopjipfjhaaChecked
import Derived.Test.YtoiifopjipfjhaaOpen
namespace Go.Proofs.Ytoiifopjipfjhaa
open Go.ChangeShapes Go.WideShapes Go.ChangeAt Go.RowKit Go.Joins
set_option linter.unusedVariables false

def orderOk (o : Int) : Bool := o == 0 || o == 1
def inB (n lo hi : Int) : Bool := decide (lo ≤ n ∧ n ≤ hi)
def setOk (o l m : Int) : Bool := orderOk o && inB l 1 8 && inB m (l + 2) 10
abbrev Same (v : Value) (w : World) (e : Ending) (w' : World) : Prop := e = .returned v ∧ w = w'

theorem c_valid (o : Int) (w : World) : Calls Try.prog 101 #[.int .i64 o] w (Same (.bool (orderOk o)) w) := by
  go_enter Try.func101, Try.ntmps101
  go_wp2
  all_goals
    go_ret
    exact ⟨ret_bool (by simp [orderOk, *]), rfl⟩
theorem c_l1Order (o : Int) (w : World) : Calls Try.prog 167 #[.int .i64 o] w (Same (.bool (orderOk o)) w) := by
  go_enter Try.func167, Try.ntmps167
  go_wp2
  all_goals
    go_ret
    exact ⟨ret_bool (by simp [orderOk, *]), rfl⟩
theorem c_l1In (n lo hi : Int) (w : World) : Calls Try.prog 168 #[.int .i64 n, .int .i64 lo, .int .i64 hi] w (Same (.bool (inB n lo hi)) w) := by
  go_enter Try.func168, Try.ntmps168
  go_wp2
  all_goals
    go_ret
    exact ⟨ret_bool (by simp [inB]; omega), rfl⟩
theorem inB_iff {n lo hi : Int} : inB n lo hi = true ↔ lo ≤ n ∧ n ≤ hi := by simp [inB]
theorem setOk_iff {o l m : Int} : setOk o l m = true ↔ (o = 0 ∨ o = 1) ∧ (1 ≤ l ∧ l ≤ 8) ∧ (l + 2 ≤ m ∧ m ≤ 10) := by simp [setOk, inB, orderOk, and_assoc]

theorem c_sSettingValid (o l m : Int) (w : World) : Calls Try.prog 100 #[.agg #[.int .i64 o, .int .i64 l, .int .i64 m]] w fun e w' => e = .returned (.bool (setOk o l m)) ∧ Below w.heap.size w w' := by
  cases h1 : orderOk o with
  | false =>
    go_enter Try.func100, Try.ntmps100
    go_wp2_with (go_at_call 167; refine (c_l1Order _ _).mono ?_; rintro e w' ⟨rfl, rfl⟩)
    go_ret
    exact ⟨ret_bool (by simp [setOk, h1]), (Below.refl _ _).alloc (Nat.le_refl _) _⟩
  | true =>
    cases h2 : inB l 1 8 with
    | false =>
      go_enter Try.func100, Try.ntmps100
      go_wp2_with (first | (go_at_call 167; refine (c_l1Order _ _).mono ?_; rintro e w' ⟨rfl, rfl⟩) | (go_at_call 168; refine (c_l1In _ _ _ _).mono ?_; rintro e w' ⟨rfl, rfl⟩))
      go_ret
      exact ⟨ret_bool (by simp [setOk, h1, h2]), (Below.refl _ _).alloc (Nat.le_refl _) _⟩
    | true =>
      have hl := inB_iff.1 h2
      go_enter Try.func100, Try.ntmps100
      go_wp2_with (first | (go_at_call 167; refine (c_l1Order _ _).mono ?_; rintro e w' ⟨rfl, rfl⟩) | (go_at_call 168; refine (c_l1In _ _ _ _).mono ?_; rintro e w' ⟨rfl, rfl⟩))
      go_ret
      exact ⟨ret_bool (by simp [setOk, h1, h2]), (Below.refl _ _).alloc (Nat.le_refl _) _⟩

theorem c_SettingValid (o l m : Int) (w : World) : Calls Try.prog 35 #[.agg #[.int .i64 o, .int .i64 l, .int .i64 m]] w fun e w' => e = .returned (.bool (setOk o l m)) ∧ Below w.heap.size w w' := by
  cases h1 : orderOk o with
  | false =>
    go_enter Try.func35, Try.ntmps35
    go_wp2_with (go_at_call 101; refine (c_valid _ _).mono ?_; rintro e w' ⟨rfl, rfl⟩)
    go_ret
    exact ⟨ret_bool (by simp [setOk, h1]), (Below.refl _ _).alloc (Nat.le_refl _) _⟩
  | true =>
    by_cases h2 : 1 ≤ l
    · by_cases h3 : l ≤ 8
      · by_cases h4 : l + 2 ≤ m
        all_goals
          go_enter Try.func35, Try.ntmps35
          go_wp2_with (go_at_call 101; refine (c_valid _ _).mono ?_; rintro e w' ⟨rfl, rfl⟩)
          go_ret
          exact ⟨ret_bool (by rw [Bool.eq_iff_iff]; simp [setOk, inB, h1]; omega), (Below.refl _ _).alloc (Nat.le_refl _) _⟩
      · go_enter Try.func35, Try.ntmps35
        go_wp2_with (go_at_call 101; refine (c_valid _ _).mono ?_; rintro e w' ⟨rfl, rfl⟩)
        go_ret
        exact ⟨ret_bool (by rw [Bool.eq_iff_iff]; simp [setOk, inB, h1]; omega), (Below.refl _ _).alloc (Nat.le_refl _) _⟩
    · go_enter Try.func35, Try.ntmps35
      go_wp2_with (go_at_call 101; refine (c_valid _ _).mono ?_; rintro e w' ⟨rfl, rfl⟩)
      go_ret
      exact ⟨ret_bool (by rw [Bool.eq_iff_iff]; simp [setOk, inB, h1]; omega), (Below.refl _ _).alloc (Nat.le_refl _) _⟩
end Go.Proofs.Ytoiifopjipfjhaa
