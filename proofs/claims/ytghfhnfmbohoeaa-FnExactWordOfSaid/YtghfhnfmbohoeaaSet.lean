/- Contracts of the functions on settings: both programs' SettingValid and what it calls. No condition but that the numbers are int's. -/
import Derived.Test.YtghfhnfmbohoeaaChecked
import Derived.Test.YtghfhnfmbohoeaaOpen
namespace Go.Proofs.Ytghfhnfmbohoeaa
open Go.ChangeShapes Go.WideShapes Go.ChangeAt Go.RowKit Go.Joins
set_option linter.unusedVariables false

def orderOk (o : Int) : Bool := o == 0 || o == 1
def inB (n lo hi : Int) : Bool := decide (lo ≤ n ∧ n ≤ hi)
def setOk (o l m : Int) : Bool := orderOk o && inB l 1 8 && inB m (l + 2) 10
abbrev Same (v : Value) (w : World) (e : Ending) (w' : World) : Prop := e = .returned v ∧ w = w'

theorem c_valid (o : Int) (w : World) : Calls Try.prog 129 #[.int .i64 o] w (Same (.bool (orderOk o)) w) := by
  go_enter Try.func129, Try.ntmps129
  go_wp2
  all_goals
    go_ret
    exact ⟨ret_bool (by simp [orderOk, *]), rfl⟩
theorem c_l1Order (o : Int) (w : World) : Calls Try.prog 126 #[.int .i64 o] w (Same (.bool (orderOk o)) w) := by
  go_enter Try.func126, Try.ntmps126
  go_wp2
  all_goals
    go_ret
    exact ⟨ret_bool (by simp [orderOk, *]), rfl⟩
theorem c_l1In (n lo hi : Int) (w : World) : Calls Try.prog 74 #[.int .i64 n, .int .i64 lo, .int .i64 hi] w (Same (.bool (inB n lo hi)) w) := by
  go_enter Try.func74, Try.ntmps74
  go_wp2
  all_goals
    go_ret
    exact ⟨ret_bool (by simp [inB]; omega), rfl⟩
theorem inB_iff {n lo hi : Int} : inB n lo hi = true ↔ lo ≤ n ∧ n ≤ hi := by simp [inB]
theorem setOk_iff {o l m : Int} : setOk o l m = true ↔ (o = 0 ∨ o = 1) ∧ (1 ≤ l ∧ l ≤ 8) ∧ (l + 2 ≤ m ∧ m ≤ 10) := by simp [setOk, inB, orderOk, and_assoc]

theorem c_sSettingValid (o l m : Int) (w : World) : Calls Try.prog 71 #[.agg #[.int .i64 o, .int .i64 l, .int .i64 m]] w fun e w' => e = .returned (.bool (setOk o l m)) ∧ Below w.heap.size w w' := by
  cases h1 : orderOk o with
  | false =>
    go_enter Try.func71, Try.ntmps71
    go_wp2_with (go_at_call 126; refine (c_l1Order _ _).mono ?_; rintro e w' ⟨rfl, rfl⟩)
    go_ret
    exact ⟨ret_bool (by simp [setOk, h1]), (Below.refl _ _).alloc (Nat.le_refl _) _⟩
  | true =>
    cases h2 : inB l 1 8 with
    | false =>
      go_enter Try.func71, Try.ntmps71
      go_wp2_with (first | (go_at_call 126; refine (c_l1Order _ _).mono ?_; rintro e w' ⟨rfl, rfl⟩) | (go_at_call 74; refine (c_l1In _ _ _ _).mono ?_; rintro e w' ⟨rfl, rfl⟩))
      go_ret
      exact ⟨ret_bool (by simp [setOk, h1, h2]), (Below.refl _ _).alloc (Nat.le_refl _) _⟩
    | true =>
      have hl := inB_iff.1 h2
      go_enter Try.func71, Try.ntmps71
      go_wp2_with (first | (go_at_call 126; refine (c_l1Order _ _).mono ?_; rintro e w' ⟨rfl, rfl⟩) | (go_at_call 74; refine (c_l1In _ _ _ _).mono ?_; rintro e w' ⟨rfl, rfl⟩))
      go_ret
      exact ⟨ret_bool (by simp [setOk, h1, h2]), (Below.refl _ _).alloc (Nat.le_refl _) _⟩

theorem c_SettingValid (o l m : Int) (w : World) : Calls Try.prog 78 #[.agg #[.int .i64 o, .int .i64 l, .int .i64 m]] w fun e w' => e = .returned (.bool (setOk o l m)) ∧ Below w.heap.size w w' := by
  cases h1 : orderOk o with
  | false =>
    go_enter Try.func78, Try.ntmps78
    go_wp2_with (go_at_call 129; refine (c_valid _ _).mono ?_; rintro e w' ⟨rfl, rfl⟩)
    go_ret
    exact ⟨ret_bool (by simp [setOk, h1]), (Below.refl _ _).alloc (Nat.le_refl _) _⟩
  | true =>
    by_cases h2 : 1 ≤ l
    · by_cases h3 : l ≤ 8
      · by_cases h4 : l + 2 ≤ m
        all_goals
          go_enter Try.func78, Try.ntmps78
          go_wp2_with (go_at_call 129; refine (c_valid _ _).mono ?_; rintro e w' ⟨rfl, rfl⟩)
          go_ret
          exact ⟨ret_bool (by rw [Bool.eq_iff_iff]; simp [setOk, inB, h1]; omega), (Below.refl _ _).alloc (Nat.le_refl _) _⟩
      · go_enter Try.func78, Try.ntmps78
        go_wp2_with (go_at_call 129; refine (c_valid _ _).mono ?_; rintro e w' ⟨rfl, rfl⟩)
        go_ret
        exact ⟨ret_bool (by rw [Bool.eq_iff_iff]; simp [setOk, inB, h1]; omega), (Below.refl _ _).alloc (Nat.le_refl _) _⟩
    · go_enter Try.func78, Try.ntmps78
      go_wp2_with (go_at_call 129; refine (c_valid _ _).mono ?_; rintro e w' ⟨rfl, rfl⟩)
      go_ret
      exact ⟨ret_bool (by rw [Bool.eq_iff_iff]; simp [setOk, inB, h1]; omega), (Below.refl _ _).alloc (Nat.le_refl _) _⟩
end Go.Proofs.Ytghfhnfmbohoeaa
