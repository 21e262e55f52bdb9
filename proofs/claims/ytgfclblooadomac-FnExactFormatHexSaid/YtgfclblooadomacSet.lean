/- Contracts of the functions on settings: both programs' SettingValid and what it calls. No condition but that the numbers are int's. -/
import Derived.Test.YtgfclblooadomacChecked
import Derived.Test.YtgfclblooadomacOpen
namespace Go.Proofs.Ytgfclblooadomac
open Go.ChangeShapes Go.WideShapes Go.ChangeAt Go.RowKit Go.Joins
set_option linter.unusedVariables false

def orderOk (o : Int) : Bool := o == 0 || o == 1
def inB (n lo hi : Int) : Bool := decide (lo ≤ n ∧ n ≤ hi)
def setOk (o l m : Int) : Bool := orderOk o && inB l 1 8 && inB m (l + 2) 10
abbrev Same (v : Value) (w : World) (e : Ending) (w' : World) : Prop := e = .returned v ∧ w = w'

theorem c_valid (o : Int) (w : World) : Calls Try.prog 40 #[.int .i64 o] w (Same (.bool (orderOk o)) w) := by
  go_enter Try.func40, Try.ntmps40
  go_wp2
  all_goals
    go_ret
    exact ⟨ret_bool (by simp [orderOk, *]), rfl⟩
theorem c_l1Order (o : Int) (w : World) : Calls Try.prog 39 #[.int .i64 o] w (Same (.bool (orderOk o)) w) := by
  go_enter Try.func39, Try.ntmps39
  go_wp2
  all_goals
    go_ret
    exact ⟨ret_bool (by simp [orderOk, *]), rfl⟩
theorem c_l1In (n lo hi : Int) (w : World) : Calls Try.prog 32 #[.int .i64 n, .int .i64 lo, .int .i64 hi] w (Same (.bool (inB n lo hi)) w) := by
  go_enter Try.func32, Try.ntmps32
  go_wp2
  all_goals
    go_ret
    exact ⟨ret_bool (by simp [inB]; omega), rfl⟩
theorem inB_iff {n lo hi : Int} : inB n lo hi = true ↔ lo ≤ n ∧ n ≤ hi := by simp [inB]
theorem setOk_iff {o l m : Int} : setOk o l m = true ↔ (o = 0 ∨ o = 1) ∧ (1 ≤ l ∧ l ≤ 8) ∧ (l + 2 ≤ m ∧ m ≤ 10) := by simp [setOk, inB, orderOk, and_assoc]
end Go.Proofs.Ytgfclblooadomac
