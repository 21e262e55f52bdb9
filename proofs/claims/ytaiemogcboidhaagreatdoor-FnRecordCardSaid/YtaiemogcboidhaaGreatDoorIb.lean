/- Ranges and patches that are valid, in both programs. No condition but that the numbers are ints. -/
import Derived.Test.YtaiemogcboidhaaGreatDoorBa
import Derived.Test.YtaiemogcboidhaaGreatDoorBb
namespace Go.Proofs.YtaiemogcboidhaaGreatDoor
open Go.ChangeShapes Go.WideShapes Go.ChangeAt Go.RowKit Go.Joins
set_option linter.unusedVariables false
set_option linter.unusedSimpArgs false

theorem c_l6RangeI (f t z : Int) (w : World) : Calls Tryz.prog 52 #[.int .i64 f, .int .i64 t, .int .i64 z] w (Same (.bool (decide (0 ≤ f ∧ f ≤ t ∧ t ≤ z))) w) := by
  by_cases h1 : 0 ≤ t ∧ t ≤ z
  · have e1 : inB t 0 z = true := inB_iff.2 h1
    by_cases h2 : 0 ≤ f ∧ f ≤ t
    · have e2 : inB f 0 t = true := inB_iff.2 h2
      have HR := hid (show decide (0 ≤ f ∧ f ≤ t ∧ t ≤ z) = true from decide_eq_true (by omega))
      have H1 := hid (fun (v : World) => c_l1In t 0 z v)
      have H2 := hid (fun (v : World) => c_l1In f 0 t v)
      simp only [e1] at H1
      simp only [e2] at H2
      clear e1 e2 h1 h2
      go_enter Tryz.func52, Tryz.ntmps52
      go_wp2_with fail
      refine (H1.out _).mono ?_
      rintro e w1 ⟨rfl, rfl⟩
      go_wp2_with fail
      refine (H2.out _).mono ?_
      rintro e w1 ⟨rfl, rfl⟩
      go_wp2
      go_ret
      exact ⟨ret_bool HR.out.symm, rfl⟩
    · have e2 : inB f 0 t = false := by rw [Bool.eq_false_iff]; exact fun e => h2 (inB_iff.1 e)
      have HR := hid (show decide (0 ≤ f ∧ f ≤ t ∧ t ≤ z) = false from decide_eq_false (by omega))
      have H1 := hid (fun (v : World) => c_l1In t 0 z v)
      have H2 := hid (fun (v : World) => c_l1In f 0 t v)
      simp only [e1] at H1
      simp only [e2] at H2
      clear e1 e2 h1 h2
      go_enter Tryz.func52, Tryz.ntmps52
      go_wp2_with fail
      refine (H1.out _).mono ?_
      rintro e w1 ⟨rfl, rfl⟩
      go_wp2_with fail
      refine (H2.out _).mono ?_
      rintro e w1 ⟨rfl, rfl⟩
      go_wp2
      go_ret
      exact ⟨ret_bool HR.out.symm, rfl⟩
  · have e1 : inB t 0 z = false := by rw [Bool.eq_false_iff]; exact fun e => h1 (inB_iff.1 e)
    have HR := hid (show decide (0 ≤ f ∧ f ≤ t ∧ t ≤ z) = false from decide_eq_false (by omega))
    have H1 := hid (fun (v : World) => c_l1In t 0 z v)
    simp only [e1] at H1
    clear e1 h1
    go_enter Tryz.func52, Tryz.ntmps52
    go_wp2_with fail
    refine (H1.out _).mono ?_
    rintro e w1 ⟨rfl, rfl⟩
    go_wp2
    go_ret
    exact ⟨ret_bool HR.out.symm, rfl⟩

theorem c_patchValidI (f t : Int) (D : ByteArray) (w : World) (hf : -9223372036854775808 ≤ f ∧ f ≤ 9223372036854775807) (ht : -9223372036854775808 ≤ t ∧ t ≤ 9223372036854775807) (hD : D.size ≤ maxLen) : Calls Tryz.prog 27 #[.agg #[.int .i64 f, .int .i64 t, .string D]] w fun e w' => e = .returned (.bool (decide (0 ≤ f ∧ f ≤ t ∧ t ≤ 2000 ∧ D.size ≤ 2000))) ∧ Below w.heap.size w w' := by
  unfold maxLen at hD
  by_cases h1 : 0 ≤ f
  · by_cases h2 : f ≤ t
    · by_cases h3 : t ≤ 2000
      · by_cases h4 : (D.size : Int) ≤ 2000
        all_goals
          go_enter Tryz.func27, Tryz.ntmps27
          go_wp2
          go_ret
          exact ⟨ret_bool (by rw [Bool.eq_iff_iff]; simp; omega), by exact obB⟩
      · go_enter Tryz.func27, Tryz.ntmps27
        go_wp2
        go_ret
        exact ⟨ret_bool (by rw [Bool.eq_iff_iff]; simp; omega), by exact obB⟩
    · go_enter Tryz.func27, Tryz.ntmps27
      go_wp2
      go_ret
      exact ⟨ret_bool (by rw [Bool.eq_iff_iff]; simp; omega), by exact obB⟩
  · go_enter Tryz.func27, Tryz.ntmps27
    go_wp2
    go_ret
    exact ⟨ret_bool (by rw [Bool.eq_iff_iff]; simp; omega), by exact obB⟩
end Go.Proofs.YtaiemogcboidhaaGreatDoor
