/- The walk of the exact law on PackBits. -/
import Derived.Test.YtophlgnmfhoeiaaBj
namespace Go.Proofs.Ytophlgnmfhoeiaa
open Go.ChangeShapes Go.WideShapes Go.ChangeAt Go.RowKit Go.Joins
set_option linter.unusedVariables false

theorem walk_FnExactPackBits (o : Int) (s : ByteArray) (w : World) (h_o : -9223372036854775808 ≤ o ∧ o ≤ 9223372036854775807) (h_s : s.size ≤ maxLen) :
    Calls Try.prog 16 #[.int .i64 o, .string s] w fun e w' => e = .returned (.bool true) ∧ Below w.heap.size w w' := by
  by_cases big : 1048576 < s.size
  · unfold maxLen at *
    go_enter Try.func16, Try.ntmps16
    go_wp2_with fail
    go_ret
    exact ⟨rfl, by (repeat (first | with_reducible (first | assumption | exact Below.refl _ _ | refine bel_alloc ?_ _ | refine bel_drew ?_ | refine bel_drewN ?_ _ | refine bel_set ?_ (by first | omega | (simp; done) | (simp; omega)) _ | refine bel_trans ?_ (by assumption)) | assumption | refine bel_trans ?_ (by assumption)))⟩
  · cases h : packOk o s with
    | false =>
      go_enter Try.func16, Try.ntmps16
      go_wp2_with (first | (go_at_call 69; refine (c_sPackBits_no _ _ _ h_s h).mono ?_; rintro e w1 ⟨rfl, hb1⟩; have hc1 := bcell hb1) | (go_at_call 25; refine (c_PackBits_no _ _ _ h_s h).mono ?_; rintro e w2 ⟨rfl, hb2⟩; have hc2 := bcell hb2))
      go_ret
      exact ⟨rfl, by (repeat (first | with_reducible (first | assumption | exact Below.refl _ _ | refine bel_alloc ?_ _ | refine bel_drew ?_ | refine bel_drewN ?_ _ | refine bel_set ?_ (by first | omega | (simp; done) | (simp; omega)) _ | refine bel_trans ?_ (by assumption)) | assumption | refine bel_trans ?_ (by assumption)))⟩
    | true =>
      go_enter Try.func16, Try.ntmps16
      go_wp2_with (first | (go_at_call 69; refine (c_sPackBits_yes _ _ _ h_s h).mono ?_; rintro e w1 ⟨rfl, hb1⟩; have hc1 := bcell hb1) | (go_at_call 25; refine (c_PackBits_yes _ _ _ h_s h).mono ?_; rintro e w2 ⟨rfl, hb2⟩; have hc2 := bcell hb2))
      go_ret
      exact ⟨rfl, by (repeat (first | with_reducible (first | assumption | exact Below.refl _ _ | refine bel_alloc ?_ _ | refine bel_drew ?_ | refine bel_drewN ?_ _ | refine bel_set ?_ (by first | omega | (simp; done) | (simp; omega)) _ | refine bel_trans ?_ (by assumption)) | assumption | refine bel_trans ?_ (by assumption)))⟩
end Go.Proofs.Ytophlgnmfhoeiaa
