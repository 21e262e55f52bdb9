/- The walks of the exact laws on TurnBytes and PadBits. -/
import Derived.Test.YtgfclblooadomacPad
namespace Go.Proofs.Ytgfclblooadomac
open Go.ChangeShapes Go.WideShapes Go.ChangeAt Go.RowKit Go.Joins
set_option linter.unusedVariables false

theorem walk_FnExactTurnBytes (s : ByteArray) (w : World) (h_s : s.size ≤ maxLen) :
    Calls Try.prog 4 #[.string s] w fun e w' => e = .returned (.bool true) ∧ Below w.heap.size w w' := by
  by_cases big : 1048576 < s.size
  · unfold maxLen at *
    go_enter Try.func4, Try.ntmps4
    go_wp2_with fail
    go_ret
    exact ⟨rfl, by (repeat (first | exact Below.refl _ _ | assumption | refine bel_alloc ?_ _ | refine bel_drew ?_ | refine bel_drewN ?_ _ | refine bel_set ?_ (by first | omega | (simp; done) | (simp; omega)) _ | refine bel_trans ?_ (by assumption)))⟩
  · by_cases h : 4000 < s.size
    · go_enter Try.func4, Try.ntmps4
      go_wp2_with (first | (go_at_call 12; refine (c_sTurnBytes_no _ _ h_s h).mono ?_; rintro e w1 ⟨rfl, hb1⟩; have hc1 := bcell hb1) | (go_at_call 13; refine (c_TurnBytes_no _ _ h_s h).mono ?_; rintro e w2 ⟨rfl, hb2⟩; have hc2 := bcell hb2))
      go_ret
      exact ⟨rfl, by (repeat (first | exact Below.refl _ _ | assumption | refine bel_alloc ?_ _ | refine bel_drew ?_ | refine bel_drewN ?_ _ | refine bel_set ?_ (by first | omega | (simp; done) | (simp; omega)) _ | refine bel_trans ?_ (by assumption)))⟩
    · go_enter Try.func4, Try.ntmps4
      go_wp2_with (first | (go_at_call 12; refine (c_sTurnBytes_yes _ _ h_s (by omega)).mono ?_; rintro e w1 ⟨rfl, hb1⟩; have hc1 := bcell hb1) | (go_at_call 13; refine (c_TurnBytes_yes _ _ (by omega)).mono ?_; rintro e w2 ⟨rfl, hb2⟩; have hc2 := bcell hb2))
      go_ret
      exact ⟨rfl, by (repeat (first | exact Below.refl _ _ | assumption | refine bel_alloc ?_ _ | refine bel_drew ?_ | refine bel_drewN ?_ _ | refine bel_set ?_ (by first | omega | (simp; done) | (simp; omega)) _ | refine bel_trans ?_ (by assumption)))⟩

theorem walk_FnExactPadBits (s : ByteArray) (w : World) (h_s : s.size ≤ maxLen) :
    Calls Try.prog 7 #[.string s] w fun e w' => e = .returned (.bool true) ∧ Below w.heap.size w w' := by
  by_cases big : 1048576 < s.size
  · unfold maxLen at *
    go_enter Try.func7, Try.ntmps7
    go_wp2_with fail
    go_ret
    exact ⟨rfl, by (repeat (first | exact Below.refl _ _ | assumption | refine bel_alloc ?_ _ | refine bel_drew ?_ | refine bel_drewN ?_ _ | refine bel_set ?_ (by first | omega | (simp; done) | (simp; omega)) _ | refine bel_trans ?_ (by assumption)))⟩
  · cases h : bitsOk s
    · go_enter Try.func7, Try.ntmps7
      go_wp2_with (first | (go_at_call 18; refine (c_sPadBits_no _ _ h_s h).mono ?_; rintro e w1 ⟨rfl, hb1⟩; have hc1 := bcell hb1) | (go_at_call 19; refine (c_PadBits_no _ _ h_s h).mono ?_; rintro e w2 ⟨rfl, hb2⟩; have hc2 := bcell hb2))
      go_ret
      exact ⟨rfl, by (repeat (first | exact Below.refl _ _ | assumption | refine bel_alloc ?_ _ | refine bel_drew ?_ | refine bel_drewN ?_ _ | refine bel_set ?_ (by first | omega | (simp; done) | (simp; omega)) _ | refine bel_trans ?_ (by assumption)))⟩
    · go_enter Try.func7, Try.ntmps7
      go_wp2_with (first | (go_at_call 18; refine (c_sPadBits_yes _ _ h_s h).mono ?_; rintro e w1 ⟨rfl, hb1⟩; have hc1 := bcell hb1) | (go_at_call 19; refine (c_PadBits_yes _ _ h_s h).mono ?_; rintro e w2 ⟨rfl, hb2⟩; have hc2 := bcell hb2))
      go_ret
      exact ⟨rfl, by (repeat (first | exact Below.refl _ _ | assumption | refine bel_alloc ?_ _ | refine bel_drew ?_ | refine bel_drewN ?_ _ | refine bel_set ?_ (by first | omega | (simp; done) | (simp; omega)) _ | refine bel_trans ?_ (by assumption)))⟩
end Go.Proofs.Ytgfclblooadomac
