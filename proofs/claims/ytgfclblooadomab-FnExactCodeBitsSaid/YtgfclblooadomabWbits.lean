/- The walks of the exact laws on codes and bits: each law's Go text returns true, and writes nothing that was there. -/
import Derived.Test.YtgfclblooadomabRb
namespace Go.Proofs.Ytgfclblooadomab
open Go.ChangeShapes Go.WideShapes Go.ChangeAt Go.RowKit Go.Joins
set_option linter.unusedVariables false

theorem walk_FnExactCodeBits (o n k : Int) (w : World) (h_o : -9223372036854775808 ≤ o ∧ o ≤ 9223372036854775807) (h_n : -9223372036854775808 ≤ n ∧ n ≤ 9223372036854775807) (h_k : -9223372036854775808 ≤ k ∧ k ≤ 9223372036854775807) :
    Calls Try.prog 9 #[.int .i64 o, .int .i64 n, .int .i64 k] w fun e w' => e = .returned (.bool true) ∧ Below w.heap.size w w' := by
  cases h : codeOk o n k with
  | false =>
    go_enter Try.func9, Try.ntmps9
    go_wp2_with (first | (go_at_call 26; refine (c_sCodeBits_no _ _ _ _ h).mono ?_; rintro e w1 ⟨rfl, hb1⟩; have hc1 := bcell hb1) | (go_at_call 27; refine (c_CodeBits_no _ _ _ _ h_n h).mono ?_; rintro e w2 ⟨rfl, hb2⟩; have hc2 := bcell hb2))
    go_ret
    exact ⟨rfl, by (repeat (first | exact Below.refl _ _ | assumption | refine bel_alloc ?_ _ | refine bel_drew ?_ | refine bel_drewN ?_ _ | refine bel_set ?_ (by first | omega | (simp; done) | (simp; omega)) _ | refine bel_trans ?_ (by assumption)))⟩
  | true =>
    go_enter Try.func9, Try.ntmps9
    go_wp2_with (first | (go_at_call 26; refine (c_sCodeBits_yes _ _ _ _ h).mono ?_; rintro e w1 ⟨rfl, hb1⟩; have hc1 := bcell hb1) | (go_at_call 27; refine (c_CodeBits_yes _ _ _ _ h_n h).mono ?_; rintro e w2 ⟨rfl, hb2⟩; have hc2 := bcell hb2))
    go_ret
    exact ⟨rfl, by (repeat (first | exact Below.refl _ _ | assumption | refine bel_alloc ?_ _ | refine bel_drew ?_ | refine bel_drewN ?_ _ | refine bel_set ?_ (by first | omega | (simp; done) | (simp; omega)) _ | refine bel_trans ?_ (by assumption)))⟩

theorem walk_FnExactBitsCode (o : Int) (s : ByteArray) (w : World) (h_o : -9223372036854775808 ≤ o ∧ o ≤ 9223372036854775807) (h_s : s.size ≤ maxLen) :
    Calls Try.prog 10 #[.int .i64 o, .string s] w fun e w' => e = .returned (.bool true) ∧ Below w.heap.size w w' := by
  by_cases big : 1048576 < s.size
  · unfold maxLen at *
    go_enter Try.func10, Try.ntmps10
    go_wp2_with fail
    go_ret
    exact ⟨rfl, by (repeat (first | exact Below.refl _ _ | assumption | refine bel_alloc ?_ _ | refine bel_drew ?_ | refine bel_drewN ?_ _ | refine bel_set ?_ (by first | omega | (simp; done) | (simp; omega)) _ | refine bel_trans ?_ (by assumption)))⟩
  · cases h : bitsCodeOk o s with
    | false =>
      go_enter Try.func10, Try.ntmps10
      go_wp2_with (first | (go_at_call 28; refine (c_sBitsCode_no _ _ _ h_s h).mono ?_; rintro e w1 ⟨rfl, hb1⟩; have hc1 := bcell hb1) | (go_at_call 29; refine (c_BitsCode_no _ _ _ h_s h).mono ?_; rintro e w2 ⟨rfl, hb2⟩; have hc2 := bcell hb2))
      go_ret
      exact ⟨rfl, by (repeat (first | exact Below.refl _ _ | assumption | refine bel_alloc ?_ _ | refine bel_drew ?_ | refine bel_drewN ?_ _ | refine bel_set ?_ (by first | omega | (simp; done) | (simp; omega)) _ | refine bel_trans ?_ (by assumption)))⟩
    | true =>
      go_enter Try.func10, Try.ntmps10
      go_wp2_with (first | (go_at_call 28; refine (c_sBitsCode_yes _ _ _ h_s h).mono ?_; rintro e w1 ⟨rfl, hb1⟩; have hc1 := bcell hb1) | (go_at_call 29; refine (c_BitsCode_yes _ _ _ h_s h).mono ?_; rintro e w2 ⟨rfl, hb2⟩; have hc2 := bcell hb2))
      go_ret
      exact ⟨rfl, by (repeat (first | exact Below.refl _ _ | assumption | refine bel_alloc ?_ _ | refine bel_drew ?_ | refine bel_drewN ?_ _ | refine bel_set ?_ (by first | omega | (simp; done) | (simp; omega)) _ | refine bel_trans ?_ (by assumption)))⟩

theorem walk_FnExactReverseBits (n k : Int) (w : World) (h_n : -9223372036854775808 ≤ n ∧ n ≤ 9223372036854775807) (h_k : -9223372036854775808 ≤ k ∧ k ≤ 9223372036854775807) :
    Calls Try.prog 11 #[.int .i64 n, .int .i64 k] w fun e w' => e = .returned (.bool true) ∧ Below w.heap.size w w' := by
  cases h : codeFits n k with
  | false =>
    go_enter Try.func11, Try.ntmps11
    go_wp2_with (first | (go_at_call 30; refine (c_sReverseBits _ _ _).mono ?_; rintro e w1 ⟨rfl, hb1⟩; have hc1 := bcell hb1) | (go_at_call 31; refine (c_ReverseBits _ _ _ h_n).mono ?_; rintro e w' ⟨rfl, rfl⟩))
    go_ret
    exact ⟨rfl, by (repeat (first | exact Below.refl _ _ | assumption | refine bel_alloc ?_ _ | refine bel_drew ?_ | refine bel_drewN ?_ _ | refine bel_set ?_ (by first | omega | (simp; done) | (simp; omega)) _ | refine bel_trans ?_ (by assumption)))⟩
  | true =>
    go_enter Try.func11, Try.ntmps11
    go_wp2_with (first | (go_at_call 30; refine (c_sReverseBits _ _ _).mono ?_; rintro e w1 ⟨rfl, hb1⟩; have hc1 := bcell hb1) | (go_at_call 31; refine (c_ReverseBits _ _ _ h_n).mono ?_; rintro e w' ⟨rfl, rfl⟩))
    go_ret
    exact ⟨rfl, by (repeat (first | exact Below.refl _ _ | assumption | refine bel_alloc ?_ _ | refine bel_drew ?_ | refine bel_drewN ?_ _ | refine bel_set ?_ (by first | omega | (simp; done) | (simp; omega)) _ | refine bel_trans ?_ (by assumption)))⟩
end Go.Proofs.Ytgfclblooadomab
