/- Contracts of ReverseBits in both programs. -/
import Derived.Test.YtgfclblooadomaaRev
namespace Go.Proofs.Ytgfclblooadomaa
open Go.ChangeShapes Go.WideShapes Go.ChangeAt Go.RowKit Go.Joins
set_option linter.unusedVariables false

theorem all_asc (l : List Bool) : (M.asc l).all isBit = true := M.isBits_asc l
theorem bitsL_asc (l : List Bool) : bitsL (str (M.asc l)) = l := by rw [bitsL, str_list, M.bits_asc]

theorem c_ReverseBits (n width : Int) (w : World) (hn : -9223372036854775808 ≤ n ∧ n ≤ 9223372036854775807) : Calls Try.prog 32 #[.int .i64 n, .int .i64 width] w (Same (.tuple #[.int .i64 (if codeFits n width = true then (revV n width : Int) else 0), .bool (codeFits n width)]) w) := by
  cases h : codeFits n width with
  | false =>
    go_enter Try.func32, Try.ntmps32
    go_wp2_with (go_at_call 77; refine (c_codeFits _ _ _ hn).mono ?_; rintro e w' ⟨rfl, rfl⟩)
    go_ret2
    exact ⟨rfl, rfl⟩
  | true =>
    go_enter Try.func32, Try.ntmps32
    go_wp2_with (first | (go_at_call 77; refine (c_codeFits _ _ _ hn).mono ?_; rintro e w' ⟨rfl, rfl⟩) | (go_at_call 80; refine (c_reverse _ _ _ h).mono ?_; rintro e w' ⟨rfl, rfl⟩))
    go_ret2
    exact ⟨rfl, rfl⟩

theorem c_sReverseBits (n width : Int) (w : World) : Calls Try.prog 33 #[.int .i64 n, .int .i64 width] w fun e w' => e = .returned (.tuple #[.int .i64 (if codeFits n width = true then (revV n width : Int) else 0), .bool (codeFits n width)]) ∧ Below w.heap.size w w' := by
  cases h : codeFits n width with
  | false =>
    go_enter Try.func33, Try.ntmps33
    go_wp2_with (go_at_call 81; refine (c_sCodeBits_no 0 _ _ _ (by simp [codeOk, h])).mono ?_; rintro e w1 ⟨rfl, hb1⟩; have hc1 := bcell hb1)
    go_ret2
    exact ⟨rfl, by (repeat (first | exact Below.refl _ _ | assumption | refine bel_alloc ?_ _ | refine bel_drew ?_ | refine bel_drewN ?_ _ | refine bel_set ?_ (by first | omega | (simp; done) | (simp; omega)) _ | refine bel_trans ?_ (by assumption)))⟩
  | true =>
    obtain ⟨⟨h3, h4⟩, h5, h6⟩ := codeFits_iff.1 h
    have H1 := hid (show (codeBitsS 0 n width).size ≤ 16 by rw [codeBitsS, str_size, codeBits_len]; omega)
    have H2 := hid (show (codeBitsS 0 n width).data.toList.all isBit = true by rw [codeBitsS, str_list]; exact all_asc _)
    have H3 := hid (show M.num (M.dir (!((1 : Int) == 0)) (bitsL (codeBitsS 0 n width))) = revV n width by rw [codeBitsS, M.codeBits, bitsL_asc]; rfl)
    go_enter Try.func33, Try.ntmps33
    go_wp2_with (first | (go_at_call 81; refine (c_sCodeBits_yes 0 _ _ _ (by simp [codeOk, orderOk, h])).mono ?_; rintro e w1 ⟨rfl, hb1⟩; have hc1 := bcell hb1) | (go_at_call 76; refine (c_l1Number _ _ _ H1.out H2.out).mono ?_; rintro e w' ⟨rfl, rfl⟩))
    go_ret2
    exact ⟨by rw [← H3.out]; rfl, by (repeat (first | exact Below.refl _ _ | assumption | refine bel_alloc ?_ _ | refine bel_drew ?_ | refine bel_drewN ?_ _ | refine bel_set ?_ (by first | omega | (simp; done) | (simp; omega)) _ | refine bel_trans ?_ (by assumption)))⟩
end Go.Proofs.Ytgfclblooadomaa
