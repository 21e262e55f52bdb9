/- The walk of the law on CodeBits. -/
import Derived.Test.YtlocmgibmclgnaaDraw6
import Derived.Test.YtlocmgibmclgnaaWfn6
namespace Go.Proofs.Ytlocmgibmclgnaa
open Go.ChangeShapes Go.WideShapes Go.ChangeAt Go.RowKit Go.Joins
set_option linter.unusedVariables false

theorem codeBitsS_size (o n width : Int) : (codeBitsS o n width).size = width.toNat := by rw [codeBitsS, str_size, codeBits_len]
theorem codeBitsS_bits (o n width : Int) : (codeBitsS o n width).data.toList.all isBit = true := by rw [codeBitsS, str_list, M.codeBits]; exact all_asc _
theorem codeBitsS_ok {o n width : Int} (h : codeOk o n width = true) : bitsCodeOk o (codeBitsS o n width) = true := by
  have h1 : orderOk o = true := by simp [codeOk] at h; exact h.1
  have h2 : codeFits n width = true := by simp [codeOk] at h; exact h.2
  obtain ⟨⟨h3, h4⟩, h5, h6⟩ := codeFits_iff.1 h2
  refine bitsCodeOk_iff.2 ⟨h1, inB_iff.2 (by rw [codeBitsS_size]; omega), ?_⟩
  simp only [bitsOk, codeBitsS_bits, Bool.and_true, decide_eq_true_eq, codeBitsS_size]; omega
theorem codeBitsS_back {o n width : Int} (h : codeOk o n width = true) : ((bitsCodeV o (codeBitsS o n width) : Nat) : Int) = n := by
  have h2 : codeFits n width = true := by simp [codeOk] at h; exact h.2
  obtain ⟨⟨h3, h4⟩, h5, h6⟩ := codeFits_iff.1 h2
  obtain ⟨m, rfl⟩ := Int.eq_ofNat_of_zero_le h5
  have hm : m < 2 ^ width.toNat := by
    unfold pow2 at h6
    have : ((m : Nat) : Int) < ((2 ^ width.toNat : Nat) : Int) := by push_cast; exact h6
    exact Int.ofNat_lt.1 this
  rw [bitsCodeV, codeBitsS, M.codeBits, bitsL_asc, M.dir_dir, Int.toNat_natCast, M.num_bitsOf _ _ hm]
theorem codeBitsS_turn {o : Int} (n width : Int) (ho : o = 0 ∨ o = 1) : revS (codeBitsS o n width) = codeBitsS (1 - o) n width := by
  rw [revS, codeBitsS, str_list, codeBitsS, M.codeBits, M.codeBits, M.asc, M.asc, ← List.map_reverse]
  rcases ho with rfl | rfl
  · rfl
  · show str (List.map M.chr (M.bitsOf _ _).reverse.reverse) = str (List.map M.chr (M.bitsOf _ _))
    rw [List.reverse_reverse]

set_option maxRecDepth 100000 in
theorem walk_FnCodeBits (A' : Option Addr) (n cap : Nat) (w : World) (hc : CodeAt w w.heap.size A' n cap) : Calls Try.prog 7 #[.slice A' n cap] w fun e w' => e = .returned (.bool true) ∧ Below w.heap.size w w' := by
  have hbig := big_code hc
  by_cases big : 1048576 < n
  · go_enter Try.func7, Try.ntmps7
    go_wp2_with fail
    go_ret
    exact ⟨rfl, by (repeat (first | with_reducible (first | assumption | exact Below.refl _ _ | refine bel_alloc ?_ _ | refine bel_drew ?_ | refine bel_drewN ?_ _ | refine bel_set ?_ (by first | omega | (simp; done) | (simp; omega)) _ | refine bel_trans ?_ (by assumption)) | assumption | refine bel_trans ?_ (by assumption)))⟩
  · go_enter Try.func7, Try.ntmps7
    go_wp2_with fail
    refine (c_DrawCodeBits _ _ _ _ hc).mono ?_
    rintro e w1 ⟨o, N, k, rfl, hx, hN, hk, hb1⟩
    by_cases h : codeOk o N k = true
    · have ho : o = 0 ∨ o = 1 := orderOk_iff.1 (by simp [codeOk] at h; exact h.1)
      have h2 : codeFits N k = true := by simp [codeOk] at h; exact h.2
      obtain ⟨⟨h3, h4⟩, h5, h6⟩ := codeFits_iff.1 h2
      have h' : codeOk (1 - o) N k = true := by simp only [codeOk, h2, Bool.and_true]; exact orderOk_iff.2 (by omega)
      obtain ⟨S, hS⟩ : ∃ S, S = codeBitsS o N k := ⟨_, rfl⟩
      obtain ⟨T, hT⟩ : ∃ T, T = codeBitsS (1 - o) N k := ⟨_, rfl⟩
      have hSs : S.size = k.toNat := by rw [hS, codeBitsS_size]
      have hSm : S.size ≤ maxLen := by unfold maxLen; omega
      have H1 := hid (show ∀ w, Calls Try.prog 32 #[.int .i64 o, .int .i64 N, .int .i64 k] w fun e w' => e = .returned (.tuple #[.string S, .bool true]) ∧ Below w.heap.size w w' by intro w; rw [hS]; exact c_CodeBits_yes o N k w hN h)
      have H2 := hid (show ∀ w, Calls Try.prog 33 #[.int .i64 o, .int .i64 N, .int .i64 k] w fun e w' => e = .returned (.tuple #[.string S, .bool true]) ∧ Below w.heap.size w w' by intro w; rw [hS]; exact c_sCodeBits_yes o N k w h)
      have H3 := hid (show ∀ w, Calls Try.prog 34 #[.int .i64 o, .string S] w fun e w' => e = .returned (.tuple #[.int .i64 N, .bool true]) ∧ Below w.heap.size w w' by
        intro w
        have := c_BitsCode_yes o S w hSm (by rw [hS]; exact codeBitsS_ok h)
        rw [hS, codeBitsS_back h] at this
        rw [hS]; exact this)
      have H4 := hid (show ∀ w, Calls Try.prog 32 #[.int .i64 (1 - o), .int .i64 N, .int .i64 k] w fun e w' => e = .returned (.tuple #[.string T, .bool true]) ∧ Below w.heap.size w w' by intro w; rw [hT]; exact c_CodeBits_yes (1 - o) N k w hN h')
      have H5 := hid (show ∀ w, Calls Try.prog 35 #[.string S] w (Same (.bool true) w) by
        intro w
        have := c_BitsValid S w hSm
        rw [hS, (bitsCodeOk_iff.1 (codeBitsS_ok h)).2.2] at this
        rw [hS]; exact this)
      have H6 := hid (show ∀ w, Calls Try.prog 36 #[.string S] w fun e w' => e = .returned (.string T) ∧ Below w.heap.size w w' by
        intro w
        have := c_soTurned S w (by omega)
        rw [hS, codeBitsS_turn N k ho] at this
        rw [hS, hT]; exact this)
      have hl : ((S.size : Int) == k) = true := eq_yes (by omega)
      clear hS hT h h2 h3 h4 h6 h' hSs
      rcases ho with rfl | rfl
      all_goals
        go_wp2_with fail
        refine (H1.out _).mono ?_
        rintro e w2 ⟨rfl, hb2⟩
        go_wp2_with fail
        refine (H2.out _).mono ?_
        rintro e w3 ⟨rfl, hb3⟩
        go_wp2_with fail
        refine (H3.out _).mono ?_
        rintro e w4 ⟨rfl, hb4⟩
        go_wp2_with fail
        refine (H4.out _).mono ?_
        rintro e w5 ⟨rfl, hb5⟩
        go_wp2_with fail
        refine (H5.out _).mono ?_
        rintro e w' ⟨rfl, rfl⟩
        go_wp2_with fail
        refine (H6.out _).mono ?_
        rintro e w6 ⟨rfl, hb6⟩
        go_wp2_with fail
        go_ret
        exact ⟨by simp_all, by (repeat (first | with_reducible (first | assumption | exact Below.refl _ _ | refine bel_alloc ?_ _ | refine bel_drew ?_ | refine bel_drewN ?_ _ | refine bel_set ?_ (by first | omega | (simp; done) | (simp; omega)) _ | refine bel_trans ?_ (by assumption)) | assumption | refine bel_trans ?_ (by assumption)))⟩
    · have hno : codeOk o N k = false := by simpa using h
      have H1 := hid (fun w => c_CodeBits_no o N k w hN hno)
      have H2 := hid (fun w => c_sCodeBits_no o N k w hno)
      clear h hno
      go_wp2_with fail
      refine (H1.out _).mono ?_
      rintro e w2 ⟨rfl, hb2⟩
      go_wp2_with fail
      refine (H2.out _).mono ?_
      rintro e w3 ⟨rfl, hb3⟩
      go_wp2_with fail
      go_ret
      exact ⟨by simp_all, by (repeat (first | with_reducible (first | assumption | exact Below.refl _ _ | refine bel_alloc ?_ _ | refine bel_drew ?_ | refine bel_drewN ?_ _ | refine bel_set ?_ (by first | omega | (simp; done) | (simp; omega)) _ | refine bel_trans ?_ (by assumption)) | assumption | refine bel_trans ?_ (by assumption)))⟩
end Go.Proofs.Ytlocmgibmclgnaa
