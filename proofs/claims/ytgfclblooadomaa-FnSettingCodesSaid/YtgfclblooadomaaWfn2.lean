/- The walks of the laws on UnpackBits and TurnBytes. -/
import Derived.Test.YtgfclblooadomaaDraw3
import Derived.Test.YtgfclblooadomaaTurn
namespace Go.Proofs.Ytgfclblooadomaa
open Go.ChangeShapes Go.WideShapes Go.ChangeAt Go.RowKit Go.Joins
set_option linter.unusedVariables false

theorem big_code {A' : Option Addr} {n cap L : Nat} {w : World} (hc : CodeAt w L A' n cap) : (n : Int) ≤ 9223372036854775807 := by
  have h1 := hc.1
  have h2 := hc.2.1
  unfold maxLen at h2; omega

theorem packOk_unpack {o : Int} {s : ByteArray} (h1 : orderOk o = true) (h2 : s.size ≤ 4000) : packOk o (str (unpackL o s)) = true := by
  have h3 : bitsOk (str (unpackL o s)) = true := by
    rw [bitsOk, str_size, unpackL_len, str_list, unpackL, all_asc]
    simp; omega
  simp [packOk, h1, h3]
theorem packS_unpack (o : Int) (s : ByteArray) : packS o (str (unpackL o s)) = s := by
  rw [packS, unpackL, bitsL_asc, M.pack_unpack, str_self]

theorem walk_FnUnpackPack (A' : Option Addr) (n cap : Nat) (w : World) (hc : CodeAt w w.heap.size A' n cap) : Calls Try.prog 8 #[.slice A' n cap] w fun e w' => e = .returned (.bool true) ∧ Below w.heap.size w w' := by
  have hbig := big_code hc
  by_cases big : 1048576 < n
  · go_enter Try.func8, Try.ntmps8
    go_wp2_with fail
    go_ret
    exact ⟨rfl, by (repeat (first | exact Below.refl _ _ | assumption | refine bel_alloc ?_ _ | refine bel_drew ?_ | refine bel_drewN ?_ _ | refine bel_set ?_ (by first | omega | (simp; done) | (simp; omega)) _ | refine bel_trans ?_ (by assumption)))⟩
  · go_enter Try.func8, Try.ntmps8
    go_wp2_with fail
    refine (c_DrawUnpackBits _ _ _ _ hc).mono ?_
    rintro e w1 ⟨o, s, rfl, hx, hs, hb1⟩
    have hsm : s.size ≤ maxLen := by unfold maxLen; omega
    cases h : stOk o s with
    | false =>
      go_wp2_with (first | (go_at_call 35; refine (c_UnpackBits_no _ _ _ hsm h).mono ?_; rintro e w2 ⟨rfl, hb2⟩; have hc2 := bcell hb2) | (go_at_call 36; refine (c_sUnpackBits_no _ _ _ hsm h).mono ?_; rintro e w3 ⟨rfl, hb3⟩; have hc3 := bcell hb3))
      go_ret
      exact ⟨rfl, by (repeat (first | exact Below.refl _ _ | assumption | refine bel_alloc ?_ _ | refine bel_drew ?_ | refine bel_drewN ?_ _ | refine bel_set ?_ (by first | omega | (simp; done) | (simp; omega)) _ | refine bel_trans ?_ (by assumption)))⟩
    | true =>
      obtain ⟨ho, h4⟩ := stOk_iff.1 h
      obtain ⟨U, hU⟩ : ∃ U, U = str (unpackL o s) := ⟨_, rfl⟩
      have hUs : U.size = 8 * s.size := by rw [hU, str_size, unpackL_len]
      have H1 := hid (show ∀ w, Calls Try.prog 35 #[.int .i64 o, .string s] w fun e w' => e = .returned (.tuple #[.string U, .bool true]) ∧ Below w.heap.size w w' by intro w; rw [hU]; exact c_UnpackBits_yes o s w hsm h)
      have H2 := hid (show ∀ w, Calls Try.prog 36 #[.int .i64 o, .string s] w fun e w' => e = .returned (.tuple #[.string U, .bool true]) ∧ Below w.heap.size w w' by intro w; rw [hU]; exact c_sUnpackBits_yes o s w hsm h)
      have H3 := hid (show ∀ w, Calls Try.prog 37 #[.int .i64 o, .string U] w fun e w' => e = .returned (.tuple #[.string s, .bool true]) ∧ Below w.heap.size w w' by
        intro w
        have := c_PackBits_yes o (str (unpackL o s)) w (by rw [str_size, unpackL_len]; unfold maxLen; omega) (packOk_unpack ho h4)
        rw [packS_unpack] at this
        rw [hU]; exact this)
      have hl : ((U.size : Int) == 8 * (s.size : Int)) = true := eq_yes (by omega)
      clear hU hUs
      go_wp2_with (first | (go_at_call 35; refine (H1.out _).mono ?_; rintro e w2 ⟨rfl, hb2⟩; have hc2 := bcell hb2) | (go_at_call 36; refine (H2.out _).mono ?_; rintro e w3 ⟨rfl, hb3⟩; have hc3 := bcell hb3) | (go_at_call 37; refine (H3.out _).mono ?_; rintro e w4 ⟨rfl, hb4⟩; have hc4 := bcell hb4))
      go_ret
      exact ⟨rfl, by (repeat (first | exact Below.refl _ _ | assumption | refine bel_alloc ?_ _ | refine bel_drew ?_ | refine bel_drewN ?_ _ | refine bel_set ?_ (by first | omega | (simp; done) | (simp; omega)) _ | refine bel_trans ?_ (by assumption)))⟩

theorem turnS_turn (s : ByteArray) : turnS (turnS s) = s := by rw [turnS, turnS, str_list, M.turn_turn, str_self]
theorem turnS_size (s : ByteArray) : (turnS s).size = s.size := by rw [turnS, str_size]; simp [M.turn]
theorem unpack_turnS (o : Int) (s : ByteArray) (ho : o = 0 ∨ o = 1) : unpackL (1 - o) (turnS s) = unpackL o s := by
  rw [unpackL, unpackL, turnS, str_list]
  rcases ho with rfl | rfl
  · exact congrArg M.asc (M.unpack_turn false _)
  · exact congrArg M.asc (M.unpack_turn true _)

theorem c_soBits (o : Int) (s : ByteArray) (w : World) (hs : s.size ≤ maxLen) (h : stOk o s = true) : Calls Try.prog 40 #[.int .i64 o, .string s] w fun e w' => e = .returned (.string (str (unpackL o s))) ∧ Below w.heap.size w w' := by
  go_enter Try.func40, Try.ntmps40
  go_wp2_with (go_at_call 35; refine (c_UnpackBits_yes _ _ _ hs h).mono ?_; rintro e w1 ⟨rfl, hb1⟩; have hc1 := bcell hb1)
  go_ret
  exact ⟨rfl, by (repeat (first | exact Below.refl _ _ | assumption | refine bel_alloc ?_ _ | refine bel_drew ?_ | refine bel_drewN ?_ _ | refine bel_set ?_ (by first | omega | (simp; done) | (simp; omega)) _ | refine bel_trans ?_ (by assumption)))⟩

theorem walk_FnTurnBytes (A' : Option Addr) (n cap : Nat) (w : World) (hc : CodeAt w w.heap.size A' n cap) : Calls Try.prog 9 #[.slice A' n cap] w fun e w' => e = .returned (.bool true) ∧ Below w.heap.size w w' := by
  have hbig := big_code hc
  by_cases big : 1048576 < n
  · go_enter Try.func9, Try.ntmps9
    go_wp2_with fail
    go_ret
    exact ⟨rfl, by (repeat (first | exact Below.refl _ _ | assumption | refine bel_alloc ?_ _ | refine bel_drew ?_ | refine bel_drewN ?_ _ | refine bel_set ?_ (by first | omega | (simp; done) | (simp; omega)) _ | refine bel_trans ?_ (by assumption)))⟩
  · go_enter Try.func9, Try.ntmps9
    go_wp2_with fail
    refine (c_DrawUnpackBits _ _ _ _ hc).mono ?_
    rintro e w1 ⟨o, s, rfl, hx, hs, hb1⟩
    have hsm : s.size ≤ maxLen := by unfold maxLen; omega
    by_cases h : 4000 < s.size
    · go_wp2_with (first | (go_at_call 38; refine (c_TurnBytes_no _ _ hsm h).mono ?_; rintro e w2 ⟨rfl, hb2⟩; have hc2 := bcell hb2) | (go_at_call 39; refine (c_sTurnBytes_no _ _ hsm h).mono ?_; rintro e w3 ⟨rfl, hb3⟩; have hc3 := bcell hb3))
      go_ret
      exact ⟨rfl, by (repeat (first | exact Below.refl _ _ | assumption | refine bel_alloc ?_ _ | refine bel_drew ?_ | refine bel_drewN ?_ _ | refine bel_set ?_ (by first | omega | (simp; done) | (simp; omega)) _ | refine bel_trans ?_ (by assumption)))⟩
    · have h4 : s.size ≤ 4000 := by omega
      obtain ⟨T, hT⟩ : ∃ T, T = turnS s := ⟨_, rfl⟩
      have hTs : T.size = s.size := by rw [hT, turnS_size]
      have H1 := hid (show ∀ w, Calls Try.prog 38 #[.string s] w fun e w' => e = .returned (.tuple #[.string T, .bool true]) ∧ Below w.heap.size w w' by intro w; rw [hT]; exact c_TurnBytes_yes s w h4)
      have H2 := hid (show ∀ w, Calls Try.prog 39 #[.string s] w fun e w' => e = .returned (.tuple #[.string T, .bool true]) ∧ Below w.heap.size w w' by intro w; rw [hT]; exact c_sTurnBytes_yes s w hsm h4)
      have H3 := hid (show ∀ w, Calls Try.prog 38 #[.string T] w fun e w' => e = .returned (.tuple #[.string s, .bool true]) ∧ Below w.heap.size w w' by intro w; have := c_TurnBytes_yes T w (by omega); rw [hT, turnS_turn] at this; rw [hT]; exact this)
      by_cases ho : o = 0 ∨ o = 1
      · obtain ⟨U, hU⟩ : ∃ U, U = str (unpackL o s) := ⟨_, rfl⟩
        have H4 := hid (show ∀ w, Calls Try.prog 40 #[.int .i64 o, .string s] w fun e w' => e = .returned (.string U) ∧ Below w.heap.size w w' by intro w; rw [hU]; exact c_soBits o s w hsm (stOk_iff.2 ⟨orderOk_iff.2 ho, h4⟩))
        have H5 := hid (show ∀ w, Calls Try.prog 40 #[.int .i64 (1 - o), .string T] w fun e w' => e = .returned (.string U) ∧ Below w.heap.size w w' by
          intro w
          have := c_soBits (1 - o) T w (by unfold maxLen; omega) (stOk_iff.2 ⟨orderOk_iff.2 (by omega), by omega⟩)
          rw [hT, unpack_turnS o s ho] at this
          rw [hU, hT]; exact this)
        have hl : ((T.size : Int) == (s.size : Int)) = true := eq_yes (by omega)
        clear hT hTs hU
        rcases ho with rfl | rfl
        all_goals
          go_wp2_with fail
          refine (H1.out _).mono ?_
          rintro e w2 ⟨rfl, hb2⟩
          go_wp2_with fail
          refine (H2.out _).mono ?_
          rintro e w3 ⟨rfl, hb3⟩
          go_wp2_with fail
          refine (H3.out _).mono ?_
          rintro e w4 ⟨rfl, hb4⟩
          go_wp2_with fail
          refine (H5.out _).mono ?_
          rintro e w5 ⟨rfl, hb5⟩
          go_wp2_with fail
          refine (H4.out _).mono ?_
          rintro e w6 ⟨rfl, hb6⟩
          go_wp2
          go_ret
          exact ⟨rfl, by (repeat (first | exact Below.refl _ _ | assumption | refine bel_alloc ?_ _ | refine bel_drew ?_ | refine bel_drewN ?_ _ | refine bel_set ?_ (by first | omega | (simp; done) | (simp; omega)) _ | refine bel_trans ?_ (by assumption)))⟩
      · have o0 : (o != 0) = true := by rw [bne_iff_ne]; omega
        have o1 : (o != 1) = true := by rw [bne_iff_ne]; omega
        clear hT hTs ho
        go_wp2_with fail
        refine (H1.out _).mono ?_
        rintro e w2 ⟨rfl, hb2⟩
        go_wp2_with fail
        refine (H2.out _).mono ?_
        rintro e w3 ⟨rfl, hb3⟩
        go_wp2
        go_ret
        exact ⟨rfl, by (repeat (first | exact Below.refl _ _ | assumption | refine bel_alloc ?_ _ | refine bel_drew ?_ | refine bel_drewN ?_ _ | refine bel_set ?_ (by first | omega | (simp; done) | (simp; omega)) _ | refine bel_trans ?_ (by assumption)))⟩
end Go.Proofs.Ytgfclblooadomaa
