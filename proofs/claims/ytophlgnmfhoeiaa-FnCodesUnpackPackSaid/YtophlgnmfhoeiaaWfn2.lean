/- The walks of the laws on UnpackBits and TurnBytes. -/
import Derived.Test.YtophlgnmfhoeiaaDraw3
import Derived.Test.YtophlgnmfhoeiaaTurn
namespace Go.Proofs.Ytophlgnmfhoeiaa
open Go.ChangeShapes Go.WideShapes Go.ChangeAt Go.RowKit Go.Joins
set_option linter.unusedVariables false

theorem big_code {A' : Option Addr} {n cap L : Nat} {w : World} (hc : CodeAt w L A' n cap) : (n : Int) ≤ 9223372036854775807 := by
  have h1 := hc.1
  have h2 := hc.2.1
  unfold maxLen at h2; omega

theorem packOk_unpack {o : Int} {s : ByteArray} (h1 : orderOk o = true) (h2 : s.size ≤ 4000) : packOk o (str (unpackL o s)) = true := by
  have h3 : bitsOk (str (unpackL o s)) = true := by
    rw [bitsOk, str_size, unpackL_len, str_list, unpackL, all_asc]
    simp; omega
  simp [packOk, h1, h3]
theorem packS_unpack (o : Int) (s : ByteArray) : packS o (str (unpackL o s)) = s := by
  rw [packS, unpackL, bitsL_asc, M.pack_unpack, str_self]

theorem walk_FnUnpackPack (A' : Option Addr) (n cap : Nat) (w : World) (hc : CodeAt w w.heap.size A' n cap) : Calls Try.prog 3 #[.slice A' n cap] w fun e w' => e = .returned (.bool true) ∧ Below w.heap.size w w' := by
  have hbig := big_code hc
  by_cases big : 1048576 < n
  · go_enter Try.func3, Try.ntmps3
    go_wp2_with fail
    go_ret
    exact ⟨rfl, by (repeat (first | with_reducible (first | assumption | exact Below.refl _ _ | refine bel_alloc ?_ _ | refine bel_drew ?_ | refine bel_drewN ?_ _ | refine bel_set ?_ (by first | omega | (simp; done) | (simp; omega)) _ | refine bel_trans ?_ (by assumption)) | assumption | refine bel_trans ?_ (by assumption)))⟩
  · go_enter Try.func3, Try.ntmps3
    go_wp2_with fail
    refine (c_DrawUnpackBits _ _ _ _ hc).mono ?_
    rintro e w1 ⟨o, s, rfl, hx, hs, hb1⟩
    have hsm : s.size ≤ maxLen := by unfold maxLen; omega
    cases h : stOk o s with
    | false =>
      go_wp2_with (first | (go_at_call 23; refine (c_UnpackBits_no _ _ _ hsm h).mono ?_; rintro e w2 ⟨rfl, hb2⟩; have hc2 := bcell hb2) | (go_at_call 24; refine (c_sUnpackBits_no _ _ _ hsm h).mono ?_; rintro e w3 ⟨rfl, hb3⟩; have hc3 := bcell hb3))
      go_ret
      exact ⟨rfl, by (repeat (first | with_reducible (first | assumption | exact Below.refl _ _ | refine bel_alloc ?_ _ | refine bel_drew ?_ | refine bel_drewN ?_ _ | refine bel_set ?_ (by first | omega | (simp; done) | (simp; omega)) _ | refine bel_trans ?_ (by assumption)) | assumption | refine bel_trans ?_ (by assumption)))⟩
    | true =>
      obtain ⟨ho, h4⟩ := stOk_iff.1 h
      obtain ⟨U, hU⟩ : ∃ U, U = str (unpackL o s) := ⟨_, rfl⟩
      have hUs : U.size = 8 * s.size := by rw [hU, str_size, unpackL_len]
      have H1 := hid (show ∀ w, Calls Try.prog 23 #[.int .i64 o, .string s] w fun e w' => e = .returned (.tuple #[.string U, .bool true]) ∧ Below w.heap.size w w' by intro w; rw [hU]; exact c_UnpackBits_yes o s w hsm h)
      have H2 := hid (show ∀ w, Calls Try.prog 24 #[.int .i64 o, .string s] w fun e w' => e = .returned (.tuple #[.string U, .bool true]) ∧ Below w.heap.size w w' by intro w; rw [hU]; exact c_sUnpackBits_yes o s w hsm h)
      have H3 := hid (show ∀ w, Calls Try.prog 25 #[.int .i64 o, .string U] w fun e w' => e = .returned (.tuple #[.string s, .bool true]) ∧ Below w.heap.size w w' by
        intro w
        have := c_PackBits_yes o (str (unpackL o s)) w (by rw [str_size, unpackL_len]; unfold maxLen; omega) (packOk_unpack ho h4)
        rw [packS_unpack] at this
        rw [hU]; exact this)
      have hl : ((U.size : Int) == 8 * (s.size : Int)) = true := eq_yes (by omega)
      clear hU hUs
      go_wp2_with (first | (go_at_call 23; refine (H1.out _).mono ?_; rintro e w2 ⟨rfl, hb2⟩; have hc2 := bcell hb2) | (go_at_call 24; refine (H2.out _).mono ?_; rintro e w3 ⟨rfl, hb3⟩; have hc3 := bcell hb3) | (go_at_call 25; refine (H3.out _).mono ?_; rintro e w4 ⟨rfl, hb4⟩; have hc4 := bcell hb4))
      go_ret
      exact ⟨rfl, by (repeat (first | with_reducible (first | assumption | exact Below.refl _ _ | refine bel_alloc ?_ _ | refine bel_drew ?_ | refine bel_drewN ?_ _ | refine bel_set ?_ (by first | omega | (simp; done) | (simp; omega)) _ | refine bel_trans ?_ (by assumption)) | assumption | refine bel_trans ?_ (by assumption)))⟩

theorem turnS_turn (s : ByteArray) : turnS (turnS s) = s := by rw [turnS, turnS, str_list, M.turn_turn, str_self]
theorem turnS_size (s : ByteArray) : (turnS s).size = s.size := by rw [turnS, str_size]; simp [M.turn]
theorem unpack_turnS (o : Int) (s : ByteArray) (ho : o = 0 ∨ o = 1) : unpackL (1 - o) (turnS s) = unpackL o s := by
  rw [unpackL, unpackL, turnS, str_list]
  rcases ho with rfl | rfl
  · exact congrArg M.asc (M.unpack_turn false _)
  · exact congrArg M.asc (M.unpack_turn true _)

theorem c_soBits (o : Int) (s : ByteArray) (w : World) (hs : s.size ≤ maxLen) (h : stOk o s = true) : Calls Try.prog 52 #[.int .i64 o, .string s] w fun e w' => e = .returned (.string (str (unpackL o s))) ∧ Below w.heap.size w w' := by
  go_enter Try.func52, Try.ntmps52
  go_wp2_with (go_at_call 23; refine (c_UnpackBits_yes _ _ _ hs h).mono ?_; rintro e w1 ⟨rfl, hb1⟩; have hc1 := bcell hb1)
  go_ret
  exact ⟨rfl, by (repeat (first | with_reducible (first | assumption | exact Below.refl _ _ | refine bel_alloc ?_ _ | refine bel_drew ?_ | refine bel_drewN ?_ _ | refine bel_set ?_ (by first | omega | (simp; done) | (simp; omega)) _ | refine bel_trans ?_ (by assumption)) | assumption | refine bel_trans ?_ (by assumption)))⟩
end Go.Proofs.Ytophlgnmfhoeiaa
