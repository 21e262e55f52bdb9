/- Contracts of the model's own drawing of arguments: codes and widths, orders and bits. -/
import Derived.Test.YtlocmgibmclgnaaDraw3
import Derived.Test.YtlocmgibmclgnaaBa
namespace Go.Proofs.Ytlocmgibmclgnaa
open Go.ChangeShapes Go.WideShapes Go.ChangeAt Go.RowKit Go.Joins
set_option linter.unusedVariables false

def Int3 (w : World) (e : Ending) (w' : World) : Prop := ∃ x n k : Int, e = .returned (.tuple #[.int .i64 x, .int .i64 n, .int .i64 k]) ∧ (-1 ≤ x ∧ x ≤ 9223372036854775807) ∧ (-9223372036854775808 ≤ n ∧ n ≤ 9223372036854775807) ∧ (-9223372036854775808 ≤ k ∧ k ≤ 9223372036854775807) ∧ Below w.heap.size w w'

theorem c_DrawCodeBits (A' : Option Addr) (n cap : Nat) (w : World) (hc : CodeAt w w.heap.size A' n cap) : Calls Try.prog 31 #[.slice A' n cap] w (Int3 w) := by
  go_enter Try.func31, Try.ntmps31
  go_wp2_with fail
  refine (c_l9Open _ _ _ _ _ hc (Nat.le_refl _)).mono ?_
  rintro e w1 ⟨rfl, hr1, hb1, hz1⟩
  go_wp2_with fail
  refine (c_pick _ _ _ 10 _ hr1 (by omega) (by decide)).mono ?_
  rintro e w2 ⟨x2, rfl, h20, h21, _, hr2, hg2⟩
  have h22 := h21 (by decide)
  have b2 := bel_grown hb1 hg2 (Nat.le_refl _)
  have hpd := pow2_bd (n := 1 + x2) (by omega)
  obtain ⟨P, hP⟩ : ∃ P, P = pow2 (1 + x2) := ⟨_, rfl⟩
  have HP := hid (show ∀ w, Calls Try.prog 81 #[.int .i64 (1 + x2)] w (Same (.int .i64 P) w) by intro w; rw [hP]; exact c_l1Two _ _ (by omega) (by omega))
  rw [← hP] at hpd
  clear hP h21
  go_wp2_with fail
  refine (c_pick _ _ _ 256 _ hr2 (by omega) (by decide)).mono ?_
  rintro e w3 ⟨x3, rfl, h30, h31, _, hr3, hg3⟩
  have h32 := h31 (by decide)
  have b3 := bel_grown b2 hg3 (Nat.le_refl _)
  clear h31
  go_wp2_with fail
  refine (c_pick _ _ _ 256 _ hr3 (by omega) (by decide)).mono ?_
  rintro e w4 ⟨x4, rfl, h40, h41, _, hr4, hg4⟩
  have h42 := h41 (by decide)
  have b4 := bel_grown b3 hg4 (Nat.le_refl _)
  clear h41
  go_wp2_with fail
  refine (HP.out _).mono ?_
  rintro e w' ⟨rfl, rfl⟩
  have hN := tmod_bd (x3 * 256 + x4) P (by omega) (by omega)
  have hP0 : (P == 0) = false := eq_no (by omega)
  have he : (x3 * 256 + x4).tmod P = (x3 * 256 + x4) % P := Int.tmod_eq_emod_of_nonneg (by omega)
  rw [he] at hN
  obtain ⟨N, hNe⟩ : ∃ N, N = (x3 * 256 + x4) % P := ⟨_, rfl⟩
  rw [← hNe] at hN he
  go_wp2_with fail
  refine (c_pick _ _ _ 20 _ hr4 (by omega) (by decide)).mono ?_
  rintro e w5 ⟨x5, rfl, h50, h51, _, hr5, hg5⟩
  have b5 := bel_grown b4 hg5 (Nat.le_refl _)
  by_cases c0 : x5 = 0
  · have e0 : (x5 == 0) = true := eq_yes c0
    clear c0
    go_wp2_with fail
    refine (c_num _ _ _ w5.heap.size 4 [0, 11, -1, 9223372036854775807] _ (hr5.alloc _) (by omega) (by exact intsAt_new w5 _ _) rfl (by decide) (by decide) (by have := hr5.lt; omega)).mono ?_
    rintro e w6 ⟨x6, rfl, hx6, hr6, hg6⟩
    have hx7 : -9223372036854775808 ≤ x6 ∧ x6 ≤ 9223372036854775807 := by simp at hx6; omega
    have b6 := bel_grown (bel_alloc b5 _) hg6 (Nat.le_refl _)
    go_wp2_with fail
    refine (c_l1Which _ _ _ _ hr6 (by omega)).mono ?_
    rintro e w7 ⟨x7, rfl, h7, hr7, hg7⟩
    go_wp2
    go_ret3
    exact ⟨x7, _, x6, rfl, h7, by omega, hx7, bel_grown b6 hg7 (Nat.le_refl _)⟩
  · by_cases c1 : x5 = 1
    · have e0 : (x5 == 0) = false := eq_no (by omega)
      have e1 : (x5 == 1) = true := eq_yes c1
      clear c0 c1
      go_wp2_with fail
      refine (HP.out _).mono ?_
      rintro e w' ⟨rfl, rfl⟩
      go_wp2_with fail
      refine (c_num _ _ _ w5.heap.size 3 [-1, P, 9223372036854775807] _ (hr5.alloc _) (by omega) (by exact intsAt_new w5 _ _) rfl (by decide) (by decide) (by have := hr5.lt; omega)).mono ?_
      rintro e w6 ⟨x6, rfl, hx6, hr6, hg6⟩
      have hx7 : -9223372036854775808 ≤ x6 ∧ x6 ≤ 9223372036854775807 := by simp at hx6; omega
      have b6 := bel_grown (bel_alloc b5 _) hg6 (Nat.le_refl _)
      go_wp2_with fail
      refine (c_l1Which _ _ _ _ hr6 (by omega)).mono ?_
      rintro e w7 ⟨x7, rfl, h7, hr7, hg7⟩
      go_wp2
      go_ret3
      exact ⟨x7, x6, _, rfl, h7, hx7, by omega, bel_grown b6 hg7 (Nat.le_refl _)⟩
    · have e0 : (x5 == 0) = false := eq_no (by omega)
      have e1 : (x5 == 1) = false := eq_no (by omega)
      clear c0 c1
      go_wp2_with fail
      refine (c_l1Which _ _ _ _ hr5 (by omega)).mono ?_
      rintro e w7 ⟨x7, rfl, h7, hr7, hg7⟩
      go_wp2
      go_ret3
      exact ⟨x7, _, _, rfl, h7, by omega, by omega, bel_grown b5 hg7 (Nat.le_refl _)⟩

def Int2 (w : World) (e : Ending) (w' : World) : Prop := ∃ n k : Int, e = .returned (.tuple #[.int .i64 n, .int .i64 k]) ∧ (-9223372036854775808 ≤ n ∧ n ≤ 9223372036854775807) ∧ (-9223372036854775808 ≤ k ∧ k ≤ 9223372036854775807) ∧ Below w.heap.size w w'
end Go.Proofs.Ytlocmgibmclgnaa
