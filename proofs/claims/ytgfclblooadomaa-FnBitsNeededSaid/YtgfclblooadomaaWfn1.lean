/- The walk of the law on BitsNeeded. -/
import Derived.Test.YtgfclblooadomaaDraw2
import Derived.Test.YtgfclblooadomaaBn
namespace Go.Proofs.Ytgfclblooadomaa
open Go.ChangeShapes Go.WideShapes Go.ChangeAt Go.RowKit Go.Joins
set_option linter.unusedVariables false

theorem bn_half {x : Int} (h1 : 1 < x) (h2 : x ≤ 9223372036854775807) : bitsNeeded x = bitsNeeded (x / 2) + 1 := by
  rw [bitsNeeded, bitsNeeded, if_neg (by omega), if_neg (by omega), nd_half (by omega) (by omega), show (x / 2).toNat = x.toNat / 2 from by omega]; rfl
theorem bn_le {x : Int} (h2 : x ≤ 9223372036854775807) : -1 ≤ bitsNeeded x ∧ bitsNeeded x ≤ 64 := by
  unfold bitsNeeded; split
  · omega
  · have := nd_le (x := x.toNat) (by omega); omega

theorem walk_FnBitsNeeded (A' : Option Addr) (n cap : Nat) (w : World) (hc : CodeAt w w.heap.size A' n cap) : Calls Try.prog 5 #[.slice A' n cap] w fun e w' => e = .returned (.bool true) ∧ Below w.heap.size w w' := by
  by_cases big : 1048576 < n
  · have h1 := hc.1
    have h2 := hc.2.1
    unfold maxLen at h2
    go_enter Try.func5, Try.ntmps5
    go_wp2_with fail
    go_ret
    exact ⟨rfl, by (repeat (first | exact Below.refl _ _ | assumption | refine bel_alloc ?_ _ | refine bel_drew ?_ | refine bel_drewN ?_ _ | refine bel_set ?_ (by first | omega | (simp; done) | (simp; omega)) _ | refine bel_trans ?_ (by assumption)))⟩
  · go_enter Try.func5, Try.ntmps5
    go_wp2_with fail
    refine (c_DrawBitsNeeded _ _ _ _ hc).mono ?_
    rintro e w1 ⟨x, rfl, hx, hb1⟩
    have hbd := bn_le hx.2
    obtain ⟨K, hK⟩ : ∃ K, K = bitsNeeded x := ⟨_, rfl⟩
    have H1 := hid (show ∀ w, Calls Try.prog 20 #[.int .i64 x] w (Same (.int .i64 K) w) by intro w; rw [hK]; exact c_BitsNeeded x w hx)
    have H2 := hid (show ∀ w, Calls Try.prog 25 #[.int .i64 x] w (Same (.int .i64 K) w) by intro w; rw [hK]; exact c_sBitsNeeded x w hx)
    rw [← hK] at hbd
    by_cases x1 : x < 1
    · by_cases x0 : x = 0
      · have k1 : (K == 1) = true := eq_yes (by rw [hK, x0]; decide)
        have e0 : (x == 0) = true := eq_yes x0
        clear hK x0
        go_wp2_with (first | (go_at_call 20; refine (H1.out _).mono ?_; rintro e w' ⟨rfl, rfl⟩) | (go_at_call 25; refine (H2.out _).mono ?_; rintro e w' ⟨rfl, rfl⟩))
        go_ret
        exact ⟨rfl, by (repeat (first | exact Below.refl _ _ | assumption | refine bel_alloc ?_ _ | refine bel_drew ?_ | refine bel_drewN ?_ _ | refine bel_set ?_ (by first | omega | (simp; done) | (simp; omega)) _ | refine bel_trans ?_ (by assumption)))⟩
      · have k1 : (K == -1) = true := eq_yes (by rw [hK, bitsNeeded, if_pos (by omega)])
        have e0 : (x == 0) = false := eq_no (by omega)
        have xn : x < 0 := by omega
        clear hK x0
        go_wp2_with (first | (go_at_call 20; refine (H1.out _).mono ?_; rintro e w' ⟨rfl, rfl⟩) | (go_at_call 25; refine (H2.out _).mono ?_; rintro e w' ⟨rfl, rfl⟩))
        go_ret
        exact ⟨rfl, by (repeat (first | exact Below.refl _ _ | assumption | refine bel_alloc ?_ _ | refine bel_drew ?_ | refine bel_drewN ?_ _ | refine bel_set ?_ (by first | omega | (simp; done) | (simp; omega)) _ | refine bel_trans ?_ (by assumption)))⟩
    · by_cases x2 : x = 1
      · have k1 : (K == 1) = true := eq_yes (by rw [hK, x2]; decide)
        have e0 : (x == 1) = true := eq_yes x2
        clear hK x2
        go_wp2_with (first | (go_at_call 20; refine (H1.out _).mono ?_; rintro e w' ⟨rfl, rfl⟩) | (go_at_call 25; refine (H2.out _).mono ?_; rintro e w' ⟨rfl, rfl⟩))
        go_ret
        exact ⟨rfl, by (repeat (first | exact Below.refl _ _ | assumption | refine bel_alloc ?_ _ | refine bel_drew ?_ | refine bel_drewN ?_ _ | refine bel_set ?_ (by first | omega | (simp; done) | (simp; omega)) _ | refine bel_trans ?_ (by assumption)))⟩
      · have x3 : 1 < x := by omega
        have hh := bn_half x3 hx.2
        have hbd2 := bn_le (x := x / 2) (by omega)
        obtain ⟨K2, hK2⟩ : ∃ K2, K2 = bitsNeeded (x / 2) := ⟨_, rfl⟩
        rw [← hK2] at hh hbd2
        have H3 := hid (show ∀ w, Calls Try.prog 20 #[.int .i64 (x / 2)] w (Same (.int .i64 K2) w) by intro w; rw [hK2]; exact c_BitsNeeded (x / 2) w (by omega))
        have e0 : (x == 1) = false := eq_no (by omega)
        have k1 : (K == K2 + 1) = true := eq_yes (by rw [hK, hh])
        clear hK hK2 hh x2
        go_wp2_with fail
        refine (H1.out _).mono ?_
        rintro e w' ⟨rfl, rfl⟩
        go_wp2_with fail
        refine (H2.out _).mono ?_
        rintro e w' ⟨rfl, rfl⟩
        go_wp2_with fail
        refine (H3.out _).mono ?_
        rintro e w' ⟨rfl, rfl⟩
        go_wp2
        go_ret
        exact ⟨rfl, by (repeat (first | exact Below.refl _ _ | assumption | refine bel_alloc ?_ _ | refine bel_drew ?_ | refine bel_drewN ?_ _ | refine bel_set ?_ (by first | omega | (simp; done) | (simp; omega)) _ | refine bel_trans ?_ (by assumption)))⟩
end Go.Proofs.Ytgfclblooadomaa
