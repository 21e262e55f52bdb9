/- Contracts of the model's own drawing of arguments: an order and bits. -/
import Derived.Test.YtgfclblooadomaaDraw3
namespace Go.Proofs.Ytgfclblooadomaa
open Go.ChangeShapes Go.WideShapes Go.ChangeAt Go.RowKit Go.Joins
set_option linter.unusedVariables false

theorem c_DrawBitsCode (A' : Option Addr) (n cap : Nat) (w : World) (hc : CodeAt w w.heap.size A' n cap) : Calls Try.prog 26 #[.slice A' n cap] w (IntStr w 12) := by
  go_enter Try.func26, Try.ntmps26
  go_wp2_with fail
  refine (c_l9Open _ _ _ _ _ hc (Nat.le_refl _)).mono ?_
  rintro e w1 ⟨rfl, hr1, hb1, hz1⟩
  go_wp2_with fail
  refine (c_l1Bits _ _ 0 11 _ hr1 (by omega) (by decide)).mono ?_
  rintro e w2 ⟨l, rfl, hl, hr2, hg2⟩
  obtain ⟨S, hS⟩ : ∃ S, S = str l := ⟨_, rfl⟩
  have hSz : S.size ≤ 11 := by rw [hS, str_size]; exact hl
  rw [← hS]
  clear hS hl
  go_wp2_with fail
  refine (c_pick _ _ _ 20 _ hr2 (by omega) (by decide)).mono ?_
  rintro e w3 ⟨x3, rfl, h30, h31, _, hr3, hg3⟩
  have b3 := bel_grown (bel_grown hb1 hg2 (Nat.le_refl _)) hg3 (Nat.le_refl _)
  by_cases hx : x3 = 0
  · have hb : (x3 == 0) = true := eq_yes hx
    clear hx
    go_wp2_with fail
    refine (c_l1Which _ _ _ _ hr3 (by omega)).mono ?_
    rintro e w5 ⟨x6, rfl, hx6, hr5, hg5⟩
    go_wp2
    go_ret2
    exact ⟨x6, _, rfl, hx6, by rw [ByteArray.size_append]; show S.size + 1 ≤ 12; omega, bel_grown b3 hg5 (Nat.le_refl _)⟩
  · have hb : (x3 == 0) = false := by simpa using hx
    go_wp2_with fail
    refine (c_l1Which _ _ _ _ hr3 (by omega)).mono ?_
    rintro e w5 ⟨x6, rfl, hx6, hr5, hg5⟩
    go_wp2
    go_ret2
    exact ⟨x6, S, rfl, hx6, by omega, bel_grown b3 hg5 (Nat.le_refl _)⟩
end Go.Proofs.Ytgfclblooadomaa
