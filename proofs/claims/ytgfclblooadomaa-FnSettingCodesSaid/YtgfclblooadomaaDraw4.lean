/- Contracts of the model's own drawing of arguments: a stream and a place in it; bits and an order. -/
import Derived.Test.YtgfclblooadomaaDraw3
namespace Go.Proofs.Ytgfclblooadomaa
open Go.ChangeShapes Go.WideShapes Go.ChangeAt Go.RowKit Go.Joins
set_option linter.unusedVariables false

def IntStrInt (w : World) (m : Nat) (e : Ending) (w' : World) : Prop := ∃ (x : Int) (s : ByteArray) (i : Int), e = .returned (.tuple #[.int .i64 x, .string s, .int .i64 i]) ∧ (-1 ≤ x ∧ x ≤ 9223372036854775807) ∧ s.size ≤ m ∧ (-9223372036854775808 ≤ i ∧ i ≤ 9223372036854775807) ∧ Below w.heap.size w w'

theorem c_DrawBitAt (A' : Option Addr) (n cap : Nat) (w : World) (L : Nat) (hL : L ≤ w.heap.size) (hc : CodeAt w L A' n cap) : Calls Try.prog 41 #[.slice A' n cap] w (IntStrInt w 6) := by
  go_enter Try.func41, Try.ntmps41
  go_wp2_with fail
  refine (c_l9Open _ _ _ _ _ hc hL).mono ?_
  rintro e w1 ⟨rfl, hr1, hb1, hz1⟩
  go_wp2_with fail
  refine (c_l1Bytes _ _ 0 6 _ hr1 (by omega) (by decide)).mono ?_
  rintro e w2 ⟨l, rfl, hl, hr2, hg2⟩
  obtain ⟨S, hS⟩ : ∃ S, S = str l := ⟨_, rfl⟩
  have hSz : S.size ≤ 6 := by rw [hS, str_size]; exact hl
  rw [← hS]
  clear hS hl
  go_wp2_with fail
  refine (c_pick _ _ _ (8 * (S.size : Int) + 2) _ hr2 (by omega) (by omega)).mono ?_
  rintro e w3 ⟨x3, rfl, h30, h31, _, hr3, hg3⟩
  have h32 := h31 (by omega)
  clear h31
  have b3 := bel_grown (bel_grown hb1 hg2 (Nat.le_refl _)) hg3 (Nat.le_refl _)
  go_wp2_with fail
  refine (c_pick _ _ _ 20 _ hr3 (by omega) (by decide)).mono ?_
  rintro e w4 ⟨x4, rfl, h40, h41, _, hr4, hg4⟩
  have b4 := bel_grown b3 hg4 (Nat.le_refl _)
  by_cases hx : x4 = 0
  · have hb : (x4 == 0) = true := eq_yes hx
    clear hx
    go_wp2_with fail
    refine (c_num _ _ _ w4.heap.size 3 [-1, 9223372036854775807, -9223372036854775808] _ (hr4.alloc _) (by omega) (by exact intsAt_new w4 _ _) rfl (by decide) (by decide) (by have := hr4.lt; omega)).mono ?_
    rintro e w5 ⟨x5, rfl, hx5, hr5, hg5⟩
    have hx6 : -9223372036854775808 ≤ x5 ∧ x5 ≤ 9223372036854775807 := by simp at hx5; omega
    have b5 := bel_grown (bel_alloc b4 _) hg5 (Nat.le_refl _)
    go_wp2_with fail
    refine (c_l1Which _ _ _ _ hr5 (by omega)).mono ?_
    rintro e w6 ⟨x6, rfl, h6, hr6, hg6⟩
    go_wp2
    go_ret3
    exact ⟨x6, S, x5, rfl, h6, hSz, hx6, bel_grown b5 hg6 (Nat.le_refl _)⟩
  · have hb : (x4 == 0) = false := by simpa using hx
    go_wp2_with fail
    refine (c_l1Which _ _ _ _ hr4 (by omega)).mono ?_
    rintro e w6 ⟨x6, rfl, h6, hr6, hg6⟩
    go_wp2
    go_ret3
    exact ⟨x6, S, x3, rfl, h6, hSz, by omega, bel_grown b4 hg6 (Nat.le_refl _)⟩
end Go.Proofs.Ytgfclblooadomaa
