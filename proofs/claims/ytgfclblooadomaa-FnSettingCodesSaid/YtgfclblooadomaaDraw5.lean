/- Contracts of the model's own drawing of arguments: a stream, a place and a length. -/
import Derived.Test.YtgfclblooadomaaDraw4
namespace Go.Proofs.Ytgfclblooadomaa
open Go.ChangeShapes Go.WideShapes Go.ChangeAt Go.RowKit Go.Joins
set_option linter.unusedVariables false

theorem results_four {fn : Func} {a b c d : Tmp} (h : fn.results = #[.tmp a, .tmp b, .tmp c, .tmp d]) (tmps : Array Value) (P : Program) (w : World) :
    (results fn tmps).run P w = .ok (.tuple #[tmps.getD a undef, tmps.getD b undef, tmps.getD c undef, tmps.getD d undef]) w := by
  simp [results, h]

theorem Rd.below {T : TypeId} {w w' : World} {L B q : Nat} (h : Rd T w L B q) (hb : Below w.heap.size w w') : Rd T w' L B q := by
  have hlt := h.lt
  have hg : (w.heap.size ≤ w'.heap.size) := hb.size
  obtain ⟨A, n, cap, p, hB, hc, hn, hL, h0, h1⟩ := h
  exact ⟨A, n, cap, p, hB.below hb hlt, hc.keep (fun k hk => hb.block k (by omega)), hn, hL, h0, h1⟩

def IntStrInt2 (w : World) (m : Nat) (e : Ending) (w' : World) : Prop := ∃ (x : Int) (s : ByteArray) (i n : Int), e = .returned (.tuple #[.int .i64 x, .string s, .int .i64 i, .int .i64 n]) ∧ (-1 ≤ x ∧ x ≤ 9223372036854775807) ∧ s.size ≤ m ∧ (-9223372036854775808 ≤ i ∧ i ≤ 9223372036854775807) ∧ (-9223372036854775808 ≤ n ∧ n ≤ 9223372036854775807) ∧ Below w.heap.size w w'

theorem c_DrawSpanBits (A' : Option Addr) (n cap : Nat) (w : World) (hc : CodeAt w w.heap.size A' n cap) : Calls Try.prog 44 #[.slice A' n cap] w (IntStrInt2 w 6) := by
  go_enter Try.func44, Try.ntmps44
  go_wp2_with fail
  refine (c_l9Open _ _ _ _ _ hc (Nat.le_refl _)).mono ?_
  rintro e w1 ⟨rfl, hr1, hb1, hz1⟩
  go_wp2_with fail
  refine (c_DrawBitAt _ _ _ _ w.heap.size (by omega) (hc.keep (fun k hk => hb1.block k hk))).mono ?_
  rintro e w2 ⟨x, s, i, rfl, hx, hs, hi, hb2⟩
  have hr2 := hr1.below hb2
  have b2 : Below w.heap.size w w2 := bel_trans hb1 hb2 
  go_wp2_with fail
  refine (c_pick _ _ _ 30 _ hr2 (by omega) (by decide)).mono ?_
  rintro e w3 ⟨x3, rfl, h30, h31, _, hr3, hg3⟩
  have h32 := h31 (by omega)
  clear h31
  have b3 := bel_grown b2 hg3 (Nat.le_refl _)
  go_wp2_with fail
  refine (c_pick _ _ _ 20 _ hr3 (by omega) (by decide)).mono ?_
  rintro e w4 ⟨x4, rfl, h40, h41, _, hr4, hg4⟩
  have b4 := bel_grown b3 hg4 (Nat.le_refl _)
  by_cases hx : x4 = 0
  · have hb : (x4 == 0) = true := eq_yes hx
    clear hx
    go_wp2_with fail
    refine (c_num _ _ _ w4.heap.size 3 [-1, 9223372036854775807, -9223372036854775808] _ (hr4.alloc _) (by omega) (by exact intsAt_new w4 _ _) rfl (by decide) (by decide) (by have := hr4.lt; omega)).mono ?_
    rintro e w5 ⟨x5, rfl, hx5, hr5, hg5⟩
    have hx6 : -9223372036854775808 ≤ x5 ∧ x5 ≤ 9223372036854775807 := by simp at hx5; omega
    have b5 := bel_grown (bel_alloc b4 _) hg5 (Nat.le_refl _)
    go_wp2
    (try simp only [Exit.inBlock, Exit.then])
    refine bodyPost_ret (results_four rfl _ _ _) rfl ?_
    exact ⟨x, s, i, x5, rfl, by assumption, hs, hi, hx6, b5⟩
  · have hb : (x4 == 0) = false := by simpa using hx
    go_wp2
    (try simp only [Exit.inBlock, Exit.then])
    refine bodyPost_ret (results_four rfl _ _ _) rfl ?_
    exact ⟨x, s, i, x3, rfl, by assumption, hs, hi, by omega, b4⟩
end Go.Proofs.Ytgfclblooadomaa
