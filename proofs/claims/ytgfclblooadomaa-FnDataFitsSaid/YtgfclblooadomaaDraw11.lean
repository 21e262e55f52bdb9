/- Contracts of the model's own drawing of arguments: a setting and data. -/
import Derived.Test.YtgfclblooadomaaDraw10
namespace Go.Proofs.Ytgfclblooadomaa
open Go.ChangeShapes Go.WideShapes Go.ChangeAt Go.RowKit Go.Joins
set_option linter.unusedVariables false

def SetStr (w : World) (M : Nat) (e : Ending) (w' : World) : Prop := ∃ (o l m : Int) (s : ByteArray), e = .returned (.tuple #[.agg #[.int .i64 o, .int .i64 l, .int .i64 m], .string s]) ∧ (-9223372036854775808 ≤ o ∧ o ≤ 9223372036854775807) ∧ (-9223372036854775808 ≤ l ∧ l ≤ 9223372036854775807) ∧ (-9223372036854775808 ≤ m ∧ m ≤ 9223372036854775807) ∧ s.size ≤ M ∧ Below w.heap.size w w'

set_option maxRecDepth 100000 in
set_option maxHeartbeats 1000000 in
theorem c_DrawDataFits (A' : Option Addr) (n cap : Nat) (w : World) (hc : CodeAt w w.heap.size A' n cap) : Calls Try.prog 22 #[.slice A' n cap] w (SetStr w 2001) := by
  go_enter Try.func22, Try.ntmps22
  go_wp2_with fail
  obtain ⟨W1, hW1⟩ : ∃ W1, W1 = w.alloc (.cells #[.int .i64 0, .int .i64 0, .int .i64 0] 24) := ⟨_, rfl⟩
  rw [← hW1]
  have hc1 : CodeAt W1 w.heap.size A' n cap := by rw [hW1]; exact hc.keep (fun k hk => Below.heap_alloc w _ k (by omega))
  have hb1 : Below w.heap.size w W1 := by rw [hW1]; exact bel_alloc (Below.refl _ _) _
  have k1 : Blk W1 w.heap.size 24 #[.int .i64 0, .int .i64 0, .int .i64 0] := by rw [hW1]; exact Blk.new w _ _
  have z1 : w.heap.size + 1 ≤ W1.heap.size := by rw [hW1, alloc_size]; omega
  clear hW1 hc
  refine (c_l9Open _ _ _ _ _ hc1 (by omega)).mono ?_
  rintro e w1 ⟨rfl, hr1, hb2, hz1⟩
  have k2 := k1.below hb2 (by omega)
  have b2 : Below w.heap.size w w1 := hb1.trans (hb2.mono (by omega))
  clear k1 hb1 hb2
  obtain ⟨B, hB⟩ : ∃ B, B = W1.heap.size := ⟨_, rfl⟩
  rw [← hB] at hr1 ⊢
  have zB : w.heap.size + 1 ≤ B := by omega
  clear hB
  go_wp2_with fail
  refine (c_l1Some _ _ 0 _ hr1 (by omega)).mono ?_
  rintro e w2 ⟨o, l, m, rfl, hok, hr2, hg2⟩
  have k3 := k2.grown hg2 (by simp; omega)
  have b3 := bel_grown b2 hg2 (by omega)
  clear k2 b2 hg2
  go_wp2_with fail
  obtain ⟨W3, hW3⟩ : ∃ W3, W3 = w2.alloc (.cells #[.int .i64 o, .int .i64 l, .int .i64 m] 24) := ⟨_, rfl⟩
  obtain ⟨N, hN⟩ : ∃ N, N = w2.heap.size := ⟨_, rfl⟩
  rw [← hW3, ← hN]
  have hr3 : Rd 94 W3 w.heap.size B (0 + 5) := by rw [hW3]; exact hr2.alloc _
  have k4 : Blk W3 w.heap.size 24 #[.int .i64 0, .int .i64 0, .int .i64 0] := by rw [hW3]; exact k3.alloc _
  have n4 : Blk W3 N 24 #[.int .i64 o, .int .i64 l, .int .i64 m] := by rw [hW3, hN]; exact Blk.new w2 _ _
  have b4 : Below w.heap.size w W3 := by rw [hW3]; exact bel_alloc b3 _
  have zN : B < N := by rw [hN]; exact hr2.lt
  clear hW3 hN k3 b3 hr2
  refine (c_l1Data _ _ 5 30 o l m _ hr3 (by omega) hok (by omega)).mono ?_
  rintro e w4 ⟨s, rfl, hs, hr4, hg4⟩
  have k5 := k4.grown hg4 (by simp; omega)
  have n5 := n4.grown hg4 (by simp; omega)
  have b5 := bel_grown b4 hg4 (by omega)
  obtain ⟨x5, y5, u5⟩ := n5.cells3
  clear k4 n4 b4 hg4 hr3
  go_wp2_with fail
  refine (c_l1Wild _ _ 105 s _ (hr4.more (by omega)) (by omega) (by omega)).mono ?_
  rintro e w5 ⟨t, rfl, ht, hr5, hg5⟩
  have k6 := k5.grown hg5 (by simp; omega)
  have n6 := n5.grown hg5 (by simp; omega)
  have b6 := bel_grown b5 hg5 (by omega)
  obtain ⟨x6, y6, u6⟩ := n6.cells3
  clear k5 n5 b5 hg5 hr4 x5 y5 u5
  go_wp2_with fail
  refine (c_l1Bad _ _ 107 o l m _ (hr5.more (by omega)) (by omega) hok).mono ?_
  rintro e w6 ⟨o2, l2, m2, rfl, ho, hl, hm, hr6, hg6⟩
  have k7 := k6.grown hg6 (by simp; omega)
  have b7 := bel_grown b6 hg6 (by omega)
  clear k6 n6 b6 hg6 x6 y6 u6 hr5
  obtain ⟨q0, q1, q2⟩ := k7.cells3
  have f0 := k7.frozen 0
  have f1 := k7.frozen 1
  have f2 := k7.frozen 2
  have k8 : Blk (((w6.setCell ⟨w.heap.size, 0, none⟩ (.int .i64 o2)).setCell ⟨w.heap.size, 1, none⟩ (.int .i64 l2)).setCell ⟨w.heap.size, 2, none⟩ (.int .i64 m2)) w.heap.size 24 #[.int .i64 o2, .int .i64 l2, .int .i64 m2] := ((k7.set_ 0 _).set_ 1 _).set_ 2 _
  obtain ⟨j0, j1, j2⟩ := k8.cells3
  clear k7 k8
  go_wp2
  (try simp only [Exit.inBlock, Exit.then])
  exact bodyPost_ret (v := .tuple #[.agg #[.int .i64 o2, .int .i64 l2, .int .i64 m2], .string t]) (by simp [results, Try.results22, go_sem, j0, j1, j2]) rfl ⟨o2, l2, m2, t, rfl, ho, hl, hm, ht, by (repeat (first | exact Below.refl _ _ | assumption | refine bel_alloc ?_ _ | refine bel_drew ?_ | refine bel_drewN ?_ _ | refine bel_set ?_ (by first | omega | (simp; done) | (simp; omega)) _ | refine bel_trans ?_ (by assumption)))⟩
end Go.Proofs.Ytgfclblooadomaa
