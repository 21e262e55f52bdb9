/- The model's copy of what is known; NewReader and NewWriter in both programs. No condition but that the numbers are int's. -/
import Derived.Test.YtfklkepodpcdgaaNx
import Derived.Test.YtfklkepodpcdgaaBi
namespace Go.Proofs.Ytfklkepodpcdgaa
open Go.ChangeShapes Go.WideShapes Go.ChangeAt Go.RowKit Go.Joins
set_option linter.unusedVariables false

set_option maxHeartbeats 2000000 in
theorem c_l3Copy (k : Kn) (A : Option Addr) (cap L : Nat) (w : World) (h : PsAt w L A cap k.ps) (hL : L ≤ w.heap.size) (hn : k.ps.length ≤ 1048576) : Calls Try.prog 120 #[.agg #[.int .i64 k.o, .int .i64 k.l, .int .i64 k.m, .slice A k.ps.length cap, .int .i64 k.base, .int .i64 k.last]] w fun e w' => ∃ A' cap', e = .returned (.agg #[.int .i64 k.o, .int .i64 k.l, .int .i64 k.m, .slice A' k.ps.length cap', .int .i64 k.base, .int .i64 k.last]) ∧ w'.ownsRow w.heap.size 169 2 (.slice A' k.ps.length cap') k.ps.length (prs k.ps) ∧ Below w.heap.size w w' := by
  obtain ⟨W, hW⟩ : ∃ W, W = ((w.alloc (.cells #[.int .i64 k.o, .int .i64 k.l, .int .i64 k.m, .slice A k.ps.length cap, .int .i64 k.base, .int .i64 k.last] 55)).alloc (.cells #[.int .i64 0, .int .i64 0, .int .i64 0, .slice none 0 0, .int .i64 0, .int .i64 0] 55)).alloc (.cells #[.int .i64 k.o, .int .i64 k.l, .int .i64 k.m, .slice A k.ps.length cap, .int .i64 k.base, .int .i64 k.last] 55) := ⟨_, rfl⟩
  have hBW : Below w.heap.size w W := by rw [hW]; (repeat (first | with_reducible (first | assumption | exact Below.refl _ _ | refine bel_alloc ?_ _ | refine bel_drew ?_ | refine bel_drewN ?_ _ | refine bel_set ?_ (by first | omega | (simp; done) | (simp; omega)) _ | refine bel_trans ?_ (by assumption)) | assumption | refine bel_trans ?_ (by assumption)))
  have hs : w.heap.size + 3 ≤ W.heap.size := by rw [hW]; simp
  have K1 := hid (show Blk W w.heap.size 55 #[.int .i64 k.o, .int .i64 k.l, .int .i64 k.m, .slice A k.ps.length cap, .int .i64 k.base, .int .i64 k.last] from by rw [hW]; exact ((Blk.new w 55 #[.int .i64 k.o, .int .i64 k.l, .int .i64 k.m, .slice A k.ps.length cap, .int .i64 k.base, .int .i64 k.last]).alloc _).alloc _)
  have K2 := hid (show Blk W (w.heap.size + 1) 55 #[.int .i64 0, .int .i64 0, .int .i64 0, .slice none 0 0, .int .i64 0, .int .i64 0] from by rw [hW]; exact (Blk.top w _ 55 #[.int .i64 0, .int .i64 0, .int .i64 0, .slice none 0 0, .int .i64 0, .int .i64 0]).alloc _)
  have K3 := hid (show Blk W (w.heap.size + 1 + 1) 55 #[.int .i64 k.o, .int .i64 k.l, .int .i64 k.m, .slice A k.ps.length cap, .int .i64 k.base, .int .i64 k.last] from by rw [hW]; exact (Blk.third w _ _ 55 #[.int .i64 k.o, .int .i64 k.l, .int .i64 k.m, .slice A k.ps.length cap, .int .i64 k.base, .int .i64 k.last]).at_ (by omega))
  have HP := hid ((h.on hBW hL).alloc (Nat.le_trans hL hBW.size) (.cells #[] 169))
  have HO := hid (show (W.alloc (.cells #[] 169)).ownsRow (w.heap.size + 3) 169 2 (.slice (some ⟨W.heap.size, 0, none⟩) 0 0) 0 (prs []) from World.ownsRow_made W #[] 0 hs (Nat.zero_le _) rfl)
  obtain ⟨p0, p1, p2, p3, p4, p5⟩ := (Blk.new w 55 #[.int .i64 k.o, .int .i64 k.l, .int .i64 k.m, .slice A k.ps.length cap, .int .i64 k.base, .int .i64 k.last]).alloc (.cells #[.int .i64 0, .int .i64 0, .int .i64 0, .slice none 0 0, .int .i64 0, .int .i64 0] 55) |>.cells6
  obtain ⟨u0, u1, u2, u3, u4, u5⟩ := K1.out.cells6
  have hzz : w.heap.size + 3 ≤ (W.alloc (.cells #[] 169)).heap.size := by simp; omega
  clear h
  go_enter Try.func120, Try.ntmps120
  go_wp2_with (at_builtin; rw [← hW]; go_loud (refine app_pairs rfl (.tmp 5) (.tmp 7) 53 rfl (w.heap.size + 3) 169 Try.underlying53 Try.info_pair _ 0 [] (by first | rfl | (rw [hW]; simp; rfl)) HO.out A cap L k.ps.length k.ps HP.out rfl (by rfl) (by omega) hzz ?_; intro v9 w9 hown9 hb9 hg9; obtain ⟨A9, c9, rfl, _, hl9, hA9⟩ := own_ps hown9; have N2 := hid (show Blk w9 (w.heap.size + 1) 55 #[.int .i64 0, .int .i64 0, .int .i64 0, .slice none 0 0, .int .i64 0, .int .i64 0] from (K2.out.alloc _).below hb9 (by omega)); have N3 := hid (show Blk w9 (w.heap.size + 1 + 1) 55 #[.int .i64 k.o, .int .i64 k.l, .int .i64 k.m, .slice A k.ps.length cap, .int .i64 k.base, .int .i64 k.last] from (K3.out.alloc _).below hb9 (by omega)); have f3 := N3.out.frozen 3; obtain ⟨x0, x1, x2, x3, x4, x5⟩ := N3.out.cells6; have e0 : ([] ++ k.ps).length = k.ps.length := rfl; have M3 := hid (show Blk (w9.setCell ⟨w.heap.size + 1 + 1, 3, none⟩ (.slice A9 k.ps.length c9)) (w.heap.size + 1 + 1) 55 #[.int .i64 k.o, .int .i64 k.l, .int .i64 k.m, .slice A9 k.ps.length c9, .int .i64 k.base, .int .i64 k.last] from N3.out.set_ 3 _); have M2 := hid (show Blk (w9.setCell ⟨w.heap.size + 1 + 1, 3, none⟩ (.slice A9 k.ps.length c9)) (w.heap.size + 1) 55 #[.int .i64 0, .int .i64 0, .int .i64 0, .slice none 0 0, .int .i64 0, .int .i64 0] from N2.out.far 3 _ (by omega)); obtain ⟨m0, m1, m2, m3, m4, m5⟩ := M3.out.cells6; obtain ⟨n0, n1, n2, n3, n4, n5⟩ := M2.out.cells6; obtain ⟨q0, q1, q2, q3, q4, q5⟩ := M2.out.free6))
  have HF := hid (M2.out.put6 (.int .i64 k.o) (.int .i64 k.l) (.int .i64 k.m) (.slice A9 k.ps.length c9) (.int .i64 k.base) (.int .i64 k.last))
  obtain ⟨z0, z1, z2, z3, z4, z5⟩ := HF.out.cells6
  have h1 : Below w.heap.size w (w9.setCell ⟨w.heap.size + 1 + 1, 3, none⟩ (.slice A9 k.ps.length c9)) := ((bel_alloc hBW (.cells #[] 169)).trans (hb9.mono (by omega))).setCell (by simp; omega) _
  have HR := hid (own_put6 (own_store_blk hown9 N3.out (by decide) 3 (.slice A9 k.ps.length c9)) M2.out (by decide) (.int .i64 k.o) (.int .i64 k.l) (.int .i64 k.m) (.slice A9 k.ps.length c9) (.int .i64 k.base) (.int .i64 k.last))
  refine bodyPost_ret (v := .agg #[.int .i64 k.o, .int .i64 k.l, .int .i64 k.m, .slice A9 k.ps.length c9, .int .i64 k.base, .int .i64 k.last]) (by simp [results, Try.results120, go_sem, z0, z1, z2, z3, z4, z5]) rfl ⟨A9, c9, rfl, own_mono (by have := HR.out; simpa using this) (by omega), bel_put6 h1 (by omega) _ _ _ _ _ _⟩

theorem Blk.put9 {w : World} {b : Nat} {t : TypeId} {c0 c1 c2 c3 c4 c5 c6 c7 c8 : Value} (h0 : Blk w b t #[c0, c1, c2, c3, c4, c5, c6, c7, c8]) (a0 a1 a2 a3 a4 a5 a6 a7 a8 : Value) : Blk (((((((((w.setCell ⟨b, 0, none⟩ a0).setCell ⟨b, 1, none⟩ a1).setCell ⟨b, 2, none⟩ a2).setCell ⟨b, 3, none⟩ a3).setCell ⟨b, 4, none⟩ a4).setCell ⟨b, 5, none⟩ a5).setCell ⟨b, 6, none⟩ a6).setCell ⟨b, 7, none⟩ a7).setCell ⟨b, 8, none⟩ a8) b t #[a0, a1, a2, a3, a4, a5, a6, a7, a8] := by
  have h1 : Blk (w.setCell ⟨b, 0, none⟩ a0) b t #[a0, c1, c2, c3, c4, c5, c6, c7, c8] := h0.set_ 0 a0
  have h2 : Blk ((w.setCell ⟨b, 0, none⟩ a0).setCell ⟨b, 1, none⟩ a1) b t #[a0, a1, c2, c3, c4, c5, c6, c7, c8] := h1.set_ 1 a1
  have h3 : Blk (((w.setCell ⟨b, 0, none⟩ a0).setCell ⟨b, 1, none⟩ a1).setCell ⟨b, 2, none⟩ a2) b t #[a0, a1, a2, c3, c4, c5, c6, c7, c8] := h2.set_ 2 a2
  have h4 : Blk ((((w.setCell ⟨b, 0, none⟩ a0).setCell ⟨b, 1, none⟩ a1).setCell ⟨b, 2, none⟩ a2).setCell ⟨b, 3, none⟩ a3) b t #[a0, a1, a2, a3, c4, c5, c6, c7, c8] := h3.set_ 3 a3
  have h5 : Blk (((((w.setCell ⟨b, 0, none⟩ a0).setCell ⟨b, 1, none⟩ a1).setCell ⟨b, 2, none⟩ a2).setCell ⟨b, 3, none⟩ a3).setCell ⟨b, 4, none⟩ a4) b t #[a0, a1, a2, a3, a4, c5, c6, c7, c8] := h4.set_ 4 a4
  have h6 : Blk ((((((w.setCell ⟨b, 0, none⟩ a0).setCell ⟨b, 1, none⟩ a1).setCell ⟨b, 2, none⟩ a2).setCell ⟨b, 3, none⟩ a3).setCell ⟨b, 4, none⟩ a4).setCell ⟨b, 5, none⟩ a5) b t #[a0, a1, a2, a3, a4, a5, c6, c7, c8] := h5.set_ 5 a5
  have h7 : Blk (((((((w.setCell ⟨b, 0, none⟩ a0).setCell ⟨b, 1, none⟩ a1).setCell ⟨b, 2, none⟩ a2).setCell ⟨b, 3, none⟩ a3).setCell ⟨b, 4, none⟩ a4).setCell ⟨b, 5, none⟩ a5).setCell ⟨b, 6, none⟩ a6) b t #[a0, a1, a2, a3, a4, a5, a6, c7, c8] := h6.set_ 6 a6
  have h8 : Blk ((((((((w.setCell ⟨b, 0, none⟩ a0).setCell ⟨b, 1, none⟩ a1).setCell ⟨b, 2, none⟩ a2).setCell ⟨b, 3, none⟩ a3).setCell ⟨b, 4, none⟩ a4).setCell ⟨b, 5, none⟩ a5).setCell ⟨b, 6, none⟩ a6).setCell ⟨b, 7, none⟩ a7) b t #[a0, a1, a2, a3, a4, a5, a6, a7, c8] := h7.set_ 7 a7
  have h9 : Blk (((((((((w.setCell ⟨b, 0, none⟩ a0).setCell ⟨b, 1, none⟩ a1).setCell ⟨b, 2, none⟩ a2).setCell ⟨b, 3, none⟩ a3).setCell ⟨b, 4, none⟩ a4).setCell ⟨b, 5, none⟩ a5).setCell ⟨b, 6, none⟩ a6).setCell ⟨b, 7, none⟩ a7).setCell ⟨b, 8, none⟩ a8) b t #[a0, a1, a2, a3, a4, a5, a6, a7, a8] := h8.set_ 8 a8
  exact h9

theorem own_put9 {w : World} {B b : Nat} {e t : TypeId} {size n : Nat} {v : Value} {xs : List Value} {cs : Array Value} (h : w.ownsRow B e size v n xs) (hk : Blk w b t cs) (ht : t ≠ e) (a0 a1 a2 a3 a4 a5 a6 a7 a8 : Value) : (((((((((w.setCell ⟨b, 0, none⟩ a0).setCell ⟨b, 1, none⟩ a1).setCell ⟨b, 2, none⟩ a2).setCell ⟨b, 3, none⟩ a3).setCell ⟨b, 4, none⟩ a4).setCell ⟨b, 5, none⟩ a5).setCell ⟨b, 6, none⟩ a6).setCell ⟨b, 7, none⟩ a7).setCell ⟨b, 8, none⟩ a8).ownsRow B e size v n xs := (own_store_blk (own_store_blk (own_store_blk (own_store_blk (own_store_blk (own_store_blk (own_store_blk (own_store_blk (own_store_blk h hk ht 0 a0) (hk.set_ 0 a0) ht 1 a1) ((hk.set_ 0 a0).set_ 1 a1) ht 2 a2) (((hk.set_ 0 a0).set_ 1 a1).set_ 2 a2) ht 3 a3) ((((hk.set_ 0 a0).set_ 1 a1).set_ 2 a2).set_ 3 a3) ht 4 a4) (((((hk.set_ 0 a0).set_ 1 a1).set_ 2 a2).set_ 3 a3).set_ 4 a4) ht 5 a5) ((((((hk.set_ 0 a0).set_ 1 a1).set_ 2 a2).set_ 3 a3).set_ 4 a4).set_ 5 a5) ht 6 a6) (((((((hk.set_ 0 a0).set_ 1 a1).set_ 2 a2).set_ 3 a3).set_ 4 a4).set_ 5 a5).set_ 6 a6) ht 7 a7) ((((((((hk.set_ 0 a0).set_ 1 a1).set_ 2 a2).set_ 3 a3).set_ 4 a4).set_ 5 a5).set_ 6 a6).set_ 7 a7) ht 8 a8)

theorem Blk.put10 {w : World} {b : Nat} {t : TypeId} {c0 c1 c2 c3 c4 c5 c6 c7 c8 c9 : Value} (h0 : Blk w b t #[c0, c1, c2, c3, c4, c5, c6, c7, c8, c9]) (a0 a1 a2 a3 a4 a5 a6 a7 a8 a9 : Value) : Blk ((((((((((w.setCell ⟨b, 0, none⟩ a0).setCell ⟨b, 1, none⟩ a1).setCell ⟨b, 2, none⟩ a2).setCell ⟨b, 3, none⟩ a3).setCell ⟨b, 4, none⟩ a4).setCell ⟨b, 5, none⟩ a5).setCell ⟨b, 6, none⟩ a6).setCell ⟨b, 7, none⟩ a7).setCell ⟨b, 8, none⟩ a8).setCell ⟨b, 9, none⟩ a9) b t #[a0, a1, a2, a3, a4, a5, a6, a7, a8, a9] := by
  have h1 : Blk (w.setCell ⟨b, 0, none⟩ a0) b t #[a0, c1, c2, c3, c4, c5, c6, c7, c8, c9] := h0.set_ 0 a0
  have h2 : Blk ((w.setCell ⟨b, 0, none⟩ a0).setCell ⟨b, 1, none⟩ a1) b t #[a0, a1, c2, c3, c4, c5, c6, c7, c8, c9] := h1.set_ 1 a1
  have h3 : Blk (((w.setCell ⟨b, 0, none⟩ a0).setCell ⟨b, 1, none⟩ a1).setCell ⟨b, 2, none⟩ a2) b t #[a0, a1, a2, c3, c4, c5, c6, c7, c8, c9] := h2.set_ 2 a2
  have h4 : Blk ((((w.setCell ⟨b, 0, none⟩ a0).setCell ⟨b, 1, none⟩ a1).setCell ⟨b, 2, none⟩ a2).setCell ⟨b, 3, none⟩ a3) b t #[a0, a1, a2, a3, c4, c5, c6, c7, c8, c9] := h3.set_ 3 a3
  have h5 : Blk (((((w.setCell ⟨b, 0, none⟩ a0).setCell ⟨b, 1, none⟩ a1).setCell ⟨b, 2, none⟩ a2).setCell ⟨b, 3, none⟩ a3).setCell ⟨b, 4, none⟩ a4) b t #[a0, a1, a2, a3, a4, c5, c6, c7, c8, c9] := h4.set_ 4 a4
  have h6 : Blk ((((((w.setCell ⟨b, 0, none⟩ a0).setCell ⟨b, 1, none⟩ a1).setCell ⟨b, 2, none⟩ a2).setCell ⟨b, 3, none⟩ a3).setCell ⟨b, 4, none⟩ a4).setCell ⟨b, 5, none⟩ a5) b t #[a0, a1, a2, a3, a4, a5, c6, c7, c8, c9] := h5.set_ 5 a5
  have h7 : Blk (((((((w.setCell ⟨b, 0, none⟩ a0).setCell ⟨b, 1, none⟩ a1).setCell ⟨b, 2, none⟩ a2).setCell ⟨b, 3, none⟩ a3).setCell ⟨b, 4, none⟩ a4).setCell ⟨b, 5, none⟩ a5).setCell ⟨b, 6, none⟩ a6) b t #[a0, a1, a2, a3, a4, a5, a6, c7, c8, c9] := h6.set_ 6 a6
  have h8 : Blk ((((((((w.setCell ⟨b, 0, none⟩ a0).setCell ⟨b, 1, none⟩ a1).setCell ⟨b, 2, none⟩ a2).setCell ⟨b, 3, none⟩ a3).setCell ⟨b, 4, none⟩ a4).setCell ⟨b, 5, none⟩ a5).setCell ⟨b, 6, none⟩ a6).setCell ⟨b, 7, none⟩ a7) b t #[a0, a1, a2, a3, a4, a5, a6, a7, c8, c9] := h7.set_ 7 a7
  have h9 : Blk (((((((((w.setCell ⟨b, 0, none⟩ a0).setCell ⟨b, 1, none⟩ a1).setCell ⟨b, 2, none⟩ a2).setCell ⟨b, 3, none⟩ a3).setCell ⟨b, 4, none⟩ a4).setCell ⟨b, 5, none⟩ a5).setCell ⟨b, 6, none⟩ a6).setCell ⟨b, 7, none⟩ a7).setCell ⟨b, 8, none⟩ a8) b t #[a0, a1, a2, a3, a4, a5, a6, a7, a8, c9] := h8.set_ 8 a8
  have h10 : Blk ((((((((((w.setCell ⟨b, 0, none⟩ a0).setCell ⟨b, 1, none⟩ a1).setCell ⟨b, 2, none⟩ a2).setCell ⟨b, 3, none⟩ a3).setCell ⟨b, 4, none⟩ a4).setCell ⟨b, 5, none⟩ a5).setCell ⟨b, 6, none⟩ a6).setCell ⟨b, 7, none⟩ a7).setCell ⟨b, 8, none⟩ a8).setCell ⟨b, 9, none⟩ a9) b t #[a0, a1, a2, a3, a4, a5, a6, a7, a8, a9] := h9.set_ 9 a9
  exact h10

theorem own_put10 {w : World} {B b : Nat} {e t : TypeId} {size n : Nat} {v : Value} {xs : List Value} {cs : Array Value} (h : w.ownsRow B e size v n xs) (hk : Blk w b t cs) (ht : t ≠ e) (a0 a1 a2 a3 a4 a5 a6 a7 a8 a9 : Value) : ((((((((((w.setCell ⟨b, 0, none⟩ a0).setCell ⟨b, 1, none⟩ a1).setCell ⟨b, 2, none⟩ a2).setCell ⟨b, 3, none⟩ a3).setCell ⟨b, 4, none⟩ a4).setCell ⟨b, 5, none⟩ a5).setCell ⟨b, 6, none⟩ a6).setCell ⟨b, 7, none⟩ a7).setCell ⟨b, 8, none⟩ a8).setCell ⟨b, 9, none⟩ a9).ownsRow B e size v n xs := (own_store_blk (own_store_blk (own_store_blk (own_store_blk (own_store_blk (own_store_blk (own_store_blk (own_store_blk (own_store_blk (own_store_blk h hk ht 0 a0) (hk.set_ 0 a0) ht 1 a1) ((hk.set_ 0 a0).set_ 1 a1) ht 2 a2) (((hk.set_ 0 a0).set_ 1 a1).set_ 2 a2) ht 3 a3) ((((hk.set_ 0 a0).set_ 1 a1).set_ 2 a2).set_ 3 a3) ht 4 a4) (((((hk.set_ 0 a0).set_ 1 a1).set_ 2 a2).set_ 3 a3).set_ 4 a4) ht 5 a5) ((((((hk.set_ 0 a0).set_ 1 a1).set_ 2 a2).set_ 3 a3).set_ 4 a4).set_ 5 a5) ht 6 a6) (((((((hk.set_ 0 a0).set_ 1 a1).set_ 2 a2).set_ 3 a3).set_ 4 a4).set_ 5 a5).set_ 6 a6) ht 7 a7) ((((((((hk.set_ 0 a0).set_ 1 a1).set_ 2 a2).set_ 3 a3).set_ 4 a4).set_ 5 a5).set_ 6 a6).set_ 7 a7) ht 8 a8) (((((((((hk.set_ 0 a0).set_ 1 a1).set_ 2 a2).set_ 3 a3).set_ 4 a4).set_ 5 a5).set_ 6 a6).set_ 7 a7).set_ 8 a8) ht 9 a9)

set_option maxHeartbeats 2000000 in
theorem c_sNewReader_no (k : Kn) (A : Option Addr) (cap L : Nat) (w : World) (h : PsAt w L A cap k.ps) (hL : L ≤ w.heap.size) (hk : ¬ k.Ok) (hw : k.Wf) : Calls Try.prog 126 #[.agg #[.int .i64 k.o, .int .i64 k.l, .int .i64 k.m, .slice A k.ps.length cap, .int .i64 k.base, .int .i64 k.last]] w fun e w' => e = .returned (.tuple #[.agg #[.int .i64 0, .int .i64 0, .int .i64 0, .slice none 0 0, .int .i64 0, .int .i64 0, .string ByteArray.empty, .int .i64 0, .int .i64 0, .int .i64 0], .bool false]) ∧ Below w.heap.size w w' := by
  have hB0 : Below w.heap.size w ((w.alloc (.cells #[.int .i64 k.o, .int .i64 k.l, .int .i64 k.m, .slice A k.ps.length cap, .int .i64 k.base, .int .i64 k.last] 55)).alloc (.cells #[.int .i64 0, .int .i64 0, .int .i64 0, .slice none 0 0, .int .i64 0, .int .i64 0, .string ByteArray.empty, .int .i64 0, .int .i64 0, .int .i64 0] 81)) := by (repeat (first | with_reducible (first | assumption | exact Below.refl _ _ | refine bel_alloc ?_ _ | refine bel_drew ?_ | refine bel_drewN ?_ _ | refine bel_set ?_ (by first | omega | (simp; done) | (simp; omega)) _ | refine bel_trans ?_ (by assumption)) | assumption | refine bel_trans ?_ (by assumption)))
  have HZ := hid (Blk.top w (.cells #[.int .i64 k.o, .int .i64 k.l, .int .i64 k.m, .slice A k.ps.length cap, .int .i64 k.base, .int .i64 k.last] 55) 81 #[.int .i64 0, .int .i64 0, .int .i64 0, .slice none 0 0, .int .i64 0, .int .i64 0, .string ByteArray.empty, .int .i64 0, .int .i64 0, .int .i64 0])
  have HKN := hid ((Blk.new w 55 #[.int .i64 k.o, .int .i64 k.l, .int .i64 k.m, .slice A k.ps.length cap, .int .i64 k.base, .int .i64 k.last]).alloc (.cells #[.int .i64 0, .int .i64 0, .int .i64 0, .slice none 0 0, .int .i64 0, .int .i64 0, .string ByteArray.empty, .int .i64 0, .int .i64 0, .int .i64 0] 81))
  have HV := hid (fun (v : World) (hb : Below w.heap.size w v) => c_sKnownValid_no k A cap L v (h.below hb hL) (Nat.le_trans hL hb.size) hk hw)
  obtain ⟨u0, u1, u2, u3, u4, u5⟩ := HKN.out.cells6
  clear h hk hw
  go_enter Try.func126, Try.ntmps126
  go_wp2_with fail
  refine (HV.out _ hB0).mono ?_
  rintro e w1 ⟨rfl, hb1⟩
  have HZ1 := hid (HZ.out.on hb1)
  have hB1 := bel_trans hB0 hb1
  clear u0 u1 u2 u3 u4 u5 hb1
  obtain ⟨p0, p1, p2, p3, p4, p5, p6, p7, p8, p9⟩ := HZ1.out.cells10
  have f0 := HZ1.out.frozen 0
  have f1 := HZ1.out.frozen 1
  have f2 := HZ1.out.frozen 2
  have f3 := HZ1.out.frozen 3
  have f4 := HZ1.out.frozen 4
  have f5 := HZ1.out.frozen 5
  have f6 := HZ1.out.frozen 6
  have f7 := HZ1.out.frozen 7
  have f8 := HZ1.out.frozen 8
  have f9 := HZ1.out.frozen 9
  have HF := hid (HZ1.out.put10 (.int .i64 0) (.int .i64 0) (.int .i64 0) (.slice none 0 0) (.int .i64 0) (.int .i64 0) (.string ⟨#[]⟩) (.int .i64 0) (.int .i64 0) (.int .i64 0))
  obtain ⟨z0, z1, z2, z3, z4, z5, z6, z7, z8, z9⟩ := HF.out.cells10
  go_wp2
  exact bodyPost_ret (v := .tuple #[.agg #[.int .i64 0, .int .i64 0, .int .i64 0, .slice none 0 0, .int .i64 0, .int .i64 0, .string ⟨#[]⟩, .int .i64 0, .int .i64 0, .int .i64 0], .bool false]) (by simp [results, Try.results126, go_sem, z0, z1, z2, z3, z4, z5, z6, z7, z8, z9]) rfl ⟨rfl, ((((((((((hB1.setCell (p := ⟨w.heap.size + 1, 0, none⟩) (show w.heap.size ≤ w.heap.size + 1 by omega) (.int .i64 0)).setCell (p := ⟨w.heap.size + 1, 1, none⟩) (show w.heap.size ≤ w.heap.size + 1 by omega) (.int .i64 0)).setCell (p := ⟨w.heap.size + 1, 2, none⟩) (show w.heap.size ≤ w.heap.size + 1 by omega) (.int .i64 0)).setCell (p := ⟨w.heap.size + 1, 3, none⟩) (show w.heap.size ≤ w.heap.size + 1 by omega) (.slice none 0 0)).setCell (p := ⟨w.heap.size + 1, 4, none⟩) (show w.heap.size ≤ w.heap.size + 1 by omega) (.int .i64 0)).setCell (p := ⟨w.heap.size + 1, 5, none⟩) (show w.heap.size ≤ w.heap.size + 1 by omega) (.int .i64 0)).setCell (p := ⟨w.heap.size + 1, 6, none⟩) (show w.heap.size ≤ w.heap.size + 1 by omega) (.string ⟨#[]⟩)).setCell (p := ⟨w.heap.size + 1, 7, none⟩) (show w.heap.size ≤ w.heap.size + 1 by omega) (.int .i64 0)).setCell (p := ⟨w.heap.size + 1, 8, none⟩) (show w.heap.size ≤ w.heap.size + 1 by omega) (.int .i64 0)).setCell (p := ⟨w.heap.size + 1, 9, none⟩) (show w.heap.size ≤ w.heap.size + 1 by omega) (.int .i64 0))⟩

set_option maxHeartbeats 2000000 in
theorem c_sNewReader_yes (k : Kn) (A : Option Addr) (cap L : Nat) (w : World) (h : PsAt w L A cap k.ps) (hL : L ≤ w.heap.size) (hk : k.Ok) (hw : k.Wf) : Calls Try.prog 126 #[.agg #[.int .i64 k.o, .int .i64 k.l, .int .i64 k.m, .slice A k.ps.length cap, .int .i64 k.base, .int .i64 k.last]] w fun e w' => ∃ A' cap', e = .returned (.tuple #[.agg #[.int .i64 k.o, .int .i64 k.l, .int .i64 k.m, .slice A' k.ps.length cap', .int .i64 k.base, .int .i64 k.last, .string ByteArray.empty, .int .i64 0, .int .i64 0, .int .i64 1], .bool true]) ∧ w'.ownsRow w.heap.size 169 2 (.slice A' k.ps.length cap') k.ps.length (prs k.ps) ∧ Below w.heap.size w w' := by
  have hB0 : Below w.heap.size w ((w.alloc (.cells #[.int .i64 k.o, .int .i64 k.l, .int .i64 k.m, .slice A k.ps.length cap, .int .i64 k.base, .int .i64 k.last] 55)).alloc (.cells #[.int .i64 0, .int .i64 0, .int .i64 0, .slice none 0 0, .int .i64 0, .int .i64 0, .string ByteArray.empty, .int .i64 0, .int .i64 0, .int .i64 0] 81)) := by (repeat (first | with_reducible (first | assumption | exact Below.refl _ _ | refine bel_alloc ?_ _ | refine bel_drew ?_ | refine bel_drewN ?_ _ | refine bel_set ?_ (by first | omega | (simp; done) | (simp; omega)) _ | refine bel_trans ?_ (by assumption)) | assumption | refine bel_trans ?_ (by assumption)))
  have HZ := hid (Blk.top w (.cells #[.int .i64 k.o, .int .i64 k.l, .int .i64 k.m, .slice A k.ps.length cap, .int .i64 k.base, .int .i64 k.last] 55) 81 #[.int .i64 0, .int .i64 0, .int .i64 0, .slice none 0 0, .int .i64 0, .int .i64 0, .string ByteArray.empty, .int .i64 0, .int .i64 0, .int .i64 0])
  have HKN := hid ((Blk.new w 55 #[.int .i64 k.o, .int .i64 k.l, .int .i64 k.m, .slice A k.ps.length cap, .int .i64 k.base, .int .i64 k.last]).alloc (.cells #[.int .i64 0, .int .i64 0, .int .i64 0, .slice none 0 0, .int .i64 0, .int .i64 0, .string ByteArray.empty, .int .i64 0, .int .i64 0, .int .i64 0] 81))
  have HV := hid (fun (v : World) (hb : Below w.heap.size w v) => c_sKnownValid_yes k A cap L v (h.below hb hL) (Nat.le_trans hL hb.size) hk hw)
  have HC := hid (fun (v : World) (hb : Below w.heap.size w v) => c_l3Copy k A cap L v (h.below hb hL) (Nat.le_trans hL hb.size) hw.len)
  obtain ⟨u0, u1, u2, u3, u4, u5⟩ := HKN.out.cells6
  clear h hk hw
  go_enter Try.func126, Try.ntmps126
  go_wp2_with fail
  refine (HV.out _ hB0).mono ?_
  rintro e w1 ⟨rfl, hb1⟩
  have HZ1 := hid (HZ.out.on hb1)
  have HK1 := hid (HKN.out.on hb1)
  have hB1 := bel_trans hB0 hb1
  clear u0 u1 u2 u3 u4 u5 hb1
  obtain ⟨u0, u1, u2, u3, u4, u5⟩ := HK1.out.cells6
  go_wp2_with fail
  refine (HC.out _ hB1).mono ?_
  rintro e w2 ⟨A', cap', rfl, hown, hb2⟩
  have HZ2 := hid (HZ1.out.on hb2)
  have hB2 := bel_trans hB1 hb2
  have HO := hid (own_mono hown hB1.size)
  clear u0 u1 u2 u3 u4 u5 hb2 hown
  obtain ⟨p0, p1, p2, p3, p4, p5, p6, p7, p8, p9⟩ := HZ2.out.cells10
  have f0 := HZ2.out.frozen 0
  have f1 := HZ2.out.frozen 1
  have f2 := HZ2.out.frozen 2
  have f3 := HZ2.out.frozen 3
  have f4 := HZ2.out.frozen 4
  have f5 := HZ2.out.frozen 5
  have f6 := HZ2.out.frozen 6
  have f7 := HZ2.out.frozen 7
  have f8 := HZ2.out.frozen 8
  have f9 := HZ2.out.frozen 9
  have HF := hid (HZ2.out.put10 (.int .i64 k.o) (.int .i64 k.l) (.int .i64 k.m) (.slice A' k.ps.length cap') (.int .i64 k.base) (.int .i64 k.last) (.string ⟨#[]⟩) (.int .i64 0) (.int .i64 0) (.int .i64 1))
  have HR := hid (own_put10 HO.out HZ2.out (by decide) (.int .i64 k.o) (.int .i64 k.l) (.int .i64 k.m) (.slice A' k.ps.length cap') (.int .i64 k.base) (.int .i64 k.last) (.string ⟨#[]⟩) (.int .i64 0) (.int .i64 0) (.int .i64 1))
  obtain ⟨z0, z1, z2, z3, z4, z5, z6, z7, z8, z9⟩ := HF.out.cells10
  go_wp2
  exact bodyPost_ret (v := .tuple #[.agg #[.int .i64 k.o, .int .i64 k.l, .int .i64 k.m, .slice A' k.ps.length cap', .int .i64 k.base, .int .i64 k.last, .string ⟨#[]⟩, .int .i64 0, .int .i64 0, .int .i64 1], .bool true]) (by simp [results, Try.results126, go_sem, z0, z1, z2, z3, z4, z5, z6, z7, z8, z9]) rfl ⟨A', cap', rfl, HR.out, ((((((((((hB2.setCell (p := ⟨w.heap.size + 1, 0, none⟩) (show w.heap.size ≤ w.heap.size + 1 by omega) (.int .i64 k.o)).setCell (p := ⟨w.heap.size + 1, 1, none⟩) (show w.heap.size ≤ w.heap.size + 1 by omega) (.int .i64 k.l)).setCell (p := ⟨w.heap.size + 1, 2, none⟩) (show w.heap.size ≤ w.heap.size + 1 by omega) (.int .i64 k.m)).setCell (p := ⟨w.heap.size + 1, 3, none⟩) (show w.heap.size ≤ w.heap.size + 1 by omega) (.slice A' k.ps.length cap')).setCell (p := ⟨w.heap.size + 1, 4, none⟩) (show w.heap.size ≤ w.heap.size + 1 by omega) (.int .i64 k.base)).setCell (p := ⟨w.heap.size + 1, 5, none⟩) (show w.heap.size ≤ w.heap.size + 1 by omega) (.int .i64 k.last)).setCell (p := ⟨w.heap.size + 1, 6, none⟩) (show w.heap.size ≤ w.heap.size + 1 by omega) (.string ⟨#[]⟩)).setCell (p := ⟨w.heap.size + 1, 7, none⟩) (show w.heap.size ≤ w.heap.size + 1 by omega) (.int .i64 0)).setCell (p := ⟨w.heap.size + 1, 8, none⟩) (show w.heap.size ≤ w.heap.size + 1 by omega) (.int .i64 0)).setCell (p := ⟨w.heap.size + 1, 9, none⟩) (show w.heap.size ≤ w.heap.size + 1 by omega) (.int .i64 1))⟩
end Go.Proofs.Ytfklkepodpcdgaa
