/- The laws' own copies and sizes of readers and writers. No condition but that the pairs are not too many. -/
import Derived.Test.YtfklkepodpcdgaaNy
namespace Go.Proofs.Ytfklkepodpcdgaa
open Go.ChangeShapes Go.WideShapes Go.ChangeAt Go.RowKit Go.Joins
set_option linter.unusedVariables false

set_option maxHeartbeats 4000000 in
theorem c_toReader (k : Kn) (B : ByteArray) (s c en : Int) (A : Option Addr) (cap L : Nat) (w : World) (h : PsAt w L A cap k.ps) (hL : L ≤ w.heap.size) (hn : k.ps.length ≤ 1048576) : Calls Try.prog 64 #[.agg #[.int .i64 k.o, .int .i64 k.l, .int .i64 k.m, .slice A k.ps.length cap, .int .i64 k.base, .int .i64 k.last, .string B, .int .i64 s, .int .i64 c, .int .i64 en]] w fun e w' => ∃ g, e = .returned (.agg #[.int .i64 k.o, .int .i64 k.l, .int .i64 k.m, .slice (some ⟨g, 0, none⟩) k.ps.length k.ps.length, .int .i64 k.base, .int .i64 k.last, .string B, .int .i64 s, .int .i64 c, .int .i64 en]) ∧ w'.ownsRow w.heap.size 169 2 (.slice (some ⟨g, 0, none⟩) k.ps.length k.ps.length) k.ps.length (prs k.ps) ∧ Below w.heap.size w w' := by
  have hB0 : Below w.heap.size w (((w.alloc (.cells #[.int .i64 k.o, .int .i64 k.l, .int .i64 k.m, .slice A k.ps.length cap, .int .i64 k.base, .int .i64 k.last, .string B, .int .i64 s, .int .i64 c, .int .i64 en] 77)).alloc (.cells #[.int .i64 0, .int .i64 0, .int .i64 0, .slice none 0 0, .int .i64 0, .int .i64 0, .string ⟨#[]⟩, .int .i64 0, .int .i64 0, .int .i64 0] 81)).alloc (.cells #[.int .i64 0, .int .i64 0, .int .i64 0, .slice none 0 0, .int .i64 0, .int .i64 0, .string ⟨#[]⟩, .int .i64 0, .int .i64 0, .int .i64 0] 81)) := by (repeat (first | with_reducible (first | assumption | exact Below.refl _ _ | refine bel_alloc ?_ _ | refine bel_drew ?_ | refine bel_drewN ?_ _ | refine bel_set ?_ (by first | omega | (simp; done) | (simp; omega)) _ | refine bel_trans ?_ (by assumption)) | assumption | refine bel_trans ?_ (by assumption)))
  have H1 := hid (((Blk.new w 77 #[.int .i64 k.o, .int .i64 k.l, .int .i64 k.m, .slice A k.ps.length cap, .int .i64 k.base, .int .i64 k.last, .string B, .int .i64 s, .int .i64 c, .int .i64 en]).alloc (.cells #[.int .i64 0, .int .i64 0, .int .i64 0, .slice none 0 0, .int .i64 0, .int .i64 0, .string ⟨#[]⟩, .int .i64 0, .int .i64 0, .int .i64 0] 81)).alloc (.cells #[.int .i64 0, .int .i64 0, .int .i64 0, .slice none 0 0, .int .i64 0, .int .i64 0, .string ⟨#[]⟩, .int .i64 0, .int .i64 0, .int .i64 0] 81))
  have H2 := hid ((Blk.top w (.cells #[.int .i64 k.o, .int .i64 k.l, .int .i64 k.m, .slice A k.ps.length cap, .int .i64 k.base, .int .i64 k.last, .string B, .int .i64 s, .int .i64 c, .int .i64 en] 77) 81 #[.int .i64 0, .int .i64 0, .int .i64 0, .slice none 0 0, .int .i64 0, .int .i64 0, .string ⟨#[]⟩, .int .i64 0, .int .i64 0, .int .i64 0]).alloc (.cells #[.int .i64 0, .int .i64 0, .int .i64 0, .slice none 0 0, .int .i64 0, .int .i64 0, .string ⟨#[]⟩, .int .i64 0, .int .i64 0, .int .i64 0] 81))
  have H3 := hid (Blk.third w (.cells #[.int .i64 k.o, .int .i64 k.l, .int .i64 k.m, .slice A k.ps.length cap, .int .i64 k.base, .int .i64 k.last, .string B, .int .i64 s, .int .i64 c, .int .i64 en] 77) (.cells #[.int .i64 0, .int .i64 0, .int .i64 0, .slice none 0 0, .int .i64 0, .int .i64 0, .string ⟨#[]⟩, .int .i64 0, .int .i64 0, .int .i64 0] 81) 81 #[.int .i64 0, .int .i64 0, .int .i64 0, .slice none 0 0, .int .i64 0, .int .i64 0, .string ⟨#[]⟩, .int .i64 0, .int .i64 0, .int .i64 0])
  have HT := hid (fun (v : World) (hb : Below w.heap.size w v) => c_toKnown k A cap L v (h.below hb hL) (Nat.le_trans hL hb.size) hn)
  clear h
  obtain ⟨p0, p1, p2, p3, p4, p5, p6, p7, p8, p9⟩ := H1.out.cells10
  go_enter Try.func64, Try.ntmps64
  go_wp2_with fail
  refine (HT.out _ hB0).mono ?_
  rintro e w1 ⟨g, rfl, hown, hb1⟩
  have hB1 := bel_trans hB0 hb1
  have K1 := hid (H1.out.on hb1)
  have K2 := hid (H2.out.on hb1)
  have K3 := hid (H3.out.on hb1)
  have HO := hid (own_mono hown hB0.size)
  clear p0 p1 p2 p3 p4 p5 p6 p7 p8 p9 hown hb1
  obtain ⟨p0, p1, p2, p3, p4, p5, p6, p7, p8, p9⟩ := K1.out.cells10
  obtain ⟨u0, u1, u2, u3, u4, u5, u6, u7, u8, u9⟩ := K3.out.cells10
  have f0 := K3.out.frozen 0
  have f1 := K3.out.frozen 1
  have f2 := K3.out.frozen 2
  have f3 := K3.out.frozen 3
  have f4 := K3.out.frozen 4
  have f5 := K3.out.frozen 5
  have f6 := K3.out.frozen 6
  have f7 := K3.out.frozen 7
  have f8 := K3.out.frozen 8
  have f9 := K3.out.frozen 9
  have M3 := hid (K3.out.put10 (.int .i64 k.o) (.int .i64 k.l) (.int .i64 k.m) (.slice (some ⟨g, 0, none⟩) k.ps.length k.ps.length) (.int .i64 k.base) (.int .i64 k.last) (.string B) (.int .i64 s) (.int .i64 c) (.int .i64 en))
  have M2 := hid ((((((((((K2.out.far 0 (.int .i64 k.o) (show w.heap.size + 1 ≠ w.heap.size + 1 + 1 by omega)).far 1 (.int .i64 k.l) (show w.heap.size + 1 ≠ w.heap.size + 1 + 1 by omega)).far 2 (.int .i64 k.m) (show w.heap.size + 1 ≠ w.heap.size + 1 + 1 by omega)).far 3 (.slice (some ⟨g, 0, none⟩) k.ps.length k.ps.length) (show w.heap.size + 1 ≠ w.heap.size + 1 + 1 by omega)).far 4 (.int .i64 k.base) (show w.heap.size + 1 ≠ w.heap.size + 1 + 1 by omega)).far 5 (.int .i64 k.last) (show w.heap.size + 1 ≠ w.heap.size + 1 + 1 by omega)).far 6 (.string B) (show w.heap.size + 1 ≠ w.heap.size + 1 + 1 by omega)).far 7 (.int .i64 s) (show w.heap.size + 1 ≠ w.heap.size + 1 + 1 by omega)).far 8 (.int .i64 c) (show w.heap.size + 1 ≠ w.heap.size + 1 + 1 by omega)).far 9 (.int .i64 en) (show w.heap.size + 1 ≠ w.heap.size + 1 + 1 by omega))
  have HR := hid (own_put10 HO.out K3.out (by decide) (.int .i64 k.o) (.int .i64 k.l) (.int .i64 k.m) (.slice (some ⟨g, 0, none⟩) k.ps.length k.ps.length) (.int .i64 k.base) (.int .i64 k.last) (.string B) (.int .i64 s) (.int .i64 c) (.int .i64 en))
  obtain ⟨x0, x1, x2, x3, x4, x5, x6, x7, x8, x9⟩ := M3.out.cells10
  obtain ⟨y0, y1, y2, y3, y4, y5, y6, y7, y8, y9⟩ := M2.out.cells10
  have d0 := M2.out.frozen 0
  have d1 := M2.out.frozen 1
  have d2 := M2.out.frozen 2
  have d3 := M2.out.frozen 3
  have d4 := M2.out.frozen 4
  have d5 := M2.out.frozen 5
  have d6 := M2.out.frozen 6
  have d7 := M2.out.frozen 7
  have d8 := M2.out.frozen 8
  have d9 := M2.out.frozen 9
  have F2 := hid (M2.out.put10 (.int .i64 k.o) (.int .i64 k.l) (.int .i64 k.m) (.slice (some ⟨g, 0, none⟩) k.ps.length k.ps.length) (.int .i64 k.base) (.int .i64 k.last) (.string B) (.int .i64 s) (.int .i64 c) (.int .i64 en))
  have HR2 := hid (own_put10 HR.out M2.out (by decide) (.int .i64 k.o) (.int .i64 k.l) (.int .i64 k.m) (.slice (some ⟨g, 0, none⟩) k.ps.length k.ps.length) (.int .i64 k.base) (.int .i64 k.last) (.string B) (.int .i64 s) (.int .i64 c) (.int .i64 en))
  obtain ⟨z0, z1, z2, z3, z4, z5, z6, z7, z8, z9⟩ := F2.out.cells10
  go_wp2
  exact bodyPost_ret (v := .agg #[.int .i64 k.o, .int .i64 k.l, .int .i64 k.m, .slice (some ⟨g, 0, none⟩) k.ps.length k.ps.length, .int .i64 k.base, .int .i64 k.last, .string B, .int .i64 s, .int .i64 c, .int .i64 en]) (by simp [results, Try.results64, go_sem, z0, z1, z2, z3, z4, z5, z6, z7, z8, z9]) rfl ⟨g, rfl, HR2.out, ((((((((((((((((((((hB1.setCell (p := ⟨w.heap.size + 1 + 1, 0, none⟩) (show w.heap.size ≤ w.heap.size + 1 + 1 by omega) (.int .i64 k.o)).setCell (p := ⟨w.heap.size + 1 + 1, 1, none⟩) (show w.heap.size ≤ w.heap.size + 1 + 1 by omega) (.int .i64 k.l)).setCell (p := ⟨w.heap.size + 1 + 1, 2, none⟩) (show w.heap.size ≤ w.heap.size + 1 + 1 by omega) (.int .i64 k.m)).setCell (p := ⟨w.heap.size + 1 + 1, 3, none⟩) (show w.heap.size ≤ w.heap.size + 1 + 1 by omega) (.slice (some ⟨g, 0, none⟩) k.ps.length k.ps.length)).setCell (p := ⟨w.heap.size + 1 + 1, 4, none⟩) (show w.heap.size ≤ w.heap.size + 1 + 1 by omega) (.int .i64 k.base)).setCell (p := ⟨w.heap.size + 1 + 1, 5, none⟩) (show w.heap.size ≤ w.heap.size + 1 + 1 by omega) (.int .i64 k.last)).setCell (p := ⟨w.heap.size + 1 + 1, 6, none⟩) (show w.heap.size ≤ w.heap.size + 1 + 1 by omega) (.string B)).setCell (p := ⟨w.heap.size + 1 + 1, 7, none⟩) (show w.heap.size ≤ w.heap.size + 1 + 1 by omega) (.int .i64 s)).setCell (p := ⟨w.heap.size + 1 + 1, 8, none⟩) (show w.heap.size ≤ w.heap.size + 1 + 1 by omega) (.int .i64 c)).setCell (p := ⟨w.heap.size + 1 + 1, 9, none⟩) (show w.heap.size ≤ w.heap.size + 1 + 1 by omega) (.int .i64 en)).setCell (p := ⟨w.heap.size + 1, 0, none⟩) (show w.heap.size ≤ w.heap.size + 1 by omega) (.int .i64 k.o)).setCell (p := ⟨w.heap.size + 1, 1, none⟩) (show w.heap.size ≤ w.heap.size + 1 by omega) (.int .i64 k.l)).setCell (p := ⟨w.heap.size + 1, 2, none⟩) (show w.heap.size ≤ w.heap.size + 1 by omega) (.int .i64 k.m)).setCell (p := ⟨w.heap.size + 1, 3, none⟩) (show w.heap.size ≤ w.heap.size + 1 by omega) (.slice (some ⟨g, 0, none⟩) k.ps.length k.ps.length)).setCell (p := ⟨w.heap.size + 1, 4, none⟩) (show w.heap.size ≤ w.heap.size + 1 by omega) (.int .i64 k.base)).setCell (p := ⟨w.heap.size + 1, 5, none⟩) (show w.heap.size ≤ w.heap.size + 1 by omega) (.int .i64 k.last)).setCell (p := ⟨w.heap.size + 1, 6, none⟩) (show w.heap.size ≤ w.heap.size + 1 by omega) (.string B)).setCell (p := ⟨w.heap.size + 1, 7, none⟩) (show w.heap.size ≤ w.heap.size + 1 by omega) (.int .i64 s)).setCell (p := ⟨w.heap.size + 1, 8, none⟩) (show w.heap.size ≤ w.heap.size + 1 by omega) (.int .i64 c)).setCell (p := ⟨w.heap.size + 1, 9, none⟩) (show w.heap.size ≤ w.heap.size + 1 by omega) (.int .i64 en))⟩

theorem c_szReader (k : Kn) (B : ByteArray) (s c en : Int) (A : Option Addr) (cap : Nat) (w : World) (hn : k.ps.length ≤ 1048576) (hB : B.size ≤ maxLen) : Calls Try.prog 62 #[.agg #[.int .i64 k.o, .int .i64 k.l, .int .i64 k.m, .slice A k.ps.length cap, .int .i64 k.base, .int .i64 k.last, .string B, .int .i64 s, .int .i64 c, .int .i64 en], .int .i64 1048576] w fun e w' => ∃ z : Int, e = .returned (.int .i64 z) ∧ Below w.heap.size w w' := by
  have HZ := hid (fun (v : World) => c_szKnown k A cap v hn)
  have H1 := hid (Blk.new w 77 #[.int .i64 k.o, .int .i64 k.l, .int .i64 k.m, .slice A k.ps.length cap, .int .i64 k.base, .int .i64 k.last, .string B, .int .i64 s, .int .i64 c, .int .i64 en])
  have hB0 : Below w.heap.size w (w.alloc (.cells #[.int .i64 k.o, .int .i64 k.l, .int .i64 k.m, .slice A k.ps.length cap, .int .i64 k.base, .int .i64 k.last, .string B, .int .i64 s, .int .i64 c, .int .i64 en] 77)) := by (repeat (first | with_reducible (first | assumption | exact Below.refl _ _ | refine bel_alloc ?_ _ | refine bel_drew ?_ | refine bel_drewN ?_ _ | refine bel_set ?_ (by first | omega | (simp; done) | (simp; omega)) _ | refine bel_trans ?_ (by assumption)) | assumption | refine bel_trans ?_ (by assumption)))
  unfold maxLen at *
  obtain ⟨p0, p1, p2, p3, p4, p5, p6, p7, p8, p9⟩ := H1.out.cells10
  go_enter Try.func62, Try.ntmps62
  go_wp2_with fail
  refine (HZ.out _).mono ?_
  rintro e w1 ⟨rfl, hb1⟩
  have K1 := hid (H1.out.on hb1)
  clear p0 p1 p2 p3 p4 p5 p6 p7 p8 p9
  obtain ⟨p0, p1, p2, p3, p4, p5, p6, p7, p8, p9⟩ := K1.out.cells10
  go_wp2
  all_goals
    go_ret
    exact ⟨_, rfl, by (repeat (first | with_reducible (first | assumption | exact Below.refl _ _ | refine bel_alloc ?_ _ | refine bel_drew ?_ | refine bel_drewN ?_ _ | refine bel_set ?_ (by first | omega | (simp; done) | (simp; omega)) _ | refine bel_trans ?_ (by assumption)) | assumption | refine bel_trans ?_ (by assumption)))⟩

set_option maxHeartbeats 4000000 in
theorem c_toWriter (k : Kn) (B B2 : ByteArray) (b : Bool) (A : Option Addr) (cap L : Nat) (w : World) (h : PsAt w L A cap k.ps) (hL : L ≤ w.heap.size) (hn : k.ps.length ≤ 1048576) : Calls Try.prog 79 #[.agg #[.int .i64 k.o, .int .i64 k.l, .int .i64 k.m, .slice A k.ps.length cap, .int .i64 k.base, .int .i64 k.last, .string B, .string B2, .bool b]] w fun e w' => ∃ g, e = .returned (.agg #[.int .i64 k.o, .int .i64 k.l, .int .i64 k.m, .slice (some ⟨g, 0, none⟩) k.ps.length k.ps.length, .int .i64 k.base, .int .i64 k.last, .string B, .string B2, .bool b]) ∧ w'.ownsRow w.heap.size 169 2 (.slice (some ⟨g, 0, none⟩) k.ps.length k.ps.length) k.ps.length (prs k.ps) ∧ Below w.heap.size w w' := by
  have hB0 : Below w.heap.size w (((w.alloc (.cells #[.int .i64 k.o, .int .i64 k.l, .int .i64 k.m, .slice A k.ps.length cap, .int .i64 k.base, .int .i64 k.last, .string B, .string B2, .bool b] 95)).alloc (.cells #[.int .i64 0, .int .i64 0, .int .i64 0, .slice none 0 0, .int .i64 0, .int .i64 0, .string ⟨#[]⟩, .string ⟨#[]⟩, .bool false] 99)).alloc (.cells #[.int .i64 0, .int .i64 0, .int .i64 0, .slice none 0 0, .int .i64 0, .int .i64 0, .string ⟨#[]⟩, .string ⟨#[]⟩, .bool false] 99)) := by (repeat (first | with_reducible (first | assumption | exact Below.refl _ _ | refine bel_alloc ?_ _ | refine bel_drew ?_ | refine bel_drewN ?_ _ | refine bel_set ?_ (by first | omega | (simp; done) | (simp; omega)) _ | refine bel_trans ?_ (by assumption)) | assumption | refine bel_trans ?_ (by assumption)))
  have H1 := hid (((Blk.new w 95 #[.int .i64 k.o, .int .i64 k.l, .int .i64 k.m, .slice A k.ps.length cap, .int .i64 k.base, .int .i64 k.last, .string B, .string B2, .bool b]).alloc (.cells #[.int .i64 0, .int .i64 0, .int .i64 0, .slice none 0 0, .int .i64 0, .int .i64 0, .string ⟨#[]⟩, .string ⟨#[]⟩, .bool false] 99)).alloc (.cells #[.int .i64 0, .int .i64 0, .int .i64 0, .slice none 0 0, .int .i64 0, .int .i64 0, .string ⟨#[]⟩, .string ⟨#[]⟩, .bool false] 99))
  have H2 := hid ((Blk.top w (.cells #[.int .i64 k.o, .int .i64 k.l, .int .i64 k.m, .slice A k.ps.length cap, .int .i64 k.base, .int .i64 k.last, .string B, .string B2, .bool b] 95) 99 #[.int .i64 0, .int .i64 0, .int .i64 0, .slice none 0 0, .int .i64 0, .int .i64 0, .string ⟨#[]⟩, .string ⟨#[]⟩, .bool false]).alloc (.cells #[.int .i64 0, .int .i64 0, .int .i64 0, .slice none 0 0, .int .i64 0, .int .i64 0, .string ⟨#[]⟩, .string ⟨#[]⟩, .bool false] 99))
  have H3 := hid (Blk.third w (.cells #[.int .i64 k.o, .int .i64 k.l, .int .i64 k.m, .slice A k.ps.length cap, .int .i64 k.base, .int .i64 k.last, .string B, .string B2, .bool b] 95) (.cells #[.int .i64 0, .int .i64 0, .int .i64 0, .slice none 0 0, .int .i64 0, .int .i64 0, .string ⟨#[]⟩, .string ⟨#[]⟩, .bool false] 99) 99 #[.int .i64 0, .int .i64 0, .int .i64 0, .slice none 0 0, .int .i64 0, .int .i64 0, .string ⟨#[]⟩, .string ⟨#[]⟩, .bool false])
  have HT := hid (fun (v : World) (hb : Below w.heap.size w v) => c_toKnown k A cap L v (h.below hb hL) (Nat.le_trans hL hb.size) hn)
  clear h
  obtain ⟨p0, p1, p2, p3, p4, p5, p6, p7, p8⟩ := H1.out.cells9
  go_enter Try.func79, Try.ntmps79
  go_wp2_with fail
  refine (HT.out _ hB0).mono ?_
  rintro e w1 ⟨g, rfl, hown, hb1⟩
  have hB1 := bel_trans hB0 hb1
  have K1 := hid (H1.out.on hb1)
  have K2 := hid (H2.out.on hb1)
  have K3 := hid (H3.out.on hb1)
  have HO := hid (own_mono hown hB0.size)
  clear p0 p1 p2 p3 p4 p5 p6 p7 p8 hown hb1
  obtain ⟨p0, p1, p2, p3, p4, p5, p6, p7, p8⟩ := K1.out.cells9
  obtain ⟨u0, u1, u2, u3, u4, u5, u6, u7, u8⟩ := K3.out.cells9
  have f0 := K3.out.frozen 0
  have f1 := K3.out.frozen 1
  have f2 := K3.out.frozen 2
  have f3 := K3.out.frozen 3
  have f4 := K3.out.frozen 4
  have f5 := K3.out.frozen 5
  have f6 := K3.out.frozen 6
  have f7 := K3.out.frozen 7
  have f8 := K3.out.frozen 8
  have M3 := hid (K3.out.put9 (.int .i64 k.o) (.int .i64 k.l) (.int .i64 k.m) (.slice (some ⟨g, 0, none⟩) k.ps.length k.ps.length) (.int .i64 k.base) (.int .i64 k.last) (.string B) (.string B2) (.bool b))
  have M2 := hid (((((((((K2.out.far 0 (.int .i64 k.o) (show w.heap.size + 1 ≠ w.heap.size + 1 + 1 by omega)).far 1 (.int .i64 k.l) (show w.heap.size + 1 ≠ w.heap.size + 1 + 1 by omega)).far 2 (.int .i64 k.m) (show w.heap.size + 1 ≠ w.heap.size + 1 + 1 by omega)).far 3 (.slice (some ⟨g, 0, none⟩) k.ps.length k.ps.length) (show w.heap.size + 1 ≠ w.heap.size + 1 + 1 by omega)).far 4 (.int .i64 k.base) (show w.heap.size + 1 ≠ w.heap.size + 1 + 1 by omega)).far 5 (.int .i64 k.last) (show w.heap.size + 1 ≠ w.heap.size + 1 + 1 by omega)).far 6 (.string B) (show w.heap.size + 1 ≠ w.heap.size + 1 + 1 by omega)).far 7 (.string B2) (show w.heap.size + 1 ≠ w.heap.size + 1 + 1 by omega)).far 8 (.bool b) (show w.heap.size + 1 ≠ w.heap.size + 1 + 1 by omega))
  have HR := hid (own_put9 HO.out K3.out (by decide) (.int .i64 k.o) (.int .i64 k.l) (.int .i64 k.m) (.slice (some ⟨g, 0, none⟩) k.ps.length k.ps.length) (.int .i64 k.base) (.int .i64 k.last) (.string B) (.string B2) (.bool b))
  obtain ⟨x0, x1, x2, x3, x4, x5, x6, x7, x8⟩ := M3.out.cells9
  obtain ⟨y0, y1, y2, y3, y4, y5, y6, y7, y8⟩ := M2.out.cells9
  have d0 := M2.out.frozen 0
  have d1 := M2.out.frozen 1
  have d2 := M2.out.frozen 2
  have d3 := M2.out.frozen 3
  have d4 := M2.out.frozen 4
  have d5 := M2.out.frozen 5
  have d6 := M2.out.frozen 6
  have d7 := M2.out.frozen 7
  have d8 := M2.out.frozen 8
  have F2 := hid (M2.out.put9 (.int .i64 k.o) (.int .i64 k.l) (.int .i64 k.m) (.slice (some ⟨g, 0, none⟩) k.ps.length k.ps.length) (.int .i64 k.base) (.int .i64 k.last) (.string B) (.string B2) (.bool b))
  have HR2 := hid (own_put9 HR.out M2.out (by decide) (.int .i64 k.o) (.int .i64 k.l) (.int .i64 k.m) (.slice (some ⟨g, 0, none⟩) k.ps.length k.ps.length) (.int .i64 k.base) (.int .i64 k.last) (.string B) (.string B2) (.bool b))
  obtain ⟨z0, z1, z2, z3, z4, z5, z6, z7, z8⟩ := F2.out.cells9
  go_wp2
  exact bodyPost_ret (v := .agg #[.int .i64 k.o, .int .i64 k.l, .int .i64 k.m, .slice (some ⟨g, 0, none⟩) k.ps.length k.ps.length, .int .i64 k.base, .int .i64 k.last, .string B, .string B2, .bool b]) (by simp [results, Try.results79, go_sem, z0, z1, z2, z3, z4, z5, z6, z7, z8]) rfl ⟨g, rfl, HR2.out, ((((((((((((((((((hB1.setCell (p := ⟨w.heap.size + 1 + 1, 0, none⟩) (show w.heap.size ≤ w.heap.size + 1 + 1 by omega) (.int .i64 k.o)).setCell (p := ⟨w.heap.size + 1 + 1, 1, none⟩) (show w.heap.size ≤ w.heap.size + 1 + 1 by omega) (.int .i64 k.l)).setCell (p := ⟨w.heap.size + 1 + 1, 2, none⟩) (show w.heap.size ≤ w.heap.size + 1 + 1 by omega) (.int .i64 k.m)).setCell (p := ⟨w.heap.size + 1 + 1, 3, none⟩) (show w.heap.size ≤ w.heap.size + 1 + 1 by omega) (.slice (some ⟨g, 0, none⟩) k.ps.length k.ps.length)).setCell (p := ⟨w.heap.size + 1 + 1, 4, none⟩) (show w.heap.size ≤ w.heap.size + 1 + 1 by omega) (.int .i64 k.base)).setCell (p := ⟨w.heap.size + 1 + 1, 5, none⟩) (show w.heap.size ≤ w.heap.size + 1 + 1 by omega) (.int .i64 k.last)).setCell (p := ⟨w.heap.size + 1 + 1, 6, none⟩) (show w.heap.size ≤ w.heap.size + 1 + 1 by omega) (.string B)).setCell (p := ⟨w.heap.size + 1 + 1, 7, none⟩) (show w.heap.size ≤ w.heap.size + 1 + 1 by omega) (.string B2)).setCell (p := ⟨w.heap.size + 1 + 1, 8, none⟩) (show w.heap.size ≤ w.heap.size + 1 + 1 by omega) (.bool b)).setCell (p := ⟨w.heap.size + 1, 0, none⟩) (show w.heap.size ≤ w.heap.size + 1 by omega) (.int .i64 k.o)).setCell (p := ⟨w.heap.size + 1, 1, none⟩) (show w.heap.size ≤ w.heap.size + 1 by omega) (.int .i64 k.l)).setCell (p := ⟨w.heap.size + 1, 2, none⟩) (show w.heap.size ≤ w.heap.size + 1 by omega) (.int .i64 k.m)).setCell (p := ⟨w.heap.size + 1, 3, none⟩) (show w.heap.size ≤ w.heap.size + 1 by omega) (.slice (some ⟨g, 0, none⟩) k.ps.length k.ps.length)).setCell (p := ⟨w.heap.size + 1, 4, none⟩) (show w.heap.size ≤ w.heap.size + 1 by omega) (.int .i64 k.base)).setCell (p := ⟨w.heap.size + 1, 5, none⟩) (show w.heap.size ≤ w.heap.size + 1 by omega) (.int .i64 k.last)).setCell (p := ⟨w.heap.size + 1, 6, none⟩) (show w.heap.size ≤ w.heap.size + 1 by omega) (.string B)).setCell (p := ⟨w.heap.size + 1, 7, none⟩) (show w.heap.size ≤ w.heap.size + 1 by omega) (.string B2)).setCell (p := ⟨w.heap.size + 1, 8, none⟩) (show w.heap.size ≤ w.heap.size + 1 by omega) (.bool b))⟩

theorem c_szWriter (k : Kn) (B B2 : ByteArray) (b : Bool) (A : Option Addr) (cap : Nat) (w : World) (hn : k.ps.length ≤ 1048576) (hB : B.size ≤ maxLen) (hB2 : B2.size ≤ maxLen) : Calls Try.prog 77 #[.agg #[.int .i64 k.o, .int .i64 k.l, .int .i64 k.m, .slice A k.ps.length cap, .int .i64 k.base, .int .i64 k.last, .string B, .string B2, .bool b], .int .i64 1048576] w fun e w' => ∃ z : Int, e = .returned (.int .i64 z) ∧ Below w.heap.size w w' := by
  have HZ := hid (fun (v : World) => c_szKnown k A cap v hn)
  have H1 := hid (Blk.new w 95 #[.int .i64 k.o, .int .i64 k.l, .int .i64 k.m, .slice A k.ps.length cap, .int .i64 k.base, .int .i64 k.last, .string B, .string B2, .bool b])
  have hB0 : Below w.heap.size w (w.alloc (.cells #[.int .i64 k.o, .int .i64 k.l, .int .i64 k.m, .slice A k.ps.length cap, .int .i64 k.base, .int .i64 k.last, .string B, .string B2, .bool b] 95)) := by (repeat (first | with_reducible (first | assumption | exact Below.refl _ _ | refine bel_alloc ?_ _ | refine bel_drew ?_ | refine bel_drewN ?_ _ | refine bel_set ?_ (by first | omega | (simp; done) | (simp; omega)) _ | refine bel_trans ?_ (by assumption)) | assumption | refine bel_trans ?_ (by assumption)))
  unfold maxLen at *
  obtain ⟨p0, p1, p2, p3, p4, p5, p6, p7, p8⟩ := H1.out.cells9
  go_enter Try.func77, Try.ntmps77
  go_wp2_with fail
  refine (HZ.out _).mono ?_
  rintro e w1 ⟨rfl, hb1⟩
  have K1 := hid (H1.out.on hb1)
  clear p0 p1 p2 p3 p4 p5 p6 p7 p8
  obtain ⟨p0, p1, p2, p3, p4, p5, p6, p7, p8⟩ := K1.out.cells9
  go_wp2
  all_goals
    go_ret
    exact ⟨_, rfl, by (repeat (first | with_reducible (first | assumption | exact Below.refl _ _ | refine bel_alloc ?_ _ | refine bel_drew ?_ | refine bel_drewN ?_ _ | refine bel_set ?_ (by first | omega | (simp; done) | (simp; omega)) _ | refine bel_trans ?_ (by assumption)) | assumption | refine bel_trans ?_ (by assumption)))⟩
end Go.Proofs.Ytfklkepodpcdgaa
