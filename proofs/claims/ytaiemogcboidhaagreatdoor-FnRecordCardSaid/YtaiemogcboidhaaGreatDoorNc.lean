/- What draws an operation, sometimes one that is not valid, and its text. No condition. -/
import Derived.Test.YtaiemogcboidhaaGreatDoorNb
import Derived.Test.YtaiemogcboidhaaGreatDoorKh
namespace Go.Proofs.YtaiemogcboidhaaGreatDoor
open Go.ChangeShapes Go.WideShapes Go.ChangeAt Go.RowKit Go.Joins
set_option linter.unusedVariables false
set_option linter.unusedSimpArgs false

set_option maxRecDepth 100000 in
set_option maxHeartbeats 4000000 in
theorem c_l8BadOp (L B q : Nat) (k : Int) (nm : ByteArray) (f t z : Int) (d : ByteArray) (w : World) (hr : Rd 87 w L B q) (hq : q ≤ 10000) (hop : OpIn k nm f t z d) :
    Calls Tryz.prog 43 #[.pointer (some ⟨B, 0, none⟩), .agg #[.int .i64 k, .string nm, .int .i64 f, .int .i64 t, .int .i64 z, .string d]] w (AnOp 87 w L B (q + 5)) := by
  have hB := hr.lt
  obtain ⟨hk, hnm, hf, ht, hz, hd⟩ := hop
  obtain ⟨w0, hW0⟩ : ∃ w0, w0 = (w.alloc (.cells #[.int .i64 k, .string nm, .int .i64 f, .int .i64 t, .int .i64 z, .string d] 24)).alloc (.cells #[.int .i64 0, .string ⟨#[]⟩, .int .i64 0, .int .i64 0, .int .i64 0, .string ⟨#[]⟩] 24) := ⟨_, rfl⟩
  have hr0 : Rd 87 w0 L B q := by rw [hW0]; exact (hr.alloc _).alloc _
  have kS0 : Blk w0 w.heap.size 24 #[.int .i64 k, .string nm, .int .i64 f, .int .i64 t, .int .i64 z, .string d] := by rw [hW0]; exact (Blk.new w _ _).alloc _
  have kZ0 : Blk w0 (w.heap.size + 1) 24 #[.int .i64 0, .string ⟨#[]⟩, .int .i64 0, .int .i64 0, .int .i64 0, .string ⟨#[]⟩] := by rw [hW0]; have := Blk.new (w.alloc (.cells #[.int .i64 k, .string nm, .int .i64 f, .int .i64 t, .int .i64 z, .string d] 24)) 24 #[.int .i64 0, .string ⟨#[]⟩, .int .i64 0, .int .i64 0, .int .i64 0, .string ⟨#[]⟩]; rw [alloc_size] at this; exact this
  have g0 : w.grownBy w0 (some B) := by rw [hW0]; exact grown_alloc (grown_alloc (grown_refl w _) _) _
  have hz0 : w.heap.size + 2 ≤ w0.heap.size := by rw [hW0, alloc_size, alloc_size]; omega
  have HZE := hid (show w0.heap.size = w.heap.size + 1 + 1 by rw [hW0, alloc_size, alloc_size])
  clear hr
  go_enter Tryz.func43, Tryz.ntmps43
  go_wp2_with fail
  rw [← hW0]
  clear hW0
  refine (c_pick L B _ 40 _ hr0 (by omega) (by decide)).mono ?_
  rintro e w1 ⟨x, rfl, h0_x, h1_x, _, hr1, hg1⟩
  have h2_x := h1_x (by decide)
  clear h1_x
  have hz1 : w0.heap.size ≤ w1.heap.size := by have := hg1.size; first | exact this | (rw [World.size_alloc] at this; omega)
  have kS1 := kS0.grown hg1 (by simp; omega)
  have kZ1 := kZ0.grown hg1 (by simp; omega)
  have g1 := grown_trans g0 hg1
  clear kS0 kZ0 hg1 hr0 g0
  by_cases c0 : x = 0
  · skip
    have e0 : (x == 0) = true := eq_yes c0
    clear c0 h0_x h2_x
    go_wp2_with fail
    refine (c_num L B _ w1.heap.size 4 [-1, 5, 2, 3] _ (hr1.alloc _) (by omega) (by exact intsAt_new w1 _ _) rfl (by decide) (by decide) (by omega)).mono ?_
    rintro e w2 ⟨y, rfl, hy, hr2, hg2⟩
    have hy2 : -9223372036854775808 ≤ y ∧ y ≤ 9223372036854775807 := by simp only [List.mem_cons, List.not_mem_nil, or_false] at hy; omega
    clear hy
    have hz2 : w1.heap.size ≤ w2.heap.size := by have := hg2.size; first | exact this | (rw [World.size_alloc] at this; omega)
    have kS2 := (kS1.alloc _).grown hg2 (by simp; omega)
    have kZ2 := (kZ1.alloc _).grown hg2 (by simp; omega)
    have g2 := grown_trans (grown_alloc g1 _) hg2
    clear kS1 kZ1 hg2 hr1 g1
    obtain ⟨p0, p1, p2, p3, p4, p5⟩ := kS2.cells6
    have pf := kS2.frozen 0
    obtain ⟨hr2a, g2a⟩ := fld_set hB hr2 g2 (w.heap.size) (by omega) 0 (.int .i64 y)
    have kS2a := kS2.set_ 0 (.int .i64 y)
    simp only [List.setIfInBounds_toArray, List.set_cons_zero, List.set_cons_succ] at kS2a
    have kZ2a := kZ2.set_other (R := w.heap.size) 0 (.int .i64 y) (by omega)
    have hz3 : w2.heap.size ≤ (w2.setCell ⟨w.heap.size, 0, none⟩ (.int .i64 y)).heap.size := by rw [World.size_setCell]; exact Nat.le_refl _
    obtain ⟨w3, hW3⟩ : ∃ w3, w3 = w2.setCell ⟨w.heap.size, 0, none⟩ (.int .i64 y) := ⟨_, rfl⟩
    rw [← hW3] at hr2a g2a kS2a kZ2a hz3
    have kS3 := kS2a
    have kZ3 := kZ2a
    have hr3 := hr2a
    have g3 := g2a
    clear kS2a kZ2a hr2a g2a
    rw [hW3] at kS3 kZ3 hr3 g3
    obtain ⟨a0, a1, a2, a3, a4, a5⟩ := kS3.cells6
    obtain ⟨n0, n1, n2, n3, n4, n5⟩ := kZ3.cells6
    have f0 := kZ3.frozen 0
    have f1 := kZ3.frozen 1
    have f2 := kZ3.frozen 2
    have f3 := kZ3.frozen 3
    have f4 := kZ3.frozen 4
    have f5 := kZ3.frozen 5
    obtain ⟨hrE, gE, hbE⟩ := set_end6 hB hr3 g3 (w.heap.size + 1) (by omega) kZ3 (.int .i64 y) (.string nm) (.int .i64 f) (.int .i64 t) (.int .i64 z) (.string d)
    obtain ⟨j0, j1, j2, j3, j4, j5⟩ := hbE.cells6
    clear hbE kS3 kZ3
    go_wp2
    (try simp only [Exit.inBlock, Exit.then])
    exact bodyPost_ret (v := .agg #[.int .i64 y, .string nm, .int .i64 f, .int .i64 t, .int .i64 z, .string d]) (by simp [results, Tryz.results43, go_sem, j0, j1, j2, j3, j4, j5]) rfl ⟨_, _, _, _, _, _, rfl, ⟨hy2, hnm, hf, ht, hz, hd⟩, hrE.more (by omega), gE⟩
  by_cases c1 : x = 1
  · skip
    have e0 : (x == 0) = false := eq_no (by omega)
    have e1 : (x == 1) = true := eq_yes c1
    clear c0 c1 h0_x h2_x
    go_wp2_with fail
    refine (c_of L B _ w1.heap.size 4 [⟨#[]⟩, ⟨#[65]⟩, ⟨#[97, 98, 99, 100, 101, 102, 103, 104, 105]⟩, ⟨#[97, 32, 98]⟩] _ (hr1.alloc _) (by omega) (by exact txsAt_new w1 _ _) rfl (by decide) (by decide) (by omega)).mono ?_
    rintro e w2 ⟨y, rfl, hy, hr2, hg2⟩
    have hz_y : y.size ≤ 100 := by simp only [List.mem_cons, List.not_mem_nil, or_false] at hy; rcases hy with rfl | rfl | rfl | rfl <;> decide
    clear hy
    have hz2 : w1.heap.size ≤ w2.heap.size := by have := hg2.size; first | exact this | (rw [World.size_alloc] at this; omega)
    have kS2 := (kS1.alloc _).grown hg2 (by simp; omega)
    have kZ2 := (kZ1.alloc _).grown hg2 (by simp; omega)
    have g2 := grown_trans (grown_alloc g1 _) hg2
    clear kS1 kZ1 hg2 hr1 g1
    obtain ⟨p0, p1, p2, p3, p4, p5⟩ := kS2.cells6
    have pf := kS2.frozen 1
    obtain ⟨hr2a, g2a⟩ := fld_set hB hr2 g2 (w.heap.size) (by omega) 1 (.string y)
    have kS2a := kS2.set_ 1 (.string y)
    simp only [List.setIfInBounds_toArray, List.set_cons_zero, List.set_cons_succ] at kS2a
    have kZ2a := kZ2.set_other (R := w.heap.size) 1 (.string y) (by omega)
    have hz3 : w2.heap.size ≤ (w2.setCell ⟨w.heap.size, 1, none⟩ (.string y)).heap.size := by rw [World.size_setCell]; exact Nat.le_refl _
    obtain ⟨w3, hW3⟩ : ∃ w3, w3 = w2.setCell ⟨w.heap.size, 1, none⟩ (.string y) := ⟨_, rfl⟩
    rw [← hW3] at hr2a g2a kS2a kZ2a hz3
    have kS3 := kS2a
    have kZ3 := kZ2a
    have hr3 := hr2a
    have g3 := g2a
    clear kS2a kZ2a hr2a g2a
    rw [hW3] at kS3 kZ3 hr3 g3
    obtain ⟨a0, a1, a2, a3, a4, a5⟩ := kS3.cells6
    obtain ⟨n0, n1, n2, n3, n4, n5⟩ := kZ3.cells6
    have f0 := kZ3.frozen 0
    have f1 := kZ3.frozen 1
    have f2 := kZ3.frozen 2
    have f3 := kZ3.frozen 3
    have f4 := kZ3.frozen 4
    have f5 := kZ3.frozen 5
    obtain ⟨hrE, gE, hbE⟩ := set_end6 hB hr3 g3 (w.heap.size + 1) (by omega) kZ3 (.int .i64 k) (.string y) (.int .i64 f) (.int .i64 t) (.int .i64 z) (.string d)
    obtain ⟨j0, j1, j2, j3, j4, j5⟩ := hbE.cells6
    clear hbE kS3 kZ3
    go_wp2
    (try simp only [Exit.inBlock, Exit.then])
    exact bodyPost_ret (v := .agg #[.int .i64 k, .string y, .int .i64 f, .int .i64 t, .int .i64 z, .string d]) (by simp [results, Tryz.results43, go_sem, j0, j1, j2, j3, j4, j5]) rfl ⟨_, _, _, _, _, _, rfl, ⟨hk, hz_y, hf, ht, hz, hd⟩, hrE.more (by omega), gE⟩
  by_cases c2 : x = 2
  · skip
    have e0 : (x == 0) = false := eq_no (by omega)
    have e1 : (x == 1) = false := eq_no (by omega)
    have e2 : (x == 2) = true := eq_yes c2
    clear c0 c1 c2 h0_x h2_x
    go_wp2_with fail
    refine (c_num L B _ w1.heap.size 4 [0, 65, -1, 64] _ (hr1.alloc _) (by omega) (by exact intsAt_new w1 _ _) rfl (by decide) (by decide) (by omega)).mono ?_
    rintro e w2 ⟨y, rfl, hy, hr2, hg2⟩
    have hy2 : -9223372036854775808 ≤ y ∧ y ≤ 9223372036854775807 := by simp only [List.mem_cons, List.not_mem_nil, or_false] at hy; omega
    clear hy
    have hz2 : w1.heap.size ≤ w2.heap.size := by have := hg2.size; first | exact this | (rw [World.size_alloc] at this; omega)
    have kS2 := (kS1.alloc _).grown hg2 (by simp; omega)
    have kZ2 := (kZ1.alloc _).grown hg2 (by simp; omega)
    have g2 := grown_trans (grown_alloc g1 _) hg2
    clear kS1 kZ1 hg2 hr1 g1
    obtain ⟨p0, p1, p2, p3, p4, p5⟩ := kS2.cells6
    have pf := kS2.frozen 4
    obtain ⟨hr2a, g2a⟩ := fld_set hB hr2 g2 (w.heap.size) (by omega) 4 (.int .i64 y)
    have kS2a := kS2.set_ 4 (.int .i64 y)
    simp only [List.setIfInBounds_toArray, List.set_cons_zero, List.set_cons_succ] at kS2a
    have kZ2a := kZ2.set_other (R := w.heap.size) 4 (.int .i64 y) (by omega)
    have hz3 : w2.heap.size ≤ (w2.setCell ⟨w.heap.size, 4, none⟩ (.int .i64 y)).heap.size := by rw [World.size_setCell]; exact Nat.le_refl _
    obtain ⟨w3, hW3⟩ : ∃ w3, w3 = w2.setCell ⟨w.heap.size, 4, none⟩ (.int .i64 y) := ⟨_, rfl⟩
    rw [← hW3] at hr2a g2a kS2a kZ2a hz3
    have kS3 := kS2a
    have kZ3 := kZ2a
    have hr3 := hr2a
    have g3 := g2a
    clear kS2a kZ2a hr2a g2a
    rw [hW3] at kS3 kZ3 hr3 g3
    obtain ⟨a0, a1, a2, a3, a4, a5⟩ := kS3.cells6
    obtain ⟨n0, n1, n2, n3, n4, n5⟩ := kZ3.cells6
    have f0 := kZ3.frozen 0
    have f1 := kZ3.frozen 1
    have f2 := kZ3.frozen 2
    have f3 := kZ3.frozen 3
    have f4 := kZ3.frozen 4
    have f5 := kZ3.frozen 5
    obtain ⟨hrE, gE, hbE⟩ := set_end6 hB hr3 g3 (w.heap.size + 1) (by omega) kZ3 (.int .i64 k) (.string nm) (.int .i64 f) (.int .i64 t) (.int .i64 y) (.string d)
    obtain ⟨j0, j1, j2, j3, j4, j5⟩ := hbE.cells6
    clear hbE kS3 kZ3
    go_wp2
    (try simp only [Exit.inBlock, Exit.then])
    exact bodyPost_ret (v := .agg #[.int .i64 k, .string nm, .int .i64 f, .int .i64 t, .int .i64 y, .string d]) (by simp [results, Tryz.results43, go_sem, j0, j1, j2, j3, j4, j5]) rfl ⟨_, _, _, _, _, _, rfl, ⟨hk, hnm, hf, ht, hy2, hd⟩, hrE.more (by omega), gE⟩
  by_cases c3 : x = 3
  · skip
    have e0 : (x == 0) = false := eq_no (by omega)
    have e1 : (x == 1) = false := eq_no (by omega)
    have e2 : (x == 2) = false := eq_no (by omega)
    have e3 : (x == 3) = true := eq_yes c3
    clear c0 c1 c2 c3 h0_x h2_x
    go_wp2_with fail
    refine (c_num L B _ w1.heap.size 4 [-1, 5, 2001, 9223372036854775807] _ (hr1.alloc _) (by omega) (by exact intsAt_new w1 _ _) rfl (by decide) (by decide) (by omega)).mono ?_
    rintro e w2 ⟨y, rfl, hy, hr2, hg2⟩
    have hy2 : -9223372036854775808 ≤ y ∧ y ≤ 9223372036854775807 := by simp only [List.mem_cons, List.not_mem_nil, or_false] at hy; omega
    clear hy
    have hz2 : w1.heap.size ≤ w2.heap.size := by have := hg2.size; first | exact this | (rw [World.size_alloc] at this; omega)
    have kS2 := (kS1.alloc _).grown hg2 (by simp; omega)
    have kZ2 := (kZ1.alloc _).grown hg2 (by simp; omega)
    have g2 := grown_trans (grown_alloc g1 _) hg2
    clear kS1 kZ1 hg2 hr1 g1
    obtain ⟨p0, p1, p2, p3, p4, p5⟩ := kS2.cells6
    have pf := kS2.frozen 2
    obtain ⟨hr2a, g2a⟩ := fld_set hB hr2 g2 (w.heap.size) (by omega) 2 (.int .i64 y)
    have kS2a := kS2.set_ 2 (.int .i64 y)
    simp only [List.setIfInBounds_toArray, List.set_cons_zero, List.set_cons_succ] at kS2a
    have kZ2a := kZ2.set_other (R := w.heap.size) 2 (.int .i64 y) (by omega)
    have hz3 : w2.heap.size ≤ (w2.setCell ⟨w.heap.size, 2, none⟩ (.int .i64 y)).heap.size := by rw [World.size_setCell]; exact Nat.le_refl _
    obtain ⟨w3, hW3⟩ : ∃ w3, w3 = w2.setCell ⟨w.heap.size, 2, none⟩ (.int .i64 y) := ⟨_, rfl⟩
    rw [← hW3] at hr2a g2a kS2a kZ2a hz3
    have kS3 := kS2a
    have kZ3 := kZ2a
    have hr3 := hr2a
    have g3 := g2a
    clear kS2a kZ2a hr2a g2a
    rw [hW3] at kS3 kZ3 hr3 g3
    obtain ⟨a0, a1, a2, a3, a4, a5⟩ := kS3.cells6
    obtain ⟨n0, n1, n2, n3, n4, n5⟩ := kZ3.cells6
    have f0 := kZ3.frozen 0
    have f1 := kZ3.frozen 1
    have f2 := kZ3.frozen 2
    have f3 := kZ3.frozen 3
    have f4 := kZ3.frozen 4
    have f5 := kZ3.frozen 5
    obtain ⟨hrE, gE, hbE⟩ := set_end6 hB hr3 g3 (w.heap.size + 1) (by omega) kZ3 (.int .i64 k) (.string nm) (.int .i64 y) (.int .i64 t) (.int .i64 z) (.string d)
    obtain ⟨j0, j1, j2, j3, j4, j5⟩ := hbE.cells6
    clear hbE kS3 kZ3
    go_wp2
    (try simp only [Exit.inBlock, Exit.then])
    exact bodyPost_ret (v := .agg #[.int .i64 k, .string nm, .int .i64 y, .int .i64 t, .int .i64 z, .string d]) (by simp [results, Tryz.results43, go_sem, j0, j1, j2, j3, j4, j5]) rfl ⟨_, _, _, _, _, _, rfl, ⟨hk, hnm, hy2, ht, hz, hd⟩, hrE.more (by omega), gE⟩
  by_cases c4 : x = 4
  · skip
    have e0 : (x == 0) = false := eq_no (by omega)
    have e1 : (x == 1) = false := eq_no (by omega)
    have e2 : (x == 2) = false := eq_no (by omega)
    have e3 : (x == 3) = false := eq_no (by omega)
    have e4 : (x == 4) = true := eq_yes c4
    clear c0 c1 c2 c3 c4 h0_x h2_x
    go_wp2_with fail
    refine (c_num L B _ w1.heap.size 4 [-1, 5, 2001, -9223372036854775808] _ (hr1.alloc _) (by omega) (by exact intsAt_new w1 _ _) rfl (by decide) (by decide) (by omega)).mono ?_
    rintro e w2 ⟨y, rfl, hy, hr2, hg2⟩
    have hy2 : -9223372036854775808 ≤ y ∧ y ≤ 9223372036854775807 := by simp only [List.mem_cons, List.not_mem_nil, or_false] at hy; omega
    clear hy
    have hz2 : w1.heap.size ≤ w2.heap.size := by have := hg2.size; first | exact this | (rw [World.size_alloc] at this; omega)
    have kS2 := (kS1.alloc _).grown hg2 (by simp; omega)
    have kZ2 := (kZ1.alloc _).grown hg2 (by simp; omega)
    have g2 := grown_trans (grown_alloc g1 _) hg2
    clear kS1 kZ1 hg2 hr1 g1
    obtain ⟨p0, p1, p2, p3, p4, p5⟩ := kS2.cells6
    have pf := kS2.frozen 3
    obtain ⟨hr2a, g2a⟩ := fld_set hB hr2 g2 (w.heap.size) (by omega) 3 (.int .i64 y)
    have kS2a := kS2.set_ 3 (.int .i64 y)
    simp only [List.setIfInBounds_toArray, List.set_cons_zero, List.set_cons_succ] at kS2a
    have kZ2a := kZ2.set_other (R := w.heap.size) 3 (.int .i64 y) (by omega)
    have hz3 : w2.heap.size ≤ (w2.setCell ⟨w.heap.size, 3, none⟩ (.int .i64 y)).heap.size := by rw [World.size_setCell]; exact Nat.le_refl _
    obtain ⟨w3, hW3⟩ : ∃ w3, w3 = w2.setCell ⟨w.heap.size, 3, none⟩ (.int .i64 y) := ⟨_, rfl⟩
    rw [← hW3] at hr2a g2a kS2a kZ2a hz3
    have kS3 := kS2a
    have kZ3 := kZ2a
    have hr3 := hr2a
    have g3 := g2a
    clear kS2a kZ2a hr2a g2a
    rw [hW3] at kS3 kZ3 hr3 g3
    obtain ⟨a0, a1, a2, a3, a4, a5⟩ := kS3.cells6
    obtain ⟨n0, n1, n2, n3, n4, n5⟩ := kZ3.cells6
    have f0 := kZ3.frozen 0
    have f1 := kZ3.frozen 1
    have f2 := kZ3.frozen 2
    have f3 := kZ3.frozen 3
    have f4 := kZ3.frozen 4
    have f5 := kZ3.frozen 5
    obtain ⟨hrE, gE, hbE⟩ := set_end6 hB hr3 g3 (w.heap.size + 1) (by omega) kZ3 (.int .i64 k) (.string nm) (.int .i64 f) (.int .i64 y) (.int .i64 z) (.string d)
    obtain ⟨j0, j1, j2, j3, j4, j5⟩ := hbE.cells6
    clear hbE kS3 kZ3
    go_wp2
    (try simp only [Exit.inBlock, Exit.then])
    exact bodyPost_ret (v := .agg #[.int .i64 k, .string nm, .int .i64 f, .int .i64 y, .int .i64 z, .string d]) (by simp [results, Tryz.results43, go_sem, j0, j1, j2, j3, j4, j5]) rfl ⟨_, _, _, _, _, _, rfl, ⟨hk, hnm, hf, hy2, hz, hd⟩, hrE.more (by omega), gE⟩
  have e0 : (x == 0) = false := eq_no (by omega)
  have e1 : (x == 1) = false := eq_no (by omega)
  have e2 : (x == 2) = false := eq_no (by omega)
  have e3 : (x == 3) = false := eq_no (by omega)
  have e4 : (x == 4) = false := eq_no (by omega)
  clear c0 c1 c2 c3 c4 h0_x h2_x
  obtain ⟨a0, a1, a2, a3, a4, a5⟩ := kS1.cells6
  obtain ⟨n0, n1, n2, n3, n4, n5⟩ := kZ1.cells6
  have f0 := kZ1.frozen 0
  have f1 := kZ1.frozen 1
  have f2 := kZ1.frozen 2
  have f3 := kZ1.frozen 3
  have f4 := kZ1.frozen 4
  have f5 := kZ1.frozen 5
  obtain ⟨hrE, gE, hbE⟩ := set_end6 hB hr1 g1 (w.heap.size + 1) (by omega) kZ1 (.int .i64 k) (.string nm) (.int .i64 f) (.int .i64 t) (.int .i64 z) (.string d)
  obtain ⟨j0, j1, j2, j3, j4, j5⟩ := hbE.cells6
  clear hbE kS1 kZ1
  go_wp2
  (try simp only [Exit.inBlock, Exit.then])
  exact bodyPost_ret (v := .agg #[.int .i64 k, .string nm, .int .i64 f, .int .i64 t, .int .i64 z, .string d]) (by simp [results, Tryz.results43, go_sem, j0, j1, j2, j3, j4, j5]) rfl ⟨_, _, _, _, _, _, rfl, ⟨hk, hnm, hf, ht, hz, hd⟩, hrE.more (by omega), gE⟩

def AnOpD (w : World) (e : Ending) (w' : World) : Prop := ∃ (k : Int) (nm : ByteArray) (f t z : Int) (d : ByteArray), e = .returned (.agg #[.int .i64 k, .string nm, .int .i64 f, .int .i64 t, .int .i64 z, .string d]) ∧ OpIn k nm f t z d ∧ Below w.heap.size w w'

theorem blk6 {w : World} {R : Nat} {S : TypeId} {x0 x1 x2 x3 x4 x5 : Value} (hc : Blk w R S #[x0, x1, x2, x3, x4, x5]) (a b c d e f : Value) : Blk ((((((w.setCell ⟨R, 0, none⟩ a).setCell ⟨R, 1, none⟩ b).setCell ⟨R, 2, none⟩ c).setCell ⟨R, 3, none⟩ d).setCell ⟨R, 4, none⟩ e).setCell ⟨R, 5, none⟩ f) R S #[a, b, c, d, e, f] := (((((hc.set_ 0 _).set_ 1 _).set_ 2 _).set_ 3 _).set_ 4 _).set_ 5 _

set_option maxRecDepth 100000 in
theorem c_DrawOpValid (A' : Option Addr) (n cap : Nat) (w : World) (L : Nat) (hL : L ≤ w.heap.size) (hc : CodeAt w L A' n cap) : Calls Tryz.prog 17 #[.slice A' n cap] w (AnOpD w) := by
  go_enter Tryz.func17, Tryz.ntmps17
  go_wp2_with fail
  obtain ⟨W1, hW1⟩ : ∃ W1, W1 = w.alloc (.cells #[.int .i64 0, .string ⟨#[]⟩, .int .i64 0, .int .i64 0, .int .i64 0, .string ⟨#[]⟩] 24) := ⟨_, rfl⟩
  rw [← hW1]
  have hc1 : CodeAt W1 L A' n cap := by rw [hW1]; exact hc.keep (fun k hk => Below.heap_alloc w _ k (by omega))
  have hb1 : Below w.heap.size w W1 := by rw [hW1]; exact bel_alloc (Below.refl _ _) _
  have k1 : Blk W1 w.heap.size 24 #[.int .i64 0, .string ⟨#[]⟩, .int .i64 0, .int .i64 0, .int .i64 0, .string ⟨#[]⟩] := by rw [hW1]; exact Blk.new w _ _
  have z1 : w.heap.size + 1 ≤ W1.heap.size := by rw [hW1, alloc_size]; omega
  clear hW1 hc
  refine (c_l9Open _ _ _ _ _ hc1 (by omega)).mono ?_
  rintro e w1 ⟨rfl, hr1, hb2, hz1⟩
  have k2 := k1.below hb2 (by omega)
  have b2 : Below w.heap.size w w1 := hb1.trans (hb2.mono (by omega))
  clear k1 hb1 hb2
  go_wp2_with fail
  refine (c_l1Some _ _ 0 _ hr1 (by omega)).mono ?_
  rintro e w2 ⟨o, l, m, rfl, hok, hr2, hg2⟩
  have k3 := k2.grown hg2 (by simp; omega)
  have b3 := bel_grown b2 hg2 (by omega)
  clear k2 b2 hg2
  go_wp2_with fail
  refine (c_l8Op _ _ 10 o l m _ (hr2.more (by omega)) (by omega) hok).mono ?_
  rintro e w3 ⟨k, nm, f, t, z, d, rfl, hop, hr3, hg3⟩
  have k4 := k3.grown hg3 (by simp; omega)
  have b4 := bel_grown b3 hg3 (by omega)
  clear k3 b3 hg3
  go_wp2_with fail
  refine (c_l8BadOp _ _ 300 k nm f t z d _ (hr3.more (by omega)) (by omega) hop).mono ?_
  clear hop
  rintro e w4 ⟨k, nm, f, t, z, d, rfl, hop, hr4, hg4⟩
  have k5 := k4.grown hg4 (by simp; omega)
  have b5 := bel_grown b4 hg4 (by omega)
  clear k4 b4 hg4
  obtain ⟨q0, q1, q2, q3, q4, q5⟩ := k5.cells6
  have f0 := k5.frozen 0
  have f1 := k5.frozen 1
  have f2 := k5.frozen 2
  have f3 := k5.frozen 3
  have f4 := k5.frozen 4
  have f5 := k5.frozen 5
  obtain ⟨j0, j1, j2, j3, j4, j5⟩ := (blk6 k5 (.int .i64 k) (.string nm) (.int .i64 f) (.int .i64 t) (.int .i64 z) (.string d)).cells6
  clear k5
  go_wp2
  (try simp only [Exit.inBlock, Exit.then])
  exact bodyPost_ret (v := .agg #[.int .i64 k, .string nm, .int .i64 f, .int .i64 t, .int .i64 z, .string d]) (by simp [results, Tryz.results17, go_sem, j0, j1, j2, j3, j4, j5]) rfl ⟨k, nm, f, t, z, d, rfl, hop, by exact obB⟩

set_option maxRecDepth 100000 in
theorem c_DrawFormatOp (A' : Option Addr) (n cap : Nat) (w : World) (L : Nat) (hL : L ≤ w.heap.size) (hc : CodeAt w L A' n cap) : Calls Tryz.prog 5 #[.slice A' n cap] w (AnOpD w) := by
  go_enter Tryz.func5, Tryz.ntmps5
  go_wp2_with fail
  obtain ⟨W1, hW1⟩ : ∃ W1, W1 = w.alloc (.cells #[.int .i64 0, .string ⟨#[]⟩, .int .i64 0, .int .i64 0, .int .i64 0, .string ⟨#[]⟩] 24) := ⟨_, rfl⟩
  rw [← hW1]
  have hc1 : CodeAt W1 L A' n cap := by rw [hW1]; exact hc.keep (fun k hk => Below.heap_alloc w _ k (by omega))
  have hb1 : Below w.heap.size w W1 := by rw [hW1]; exact bel_alloc (Below.refl _ _) _
  have k1 : Blk W1 w.heap.size 24 #[.int .i64 0, .string ⟨#[]⟩, .int .i64 0, .int .i64 0, .int .i64 0, .string ⟨#[]⟩] := by rw [hW1]; exact Blk.new w _ _
  have z1 : w.heap.size + 1 ≤ W1.heap.size := by rw [hW1, alloc_size]; omega
  clear hW1 hc
  refine (c_DrawOpValid _ _ _ _ L (by omega) hc1).mono ?_
  rintro e w4 ⟨k, nm, f, t, z, d, rfl, hop, hb2⟩
  have k5 := k1.below hb2 (by omega)
  have b5 : Below w.heap.size w w4 := hb1.trans (hb2.mono (by omega))
  clear k1 hb1 hb2
  obtain ⟨q0, q1, q2, q3, q4, q5⟩ := k5.cells6
  have f0 := k5.frozen 0
  have f1 := k5.frozen 1
  have f2 := k5.frozen 2
  have f3 := k5.frozen 3
  have f4 := k5.frozen 4
  have f5 := k5.frozen 5
  obtain ⟨j0, j1, j2, j3, j4, j5⟩ := (blk6 k5 (.int .i64 k) (.string nm) (.int .i64 f) (.int .i64 t) (.int .i64 z) (.string d)).cells6
  clear k5
  go_wp2
  (try simp only [Exit.inBlock, Exit.then])
  exact bodyPost_ret (v := .agg #[.int .i64 k, .string nm, .int .i64 f, .int .i64 t, .int .i64 z, .string d]) (by simp [results, Tryz.results5, go_sem, j0, j1, j2, j3, j4, j5]) rfl ⟨k, nm, f, t, z, d, rfl, hop, by exact obB⟩

set_option maxRecDepth 100000 in
theorem c_DrawLogRecord (A' : Option Addr) (n cap : Nat) (w : World) (L : Nat) (hL : L ≤ w.heap.size) (hc : CodeAt w L A' n cap) : Calls Tryz.prog 12 #[.slice A' n cap] w (AnOpD w) := by
  go_enter Tryz.func12, Tryz.ntmps12
  go_wp2_with fail
  obtain ⟨W1, hW1⟩ : ∃ W1, W1 = w.alloc (.cells #[.int .i64 0, .string ⟨#[]⟩, .int .i64 0, .int .i64 0, .int .i64 0, .string ⟨#[]⟩] 24) := ⟨_, rfl⟩
  rw [← hW1]
  have hc1 : CodeAt W1 L A' n cap := by rw [hW1]; exact hc.keep (fun k hk => Below.heap_alloc w _ k (by omega))
  have hb1 : Below w.heap.size w W1 := by rw [hW1]; exact bel_alloc (Below.refl _ _) _
  have k1 : Blk W1 w.heap.size 24 #[.int .i64 0, .string ⟨#[]⟩, .int .i64 0, .int .i64 0, .int .i64 0, .string ⟨#[]⟩] := by rw [hW1]; exact Blk.new w _ _
  have z1 : w.heap.size + 1 ≤ W1.heap.size := by rw [hW1, alloc_size]; omega
  clear hW1 hc
  refine (c_DrawOpValid _ _ _ _ L (by omega) hc1).mono ?_
  rintro e w4 ⟨k, nm, f, t, z, d, rfl, hop, hb2⟩
  have k5 := k1.below hb2 (by omega)
  have b5 : Below w.heap.size w w4 := hb1.trans (hb2.mono (by omega))
  clear k1 hb1 hb2
  obtain ⟨q0, q1, q2, q3, q4, q5⟩ := k5.cells6
  have f0 := k5.frozen 0
  have f1 := k5.frozen 1
  have f2 := k5.frozen 2
  have f3 := k5.frozen 3
  have f4 := k5.frozen 4
  have f5 := k5.frozen 5
  obtain ⟨j0, j1, j2, j3, j4, j5⟩ := (blk6 k5 (.int .i64 k) (.string nm) (.int .i64 f) (.int .i64 t) (.int .i64 z) (.string d)).cells6
  clear k5
  go_wp2
  (try simp only [Exit.inBlock, Exit.then])
  exact bodyPost_ret (v := .agg #[.int .i64 k, .string nm, .int .i64 f, .int .i64 t, .int .i64 z, .string d]) (by simp [results, Tryz.results12, go_sem, j0, j1, j2, j3, j4, j5]) rfl ⟨k, nm, f, t, z, d, rfl, hop, by exact obB⟩

theorem small_bent {r : ByteArray} (h : r ∈ [(⟨#[]⟩ : ByteArray), ⟨#[48]⟩, ⟨#[49]⟩, ⟨#[59]⟩, ⟨#[44]⟩, ⟨#[46]⟩, ⟨#[45]⟩, ⟨#[124]⟩, ⟨#[32]⟩]) : r.size ≤ 100 := by
  simp only [List.mem_cons, List.not_mem_nil, or_false] at h
  rcases h with rfl | rfl | rfl | rfl | rfl | rfl | rfl | rfl | rfl <;> decide

set_option maxRecDepth 100000 in
set_option maxHeartbeats 4000000 in
theorem c_l3Bent (L B q : Nat) (T : ByteArray) (w : World) (hr : Rd 87 w L B q) (hq : q ≤ 100000) (hT : T.size ≤ 200000) :
    Calls Tryz.prog 32 #[.pointer (some ⟨B, 0, none⟩), .string T] w (SomeStr 87 w L B (q + 4) (T.size + 100)) := by
  have hB := hr.lt
  go_enter Tryz.func32, Tryz.ntmps32
  go_wp2_with fail
  refine (c_pick L B _ 2 _ hr (by omega) (by decide)).mono ?_
  rintro e w4 ⟨x4, rfl, h40, h41, _, hr4, hg4⟩
  have g4 := grown_trans (grown_refl w (some B)) hg4
  clear hg4 hr h41
  by_cases hx : x4 = 0
  · have hb : (x4 == 0) = true := eq_yes hx
    clear hx
    go_wp2
    go_ret
    exact ⟨T, rfl, by omega, hr4.more (by omega), g4⟩
  have hb : (x4 == 0) = false := by simpa using hx
  clear hx
  by_cases he : T = ⟨#[]⟩
  · have hTe : T.toList.isEmpty = true := by rw [he, ByteArray.toList_eq]; rfl
    subst he
    go_wp2
    go_ret
    exact ⟨_, rfl, by omega, hr4.more (by omega), g4⟩
  have hT1 : 1 ≤ T.size := by
    rcases Nat.eq_zero_or_pos T.size with h0 | h0
    · exact absurd (ByteArray.ext (Array.eq_empty_of_size_eq_zero h0)) he
    · exact h0
  have hTe : T.toList.isEmpty = false := by
    rw [ByteArray.toList_eq]
    cases h9 : T.data.toList with
    | nil => exact absurd (ByteArray.ext (Array.toList_inj.1 h9)) he
    | cons a l => rfl
  clear he
  go_wp2_with fail
  refine (c_pick L B _ T.size _ hr4 (by omega) (by omega)).mono ?_
  rintro e w5 ⟨k, rfl, h50, h51, _, hr5, hg5⟩
  have h52 := h51 (by omega)
  have g5 := grown_trans g4 hg5
  have z5 := g5.size
  clear h51 hg5 g4 hr4
  obtain ⟨P1, hP1⟩ : ∃ P1, P1 = T.extract 0 k.toNat := ⟨_, rfl⟩
  obtain ⟨P2, hP2⟩ : ∃ P2 : Int → ByteArray, P2 = fun j => T.extract (k + j).toNat T.size := ⟨_, rfl⟩
  have z1 : P1.size = k.toNat := by rw [hP1, ByteArray.size_extract]; omega
  have z2 : ∀ j, 0 ≤ j → (P2 j).size ≤ T.size - k.toNat := by intro j h0; rw [hP2]; simp only [ByteArray.size_extract]; omega
  have a1 : ∀ W, (Instr.slice 9 (.string T) none (some (.int .i64 k)) none).run Tryz.prog W = .ok (.string P1) W := by
    intro W; rw [run_slice_string_to_if W _ _ _ _ Tryz.underlying9, if_pos (by omega), hP1]
  have a2 : ∀ j W, 0 ≤ j → j < 2 → (Instr.slice 9 (.string T) (some (.int .i64 (k + j))) none none).run Tryz.prog W = .ok (.string (P2 j)) W := by
    intro j W j0 j1; rw [run_slice_string_from_if W _ _ _ _ Tryz.underlying9, if_pos (by omega), hP2]
  have a3 : ∀ j : Int, 0 ≤ j → j < 2 → IntKind.i64.wrap (k + j) = k + j := fun j j0 j1 => IntWalk.i64_in _ (by omega)
  have a4 : ∀ (r : ByteArray) W, r.size ≤ 100 → (Op.stringOp .add P1 r).run Tryz.prog W = .ok (.string (P1 ++ r)) W := fun r W hr => run_string_add W _ _ (by omega) (by omega)
  have a5 : ∀ (r : ByteArray) (j : Int) W, r.size ≤ 100 → 0 ≤ j → (Op.stringOp .add (P1 ++ r) (P2 j)).run Tryz.prog W = .ok (.string (P1 ++ r ++ P2 j)) W := fun r j W hr h0 => run_string_add W _ _ (by rw [ByteArray.size_append]; omega) (by have := z2 j h0; omega)
  clear hP1 hP2
  go_wp2_with fail
  go_region_held3 (fun v : World => w.grownBy v (some B))
    (first | assumption | exact grown_drew g5 | exact grown_alloc (by assumption) _ | exact grown_trans (by assumption) hg7 | exact grown_trans (by assumption) hg8)
    (first | (go_at_call 57; refine (c_of L B _ _ 9 [⟨#[]⟩, ⟨#[48]⟩, ⟨#[49]⟩, ⟨#[59]⟩, ⟨#[44]⟩, ⟨#[46]⟩, ⟨#[45]⟩, ⟨#[124]⟩, ⟨#[32]⟩] _ (Rd.alloc (Rd.drew hr5) _) (by omega) (by exact txsAt_new w5.drew _ _) rfl (by decide) (by decide) (by have := hr5.lt; simp; omega)).mono ?_; rintro e w7 ⟨r, rfl, hrm, hr7, hg7⟩; have hrs := small_bent hrm) | (go_at_call 56; refine (c_pick L B _ 2 w7 hr7 (by omega) (by decide)).mono ?_; rintro e w8 ⟨j, rfl, j0, j1, _, hr8, hg8⟩; have j2 := j1 (by decide); clear j1; have z9 := z2 j j0))
  all_goals
    go_wp2
    go_ret
    exact ⟨P1 ++ r ++ P2 j, rfl, by rw [ByteArray.size_append, ByteArray.size_append]; omega, hr8.more (by omega), by assumption⟩

def AStrD (w : World) (m : Nat) (e : Ending) (w' : World) : Prop := ∃ s : ByteArray, e = .returned (.string s) ∧ s.size ≤ m ∧ Below w.heap.size w w'

set_option maxRecDepth 100000 in
theorem c_DrawParseOp (A' : Option Addr) (n cap : Nat) (w : World) (L : Nat) (hL : L ≤ w.heap.size) (hc : CodeAt w L A' n cap) : Calls Tryz.prog 10 #[.slice A' n cap] w (AStrD w 200000) := by
  go_enter Tryz.func10, Tryz.ntmps10
  go_wp2_with fail
  refine (c_l9Open _ _ _ _ _ hc hL).mono ?_
  rintro e w1 ⟨rfl, hr1, hb1, hz1⟩
  go_wp2_with fail
  refine (c_l1Some _ _ 0 _ hr1 (by omega)).mono ?_
  rintro e w2 ⟨o, l, m, rfl, hok, hr2, hg2⟩
  have b2 := bel_grown hb1 hg2 (Nat.le_refl _)
  clear hg2 hb1
  go_wp2_with fail
  refine (c_l8Op _ _ 10 o l m _ (hr2.more (by omega)) (by omega) hok).mono ?_
  rintro e w3 ⟨k, nm, f, t, z, d, rfl, hop, hr3, hg3⟩
  have b3 := bel_grown b2 hg3 (Nat.le_refl _)
  have hT := opT_size k nm f t z d
  clear hg3 b2
  go_wp2_with fail
  refine (c_sFormatOp k nm f t z d _ (by have := hop.2.1; omega) (by have := hop.2.2.2.2.2; omega)).mono ?_
  rintro e w4 ⟨rfl, hb4⟩
  have hr4 := hr3.below hb4
  have b4 := bel_trans b3 hb4
  obtain ⟨T, hTT⟩ : ∃ T, T = opT k nm f t z d := ⟨_, rfl⟩
  rw [← hTT] at hT ⊢
  clear hTT b3 hb4 hr3
  go_wp2_with fail
  refine (c_l3Bent _ _ 300 T _ (hr4.more (by omega)) (by omega) (by omega)).mono ?_
  rintro e w5 ⟨s, rfl, hs, hr5, hg5⟩
  have b5 := bel_grown b4 hg5 (Nat.le_refl _)
  go_wp2
  go_ret
  exact ⟨s, rfl, by omega, b5⟩

end Go.Proofs.YtaiemogcboidhaaGreatDoor
