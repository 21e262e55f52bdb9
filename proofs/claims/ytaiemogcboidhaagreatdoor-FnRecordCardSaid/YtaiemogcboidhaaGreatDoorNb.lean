/- What draws an operation. No condition. -/
import Derived.Test.YtaiemogcboidhaaGreatDoorNa
import Derived.Test.YtaiemogcboidhaaGreatDoorKb
import Derived.Test.YtaiemogcboidhaaGreatDoorGo
namespace Go.Proofs.YtaiemogcboidhaaGreatDoor
open Go.ChangeShapes Go.WideShapes Go.ChangeAt Go.RowKit Go.Joins
set_option linter.unusedVariables false
set_option linter.unusedSimpArgs false

set_option maxRecDepth 100000 in
theorem c_l5Wild (L B q M : Nat) (o l m : Int) (w : World) (hr : Rd 87 w L B q) (hq : q ≤ 100000) (hok : setOk o l m = true) (hM : M ≤ 900) :
    Calls Tryz.prog 59 #[.pointer (some ⟨B, 0, none⟩), .agg #[.int .i64 o, .int .i64 l, .int .i64 m], .int .i64 M] w (SomeStr 87 w L B (q + 30 + 3 * M) (M + 6)) := by
  have hB := hr.lt
  have k0 := Blk.new w 65 #[.int .i64 o, .int .i64 l, .int .i64 m]
  obtain ⟨p0, p1, p2⟩ := k0.cells3
  go_enter Tryz.func59, Tryz.ntmps59
  go_wp2_with fail
  clear p0 p1 p2 k0
  refine (c_l1Data L B q M o l m _ (hr.alloc _) (by omega) hok (by omega)).mono ?_
  rintro e w1 ⟨S, rfl, hS, hr1, hg1⟩
  have g1 := grown_trans (grown_alloc (grown_refl w (some B)) _) hg1
  clear hg1 hr
  go_wp2_with fail
  refine (c_pick L B _ 5 _ hr1 (by omega) (by decide)).mono ?_
  rintro e w2 ⟨x, rfl, hx0, hx1, _, hr2, hg2⟩
  have g2 := grown_trans g1 hg2
  clear g1 hg2 hr1 hx1
  by_cases hx : x = 0
  · have hb : (x == 0) = true := eq_yes hx
    clear hx
    go_wp2_with fail
    refine (c_l1Bytes L B _ 6 _ hr2 (by omega) (by omega)).mono ?_
    rintro e w3 ⟨r, rfl, hl, hr3, hg3⟩
    have g3 := grown_trans g2 hg3
    obtain ⟨X, hX⟩ : ∃ X, X = str r := ⟨_, rfl⟩
    have hXz : X.size ≤ 6 := by rw [hX, str_size]; exact hl
    rw [← hX]
    clear hX hl hg3 g2 hr2
    go_wp2
    go_ret
    exact ⟨S ++ X, rfl, by rw [ByteArray.size_append]; omega, hr3.more (by omega), g3⟩
  · have hb : (x == 0) = false := by simpa using hx
    clear hx
    go_wp2
    go_ret
    exact ⟨S, rfl, by omega, hr2.more (by omega), g2⟩

theorem set_end6 {T S : TypeId} {w w2 : World} {L B q : Nat} (hB : B < w.heap.size) (hr : Rd T w2 L B q) (g : w.grownBy w2 (some B)) (R : Nat) (hR : w.heap.size ≤ R) {x0 x1 x2 x3 x4 x5 : Value} (hc : Blk w2 R S #[x0, x1, x2, x3, x4, x5]) (a b c d e f : Value) :
    Rd T ((((((w2.setCell ⟨R, 0, none⟩ a).setCell ⟨R, 1, none⟩ b).setCell ⟨R, 2, none⟩ c).setCell ⟨R, 3, none⟩ d).setCell ⟨R, 4, none⟩ e).setCell ⟨R, 5, none⟩ f) L B q ∧ w.grownBy ((((((w2.setCell ⟨R, 0, none⟩ a).setCell ⟨R, 1, none⟩ b).setCell ⟨R, 2, none⟩ c).setCell ⟨R, 3, none⟩ d).setCell ⟨R, 4, none⟩ e).setCell ⟨R, 5, none⟩ f) (some B) ∧ Blk ((((((w2.setCell ⟨R, 0, none⟩ a).setCell ⟨R, 1, none⟩ b).setCell ⟨R, 2, none⟩ c).setCell ⟨R, 3, none⟩ d).setCell ⟨R, 4, none⟩ e).setCell ⟨R, 5, none⟩ f) R S #[a, b, c, d, e, f] := by
  have h1 := fld_set hB hr g R hR 0 a
  have h2 := fld_set hB h1.1 h1.2 R hR 1 b
  have h3 := fld_set hB h2.1 h2.2 R hR 2 c
  have h4 := fld_set hB h3.1 h3.2 R hR 3 d
  have h5 := fld_set hB h4.1 h4.2 R hR 4 e
  have h6 := fld_set hB h5.1 h5.2 R hR 5 f
  exact ⟨h6.1, h6.2, (((((hc.set_ 0 _).set_ 1 _).set_ 2 _).set_ 3 _).set_ 4 _).set_ 5 _⟩

/-- an operation of bounded fields -/
def OpIn (k : Int) (nm : ByteArray) (f t z : Int) (d : ByteArray) : Prop := (-9223372036854775808 ≤ k ∧ k ≤ 9223372036854775807) ∧ nm.size ≤ 100 ∧ (-9223372036854775808 ≤ f ∧ f ≤ 9223372036854775807) ∧ (-9223372036854775808 ≤ t ∧ t ≤ 9223372036854775807) ∧ (-9223372036854775808 ≤ z ∧ z ≤ 9223372036854775807) ∧ d.size ≤ 1000
def AnOp (T : TypeId) (w : World) (L B q : Nat) (e : Ending) (w' : World) : Prop := ∃ (k : Int) (nm : ByteArray) (f t z : Int) (d : ByteArray), e = .returned (.agg #[.int .i64 k, .string nm, .int .i64 f, .int .i64 t, .int .i64 z, .string d]) ∧ OpIn k nm f t z d ∧ Rd T w' L B q ∧ w.grownBy w' (some B)

set_option maxRecDepth 100000 in
set_option maxHeartbeats 4000000 in
theorem c_l8Op (L B q : Nat) (o l m : Int) (w : World) (hr : Rd 87 w L B q) (hq : q ≤ 10000) (hok : setOk o l m = true) :
    Calls Tryz.prog 33 #[.pointer (some ⟨B, 0, none⟩), .agg #[.int .i64 o, .int .i64 l, .int .i64 m]] w (AnOp 87 w L B (q + 200)) := by
  have hB := hr.lt
  obtain ⟨w0, hW0⟩ : ∃ w0, w0 = (w.alloc (.cells #[.int .i64 o, .int .i64 l, .int .i64 m] 65)).alloc (.cells #[.int .i64 0, .string ⟨#[]⟩, .int .i64 0, .int .i64 0, .int .i64 0, .string ⟨#[]⟩] 24) := ⟨_, rfl⟩
  have hr0 : Rd 87 w0 L B q := by rw [hW0]; exact (hr.alloc _).alloc _
  have kS0 : Blk w0 w.heap.size 65 #[.int .i64 o, .int .i64 l, .int .i64 m] := by rw [hW0]; exact (Blk.new w _ _).alloc _
  have kZ0 : Blk w0 (w.heap.size + 1) 24 #[.int .i64 0, .string ⟨#[]⟩, .int .i64 0, .int .i64 0, .int .i64 0, .string ⟨#[]⟩] := by rw [hW0]; have := Blk.new (w.alloc (.cells #[.int .i64 o, .int .i64 l, .int .i64 m] 65)) 24 #[.int .i64 0, .string ⟨#[]⟩, .int .i64 0, .int .i64 0, .int .i64 0, .string ⟨#[]⟩]; rw [alloc_size] at this; exact this
  have g0 : w.grownBy w0 (some B) := by rw [hW0]; exact grown_alloc (grown_alloc (grown_refl w _) _) _
  have hz0 : w.heap.size + 2 ≤ w0.heap.size := by rw [hW0, alloc_size, alloc_size]; omega
  have HZE := hid (show w0.heap.size = w.heap.size + 1 + 1 by rw [hW0, alloc_size, alloc_size])
  clear hr
  go_enter Tryz.func33, Tryz.ntmps33
  go_wp2_with fail
  rw [← hW0]
  clear hW0
  refine (c_num L B _ (w.heap.size + 1 + 1) 7 [0, 0, 1, 2, 2, 3, 4] _ (hr0.alloc _) (by omega) (by rw [← HZE.out]; exact intsAt_new w0 _ _) rfl (by decide) (by decide) (by omega)).mono ?_
  rintro e w1 ⟨k, rfl, hk, hr1, hg1⟩
  have hz1 : w0.heap.size ≤ w1.heap.size := by have := hg1.size; first | exact this | (rw [World.size_alloc] at this; omega)
  have kS1 := (kS0.alloc _).grown hg1 (by simp; omega)
  have kZ1 := (kZ0.alloc _).grown hg1 (by simp; omega)
  have g1 := grown_trans (grown_alloc g0 _) hg1
  clear kS0 kZ0 hg1 hr0 g0
  go_wp2_with fail
  refine (c_of L B _ w1.heap.size 6 [⟨#[97]⟩, ⟨#[98]⟩, ⟨#[99]⟩, ⟨#[97, 98]⟩, ⟨#[108, 111, 110, 103]⟩, ⟨#[122]⟩] _ (hr1.alloc _) (by omega) (by exact txsAt_new w1 _ _) rfl (by decide) (by decide) (by omega)).mono ?_
  rintro e w2 ⟨nm, rfl, hnm, hr2, hg2⟩
  have hz_nm : nm.size ≤ 100 := by simp only [List.mem_cons, List.not_mem_nil, or_false] at hnm; rcases hnm with rfl | rfl | rfl | rfl | rfl | rfl <;> decide
  clear hnm
  have hz2 : w1.heap.size ≤ w2.heap.size := by have := hg2.size; first | exact this | (rw [World.size_alloc] at this; omega)
  have kS2 := (kS1.alloc _).grown hg2 (by simp; omega)
  have kZ2 := (kZ1.alloc _).grown hg2 (by simp; omega)
  have g2 := grown_trans (grown_alloc g1 _) hg2
  clear kS1 kZ1 hg2 hr1 g1
  have hk : k = 0 ∨ k = 1 ∨ k = 2 ∨ k = 3 ∨ k = 4 := by simp only [List.mem_cons, List.not_mem_nil, or_false] at hk; omega
  have kO2 := Blk.new w2 24 #[.int .i64 k, .string nm, .int .i64 0, .int .i64 0, .int .i64 0, .string ⟨#[]⟩]
  have hr2b := hr2.alloc (.cells #[.int .i64 k, .string nm, .int .i64 0, .int .i64 0, .int .i64 0, .string ⟨#[]⟩] 24)
  have g2b := grown_alloc g2 (.cells #[.int .i64 k, .string nm, .int .i64 0, .int .i64 0, .int .i64 0, .string ⟨#[]⟩] 24)
  have kS2b := kS2.alloc (.cells #[.int .i64 k, .string nm, .int .i64 0, .int .i64 0, .int .i64 0, .string ⟨#[]⟩] 24)
  have kZ2b := kZ2.alloc (.cells #[.int .i64 k, .string nm, .int .i64 0, .int .i64 0, .int .i64 0, .string ⟨#[]⟩] 24)
  obtain ⟨v0, hv0⟩ : ∃ v0, v0 = w2.alloc (.cells #[.int .i64 k, .string nm, .int .i64 0, .int .i64 0, .int .i64 0, .string ⟨#[]⟩] 24) := ⟨_, rfl⟩
  rw [← hv0] at kO2 hr2b g2b kS2b kZ2b
  have hzN : w.heap.size + 2 ≤ w2.heap.size ∧ w2.heap.size < v0.heap.size := ⟨by omega, by rw [hv0, World.size_alloc]; omega⟩
  rcases hk with rfl | rfl | rfl | rfl | rfl
  · have kO20 := kO2; have hr20 := hr2b; have g20 := g2b; have kS20 := kS2b; have kZ20 := kZ2b
    clear kO2 hr2b g2b kS2b kZ2b hr2 g2 kS2 kZ2
    obtain ⟨w20, h20⟩ : ∃ w20, w20 = v0 := ⟨_, rfl⟩
    rw [← h20] at hv0 hzN kO20 hr20 g20 kS20 kZ20
    clear h20
    obtain ⟨x0, x1, x2, x3, x4, x5⟩ := kO20.cells6
    obtain ⟨y0, y1, y2⟩ := kS20.cells3
    go_wp2_with fail
    rw [← hv0]
    clear hv0 x0 x1 x2 x3 x4 x5 y0 y1 y2
    refine (c_pick L B _ 20 _ hr20 (by omega) (by decide)).mono ?_
    rintro e w21 ⟨p, rfl, h0_p, h1_p, _, hr21, hg21⟩
    have h2_p := h1_p (by decide)
    clear h1_p
    have hz21 : w20.heap.size ≤ w21.heap.size := by have := hg21.size; first | exact this | (rw [World.size_alloc] at this; omega)
    have kS21 := kS20.grown hg21 (by simp; omega)
    have kZ21 := kZ20.grown hg21 (by simp; omega)
    have kO21 := kO20.grown hg21 (by simp; omega)
    have g21 := grown_trans g20 hg21
    clear kS20 kZ20 kO20 hg21 hr20 g20
    have ep : IntKind.i64.wrap (2 + p) = 2 + p := IntWalk.i64_in _ (by omega)
    obtain ⟨p0, p1, p2, p3, p4, p5⟩ := kO21.cells6
    have pf := kO21.frozen 4
    obtain ⟨hr21a, g21a⟩ := fld_set hB hr21 g21 (w2.heap.size) (by omega) 4 (.int .i64 (2 + p))
    have kS21a := kS21.set_other (R := w2.heap.size) 4 (.int .i64 (2 + p)) (by omega)
    have kZ21a := kZ21.set_other (R := w2.heap.size) 4 (.int .i64 (2 + p)) (by omega)
    have kO21a := kO21.set_ 4 (.int .i64 (2 + p))
    simp only [List.setIfInBounds_toArray, List.set_cons_zero, List.set_cons_succ] at kO21a
    have hz22 : w21.heap.size ≤ (w21.setCell ⟨w2.heap.size, 4, none⟩ (.int .i64 (2 + p))).heap.size := by rw [World.size_setCell]; exact Nat.le_refl _
    obtain ⟨w22, hW22⟩ : ∃ w22, w22 = w21.setCell ⟨w2.heap.size, 4, none⟩ (.int .i64 (2 + p)) := ⟨_, rfl⟩
    rw [← hW22] at hr21a g21a kS21a kZ21a kO21a hz22
    have kS22 := kS21a
    have kZ22 := kZ21a
    have kO22 := kO21a
    have hr22 := hr21a
    have g22 := g21a
    clear kS21a kZ21a kO21a hr21a g21a
    obtain ⟨y0, y1, y2⟩ := kS22.cells3
    obtain ⟨x0, x1, x2, x3, x4, x5⟩ := kO22.cells6
    rw [hW22] at y0 y1 y2 x0 x1 x2 x3 x4 x5
    go_wp2_with fail
    rw [← hW22]
    clear y0 y1 y2 x0 x1 x2 x3 x4 x5 p0 p1 p2 p3 p4 p5 pf kS21 kZ21 kO21 hr21 g21 hW22
    refine (c_l5Wild L B _ 24 o l m _ hr22 (by omega) hok (by omega)).mono ?_
    rintro e w23 ⟨S, rfl, hS, hr23, hg23⟩
    have hz23 : w22.heap.size ≤ w23.heap.size := by have := hg23.size; first | exact this | (rw [World.size_alloc] at this; omega)
    have kS23 := kS22.grown hg23 (by simp; omega)
    have kZ23 := kZ22.grown hg23 (by simp; omega)
    have kO23 := kO22.grown hg23 (by simp; omega)
    have g23 := grown_trans g22 hg23
    clear kS22 kZ22 kO22 hg23 hr22 g22
    obtain ⟨p0, p1, p2, p3, p4, p5⟩ := kO23.cells6
    have pf := kO23.frozen 5
    obtain ⟨hr23a, g23a⟩ := fld_set hB hr23 g23 (w2.heap.size) (by omega) 5 (.string S)
    have kS23a := kS23.set_other (R := w2.heap.size) 5 (.string S) (by omega)
    have kZ23a := kZ23.set_other (R := w2.heap.size) 5 (.string S) (by omega)
    have kO23a := kO23.set_ 5 (.string S)
    simp only [List.setIfInBounds_toArray, List.set_cons_zero, List.set_cons_succ] at kO23a
    have hz24 : w23.heap.size ≤ (w23.setCell ⟨w2.heap.size, 5, none⟩ (.string S)).heap.size := by rw [World.size_setCell]; exact Nat.le_refl _
    obtain ⟨w24, hW24⟩ : ∃ w24, w24 = w23.setCell ⟨w2.heap.size, 5, none⟩ (.string S) := ⟨_, rfl⟩
    rw [← hW24] at hr23a g23a kS23a kZ23a kO23a hz24
    have kS24 := kS23a
    have kZ24 := kZ23a
    have kO24 := kO23a
    have hr24 := hr23a
    have g24 := g23a
    clear kS23a kZ23a kO23a hr23a g23a
    rw [hW24] at kS24 kZ24 kO24 hr24 g24
    obtain ⟨a0, a1, a2, a3, a4, a5⟩ := kO24.cells6
    obtain ⟨n0, n1, n2, n3, n4, n5⟩ := kZ24.cells6
    have f0 := kZ24.frozen 0
    have f1 := kZ24.frozen 1
    have f2 := kZ24.frozen 2
    have f3 := kZ24.frozen 3
    have f4 := kZ24.frozen 4
    have f5 := kZ24.frozen 5
    obtain ⟨hrE, gE, hbE⟩ := set_end6 hB hr24 g24 (w.heap.size + 1) (by omega) kZ24 (.int .i64 0) (.string nm) (.int .i64 0) (.int .i64 0) (.int .i64 (2 + p)) (.string S)
    obtain ⟨j0, j1, j2, j3, j4, j5⟩ := hbE.cells6
    clear hbE kS24 kZ24 kO24
    go_wp2
    (try simp only [Exit.inBlock, Exit.then])
    exact bodyPost_ret (v := .agg #[.int .i64 0, .string nm, .int .i64 0, .int .i64 0, .int .i64 (2 + p), .string S]) (by simp [results, Tryz.results33, go_sem, j0, j1, j2, j3, j4, j5]) rfl ⟨_, _, _, _, _, _, rfl, ⟨by omega, hz_nm, by omega, by omega, by omega, by first | omega | decide⟩, hrE.more (by omega), gE⟩
  · have kO20 := kO2; have hr20 := hr2b; have g20 := g2b; have kS20 := kS2b; have kZ20 := kZ2b
    clear kO2 hr2b g2b kS2b kZ2b hr2 g2 kS2 kZ2
    obtain ⟨w20, h20⟩ : ∃ w20, w20 = v0 := ⟨_, rfl⟩
    rw [← h20] at hv0 hzN kO20 hr20 g20 kS20 kZ20
    clear h20
    obtain ⟨x0, x1, x2, x3, x4, x5⟩ := kO20.cells6
    obtain ⟨y0, y1, y2⟩ := kS20.cells3
    go_wp2_with fail
    rw [← hv0]
    clear hv0 x0 x1 x2 x3 x4 x5 y0 y1 y2
    refine (c_pick L B _ 20 _ hr20 (by omega) (by decide)).mono ?_
    rintro e w21 ⟨p, rfl, h0_p, h1_p, _, hr21, hg21⟩
    have h2_p := h1_p (by decide)
    clear h1_p
    have hz21 : w20.heap.size ≤ w21.heap.size := by have := hg21.size; first | exact this | (rw [World.size_alloc] at this; omega)
    have kS21 := kS20.grown hg21 (by simp; omega)
    have kZ21 := kZ20.grown hg21 (by simp; omega)
    have kO21 := kO20.grown hg21 (by simp; omega)
    have g21 := grown_trans g20 hg21
    clear kS20 kZ20 kO20 hg21 hr20 g20
    have ep : IntKind.i64.wrap (2 + p) = 2 + p := IntWalk.i64_in _ (by omega)
    obtain ⟨p0, p1, p2, p3, p4, p5⟩ := kO21.cells6
    have pf := kO21.frozen 4
    obtain ⟨hr21a, g21a⟩ := fld_set hB hr21 g21 (w2.heap.size) (by omega) 4 (.int .i64 (2 + p))
    have kS21a := kS21.set_other (R := w2.heap.size) 4 (.int .i64 (2 + p)) (by omega)
    have kZ21a := kZ21.set_other (R := w2.heap.size) 4 (.int .i64 (2 + p)) (by omega)
    have kO21a := kO21.set_ 4 (.int .i64 (2 + p))
    simp only [List.setIfInBounds_toArray, List.set_cons_zero, List.set_cons_succ] at kO21a
    have hz22 : w21.heap.size ≤ (w21.setCell ⟨w2.heap.size, 4, none⟩ (.int .i64 (2 + p))).heap.size := by rw [World.size_setCell]; exact Nat.le_refl _
    obtain ⟨w22, hW22⟩ : ∃ w22, w22 = w21.setCell ⟨w2.heap.size, 4, none⟩ (.int .i64 (2 + p)) := ⟨_, rfl⟩
    rw [← hW22] at hr21a g21a kS21a kZ21a kO21a hz22
    have kS22 := kS21a
    have kZ22 := kZ21a
    have kO22 := kO21a
    have hr22 := hr21a
    have g22 := g21a
    clear kS21a kZ21a kO21a hr21a g21a
    obtain ⟨y0, y1, y2⟩ := kS22.cells3
    obtain ⟨x0, x1, x2, x3, x4, x5⟩ := kO22.cells6
    rw [hW22] at y0 y1 y2 x0 x1 x2 x3 x4 x5
    go_wp2_with fail
    rw [← hW22]
    clear y0 y1 y2 x0 x1 x2 x3 x4 x5 p0 p1 p2 p3 p4 p5 pf kS21 kZ21 kO21 hr21 g21 hW22
    refine (c_l5Wild L B _ 24 o l m _ hr22 (by omega) hok (by omega)).mono ?_
    rintro e w23 ⟨S, rfl, hS, hr23, hg23⟩
    have hz23 : w22.heap.size ≤ w23.heap.size := by have := hg23.size; first | exact this | (rw [World.size_alloc] at this; omega)
    have kS23 := kS22.grown hg23 (by simp; omega)
    have kZ23 := kZ22.grown hg23 (by simp; omega)
    have kO23 := kO22.grown hg23 (by simp; omega)
    have g23 := grown_trans g22 hg23
    clear kS22 kZ22 kO22 hg23 hr22 g22
    obtain ⟨p0, p1, p2, p3, p4, p5⟩ := kO23.cells6
    have pf := kO23.frozen 5
    obtain ⟨hr23a, g23a⟩ := fld_set hB hr23 g23 (w2.heap.size) (by omega) 5 (.string S)
    have kS23a := kS23.set_other (R := w2.heap.size) 5 (.string S) (by omega)
    have kZ23a := kZ23.set_other (R := w2.heap.size) 5 (.string S) (by omega)
    have kO23a := kO23.set_ 5 (.string S)
    simp only [List.setIfInBounds_toArray, List.set_cons_zero, List.set_cons_succ] at kO23a
    have hz24 : w23.heap.size ≤ (w23.setCell ⟨w2.heap.size, 5, none⟩ (.string S)).heap.size := by rw [World.size_setCell]; exact Nat.le_refl _
    obtain ⟨w24, hW24⟩ : ∃ w24, w24 = w23.setCell ⟨w2.heap.size, 5, none⟩ (.string S) := ⟨_, rfl⟩
    rw [← hW24] at hr23a g23a kS23a kZ23a kO23a hz24
    have kS24 := kS23a
    have kZ24 := kZ23a
    have kO24 := kO23a
    have hr24 := hr23a
    have g24 := g23a
    clear kS23a kZ23a kO23a hr23a g23a
    rw [hW24] at kS24 kZ24 kO24 hr24 g24
    obtain ⟨a0, a1, a2, a3, a4, a5⟩ := kO24.cells6
    obtain ⟨n0, n1, n2, n3, n4, n5⟩ := kZ24.cells6
    have f0 := kZ24.frozen 0
    have f1 := kZ24.frozen 1
    have f2 := kZ24.frozen 2
    have f3 := kZ24.frozen 3
    have f4 := kZ24.frozen 4
    have f5 := kZ24.frozen 5
    obtain ⟨hrE, gE, hbE⟩ := set_end6 hB hr24 g24 (w.heap.size + 1) (by omega) kZ24 (.int .i64 1) (.string nm) (.int .i64 0) (.int .i64 0) (.int .i64 (2 + p)) (.string S)
    obtain ⟨j0, j1, j2, j3, j4, j5⟩ := hbE.cells6
    clear hbE kS24 kZ24 kO24
    go_wp2
    (try simp only [Exit.inBlock, Exit.then])
    exact bodyPost_ret (v := .agg #[.int .i64 1, .string nm, .int .i64 0, .int .i64 0, .int .i64 (2 + p), .string S]) (by simp [results, Tryz.results33, go_sem, j0, j1, j2, j3, j4, j5]) rfl ⟨_, _, _, _, _, _, rfl, ⟨by omega, hz_nm, by omega, by omega, by omega, by first | omega | decide⟩, hrE.more (by omega), gE⟩
  · have kO20 := kO2; have hr20 := hr2b; have g20 := g2b; have kS20 := kS2b; have kZ20 := kZ2b
    clear kO2 hr2b g2b kS2b kZ2b hr2 g2 kS2 kZ2
    obtain ⟨w20, h20⟩ : ∃ w20, w20 = v0 := ⟨_, rfl⟩
    rw [← h20] at hv0 hzN kO20 hr20 g20 kS20 kZ20
    clear h20
    obtain ⟨x0, x1, x2, x3, x4, x5⟩ := kO20.cells6
    obtain ⟨y0, y1, y2⟩ := kS20.cells3
    go_wp2_with fail
    rw [← hv0]
    clear hv0 x0 x1 x2 x3 x4 x5 y0 y1 y2
    refine (c_pick L B _ 20 _ hr20 (by omega) (by decide)).mono ?_
    rintro e w21 ⟨p, rfl, h0_p, h1_p, _, hr21, hg21⟩
    have h2_p := h1_p (by decide)
    clear h1_p
    have hz21 : w20.heap.size ≤ w21.heap.size := by have := hg21.size; first | exact this | (rw [World.size_alloc] at this; omega)
    have kS21 := kS20.grown hg21 (by simp; omega)
    have kZ21 := kZ20.grown hg21 (by simp; omega)
    have kO21 := kO20.grown hg21 (by simp; omega)
    have g21 := grown_trans g20 hg21
    clear kS20 kZ20 kO20 hg21 hr20 g20
    have ep : IntKind.i64.wrap (2 + p) = 2 + p := IntWalk.i64_in _ (by omega)
    obtain ⟨p0, p1, p2, p3, p4, p5⟩ := kO21.cells6
    have pf := kO21.frozen 4
    obtain ⟨hr21a, g21a⟩ := fld_set hB hr21 g21 (w2.heap.size) (by omega) 4 (.int .i64 (2 + p))
    have kS21a := kS21.set_other (R := w2.heap.size) 4 (.int .i64 (2 + p)) (by omega)
    have kZ21a := kZ21.set_other (R := w2.heap.size) 4 (.int .i64 (2 + p)) (by omega)
    have kO21a := kO21.set_ 4 (.int .i64 (2 + p))
    simp only [List.setIfInBounds_toArray, List.set_cons_zero, List.set_cons_succ] at kO21a
    have hz22 : w21.heap.size ≤ (w21.setCell ⟨w2.heap.size, 4, none⟩ (.int .i64 (2 + p))).heap.size := by rw [World.size_setCell]; exact Nat.le_refl _
    obtain ⟨w22, hW22⟩ : ∃ w22, w22 = w21.setCell ⟨w2.heap.size, 4, none⟩ (.int .i64 (2 + p)) := ⟨_, rfl⟩
    rw [← hW22] at hr21a g21a kS21a kZ21a kO21a hz22
    have kS22 := kS21a
    have kZ22 := kZ21a
    have kO22 := kO21a
    have hr22 := hr21a
    have g22 := g21a
    clear kS21a kZ21a kO21a hr21a g21a
    obtain ⟨y0, y1, y2⟩ := kS22.cells3
    obtain ⟨x0, x1, x2, x3, x4, x5⟩ := kO22.cells6
    rw [hW22] at y0 y1 y2 x0 x1 x2 x3 x4 x5
    go_wp2_with fail
    rw [← hW22]
    clear y0 y1 y2 x0 x1 x2 x3 x4 x5 p0 p1 p2 p3 p4 p5 pf kS21 kZ21 kO21 hr21 g21 hW22
    refine (c_l5Wild L B _ 24 o l m _ hr22 (by omega) hok (by omega)).mono ?_
    rintro e w23 ⟨S, rfl, hS, hr23, hg23⟩
    have hz23 : w22.heap.size ≤ w23.heap.size := by have := hg23.size; first | exact this | (rw [World.size_alloc] at this; omega)
    have kS23 := kS22.grown hg23 (by simp; omega)
    have kZ23 := kZ22.grown hg23 (by simp; omega)
    have kO23 := kO22.grown hg23 (by simp; omega)
    have g23 := grown_trans g22 hg23
    clear kS22 kZ22 kO22 hg23 hr22 g22
    obtain ⟨p0, p1, p2, p3, p4, p5⟩ := kO23.cells6
    have pf := kO23.frozen 5
    obtain ⟨hr23a, g23a⟩ := fld_set hB hr23 g23 (w2.heap.size) (by omega) 5 (.string S)
    have kS23a := kS23.set_other (R := w2.heap.size) 5 (.string S) (by omega)
    have kZ23a := kZ23.set_other (R := w2.heap.size) 5 (.string S) (by omega)
    have kO23a := kO23.set_ 5 (.string S)
    simp only [List.setIfInBounds_toArray, List.set_cons_zero, List.set_cons_succ] at kO23a
    have hz24 : w23.heap.size ≤ (w23.setCell ⟨w2.heap.size, 5, none⟩ (.string S)).heap.size := by rw [World.size_setCell]; exact Nat.le_refl _
    obtain ⟨w24, hW24⟩ : ∃ w24, w24 = w23.setCell ⟨w2.heap.size, 5, none⟩ (.string S) := ⟨_, rfl⟩
    rw [← hW24] at hr23a g23a kS23a kZ23a kO23a hz24
    have kS24 := kS23a
    have kZ24 := kZ23a
    have kO24 := kO23a
    have hr24 := hr23a
    have g24 := g23a
    clear kS23a kZ23a kO23a hr23a g23a
    obtain ⟨x0, x1, x2, x3, x4, x5⟩ := kO24.cells6
    rw [hW24] at x0 x1 x2 x3 x4 x5
    go_wp2_with fail
    rw [← hW24]
    clear x0 x1 x2 x3 x4 x5 p0 p1 p2 p3 p4 p5 pf kS23 kZ23 kO23 hr23 g23 hW24
    refine (c_pick L B _ 12 _ hr24 (by omega) (by decide)).mono ?_
    rintro e w25 ⟨f, rfl, h0_f, h1_f, _, hr25, hg25⟩
    have h2_f := h1_f (by decide)
    clear h1_f
    have hz25 : w24.heap.size ≤ w25.heap.size := by have := hg25.size; first | exact this | (rw [World.size_alloc] at this; omega)
    have kS25 := kS24.grown hg25 (by simp; omega)
    have kZ25 := kZ24.grown hg25 (by simp; omega)
    have kO25 := kO24.grown hg25 (by simp; omega)
    have g25 := grown_trans g24 hg25
    clear kS24 kZ24 kO24 hg25 hr24 g24
    obtain ⟨p0, p1, p2, p3, p4, p5⟩ := kO25.cells6
    have pf := kO25.frozen 2
    obtain ⟨hr25a, g25a⟩ := fld_set hB hr25 g25 (w2.heap.size) (by omega) 2 (.int .i64 f)
    have kS25a := kS25.set_other (R := w2.heap.size) 2 (.int .i64 f) (by omega)
    have kZ25a := kZ25.set_other (R := w2.heap.size) 2 (.int .i64 f) (by omega)
    have kO25a := kO25.set_ 2 (.int .i64 f)
    simp only [List.setIfInBounds_toArray, List.set_cons_zero, List.set_cons_succ] at kO25a
    have hz26 : w25.heap.size ≤ (w25.setCell ⟨w2.heap.size, 2, none⟩ (.int .i64 f)).heap.size := by rw [World.size_setCell]; exact Nat.le_refl _
    obtain ⟨w26, hW26⟩ : ∃ w26, w26 = w25.setCell ⟨w2.heap.size, 2, none⟩ (.int .i64 f) := ⟨_, rfl⟩
    rw [← hW26] at hr25a g25a kS25a kZ25a kO25a hz26
    have kS26 := kS25a
    have kZ26 := kZ25a
    have kO26 := kO25a
    have hr26 := hr25a
    have g26 := g25a
    clear kS25a kZ25a kO25a hr25a g25a
    go_wp2_with fail
    rw [← hW26]
    clear p0 p1 p2 p3 p4 p5 pf kS25 kZ25 kO25 hr25 g25 hW26
    have hS : w26.cell? ⟨w2.heap.size, 2, none⟩ = some (.int .i64 f) ∧ True := ⟨(kO26.cells6).2.2.1, trivial⟩
    have ef : ∀ x : Int, 0 ≤ x → x < 8 → IntKind.i64.wrap (f + x) = f + x := fun x a b => IntWalk.i64_in _ (by omega)
    refine wp_region_noPanic ?_
    refine zb (T := (fun v => v.cell? ⟨w2.heap.size, 2, none⟩ = some (.int .i64 f) ∧ True)) 6 (by kernel_rfl) (t1_drew hS) (fun hHeld => ?_)
    refine zk 0 ?_
    refine zk 1 ?_
    refine zk 2 ?_
    refine zr (rs := [3]) ?_
    refine AllUp.cons (o := ?oz1_3) ?iz1_3 (fun K hK => ?sz1_3) AllUp.nil
    case iz1_3 => (simp only [List.getElem?_toArray, List.getElem?_cons_succ, List.getElem?_cons_zero]; rfl)
    (go_simp; (go_at_call 56; refine (c_pick L B _ 8 _ (Rd.drew hr26) (by omega) (by decide)).mono ?_; rintro e w27 ⟨g, rfl, h0_g, h1_g, _, hr27, hg27⟩; have h2_g := h1_g (by decide); clear h1_g; have kO27 := Blk.grown (show Blk w26.drew w2.heap.size 24 _ from kO26) hg27 (by simp; omega); have kS27 := Blk.grown (show Blk w26.drew w.heap.size 65 _ from kS26) hg27 (by simp; omega); have kZ27 := Blk.grown (show Blk w26.drew (w.heap.size + 1) 24 _ from kZ26) hg27 (by simp; omega); have g27 := grown_trans (grown_drew (show w.grownBy w26 (some B) from g26)) hg27; have hS2 : w27.cell? ⟨w2.heap.size, 2, none⟩ = some (.int .i64 f) ∧ True := ⟨(kO27.cells6).2.2.1, trivial⟩; have hz27 : w26.heap.size ≤ w27.heap.size := hg27.size; have eg := ef g h0_g h2_g; obtain ⟨s0, s1, s2, s3, s4, s5⟩ := kO27.cells6; have sf := kO27.frozen 3))
    refine hK.out _ _ (fun _ => ?kz1_3) (fun hHeld0 => ?_)
    case kz1_3 => (try dsimp only); (first | with_reducible assumption | with_reducible exact hS2 | exact t1_bel (by assumption) (by assumption) | assumption | exact t1_alloc (by assumption) _ | exact hS2)
    (try clear hHeld)
    have hHeld := hHeld0 (by decide)
    clear hHeld0 hK K
    try simp only [Act.put, List.setIfInBounds_toArray, List.set_cons_zero, List.set_cons_succ]
    refine zk 4 ?_
    refine zk 5 ?_
    refine zr (rs := [6]) ?_
    refine AllUp.cons (o := ?oz1_6) ?iz1_6 (fun K hK => ?sz1_6) AllUp.nil
    case iz1_6 => (simp only [List.getElem?_toArray, List.getElem?_cons_succ, List.getElem?_cons_zero]; rfl)
    (go_simp; (skip))
    refine hK.out _ _ (fun h => absurd rfl h) (fun _ => ?_)
    (try clear hHeld)
    clear hK K
    try simp only [Act.put, List.setIfInBounds_toArray, List.set_cons_zero, List.set_cons_succ]
    refine zd (by kernel_rfl) ?_ _
    refine NoPanic.normal ?_
    obtain ⟨p0, p1, p2, p3, p4, p5⟩ := kO27.cells6
    have pf := kO27.frozen 3
    obtain ⟨hr27a, g27a⟩ := fld_set hB hr27 g27 (w2.heap.size) (by omega) 3 (.int .i64 (f + g))
    have kS27a := kS27.set_other (R := w2.heap.size) 3 (.int .i64 (f + g)) (by omega)
    have kZ27a := kZ27.set_other (R := w2.heap.size) 3 (.int .i64 (f + g)) (by omega)
    have kO27a := kO27.set_ 3 (.int .i64 (f + g))
    simp only [List.setIfInBounds_toArray, List.set_cons_zero, List.set_cons_succ] at kO27a
    have hz28 : w27.heap.size ≤ (w27.setCell ⟨w2.heap.size, 3, none⟩ (.int .i64 (f + g))).heap.size := by rw [World.size_setCell]; exact Nat.le_refl _
    obtain ⟨w28, hW28⟩ : ∃ w28, w28 = w27.setCell ⟨w2.heap.size, 3, none⟩ (.int .i64 (f + g)) := ⟨_, rfl⟩
    rw [← hW28] at hr27a g27a kS27a kZ27a kO27a hz28
    have kS28 := kS27a
    have kZ28 := kZ27a
    have kO28 := kO27a
    have hr28 := hr27a
    have g28 := g27a
    clear kS27a kZ27a kO27a hr27a g27a
    rw [hW28] at kS28 kZ28 kO28 hr28 g28
    obtain ⟨a0, a1, a2, a3, a4, a5⟩ := kO28.cells6
    obtain ⟨n0, n1, n2, n3, n4, n5⟩ := kZ28.cells6
    have f0 := kZ28.frozen 0
    have f1 := kZ28.frozen 1
    have f2 := kZ28.frozen 2
    have f3 := kZ28.frozen 3
    have f4 := kZ28.frozen 4
    have f5 := kZ28.frozen 5
    obtain ⟨hrE, gE, hbE⟩ := set_end6 hB hr28 g28 (w.heap.size + 1) (by omega) kZ28 (.int .i64 2) (.string nm) (.int .i64 f) (.int .i64 (f + g)) (.int .i64 (2 + p)) (.string S)
    obtain ⟨j0, j1, j2, j3, j4, j5⟩ := hbE.cells6
    clear hbE kS28 kZ28 kO28
    go_wp2
    (try simp only [Exit.inBlock, Exit.then])
    exact bodyPost_ret (v := .agg #[.int .i64 2, .string nm, .int .i64 f, .int .i64 (f + g), .int .i64 (2 + p), .string S]) (by simp [results, Tryz.results33, go_sem, j0, j1, j2, j3, j4, j5]) rfl ⟨_, _, _, _, _, _, rfl, ⟨by omega, hz_nm, by omega, by omega, by omega, by first | omega | decide⟩, hrE.more (by omega), gE⟩
  · have kO20 := kO2; have hr20 := hr2b; have g20 := g2b; have kS20 := kS2b; have kZ20 := kZ2b
    clear kO2 hr2b g2b kS2b kZ2b hr2 g2 kS2 kZ2
    obtain ⟨w20, h20⟩ : ∃ w20, w20 = v0 := ⟨_, rfl⟩
    rw [← h20] at hv0 hzN kO20 hr20 g20 kS20 kZ20
    clear h20
    obtain ⟨x0, x1, x2, x3, x4, x5⟩ := kO20.cells6
    obtain ⟨y0, y1, y2⟩ := kS20.cells3
    go_wp2_with fail
    rw [← hv0]
    clear hv0 x0 x1 x2 x3 x4 x5 y0 y1 y2
    refine (c_pick L B _ 20 _ hr20 (by omega) (by decide)).mono ?_
    rintro e w21 ⟨p, rfl, h0_p, h1_p, _, hr21, hg21⟩
    have h2_p := h1_p (by decide)
    clear h1_p
    have hz21 : w20.heap.size ≤ w21.heap.size := by have := hg21.size; first | exact this | (rw [World.size_alloc] at this; omega)
    have kS21 := kS20.grown hg21 (by simp; omega)
    have kZ21 := kZ20.grown hg21 (by simp; omega)
    have kO21 := kO20.grown hg21 (by simp; omega)
    have g21 := grown_trans g20 hg21
    clear kS20 kZ20 kO20 hg21 hr20 g20
    have ep : IntKind.i64.wrap (2 + p) = 2 + p := IntWalk.i64_in _ (by omega)
    obtain ⟨p0, p1, p2, p3, p4, p5⟩ := kO21.cells6
    have pf := kO21.frozen 4
    obtain ⟨hr21a, g21a⟩ := fld_set hB hr21 g21 (w2.heap.size) (by omega) 4 (.int .i64 (2 + p))
    have kS21a := kS21.set_other (R := w2.heap.size) 4 (.int .i64 (2 + p)) (by omega)
    have kZ21a := kZ21.set_other (R := w2.heap.size) 4 (.int .i64 (2 + p)) (by omega)
    have kO21a := kO21.set_ 4 (.int .i64 (2 + p))
    simp only [List.setIfInBounds_toArray, List.set_cons_zero, List.set_cons_succ] at kO21a
    have hz22 : w21.heap.size ≤ (w21.setCell ⟨w2.heap.size, 4, none⟩ (.int .i64 (2 + p))).heap.size := by rw [World.size_setCell]; exact Nat.le_refl _
    obtain ⟨w22, hW22⟩ : ∃ w22, w22 = w21.setCell ⟨w2.heap.size, 4, none⟩ (.int .i64 (2 + p)) := ⟨_, rfl⟩
    rw [← hW22] at hr21a g21a kS21a kZ21a kO21a hz22
    have kS22 := kS21a
    have kZ22 := kZ21a
    have kO22 := kO21a
    have hr22 := hr21a
    have g22 := g21a
    clear kS21a kZ21a kO21a hr21a g21a
    rw [hW22] at kS22 kZ22 kO22 hr22 g22
    obtain ⟨a0, a1, a2, a3, a4, a5⟩ := kO22.cells6
    obtain ⟨n0, n1, n2, n3, n4, n5⟩ := kZ22.cells6
    have f0 := kZ22.frozen 0
    have f1 := kZ22.frozen 1
    have f2 := kZ22.frozen 2
    have f3 := kZ22.frozen 3
    have f4 := kZ22.frozen 4
    have f5 := kZ22.frozen 5
    obtain ⟨hrE, gE, hbE⟩ := set_end6 hB hr22 g22 (w.heap.size + 1) (by omega) kZ22 (.int .i64 3) (.string nm) (.int .i64 0) (.int .i64 0) (.int .i64 (2 + p)) (.string ⟨#[]⟩)
    obtain ⟨j0, j1, j2, j3, j4, j5⟩ := hbE.cells6
    clear hbE kS22 kZ22 kO22
    go_wp2
    (try simp only [Exit.inBlock, Exit.then])
    exact bodyPost_ret (v := .agg #[.int .i64 3, .string nm, .int .i64 0, .int .i64 0, .int .i64 (2 + p), .string ⟨#[]⟩]) (by simp [results, Tryz.results33, go_sem, j0, j1, j2, j3, j4, j5]) rfl ⟨_, _, _, _, _, _, rfl, ⟨by omega, hz_nm, by omega, by omega, by omega, by first | omega | decide⟩, hrE.more (by omega), gE⟩
  · have kO20 := kO2; have hr20 := hr2b; have g20 := g2b; have kS20 := kS2b; have kZ20 := kZ2b
    clear kO2 hr2b g2b kS2b kZ2b hr2 g2 kS2 kZ2
    obtain ⟨w20, h20⟩ : ∃ w20, w20 = v0 := ⟨_, rfl⟩
    rw [← h20] at hv0 hzN kO20 hr20 g20 kS20 kZ20
    clear h20
    rw [hv0] at kO20 hr20 g20 kS20 kZ20
    obtain ⟨a0, a1, a2, a3, a4, a5⟩ := kO20.cells6
    obtain ⟨n0, n1, n2, n3, n4, n5⟩ := kZ20.cells6
    have f0 := kZ20.frozen 0
    have f1 := kZ20.frozen 1
    have f2 := kZ20.frozen 2
    have f3 := kZ20.frozen 3
    have f4 := kZ20.frozen 4
    have f5 := kZ20.frozen 5
    obtain ⟨hrE, gE, hbE⟩ := set_end6 hB hr20 g20 (w.heap.size + 1) (by omega) kZ20 (.int .i64 4) (.string nm) (.int .i64 0) (.int .i64 0) (.int .i64 0) (.string ⟨#[]⟩)
    obtain ⟨j0, j1, j2, j3, j4, j5⟩ := hbE.cells6
    clear hbE kS20 kZ20 kO20
    go_wp2
    (try simp only [Exit.inBlock, Exit.then])
    exact bodyPost_ret (v := .agg #[.int .i64 4, .string nm, .int .i64 0, .int .i64 0, .int .i64 0, .string ⟨#[]⟩]) (by simp [results, Tryz.results33, go_sem, j0, j1, j2, j3, j4, j5]) rfl ⟨_, _, _, _, _, _, rfl, ⟨by omega, hz_nm, by omega, by omega, by omega, by first | omega | decide⟩, hrE.more (by omega), gE⟩

end Go.Proofs.YtaiemogcboidhaaGreatDoor
