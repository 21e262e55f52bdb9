/- Contracts of the model's own drawing of arguments: what is known. -/
import Derived.Test.YtoiifopjipfjhaaDm
namespace Go.Proofs.Ytoiifopjipfjhaa
open Go.ChangeShapes Go.WideShapes Go.ChangeAt Go.RowKit Go.Joins
set_option linter.unusedVariables false

def OpenOut (w : World) (L B q : Nat) (e : Ending) (w' : World) : Prop := ∃ (k : Kn) (A : Option Addr) (cap : Nat), e = .returned (.agg #[.int .i64 k.o, .int .i64 k.l, .int .i64 k.m, .slice A k.ps.length cap, .int .i64 k.base, .int .i64 k.last]) ∧ k.Wf ∧ k.ps.length ≤ 1000 ∧ w'.ownsRow w.heap.size 41 2 (.slice A k.ps.length cap) k.ps.length (prs k.ps) ∧ Rd 141 w' L B (q + 260) ∧ w.grownBy w' (some B)
/-- what is known, drawn -/
def AKnown (w : World) (e : Ending) (w' : World) : Prop := ∃ (k : Kn) (A : Option Addr) (cap : Nat), e = .returned (.agg #[.int .i64 k.o, .int .i64 k.l, .int .i64 k.m, .slice A k.ps.length cap, .int .i64 k.base, .int .i64 k.last]) ∧ k.Wf ∧ k.ps.length ≤ 1000 ∧ w'.ownsRow w.heap.size 41 2 (.slice A k.ps.length cap) k.ps.length (prs k.ps) ∧ Below w.heap.size w w'
/-- the same and a number -/
def AKnownInt (w : World) (e : Ending) (w' : World) : Prop := ∃ (k : Kn) (A : Option Addr) (cap : Nat) (n : Int), e = .returned (.tuple #[.agg #[.int .i64 k.o, .int .i64 k.l, .int .i64 k.m, .slice A k.ps.length cap, .int .i64 k.base, .int .i64 k.last], .int .i64 n]) ∧ k.Wf ∧ k.ps.length ≤ 1000 ∧ (-9223372036854775808 ≤ n ∧ n ≤ 9223372036854775807) ∧ w'.ownsRow w.heap.size 41 2 (.slice A k.ps.length cap) k.ps.length (prs k.ps) ∧ Below w.heap.size w w'

set_option maxHeartbeats 2000000 in
set_option maxRecDepth 100000 in
theorem c_l2Open (L B q : Nat) (w : World) (hr : Rd 141 w L B q) (hq : q ≤ 1000000) :
    Calls Try.prog 115 #[.pointer (some ⟨B, 0, none⟩)] w (OpenOut w L B q) := by
  have hB := hr.lt
  have k0 := Blk.new w 28 #[.int .i64 0, .int .i64 0, .int .i64 0, .slice none 0 0, .int .i64 0, .int .i64 0]
  have g0 : w.grownBy (w.alloc (.cells #[.int .i64 0, .int .i64 0, .int .i64 0, .slice none 0 0, .int .i64 0, .int .i64 0] 28)) (some B) := grown_alloc (grown_refl w _) _
  go_enter Try.func115, Try.ntmps115
  go_wp2_with fail
  refine (c_l2Draw L B q _ (hr.alloc _) (by omega)).mono ?_
  rintro e w1 ⟨k, A, cap, rfl, hk, hl, ho1, hr1, hg1⟩
  have k1 := k0.grown hg1 (by simp; omega)
  have g1 := grown_trans g0 hg1
  have z1 : w.heap.size + 1 ≤ w1.heap.size := by have := hg1.size; simp at this; omega
  have ho : w1.ownsRow (w.heap.size + 1) 41 2 (.slice A k.ps.length cap) k.ps.length (prs k.ps) := own_mono ho1 (by simp)
  clear ho1 hr k0 g0 hg1
  go_wp2_with fail
  refine (c_l2Bad L B (q + 200) (w.heap.size + 1) k A cap _ hr1 (by omega) ho (by omega) z1 hk hl).mono ?_
  rintro e w2 ⟨k2, A2, cap2, rfl, hw2, hl2, ho2, hr2, hg2⟩
  have HRx := hid (k1.grown hg2 (by simp; omega))
  have g2 := grown_trans g1 hg2
  clear hr1 ho g1 k1 hg2 hk
  obtain ⟨r0, r1, r2, r3, r4, r5⟩ := HRx.out.cells6
  obtain ⟨f0, f1, f2, f3, f4, f5⟩ := HRx.out.free6
  obtain ⟨j0, j1, j2, j3, j4, j5⟩ := (HRx.out.put6 (.int .i64 k2.o) (.int .i64 k2.l) (.int .i64 k2.m) (.slice A2 k2.ps.length cap2) (.int .i64 k2.base) (.int .i64 k2.last)).cells6
  have HZ := hid (show OpenOut w L B q (.returned (.agg #[.int .i64 k2.o, .int .i64 k2.l, .int .i64 k2.m, .slice A2 k2.ps.length cap2, .int .i64 k2.base, .int .i64 k2.last])) _ from ⟨k2, A2, cap2, rfl, hw2, hl2, own_mono (own_put6 ho2 HRx.out tykn_tp (.int .i64 k2.o) (.int .i64 k2.l) (.int .i64 k2.m) (.slice A2 k2.ps.length cap2) (.int .i64 k2.base) (.int .i64 k2.last)) (by omega), (hr2.put6 (b := w.heap.size) (by omega) (.int .i64 k2.o) (.int .i64 k2.l) (.int .i64 k2.m) (.slice A2 k2.ps.length cap2) (.int .i64 k2.base) (.int .i64 k2.last)).more (by omega), grown_far6 (b := w.heap.size) g2 (Nat.le_refl _) (.int .i64 k2.o) (.int .i64 k2.l) (.int .i64 k2.m) (.slice A2 k2.ps.length cap2) (.int .i64 k2.base) (.int .i64 k2.last)⟩)
  clear ho2 hr2 g2
  go_wp2
  exact bodyPost_ret (v := .agg #[.int .i64 k2.o, .int .i64 k2.l, .int .i64 k2.m, .slice A2 k2.ps.length cap2, .int .i64 k2.base, .int .i64 k2.last]) (by simp [results, Try.results115, go_sem, j0, j1, j2, j3, j4, j5]) rfl HZ.out

set_option maxHeartbeats 2000000 in
set_option maxRecDepth 100000 in
theorem c_DrawWidth (A' : Option Addr) (n cap : Nat) (w : World) (hc : CodeAt w w.heap.size A' n cap) : Calls Try.prog 47 #[.slice A' n cap] w (AKnown w) := by
  have k0 := Blk.new w 28 #[.int .i64 0, .int .i64 0, .int .i64 0, .slice none 0 0, .int .i64 0, .int .i64 0]
  have HC := hid (hc.keep (fun k hk => Below.heap_alloc w (.cells #[.int .i64 0, .int .i64 0, .int .i64 0, .slice none 0 0, .int .i64 0, .int .i64 0] 28) k (by omega)))
  clear hc
  go_enter Try.func47, Try.ntmps47
  go_wp2_with fail
  refine (c_l9Open _ _ _ _ _ HC.out (by simp)).mono ?_
  rintro e w1 ⟨rfl, hr1, hb1, hz1⟩
  rw [alloc_size] at hr1 hz1
  have k1 := k0.on hb1
  have b1 : Below w.heap.size w w1 := bel_trans (bel_alloc (Below.refl w.heap.size w) _) hb1
  have z1 : w.heap.size + 1 ≤ w1.heap.size := by have := hb1.size; simp at this; omega
  clear HC k0 hb1
  go_wp2_with fail
  refine (c_l2Open _ _ 0 _ hr1 (by omega)).mono ?_
  rintro e w2 ⟨k2, A2, cap2, rfl, hw2, hl2, ho2, hr2, hg2⟩
  have HRx := hid (k1.grown hg2 (by simp))
  have b2 := bel_grown b1 hg2 (by simp)
  clear hr1 hr2 hg2 k1 b1
  obtain ⟨r0, r1, r2, r3, r4, r5⟩ := HRx.out.cells6
  obtain ⟨f0, f1, f2, f3, f4, f5⟩ := HRx.out.free6
  obtain ⟨j0, j1, j2, j3, j4, j5⟩ := (HRx.out.put6 (.int .i64 k2.o) (.int .i64 k2.l) (.int .i64 k2.m) (.slice A2 k2.ps.length cap2) (.int .i64 k2.base) (.int .i64 k2.last)).cells6
  have HZ := hid (show AKnown w (.returned (.agg #[.int .i64 k2.o, .int .i64 k2.l, .int .i64 k2.m, .slice A2 k2.ps.length cap2, .int .i64 k2.base, .int .i64 k2.last])) _ from ⟨k2, A2, cap2, rfl, hw2, hl2, own_mono (own_put6 ho2 HRx.out tykn_tp (.int .i64 k2.o) (.int .i64 k2.l) (.int .i64 k2.m) (.slice A2 k2.ps.length cap2) (.int .i64 k2.base) (.int .i64 k2.last)) (by omega), by (repeat (first | with_reducible (first | assumption | exact Below.refl _ _ | refine bel_alloc ?_ _ | refine bel_drew ?_ | refine bel_drewN ?_ _ | refine bel_set ?_ (by first | omega | (simp; done) | (simp; omega)) _ | refine bel_trans ?_ (by assumption)) | assumption | refine bel_trans ?_ (by assumption)))⟩)
  clear ho2 b2
  go_wp2
  exact bodyPost_ret (v := .agg #[.int .i64 k2.o, .int .i64 k2.l, .int .i64 k2.m, .slice A2 k2.ps.length cap2, .int .i64 k2.base, .int .i64 k2.last]) (by simp [results, Try.results47, go_sem, j0, j1, j2, j3, j4, j5]) rfl HZ.out

set_option maxHeartbeats 2000000 in
set_option maxRecDepth 100000 in
theorem c_DrawGreatest (A' : Option Addr) (n cap : Nat) (w : World) (hc : CodeAt w w.heap.size A' n cap) : Calls Try.prog 50 #[.slice A' n cap] w (AKnown w) := by
  have k0 := Blk.new w 28 #[.int .i64 0, .int .i64 0, .int .i64 0, .slice none 0 0, .int .i64 0, .int .i64 0]
  have HC := hid (hc.keep (fun k hk => Below.heap_alloc w (.cells #[.int .i64 0, .int .i64 0, .int .i64 0, .slice none 0 0, .int .i64 0, .int .i64 0] 28) k (by omega)))
  clear hc
  go_enter Try.func50, Try.ntmps50
  go_wp2_with fail
  refine (c_l9Open _ _ _ _ _ HC.out (by simp)).mono ?_
  rintro e w1 ⟨rfl, hr1, hb1, hz1⟩
  rw [alloc_size] at hr1 hz1
  have k1 := k0.on hb1
  have b1 : Below w.heap.size w w1 := bel_trans (bel_alloc (Below.refl w.heap.size w) _) hb1
  have z1 : w.heap.size + 1 ≤ w1.heap.size := by have := hb1.size; simp at this; omega
  clear HC k0 hb1
  go_wp2_with fail
  refine (c_l2Open _ _ 0 _ hr1 (by omega)).mono ?_
  rintro e w2 ⟨k2, A2, cap2, rfl, hw2, hl2, ho2, hr2, hg2⟩
  have HRx := hid (k1.grown hg2 (by simp))
  have b2 := bel_grown b1 hg2 (by simp)
  clear hr1 hr2 hg2 k1 b1
  obtain ⟨r0, r1, r2, r3, r4, r5⟩ := HRx.out.cells6
  obtain ⟨f0, f1, f2, f3, f4, f5⟩ := HRx.out.free6
  obtain ⟨j0, j1, j2, j3, j4, j5⟩ := (HRx.out.put6 (.int .i64 k2.o) (.int .i64 k2.l) (.int .i64 k2.m) (.slice A2 k2.ps.length cap2) (.int .i64 k2.base) (.int .i64 k2.last)).cells6
  have HZ := hid (show AKnown w (.returned (.agg #[.int .i64 k2.o, .int .i64 k2.l, .int .i64 k2.m, .slice A2 k2.ps.length cap2, .int .i64 k2.base, .int .i64 k2.last])) _ from ⟨k2, A2, cap2, rfl, hw2, hl2, own_mono (own_put6 ho2 HRx.out tykn_tp (.int .i64 k2.o) (.int .i64 k2.l) (.int .i64 k2.m) (.slice A2 k2.ps.length cap2) (.int .i64 k2.base) (.int .i64 k2.last)) (by omega), by (repeat (first | with_reducible (first | assumption | exact Below.refl _ _ | refine bel_alloc ?_ _ | refine bel_drew ?_ | refine bel_drewN ?_ _ | refine bel_set ?_ (by first | omega | (simp; done) | (simp; omega)) _ | refine bel_trans ?_ (by assumption)) | assumption | refine bel_trans ?_ (by assumption)))⟩)
  clear ho2 b2
  go_wp2
  exact bodyPost_ret (v := .agg #[.int .i64 k2.o, .int .i64 k2.l, .int .i64 k2.m, .slice A2 k2.ps.length cap2, .int .i64 k2.base, .int .i64 k2.last]) (by simp [results, Try.results50, go_sem, j0, j1, j2, j3, j4, j5]) rfl HZ.out
end Go.Proofs.Ytoiifopjipfjhaa
