/- The contract of l2Step. No condition but that what is known is valid. -/
import Derived.Test.YtoiifopjipfjhaaAa
namespace Go.Proofs.Ytoiifopjipfjhaa
open Go.ChangeShapes Go.WideShapes Go.ChangeAt Go.RowKit Go.Joins
set_option linter.unusedVariables false

theorem c_l2Step (k : Kn) (A : Option Addr) (cap L : Nat) (w : World) (h : PsAt w L A cap k.ps) (hL : L ≤ w.heap.size) (hk : k.Ok) (code : Int) (hc : code = k.c ∨ k.Fol code) : Calls Try.prog 114 #[.agg #[.int .i64 k.o, .int .i64 k.l, .int .i64 k.m, .slice A k.ps.length cap, .int .i64 k.base, .int .i64 k.last], .int .i64 code] w fun e w' => ∃ A' cap', e = .returned (.agg #[.int .i64 k.o, .int .i64 k.l, .int .i64 k.m, .slice A' (k.step code).ps.length cap', .int .i64 k.base, .int .i64 (k.step code).last]) ∧ w'.ownsRow w.heap.size 41 2 (.slice A' (k.step code).ps.length cap') (k.step code).ps.length (prs (k.step code).ps) ∧ Below w.heap.size w w' := by
  obtain ⟨_, ⟨hl1, hl2⟩, hm1, hm2⟩ := setOk_iff.1 hk.set
  by_cases he : code = pow2 k.l
  · have hst : k.step code = k.cleared := by simp [Kn.step, Kn.c, he]
    rw [hst]
    subst he
    clear hst hc
    have kN0 := (Blk.new w 28 #[.int .i64 k.o, .int .i64 k.l, .int .i64 k.m, .slice A k.ps.length cap, .int .i64 k.base, .int .i64 k.last]).alloc (.cells #[.int .i64 0, .int .i64 0, .int .i64 0, .slice none 0 0, .int .i64 0, .int .i64 0] 28)
    have kR0 := Blk.top w (.cells #[.int .i64 k.o, .int .i64 k.l, .int .i64 k.m, .slice A k.ps.length cap, .int .i64 k.base, .int .i64 k.last] 28) 28 #[.int .i64 0, .int .i64 0, .int .i64 0, .slice none 0 0, .int .i64 0, .int .i64 0]
    have HC := hid (fun (v : World) => c_l1Clear k.o k.l k.m v (by omega) (by omega))
    have HD := hid (fun (v : World) (hb : Below w.heap.size w v) => c_l2Cleared k A cap w.heap.size v ((h.below hb hL).mono hL) hb.size hk)
    clear h hk
    go_enter Try.func114, Try.ntmps114
    obtain ⟨p0, p1, p2, p3, p4, p5⟩ := kN0.cells6
    go_wp2_with fail
    refine (HC.out _).mono ?_
    rintro e w1 ⟨rfl, hb1⟩
    have kN1 := kN0.on hb1
    have kR1 := kR0.on hb1
    have hB1 : Below w.heap.size w w1 := by (repeat (first | with_reducible assumption | with_reducible exact Below.refl _ _ | with_reducible refine bel_alloc ?_ _ | with_reducible refine bel_drew ?_ | with_reducible refine bel_drewN ?_ _ | with_reducible refine bel_set ?_ (by first | omega | (simp; done) | (simp; omega)) _ | with_reducible refine bel_trans ?_ (by with_reducible assumption) | exact Below.refl _ _ | assumption | refine bel_alloc ?_ _ | refine bel_drew ?_ | refine bel_drewN ?_ _ | refine bel_set ?_ (by first | omega | (simp; done) | (simp; omega)) _ | refine bel_trans ?_ (by assumption)))
    clear hb1 p0 p1 p2 p3 p4 p5 kN0 kR0
    obtain ⟨p0, p1, p2, p3, p4, p5⟩ := kN1.cells6
    go_wp2_with fail
    refine (HD.out _ hB1).mono ?_
    rintro e w2 ⟨A2, c2, rfl, hown2, hb2⟩
    have kR2 := kR1.on hb2
    have hR1 := kR1.lt
    have hB2 : Below w.heap.size w w2 := by (repeat (first | with_reducible assumption | with_reducible exact Below.refl _ _ | with_reducible refine bel_alloc ?_ _ | with_reducible refine bel_drew ?_ | with_reducible refine bel_drewN ?_ _ | with_reducible refine bel_set ?_ (by first | omega | (simp; done) | (simp; omega)) _ | with_reducible refine bel_trans ?_ (by with_reducible assumption) | exact Below.refl _ _ | assumption | refine bel_alloc ?_ _ | refine bel_drew ?_ | refine bel_drewN ?_ _ | refine bel_set ?_ (by first | omega | (simp; done) | (simp; omega)) _ | refine bel_trans ?_ (by assumption)))
    clear hb2 p0 p1 p2 p3 p4 p5 kN1 kR1
    obtain ⟨t0, t1, t2, t3, t4, t5⟩ := kR2.cells6
    obtain ⟨v0, v1, v2, v3, v4, v5⟩ := kR2.free6
    obtain ⟨j0, j1, j2, j3, j4, j5⟩ := (kR2.put6 (.int .i64 k.o) (.int .i64 k.l) (.int .i64 k.m) (.slice A2 k.cleared.ps.length c2) (.int .i64 k.base) (.int .i64 k.cleared.last)).cells6
    have HO := hid hown2
    clear hown2
    go_wp2
    refine bodyPost_ret (v := .agg #[.int .i64 k.o, .int .i64 k.l, .int .i64 k.m, .slice A2 k.cleared.ps.length c2, .int .i64 k.base, .int .i64 k.cleared.last]) (by simp [results, Try.results114, go_sem, j0, j1, j2, j3, j4, j5]) rfl ⟨A2, c2, rfl, ?_, by (repeat (first | with_reducible assumption | with_reducible exact Below.refl _ _ | with_reducible refine bel_alloc ?_ _ | with_reducible refine bel_drew ?_ | with_reducible refine bel_drewN ?_ _ | with_reducible refine bel_set ?_ (by first | omega | (simp; done) | (simp; omega)) _ | with_reducible refine bel_trans ?_ (by with_reducible assumption) | exact Below.refl _ _ | assumption | refine bel_alloc ?_ _ | refine bel_drew ?_ | refine bel_drewN ?_ _ | refine bel_set ?_ (by first | omega | (simp; done) | (simp; omega)) _ | refine bel_trans ?_ (by assumption)))⟩
    refine own_mono (B := w1.heap.size) ?_ (by omega)
    iterate 6 refine ownsRow_setCell_below ?_ (by simp; omega) _
    exact HO.out
  · have hst : k.step code = k.after code := by simp [Kn.step, Kn.c, he]
    rw [hst]
    have hf : k.Fol code := hc.resolve_left he
    have hla : (k.after code).last = code := rfl
    have hne : (code == pow2 k.l) = false := by rw [beq_eq_false_iff_ne]; exact he
    rw [hla]
    clear hst hc
    have kN0 := (Blk.new w 28 #[.int .i64 k.o, .int .i64 k.l, .int .i64 k.m, .slice A k.ps.length cap, .int .i64 k.base, .int .i64 k.last]).alloc (.cells #[.int .i64 0, .int .i64 0, .int .i64 0, .slice none 0 0, .int .i64 0, .int .i64 0] 28)
    have kR0 := Blk.top w (.cells #[.int .i64 k.o, .int .i64 k.l, .int .i64 k.m, .slice A k.ps.length cap, .int .i64 k.base, .int .i64 k.last] 28) 28 #[.int .i64 0, .int .i64 0, .int .i64 0, .slice none 0 0, .int .i64 0, .int .i64 0]
    have HC := hid (fun (v : World) => c_l1Clear k.o k.l k.m v (by omega) (by omega))
    have HD := hid (fun (v : World) (hb : Below w.heap.size w v) => c_l2After k A cap w.heap.size v ((h.below hb hL).mono hL) hb.size hk code hf)
    clear h hk
    go_enter Try.func114, Try.ntmps114
    obtain ⟨p0, p1, p2, p3, p4, p5⟩ := kN0.cells6
    go_wp2_with fail
    refine (HC.out _).mono ?_
    rintro e w1 ⟨rfl, hb1⟩
    have kN1 := kN0.on hb1
    have kR1 := kR0.on hb1
    have hB1 : Below w.heap.size w w1 := by (repeat (first | with_reducible assumption | with_reducible exact Below.refl _ _ | with_reducible refine bel_alloc ?_ _ | with_reducible refine bel_drew ?_ | with_reducible refine bel_drewN ?_ _ | with_reducible refine bel_set ?_ (by first | omega | (simp; done) | (simp; omega)) _ | with_reducible refine bel_trans ?_ (by with_reducible assumption) | exact Below.refl _ _ | assumption | refine bel_alloc ?_ _ | refine bel_drew ?_ | refine bel_drewN ?_ _ | refine bel_set ?_ (by first | omega | (simp; done) | (simp; omega)) _ | refine bel_trans ?_ (by assumption)))
    clear hb1 p0 p1 p2 p3 p4 p5 kN0 kR0
    obtain ⟨p0, p1, p2, p3, p4, p5⟩ := kN1.cells6
    go_wp2_with fail
    refine (HD.out _ hB1).mono ?_
    rintro e w2 ⟨A2, c2, rfl, hown2, hb2⟩
    have kR2 := kR1.on hb2
    have hR1 := kR1.lt
    have hB2 : Below w.heap.size w w2 := by (repeat (first | with_reducible assumption | with_reducible exact Below.refl _ _ | with_reducible refine bel_alloc ?_ _ | with_reducible refine bel_drew ?_ | with_reducible refine bel_drewN ?_ _ | with_reducible refine bel_set ?_ (by first | omega | (simp; done) | (simp; omega)) _ | with_reducible refine bel_trans ?_ (by with_reducible assumption) | exact Below.refl _ _ | assumption | refine bel_alloc ?_ _ | refine bel_drew ?_ | refine bel_drewN ?_ _ | refine bel_set ?_ (by first | omega | (simp; done) | (simp; omega)) _ | refine bel_trans ?_ (by assumption)))
    clear hb2 p0 p1 p2 p3 p4 p5 kN1 kR1
    obtain ⟨t0, t1, t2, t3, t4, t5⟩ := kR2.cells6
    obtain ⟨v0, v1, v2, v3, v4, v5⟩ := kR2.free6
    obtain ⟨j0, j1, j2, j3, j4, j5⟩ := (kR2.put6 (.int .i64 k.o) (.int .i64 k.l) (.int .i64 k.m) (.slice A2 (k.after code).ps.length c2) (.int .i64 k.base) (.int .i64 code)).cells6
    have HO := hid hown2
    clear hown2
    go_wp2
    refine bodyPost_ret (v := .agg #[.int .i64 k.o, .int .i64 k.l, .int .i64 k.m, .slice A2 (k.after code).ps.length c2, .int .i64 k.base, .int .i64 code]) (by simp [results, Try.results114, go_sem, j0, j1, j2, j3, j4, j5]) rfl ⟨A2, c2, rfl, ?_, by (repeat (first | with_reducible assumption | with_reducible exact Below.refl _ _ | with_reducible refine bel_alloc ?_ _ | with_reducible refine bel_drew ?_ | with_reducible refine bel_drewN ?_ _ | with_reducible refine bel_set ?_ (by first | omega | (simp; done) | (simp; omega)) _ | with_reducible refine bel_trans ?_ (by with_reducible assumption) | exact Below.refl _ _ | assumption | refine bel_alloc ?_ _ | refine bel_drew ?_ | refine bel_drewN ?_ _ | refine bel_set ?_ (by first | omega | (simp; done) | (simp; omega)) _ | refine bel_trans ?_ (by assumption)))⟩
    refine own_mono (B := w1.heap.size) ?_ (by omega)
    iterate 6 refine ownsRow_setCell_below ?_ (by simp; omega) _
    exact HO.out
end Go.Proofs.Ytoiifopjipfjhaa
